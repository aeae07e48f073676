/- Part 43 of the texts. -/
import Derived.Test.YtlnphkioddknfaaGreatDoorParty42
set_option maxHeartbeats 32000000
set_option maxRecDepth 20000
namespace Go.Proofs.YtlnphkioddknfaaGreatDoor
open Go.RowKit
def Gz(T:Nat→Nat→Nat)(X:Nat→Nat)(dn:Nat→Nat→Bool)(i s:Nat):Nat→Nat
 |0=>s
 |k+1=>if dn i k=true then aV (Gz T X dn i s k) (fN (mV (T i k) (X k)))else Gz T X dn i s k
def JT(X:Nat→Nat)(i x:Nat):Nat→Nat:=fun k=>if k=i then x else X k
def zw(n:Nat)(T:Nat→Nat→Nat)(b:Nat→Nat)(o:Nat→Nat)(dn:Nat→Nat→Bool):Nat→Nat→Nat
 |0=>fun _=>0
 |m+1=>JT (zw n T b o dn m) (o m) (dV (Gz T (zw n T b o dn m) dn (o m) (b (o m)) n) (T (o m) (o m)))
def Jr(n:Nat)(T:Nat→Nat→Nat)(b:Nat→Nat)(o:Nat→Nat)(dn:Nat→Nat→Bool)(m:Nat):Nat:=dV (Gz T (zw n T b o dn m) dn (o m) (b (o m)) n) (T (o m) (o m))
theorem ru(T:Nat→Nat→Nat)(X:Nat→Nat)(d:Nat→Nat→Bool)(i s:Nat)(f:s<18446744073709551616):∀k,Gz T X d i s k<18446744073709551616
 |0=>f
 |k+1=>by
  show(if _ then _ else _)<_
  split
  ·exact kG _ _ (ru T X d i s f k) (jR _ (gp _ _))
  ·exact ru T X d i s f k
theorem wg(n:Nat)(T:Nat→Nat→Nat)(b o:Nat→Nat)(d:Nat→Nat→Bool):∀m i,zw n T b o d m i<18446744073709551616
 |0,_=>by show(0:Nat)<_;decide
 |m+1,i=>by
  show(if _ then _ else _)<_
  split
  ·exact nA _ _
  ·exact wg n T b o d m i
structure zA (n:Nat) (o:Nat→Nat):Prop where
 lt:∀m,m<n→o m<n
 inj:∀m t,m<n→t<n→o m=o t→m=t
 all:∀i,i<n→∃m,m<n∧o m=i
theorem tW(n:Nat):zA n (fun m=>n-1-m):=⟨fun m d=>by show n-1-m<n;omega,fun m t d f h=>by have y:n-1-m=n-1-t:=h;omega,fun i l=>⟨n-1-i,by omega,by show n-1-(n-1-i)=i;omega⟩⟩
theorem Dz{n:Nat}{T:Nat→Nat→Nat}{b o:Nat→Nat}{d:Nat→Nat→Bool}(h:zA n o){m:Nat}:∀t,m<t→t≤n→zw n T b o d t (o m)=Jr n T b o d m:=by
 intro t
 induction t with
 |zero=>intro g _;omega
 |succ t ih=>
  intro f l
  show(if o m=o t then _ else _)=_
  rcases Nat.lt_or_ge m t with g|g
  ·rw[if_neg (fun e=>by have:=h.inj m t (by omega) (by omega) e;omega)]
   exact ih g (by omega)
  ·have e:m=t:=by omega
   subst e
   rw[if_pos rfl]
   rfl
def ux(n q:Nat)(T B:Nat→Nat→Nat)(o:Nat→Nat)(dn:Nat→Nat→Bool):List Nat:=bW n q (fun i k=>zw n T (fun p=>B p k) o dn n i)
def zT(n q:Nat)(T B:Nat→Nat→Nat)(o:Nat→Nat)(dn:Nat→Nat→Bool)(c m:Nat):List Nat:=bW n q (fun i k=>if k<c then zw n T (fun p=>B p k) o dn n i else if k=c then zw n T (fun p=>B p k) o dn m i else 0)
theorem mL(n q:Nat)(T B:Nat→Nat→Nat)(o:Nat→Nat)(d:Nat→Nat→Bool):(ux n q T B o d).length=n*q:=bg _ _ _
theorem xx(n q:Nat)(T B:Nat→Nat→Nat)(o:Nat→Nat)(d:Nat→Nat→Bool)(c m:Nat):(zT n q T B o d c m).length=n*q:=bg _ _ _
theorem qg(n q:Nat)(T B:Nat→Nat→Nat)(o:Nat→Nat)(d:Nat→Nat→Bool):bW n q (fun _ _=>0)=zT n q T B o d 0 0:=aX (fun i k _ _=>by
 rw[if_neg (by omega)]
 by_cases h:k=0
 ·rw[if_pos h];rfl
 ·rw[if_neg h])
theorem xy(n q:Nat)(T B:Nat→Nat→Nat)(o:Nat→Nat)(d:Nat→Nat→Bool)(c:Nat):zT n q T B o d c n=zT n q T B o d (c+1) 0:=aX (fun i k _ _=>by
 by_cases h:k<c
 ·rw[if_pos h,if_pos (by omega)]
 ·by_cases f:k=c
  ·rw[if_neg h,if_pos f,if_pos (by omega)]
  ·rw[if_neg h,if_neg f,if_neg (by omega)]
   by_cases l:k=c+1
   ·rw[if_pos l];rfl
   ·rw[if_neg l])
theorem xz(n q:Nat)(T B:Nat→Nat→Nat)(o:Nat→Nat)(d:Nat→Nat→Bool):zT n q T B o d q 0=ux n q T B o d:=aX (fun i k _ f=>by rw[if_pos f])
theorem DA{n q:Nat}(T B:Nat→Nat→Nat)(o:Nat→Nat)(d:Nat→Nat→Bool){c m k:Nat}(f:k<n)(h:c<q):bB q (zT n q T B o d c m) k c=zw n T (fun p=>B p c) o d m k:=by
 unfold zT
 rw[Cs n q _ f h,if_neg (Nat.lt_irrefl c),if_pos rfl]
theorem xA{n q:Nat}(T B:Nat→Nat→Nat){o:Nat→Nat}(t:Nat→Nat→Bool)(h:zA n o){c m:Nat}(y:m<n)(z:c<q):(zT n q T B o t c m).set (o m*q+c) (Jr n T (fun p=>B p c) o t m)=zT n q T B o t c (m+1):=by
 unfold zT
 rw[iR n q _ _ (h.lt m y) z]
 refine aX (fun i k _ _=>?_)
 by_cases d:k=c
 ·subst d
  rw[if_neg (Nat.lt_irrefl k),if_pos rfl,if_neg (Nat.lt_irrefl k),if_pos rfl]
  show _=if i=o m then _ else _
  by_cases f:i=o m
  ·rw[if_pos ⟨f,rfl⟩,if_pos f];rfl
  ·rw[if_neg (fun e=>f e.1),if_neg f]
 ·rw[if_neg (fun e=>d e.2)]
  by_cases l:k<c
  ·rw[if_pos l,if_pos l]
  ·rw[if_neg l,if_neg d,if_neg l,if_neg d]
theorem Gc{n q:Nat}{T B:Nat→Nat→Nat}{o:Nat→Nat}{f:Nat→Nat→Bool}(h:zA n o):bG (ux n q T B o f)=true↔∀c m,c<q→m<n→aC (Jr n T (fun p=>B p c) o f m)=true:=by
 rw[kZ,mL]
 constructor
 ·intro g c m y d
  have:=g (o m*q+c) (cV (h.lt m d) y)
  unfold ux at this
  rw[mG _ _ _ (h.lt m d) y,Dz h n d (Nat.le_refl n)]at this
  exact this
 ·intro g p A
  obtain⟨l,t,z⟩:=iy A
  obtain⟨m,d,e⟩:=h.all _ l
  unfold ux
  rw[←z,mG _ _ _ l t,←e,Dz h n d (Nat.le_refl n)]
  exact g _ m t d
def DR(i k:Nat):Bool:=decide (i<k)
theorem tX(T:Nat→Nat→Nat)(X:Nat→Nat)(d:Nat→Nat→Bool)(i s:Nat):∀k,(∀p,p<k→d i p=false)→Gz T X d i s k=s
 |0,_=>rfl
 |k+1,h=>by
  show(if _ then _ else _)=_
  rw[h k (Nat.lt_succ_self k),if_neg (by decide)]
  exact tX T X d i s k (fun p f=>h p (by omega))
def rx(n q:Nat)(R B:List Nat):List Nat:=ux n q (bB n R) (bB q B) (fun m=>n-1-m) DR
def gc(r c:Nat)(S:List Nat):List Nat:=(List.range (min r c)).map (fun i=>bB c S i i)
theorem mM(r c:Nat)(S:List Nat):(gc r c S).length=min r c:=by unfold gc;rw[List.length_map,List.length_range]
def zB(xs:List Nat):Bool:=xs.any (fun x=>decide (fK x=0))
def Js(a b:Nat):Bool:=decide (cO a b<0)
def DB(r c:Nat)(S:List Nat):Bool:=(gc r c S).any (fun x=>!Js (xV (jl 0 (gc r c S)) (-40)) (fR x))
attribute [local go_sem ↓] Go.wp_at_zero Go.wp_at_succ
theorem zC(fn:Nat)(I:Array Value)(r c:Nat)(f:Nat→Nat→Nat)(w:World)
  (a3:∀K w,(callFunc fn K).run Tryz.prog w=.ok (.enter fn K) w) (hr:r≤6) (hc:c≤6) (hf:∀i k,i<r→k<c→f i k<18446744073709551616)
  (l:∀A i k,Below w.heap.size w A→i<r→k<c→Calls Tryz.prog fn (#[.int .i64 (i:Nat),.int .i64 (k:Nat)]++I) A fun e aj=>e=.returned (.int .u64 (f i k:Nat))∧Below A.heap.size A aj):
  Calls Tryz.prog 178 #[.int .i64 r,.int .i64 c,.func (.func fn) #[] I] w fun e A=>∃ao cap,e=.returned (.agg #[.int .i64 r,.int .i64 c,.slice ao (r*c) cap])∧bD w.heap.size A (.slice ao (r*c) cap) (bW r c f)∧Below w.heap.size w A:=by
 obtain⟨i0,ax,aI,a0,a1⟩:=info_parts jp
 have HS:=aa l;have HF:=aa hf
 have hm:(r:Int)*(c:Int)=((r*c:Nat):Int):=bd r c
 have a4:r*c≤36:=Nat.mul_le_mul hr hc
 have X0:=aa (aq.new w (.int .i64 0) (.int .i64 0) (.slice none 0 0))
 have B0:=aa (ab w (.cells #[.int .i64 0,.int .i64 0,.slice none 0 0] 24))
 obtain⟨w1,a2,N,V⟩:=run_make_own (P:=Tryz.prog) (w.alloc (.cells #[.int .i64 0,.int .i64 0,.slice none 0 0] 24)) (w.heap.size+1) 22 37 i0 (.int .u64 0) 1 Tryz.underlying22 ax aI a0 .i64 .i64 (r*c) (by rw[a1];omega) (by unfold maxLen;omega) (by simp)
 have B1:=aa ((uH B0).grown V (by simp) (fun g hg=>by cases hg))
 have X1:aq w1 w.heap.size (.int .i64 0) (.int .i64 0) (.slice none 0 0):=(uH X0).grown V (by simp)
 have O1:=aa (show bD (w.heap.size+1) w1 (.slice (some ⟨w.heap.size+1,0,none⟩) 0 (r*c)) (gY (fun p=>f (p/c) (p%c)) (0*c))from⟨by rw[Nat.zero_mul];simpa[gY]using N,by rw[Nat.zero_mul];intro x hx;cases hx⟩)
 have X:=aa X1
 clear N V X0 B0 X1
 obtain⟨F,hF⟩:∃F:Nat→Nat,F=fun p=>f (p/c) (p%c):=⟨_,rfl⟩
 rw[←hF]at O1
 have FV:=aa (show∀j k,k<c→F (j*c+k)=f j k from fun j k hk=>by rw[hF];show f ((j*c+k)/c) ((j*c+k)%c)=_;rw[ir hk,iw hk])
 have FM:=aa (show bW r c f=gY F (r*c)from by rw[hF];rfl)
 rw[uH FM]
 generalize ae:r*c=n at*
 have Y:=aa ae
 clear ae l hf hF
 go_enter Tryz.func178,Tryz.ntmps178
 go_wp2_with fail
 clear a2
 go_loopw[7,15] (fun v i wr=>∃j:Nat,j≤r∧i=.int .i64 j∧Hid (bD (w.heap.size+1) wr v (gY F (j*c)))∧Hid (aq wr w.heap.size (.int .i64 0) (.int .i64 0) (.slice none 0 0))∧Hid (Below w.heap.size w wr)) (fun _ i _=>r-(intOf i).toNat)
 case atStart=>exact⟨0,Nat.zero_le _,rfl,O1,X,B1⟩
 case round=>
  clear O1 X B1
  obtain⟨j,hj,rfl,t,d,z⟩:=hrel
  by_cases U:j<r
  ·have a5:(j:Int)<(r:Int):=by omega
   have D:=aa (show bD (w.heap.size+1) wr _ (gY F (j*c+0))from uH t)
   clear t
   go_wp2_with fail
   go_loopw[7,19] (fun v i wr=>∃k:Nat,k≤c∧i=.int .i64 k∧Hid (bD (w.heap.size+1) wr v (gY F (j*c+k)))∧Hid (aq wr w.heap.size (.int .i64 0) (.int .i64 0) (.slice none 0 0))∧Hid (Below w.heap.size w wr)) (fun _ i _=>c-(intOf i).toNat)
   case atStart=>exact⟨0,Nat.zero_le _,rfl,D,d,z⟩
   case round=>
    clear D d z
    obtain⟨k,hk,rfl,t,d,z⟩:=hrel
    by_cases G:k<c
    ·have a6:(k:Int)<(c:Int):=by omega
     have C:=aa (fun A h=>uH HS A j k h U G)
     have ho:=aa (uH HF j k U G)
     have eo:=aa (uH FV j k G)
     have L:=aa (show(gY F (j*c+k)).length≤1000000 from by
      rw[dw]
      have:=cV U G
      rw[uH Y]at this
      omega)
     generalize f j k=o at*
     go_wp2_with fail
     refine(uH C _ z.out).mono ?_
     rintro e w2 ⟨rfl,H⟩
     have M:=(uH t).below H
     have m:=(uH d).all H
     have B2:=z.out.trans (H.mono z.out.size)
     obtain⟨v3,w3,O,Q,y,_,_⟩:=M.push o (uH ho) (uH L) (by have:=m.lt;omega) 22
     have Z:=aa O
     have O3:=aa (show bD (w.heap.size+1) w3 v3 (gY F (j*c+(k+1)))from by
      rw[←Nat.add_assoc,iq,uH eo];exact Q)
     have X3:=aa (m.below y (by omega))
     have B3:=aa (B2.trans (y.mono (by omega)))
     clear H C t d z M m B2 O Q y ho eo L
     go_wp2_with(at_builtin;refine aT _ rfl _ _ 22 rfl _ _ _ _ rfl rfl (uH Z) ?_;clear Z)
     go_round
     case rel=>exact⟨k+1,by omega,by go_num,O3,X3,B3⟩
     case measure=>simp[intOf];omega
    ·have ak:k=c:=by omega
     subst ak
     have D:=aa (show bD (w.heap.size+1) _ _ (gY F ((j+1)*k))from by rw[Nat.add_mul,Nat.one_mul];exact uH t)
     clear t
     go_wp2_with fail
     go_round
     case rel=>exact⟨j+1,by omega,by go_num,D,d,z⟩
     case measure=>simp[intOf];omega
  ·have am:j=r:=by omega
   subst am
   rw[uH Y]at t
   obtain⟨b1,d1,e1,q1⟩:=(uH t).bits
   have QO:=aa (((uH t).putM (uH d) (Nat.lt_succ_self _) (.int .i64 j) (.int .i64 c) u7).least (Nat.le_succ _))
   rw[dw]at e1
   rw[e1]at QO
   subst e1
   have s0:=(uH d).c0;have s1:=(uH d).c1;have s2:=(uH d).c2
   have f0:=(uH d).free 0;have f1:=(uH d).free 1;have f2:=(uH d).free 2
   have XP:=(uH d).put (.int .i64 j) (.int .i64 c) (.slice b1 n d1)
   have z0:=XP.c0;have z1:=XP.c1;have z2:=XP.c2
   have BP:=aa (ai (uH z) (Nat.le_refl _) (.int .i64 j) (.int .i64 c) (.slice b1 n d1))
   clear q1 t d z XP
   go_wp2
   exact bodyPost_ret (v:=.agg #[.int .i64 j,.int .i64 c,.slice b1 n d1]) (by simp[results,Tryz.results178,go_sem,z0,z1,z2]) rfl ⟨b1,d1,rfl,uH QO,uH BP⟩
theorem wh(r c:Nat)(w:World)(H:r≤6)(I:c≤6):
  Calls Tryz.prog 163 #[.int .i64 r,.int .i64 c] w fun e h=>∃ao cap,e=.returned (.tuple #[.agg #[.int .i64 r,.int .i64 c,.slice ao (r*c) cap],.int .i64 0])∧bD w.heap.size h (.slice ao (r*c) cap) (bW r c (fun _ _=>0))∧Below w.heap.size w h:=by
 have K:=aa (fun h=>gN r c h)
 rw[show zR (r:Int) (c:Int)=true from decide_eq_true (by omega)]at K
 have z:=ad w (.cells #[.int .i64 0,.int .i64 0,.slice none 0 0] 24)
 have A:=aa ((zC 199 #[] r c (fun _ _=>0) (w.alloc (.cells #[.int .i64 0,.int .i64 0,.slice none 0 0] 24)) CH H I (fun _ _ _ _=>by decide) (fun h i k _ _ _=>vF i k h)).mono (R':=fun e d=>∃ao cap,e=.returned (.agg #[.int .i64 r,.int .i64 c,.slice ao (r*c) cap])∧bD (w.heap.size+1) d (.slice ao (r*c) cap) (bW r c (fun _ _=>0))∧Below w.heap.size w d∧aq d w.heap.size (.int .i64 0) (.int .i64 0) (.slice none 0 0)) (by
  rintro e d ⟨ao,cap,rfl,D,F⟩
  have b:=ab w (.cells #[.int .i64 0,.int .i64 0,.slice none 0 0] 24)
  rw[z]at D
  exact⟨ao,cap,rfl,D,b.trans (F.mono b.size),(aq.new w (.int .i64 0) (.int .i64 0) (.slice none 0 0)).all F⟩))
 generalize r*c=n at*
 clear z
 go_enter Tryz.func163,Tryz.ntmps163
 go_wp2_with fail
 refine(uH K _).mono ?_
 rintro e Y ⟨rfl,rfl⟩
 clear K
 go_wp2_with fail
 refine Calls.mono (uH A) ?_
 clear A
 rintro e Z ⟨t,y,rfl,G,l,f⟩
 have N:=f.free 0;have O:=f.free 1;have U:=f.free 2
 have m:=f.put (.int .i64 r) (.int .i64 c) (.slice t n y)
 have L:=m.c0;have z1:=m.c1;have z2:=m.c2
 have z:=f.c0;have V:=f.c1;have X:=f.c2
 have Q:=aa ((G.putM f (Nat.lt_succ_self _) (.int .i64 r) (.int .i64 c) (.slice t n y)).least (Nat.le_succ _))
 have M:=aa (ai l (b:=w.heap.size) (by omega) (.int .i64 r) (.int .i64 c) (.slice t n y))
 clear m G l f
 go_wp2
 exact bodyPost_ret (v:=.tuple #[.agg #[.int .i64 r,.int .i64 c,.slice t n y],.int .i64 0]) (by simp[results,Tryz.results163,go_sem,L,z1,z2]) rfl ⟨_,_,rfl,uH Q,uH M⟩
theorem II(d:Array Value)(w:World):(callFunc 46 d).run Tryz.prog w=.ok (.enter 46 d) w:=by
 simp only[callFunc,go_sem]
 rfl
theorem Jt(d:Array Value)(w:World):(callFunc 47 d).run Tryz.prog w=.ok (.enter 47 d) w:=by
 simp only[callFunc,go_sem]
 rfl
theorem ry(n m:Nat)(w:World)(h:n≤6)(l:m<n):
  Calls Tryz.prog 46 #[.int .i64 n,.int .i64 m] w fun e d=>e=.returned (.int .i64 ((n-1-m:Nat):Int))∧Below w.heap.size w d:=by
 obtain⟨p,f⟩:∃p,n-1-m=p:=⟨_,rfl⟩
 have t:IntKind.i64.wrap ((n:Int)-1)=(n:Int)-1:=aP _ (by omega)
 have y:IntKind.i64.wrap ((n:Int)-1-(m:Int))=(p:Int):=(aP _ (by omega)).trans (by omega)
 rw[f]
 go_enter Tryz.func46,Tryz.ntmps46
 go_wp2
 go_ret
 exact⟨rfl,Below.refl _ _⟩
theorem Gd(i k:Nat)(w:World):
  Calls Tryz.prog 47 #[.int .i64 i,.int .i64 k] w fun e d=>e=.returned (.bool (DR i k))∧Below w.heap.size w d:=by
 go_enter Tryz.func47,Tryz.ntmps47
 go_wp2
 go_ret
 exact⟨rfl,Below.refl _ _⟩
theorem zD{d:Nat}{w:World}{v:Value}{S:List Nat}(h:bD d w v S){b:Nat}{x y z:Value}(f:aq w b x y z):v.ownBlock≠some b:=by
 rcases h.1.2 with⟨e,_⟩|⟨g,cap,m,t,D,A,_⟩
 ·rw[e];intro q;cases q
 ·rw[t]
  intro q
  have e:g=b:=by
   have l:some g=some b:=q
   simpa using l
  subst e
  unfold aq at f
  rw[A]at f
  simp at f
theorem tY(i c k n:Nat)(d:i<n)(f:n≤6)(h:c≤6)(l:k<c):∃q p:Nat,i*c=q∧q+k=p∧p<n*c∧IntKind.i64.wrap ((i:Int)*(c:Int))=(q:Int)∧IntKind.i64.wrap ((q:Int)+(k:Int))=(p:Int)∧(i:Int)*(c:Int)=(q:Int)∧(q:Int)+(k:Int)=(p:Int)∧IntKind.i64.wrap (q:Int)=(q:Int)∧IntKind.i64.wrap (p:Int)=(p:Int):=by
 have m:=cV d l
 have t:n*c≤36:=Nat.mul_le_mul f h
 refine⟨i*c,i*c+k,rfl,rfl,m,?_,?_,bd i c,by omega,aP _ (by omega),aP _ (by omega)⟩
 ·rw[bd i c];exact aP _ (by omega)
 ·exact(aP _ (by omega)).trans (by omega)
structure mu (w wr:World) (h n q tn tc bn bc L xc:Nat) (tq bo xo:Option Addr) (X:List Nat):Prop where
 bel:Below w.heap.size w wr
 hh:w.heap.size+3≤h
 t:aq wr w.heap.size (.int .i64 n) (.int .i64 n) (.slice tq tn tc)
 b:aq wr (w.heap.size+1) (.int .i64 n) (.int .i64 q) (.slice bo bn bc)
 res:aq wr (w.heap.size+1+1) (.int .i64 0) (.int .i64 0) (.slice none 0 0)
 x:aq wr h (.int .i64 n) (.int .i64 q) (.slice xo L xc)
 own:bD (w.heap.size+1+1+1) wr (.slice xo L xc) X
 len:X.length=L
theorem mu.all{w wr f:World}{h n q l m y z L A:Nat}{D F G:Option Addr}{X:List Nat}(s:mu w wr h n q l m y z L A D F G X)(d:Below wr.heap.size wr f):mu w f h n q l m y z L A D F G X:=
 ⟨s.bel.trans (d.mono s.bel.size),s.hh,s.t.all d,s.b.all d,s.res.all d,s.x.all d,s.own.below d,s.len⟩
theorem mu.at{w wr:World}{h n q l m y z L A:Nat}{D F d:Option Addr}{X:List Nat}(s:mu w wr h n q l m y z L A D F d X){p:Nat}(G:p<L):
  ∃g,d=some ⟨g,0,none⟩∧wr.cell? ⟨g,p,none⟩=some (.int .u64 (X.getD p 0:Nat))∧wr.frozen? ⟨g,p,none⟩=false∧
   ∀x,x<18446744073709551616→mu w (wr.setCell ⟨g,p,none⟩ (.int .u64 (x:Nat))) h n q l m y z L A D F d (X.set p x):=by
 obtain⟨g,e,U,K,M,N,O⟩:=s.own.at (j:=p) (by rw[s.len];exact G)
 refine⟨g,e,M,N,fun x H=>?_⟩
 have f:g≠h:=by
  have:=zD s.own s.x
  rw[e]at this
  intro Q
  exact this (by rw[Q];rfl)
 have I:=s.hh
 refine⟨s.bel.setCell (p:=⟨g,p,none⟩) (by show w.heap.size≤g;omega) _,I,s.t.other (p:=⟨g,p,none⟩) (by show w.heap.size≠g;omega) _,s.b.other (p:=⟨g,p,none⟩) (by show w.heap.size+1≠g;omega) _,s.res.other (p:=⟨g,p,none⟩) (by show w.heap.size+1+1≠g;omega) _,s.x.other (p:=⟨g,p,none⟩) (by exact fun e=>f e.symm) _,O x H,by rw[List.length_set];exact s.len⟩
theorem bp(w:World)(x y z d f l m t z2:Value)(A:World)(h:Below (w.heap.size+1+1+1) (((w.alloc (.cells #[x,y,z] 24)).alloc (.cells #[d,f,l] 24)).alloc (.cells #[m,t,z2] 24)) A):
  Below w.heap.size w A∧aq A w.heap.size x y z∧aq A (w.heap.size+1) d f l∧aq A (w.heap.size+1+1) m t z2:=by
 have M:=ab w (.cells #[x,y,z] 24)
 have X:=ad w (.cells #[x,y,z] 24)
 have Y:=aq.new w x y z
 generalize w.alloc (.cells #[x,y,z] 24)=G at*
 have N:=ab G (.cells #[d,f,l] 24)
 have O:=ad G (.cells #[d,f,l] 24)
 have Z:=aq.new G d f l
 have I:=Y.all N
 generalize G.alloc (.cells #[d,f,l] 24)=H at*
 have K:=ab H (.cells #[m,t,z2] 24)
 have Q:=ad H (.cells #[m,t,z2] 24)
 have D:=aq.new H m t z2
 have F:=Z.all K
 have L:=I.all K
 generalize H.alloc (.cells #[m,t,z2] 24)=wc at*
 rw[X]at O F
 rw[O]at Q D
 rw[←Q]at h
 have U:=M.trans (N.mono M.size)
 have V:=U.trans (K.mono U.size)
 exact⟨V.trans (h.mono V.size),L.all h,F.all h,D.all h⟩
theorem mu.out{w wr:World}{h n q m t y z L f:Nat}{A D d:Option Addr}{X:List Nat}(s:mu w wr h n q m t y z L f A D d X):
  bH w.heap.size d (ar X)∧ac (((wr.setCell ⟨w.heap.size+1+1,0,none⟩ (.int .i64 n)).setCell ⟨w.heap.size+1+1,1,none⟩ (.int .i64 q)).setCell ⟨w.heap.size+1+1,2,none⟩ (.slice d L f)) d f (ar X)∧Below w.heap.size w (((wr.setCell ⟨w.heap.size+1+1,0,none⟩ (.int .i64 n)).setCell ⟨w.heap.size+1+1,1,none⟩ (.int .i64 q)).setCell ⟨w.heap.size+1+1,2,none⟩ (.slice d L f)):=by
 obtain⟨ao,cap,e,G⟩:=s.own.bits
 simp only[Value.slice.injEq]at e
 obtain⟨rfl,_,rfl⟩:=e
 have l:ac wr d f (ar X):=G
 have F:=s.own.newB
 exact⟨F.least (by omega),l.putM s.res _ _ _,ai s.bel (by omega) _ _ _⟩
theorem wi(n q tc bc U bn L fo fd:Nat)(tq bo:Option Addr)(T B:List Nat)(o:Nat→Nat)(D:Nat→Nat→Bool)(w:World)(hT:Mx w tq tc n n T)(hB:Mx w bo bc n q B)(b0:T.length=U)(b1:B.length=bn)(hL:n*q=L)(hO:zA n o)
  (dm:∀F w,(callFunc fo F).run Tryz.prog w=.ok (.enter fo F) w) (ds:∀F w,(callFunc fd F).run Tryz.prog w=.ok (.enter fd F) w)
  (CO:∀d m,m<n→Calls Tryz.prog fo #[.int .i64 n,.int .i64 (m:Nat)] d fun e bj=>e=.returned (.int .i64 (o m:Nat))∧Below d.heap.size d bj)
  (CD:∀d i k,i<n→k<n→Calls Tryz.prog fd #[.int .i64 (i:Nat),.int .i64 (k:Nat)] d fun e bj=>e=.returned (.bool (D i k))∧Below d.heap.size d bj) (be:b7 w):
  Calls Tryz.prog 108 #[.agg #[.int .i64 n,.int .i64 n,.slice tq U tc],.agg #[.int .i64 n,.int .i64 q,.slice bo bn bc],.func (.func fo) #[.int .i64 n] #[],.func (.func fd) #[] #[]] w fun e d=>
   ∃S Z G,e=.returned (.tuple #[.agg #[.int .i64 n,.int .i64 q,.slice Z L G],.bool (bG (ux n q (bB n T) (bB q B) o D))])∧(bG (ux n q (bB n T) (bB q B) o D)=true→S=ux n q (bB n T) (bB q B) o D)∧S.length=L∧bH w.heap.size Z (ar S)∧ac d Z G (ar S)∧Below w.heap.size w d:=by
 have n6:=hT.2.2.1
 have q6:=hB.2.2.2
 have KB:=aa (bp w (.int .i64 n) (.int .i64 n) (.slice tq U tc) (.int .i64 n) (.int .i64 q) (.slice bo bn bc) (.int .i64 0) (.int .i64 0) (.slice none 0 0))
 have K0:=aa (wh n q (((w.alloc (.cells #[.int .i64 n,.int .i64 n,.slice tq U tc] 24)).alloc (.cells #[.int .i64 n,.int .i64 q,.slice bo bn bc] 24)).alloc (.cells #[.int .i64 0,.int .i64 0,.slice none 0 0] 24)) n6 q6)
 simp only[ad]at K0
 rw[hL]at K0
 obtain⟨_,c6,bA,_⟩:=uH KB _ (by have:=Below.refl (((w.alloc (.cells #[.int .i64 n,.int .i64 n,.slice tq U tc] 24)).alloc (.cells #[.int .i64 n,.int .i64 q,.slice bo bn bc] 24)).alloc (.cells #[.int .i64 0,.int .i64 0,.slice none 0 0] 24)).heap.size (((w.alloc (.cells #[.int .i64 n,.int .i64 n,.slice tq U tc] 24)).alloc (.cells #[.int .i64 n,.int .i64 q,.slice bo bn bc] 24)).alloc (.cells #[.int .i64 0,.int .i64 0,.slice none 0 0] 24));simpa only[ad]using this)
 have y0:=bA.c0;have Y:=bA.c1
 have HT:=aa hT;have ck:=aa hB;have HL:=aa hL;have HO:=aa hO;have KO:=aa CO;have KD:=aa CD;have bi:=aa be;have LT:=aa b0;have LB:=aa b1
 obtain⟨A,O⟩:∃A:Nat→Nat→List Nat,zT n q (bB n T) (bB q B) o D=A:=⟨_,rfl⟩
 obtain⟨NN,ax⟩:∃NN:Nat→Nat→Nat,(fun c m=>Jr n (bB n T) (fun p=>bB q B p c) o D m)=NN:=⟨_,rfl⟩
 obtain⟨XX,a9⟩:∃XX:Nat→Nat→Nat→Nat,(fun c m k=>zw n (bB n T) (fun p=>bB q B p c) o D m k)=XX:=⟨_,rfl⟩
 obtain⟨X,ak⟩:∃X:Nat→Nat→Nat→Nat,(fun c m k=>Gz (bB n T) (zw n (bB n T) (fun p=>bB q B p c) o D m) D (o m) (bB q B (o m) c) k)=X:=⟨_,rfl⟩
 obtain⟨ae,aI⟩:∃ae,bG (ux n q (bB n T) (bB q B) o D)=ae:=⟨_,rfl⟩
 have FF:Hid (ae=true↔∀c m,c<q→m<n→aC (NN c m)=true):=aa (by rw[←aI,←ax];exact Gc hO)
 have EM:=aa (show A q 0=ux n q (bB n T) (bB q B) o D from by rw[←O];exact xz _ _ _ _ _ _)
 have E0:=aa (show bW n q (fun _ _=>0)=A 0 0 from by rw[←O];exact qg _ _ _ _ _ _)
 have EC:=aa (show∀c,A c n=A (c+1) 0 from fun c=>by rw[←O];exact xy _ _ _ _ _ _ c)
 have ES:=aa (show∀c m,m<n→c<q→(A c m).set (o m*q+c) (NN c m)=A c (m+1)from fun c m hm hc=>by rw[←O,←ax];exact xA _ _ _ hO hm hc)
 have EL:=aa (show∀c m,(A c m).length=L from fun c m=>by rw[←O,xx,hL])
 have EA:=aa (show∀c m k,k<n→c<q→(A c m).getD (k*q+c) 0=XX c m k from fun c m k hk hc=>by rw[←O,←a9];exact DA _ _ _ _ hk hc)
 have S0:=aa (show∀c m,X c m 0=bB q B (o m) c from fun c m=>by rw[←ak];rfl)
 have SY:=aa (show∀c m k,D (o m) k=true→X c m (k+1)=aV (X c m k) (fN (mV (bB n T (o m) k) (XX c m k)))from fun c m k V=>by rw[←ak,←a9];exact if_pos V)
 have SN:=aa (show∀c m k,D (o m) k=false→X c m (k+1)=X c m k from fun c m k V=>by rw[←ak];exact if_neg (by rw[V];decide))
 have SE:=aa (show∀c m,NN c m=dV (X c m n) (bB n T (o m) (o m))from fun c m=>by rw[←ak,←ax];rfl)
 have SL:=aa (show∀c m k,X c m k<18446744073709551616 from fun c m k=>by rw[←ak];exact ru _ _ _ _ _ (hB.el_lt _ _) k)
 have XL:=aa (show∀c m k,XX c m k<18446744073709551616 from fun c m k=>by rw[←a9];exact wg _ _ _ _ _ m k)
 have NL:=aa (show∀c m,NN c m<18446744073709551616 from fun c m=>by rw[←ax];exact nA _ _)
 have TL:=aa (show∀i k,bB n T i k<18446744073709551616 from fun i k=>hT.el_lt i k)
 rw[aI]
 generalize dk:ux n q (bB n T) (bB q B) o D=dd at*
 clear hT hB b0 b1 hL hO CO CD be O aI ax a9 ak c6 bA
 go_enter Tryz.func108,Tryz.ntmps108
 go_wp2_with fail
 go_step3
 go_wp2_with fail
 refine(uH K0).mono ?_
 rintro e w1 ⟨Z,G,rfl,cf,z⟩
 obtain⟨bw,bt,bb,br⟩:=uH KB w1 z
 have ba:=ab w1 (.cells #[.int .i64 n,.int .i64 q,.slice Z L G] 24)
 have ST:Hid (mu w (w1.alloc (.cells #[.int .i64 n,.int .i64 q,.slice Z L G] 24)) w1.heap.size n q U tc bn bc L G tq bo Z (A 0 0)):=aa ⟨bw.trans (ba.mono bw.size),by have:=z.size;simp only[ad]at this;omega,bt.all ba,bb.all ba,br.all ba,aq.new w1 _ _ _,by rw[←uH E0];exact cf.below ba,uH EL 0 0⟩
 clear y0 Y K0 KB cf z bw bt bb br ba E0
 have Y:=(uH ST).b.c1
 go_wp2_with fail
 go_step3
 go_wp2_with fail
 clear Y
 generalize w1.heap.size=h at*
 go_loopg [12,29] q (fun g fv a wr=>∃c:Nat,c+g=q∧fv=.bool true∧a=.int .i64 c∧Hid (∀c' m,c'<c→m<n→aC (NN c' m)=true)∧Hid (mu w wr h n q U tc bn bc L G tq bo Z (A c 0)))
 case atStart=>exact⟨0,by omega,rfl,rfl,fun c' m hc=>absurd hc (Nat.not_lt_zero _),ST⟩
 case round=>
  clear ST
  obtain⟨c,dB,rfl,rfl,hF,f⟩:=hrel
  cases gk with
  |zero=>
   have dv:¬((c:Int)<(q:Int)):=by omega
   have b2:Hid (ae=true):=aa ((uH FF).2 (fun c' m h1 h2=>uH hF c' m (by omega) h2))
   have am:Hid (A c 0=dd):=aa (by rw[show c=q by omega];exact uH EM)
   have l:=uH f
   have s0:=l.res.c0;have s1:=l.res.c1;have s2:=l.res.c2
   have f0:=l.res.free 0;have f1:=l.res.free 1;have f2:=l.res.free 2
   have q0:=l.x.c0;have q1:=l.x.c1;have q2:=l.x.c2
   have XP:=l.res.put (.int .i64 n) (.int .i64 q) (.slice Z L G)
   have z0:=XP.c0;have z1:=XP.c1;have z2:=XP.c2
   have K:=aa l.out
   have bm:=aa l.len
   clear XP l
   go_wp2_with fail
   try rw[Exit.noGoto_ret]
   exact bodyPost_ret (v:=.tuple #[.agg #[.int .i64 n,.int .i64 q,.slice Z L G],.bool true]) (by simp[results,Tryz.results108,go_sem,z0,z1,z2]) rfl ⟨A c 0,Z,G,by rw[uH b2],fun _=>uH am,uH bm,(uH K).1,(uH K).2.1,(uH K).2.2⟩
  |succ g=>
   have dx:(c:Int)<(q:Int):=by omega
   have M:=aa (show c<q by omega)
   have y0:=(uH f).t.c0
   go_wp2_with fail
   clear y0
   go_loopg [12,34] n (fun g2 fv a wr=>∃m:Nat,m+g2=n∧fv=.bool true∧a=.int .i64 m∧Hid (∀m',m'<m→aC (NN c m')=true)∧Hid (mu w wr h n q U tc bn bc L G tq bo Z (A c m)))
   case atStart=>exact⟨0,by omega,rfl,rfl,fun m' hm=>absurd hm (Nat.not_lt_zero _),f⟩
   case round=>
    clear f
    obtain⟨m,dQ,rfl,rfl,hG,f⟩:=hrel
    cases gk with
    |zero=>
     have cl:¬((m:Int)<(n:Int)):=by omega
     go_wp2_with fail
     go_roundg g
     case measure=>omega
     case rel=>
      have am:Hid (A c m=A (c+1) 0):=aa (by rw[←uH EC c,show m=n by omega])
      refine⟨c+1,by omega,rfl,by go_num,?_,by rw[←uH am];exact f⟩
      show∀c' m',c'<c+1→m'<n→_
      intro c' m' h1 h2
      by_cases e:c'=c
      ·subst e;exact uH hG m' (by omega)
      ·exact uH hF c' m' (by omega) h2
    |succ g2=>
     have cl:(m:Int)<(n:Int):=by omega
     have a7:=aa (show m<n by omega)
     obtain⟨i,hi⟩:∃i,o m=i:=⟨_,rfl⟩
     have y:=aa (show i<n by rw[←hi];exact(uH HO).lt m (uH a7))
     have bq:=aa (fun d=>uH KO d m (uH a7))
     rw[hi]at bq
     have HI:=aa hi
     clear hi
     obtain⟨tb,a0,rfl,c7,_,_⟩:=(uH HT).cells (uH y) (uH y)
     obtain⟨bb,c9,rfl,da,cb,bE⟩:=(uH ck).cells (uH y) (uH M)
     obtain⟨p0,p,cd,hp,db,e1,e2,e3,e4,e5,e6⟩:=tY i q c n (uH y) n6 q6 (uH M)
     have bv:i*q+c=p:=by rw[cd];exact hp
     rw[bv]at cb bE
     rw[uH LB]at bE
     have cm:(p:Int)<(bn:Int):=by omega
     have B0:=aa (uH S0 c m)
     rw[uH HI]at B0
     rw[←uH B0]at cb
     have CB:=aa cb
     have dA:=aa bv
     clear cd hp db bv bE cb c7 da B0
     have co:=aa (show∀k,D i k=true→X c m (k+1)=aV (X c m k) (fN (mV (bB n T i k) (XX c m k)))from fun k V=>by have:=uH SY c m k (by rw[uH HI];exact V);rwa[uH HI]at this)
     have cp:=aa (show∀k,D i k=false→X c m (k+1)=X c m k from fun k V=>uH SN c m k (by rw[uH HI];exact V))
     have b3:=aa (uH SE c m)
     have bx:=aa (uH ES c m (uH a7) (uH M))
     rw[uH HI]at b3 bx
     have cq:=aa (fun k hk=>uH EA c m k hk (uH M))
     have b4:=aa (uH SL c m);have cs:=aa (uH XL c m);have b5:=aa (uH NL c m)
     have cv:=aa (fun d k (hk:k<n)=>uH KD d i k (uH y) hk)
     generalize X c m=SS at*
     generalize XX c m=XK at*
     have Y:=(uH f).b.c1
     go_wp2_with fail
     clear Y
     refine(uH bq _).mono ?_
     rintro e w2 ⟨rfl,z⟩
     replace f:=aa ((uH f).all z)
     clear z bq
     have cb:=ah (uH CB) (uH f).bel
     have y0:=(uH f).t.c0;have Y:=(uH f).b.c1;have y2:=(uH f).b.c2
     go_wp2_with fail
     clear cb y0 Y y2 cm e1 e2 e3 e4 e5 e6
     go_loopg [16,52] n (fun g3 sv a wr=>∃k:Nat,k+g3=n∧sv=.int .u64 (SS k:Nat)∧a=.int .i64 k∧Hid (mu w wr h n q U tc bn bc L G (some ⟨tb,a0,none⟩) (some ⟨bb,c9,none⟩) Z (A c m)))
     case atStart=>exact⟨0,by omega,rfl,rfl,f⟩
     case round=>
      clear f
      obtain⟨k,d0,rfl,rfl,f⟩:=hrel
      cases gk with
      |zero=>
       have cy:¬((k:Int)<(n:Int)):=by omega
       have N:=aa (show k=n by omega)
       obtain⟨_,_,H,_,ct,Q⟩:=((uH HT).below (uH f).bel).cells (uH y) (uH y)
       simp only[Option.some.injEq,Addr.mk.injEq]at H
       obtain⟨rfl,rfl,_⟩:=H
       obtain⟨t0,pt,a1,a2,_,e1,e2,e3,e4,e5,e6⟩:=tY i n i n (uH y) n6 n6 (uH y)
       obtain⟨x0,px,a3,a4,a5,d1,d2,d3,d4,d5,d6⟩:=tY i q c n (uH y) n6 q6 (uH M)
       rw[show i*n+i=pt by rw[a1];exact a2]at ct Q
       rw[uH LT]at Q
       have b6:(pt:Int)<(U:Int):=by omega
       have b9:(px:Int)<(L:Int):=by have:=uH HL;omega
       have bz:=aa (show px<L by have:=uH HL;omega)
       have cz:=aa (show i*q+c=px by rw[a3];exact a4)
       have KV:=aa (fun d (z:Below w.heap.size w d)=>ov (SS n) (bB n T i i) d (uH b4 n) (uH TL i i) ((uH bi).all z))
       rw[←uH b3]at KV
       have NV:=aa (uH b5)
       have KF:=aa (fun d=>d7 (NN c m) d (uH b5))
       rw[uH cz]at bx
       have cA:=aa (show SS k=SS n by rw[uH N])
       rw[uH cA]
       generalize bB n T i i=tv at*
       generalize ci:NN c m=nv at*
       have ca:=aa ci
       generalize SS n=sv at*
       clear a1 a2 a3 a4 a5 Q ci
       have Y:=(uH f).t.c1;have y2:=(uH f).t.c2
       go_wp2_with fail
       clear Y y2 ct b6
       refine(uH KV _ (uH f).bel).mono ?_
       rintro e I ⟨rfl,z⟩
       replace f:=aa ((uH f).all z)
       clear z KV
       obtain⟨gx,rfl,cx,fx,ce⟩:=(uH f).at (uH bz)
       have S5:=aa (ce nv (uH NV))
       have c3:=aa (show True from trivial)
       generalize (A c m).getD px 0=ea at*
       rw[uH bx]at S5
       have Y:=(uH f).b.c1;have y2:=(uH f).x.c2
       clear ce c3
       go_wp2_with fail
       clear Y y2 cx fx f e1 e2 e3 e4 e5 e6 d1 d2 d3 d4 d5 d6 b9
       refine(uH KF _).mono ?_
       rintro e w4 ⟨rfl,z⟩
       have S6:=aa ((uH S5).all z)
       clear z S5 KF
       cases hfx:aC nv with
       |true=>
        go_wp2_with fail
        go_roundg g2
        case measure=>omega
        case rel=>
         refine⟨m+1,by omega,rfl,by go_num,?_,S6⟩
         show∀m',m'<m+1→_
         intro m' h1
         by_cases e:m'=m
         ·subst e;rw[uH ca];exact hfx
         ·exact uH hG m' (by omega)
       |false=>
        have cc:Hid (ae=false):=aa (by
         cases hk:ae with
         |false=>rfl
         |true=>
          have:=(uH FF).1 hk c m (uH M) (uH a7)
          rw[uH ca,hfx]at this
          cases this)
        have l:=uH S6
        have s0:=l.res.c0;have s1:=l.res.c1;have s2:=l.res.c2
        have f0:=l.res.free 0;have f1:=l.res.free 1;have f2:=l.res.free 2
        have q0:=l.x.c0;have q1:=l.x.c1;have q2:=l.x.c2
        have XP:=l.res.put (.int .i64 n) (.int .i64 q) (.slice (some ⟨gx,0,none⟩) L G)
        have z0:=XP.c0;have z1:=XP.c1;have z2:=XP.c2
        have K:=aa l.out
        have bm:=aa l.len
        clear XP l
        go_wp2_with fail
        try rw[Exit.noGoto_ret]
        exact bodyPost_ret (v:=.tuple #[.agg #[.int .i64 n,.int .i64 q,.slice (some ⟨gx,0,none⟩) L G],.bool false]) (by simp[results,Tryz.results108,go_sem,z0,z1,z2]) rfl ⟨A c (m+1),some ⟨gx,0,none⟩,G,by rw[uH cc],(fun e=>by rw[uH cc]at e;cases e),uH bm,(uH K).1,(uH K).2.1,(uH K).2.2⟩
      |succ g3=>
       have cy:(k:Int)<(n:Int):=by omega
       have N:=aa (show k<n by omega)
       have aj:=aa (fun d=>uH cv d k (uH N))
       cases V:D i k with
       |false=>
        rw[V]at aj
        have E1:=aa (uH cp k V)
        clear V
        go_wp2_with fail
        refine(uH aj _).mono ?_
        rintro e I ⟨rfl,z⟩
        replace f:=aa ((uH f).all z)
        clear z aj
        go_wp2_with fail
        go_roundg g3
        case measure=>omega
        case rel=>exact⟨k+1,by omega,by rw[uH E1],by go_num,f⟩
       |true=>
        rw[V]at aj
        have E1:=aa (uH co k V)
        clear V
        go_wp2_with fail
        refine(uH aj _).mono ?_
        rintro e I ⟨rfl,z⟩
        replace f:=aa ((uH f).all z)
        clear z aj
        obtain⟨_,_,H,_,ct,Q⟩:=((uH HT).below (uH f).bel).cells (uH y) (uH N)
        simp only[Option.some.injEq,Addr.mk.injEq]at H
        obtain⟨rfl,rfl,_⟩:=H
        obtain⟨t0,pt,a1,a2,_,e1,e2,e3,e4,e5,e6⟩:=tY i n k n (uH y) n6 n6 (uH N)
        obtain⟨x0,px,a3,a4,a5,d1,d2,d3,d4,d5,d6⟩:=tY k q c n (uH N) n6 q6 (uH M)
        rw[show i*n+k=pt by rw[a1];exact a2]at ct Q
        rw[uH LT]at Q
        have b6:(pt:Int)<(U:Int):=by omega
        have b9:(px:Int)<(L:Int):=by have:=uH HL;omega
        have bz:=aa (show px<L by have:=uH HL;omega)
        have EX:=aa (uH cq k (uH N))
        rw[show k*q+c=px by rw[a3];exact a4]at EX
        obtain⟨gx,rfl,cx,_,_⟩:=(uH f).at (uH bz)
        rw[uH EX]at cx
        have TB:=aa ((uH bi).all (uH f).bel)
        have K1:=aa (fun d (z:Below I.heap.size I d)=>kQ (bB n T i k) (XK k) d (uH TL i k) (uH cs k) ((uH TB).all z))
        have K2:=aa (fun d (z:Below I.heap.size I d)=>ju (SS k) (mV (bB n T i k) (XK k)) d (uH b4 k) (gp _ _) ((uH TB).all z))
        rw[←uH E1]at K2
        generalize mV (bB n T i k) (XK k)=pv at*
        generalize bB n T i k=tv at*
        generalize XK k=xv at*
        generalize cj:SS (k+1)=s2 at*
        have c4:=aa cj
        clear cj
        generalize SS k=s1 at*
        have Y:=(uH f).t.c1;have y2:=(uH f).t.c2;have y3:=(uH f).b.c1;have y4:=(uH f).x.c2
        have HK:=aa (fun d (h':Below I.heap.size I d)=>(show Below I.heap.size I d∧d.cell? ⟨w.heap.size,1,none⟩=some (.int .i64 (n:Nat))∧d.cell? ⟨w.heap.size,2,none⟩=some (.slice (some ⟨tb,a0,none⟩) U tc)∧d.cell? ⟨w.heap.size+1,1,none⟩=some (.int .i64 (q:Nat))∧d.cell? ⟨h,2,none⟩=some (.slice (some ⟨gx,0,none⟩) L G)∧d.cell? ⟨tb,a0+pt,none⟩=some (.int .u64 (tv:Nat))∧d.cell? ⟨gx,px,none⟩=some (.int .u64 (xv:Nat))from⟨h',ah Y h',ah y2 h',ah y3 h',ah y4 h',ah ct h',ah cx h'⟩))
        clear Y y2 y3 y4 ct cx a1 a2 a3 a4 a5 Q
        go_wp2_with fail
        go_region_held3(fun d=>Below I.heap.size I d∧d.cell? ⟨w.heap.size,1,none⟩=some (.int .i64 (n:Nat))∧d.cell? ⟨w.heap.size,2,none⟩=some (.slice (some ⟨tb,a0,none⟩) U tc)∧d.cell? ⟨w.heap.size+1,1,none⟩=some (.int .i64 (q:Nat))∧d.cell? ⟨h,2,none⟩=some (.slice (some ⟨gx,0,none⟩) L G)∧d.cell? ⟨tb,a0+pt,none⟩=some (.int .u64 (tv:Nat))∧d.cell? ⟨gx,px,none⟩=some (.int .u64 (xv:Nat)))
         (first|exact uH HK _ (Below.refl _ _).drew|exact uH HK _ (by assumption)|fail "KK")
         (first|(go_at_call 165;refine(uH K1 _ (And.left (by assumption))).mono ?_;rintro e w4 ⟨rfl,a6⟩;have c5:Below I.heap.size I w4:=Below.trans (And.left (by assumption)) (a6.mono (Below.size (And.left (by assumption))));clear a6)|(go_at_call 164;refine(uH K2 _ (And.left (by assumption))).mono ?_;rintro e w4 ⟨rfl,a6⟩;have c5:Below I.heap.size I w4:=Below.trans (And.left (by assumption)) (a6.mono (Below.size (And.left (by assumption))));clear a6)|fail "NO ARM")
        go_wp2_with fail
        go_roundg g3
        case measure=>omega
        case rel=>exact⟨k+1,by omega,by rw[uH c4],by go_num,aa ((uH f).all (And.left (by assumption)))⟩
theorem zE{w:World}{l:Option Addr}{m:Nat}{f:List Nat}(h:ac w l m (ar f)){k:Nat}(t:k<f.length):∃b d,l=some ⟨b,d,none⟩∧b<w.heap.size∧w.cell? ⟨b,d+k,none⟩=some (.int .u64 (f.getD k 0:Nat)):=by
 obtain⟨b,d,y,z,A⟩:=h.ne (by rw[al];omega)
 refine⟨b,d,y,z,?_⟩
 rw[A k (by rw[al];exact t),di]
theorem wj(H:Nat)(l:Array Value)(U:Option Addr)(V n:Nat)(d:List Nat)(p:Nat→Bool)(w:World)(X:d.length=n)(hn:n≤1000000)(I:ac w U V (ar d))
  (ae:∀t w,(callFunc H t).run Tryz.prog w=.ok (.enter H t) w)
  (f:∀m k,Below w.heap.size w m→k<n→Calls Tryz.prog H (#[.int .u64 (d.getD k 0:Nat)]++l) m fun e K=>e=.returned (.bool (p (d.getD k 0)))∧Below m.heap.size m K):
  Calls Tryz.prog 116 #[.slice U n V,.func (.func H) #[] l] w fun e m=>∃Y:Int,e=.returned (.int .i64 Y)∧decide (0≤Y)=d.any p∧Below w.heap.size w m:=by
 have HS:=aa f;have HX:=aa I;have HL:=aa X
 have HN:=aa (show(∀j,j<n→p (d.getD j 0)=false)→d.any p=false from fun g=>by
  rw[List.any_eq_false]
  intro x I
  obtain⟨j,A,rfl⟩:=List.mem_iff_getElem.1 I
  have:=g j (by omega)
  rw[List.getD_eq_getElem?_getD,List.getElem?_eq_getElem A]at this
  simpa using this)
 have HY:=aa (show∀j,j<n→p (d.getD j 0)=true→d.any p=true from fun j A g=>by
  rw[List.any_eq_true]
  have D:j<d.length:=by omega
  refine⟨d[j],List.getElem_mem D,?_⟩
  rw[List.getD_eq_getElem?_getD,List.getElem?_eq_getElem D]at g
  exact g)
 generalize d.any p=a at*
 clear f I X
 go_enter Tryz.func116,Tryz.ntmps116
 go_wp2_with fail
 go_loopw[8] (fun i wr=>∃k:Nat,k≤n∧i=.int .i64 k∧Hid (∀j,j<k→p (d.getD j 0)=false)∧Hid (Below w.heap.size w wr)) (fun i _=>n-(intOf i).toNat)
 case atStart=>exact⟨0,Nat.zero_le _,rfl,fun j A=>absurd A (Nat.not_lt_zero j),Below.refl _ _⟩
 case round=>
  obtain⟨k,hk,rfl,hF,z⟩:=hrel
  by_cases y:k<n
  ·have aj:(k:Int)<(n:Int):=by omega
   have C:=aa (fun m h=>uH HS m k h y)
   have L:=aa (uH HY k y)
   obtain⟨b,ax,Q,aI,hc⟩:=zE ((uH HX).below (uH z)) (k:=k) (by rw[uH HL];exact y)
   have M:=aa (fun(e:p (d.getD k 0)=false)=>(show∀j,j<k+1→p (d.getD j 0)=false from fun j A=>by
    rcases Nat.lt_or_ge j k with g|g
    ·exact uH hF j g
    ·rw[show j=k by omega];exact e))
   generalize G:d.getD k 0=x at*
   subst Q
   have ak:IntKind.i64.wrap ((k:Int)+1)=(k:Int)+1:=aP _ (by omega)
   have am:=aa G
   clear G
   go_wp2_with fail
   refine(uH C _ (uH z)).mono ?_
   rintro e w2 ⟨rfl,F⟩
   have Z:=aa ((uH z).trans (F.mono (uH z).size))
   clear F C z
   cases hp:p x with
   |true=>
    have hY:=aa (uH L (by rw[hp]))
    clear M L hF
    go_wp2_with fail
    exact bodyPost_ret (v:=.int .i64 (k:Nat)) (by simp[results,Tryz.results116,go_sem]) rfl ⟨_,rfl,by rw[uH hY];exact decide_eq_true (by omega),uH Z⟩
   |false=>
    have N:=aa (uH M (by rw[hp]))
    clear M L hF
    go_wp2_with fail
    go_round
    case rel=>exact⟨k+1,by omega,by go_num,N,Z⟩
    case measure=>first|(simp[intOf];done)|(simp[intOf];omega)
  ·have O:k=n:=by omega
   subst O
   have hN:=aa (uH HN (uH hF))
   go_wp2_with fail
   exact bodyPost_ret (v:=.int .i64 (-1)) (by simp[results,Tryz.results116,go_sem]) rfl ⟨-1,rfl,by rw[uH hN];rfl,uH z⟩
theorem qh(t:Nat)(d:Array Value)(y:Option Addr)(z n:Nat)(l:List Nat)(p:Nat→Bool)(w:World)(G:l.length=n)(L:n≤1000000)(H:ac w y z (ar l))
  (A:∀h w,(callFunc t h).run Tryz.prog w=.ok (.enter t h) w)
  (f:∀m k,Below w.heap.size w m→k<n→Calls Tryz.prog t (#[.int .u64 (l.getD k 0:Nat)]++d) m fun e D=>e=.returned (.bool (p (l.getD k 0)))∧Below m.heap.size m D):
  Calls Tryz.prog 60 #[.slice y n z,.func (.func t) #[] d] w fun e m=>e=.returned (.bool (l.any p))∧Below w.heap.size w m:=by
 have K:=aa (wj t d y z n l p w G L H A f)
 generalize l.any p=a at*
 clear f H G
 go_enter Tryz.func60,Tryz.ntmps60
 go_wp2_with fail
 refine(uH K).mono ?_
 rintro e N ⟨O,rfl,F,I⟩
 clear K
 have M:=aa I
 clear I
 go_wp2
 go_ret
 exact⟨by rw[←F];rfl,uH M⟩
def ml(r c:Int)(I:List Int)(p q:Int)(J:List Int):Int:=if gG r c I=0 then gG p q J else gG r c I
theorem eg(r c:Int)(I:List Int):gG r c I=0∨gG r c I=1∨gG r c I=4:=by
 unfold gG
 repeat' split
 all_goals simp
theorem wl(r c p q:Int)(ao z:Option Addr)(n cap m d:Nat)(A M o:Int)(w:World)(V:(A=0∧o=M)∨(A≠0∧o=A))
  (N:∀h,Below w.heap.size w h→Calls Tryz.prog 56 #[.agg #[.int .i64 r,.int .i64 c,.slice ao n cap]] h fun e t=>e=.returned (.int .i64 A)∧Below h.heap.size h t)
  (O:∀h,Below w.heap.size w h→Calls Tryz.prog 56 #[.agg #[.int .i64 p,.int .i64 q,.slice z m d]] h fun e t=>e=.returned (.int .i64 M)∧Below h.heap.size h t):
  Calls Tryz.prog 70 #[.agg #[.int .i64 r,.int .i64 c,.slice ao n cap],.agg #[.int .i64 p,.int .i64 q,.slice z m d]] w fun e h=>e=.returned (.int .i64 o)∧Below w.heap.size w h:=by
 have Q:=aa (dE w (.int .i64 r) (.int .i64 c) (.slice ao n cap) (.int .i64 p) (.int .i64 q) (.slice z m d))
 obtain⟨L,I,U⟩:=uH Q ((w.alloc (.cells #[.int .i64 r,.int .i64 c,.slice ao n cap] 24)).alloc (.cells #[.int .i64 p,.int .i64 q,.slice z m d] 24)) (by have:=Below.refl ((w.alloc (.cells #[.int .i64 r,.int .i64 c,.slice ao n cap] 24)).alloc (.cells #[.int .i64 p,.int .i64 q,.slice z m d] 24)).heap.size ((w.alloc (.cells #[.int .i64 r,.int .i64 c,.slice ao n cap] 24)).alloc (.cells #[.int .i64 p,.int .i64 q,.slice z m d] 24));simpa only[ad]using this)
 have D:=aa (N _ L)
 have f:=aa L;have y:=aa U
 have K:=aa O
 have F:=I.c0;have G:=I.c1;have H:=I.c2
 clear N O Q L I U
 rcases V with⟨rfl,rfl⟩|⟨Y,rfl⟩
 ·go_enter Tryz.func70,Tryz.ntmps70
  go_wp2_with fail
  clear F G H
  refine(uH D).mono ?_
  rintro e X ⟨rfl,l⟩
  replace y:=aa ((uH y).all l)
  replace f:=aa ((uH f).trans (l.mono (uH f).size))
  clear l D
  have F:=(uH y).c0;have G:=(uH y).c1;have H:=(uH y).c2
  go_wp2_with fail
  clear F G H
  refine(uH K _ (uH f)).mono ?_
  rintro e Z ⟨rfl,l⟩
  replace f:=aa ((uH f).trans (l.mono (uH f).size))
  clear l K y
  go_wp2
  go_ret
  exact⟨rfl,uH f⟩
 ·go_enter Tryz.func70,Tryz.ntmps70
  go_wp2_with fail
  clear F G H
  refine(uH D).mono ?_
  rintro e X ⟨rfl,l⟩
  replace f:=aa ((uH f).trans (l.mono (uH f).size))
  clear l D y K
  go_wp2
  go_ret
  exact⟨rfl,uH f⟩
theorem gQ(r c p q:Int)(ao l:Option Addr)(cap d:Nat)(I J:List Int)(w:World)(t:ac w ao cap I)(y:ac w l d J)(z:I.length≤35184372088830)(A:J.length≤35184372088830):
  Calls Tryz.prog 70 #[.agg #[.int .i64 r,.int .i64 c,.slice ao I.length cap],.agg #[.int .i64 p,.int .i64 q,.slice l J.length d]] w fun e f=>e=.returned (.int .i64 (ml r c I p q J))∧Below w.heap.size w f:=by
 refine wl r c p q ao l I.length cap J.length d (gG r c I) (gG p q J) (ml r c I p q J) w ?_ (fun f m=>iU r c ao cap I f (t.below m) z) (fun f m=>iU p q l d J f (y.below m) A)
 unfold ml
 by_cases h:gG r c I=0
 ·rw[if_pos h];exact .inl ⟨h,rfl⟩
 ·rw[if_neg h];exact .inr ⟨h,rfl⟩
theorem k5(r c cap q:Nat)(ao:Option Addr)(S:List Nat)(w:World)(h:Mx w ao cap r c S)(hq:min r c=q):
  Calls Tryz.prog 57 #[.agg #[.int .i64 r,.int .i64 c,.slice ao S.length cap]] w fun e w'=>∃g,e=.returned (.slice (some ⟨g,0,none⟩) q q)∧w.heap.size≤g∧aY w' g (gc r c S)∧Below w.heap.size w w':=by
 have r6:=h.2.2.1;have c6:=h.2.2.2
 have m:∀(W:World) L t,(Builtin.min_ L t #[.int .i64 (r:Int),.int .i64 (c:Int)]).run Tryz.prog W=.ok (.int .i64 (q:Int)) W:=fun W L t=>by
  rw[show(q:Int)=min (r:Int) (c:Int) by omega];exact kJ _ W L t _ _
 have M:=run_make_row' (P:=Tryz.prog) 22 37 (.int .u64 0) 8 Tryz.underlying22 (by kernel_rfl) rfl .i64 .i64 q (by omega) (by omega)
 have N:=ab w (.cells #[.int .i64 r,.int .i64 c,.slice ao S.length cap] 24)
 have s0:=ad w (.cells #[.int .i64 r,.int .i64 c,.slice ao S.length cap] 24)
 have G:=aq.new w (.int .i64 r) (.int .i64 c) (.slice ao S.length cap)
 have y0:=G.c0;have y1:=G.c1
 have O:=aY.made (w.alloc (.cells #[.int .i64 r,.int .i64 c,.slice ao S.length cap] 24)) q
 have Q:=ab (w.alloc (.cells #[.int .i64 r,.int .i64 c,.slice ao S.length cap] 24)) (.cells (madeCells #[.int .u64 0] q) 37)
 rw[s0]at O
 have HM:=aa O
 have HX:=aa (G.all Q)
 have HB:=aa (N.trans (Q.mono N.size))
 have HS:=aa h
 obtain⟨f,hf⟩:∃f:Nat→Nat,(fun i=>bB c S i i)=f:=⟨_,rfl⟩
 have FV:=aa (show∀i,f i=bB c S i i from fun i=>by rw[←hf])
 have FD:=aa (show gc r c S=(List.range q).map f from by rw[←hf,←hq];rfl)
 have aj:q≤r:=by omega
 have ak:q≤c:=by omega
 generalize F:S.length=n at*
 have HL:=aa F
 have U:=aa h.2.1
 clear h N s0 G O Q hf F hq
 go_enter Tryz.func57,Tryz.ntmps57
 go_wp2_with fail
 clear M m y0 y1
 go_loopw[13] (fun i wr=>∃k:Nat,k≤q∧i=.int .i64 k∧Hid (aY wr (w.heap.size+1) (zP f q k))∧Hid (aq wr w.heap.size (.int .i64 r) (.int .i64 c) (.slice ao n cap))∧Hid (Below w.heap.size w wr)) (fun i _=>q-(intOf i).toNat)
 case atStart=>exact⟨0,Nat.zero_le _,rfl,by rw[Gr];exact HM,HX,HB⟩
 case round=>
  clear HM HX HB
  obtain⟨k,hk,rfl,D,H,I⟩:=hrel
  by_cases V:k<q
  ·have am:(k:Int)<(q:Int):=by omega
   have y:k<r:=by omega
   have A:k<c:=by omega
   obtain⟨b,aI,ae,a0,d,_⟩:=((uH HS).below (uH I)).cells y A
   have l:=cV y A
   rw[←uH FV k]at d
   obtain⟨u,hu⟩:∃u,f k=u:=⟨_,rfl⟩
   rw[hu]at d
   obtain⟨z,K⟩:∃z,k*c=z:=⟨_,rfl⟩
   rw[K]at d l
   obtain⟨x,hx⟩:∃x,z+k=x:=⟨_,rfl⟩
   rw[hx]at d l
   have X:x<n:=by rw[←uH HL,uH U];exact l
   have ax:(x:Int)<(n:Int):=by omega
   have Y:r*c≤36:=Nat.mul_le_mul r6 c6
   have e2:IntKind.i64.wrap ((k:Int)*(c:Int))=(z:Int):=by
    rw[bd k c,K]
    exact aP _ (by omega)
   have e3:IntKind.i64.wrap ((z:Int)+(k:Int))=(x:Int):=(aP _ (by omega)).trans (by omega)
   have e5:(k:Int)*(c:Int)=(z:Int):=by rw[bd k c,K]
   have e6:(z:Int)+(k:Int)=(x:Int):=by omega
   have e7:IntKind.i64.wrap (z:Int)=(z:Int):=aP _ (by omega)
   have e8:IntKind.i64.wrap (x:Int)=(x:Int):=aP _ (by omega)
   subst ae
   have y1:=(uH H).c1;have y2:=(uH H).c2
   have c0:=(uH D).cell k (by rw[wX];exact V)
   have f0:=(uH D).free k
   have R3:=aa ((uH D).set k u)
   have X3:=aa ((uH H).other (p:=⟨w.heap.size+1,k,none⟩) (show w.heap.size≠w.heap.size+1 by omega) (.int .u64 (u:Nat)))
   have B3:=aa ((uH I).setCell (p:=⟨w.heap.size+1,k,none⟩) (Nat.le_succ _) (.int .u64 (u:Nat)))
   have eV:=aa hu
   generalize (zP f q k)[k]?.getD 0=a1 at*
   clear D H I K hx hu l X Y
   go_wp2_with fail
   go_round
   case rel=>exact⟨k+1,by omega,by go_num,by rw[←wY,uH eV];exact R3,X3,B3⟩
   case measure=>first|(simp[intOf];done)|(simp[intOf];omega)
  ·have Z:k=q:=by omega
   subst Z
   have HF:=aa (show aY wr (w.heap.size+1) (gc r c S)from by rw[uH FD,←s7];exact uH D)
   go_wp2_with fail
   exact bodyPost_ret (v:=.slice (some ⟨w.heap.size+1,0,none⟩) k k) (by simp[results,Tryz.results57,go_sem]) rfl ⟨_,rfl,Nat.le_succ _,uH HF,uH I⟩
theorem wo(r c p q er:Int)(h l m t:Nat)(y z:Option Addr)(fo fd:Value)(w:World)(L:er=1∨er=4)
  (X:∀f,Below w.heap.size w f→Calls Tryz.prog 70 #[.agg #[.int .i64 r,.int .i64 c,.slice y h l],.agg #[.int .i64 p,.int .i64 q,.slice z m t]] f fun e M=>e=.returned (.int .i64 er)∧Below f.heap.size f M):
  Calls Tryz.prog 45 #[.agg #[.int .i64 r,.int .i64 c,.slice y h l],.agg #[.int .i64 p,.int .i64 q,.slice z m t],fo,fd] w fun e f=>e=.returned (.tuple #[.agg #[.int .i64 0,.int .i64 0,.slice none 0 0],.int .i64 er])∧Below w.heap.size w f:=by
 have Y:=aa (bp w (.int .i64 r) (.int .i64 c) (.slice y h l) (.int .i64 p) (.int .i64 q) (.slice z m t) (.int .i64 0) (.int .i64 0) (.slice none 0 0))
 obtain⟨V,F,G,x2⟩:=uH Y _ (by have:=Below.refl (((w.alloc (.cells #[.int .i64 r,.int .i64 c,.slice y h l] 24)).alloc (.cells #[.int .i64 p,.int .i64 q,.slice z m t] 24)).alloc (.cells #[.int .i64 0,.int .i64 0,.slice none 0 0] 24)).heap.size (((w.alloc (.cells #[.int .i64 r,.int .i64 c,.slice y h l] 24)).alloc (.cells #[.int .i64 p,.int .i64 q,.slice z m t] 24)).alloc (.cells #[.int .i64 0,.int .i64 0,.slice none 0 0] 24));simpa only[ad]using this)
 have Z:=aa (X _ V)
 have I:=aa V;have A:=aa F;have D:=aa G;have N:=aa x2
 have O:=F.c0;have Q:=F.c1;have U:=F.c2;have u0:=G.c0;have u1:=G.c1;have u2:=G.c2
 clear X Y V F G x2
 rcases L with rfl|rfl
 all_goals
  go_enter Tryz.func45,Tryz.ntmps45
  go_wp2_with fail
  clear O Q U u0 u1 u2
  refine(uH Z).mono ?_
  rintro e w1 ⟨rfl,H⟩
  replace A:=aa ((uH A).all H)
  replace D:=aa ((uH D).all H)
  replace N:=aa ((uH N).all H)
  replace I:=aa ((uH I).trans (H.mono (uH I).size))
  clear H Z
  have O:=(uH A).c0;have Q:=(uH A).c1;have U:=(uH A).c2;have u0:=(uH D).c0;have u1:=(uH D).c1;have u2:=(uH D).c2
  clear O Q U u0 u1 u2
  have d:=uH N
  have f0:=d.free 0;have f1:=d.free 1;have f2:=d.free 2
  have s0:=d.c0;have s1:=d.c1;have s2:=d.c2
  have K:=d.put (.int .i64 0) (.int .i64 0) (.slice none 0 0)
  have z0:=K.c0;have z1:=K.c1;have z2:=K.c2
  have BP:=aa (ai (uH I) (b:=w.heap.size+1+1) (by omega) (.int .i64 0) (.int .i64 0) (.slice none 0 0))
  clear K d
  go_wp2_with fail
  exact bodyPost_ret (v:=.tuple #[.agg #[.int .i64 0,.int .i64 0,.slice none 0 0],.int .i64 _]) (by simp[results,Tryz.results45,go_sem,z0,z1,z2]) rfl ⟨rfl,uH BP⟩
theorem rz(r c p q:Int)(l m t y:Nat)(z A:Option Addr)(fo fd:Value)(w:World)(f:¬r=c∨(r=c∧¬r=p))
  (Q:∀h,Below w.heap.size w h→Calls Tryz.prog 70 #[.agg #[.int .i64 r,.int .i64 c,.slice z l m],.agg #[.int .i64 p,.int .i64 q,.slice A t y]] h fun e M=>e=.returned (.int .i64 0)∧Below h.heap.size h M):
  Calls Tryz.prog 45 #[.agg #[.int .i64 r,.int .i64 c,.slice z l m],.agg #[.int .i64 p,.int .i64 q,.slice A t y],fo,fd] w fun e h=>e=.returned (.tuple #[.agg #[.int .i64 0,.int .i64 0,.slice none 0 0],.int .i64 3])∧Below w.heap.size w h:=by
 have U:=aa (bp w (.int .i64 r) (.int .i64 c) (.slice z l m) (.int .i64 p) (.int .i64 q) (.slice A t y) (.int .i64 0) (.int .i64 0) (.slice none 0 0))
 obtain⟨O,G,H,x2⟩:=uH U _ (by have:=Below.refl (((w.alloc (.cells #[.int .i64 r,.int .i64 c,.slice z l m] 24)).alloc (.cells #[.int .i64 p,.int .i64 q,.slice A t y] 24)).alloc (.cells #[.int .i64 0,.int .i64 0,.slice none 0 0] 24)).heap.size (((w.alloc (.cells #[.int .i64 r,.int .i64 c,.slice z l m] 24)).alloc (.cells #[.int .i64 p,.int .i64 q,.slice A t y] 24)).alloc (.cells #[.int .i64 0,.int .i64 0,.slice none 0 0] 24));simpa only[ad]using this)
 have V:=aa (Q _ O)
 have K:=aa O;have D:=aa G;have F:=aa H;have N:=aa x2
 have X:=G.c0;have Y:=G.c1;have Z:=G.c2;have u0:=H.c0;have u1:=H.c1;have u2:=H.c2
 clear Q U O G H x2
 rcases f with f|⟨rfl,f⟩
 all_goals
  go_enter Tryz.func45,Tryz.ntmps45
  go_wp2_with fail
  clear X Y Z u0 u1 u2
  refine(uH V).mono ?_
  rintro e w1 ⟨rfl,I⟩
  replace D:=aa ((uH D).all I)
  replace F:=aa ((uH F).all I)
  replace N:=aa ((uH N).all I)
  replace K:=aa ((uH K).trans (I.mono (uH K).size))
  clear I V
  have X:=(uH D).c0;have Y:=(uH D).c1;have Z:=(uH D).c2;have u0:=(uH F).c0;have u1:=(uH F).c1;have u2:=(uH F).c2
  have d:=uH N
  have f0:=d.free 0;have f1:=d.free 1;have f2:=d.free 2
  have s0:=d.c0;have s1:=d.c1;have s2:=d.c2
  have L:=d.put (.int .i64 0) (.int .i64 0) (.slice none 0 0)
  have z0:=L.c0;have z1:=L.c1;have z2:=L.c2
  have BP:=aa (ai (uH K) (b:=w.heap.size+1+1) (by omega) (.int .i64 0) (.int .i64 0) (.slice none 0 0))
  clear L d
  go_wp2_with fail
  exact bodyPost_ret (v:=.tuple #[.agg #[.int .i64 0,.int .i64 0,.slice none 0 0],.int .i64 3]) (by simp[results,Tryz.results45,go_sem,z0,z1,z2]) rfl ⟨rfl,uH BP⟩
theorem tZ(r q:Int)(A F H I N:Nat)(D:List Nat)(G K:Option Addr)(fo fd:Value)(w:World)
  (Y:∀d,Below w.heap.size w d→Calls Tryz.prog 70 #[.agg #[.int .i64 r,.int .i64 r,.slice G A F],.agg #[.int .i64 r,.int .i64 q,.slice K H I]] d fun e h=>e=.returned (.int .i64 0)∧Below d.heap.size d h)
  (Z:∀d,Below w.heap.size w d→Calls Tryz.prog 57 #[.agg #[.int .i64 r,.int .i64 r,.slice G A F]] d fun e h=>∃g,e=.returned (.slice (some ⟨g,0,none⟩) N N)∧d.heap.size≤g∧aY h g D∧Below d.heap.size d h)
  (C3:∀d g,Below w.heap.size w d→aY d g D→Calls Tryz.prog 60 #[.slice (some ⟨g,0,none⟩) N N,.func (.func 107) #[] #[]] d fun e h=>e=.returned (.bool true)∧Below d.heap.size d h):
  Calls Tryz.prog 45 #[.agg #[.int .i64 r,.int .i64 r,.slice G A F],.agg #[.int .i64 r,.int .i64 q,.slice K H I],fo,fd] w fun e d=>e=.returned (.tuple #[.agg #[.int .i64 0,.int .i64 0,.slice none 0 0],.int .i64 5])∧Below w.heap.size w d:=by
 have KB:=aa (bp w (.int .i64 r) (.int .i64 r) (.slice G A F) (.int .i64 r) (.int .i64 q) (.slice K H I) (.int .i64 0) (.int .i64 0) (.slice none 0 0))
 obtain⟨X,L,M,x2⟩:=uH KB _ (by have:=Below.refl (((w.alloc (.cells #[.int .i64 r,.int .i64 r,.slice G A F] 24)).alloc (.cells #[.int .i64 r,.int .i64 q,.slice K H I] 24)).alloc (.cells #[.int .i64 0,.int .i64 0,.slice none 0 0] 24)).heap.size (((w.alloc (.cells #[.int .i64 r,.int .i64 r,.slice G A F] 24)).alloc (.cells #[.int .i64 r,.int .i64 q,.slice K H I] 24)).alloc (.cells #[.int .i64 0,.int .i64 0,.slice none 0 0] 24));simpa only[ad]using this)
 have K1:=aa (Y _ X)
 have l:=aa X;have m:=aa L;have t:=aa M;have z:=aa x2
 have K2:=aa Z;have K3:=aa C3
 have Q:=L.c0;have U:=L.c1;have V:=L.c2;have u0:=M.c0;have u1:=M.c1;have u2:=M.c2
 clear Y KB X L M x2
 clear Z C3
 go_enter Tryz.func45,Tryz.ntmps45
 go_wp2_with fail
 clear Q U V u0 u1 u2
 refine(uH K1).mono ?_
 rintro e w1 ⟨rfl,f⟩
 replace m:=aa ((uH m).all f)
 replace t:=aa ((uH t).all f)
 replace z:=aa ((uH z).all f)
 replace l:=aa ((uH l).trans (f.mono (uH l).size))
 clear f K1
 have Q:=(uH m).c0;have U:=(uH m).c1;have V:=(uH m).c2;have u0:=(uH t).c0;have u1:=(uH t).c1;have u2:=(uH t).c2
 go_wp2_with fail
 clear Q U V u0 u1 u2
 refine(uH K2 _ (uH l)).mono ?_
 rintro e w2 ⟨g,rfl,_,hr,f⟩
 replace m:=aa ((uH m).all f)
 replace t:=aa ((uH t).all f)
 replace z:=aa ((uH z).all f)
 replace l:=aa ((uH l).trans (f.mono (uH l).size))
 have HG:=aa hr
 clear f hr K2
 go_wp2_with fail
 refine(uH K3 _ _ (uH l) (uH HG)).mono ?_
 rintro e w3 ⟨rfl,f⟩
 replace m:=aa ((uH m).all f)
 replace t:=aa ((uH t).all f)
 replace z:=aa ((uH z).all f)
 replace l:=aa ((uH l).trans (f.mono (uH l).size))
 clear f HG K3
 have y:=uH z
 have f0:=y.free 0;have f1:=y.free 1;have f2:=y.free 2
 have s0:=y.c0;have s1:=y.c1;have s2:=y.c2
 have O:=y.put (.int .i64 0) (.int .i64 0) (.slice none 0 0)
 have z0:=O.c0;have z1:=O.c1;have z2:=O.c2
 have BP:=aa (ai (uH l) (b:=w.heap.size+1+1) (by omega) (.int .i64 0) (.int .i64 0) (.slice none 0 0))
 clear O y
 go_wp2_with fail
 exact bodyPost_ret (v:=.tuple #[.agg #[.int .i64 0,.int .i64 0,.slice none 0 0],.int .i64 5]) (by simp[results,Tryz.results45,go_sem,z0,z1,z2]) rfl ⟨rfl,uH BP⟩
theorem ws(r q:Int)(A F H I V L:Nat)(D:List Nat)(G K:Option Addr)(fo fd:Value)(w:World)
  (C1:∀d,Below w.heap.size w d→Calls Tryz.prog 70 #[.agg #[.int .i64 r,.int .i64 r,.slice G A F],.agg #[.int .i64 r,.int .i64 q,.slice K H I]] d fun e l=>e=.returned (.int .i64 0)∧Below d.heap.size d l)
  (C2:∀d,Below w.heap.size w d→Calls Tryz.prog 57 #[.agg #[.int .i64 r,.int .i64 r,.slice G A F]] d fun e l=>∃g,e=.returned (.slice (some ⟨g,0,none⟩) V V)∧d.heap.size≤g∧aY l g D∧Below d.heap.size d l)
  (C3:∀d g,Below w.heap.size w d→aY d g D→Calls Tryz.prog 60 #[.slice (some ⟨g,0,none⟩) V V,.func (.func 107) #[] #[]] d fun e l=>e=.returned (.bool false)∧Below d.heap.size d l)
  (C4:∀d,Below w.heap.size w d→Calls Tryz.prog 108 #[.agg #[.int .i64 r,.int .i64 r,.slice G A F],.agg #[.int .i64 r,.int .i64 q,.slice K H I],fo,fd] d fun e l=>∃X Y,e=.returned (.tuple #[.agg #[.int .i64 r,.int .i64 q,.slice X L Y],.bool false])∧Below d.heap.size d l):
  Calls Tryz.prog 45 #[.agg #[.int .i64 r,.int .i64 r,.slice G A F],.agg #[.int .i64 r,.int .i64 q,.slice K H I],fo,fd] w fun e d=>e=.returned (.tuple #[.agg #[.int .i64 0,.int .i64 0,.slice none 0 0],.int .i64 2])∧Below w.heap.size w d:=by
 have KB:=aa (bp w (.int .i64 r) (.int .i64 r) (.slice G A F) (.int .i64 r) (.int .i64 q) (.slice K H I) (.int .i64 0) (.int .i64 0) (.slice none 0 0))
 obtain⟨b0,Q,U,x2⟩:=uH KB _ (by have:=Below.refl (((w.alloc (.cells #[.int .i64 r,.int .i64 r,.slice G A F] 24)).alloc (.cells #[.int .i64 r,.int .i64 q,.slice K H I] 24)).alloc (.cells #[.int .i64 0,.int .i64 0,.slice none 0 0] 24)).heap.size (((w.alloc (.cells #[.int .i64 r,.int .i64 r,.slice G A F] 24)).alloc (.cells #[.int .i64 r,.int .i64 q,.slice K H I] 24)).alloc (.cells #[.int .i64 0,.int .i64 0,.slice none 0 0] 24));simpa only[ad]using this)
 have K1:=aa (C1 _ b0)
 have h:=aa b0;have m:=aa Q;have t:=aa U;have y:=aa x2
 have K2:=aa C2;have K3:=aa C3;have K4:=aa C4
 have M:=Q.c0;have N:=Q.c1;have O:=Q.c2;have u0:=U.c0;have u1:=U.c1;have u2:=U.c2
 clear C1 KB b0 Q U x2
 clear C2 C3 C4
 go_enter Tryz.func45,Tryz.ntmps45
 go_wp2_with fail
 clear M N O u0 u1 u2
 refine(uH K1).mono ?_
 rintro e w1 ⟨rfl,f⟩
 replace m:=aa ((uH m).all f)
 replace t:=aa ((uH t).all f)
 replace y:=aa ((uH y).all f)
 replace h:=aa ((uH h).trans (f.mono (uH h).size))
 clear f K1
 have M:=(uH m).c0;have N:=(uH m).c1;have O:=(uH m).c2;have u0:=(uH t).c0;have u1:=(uH t).c1;have u2:=(uH t).c2
 go_wp2_with fail
 clear M N O u0 u1 u2
 refine(uH K2 _ (uH h)).mono ?_
 rintro e w2 ⟨g,rfl,_,hr,f⟩
 replace m:=aa ((uH m).all f)
 replace t:=aa ((uH t).all f)
 replace y:=aa ((uH y).all f)
 replace h:=aa ((uH h).trans (f.mono (uH h).size))
 have HG:=aa hr
 clear f hr K2
 go_wp2_with fail
 refine(uH K3 _ _ (uH h) (uH HG)).mono ?_
 rintro e w3 ⟨rfl,f⟩
 replace m:=aa ((uH m).all f)
 replace t:=aa ((uH t).all f)
 replace y:=aa ((uH y).all f)
 replace h:=aa ((uH h).trans (f.mono (uH h).size))
 clear f HG K3
 have M:=(uH m).c0;have N:=(uH m).c1;have O:=(uH m).c2;have u0:=(uH t).c0;have u1:=(uH t).c1;have u2:=(uH t).c2
 go_wp2_with fail
 clear M N O u0 u1 u2
 refine(uH K4 _ (uH h)).mono ?_
 rintro e w4 ⟨X,Y,rfl,f⟩
 replace y:=aa ((uH y).all f)
 have ae:=aa (uH h)
 replace h:=aa ((uH h).trans (f.mono (uH h).size))
 have ba:=ab w4 (.cells #[.int .i64 r,.int .i64 q,.slice X L Y] 24)
 have XX:=aa (aq.new w4 (.int .i64 r) (.int .i64 q) (.slice X L Y))
 replace y:=aa ((uH y).all ba)
 replace h:=aa ((uH h).trans (ba.mono (uH h).size))
 clear f ba K4 m t
 clear XX
 have z:=uH y
 have f0:=z.free 0;have f1:=z.free 1;have f2:=z.free 2
 have s0:=z.c0;have s1:=z.c1;have s2:=z.c2
 have Z:=z.put (.int .i64 0) (.int .i64 0) (.slice none 0 0)
 have z0:=Z.c0;have z1:=Z.c1;have z2:=Z.c2
 have BP:=aa (ai (uH h) (b:=w.heap.size+1+1) (by omega) (.int .i64 0) (.int .i64 0) (.slice none 0 0))
 clear Z z
 go_wp2_with fail
 exact bodyPost_ret (v:=.tuple #[.agg #[.int .i64 0,.int .i64 0,.slice none 0 0],.int .i64 2]) (by simp[results,Tryz.results45,go_sem,z0,z1,z2]) rfl ⟨rfl,uH BP⟩
theorem zF(r q:Int)(G H K M gn L:Nat)(D X:List Nat)(I N:Option Addr)(fo fd:Value)(w:World)
  (C1:∀d,Below w.heap.size w d→Calls Tryz.prog 70 #[.agg #[.int .i64 r,.int .i64 r,.slice I G H],.agg #[.int .i64 r,.int .i64 q,.slice N K M]] d fun e l=>e=.returned (.int .i64 0)∧Below d.heap.size d l)
  (C2:∀d,Below w.heap.size w d→Calls Tryz.prog 57 #[.agg #[.int .i64 r,.int .i64 r,.slice I G H]] d fun e l=>∃g,e=.returned (.slice (some ⟨g,0,none⟩) gn gn)∧d.heap.size≤g∧aY l g D∧Below d.heap.size d l)
  (C3:∀d g,Below w.heap.size w d→aY d g D→Calls Tryz.prog 60 #[.slice (some ⟨g,0,none⟩) gn gn,.func (.func 107) #[] #[]] d fun e l=>e=.returned (.bool false)∧Below d.heap.size d l)
  (C4:∀d,Below w.heap.size w d→Calls Tryz.prog 108 #[.agg #[.int .i64 r,.int .i64 r,.slice I G H],.agg #[.int .i64 r,.int .i64 q,.slice N K M],fo,fd] d fun e l=>∃m z,e=.returned (.tuple #[.agg #[.int .i64 r,.int .i64 q,.slice m L z],.bool true])∧bH d.heap.size m (ar X)∧ac l m z (ar X)∧Below d.heap.size d l):
  Calls Tryz.prog 45 #[.agg #[.int .i64 r,.int .i64 r,.slice I G H],.agg #[.int .i64 r,.int .i64 q,.slice N K M],fo,fd] w fun e d=>∃m z,e=.returned (.tuple #[.agg #[.int .i64 r,.int .i64 q,.slice m L z],.int .i64 0])∧bH w.heap.size m (ar X)∧ac d m z (ar X)∧Below w.heap.size w d:=by
 have KB:=aa (bp w (.int .i64 r) (.int .i64 r) (.slice I G H) (.int .i64 r) (.int .i64 q) (.slice N K M) (.int .i64 0) (.int .i64 0) (.slice none 0 0))
 obtain⟨b0,Y,Z,x2⟩:=uH KB _ (by have:=Below.refl (((w.alloc (.cells #[.int .i64 r,.int .i64 r,.slice I G H] 24)).alloc (.cells #[.int .i64 r,.int .i64 q,.slice N K M] 24)).alloc (.cells #[.int .i64 0,.int .i64 0,.slice none 0 0] 24)).heap.size (((w.alloc (.cells #[.int .i64 r,.int .i64 r,.slice I G H] 24)).alloc (.cells #[.int .i64 r,.int .i64 q,.slice N K M] 24)).alloc (.cells #[.int .i64 0,.int .i64 0,.slice none 0 0] 24));simpa only[ad]using this)
 have K1:=aa (C1 _ b0)
 have h:=aa b0;have t:=aa Y;have y:=aa Z;have A:=aa x2
 have K2:=aa C2;have K3:=aa C3;have K4:=aa C4
 have O:=Y.c0;have Q:=Y.c1;have U:=Y.c2;have u0:=Z.c0;have u1:=Z.c1;have u2:=Z.c2
 clear C1 KB b0 Y Z x2
 clear C2 C3 C4
 go_enter Tryz.func45,Tryz.ntmps45
 go_wp2_with fail
 clear O Q U u0 u1 u2
 refine(uH K1).mono ?_
 rintro e w1 ⟨rfl,f⟩
 replace t:=aa ((uH t).all f)
 replace y:=aa ((uH y).all f)
 replace A:=aa ((uH A).all f)
 replace h:=aa ((uH h).trans (f.mono (uH h).size))
 clear f K1
 have O:=(uH t).c0;have Q:=(uH t).c1;have U:=(uH t).c2;have u0:=(uH y).c0;have u1:=(uH y).c1;have u2:=(uH y).c2
 go_wp2_with fail
 clear O Q U u0 u1 u2
 refine(uH K2 _ (uH h)).mono ?_
 rintro e w2 ⟨g,rfl,_,hr,f⟩
 replace t:=aa ((uH t).all f)
 replace y:=aa ((uH y).all f)
 replace A:=aa ((uH A).all f)
 replace h:=aa ((uH h).trans (f.mono (uH h).size))
 have HG:=aa hr
 clear f hr K2
 go_wp2_with fail
 refine(uH K3 _ _ (uH h) (uH HG)).mono ?_
 rintro e w3 ⟨rfl,f⟩
 replace t:=aa ((uH t).all f)
 replace y:=aa ((uH y).all f)
 replace A:=aa ((uH A).all f)
 replace h:=aa ((uH h).trans (f.mono (uH h).size))
 clear f HG K3
 have O:=(uH t).c0;have Q:=(uH t).c1;have U:=(uH t).c2;have u0:=(uH y).c0;have u1:=(uH y).c1;have u2:=(uH y).c2
 go_wp2_with fail
 clear O Q U u0 u1 u2
 refine(uH K4 _ (uH h)).mono ?_
 rintro e w4 ⟨m,z,rfl,hn,hq,f⟩
 replace A:=aa ((uH A).all f)
 have V:=aa (uH h)
 replace h:=aa ((uH h).trans (f.mono (uH h).size))
 have ba:=ab w4 (.cells #[.int .i64 r,.int .i64 q,.slice m L z] 24)
 have XX:=aa (aq.new w4 (.int .i64 r) (.int .i64 q) (.slice m L z))
 replace A:=aa ((uH A).all ba)
 replace h:=aa ((uH h).trans (ba.mono (uH h).size))
 have HN:=aa (hn.least (uH V).size)
 have HQ:=aa (hq.below ba)
 clear hn hq V
 clear f ba K4 t y
 have F:=uH A
 have f0:=F.free 0;have f1:=F.free 1;have f2:=F.free 2
 have s0:=F.c0;have s1:=F.c1;have s2:=F.c2
 have v0:=(uH XX).c0;have v1:=(uH XX).c1;have v2:=(uH XX).c2
 have XP:=F.put (.int .i64 r) (.int .i64 q) (.slice m L z)
 have z0:=XP.c0;have z1:=XP.c1;have z2:=XP.c2
 have BP:=aa (ai (uH h) (b:=w.heap.size+1+1) (by omega) (.int .i64 r) (.int .i64 q) (.slice m L z))
 have QP:=aa ((uH HQ).putM F (.int .i64 r) (.int .i64 q) (.slice m L z))
 clear XP F
 go_wp2_with fail
 exact bodyPost_ret (v:=.tuple #[.agg #[.int .i64 r,.int .i64 q,.slice m L z],.int .i64 0]) (by simp[results,Tryz.results45,go_sem,z0,z1,z2]) rfl ⟨_,_,rfl,uH HN,uH QP,uH BP⟩
end Go.Proofs.YtlnphkioddknfaaGreatDoor
