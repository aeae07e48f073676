/- Part 34 of the texts. -/
import Derived.Test.YtenpggicmfhhdaaGreatDoorParte33
set_option maxHeartbeats 8000000
set_option maxRecDepth 20000
namespace Go.Proofs.YtenpggicmfhhdaaGreatDoor
open Go.RowKit
attribute [local go_sem ↓] Go.wp_at_zero Go.wp_at_succ
theorem gR(r c d:Nat)(D:Option Addr)(S:List Nat)(w:World)(h:Mx w D d r c S):
  Calls Tryz.prog 28 #[.agg #[.int .i64 r,.int .i64 c,.slice D S.length d]] w fun e G=>∃v,e=.returned v∧az 0 G c r (dC c r (fun k i=>dJ c S i k)) v∧Below w.heap.size w G:=by
 have HH:=aa h
 have a6:=h.2.2.1;have a7:=h.2.2.2
 have K1:=aa (fun G=>m4 c r G (by omega) (by omega))
 have b0:=ac w (.cells #[.int .i64 r,.int .i64 c,.slice D S.length d] 24)
 have b1:=ac (w.alloc (.cells #[.int .i64 r,.int .i64 c,.slice D S.length d] 24)) (.cells #[.int .i64 0,.int .i64 0,.slice none 0 0] 24)
 have s0:=ai w (.cells #[.int .i64 r,.int .i64 c,.slice D S.length d] 24)
 have s1:=ai (w.alloc (.cells #[.int .i64 r,.int .i64 c,.slice D S.length d] 24)) (.cells #[.int .i64 0,.int .i64 0,.slice none 0 0] 24)
 have X0:=au.new w (.int .i64 r) (.int .i64 c) (.slice D S.length d)
 have X1:=au.new (w.alloc (.cells #[.int .i64 r,.int .i64 c,.slice D S.length d] 24)) (.int .i64 0) (.int .i64 0) (.slice none 0 0)
 have O:=aa (X0.all b1)
 rw[s0]at X1
 have U:=aa X1
 have H:=aa (b0.trans (b1.mono b0.size))
 have I:=aa (s1.trans (by rw[s0]))
 have HL:=aa h.2.1
 obtain⟨l,hl⟩:∃l,S.length=l:=⟨_,rfl⟩
 rw[hl]at O U H I
 rw[hl]
 have aI:=aa hl
 obtain⟨f,hf⟩:∃f:Nat→Nat→Nat,f=(fun k i=>dJ c S i k):=⟨_,rfl⟩
 rw[←hf]
 have HF:=aa hf
 clear b0 b1 s0 s1 X0 X1 h hl hf
 go_enter Tryz.func28,Tryz.ntmps28
 go_wp2_with fail
 refine(uH K1 _).mono ?_
 rintro e Y ⟨v,rfl,⟨mo,mc,rfl,nw,qs⟩,F⟩
 have ba:=ac Y (.cells #[.int .i64 c,.int .i64 r,.slice mo (List.replicate (c*r) 0).length mc] 24)
 have BB:=(uH H).trans (F.mono (uH H).size)
 have L0:=aa (show lg w (Y.alloc (.cells #[.int .i64 c,.int .i64 r,.slice mo (dC c r (n6 f 0 0)).length mc] 24)) Y.heap.size (w.heap.size+1) c r mo mc (dC c r (n6 f 0 0))from by
  rw[zO]
  exact⟨BB.trans (ba.mono BB.size),au.new Y _ _ _,((uH U).all F).all ba,qs.below ba,by have:=F.size;rw[uH I]at this;omega,BB.size⟩)
 have A0:=aa (show au (Y.alloc (.cells #[.int .i64 c,.int .i64 r,.slice mo (dC c r (n6 f 0 0)).length mc] 24)) w.heap.size (.int .i64 r) (.int .i64 c) (.slice D l d)from by
  rw[zO]
  exact((uH O).all F).all ba)
 have NE:=aa (show w.heap.size≠Y.heap.size from by have:=F.size;rw[uH I]at this;omega)
 rw[←zO c r f]
 clear K1 F ba BB nw qs H O U I
 have K:=(uH A0).c0;have L:=(uH A0).c1;have M:=(uH A0).c2
 go_wp2_with fail
 generalize Y.heap.size=g at*
 go_loopw[4] (fun i wr=>∃(j:Nat) (y:Option Addr) (z:Nat),j≤r∧i=.int .i64 j∧Hid (lg w wr g (w.heap.size+1) c r y z (dC c r (n6 f j 0)))∧Hid (au wr w.heap.size (.int .i64 r) (.int .i64 c) (.slice D l d))) (fun i _=>r-(intOf i).toNat)
 case atStart=>exact⟨0,mo,mc,Nat.zero_le _,rfl,L0,A0⟩
 case round=>
  clear L0 A0 K L M
  obtain⟨j,y,z,hj,rfl,t,A⟩:=hrel
  by_cases a0:j<r
  ·have a9:(j:Int)<(r:Int):=by omega
   have K:=(uH A).c0;have L:=(uH A).c1;have M:=(uH A).c2
   go_wp2_with fail
   go_loopw[5] (fun i wr=>∃(k:Nat) (y:Option Addr) (z:Nat),k≤c∧i=.int .i64 k∧Hid (lg w wr g (w.heap.size+1) c r y z (dC c r (n6 f j k)))∧Hid (au wr w.heap.size (.int .i64 r) (.int .i64 c) (.slice D l d))) (fun i _=>c-(intOf i).toNat)
   case atStart=>exact⟨0,y,z,Nat.zero_le _,rfl,t,A⟩
   case round=>
    clear t A K L M y z
    obtain⟨k,y,z,hk,rfl,t,A⟩:=hrel
    have K:=(uH A).c0;have L:=(uH A).c1;have M:=(uH A).c2
    by_cases a1:k<c
    ·have bb:(k:Int)<(c:Int):=by omega
     have y0:=(uH t).box.c0;have y1:=(uH t).box.c1;have y2:=(uH t).box.c2
     have C1:=aa (fun G (m:Mx G D d r c S)=>uS r c d j k D S G m (by omega) (by omega))
     have C2:=aa (fun G y z (m:Mx G y z c r (dC c r (n6 f j k)))=>gQ c r z k j (f k j) y (dC c r (n6 f j k)) G m (by omega) (by omega) (by rw[uH HF];exact(uH HH).el_lt _ _))
     rw[zP c r f a0 a1]at C2
     rw[uH aI,show dJ c S j k=f k j from by rw[uH HF]]at C1
     have HM:=aa ((uH HH).below (uH t).bel)
     have HP:=aa (show(dC c r (n6 f j k)).length=c*r from bY _ _ _)
     generalize f k j=x at*
     generalize dC c r (n6 f j k)=T at*
     generalize ax:dC c r (n6 f j (k+1))=T2 at*
     have a2:=aa ax
     clear ax
     go_wp2_with fail
     go_region_with (first|(go_at_call 18;refine(uH C1 _ (by exact uH HM)).mono ?_;rintro e w4 ⟨rfl,aj⟩;have V:Below wr.heap.size wr w4:=((Below.refl wr.heap.size wr).drew).trans aj;clear aj K L M y0 y1 y2;have L4:=(uH t).all V;have A4:=(uH A).all V;have K:=A4.c0;have L:=A4.c1;have M:=A4.c2;have y0:=L4.box.c0;have y1:=L4.box.c1;have y2:=L4.box.c2;have X:=aa L4;have ae:=aa A4;clear V L4 A4)|(go_at_call 45;refine(uH C2 _ _ _ ⟨(uH X).bits,uH HP,by omega,by omega⟩).mono ?_;rintro e w5 ⟨v,rfl,⟨am,av,rfl,_,q5⟩,Z⟩;clear K L M y0 y1 y2;have N:=(uH X).all Z;have A5:=(uH ae).all Z;have y0:=N.box.c0;have y1:=N.box.c1;have y2:=N.box.c2;have f0:=N.box.free 0;have f1:=N.box.free 1;have f2:=N.box.free 2;have L6:=aa (N.put q5);have A6:=aa (((A5.other (p:=⟨g,0,none⟩) (uH NE) (.int .i64 c)).other (p:=⟨g,1,none⟩) (uH NE) (.int .i64 r)).other (p:=⟨g,2,none⟩) (uH NE) (.slice am T2.length av));clear Z N A5 q5 X ae)|fail "NO ARM")
     all_goals
      clear t A HM C1 C2 y0 y1 y2 f0 f1 f2
      go_wp2_with fail
      go_round
      case rel=>exact⟨k+1,am,av,by omega,by go_num,by rw[uH a2];exact L6,A6⟩
      case measure=>simp[intOf];omega
    ·have a3:c=k:=by omega
     subst a3
     have a4:=aa (show lg w _ g (w.heap.size+1) c r y z (dC c r (n6 f (j+1) 0))from by rw[←Ds c r f j];exact uH t)
     clear t
     go_wp2_with fail
     go_round
     case rel=>exact⟨j+1,y,z,by omega,by go_num,a4,A⟩
     case measure=>simp[intOf];omega
  ·have a5:r=j:=by omega
   subst a5
   rw[Dt]at t
   have K:=(uH A).c0;have L:=(uH A).c1;have M:=(uH A).c2
   have y0:=(uH t).box.c0;have y1:=(uH t).box.c1;have y2:=(uH t).box.c2
   have r0:=(uH t).res.c0;have r1:=(uH t).res.c1;have r2:=(uH t).res.c2
   have f0:=(uH t).res.free 0;have f1:=(uH t).res.free 1;have f2:=(uH t).res.free 2
   have XP:=(uH t).res.put (.int .i64 c) (.int .i64 r) (.slice y (dC c r f).length z)
   have z0:=XP.c0;have z1:=XP.c1;have z2:=XP.c2
   have Q:=aa (ab.putM (uH t).bits (uH t).res (.int .i64 c) (.int .i64 r) (.slice y (dC c r f).length z))
   have BP:=aa (al (uH t).bel (b:=w.heap.size+1) (by omega) (.int .i64 c) (.int .i64 r) (.slice y (dC c r f).length z))
   clear XP t
   go_wp2
   exact bodyPost_ret (v:=.agg #[.int .i64 c,.int .i64 r,.slice y (dC c r f).length z]) (by simp[results,Tryz.results28,go_sem,z0,z1,z2]) rfl ⟨_,rfl,az.any (uH Q),uH BP⟩
theorem au.away{w:World}{g b k:Nat}{x y:Int}{a:Option Addr}{n d:Nat}{z:Int}(h:au w b (.int .i64 x) (.int .i64 y) (.slice a n d))(f:w.cell? ⟨g,k,none⟩=some (.int .u64 z)):b≠g:=by
 rintro rfl
 rw[cell_of_row w b k _ _ _ h]at f
 rcases(show k=0∨k=1∨k=2∨3≤k by omega)with e|e|e|e
 ·subst e;simp at f
 ·subst e;simp at f
 ·subst e;simp at f
 ·rw[Array.getElem?_eq_none (by simp;omega)]at f;simp at f
theorem wN(N O:Option Addr)(c d:Nat)(I J:List Int)(w:World)(Q:ab w N c I)(T:ab w O d J)(H:I.length=J.length)(hn:I.length≤35184372088830):
  Calls Tryz.prog 66 #[.slice N I.length c,.slice O J.length d] w fun e f=>e=.returned (.int .u64 (jl I J I.length:Nat))∧Below w.heap.size w f:=by
 have U:=aa Q;have V:=aa T
 obtain⟨n,l⟩:∃n,I.length=n:=⟨_,rfl⟩
 rw[←H,l]
 rw[l]at hn H
 have X:=aa l;have Y:=aa H.symm
 clear Q T l H
 go_enter Tryz.func66,Tryz.ntmps66
 go_wp2_with fail
 go_loopw[5,6] (fun t i wr=>∃k:Nat,k≤n∧i=.int .i64 k∧t=.int .u64 (jl I J k:Nat)∧Hid (Below w.heap.size w wr)) (fun _ i _=>n-(intOf i).toNat)
 case atStart=>exact⟨0,Nat.zero_le _,rfl,rfl,Below.refl _ _⟩
 case round=>
  obtain⟨k,hk,rfl,rfl,z⟩:=hrel
  by_cases m:k<n
  ·have ae:(k:Int)<(n:Int):=by omega
   obtain⟨b1,o1,L,av,A⟩:=((uH U).below z.out).ne (by rw[uH X];omega)
   obtain⟨b2,o2,M,ax,D⟩:=((uH V).below z.out).ne (by rw[uH Y];omega)
   have Z:=A k (by rw[uH X];exact m)
   have cy:=D k (by rw[uH Y];exact m)
   have C1:=aa (fun f=>i9 (aP I k) (aP J k) f ((uH U).lt k) ((uH V).lt k))
   have C2:=aa (fun f=>oX (jl I J k) (mV (aP I k) (aP J k)) f (ia I J k) (iB _ _))
   have eV:Hid (jl I J (k+1)=aV (jl I J k) (mV (aP I k) (aP J k))):=rfl
   subst L
   subst M
   clear A D
   generalize aV (jl I J k) (mV (aP I k) (aP J k))=o at*
   generalize mV (aP I k) (aP J k)=p at*
   generalize aP I k=x at*
   generalize aP J k=y at*
   generalize jl I J k=s at*
   have HK:=aa (fun f (h:Below wr.heap.size wr f)=>(show Below wr.heap.size wr f∧f.cell? ⟨b1,o1+k,none⟩=some (.int .u64 (x:Nat))∧f.cell? ⟨b2,o2+k,none⟩=some (.int .u64 (y:Nat))from⟨h,ag Z h,ag cy h⟩))
   clear Z cy
   go_wp2_with fail
   go_region_held3(fun f=>Below wr.heap.size wr f∧f.cell? ⟨b1,o1+k,none⟩=some (.int .u64 (x:Nat))∧f.cell? ⟨b2,o2+k,none⟩=some (.int .u64 (y:Nat)))
    (first|exact uH HK _ (Below.refl _ _).drew|exact uH HK _ (by assumption)|fail "KK")
    (first|(go_at_call 65;refine(uH C1 _).mono ?_;rintro e w1 ⟨rfl,F⟩;have aj:Below wr.heap.size wr w1:=Below.trans (And.left (by assumption)) (F.mono (Below.size (And.left (by assumption))));clear F)|(go_at_call 83;refine(uH C2 _).mono ?_;rintro e w2 ⟨rfl,G⟩;have am:Below wr.heap.size wr w2:=Below.trans (And.left (by assumption)) (G.mono (Below.size (And.left (by assumption))));clear G)|fail "NO ARM")
   have B2:Hid (Below w.heap.size w _):=z.out.trans (Below.mono (And.left (by assumption)) z.out.size)
   go_wp2_with fail
   go_round
   case rel=>exact⟨k+1,by omega,by go_num,by rw[eV.out],B2⟩
   case measure=>simp[intOf];omega
  ·have K:k=n:=by omega
   subst K
   go_wp2_with fail
   exact bodyPost_ret (v:=.int .u64 (jl I J k:Nat)) (by simp[results,Tryz.results66,go_sem]) rfl ⟨rfl,z.out⟩
theorem Ah(a b v:Nat)(o:Option Nat)(w:World)
  (D:∀i d,(binOp .sub i (.float .f64 a) (.float .f64 b)).run Tryz.prog d=.ok (.float .f64 (e9 o a b d)) (kD o d))
  (h:∀d,Calls Tryz.prog 86 #[.int .u64 a] d fun r f=>r=.returned (.float .f64 a)∧d=f)
  (l:∀d,Calls Tryz.prog 86 #[.int .u64 b] d fun r f=>r=.returned (.float .f64 b)∧d=f)
  (m:∀u d,Calls Tryz.prog 85 #[.float .f64 (e9 o a b u)] d fun r f=>r=.returned (.int .u64 v)∧d=f):
  Calls Tryz.prog 63 #[.int .u64 a,.int .u64 b] w fun r d=>r=.returned (.int .u64 (v:Nat))∧Below w.heap.size w d:=by
 have t:=aa h;have y:=aa l;have z:=aa m
 have B:=aa (fU o w)
 clear h l m
 go_enter Tryz.func63,Tryz.ntmps63
 go_wp2_with fail
 refine(uH t _).mono ?_
 rintro e A ⟨rfl,rfl⟩
 go_wp2_with fail
 refine(uH y _).mono ?_
 rintro e A ⟨rfl,rfl⟩
 go_wp2_with fail
 refine(uH z _ _).mono ?_
 rintro e A ⟨rfl,rfl⟩
 clear t y z
 go_wp2
 go_ret
 exact⟨rfl,uH B⟩
theorem jb(a b:Nat)(w:World)(m:a<18446744073709551616)(f:b<18446744073709551616):
  Calls Tryz.prog 63 #[.int .u64 a,.int .u64 b] w fun r d=>r=.returned (.int .u64 (aV a (fN b):Nat))∧Below w.heap.size w d:=by
 refine Ah a b (aV a (fN b)) (Ieee.double.sub a b) w (fun i d=>yX i a b d) (fun d=>gu a d m) (fun d=>gu b d f) (fun u d=>oW _ _ d (fun l=>?_))
 rw[yv a b f]
 cases h:Ieee.double.add a (fN b)with
 |some r=>
  have:=oT a (fN b) u l m (jJ b f)
  rw[h]at this
  exact this
 |none=>
  have t:aN a (fN b)=true:=by
   cases e:aN a (fN b)with
   |true=>rfl
   |false=>rw[oN a (fN b) m (jJ b f) e]at h;cases h
  rw[(oL a (fN b) m (jJ b f) t).2]
  obtain⟨y,z⟩:=kE a b u
  have:=ew _ l y
  rw[if_pos z]at this
  exact this
theorem Ai(a b v:Nat)(o:Option Nat)(w:World)
  (D:∀i d,(binOp .quo i (.float .f64 a) (.float .f64 b)).run Tryz.prog d=.ok (.float .f64 (e9 o a b d)) (kD o d))
  (h:∀d,Calls Tryz.prog 86 #[.int .u64 a] d fun r f=>r=.returned (.float .f64 a)∧d=f)
  (l:∀d,Calls Tryz.prog 86 #[.int .u64 b] d fun r f=>r=.returned (.float .f64 b)∧d=f)
  (m:∀u d,Calls Tryz.prog 85 #[.float .f64 (e9 o a b u)] d fun r f=>r=.returned (.int .u64 v)∧d=f):
  Calls Tryz.prog 64 #[.int .u64 a,.int .u64 b] w fun r d=>r=.returned (.int .u64 (v:Nat))∧Below w.heap.size w d:=by
 have t:=aa h;have y:=aa l;have z:=aa m
 have B:=aa (fU o w)
 clear h l m
 go_enter Tryz.func64,Tryz.ntmps64
 go_wp2_with fail
 refine(uH t _).mono ?_
 rintro e A ⟨rfl,rfl⟩
 go_wp2_with fail
 refine(uH y _).mono ?_
 rintro e A ⟨rfl,rfl⟩
 go_wp2_with fail
 refine(uH z _ _).mono ?_
 rintro e A ⟨rfl,rfl⟩
 clear t y z
 go_wp2
 go_ret
 exact⟨rfl,uH B⟩
theorem oZ(a b:Nat)(w:World)(h:a<18446744073709551616)(l:b<18446744073709551616):
  Calls Tryz.prog 64 #[.int .u64 a,.int .u64 b] w fun r d=>r=.returned (.int .u64 (dV a b:Nat))∧Below w.heap.size w d:=
 Ai a b (dV a b) (Ieee.double.div a b) w (fun i d=>zc i a b d) (fun d=>gu a d h) (fun d=>gu b d l) (fun u d=>oW _ _ d (fun f=>v7 a b u f h l))
end Go.Proofs.YtenpggicmfhhdaaGreatDoor
