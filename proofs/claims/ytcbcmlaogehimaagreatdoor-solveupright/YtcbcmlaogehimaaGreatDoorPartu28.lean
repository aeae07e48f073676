/- Part 28 of the texts. -/
import Derived.Test.YtcbcmlaogehimaaGreatDoorPartu27
import Derived.DeepKeys4
set_option maxHeartbeats 4000000
set_option maxRecDepth 20000
namespace Go.Proofs.YtcbcmlaogehimaaGreatDoor
theorem DE:ab 0=0:=by unfold ab;grind
def mf(xs:H3):Bool:=xs.all (fun x=>decide (fK x=0))
def uX:H3->Bool
 | []=>false
 |x::xs=>if fK x=0 then uX xs else fS x
def g9(a:Nat)(xs:H3):Nat:=if uX (a::xs)=true then bM (a::xs)else fN (bM (a::xs))
def mw(a:Nat)(xs:H3):Nat:=aV a (fN (g9 a xs))
def mX:H3->Nat
 | []=>0
 |a::xs=>if mf xs=true then a else g9 a xs
def kA:H3->Nat
 | []=>0
 |a::xs=>if mf xs=true then 0 else dV (aV (g9 a xs) (fN a)) (g9 a xs)
def kt:H3->H3
 | []=>[]
 |a::xs=>4607182418800017408::xs.map (fun x=>if mf xs=true then 0 else dV x (mw a xs))
def GX:H3->Bool
 | []=>true
 |a::xs=>mf xs||(ah (g9 a xs)&&ah (mw a xs))
theorem iV(h:H3):cK (aX h)=h:=by
 unfold cK aX;rw[List.map_map];exact List.map_id'' (fun x=>by simp) h
theorem rP(h:H3):bM h<18446744073709551616:=by
 have:=Oy (aX h)
 rwa[Bp,iV]at this
theorem jg(a:Nat)(h:H3):g9 a h<18446744073709551616:=by
 unfold g9
 split
 ·exact rP _
 ·exact iY _ (rP _)
theorem zW(a:Nat)(h:H3)(l:a<18446744073709551616):mw a h<18446744073709551616:=jc _ _ l (iY _ (jg _ _))
theorem GZ(l:H3)(h:∀x∈l,x<18446744073709551616):mX l<18446744073709551616:=by
 match l with
 | []=>decide
 |a::l=>
  show(if mf l=true then a else g9 a l)<_
  split
  ·exact h a List.mem_cons_self
  ·exact jg _ _
theorem G0(h:H3):kA h<18446744073709551616:=by
 match h with
 | []=>decide
 |a::h=>
  show(if mf h=true then 0 else dV (aV (g9 a h) (fN a)) (g9 a h))<_
  split
  ·decide
  ·exact wD _ _
theorem iW(h:H3):(kt h).length=h.length:=by
 match h with
 | []=>rfl
 |a::h=>simp[kt]
theorem BG{x:Nat}(t:x<18446744073709551616)(D:ah x=true)(h:fQ x=0):fK x=0:=by
 by_cases l:fK x=0
 ·exact l
 ·have F:=(iN x t D l).1
  rw[h,DE]at F;have:=av (eX x)
  grind
theorem rQ{l:H3}(h:mf l=true):∀x∈l,fK x=0:=fun x t=>of_decide_eq_true (List.all_eq_true.1 h x t)
theorem Li{l:H3}(h:mf l=true):aL l=0:=by
 have t:=rQ h;clear h
 induction l with
 |nil=>rfl
 |cons x l ih=>
  show fQ x*fQ x+aL l=0;rw[bf x (t x List.mem_cons_self),ih (fun y D=>t y (List.mem_cons_of_mem _ D))]
  grind
theorem BH(a:Nat)(l:H3):(uX (a::l)=true->fQ a<=0)/\(uX (a::l)=false->0<=fQ a):=by
 have t:=rq (fR a)
 by_cases h:fK a=0
 ·rw[bf a h]
  exact⟨fun _=>Rat.le_refl,fun _=>Rat.le_refl⟩
 ·have e:uX (a::l)=fS a:=if_neg h
  rw[e,dD a];refine⟨fun g=>?_,fun g=>?_⟩
  ·rw[if_pos g];grind
  ·rw[if_neg (by rw[g];decide)];exact t
def bH(c:Nat)(S:H3)(i n q:Nat):H3:=(List.range n).map (fun j=>a8 c S (i+j) q)
def BI(c:Nat)(S:H3)(i q:Nat)(vs:H3)(tau:Nat):H3:=lP (mV tau (cH 0 vs (bH c S i vs.length q))) vs (bH c S i vs.length q)
def rR(r c:Nat)(S:H3)(i k:Nat)(vs:H3)(tau:Nat):H3:=kZ r c (fun p q=>if k<=q/\i<=p/\p<i+vs.length then(BI c S i q vs tau).getD (p-i) 0 else a8 c S p q)
theorem bD(c:Nat)(S:H3)(i n q:Nat):(bH c S i n q).length=n:=by simp[bH]
theorem mg(r c:Nat)(S:H3)(i k:Nat)(l:H3)(h:Nat):(rR r c S i k l h).length=r*c:=cQ _ _ _
theorem Lj(t:Nat):∀(l D:H3),l.length=D.length->(lP t l D).length=l.length:=by
 intro l
 induction l with
 |nil=>intro D _;rfl
 |cons v l ih=>
  intro D h
  match D with
  | []=>cases h
  |y::D=>
   show(lP t l D).length+1=l.length+1;rw[ih D (by simpa using h)]
theorem Lk(c:Nat)(S:H3)(i q:Nat)(l:H3)(h:Nat):(BI c S i q l h).length=l.length:=Lj _ _ _ (bD _ _ _ _ _).symm
theorem OR(t:Nat):∀(D l:H3) (j:Nat),D.length=l.length->j<D.length->(lP t D l).getD j 0=aV (l.getD j 0) (fN (mV t (D.getD j 0))):=by
 intro D
 induction D with
 |nil=>intro l j _ F;exact absurd F (Nat.not_lt_zero j)
 |cons v D ih=>
  intro l j h F
  match l with
  | []=>cases h
  |y::l=>
   match j with
   |0=>rfl
   |j+1=>exact ih l j (by simpa using h) (by simpa using F)
theorem gU(c:Nat)(S:H3)(i n q:Nat){j:Nat}(h:j<n):(bH c S i n q).getD j 0=a8 c S (i+j) q:=by
 simp[bH,List.getD_eq_getElem?_getD,h]
theorem t7(r c:Nat)(S:H3)(i k:Nat)(l:H3)(h:Nat){p q:Nat}(t:p<r)(D:q<c):a8 c (rR r c S i k l h) p q=if k<=q/\i<=p/\p<i+l.length then(BI c S i q l h).getD (p-i) 0 else a8 c S p q:=kw r c _ t D
theorem zX(L:H3):L=(List.range L.length).map (fun j=>L.getD j 0):=by
 refine List.ext_getElem (by simp) (fun j h l=>?_)
 simp[List.getD_eq_getElem?_getD,h]
open Go.RowKit
attribute [local go_sem ↓] Go.wp_at_zero Go.wp_at_succ
theorem cT.least{t l:Nat}{w:World}{v:Value}{S:H3}(h:cT t w v S)(F:l<=t):cT l w v S:=by
 refine⟨⟨h.1.1,?_⟩,h.2⟩;rcases h.1.2 with e|⟨g,cap,D,G,H,rest⟩
 ·exact .inl e
 ·exact .inr ⟨g,cap,D,G,Nat.le_trans F H,rest⟩
theorem cT.putM{l:Nat}{w:World}{v:Value}{S:H3}(h:cT l w v S){b:Nat}{x y z:Value}(_hx:aE w b x y z)(I:b<l)(u u' u'':Value):cT l (((w.setCell ⟨b,0,none⟩ u).setCell ⟨b,1,none⟩ u').setCell ⟨b,2,none⟩ u'') v S:=by
 refine⟨⟨h.1.1,?_⟩,h.2⟩;rcases h.1.2 with e|⟨g,cap,D,F,G,H,rest⟩
 ·exact .inl e
 ·refine .inr ⟨g,cap,D,F,G,?_,rest⟩
  have t:g≠b:=by omega
  rw[Below.heap_setCell _ ⟨b,2,none⟩ u'' g t,Below.heap_setCell _ ⟨b,1,none⟩ u' g t,Below.heap_setCell _ ⟨b,0,none⟩ u g t];exact H
def OS(r c:Nat)(S:H3)(k:Nat):H3:=kX (fun i=>a8 c S i k) r
theorem rT(r c cap k:Nat)(ao:GY)(S:H3)(w:World)(h:Mx w ao cap r c S)(hk:k<c):
  GF 30 #[.agg #[C0 r,C0 c,.slice ao S.length cap],C0 k,C0 0] w fun e K=>∃bo d,e=.returned (.slice bo r d)/\ag K bo d (aX (OS r c S k))/\H8 w K:=by
 have HH:=ac h;have r6:=h.2.2.1;have Z:=an w (.cells #[C0 r,C0 c,.slice ao S.length cap] 24);have b0:=ad w (.cells #[C0 r,C0 c,.slice ao S.length cap] 24);have X0:=aE.new w (C0 r) (C0 c) (.slice ao S.length cap);have L:=ad (w.alloc (.cells #[C0 r,C0 c,.slice ao S.length cap] 24)) (.cells #[] 69);have O0:=cT.nil (w.alloc (.cells #[C0 r,C0 c,.slice ao S.length cap] 24)) (w.heap.size+1) (by rw[Z];omega);rw[Z]at O0;have HO:=ac O0;have HX:=ac (X0.all L);have HB:=ac (b0.trans (L.mono b0.size));obtain⟨l,Q⟩:∃l,S.length=l:=⟨_,rfl⟩;rw[Q]at HX HB HO;rw[Q];have aa:=ac Q;clear h Z b0 X0 L O0 Q
 go_enter Tryz.func30,Tryz.ntmps30
 go_wp2_with fail
 go_loopw[7,8] (fun v i wr=>∃j:Nat,j<=r/\i=.int .i64 j/\Hid (cT (w.heap.size+1) wr v (kX (fun i=>a8 c S i k) j))/\Hid (aE wr w.heap.size (C0 r) (C0 c) (.slice ao l cap))/\Hid (H8 w wr)) (fun _ i _=>r-(intOf i).toNat)
 case atStart=>exact⟨0,Nat.zero_le _,rfl,HO,HX,HB⟩
 case round=>
  clear HO HX HB;obtain⟨j,hj,rfl,U,N,O⟩:=hrel;have t0:=(uH N).c0;have t1:=(uH N).c1;have t2:=(uH N).c2
  by_cases ae:j<r
  ·have ap:(j:Int)<(r:Int):=by omega
   have C:=ac (fun K (m:Mx K ao cap r c S)=>uW r c cap j k ao S K m ae hk);rw[uH aa]at C;have HM:=ac ((uH HH).below O.out);have ho:=ac ((uH HH).el_lt j k);have G:=ac (show(kX (fun i=>a8 c S i k) j).length<=1000000 from by rw[iT];omega);have eS:=ac (oh (fun i=>a8 c S i k) j);generalize a8 c S j k=o at*;go_wp2_with fail;refine(uH C _ (uH HM)).mono ?_;rintro e w2 ⟨rfl,F⟩;have H:=(uH U).below F;have t:=(uH N).all F;have B2:=O.out.trans (F.mono O.out.size);obtain⟨v3,w3,I,J,D,_,_⟩:=H.push o (uH ho) (uH G) (by have:=t.lt;omega) 22;have M:=ac I;have O3:=ac (show cT (w.heap.size+1) w3 v3 (kX (fun i=>a8 c S i k) (j+1))from by rw[uH eS];exact J);have X3:=ac (t.below D (by omega));have B3:=ac (B2.trans (D.mono (by omega)));clear F C U N O H t B2 I J D ho G eS HM t0 t1 t2
   go_wp2_with(at_builtin;refine du _ rfl _ _ 22 rfl _ _ _ _ rfl rfl (uH M) ?_;clear M)
   go_round
   case rel=>exact⟨j+1,by omega,by go_num,O3,X3,B3⟩
   case measure=>simp[intOf];omega
  ·have am:r=j:=by omega
   subst am;obtain⟨L,d1,e1,q1⟩:=(uH U).bits;rw[iT]at e1;subst e1;have Q1:=ac q1;clear q1 U;go_wp2_with fail
   go_ret
   exact⟨L,d1,rfl,uH Q1,O.out⟩
theorem G6(I:List Int)(j:Nat)(h:j<I.length):(cK I).getD j 0=bg I j:=by
 rw[List.getD_eq_getElem?_getD,rK I j h];rfl
theorem G7(L:H3){j:Nat}(h:j<L.length):uX (L.drop j)=if fK (L.getD j 0)=0 then uX (L.drop (j+1))else fS (L.getD j 0):=by
 rw[List.drop_eq_getElem_cons h,List.getD_eq_getElem?_getD,List.getElem?_eq_getElem h];rfl
end Go.Proofs.YtcbcmlaogehimaaGreatDoor
namespace Go.Proofs.YtcbcmlaogehimaaGreatDoor
def DF(r c:Nat)(S:H3)(i k:Nat)(vs:H3)(tau d j:Nat):H3:=kZ r c (fun p q=>if(k<=q/\i<=p/\p<i+vs.length)/\(q<d\/(q=d/\p<i+j))then(BI c S i q vs tau).getD (p-i) 0 else a8 c S p q)
theorem Ll(r c:Nat)(S:H3)(i k:Nat)(l:H3)(h d j:Nat):(DF r c S i k l h d j).length=r*c:=cQ _ _ _
theorem Qn(r c:Nat)(S:H3)(i k:Nat)(t:H3)(l:Nat)(h:S.length=r*c):DF r c S i k t l k 0=S:=by
 unfold DF;rw[<-uT r c S h];refine dL (fun p q _ _=>?_);rw[uT r c S h,if_neg (fun g=>by omega)];rfl
theorem G8(r c:Nat)(S:H3)(i k:Nat)(h:H3)(l d:Nat):DF r c S i k h l d h.length=DF r c S i k h l (d+1) 0:=by
 unfold DF;refine dL (fun p q _ _=>?_)
 by_cases g:(k<=q/\i<=p/\p<i+h.length)/\(q<d\/(q=d/\p<i+h.length))
 ·rw[if_pos g,if_pos ⟨g.1,by omega⟩]
 ·rw[if_neg g,if_neg (fun t=>g ⟨t.1,by omega⟩)]
theorem Lm(r c:Nat)(S:H3)(i k:Nat)(l:H3)(h d:Nat)(D:c<=d):DF r c S i k l h d 0=rR r c S i k l h:=by
 unfold DF rR;refine dL (fun p q _ F=>?_)
 by_cases g:k<=q/\i<=p/\p<i+l.length
 ·rw[if_pos g,if_pos ⟨g,by omega⟩]
 ·rw[if_neg g,if_neg (fun t=>g t.1)]
theorem Ln(r c:Nat)(S:H3){i k:Nat}{l:H3}{h d j:Nat}(G:i+l.length<=r)(t:d<c)(D:k<=d)(H:j<l.length):
  (DF r c S i k l h d j).set ((i+j)*c+d) ((BI c S i d l h).getD j 0)=DF r c S i k l h d (j+1):=by
 unfold DF;rw[ql r c _ _ (show i+j<r by omega) t];refine dL (fun p q _ _=>?_)
 by_cases e:p=i+j/\q=d
 ·obtain⟨rfl,rfl⟩:=e
  rw[if_pos ⟨rfl,rfl⟩,if_pos ⟨⟨D,by omega,by omega⟩,.inr ⟨rfl,by omega⟩⟩,show i+j-i=j by omega]
 ·rw[if_neg e]
  by_cases g:(k<=q/\i<=p/\p<i+l.length)/\(q<d\/(q=d/\p<i+j))
  ·rw[if_pos g,if_pos ⟨g.1,by omega⟩]
  ·rw[if_neg g,if_neg (fun F=>g ⟨F.1,by omega⟩)]
theorem uY(c:Nat)(S:H3)(i q:Nat)(h:H3)(l:Nat){j:Nat}(t:j<h.length):
  (BI c S i q h l).getD j 0=aV (a8 c S (i+j) q) (fN (mV (mV l (cH 0 h (bH c S i h.length q))) (h.getD j 0))):=by
 unfold BI;rw[OR _ h _ j (bD _ _ _ _ _).symm t,gU c S i h.length q t]
theorem G9(c:Nat)(S:H3)(i q:Nat)(l:H3)(h:Nat){j:Nat}(t:j<l.length)(D:∀p q,a8 c S p q<18446744073709551616):(BI c S i q l h).getD j 0<18446744073709551616:=by
 rw[uY c S i q l h t];exact jc _ _ (D _ _) (iY _ (iQ _ _))
theorem Ha(x y:Nat):∀(t l:H3) (s:Nat),t.length=l.length->cH s (t++[x]) (l++[y])=aV (cH s t l) (mV x y):=by
 intro t
 induction t with
 |nil=>
  intro l s h
  match l with
  | []=>rfl
  |y'::l=>cases h
 |cons x' t ih=>
  intro l s h
  match l with
  | []=>cases h
  |y'::l=>exact ih l _ (by simpa using h)
theorem BJ(I J:List Int):∀j,j<=I.length->j<=J.length->uR I J j=cH 0 ((cK I).take j) ((cK J).take j):=by
 intro j
 induction j with
 |zero=>intro _ _;rfl
 |succ j ih=>
  intro h l;rw[nZ I j h,nZ J j l,Ha _ _ _ _ _ (by simp[iS];omega),<-ih (by omega) (by omega)];rfl
end Go.Proofs.YtcbcmlaogehimaaGreatDoor
