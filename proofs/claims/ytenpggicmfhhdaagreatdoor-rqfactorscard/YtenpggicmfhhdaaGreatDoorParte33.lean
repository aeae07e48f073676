/- Part 33 of the texts. -/
import Derived.Test.YtenpggicmfhhdaaGreatDoorParte32
import Derived.DeepKeys4
set_option maxHeartbeats 4000000
set_option maxRecDepth 20000
namespace Go.Proofs.YtenpggicmfhhdaaGreatDoor
open Go.RowKit
structure Nm where
 neg:Bool
 ao:Option Addr
 cap:Nat
 L:List Nat
structure Rw where
 ao:Option Addr
 cap:Nat
 R:List Nm
def Nm.nil:Nm:=⟨false,none,0,[]⟩
def Rw.nil:Rw:=⟨none,0,[]⟩
def GC(R:List Nm)(k:Nat):Nm:=R[k]?.getD Nm.nil
def GD(M:List Rw)(i:Nat):Rw:=M[i]?.getD Rw.nil
attribute [local go_sem ↓] Go.wp_at_zero Go.wp_at_succ
def jm(r c:Int)(I:List Int):Int:=if jA r c I.length=true then(if fu I I.length=true then 0 else 4)else 1
theorem m6(r c:Int)(F:Option Addr)(d:Nat)(I:List Int)(w:World)(hI:ab w F d I)(hn:I.length≤35184372088830):
  Calls Tryz.prog 34 #[.agg #[.int .i64 r,.int .i64 c,.slice F I.length d]] w fun e G=>e=.returned (.int .i64 (jm r c I))∧Below w.heap.size w G:=by
 have m:=aa (fun G=>ey r c F I.length d G hn)
 have b0:=ac w (.cells #[.int .i64 r,.int .i64 c,.slice F I.length d] 24)
 have z:=aa b0;have T:=aa (au.new w (.int .i64 r) (.int .i64 c) (.slice F I.length d));have HI:=aa hI
 clear b0 hI
 cases ho:jA r c I.length
 ·rw[ho]at m
  have e:jm r c I=1:=by unfold jm;rw[ho];rfl
  rw[e]
  rw[if_neg (by decide)]at m
  clear e ho
  go_enter Tryz.func34,Tryz.ntmps34
  go_wp2_with fail
  refine(uH m _).mono ?_
  rintro e Z ⟨rfl,f⟩
  clear m
  go_wp2
  go_ret
  exact⟨rfl,(uH z).trans (f.mono (uH z).size)⟩
 ·rw[ho]at m
  rw[if_pos rfl]at m
  have e:jm r c I=if fu I I.length=true then 0 else 4:=by unfold jm;rw[ho];rfl
  rw[e]
  clear e ho
  obtain⟨N,t⟩:∃N:Int,(if fu I I.length=true then 0 else 4)=N:=⟨_,rfl⟩
  rw[t]
  obtain⟨n,y⟩:∃n,I.length=n:=⟨_,rfl⟩
  have HN:=aa y
  rw[y]at m z T hn t⊢
  have FE:=aa t
  clear y t
  go_enter Tryz.func34,Tryz.ntmps34
  go_wp2_with fail
  refine(uH m _).mono ?_
  rintro e Z ⟨rfl,f⟩
  have O:=aa ((uH z).trans (f.mono (uH z).size));have X1:=aa ((uH T).all f)
  clear m z T f
  have Q:=(uH X1).c2
  go_wp2_with fail
  go_loopw[13] (fun i wr=>∃k:Nat,k≤n∧i=.int .i64 k∧Hid (Below Z.heap.size Z wr)∧Hid (fu I k=true)) (fun i _=>n-(intOf i).toNat)
  case atStart=>exact⟨0,Nat.zero_le _,rfl,Below.refl _ _,rfl⟩
  case round=>
   clear Q
   obtain⟨k,hk,rfl,M,hF⟩:=hrel
   have Q:=((uH X1).all (uH M)).c2
   by_cases U:k<n
   ·have ae:(k:Int)<(n:Int):=by omega
    have V:=aa ((uH O).trans ((uH M).mono (uH O).size))
    obtain⟨b,aj,Y,hb,hc⟩:=((uH HI).below (uH V)).ne (by rw[uH HN];omega)
    have H:=hc k (by rw[uH HN];exact U)
    have K:=(uH HI).lt k
    have A:=aa (fun G=>eM (aP I k) G K)
    have D:=aa (show fu I (k+1)=(fu I k&&aD (aP I k))from rfl)
    subst Y
    clear hc K hb
    cases hf:aD (aP I k)
    ·rw[hf]at A D
     have e:fu I n=false:=by
      cases h:fu I n
      ·rfl
      ·have:=rE I n (k+1) (by omega) h
       rw[uH D,Bool.and_false]at this
       cases this
     have E4:=aa (show(4:Int)=N from by rw[←uH FE,if_neg (by rw[e];decide)])
     clear e D hf
     generalize aP I k=x at*
     go_wp2_with fail
     refine(uH A _).mono ?_
     rintro e w3 ⟨rfl,l⟩
     have L:=aa ((uH V).trans (l.mono (uH V).size))
     clear A l H Q
     go_wp2
     go_ret
     exact⟨aQ (uH E4),uH L⟩
    ·rw[hf]at A D
     rw[uH hF,Bool.true_and]at D
     clear hf
     generalize aP I k=x at*
     go_wp2_with fail
     refine(uH A _).mono ?_
     rintro e w3 ⟨rfl,l⟩
     have L:=aa ((uH M).trans (l.mono (uH M).size))
     clear A l H Q
     go_wp2
     go_round
     case rel=>exact⟨k+1,by omega,by go_num,L,D⟩
     case measure=>simp[intOf];omega
   ·have X:k=n:=by omega
    subst X
    have E0:=aa (show(0:Int)=N from by rw[←uH FE,if_pos (uH hF)])
    have L:=aa ((uH O).trans ((uH M).mono (uH O).size))
    go_wp2
    go_ret
    exact⟨aQ (uH E0),uH L⟩
end Go.Proofs.YtenpggicmfhhdaaGreatDoor
namespace Go.Proofs.YtenpggicmfhhdaaGreatDoor
def ik(xs:List Nat):Bool:=xs.all (fun x=>decide (fK x=0))
def lf:List Nat→Bool
 | []=>false
 |x::xs=>if fK x=0 then lf xs else fS x
def fd(a:Nat)(xs:List Nat):Nat:=if lf (a::xs)=true then nF (a::xs)else fN (nF (a::xs))
def iK(a:Nat)(xs:List Nat):Nat:=aV a (fN (fd a xs))
def xn:List Nat→Nat
 | []=>0
 |a::xs=>if ik xs=true then a else fd a xs
def kJ:List Nat→Nat
 | []=>0
 |a::xs=>if ik xs=true then 0 else dV (aV (fd a xs) (fN a)) (fd a xs)
def je:List Nat→List Nat
 | []=>[]
 |a::xs=>4607182418800017408::xs.map (fun x=>if ik xs=true then 0 else dV x (iK a xs))
def xp:List Nat→Bool
 | []=>true
 |a::xs=>ik xs||(aD (fd a xs)&&aD (iK a xs))
theorem dg(d:List Nat):aU (ar d)=d:=by
 unfold aU ar
 rw[List.map_map]
 exact List.map_id'' (fun x=>by simp) d
theorem m7(d:List Nat):nF d<18446744073709551616:=by
 have:=Fi (ar d)
 rwa[lF,dg]at this
theorem f9(a:Nat)(d:List Nat):fd a d<18446744073709551616:=by
 unfold fd
 split
 ·exact m7 _
 ·exact jJ _ (m7 _)
theorem m8(a:Nat)(d:List Nat)(f:a<18446744073709551616):iK a d<18446744073709551616:=mn _ _ f (jJ _ (f9 _ _))
theorem Ac(d:List Nat)(h:∀x∈d,x<18446744073709551616):xn d<18446744073709551616:=by
 match d with
 | []=>decide
 |a::d=>
  show(if ik d=true then a else fd a d)<_
  split
  ·exact h a List.mem_cons_self
  ·exact f9 _ _
theorem pL(d:List Nat):kJ d<18446744073709551616:=by
 match d with
 | []=>decide
 |a::d=>
  show(if ik d=true then 0 else dV (aV (fd a d) (fN a)) (fd a d))<_
  split
  ·decide
  ·exact uG _ _
theorem pO(d:List Nat):(je d).length=d.length:=by
 match d with
 | []=>rfl
 |a::d=>simp[je]
theorem Ad{d:List Nat}(h:ik d=true):∀x∈d,fK x=0:=fun x f=>of_decide_eq_true (List.all_eq_true.1 h x f)
def eg(c:Nat)(S:List Nat)(i n q:Nat):List Nat:=(List.range n).map (fun j=>dJ c S (i+j) q)
def Ae(c:Nat)(S:List Nat)(i q:Nat)(vs:List Nat)(tau:Nat):List Nat:=F6 (mV tau (s6 0 vs (eg c S i vs.length q))) vs (eg c S i vs.length q)
def km(r c:Nat)(S:List Nat)(i k:Nat)(vs:List Nat)(tau:Nat):List Nat:=dC r c (fun p q=>if k≤q∧i≤p∧p<i+vs.length then(Ae c S i q vs tau).getD (p-i) 0 else dJ c S p q)
theorem bU(c:Nat)(S:List Nat)(i n q:Nat):(eg c S i n q).length=n:=by simp[eg]
theorem gg(r c:Nat)(S:List Nat)(i k:Nat)(f:List Nat)(d:Nat):(km r c S i k f d).length=r*c:=bY _ _ _
theorem Gw(t:Nat):∀(d f:List Nat),d.length=f.length→(F6 t d f).length=d.length:=by
 intro d
 induction d with
 |nil=>intro f _;rfl
 |cons v d ih=>
  intro f h
  match f with
  | []=>cases h
  |y::f=>
   show(F6 t d f).length+1=d.length+1
   rw[ih f (by simpa using h)]
theorem Fr(t:Nat):∀(f d:List Nat) (j:Nat),f.length=d.length→j<f.length→(F6 t f d).getD j 0=aV (d.getD j 0) (fN (mV t (f.getD j 0))):=by
 intro f
 induction f with
 |nil=>intro d j _ l;exact absurd l (Nat.not_lt_zero j)
 |cons v f ih=>
  intro d j h l
  match d with
  | []=>cases h
  |y::d=>
   match j with
   |0=>rfl
   |j+1=>exact ih d j (by simpa using h) (by simpa using l)
theorem pP(c:Nat)(S:List Nat)(i n q:Nat){j:Nat}(d:j<n):(eg c S i n q).getD j 0=dJ c S (i+j) q:=by
 simp[eg,List.getD_eq_getElem?_getD,d]
theorem Gj(r c:Nat)(S:List Nat)(i k:Nat)(f:List Nat)(d:Nat){p q:Nat}(h:p<r)(l:q<c):dJ c (km r c S i k f d) p q=if k≤q∧i≤p∧p<i+f.length then(Ae c S i q f d).getD (p-i) 0 else dJ c S p q:=oY r c _ h l
theorem tJ(L:List Nat):L=(List.range L.length).map (fun j=>L.getD j 0):=by
 refine List.ext_getElem (by simp) (fun j d f=>?_)
 simp[List.getD_eq_getElem?_getD,d]
open Go.RowKit
attribute [local go_sem ↓] Go.wp_at_zero Go.wp_at_succ
structure lg (w wr:World) (g gr p q:Nat) (mo:Option Addr) (mc:Nat) (S:List Nat):Prop where
 bel:Below w.heap.size w wr
 box:au wr g (.int .i64 p) (.int .i64 q) (.slice mo S.length mc)
 res:au wr gr (.int .i64 0) (.int .i64 0) (.slice none 0 0)
 bits:ab wr mo mc (ar S)
 ne:gr≠g
 lo:w.heap.size≤g
theorem lg.all{w wr f:World}{g l p q:Nat}{m:Option Addr}{t:Nat}{S:List Nat}(h:lg w wr g l p q m t S)(d:Below wr.heap.size wr f):lg w f g l p q m t S:=
 ⟨h.bel.trans (d.mono h.bel.size),h.box.all d,h.res.all d,h.bits.below d,h.ne,h.lo⟩
theorem lg.put{w wr:World}{g l p q:Nat}{m:Option Addr}{t:Nat}{S:List Nat}(h:lg w wr g l p q m t S){d:Option Addr}{f:Nat}{T:List Nat}(y:ab wr d f (ar T)):
  lg w (((wr.setCell ⟨g,0,none⟩ (.int .i64 p)).setCell ⟨g,1,none⟩ (.int .i64 q)).setCell ⟨g,2,none⟩ (.slice d T.length f)) g l p q d f T:=
 ⟨al h.bel h.lo _ _ _,h.box.put _ _ _,((h.res.other (p:=⟨g,0,none⟩) h.ne _).other (p:=⟨g,1,none⟩) h.ne _).other (p:=⟨g,2,none⟩) h.ne _,y.putM h.box _ _ _,h.ne,h.lo⟩
theorem az.any{w:World}{r c:Nat}{S:List Nat}{f:Option Addr}{d:Nat}(h:ab w f d (ar S)):az 0 w r c S (.agg #[.int .i64 r,.int .i64 c,.slice f S.length d]):=by
 refine⟨f,d,rfl,?_,h⟩
 rcases h.2.2 with e|⟨b,l,m,_,_⟩
 ·exact .inl e
 ·exact .inr ⟨b,l,m,Nat.zero_le _⟩
def Af(n j:Nat):List Nat:=dC n n (fun i k=>if k=i∧i<j then 4607182418800017408 else 0)
theorem D9(n:Nat):Af n 0=List.replicate (n*n) 0:=by
 rw[kX]
 exact bC (fun i k _ _=>if_neg (by omega))
theorem Dz(n j:Nat)(d:j<n):(Af n j).set (j*n+j) 4607182418800017408=Af n (j+1):=by
 unfold Af
 rw[ke n n _ _ d d]
 refine bC (fun x y _ _=>?_)
 by_cases h:x=j∧y=j
 ·rw[if_pos h,if_pos (by omega)]
 ·rw[if_neg h]
  by_cases e:y=x∧x<j
  ·rw[if_pos e,if_pos (by omega)]
  ·rw[if_neg e,if_neg (by omega)]
theorem DA(n:Nat):Af n n=wI n:=bC (fun i k d _=>by
 by_cases e:k=i
 ·rw[if_pos ⟨e,d⟩,if_pos e]
 ·rw[if_neg (fun h=>e h.1),if_neg e])
theorem DB(n j:Nat):(Af n j).length=n*n:=bY _ _ _
theorem Ag(n:Nat)(w:World)(H:n≤6):
  Calls Tryz.prog 43 #[.int .i64 n] w fun e I=>∃v,e=.returned v∧az 0 I n n (wI n) v∧Below w.heap.size w I:=by
 have X:=aa (fun I=>m4 n n I H H)
 have Y:=ac w (.cells #[.int .i64 0,.int .i64 0,.slice none 0 0] 24)
 have Z:=au.new w (.int .i64 0) (.int .i64 0) (.slice none 0 0)
 have s0:=ai w (.cells #[.int .i64 0,.int .i64 0,.slice none 0 0] 24)
 have y:=aa Y;have A:=aa Z;have D:=aa s0
 clear Y Z s0
 go_enter Tryz.func43,Tryz.ntmps43
 go_wp2_with fail
 refine(uH X _).mono ?_
 rintro e F ⟨v,rfl,⟨N,O,rfl,nw,qs⟩,f⟩
 have K:=ac F (.cells #[.int .i64 n,.int .i64 n,.slice N (List.replicate (n*n) 0).length O] 24)
 have L:=(uH y).trans (f.mono (uH y).size)
 have L0:=aa (show lg w (F.alloc (.cells #[.int .i64 n,.int .i64 n,.slice N (Af n 0).length O] 24)) F.heap.size w.heap.size n n N O (Af n 0)from by
  rw[D9]
  exact⟨L.trans (K.mono L.size),au.new F _ _ _,((uH A).all f).all K,qs.below K,by have:=f.size;rw[uH D]at this;omega,L.size⟩)
 rw[←D9]
 clear X f K L nw qs y A D
 go_wp2_with fail
 generalize F.heap.size=g at*
 go_loopw[4] (fun i wr=>∃(j:Nat) (m:Option Addr) (t:Nat),j≤n∧i=.int .i64 j∧Hid (lg w wr g w.heap.size n n m t (Af n j))) (fun i _=>n-(intOf i).toNat)
 case atStart=>exact⟨0,N,O,Nat.zero_le _,rfl,L0⟩
 case round=>
  clear L0
  obtain⟨j,m,t,hj,rfl,d⟩:=hrel
  have y0:=(uH d).box.c0;have y1:=(uH d).box.c1;have y2:=(uH d).box.c2
  by_cases z:j<n
  ·have ae:(j:Int)<(n:Int):=by omega
   have C:=aa (gQ n n t j j 4607182418800017408 m (Af n j) _ ⟨(uH d).bits,DB n j,H,H⟩ z z (by decide))
   rw[Dz n j z,show((4607182418800017408:Nat):Int)=4607182418800017408 from rfl]at C
   generalize (Af n j).length=l at*
   go_wp2_with fail
   refine Calls.mono (uH C) ?_
   rintro e w2 ⟨v,rfl,⟨U,V,rfl,_,q2⟩,G⟩
   have h:=(uH d).all G
   have f0:=h.box.free 0;have f1:=h.box.free 1;have f2:=h.box.free 2
   have u0:=h.box.c0;have u1:=h.box.c1;have u2:=h.box.c2
   have L3:=aa (h.put q2)
   clear C G h d y0 y1 y2 q2
   go_wp2_with fail
   go_round
   case rel=>exact⟨j+1,U,V,by omega,by go_num,L3⟩
   case measure=>simp[intOf];omega
  ·have T:j=n:=by omega
   subst T
   rw[DA]at d y2
   have r0:=(uH d).res.c0;have r1:=(uH d).res.c1;have r2:=(uH d).res.c2
   have f0:=(uH d).res.free 0;have f1:=(uH d).res.free 1;have f2:=(uH d).res.free 2
   have M:=(uH d).res.put (.int .i64 j) (.int .i64 j) (.slice m (wI j).length t)
   have z0:=M.c0;have z1:=M.c1;have z2:=M.c2
   have Q:=aa (ab.putM (uH d).bits (uH d).res (.int .i64 j) (.int .i64 j) (.slice m (wI j).length t))
   have BP:=aa (al (uH d).bel (Nat.le_refl _) (.int .i64 j) (.int .i64 j) (.slice m (wI j).length t))
   clear M d
   go_wp2
   exact bodyPost_ret (v:=.agg #[.int .i64 j,.int .i64 j,.slice m (wI j).length t]) (by simp[results,Tryz.results43,go_sem,z0,z1,z2]) rfl ⟨_,rfl,az.any (uH Q),uH BP⟩
end Go.Proofs.YtenpggicmfhhdaaGreatDoor
