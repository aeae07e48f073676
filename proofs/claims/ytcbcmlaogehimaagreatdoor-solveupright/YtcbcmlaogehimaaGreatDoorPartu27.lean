/- Part 27 of the texts. -/
import Derived.Test.YtcbcmlaogehimaaGreatDoorPartu26
set_option maxHeartbeats 4000000
set_option maxRecDepth 20000
namespace Go.Proofs.YtcbcmlaogehimaaGreatDoor
open Go.RowKit
def elems(s:Nat):H3:=(List.range 6).filter (fun c=>s.testBit c)
def Ra(s:Nat):Nat:=(elems s).getLast?.getD 0
end Go.Proofs.YtcbcmlaogehimaaGreatDoor
namespace Go.Proofs.YtcbcmlaogehimaaGreatDoor
def Lg(a:Nat->Nat->Int)(t:Nat->Int):Nat->Nat->Int
 |0=>fun _=>0
 |k+1=>fun c=>1*Lg a t k c+t k*a k c
def MN:Nat->Nat
 |0=>1
 |n+1=>(n+1)*MN n
def Rc:Nat:=80
def Rd:Nat:=4294967296^Rc
def NB(k:Nat):Nat:=MN k*Rd^k
open Go.RowKit
attribute [local go_sem ↓] Go.wp_at_zero Go.wp_at_succ
def qm(r c:Int)(I:List Int):Int:=if kx r c I.length=true then(if iD I I.length=true then 0 else 4)else 1
theorem ks(r c:Int)(ao:GY)(cap:Nat)(I:List Int)(w:World)(hI:ag w ao cap I)(hn:I.length<=35184372088830):
  BS 63 #[.agg #[C0 r,C0 c,.slice ao I.length cap]] w (C0 (qm r c I)):=by
 have D:=ac (fun L=>mW r c ao I.length cap L hn);have b0:=ad w (.cells #[C0 r,C0 c,.slice ao I.length cap] 24);have H:=ac b0;have X0:=ac (aE.new w (C0 r) (C0 c) (.slice ao I.length cap));have HI:=ac hI;clear b0 hI
 cases ho:kx r c I.length
 ·rw[ho]at D
  have e:qm r c I=1:=by unfold qm;rw[ho];rfl
  rw[e];rw[if_neg (by decide)]at D;clear e ho
  go_enter Tryz.func63,Tryz.ntmps63
  go_wp2_with fail;refine(uH D _).mono ?_;rintro e w1 ⟨rfl,l⟩;clear D
  go_wp2
  go_ret
  exact⟨rfl,(uH H).trans (l.mono (uH H).size)⟩
 ·rw[ho]at D
  rw[if_pos rfl]at D;have e:qm r c I=if iD I I.length=true then 0 else 4:=by unfold qm;rw[ho];rfl
  rw[e];clear e ho;obtain⟨U,F⟩:∃U:Int,(if iD I I.length=true then 0 else 4)=U:=⟨_,rfl⟩;rw[F];obtain⟨n,G⟩:∃n,I.length=n:=⟨_,rfl⟩;have HN:=ac G;rw[G]at D H X0 hn F⊢;have FE:=ac F;clear G F
  go_enter Tryz.func63,Tryz.ntmps63
  go_wp2_with fail;refine(uH D _).mono ?_;rintro e w1 ⟨rfl,l⟩;have Z:=ac ((uH H).trans (l.mono (uH H).size));have X1:=ac ((uH X0).all l);clear D H X0 l;have x2:=(uH X1).c2;go_wp2_with fail
  go_loopw[13] (fun i wr=>∃k:Nat,k<=n/\i=.int .i64 k/\Hid (H8 w1 wr)/\Hid (iD I k=true)) (fun i _=>n-(intOf i).toNat)
  case atStart=>exact⟨0,Nat.zero_le _,rfl,Below.refl _ _,rfl⟩
  case round=>
   clear x2;obtain⟨k,hk,rfl,Q,hF⟩:=hrel;have x2:=((uH X1).all (uH Q)).c2
   by_cases aa:k<n
   ·have ap:(k:Int)<(n:Int):=by omega
    have BW:=ac ((uH Z).trans ((uH Q).mono (uH Z).size));obtain⟨b,ax,am,hb,hc⟩:=((uH HI).below (uH BW)).ne (by rw[uH HN];omega);have M:=hc k (by rw[uH HN];exact aa);have N:=(uH HI).lt k;have J:=ac (fun L=>gE (bg I k) L N);have K:=ac (show iD I (k+1)=(iD I k&&ah (bg I k))from rfl);subst am;clear hc N hb
    cases hf:ah (bg I k)
    ·rw[hf]at J K
     have e:iD I n=false:=by
      cases h:iD I n
      ·rfl
      ·have:=nY I n (k+1) (by omega) h
       rw[uH K,Bool.and_false]at this
       cases this
     have E4:=ac (show(4:Int)=U from by rw[<-uH FE,if_neg (by rw[e];decide)]);clear e K hf;generalize bg I k=x at*;go_wp2_with fail;refine(uH J _).mono ?_;rintro e w3 ⟨rfl,t⟩;have O:=ac ((uH BW).trans (t.mono (uH BW).size));clear J t M x2
     go_wp2
     go_ret
     exact⟨bh (uH E4),uH O⟩
    ·rw[hf]at J K
     rw[uH hF,Bool.true_and]at K;clear hf;generalize bg I k=x at*;go_wp2_with fail;refine(uH J _).mono ?_;rintro e w3 ⟨rfl,t⟩;have O:=ac ((uH Q).trans (t.mono (uH Q).size));clear J t M x2
     go_wp2
     go_round
     case rel=>exact⟨k+1,by omega,by go_num,O,K⟩
     case measure=>simp[intOf];omega
   ·have ae:k=n:=by omega
    subst ae;have E0:=ac (show(0:Int)=U from by rw[<-uH FE,if_pos (uH hF)]);have O:=ac ((uH Z).trans ((uH Q).mono (uH Z).size))
    go_wp2
    go_ret
    exact⟨bh (uH E0),uH O⟩
theorem Lh(w:World)(r c:Int)(ao:GY)(n cap:Nat):aE ((w.alloc (.cells #[C0 r,C0 c,.slice ao n cap] 24)).alloc (.cells #[.bool false,.slice none 0 0,C0 0] 35)) w.heap.size (C0 r) (C0 c) (.slice ao n cap)/\ar ((w.alloc (.cells #[C0 r,C0 c,.slice ao n cap] 24)).alloc (.cells #[.bool false,.slice none 0 0,C0 0] 35)) (w.heap.size+1) (.bool false) (.slice none 0 0) (C0 0)/\H8 w ((w.alloc (.cells #[C0 r,C0 c,.slice ao n cap] 24)).alloc (.cells #[.bool false,.slice none 0 0,C0 0] 35)):=by
 have h:=ad w (.cells #[C0 r,C0 c,.slice ao n cap] 24);have F:=an w (.cells #[C0 r,C0 c,.slice ao n cap] 24);have G:=aE.new w (C0 r) (C0 c) (.slice ao n cap);generalize w.alloc (.cells #[C0 r,C0 c,.slice ao n cap] 24)=D at*;have l:=ad D (.cells #[.bool false,.slice none 0 0,C0 0] 35);have t:=ar.new D (.bool false) (.slice none 0 0) (C0 0);rw[F]at t;exact⟨G.all l,t,h.trans (l.mono h.size)⟩
def s8(w W:World)(r c p q s d:Int)(ao bo co:GY)(na nb nc ca cb cc:Nat):Prop:=
 aE W w.heap.size (C0 r) (C0 c) (.slice ao na ca)/\aE W (w.heap.size+1) (C0 p) (C0 q) (.slice bo nb cb)/\aE W (w.heap.size+1+1) (C0 s) (C0 d) (.slice co nc cc)/\ar W (w.heap.size+1+1+1) (.bool false) (.slice none 0 0) (C0 0)/\H8 w W
theorem s8.all{w W t:World}{r c p q s d:Int}{ao D F:GY}{G H I J K L:Nat}(h:s8 w W r c p q s d ao D F G H I J K L)(l:H8 W t):s8 w t r c p q s d ao D F G H I J K L:=
 ⟨h.1.all l,h.2.1.all l,h.2.2.1.all l,h.2.2.2.1.all l,h.2.2.2.2.trans (l.mono h.2.2.2.2.size)⟩
theorem s8.start(w:World)(r c p q s d:Int)(ao h l:GY)(t D F G H I:Nat):s8 w ((((w.alloc (.cells #[C0 r,C0 c,.slice ao t G] 24)).alloc (.cells #[C0 p,C0 q,.slice h D H] 24)).alloc (.cells #[C0 s,C0 d,.slice l F I] 24)).alloc (.cells #[.bool false,.slice none 0 0,C0 0] 35)) r c p q s d ao h l t D F G H I:=by
 have M:=ad w (.cells #[C0 r,C0 c,.slice ao t G] 24);have N:=an w (.cells #[C0 r,C0 c,.slice ao t G] 24);have x0:=aE.new w (C0 r) (C0 c) (.slice ao t G);generalize w.alloc (.cells #[C0 r,C0 c,.slice ao t G] 24)=K at*;have O:=ad K (.cells #[C0 p,C0 q,.slice h D H] 24);have U:=an K (.cells #[C0 p,C0 q,.slice h D H] 24);have Z:=aE.new K (C0 p) (C0 q) (.slice h D H);generalize K.alloc (.cells #[C0 p,C0 q,.slice h D H] 24)=L at*;have Q:=ad L (.cells #[C0 s,C0 d,.slice l F I] 24);have s2:=an L (.cells #[C0 s,C0 d,.slice l F I] 24);have x2:=aE.new L (C0 s) (C0 d) (.slice l F I);generalize L.alloc (.cells #[C0 s,C0 d,.slice l F I] 24)=w2 at*;have J:=ad w2 (.cells #[.bool false,.slice none 0 0,C0 0] 35);have x3:=ar.new w2 (.bool false) (.slice none 0 0) (C0 0);rw[s2,U,N]at x3;rw[U,N]at x2;rw[N]at Z;have bb:=(M.trans (O.mono M.size)).trans (Q.mono (Nat.le_trans M.size O.size));exact⟨((x0.all O).all Q).all J,(Z.all Q).all J,x2.all J,x3,bb.trans (J.mono bb.size)⟩
theorem aE.oth3{w:World}{b:Nat}{x y z:Value}(h:aE w b x y z){g:Nat}(l:b≠g)(u u' u'':Value):aE (((w.setCell ⟨g,0,none⟩ u).setCell ⟨g,1,none⟩ u').setCell ⟨g,2,none⟩ u'') b x y z:=
 ((h.other (p:=⟨g,0,none⟩) l u).other (p:=⟨g,1,none⟩) l u').other (p:=⟨g,2,none⟩) l u''
end Go.Proofs.YtcbcmlaogehimaaGreatDoor
namespace Go.Proofs.YtcbcmlaogehimaaGreatDoor
open Go.RowKit
theorem OP(b:Nat)(h:ah b=true):ga (-1074) 2098 (fZ b):=⟨ew b h,by decide,by decide,by decide⟩
theorem GV(b:Nat)(h:ah b=true):ga (-2148) 4200 (fZ b*2^1074):=⟨zM (j:=2098) (k:=1074) (V:=4200) (by decide) (ew b h),by decide,by decide,by decide⟩
theorem zV(n:Nat)(h:n<=8)(x y:Nat->Nat)(l:∀j,j<n->ah (x j)=true)(t:∀j,j<n->ah (y j)=true):ga (-2148) 4200 (dN (fun j=>fZ (x j)*fZ (y j)) n):=
 (KQ n h x y l t).more (by decide) (by decide) (by decide)
theorem OQ(a b:Nat)(h:ah a=true)(l:ah b=true):ga (-2148) 4200 (fZ a*fZ b):=
 (show ga (-2148) 4196 (fZ a*fZ b)from⟨iU (j:=2098) (k:=2098) (V:=4196) (by decide) (ew a h) (ew b l),by decide,by decide,by decide⟩).more (by decide) (by decide) (by decide)
theorem GW(n c:Nat)(A X B:H3)(i k:Nat)(l:n<=6)(fA:∀x∈A,ah x=true)(fX:∀x∈X,ah x=true)(h:∀x∈B,ah x=true):ga (-2148) 4200 (dN (fun j=>fZ (a8 n A i j)*fZ (a8 c X j k)) n-fZ (a8 c B i k)*2^1074):=
 ⟨Bv n c A X B i k (by omega) fA fX h,by decide,by decide,by decide⟩
end Go.Proofs.YtcbcmlaogehimaaGreatDoor
