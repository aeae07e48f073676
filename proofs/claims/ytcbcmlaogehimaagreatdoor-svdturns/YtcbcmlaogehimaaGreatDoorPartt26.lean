/- Part 26 of the texts. -/
import Derived.Test.YtcbcmlaogehimaaGreatDoorPartt25
import Derived.DeepKeys4
namespace Go.Proofs.YtcbcmlaogehimaaGreatDoor
open Go.RowKit
attribute [local go_sem ↓] Go.wp_at_zero Go.wp_at_succ
theorem yv(w:World)(r c:Int)(h:Option Addr)(n d:Nat):aK ((w.alloc (.cells #[.int .i64 r,.int .i64 c,.slice h n d] 24)).alloc (.cells #[.bool false,.slice none 0 0,.int .i64 0] 35)) w.heap.size (.int .i64 r) (.int .i64 c) (.slice h n d)∧ak ((w.alloc (.cells #[.int .i64 r,.int .i64 c,.slice h n d] 24)).alloc (.cells #[.bool false,.slice none 0 0,.int .i64 0] 35)) (w.heap.size+1) (.bool false) (.slice none 0 0) (.int .i64 0)∧Below w.heap.size w ((w.alloc (.cells #[.int .i64 r,.int .i64 c,.slice h n d] 24)).alloc (.cells #[.bool false,.slice none 0 0,.int .i64 0] 35)):=by
 have u:=ad w (.cells #[.int .i64 r,.int .i64 c,.slice h n d] 24)
 have F:=aq w (.cells #[.int .i64 r,.int .i64 c,.slice h n d] 24)
 have G:=aK.new w (.int .i64 r) (.int .i64 c) (.slice h n d)
 generalize w.alloc (.cells #[.int .i64 r,.int .i64 c,.slice h n d] 24)=D at*
 have z:=ad D (.cells #[.bool false,.slice none 0 0,.int .i64 0] 35)
 have A:=ak.new D (.bool false) (.slice none 0 0) (.int .i64 0)
 rw[F]at A
 exact⟨G.all z,A,u.trans (z.mono u.size)⟩
def pZ(w W:World)(r c p q s d:Int)(ao bo co:Option Addr)(na nb nc ca cb cc:Nat):Prop:=
 aK W w.heap.size (.int .i64 r) (.int .i64 c) (.slice ao na ca)∧aK W (w.heap.size+1) (.int .i64 p) (.int .i64 q) (.slice bo nb cb)∧aK W (w.heap.size+1+1) (.int .i64 s) (.int .i64 d) (.slice co nc cc)∧ak W (w.heap.size+1+1+1) (.bool false) (.slice none 0 0) (.int .i64 0)∧Below w.heap.size w W
theorem pZ.all{w W z:World}{r c p q s d:Int}{A D F:Option Addr}{G H I J K L:Nat}(h:pZ w W r c p q s d A D F G H I J K L)(u:Below W.heap.size W z):pZ w z r c p q s d A D F G H I J K L:=
 ⟨h.1.all u,h.2.1.all u,h.2.2.1.all u,h.2.2.2.1.all u,h.2.2.2.2.trans (u.mono h.2.2.2.2.size)⟩
theorem pZ.start(w:World)(r c p q s d:Int)(h u z:Option Addr)(A D F G H I:Nat):pZ w ((((w.alloc (.cells #[.int .i64 r,.int .i64 c,.slice h A G] 24)).alloc (.cells #[.int .i64 p,.int .i64 q,.slice u D H] 24)).alloc (.cells #[.int .i64 s,.int .i64 d,.slice z F I] 24)).alloc (.cells #[.bool false,.slice none 0 0,.int .i64 0] 35)) r c p q s d h u z A D F G H I:=by
 have N:=ad w (.cells #[.int .i64 r,.int .i64 c,.slice h A G] 24)
 have O:=aq w (.cells #[.int .i64 r,.int .i64 c,.slice h A G] 24)
 have x0:=aK.new w (.int .i64 r) (.int .i64 c) (.slice h A G)
 generalize w.alloc (.cells #[.int .i64 r,.int .i64 c,.slice h A G] 24)=K at*
 have Q:=ad K (.cells #[.int .i64 p,.int .i64 q,.slice u D H] 24)
 have X:=aq K (.cells #[.int .i64 p,.int .i64 q,.slice u D H] 24)
 have Y:=aK.new K (.int .i64 p) (.int .i64 q) (.slice u D H)
 generalize K.alloc (.cells #[.int .i64 p,.int .i64 q,.slice u D H] 24)=L at*
 have U:=ad L (.cells #[.int .i64 s,.int .i64 d,.slice z F I] 24)
 have s2:=aq L (.cells #[.int .i64 s,.int .i64 d,.slice z F I] 24)
 have Z:=aK.new L (.int .i64 s) (.int .i64 d) (.slice z F I)
 generalize L.alloc (.cells #[.int .i64 s,.int .i64 d,.slice z F I] 24)=w2 at*
 have J:=ad w2 (.cells #[.bool false,.slice none 0 0,.int .i64 0] 35)
 have x3:=ak.new w2 (.bool false) (.slice none 0 0) (.int .i64 0)
 rw[s2,X,O]at x3
 rw[X,O]at Z
 rw[O]at Y
 have bb:=(N.trans (Q.mono N.size)).trans (U.mono (Nat.le_trans N.size Q.size))
 exact⟨((x0.all Q).all U).all J,(Y.all U).all J,Z.all J,x3,bb.trans (J.mono bb.size)⟩
theorem aK.oth3{w:World}{b:Nat}{x y z:Value}(h:aK w b x y z){g:Nat}(A:b≠g)(u D d:Value):aK (((w.setCell ⟨g,0,none⟩ u).setCell ⟨g,1,none⟩ D).setCell ⟨g,2,none⟩ d) b x y z:=
 ((h.other (p:=⟨g,0,none⟩) A u).other (p:=⟨g,1,none⟩) A D).other (p:=⟨g,2,none⟩) A d
end Go.Proofs.YtcbcmlaogehimaaGreatDoor
namespace Go.Proofs.YtcbcmlaogehimaaGreatDoor
open Go.RowKit
theorem JX(b:Nat)(d:aj b=true):eL (-2148) 4200 (fZ b*2^1074):=⟨DA (j:=2098) (k:=1074) (V:=4200) (by decide) (e9 b d),by decide,by decide,by decide⟩
theorem wN(n:Nat)(d:n≤8)(x y:Nat→Nat)(h:∀j,j<n→aj (x j)=true)(u:∀j,j<n→aj (y j)=true):eL (-2148) 4200 (cR (fun j=>fZ (x j)*fZ (y j)) n):=
 (GE n d x y h u).more (by decide) (by decide) (by decide)
theorem JY(a b:Nat)(d:aj a=true)(h:aj b=true):eL (-2148) 4200 (fZ a*fZ b):=
 (show eL (-2148) 4196 (fZ a*fZ b)from⟨jR (j:=2098) (k:=2098) (V:=4196) (by decide) (e9 a d) (e9 b h),by decide,by decide,by decide⟩).more (by decide) (by decide) (by decide)
end Go.Proofs.YtcbcmlaogehimaaGreatDoor
namespace Go.Proofs.YtcbcmlaogehimaaGreatDoor
theorem JZ(n:Nat):p2 (n:Int)=((2^n:Int):Rat):=by
 unfold p2
 rw[Rat.zpow_natCast]
 simp
theorem gQ:fQ 4607182418800017408=1:=by
 unfold fQ
 rw[Dz,show((2^1074:Int):Rat)=p2 (1074:Nat)from(JZ 1074).symm,←aU]
 exact ji
theorem jS:aj 4607182418800017408=true:=by decide+kernel
theorem jT:ab 0=0:=by unfold ab;grind
theorem nJ(a:Nat)(d:a<18446744073709551616):fQ (fN a)= -fQ a:=by
 unfold fQ
 rw[La a d,Rat.intCast_neg]
 grind
def Mc(r c:Nat)(S:List Nat)(i k C s:Nat):List Nat:=mz r c (fun p q=>if p=i then aV (mV C (aQ c S i q)) (mV s (aQ c S k q))else if p=k then aV (mV C (aQ c S k q)) (fN (mV s (aQ c S i q)))else aQ c S p q)
theorem Ie(r c:Nat)(S:List Nat)(i k C s:Nat){p q:Nat}(d:p<r)(h:q<c):aQ c (Mc r c S i k C s) p q=if p=i then aV (mV C (aQ c S i q)) (mV s (aQ c S k q))else if p=k then aV (mV C (aQ c S k q)) (fN (mV s (aQ c S i q)))else aQ c S p q:=lm r c _ d h
theorem lq(d:List Nat):wH (bF d)=d:=by
 unfold wH bF
 rw[List.map_map]
 exact List.map_id'' (fun x=>by simp) d
end Go.Proofs.YtcbcmlaogehimaaGreatDoor
