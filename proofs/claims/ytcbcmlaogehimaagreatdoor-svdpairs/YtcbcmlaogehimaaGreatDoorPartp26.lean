/- Part 26 of the texts. -/
import Derived.Test.YtcbcmlaogehimaaGreatDoorPartp25
import Derived.DeepKeys4
namespace Go.Proofs.YtcbcmlaogehimaaGreatDoor
open Go.RowKit
attribute [local go_sem ↓] Go.wp_at_zero Go.wp_at_succ
theorem H7(w:World)(r c:Int)(h:Option Addr)(n d:Nat):aM ((w.alloc (.cells #[.int .i64 r,.int .i64 c,.slice h n d] 24)).alloc (.cells #[.bool false,.slice none 0 0,.int .i64 0] 35)) w.heap.size (.int .i64 r) (.int .i64 c) (.slice h n d)∧al ((w.alloc (.cells #[.int .i64 r,.int .i64 c,.slice h n d] 24)).alloc (.cells #[.bool false,.slice none 0 0,.int .i64 0] 35)) (w.heap.size+1) (.bool false) (.slice none 0 0) (.int .i64 0)∧Below w.heap.size w ((w.alloc (.cells #[.int .i64 r,.int .i64 c,.slice h n d] 24)).alloc (.cells #[.bool false,.slice none 0 0,.int .i64 0] 35)):=by
 have u:=ad w (.cells #[.int .i64 r,.int .i64 c,.slice h n d] 24)
 have F:=aq w (.cells #[.int .i64 r,.int .i64 c,.slice h n d] 24)
 have G:=aM.new w (.int .i64 r) (.int .i64 c) (.slice h n d)
 generalize w.alloc (.cells #[.int .i64 r,.int .i64 c,.slice h n d] 24)=D at*
 have z:=ad D (.cells #[.bool false,.slice none 0 0,.int .i64 0] 35)
 have A:=al.new D (.bool false) (.slice none 0 0) (.int .i64 0)
 rw[F]at A
 exact⟨G.all z,A,u.trans (z.mono u.size)⟩
def qr(w W:World)(r c p q s d:Int)(ao bo co:Option Addr)(na nb nc ca cb cc:Nat):Prop:=
 aM W w.heap.size (.int .i64 r) (.int .i64 c) (.slice ao na ca)∧aM W (w.heap.size+1) (.int .i64 p) (.int .i64 q) (.slice bo nb cb)∧aM W (w.heap.size+1+1) (.int .i64 s) (.int .i64 d) (.slice co nc cc)∧al W (w.heap.size+1+1+1) (.bool false) (.slice none 0 0) (.int .i64 0)∧Below w.heap.size w W
theorem qr.all{w W z:World}{r c p q s d:Int}{A D F:Option Addr}{G H I J K L:Nat}(h:qr w W r c p q s d A D F G H I J K L)(u:Below W.heap.size W z):qr w z r c p q s d A D F G H I J K L:=
 ⟨h.1.all u,h.2.1.all u,h.2.2.1.all u,h.2.2.2.1.all u,h.2.2.2.2.trans (u.mono h.2.2.2.2.size)⟩
theorem qr.start(w:World)(r c p q s d:Int)(h u z:Option Addr)(A D F G H I:Nat):qr w ((((w.alloc (.cells #[.int .i64 r,.int .i64 c,.slice h A G] 24)).alloc (.cells #[.int .i64 p,.int .i64 q,.slice u D H] 24)).alloc (.cells #[.int .i64 s,.int .i64 d,.slice z F I] 24)).alloc (.cells #[.bool false,.slice none 0 0,.int .i64 0] 35)) r c p q s d h u z A D F G H I:=by
 have O:=ad w (.cells #[.int .i64 r,.int .i64 c,.slice h A G] 24)
 have Q:=aq w (.cells #[.int .i64 r,.int .i64 c,.slice h A G] 24)
 have x0:=aM.new w (.int .i64 r) (.int .i64 c) (.slice h A G)
 generalize w.alloc (.cells #[.int .i64 r,.int .i64 c,.slice h A G] 24)=K at*
 have U:=ad K (.cells #[.int .i64 p,.int .i64 q,.slice u D H] 24)
 have Y:=aq K (.cells #[.int .i64 p,.int .i64 q,.slice u D H] 24)
 have Z:=aM.new K (.int .i64 p) (.int .i64 q) (.slice u D H)
 generalize K.alloc (.cells #[.int .i64 p,.int .i64 q,.slice u D H] 24)=L at*
 have X:=ad L (.cells #[.int .i64 s,.int .i64 d,.slice z F I] 24)
 have s2:=aq L (.cells #[.int .i64 s,.int .i64 d,.slice z F I] 24)
 have x2:=aM.new L (.int .i64 s) (.int .i64 d) (.slice z F I)
 generalize L.alloc (.cells #[.int .i64 s,.int .i64 d,.slice z F I] 24)=w2 at*
 have J:=ad w2 (.cells #[.bool false,.slice none 0 0,.int .i64 0] 35)
 have x3:=al.new w2 (.bool false) (.slice none 0 0) (.int .i64 0)
 rw[s2,Y,Q]at x3
 rw[Y,Q]at x2
 rw[Q]at Z
 have bb:=(O.trans (U.mono O.size)).trans (X.mono (Nat.le_trans O.size U.size))
 exact⟨((x0.all U).all X).all J,(Z.all X).all J,x2.all J,x3,bb.trans (J.mono bb.size)⟩
theorem aM.oth3{w:World}{b:Nat}{x y z:Value}(h:aM w b x y z){g:Nat}(A:b≠g)(u D d:Value):aM (((w.setCell ⟨g,0,none⟩ u).setCell ⟨g,1,none⟩ D).setCell ⟨g,2,none⟩ d) b x y z:=
 ((h.other (p:=⟨g,0,none⟩) A u).other (p:=⟨g,1,none⟩) A D).other (p:=⟨g,2,none⟩) A d
end Go.Proofs.YtcbcmlaogehimaaGreatDoor
namespace Go.Proofs.YtcbcmlaogehimaaGreatDoor
open Go.RowKit
theorem Lc(b:Nat)(d:ai b=true):fv (-2148) 4200 (fZ b*2^1074):=⟨Ef (j:=2098) (k:=1074) (V:=4200) (by decide) (fi b d),by decide,by decide,by decide⟩
theorem Er(n:Nat)(d:n≤8)(x y:Nat→Nat)(h:∀j,j<n→ai (x j)=true)(u:∀j,j<n→ai (y j)=true):fv (-2148) 4200 (cY (fun j=>fZ (x j)*fZ (y j)) n):=
 (Ht n d x y h u).more (by decide) (by decide) (by decide)
theorem Ld(a b:Nat)(d:ai a=true)(h:ai b=true):fv (-2148) 4200 (fZ a*fZ b):=
 (show fv (-2148) 4196 (fZ a*fZ b)from⟨oh (j:=2098) (k:=2098) (V:=4196) (by decide) (fi a d) (fi b h),by decide,by decide,by decide⟩).more (by decide) (by decide) (by decide)
end Go.Proofs.YtcbcmlaogehimaaGreatDoor
namespace Go.Proofs.YtcbcmlaogehimaaGreatDoor
theorem Le(n:Nat):p2 (n:Int)=((2^n:Int):Rat):=by
 unfold p2
 rw[Rat.zpow_natCast]
 simp
theorem gW:fQ 4607182418800017408=1:=by
 unfold fQ
 rw[Ed,show((2^1074:Int):Rat)=p2 (1074:Nat)from(Le 1074).symm,←aL]
 exact jk
theorem j0:ai 4607182418800017408=true:=by decide+kernel
theorem iN:ab 0=0:=by unfold ab;grind
theorem oj(a:Nat)(d:a<18446744073709551616):fQ (fN a)= -fQ a:=by
 unfold fQ
 rw[LY a d,Rat.intCast_neg]
 grind
def MT(r c:Nat)(S:List Nat)(i k C s:Nat):List Nat:=mQ r c (fun p q=>if p=i then aV (mV C (aP c S i q)) (mV s (aP c S k q))else if p=k then aV (mV C (aP c S k q)) (fN (mV s (aP c S i q)))else aP c S p q)
theorem Je(r c:Nat)(S:List Nat)(i k C s:Nat){p q:Nat}(d:p<r)(h:q<c):aP c (MT r c S i k C s) p q=if p=i then aV (mV C (aP c S i q)) (mV s (aP c S k q))else if p=k then aV (mV C (aP c S k q)) (fN (mV s (aP c S i q)))else aP c S p q:=lP r c _ d h
theorem j4(d:List Nat):xt (bH d)=d:=by
 unfold xt bH
 rw[List.map_map]
 exact List.map_id'' (fun x=>by simp) d
end Go.Proofs.YtcbcmlaogehimaaGreatDoor
