/- Part 7 of the texts. -/
import Derived.Test.YtlnphkioddknfaaGreatDoorParty06
import Derived.Lib.BitFns
set_option maxHeartbeats 4000000
namespace Go.Proofs.YtlnphkioddknfaaGreatDoor
open Go.RowKit
attribute [local go_sem ↓] Go.wp_at_zero Go.wp_at_succ
def uE(na:Bool)(A:List Nat)(nb:Bool)(B:List Nat):Int:=if av na A&&av nb B then 0 else 1
theorem jS(d m:Bool)(ao y:Option Addr)(F z:Nat)(A B:List Nat)(w:World)(L:ag w ao F A)(M:ag w y z B)(N:A.length≤35184372088830)(O:B.length≤35184372088830):
  Calls Tryz.prog 277 #[.agg #[.bool d,.slice ao A.length F],.agg #[.bool m,.slice y B.length z]] w fun e Q=>e=.returned (.int .i64 (uE d A m B))∧Below w.heap.size w Q:=by
 have K:(av d A=false→uE d A m B=1)∧(av d A=true→uE d A m B=ep m B):=by
  constructor<;>intro h<;>simp[uE,ep,h]
 have D:=aa K
 clear K
 generalize uE d A m B=r at*
 go_enter Tryz.func277,Tryz.ntmps277
 go_wp2_with fail
 refine(dW d ao F A _ (L.below (((Below.refl _ _).alloc (Nat.le_refl _) _).alloc (by simp) _)) N).mono ?_
 rintro e H ⟨rfl,l⟩
 have f:Below w.heap.size w H:=(((Below.refl _ _).alloc (Nat.le_refl _) _).alloc (by simp) _).trans (l.mono (by simp;omega))
 have U:H.cell? ⟨w.heap.size+1,0,none⟩=some (.bool m):=by rw[l.cell (p:=⟨w.heap.size+1,0,none⟩) (by simp)];simp[go_sem]
 have V:H.cell? ⟨w.heap.size+1,1,none⟩=some (.slice y B.length z):=by rw[l.cell (p:=⟨w.heap.size+1,1,none⟩) (by simp)];simp[go_sem]
 clear l
 cases hr:av d A
 ·have G:=aa ((uH D).1 hr)
  have t:ep d A=1:=by simp[ep,hr]
  rw[t]
  clear t hr D
  go_wp2
  go_ret
  exact⟨aQ (uH G).symm,f⟩
 ·have G:=aa ((uH D).2 hr)
  have t:ep d A=0:=by simp[ep,hr]
  rw[t]
  clear t hr D
  go_wp2_with fail
  refine(dW m y z B _ (M.below f) O).mono ?_
  rintro e X ⟨rfl,I⟩
  go_wp2
  go_ret
  exact⟨aQ (uH G).symm,f.trans (I.mono f.size)⟩
end Go.Proofs.YtlnphkioddknfaaGreatDoor
namespace Go.Proofs.YtlnphkioddknfaaGreatDoor
open Go.RowKit
def pw(ok:Bool)(z:Int):Int:=if ok then bI z else 1
def py(ok:Bool)(z:Int):Int:=if ok then dz z else 0
theorem gh(z:Int):pw true z=bI z:=by unfold pw;rw[if_pos rfl]
theorem gi(z:Int):py true z=dz z:=by unfold py;rw[if_pos rfl]
theorem lW(z:Int):pw false z=1:=by unfold pw;rw[if_neg (by decide)]
theorem lZ(z:Int):py false z=0:=by unfold py;rw[if_neg (by decide)]
theorem ay{neg:Bool}{L:List Nat}(h:av neg L=true):L.length≤512∧bP L∧(neg=true→L≠ []):=by
 simp only[av,Bool.and_eq_true,decide_eq_true_eq,Bool.not_eq_true',Bool.and_eq_false_iff,decide_eq_false_iff_not,Bool.or_eq_true]at h
 obtain⟨⟨l,d⟩,f⟩:=h
 refine⟨l,?_,?_⟩
 ·rcases f with f|f
  ·exact .inl (List.length_eq_zero_iff.1 f)
  ·exact .inr f
 ·rintro m rfl
  rcases d with d|d
  ·simp at d
  ·rw[m]at d;cases d
theorem Al(d:Bool)(B:List Nat):af (!d) B= -af d B:=by unfold af;cases d<;>simp
theorem Eh(f l:Bool)(ao y:Option Addr)(z D:Nat)(A B:List Nat)(w:World)(O:ag w ao z A)(Q:ag w y D B)(U:A.length≤35184372088830)(V:B.length≤35184372088830):
  Calls Tryz.prog 285 #[.agg #[.bool f,.slice ao A.length z],.agg #[.bool l,.slice y B.length D]] w fun e X=>∃v,e=.returned (.tuple #[v,.int .i64 (pw (av f A&&av l B) (af f A+af l B))])∧aw w.heap.size X v (py (av f A&&av l B) (af f A+af l B))∧Below w.heap.size w X:=by
 have Y:(av f A&&av l B)=true→bP A∧bP B:=fun h=>by
  simp only[Bool.and_eq_true]at h;exact⟨(ay h.1).2.1,(ay h.2).2.1⟩
 have HC:=aa Y
 have Z:=aa (show uE f A l B=if(av f A&&av l B)then 0 else 1 from rfl)
 clear Y
 generalize N:(av f A&&av l B)=ok at*
 clear N
 go_enter Tryz.func285,Tryz.ntmps285
 go_wp2_with fail
 have t:Below w.heap.size w (((w.alloc (.cells #[.bool f,.slice ao A.length z] 45)).alloc (.cells #[.bool l,.slice y B.length D] 45)).alloc (.cells #[.bool false,.slice none 0 0] 45)):=
  (((Below.refl _ _).alloc (Nat.le_refl _) _).alloc (by simp) _).alloc (by simp;omega) _
 refine(jS f l ao y z D A B _ (O.below t) (Q.below t) U V).mono ?_
 rintro e F ⟨rfl,d⟩
 have ae:w.heap.size+3≤F.heap.size:=by have:=d.size;simpa using this
 have m:Below w.heap.size w F:=t.trans (d.mono (by simp;omega))
 have p0:F.cell? ⟨w.heap.size,0,none⟩=some (.bool f):=by rw[d.cell (p:=⟨w.heap.size,0,none⟩) (by simp;omega)];simp[go_sem]
 have p1:F.cell? ⟨w.heap.size,1,none⟩=some (.slice ao A.length z):=by rw[d.cell (p:=⟨w.heap.size,1,none⟩) (by simp;omega)];simp[go_sem]
 have q0:F.cell? ⟨w.heap.size+1,0,none⟩=some (.bool l):=by rw[d.cell (p:=⟨w.heap.size+1,0,none⟩) (by simp)];simp[go_sem]
 have q1:F.cell? ⟨w.heap.size+1,1,none⟩=some (.slice y B.length D):=by rw[d.cell (p:=⟨w.heap.size+1,1,none⟩) (by simp)];simp[go_sem]
 have G:aA F (w.heap.size+2) (.bool false) (.slice none 0 0):=by
  have:=aA.new ((w.alloc (.cells #[.bool f,.slice ao A.length z] 45)).alloc (.cells #[.bool l,.slice y B.length D] 45)) (.bool false) (.slice none 0 0)
  exact aA.below (by simpa using this) d (by simp)
 rw[uH Z]
 clear d Z t
 cases ok
 ·simp only[Bool.false_eq_true,if_false]
  have K:=G.c0;have L:=G.c1;have f0:=G.free 0;have f1:=G.free 1
  go_wp2
  refine bodyPost_ret (v:=.tuple #[.agg #[.bool false,.slice none 0 0],.int .i64 1]) (by simp[results,Tryz.results285,go_sem,K,L]) rfl ⟨.agg #[.bool false,.slice none 0 0],by rw[lW],by rw[lZ];exact aw.zero _ _ _ _,?_⟩
  exact(m.setCell (by simp;omega) _).setCell (by simp;omega) _
 ·obtain⟨cA,cB⟩:=uH HC rfl
  have CA:=aa cA
  have CB:=aa cB
  clear cA cB
  simp only[if_true]
  go_wp2_with fail
  refine(oP f l ao y z D A B _ (O.below m) (Q.below m) U V (uH CA) (uH CB)).mono ?_
  rintro e w2 ⟨v,rfl,⟨n2,a2,c2,L2,rfl,i1⟩,H⟩
  have I:=G.below H (by omega)
  have K:=I.c0;have L:=I.c1;have f0:=I.free 0;have f1:=I.free 1
  have I1:=aa i1
  have M:=m.trans (H.mono m.size)
  clear i1
  go_wp2
  refine bodyPost_ret (v:=.tuple #[.agg #[.bool n2,.slice a2 L2.length c2],.int .i64 (bI (af f A+af l B))]) (by simp[results,Tryz.results285,go_sem,K,L]) rfl ⟨.agg #[.bool n2,.slice a2 L2.length c2],by rw[gh],?_,?_⟩
  ·rw[gi];exact aw.stored (uH I1) (by simp;omega) (by simp;omega) (by omega) _ _
  ·exact(M.setCell (by simp;omega) _).setCell (by simp;omega) _
attribute [local go_sem ↓] Go.wp_at_zero Go.wp_at_succ
theorem ag.box{w:World}{ao:Option Addr}{cap g:Nat}{L:List Nat}(h:ag w ao cap L){x:Bool}{a:Option Addr}{n c:Nat}(y:aA w g (.bool x) (.slice a n c))(u u':Value):
  ag ((w.setCell ⟨g,0,none⟩ u).setCell ⟨g,1,none⟩ u') ao cap L:=by
 refine⟨h.1,h.2.1,?_⟩
 rcases h.2.2 with D|⟨b,d,F,G,t⟩
 ·exact .inl D
 ·by_cases m:L= []
  ·exact .inl m
  ·have A:0<L.length:=List.length_pos_iff.2 m
   have f:b≠g:=by
    rintro rfl
    have l:=t 0 A
    rw[cell_of_row w b (d+0) _ _ _ y]at l
    rcases(show d=0∨d=1∨2≤d by omega)with e|e|e
    ·subst e;simp at l
    ·subst e;simp at l
    ·rw[Array.getElem?_eq_none (by simp;omega)]at l;simp at l
   refine .inr ⟨b,d,F,by simpa[World.setCell]using G,fun i z=>?_⟩
   rw[ap _ _ _ _ (by simpa using f),ap _ _ _ _ (by simpa using f)]
   exact t i z
theorem mX(h:Bool)(m:Option Addr)(t:Nat)(B:List Nat)(w:World)(G:ag w m t B)(U:B.length≤35184372088830):
  Calls Tryz.prog 132 #[.agg #[.bool h,.slice m B.length t]] w fun e H=>∃v,e=.returned v∧aE B.length 0 H v (-af h B)∧Below w.heap.size w H:=by
 have L:=aa (Al h B)
 go_enter Tryz.func132,Tryz.ntmps132
 go_wp2_with fail
 have d:Below w.heap.size w ((w.alloc (.cells #[.bool h,.slice m B.length t] 45)).alloc (.cells #[.bool false,.slice none 0 0] 45)):=((Below.refl _ _).alloc (Nat.le_refl _) _).alloc (by simp) _
 refine(c8 0 (!h) m t B _ (G.below d) (bN.zero G) (by omega)).mono ?_
 rw[uH L]
 rintro e Q ⟨v,rfl,⟨z,A,D,F,rfl,K⟩,f⟩
 have l:aA Q (w.heap.size+1) (.bool false) (.slice none 0 0):=by
  have:=aA.new (w.alloc (.cells #[.bool h,.slice m B.length t] 45)) (.bool false) (.slice none 0 0)
  exact aA.below (by simpa using this) f (by simp)
 have M:=l.c0;have N:=l.c1;have V:=l.free 0;have X:=l.free 1
 have I:=aa K
 have O:=aa l
 have y:=aa (d.trans (f.mono (by simp;omega)))
 clear K f d l
 go_wp2
 refine bodyPost_ret (v:=.agg #[.bool z,.slice A F.length D]) (by simp[results,Tryz.results132,go_sem,M,N]) rfl ⟨.agg #[.bool z,.slice A F.length D],rfl,?_,?_⟩
 ·exact⟨z,A,D,F,rfl,(uH I).1.box (uH O) _ _,(uH I).2⟩
 ·exact((uH y).setCell (by simp) _).setCell (by simp) _
end Go.Proofs.YtlnphkioddknfaaGreatDoor
namespace Go.Proofs.YtlnphkioddknfaaGreatDoor
open Go.RowKit
set_option maxRecDepth 100000 in
theorem xJ(x:Int)(w:World)(F:0≤x)(G:x≤4294967295):
  Calls Tryz.prog 279 #[.int .u32 x] w fun e z=>e=.returned (.int .i64 (Lib.bitLen x.toNat))∧w=z:=by
 rcases(show x<256∨(256≤x∧x<65536)∨(65536≤x∧x<16777216)∨16777216≤x by omega)with h|⟨A,D⟩|⟨A,D⟩|h
 ·have y:=fun w=>Lib.run_index_len8tab (P:=Tryz.prog) w 9 .u8 (x) Tryz.underlying9 (by omega) (by omega)
  have d:=Lib.len8_eq ⟨(x).toNat,by omega⟩
  have f:=Lib.bitLen_le8 ⟨(x).toNat,by omega⟩
  have l:0≤Lib.len8 (x):=by simp only[Int.toNat_of_nonneg (show 0≤x by omega)]at d;rw[d];omega
  have m:Lib.len8 (x)≤8:=by simp only[Int.toNat_of_nonneg (show 0≤x by omega)]at d;rw[d];simp only at f;omega
  have t:Hid (Lib.len8 (x)=(Lib.bitLen (x).toNat:Int)):=by unfold Hid;simp only[Int.toNat_of_nonneg (show 0≤x by omega)]at d;exact d
  clear d f
  go_enter Tryz.func279,Tryz.ntmps279
  go_wp2
  go_ret
  refine⟨aQ ?_,rfl⟩
  rw[t.out]
 ·have y:=fun w=>Lib.run_index_len8tab (P:=Tryz.prog) w 9 .u8 (x/256) Tryz.underlying9 (by omega) (by omega)
  have d:=Lib.len8_eq ⟨(x/256).toNat,by omega⟩
  have f:=Lib.bitLen_le8 ⟨(x/256).toNat,by omega⟩
  have l:0≤Lib.len8 (x/256):=by simp only[Int.toNat_of_nonneg (show 0≤x/256 by omega)]at d;rw[d];omega
  have m:Lib.len8 (x/256)≤8:=by simp only[Int.toNat_of_nonneg (show 0≤x/256 by omega)]at d;rw[d];simp only at f;omega
  have t:Hid (Lib.len8 (x/256)=(Lib.bitLen (x/256).toNat:Int)):=by unfold Hid;simp only[Int.toNat_of_nonneg (show 0≤x/256 by omega)]at d;exact d
  clear d f
  go_enter Tryz.func279,Tryz.ntmps279
  go_wp2
  go_ret
  refine⟨aQ ?_,rfl⟩
  rw[t.out]
  have s:=Lib.bitLen_shift8 x.toNat (by omega) (by omega)
  rw[show(x/256).toNat=x.toNat/256 by omega]
  omega
 ·have y:=fun w=>Lib.run_index_len8tab (P:=Tryz.prog) w 9 .u8 (x/65536) Tryz.underlying9 (by omega) (by omega)
  have d:=Lib.len8_eq ⟨(x/65536).toNat,by omega⟩
  have f:=Lib.bitLen_le8 ⟨(x/65536).toNat,by omega⟩
  have l:0≤Lib.len8 (x/65536):=by simp only[Int.toNat_of_nonneg (show 0≤x/65536 by omega)]at d;rw[d];omega
  have m:Lib.len8 (x/65536)≤8:=by simp only[Int.toNat_of_nonneg (show 0≤x/65536 by omega)]at d;rw[d];simp only at f;omega
  have t:Hid (Lib.len8 (x/65536)=(Lib.bitLen (x/65536).toNat:Int)):=by unfold Hid;simp only[Int.toNat_of_nonneg (show 0≤x/65536 by omega)]at d;exact d
  clear d f
  go_enter Tryz.func279,Tryz.ntmps279
  go_wp2
  go_ret
  refine⟨aQ ?_,rfl⟩
  rw[t.out]
  have s:=Lib.bitLen_shift16 x.toNat (by omega) (by omega)
  rw[show(x/65536).toNat=x.toNat/65536 by omega]
  omega
 ·have y:=fun w=>Lib.run_index_len8tab (P:=Tryz.prog) w 9 .u8 (x/65536/256) Tryz.underlying9 (by omega) (by omega)
  have d:=Lib.len8_eq ⟨(x/65536/256).toNat,by omega⟩
  have f:=Lib.bitLen_le8 ⟨(x/65536/256).toNat,by omega⟩
  have l:0≤Lib.len8 (x/65536/256):=by simp only[Int.toNat_of_nonneg (show 0≤x/65536/256 by omega)]at d;rw[d];omega
  have m:Lib.len8 (x/65536/256)≤8:=by simp only[Int.toNat_of_nonneg (show 0≤x/65536/256 by omega)]at d;rw[d];simp only at f;omega
  have t:Hid (Lib.len8 (x/65536/256)=(Lib.bitLen (x/65536/256).toNat:Int)):=by unfold Hid;simp only[Int.toNat_of_nonneg (show 0≤x/65536/256 by omega)]at d;exact d
  clear d f
  go_enter Tryz.func279,Tryz.ntmps279
  go_wp2
  go_ret
  refine⟨aQ ?_,rfl⟩
  rw[t.out]
  have s:=Lib.bitLen_shift24 x.toNat (by omega) (by omega)
  rw[show(x/65536/256).toNat=x.toNat/16777216 by omega]
  omega
theorem l6:∀(f x:Nat),x<2^f→Lib.bitLenAux (f+1) x=Lib.bitLenAux f x
 |0,x,h=>by simp at h;subst h;rfl
 |f+1,x,h=>by
  have d:=l6 f (x/2) (by rw[Nat.pow_succ]at h;omega)
  have l:Lib.bitLenAux (f+1+1) x=if x=0 then 0 else 1+Lib.bitLenAux (f+1) (x/2):=rfl
  have m:Lib.bitLenAux (f+1) x=if x=0 then 0 else 1+Lib.bitLenAux f (x/2):=rfl
  rw[l,m,d]
theorem l8(t:Nat)(f:0<t)(h:t<4294967296):Lib.bitLen t=1+Lib.bitLen (t/2):=by
 have d:Lib.bitLen t=1+Lib.bitLenAux 63 (t/2):=by
  unfold Lib.bitLen
  rw[Lib.bitLenAux,if_neg (by omega)]
 rw[d]
 unfold Lib.bitLen
 rw[←l6 63 (t/2) (by omega)]
theorem rR:Lib.bitLen 0=0:=rfl
theorem lf(t:Nat):Lib.bitLen t≤64:=by
 have:∀f x,Lib.bitLenAux f x≤f:=by
  intro f
  induction f with
  |zero=>intro x;simp[Lib.bitLenAux]
  |succ f ih=>intro x;rw[Lib.bitLenAux];split;omega;have:=ih (x/2);omega
 exact this 64 t
def dD(L:List Nat):Int:=if L.length=0 then 0 else 32*((L.length:Int)-1)+(Lib.bitLen (L[L.length-1]?.getD 0):Int)
theorem qw(neg:Bool)(ao:Option Addr)(cap:Nat)(L:List Nat)(w:World)(h:ag w ao cap L)(F:L.length≤35184372088830):
  Calls Tryz.prog 266 #[.agg #[.bool neg,.slice ao L.length cap]] w fun e f=>e=.returned (.int .i64 (dD L))∧Below w.heap.size w f:=by
 by_cases d:L= []
 ·subst d
  go_enter Tryz.func266,Tryz.ntmps266
  go_wp2
  go_ret
  exact⟨aQ (by simp[dD]),(Below.refl _ _).alloc (Nat.le_refl _) _⟩
 obtain⟨b,A,rfl,I,l⟩:=h.ne (List.length_pos_iff.2 d)
 have G:0<L.length:=List.length_pos_iff.2 d
 have m:=l (L.length-1) (by omega)
 have H:=h.lt (L.length-1)
 have t:Hid (dD L=32*((L.length:Int)-1)+(Lib.bitLen (L[L.length-1]?.getD 0):Int)):=by unfold Hid dD;rw[if_neg (by omega)]
 generalize dD L=r at*
 generalize D:L.length=n at*
 generalize L[n-1]?.getD 0=x at*
 clear D h l d
 have y:=lf x
 have z:((n:Int)==0)=false:=by simp;omega
 go_enter Tryz.func266,Tryz.ntmps266
 go_wp2_with(go_at_call 279;refine(xJ _ _ (by omega) (by omega)).mono ?_;rw[Int.toNat_natCast];rintro e f ⟨rfl,rfl⟩)
 go_ret
 exact⟨aQ (by rw[t.out];omega),(Below.refl _ _).alloc (Nat.le_refl _) _⟩
theorem uF(neg:Bool)(ao:Option Addr)(cap:Nat)(L:List Nat)(w:World)(h:ag w ao cap L)(X:L.length≤35184372088830):
  Calls Tryz.prog 187 #[.agg #[.bool neg,.slice ao L.length cap]] w fun e G=>e=.returned (.int .i64 (dD L))∧Below w.heap.size w G:=by
 by_cases f:L= []
 ·subst f
  go_enter Tryz.func187,Tryz.ntmps187
  go_wp2
  go_ret
  exact⟨aQ (by simp[dD]),(Below.refl _ _).alloc (Nat.le_refl _) _⟩
 obtain⟨b,Q,rfl,Z,F⟩:=h.ne (List.length_pos_iff.2 f)
 have Y:0<L.length:=List.length_pos_iff.2 f
 have H:=F (L.length-1) (by omega)
 have I:=h.lt (L.length-1)
 have K:Hid (dD L=32*((L.length:Int)-1)+(Lib.bitLen (L[L.length-1]?.getD 0):Int)):=by unfold Hid dD;rw[if_neg (by omega)]
 generalize dD L=r at*
 generalize V:L.length=n at*
 generalize L[n-1]?.getD 0=x at*
 clear V h F f
 have M:=lf x
 have N:((n:Int)==0)=false:=by simp;omega
 go_enter Tryz.func187,Tryz.ntmps187
 go_wp2
 go_loop [3,4] (fun m t=>∃(k y:Nat),m=.int .i64 (32*((n:Int)-1)+(k:Int))∧t=.int .u32 (y:Int)∧y<4294967296∧k≤64∧Hid (k+Lib.bitLen y=Lib.bitLen x)) (fun _ t=>(intOf t).toNat)
 case atStart=>exact⟨0,x,cN (by omega),rfl,I,by omega,by unfold Hid;omega⟩
 case round=>
  obtain⟨k,y,rfl,rfl,U,hk,l⟩:=hrel
  by_cases z:y=0
  ·subst z
   have d:=l.out
   rw[rR]at d
   have A:=aa d
   clear d l
   go_wp2
   go_ret
   exact⟨aQ (by rw[K.out];have:=uH A;omega),(Below.refl _ _).alloc (Nat.le_refl _) _⟩
  ·have O:=l8 y (by omega) U
   have d:=l.out
   have A:=aa (show k+1+Lib.bitLen (y/2)=Lib.bitLen x by omega)
   have D:k+1≤64:=by omega
   clear O d l
   go_wp2
   go_round
   case rel=>exact⟨k+1,y/2,cN (by omega),cN (by omega),by omega,D,uH A⟩
   case measure=>simp[intOf];omega
theorem h9{k k':IntKind}{a b c d:Int}(h:a=b)(f:c=d):Ending.returned (.tuple #[.int k a,.int k' c])=.returned (.tuple #[.int k b,.int k' d]):=by rw[h,f]
end Go.Proofs.YtlnphkioddknfaaGreatDoor
