/- Part 7 of the texts. -/
import Derived.Test.YtnnfjeieennffaaGreatDoorPartc06
import Derived.Lib.BitFns
set_option maxHeartbeats 4000000
namespace Go.Proofs.YtnnfjeieennffaaGreatDoor
open Go.RowKit
attribute [local go_sem ↓] Go.wp_at_zero Go.wp_at_succ
def uA(na:Bool)(A:List Nat)(nb:Bool)(B:List Nat):Int:=if ar na A&&ar nb B then 0 else 1
theorem jD(d m:Bool)(G z:Option Addr)(H D:Nat)(A B:List Nat)(w:World)(O:ag w G H A)(Q:ag w z D B)(U:A.length≤35184372088830)(V:B.length≤35184372088830):
  Calls Tryz.prog 225 #[.agg #[.bool d,.slice G A.length H],.agg #[.bool m,.slice z B.length D]] w fun e w'=>e=.returned (.int .i64 (uA d A m B))∧Below w.heap.size w w':=by
 have N:(ar d A=false→uA d A m B=1)∧(ar d A=true→uA d A m B=ei m B):=by
  constructor<;>intro h<;>simp[uA,ei,h]
 have F:=aa N
 clear N
 generalize uA d A m B=r at*
 go_enter Tryz.func225,Tryz.ntmps225
 go_wp2_with fail
 refine(dZ d G H A _ (O.below (((Below.refl _ _).alloc (Nat.le_refl _) _).alloc (by simp) _)) U).mono ?_
 rintro e L ⟨rfl,l⟩
 have f:Below w.heap.size w L:=(((Below.refl _ _).alloc (Nat.le_refl _) _).alloc (by simp) _).trans (l.mono (by simp;omega))
 have X:L.cell? ⟨w.heap.size+1,0,none⟩=some (.bool m):=by rw[l.cell (p:=⟨w.heap.size+1,0,none⟩) (by simp)];simp[go_sem]
 have Y:L.cell? ⟨w.heap.size+1,1,none⟩=some (.slice z B.length D):=by rw[l.cell (p:=⟨w.heap.size+1,1,none⟩) (by simp)];simp[go_sem]
 clear l
 cases hr:ar d A
 ·have K:=aa ((uH F).1 hr)
  have t:ei d A=1:=by simp[ei,hr]
  rw[t]
  clear t hr F
  go_wp2
  go_ret
  exact⟨aM (uH K).symm,f⟩
 ·have K:=aa ((uH F).2 hr)
  have t:ei d A=0:=by simp[ei,hr]
  rw[t]
  clear t hr F
  go_wp2_with fail
  refine(dZ m z D B _ (Q.below f) V).mono ?_
  rintro e Z ⟨rfl,M⟩
  go_wp2
  go_ret
  exact⟨aM (uH K).symm,f.trans (M.mono f.size)⟩
end Go.Proofs.YtnnfjeieennffaaGreatDoor
namespace Go.Proofs.YtnnfjeieennffaaGreatDoor
open Go.RowKit
def pH(ok:Bool)(z:Int):Int:=if ok then bu z else 1
def pI(ok:Bool)(z:Int):Int:=if ok then dG z else 0
theorem gj(z:Int):pH true z=bu z:=by unfold pH;rw[if_pos rfl]
theorem gn(z:Int):pI true z=dG z:=by unfold pI;rw[if_pos rfl]
theorem lZ(z:Int):pH false z=1:=by unfold pH;rw[if_neg (by decide)]
theorem l6(z:Int):pI false z=0:=by unfold pI;rw[if_neg (by decide)]
theorem ay{neg:Bool}{L:List Nat}(h:ar neg L=true):L.length≤512∧bN L∧(neg=true→L≠ []):=by
 simp only[ar,Bool.and_eq_true,decide_eq_true_eq,Bool.not_eq_true',Bool.and_eq_false_iff,decide_eq_false_iff_not,Bool.or_eq_true]at h
 obtain⟨⟨l,d⟩,f⟩:=h
 refine⟨l,?_,?_⟩
 ·rcases f with f|f
  ·exact .inl (List.length_eq_zero_iff.1 f)
  ·exact .inr f
 ·rintro m rfl
  rcases d with d|d
  ·simp at d
  ·rw[m]at d;cases d
theorem zP(d:Bool)(B:List Nat):af (!d) B= -af d B:=by unfold af;cases d<;>simp
theorem DV(f l:Bool)(z D:Option Addr)(F G:Nat)(A B:List Nat)(w:World)(V:ag w z F A)(X:ag w D G B)(Y:A.length≤35184372088830)(Z:B.length≤35184372088830):
  Calls Tryz.prog 224 #[.agg #[.bool f,.slice z A.length F],.agg #[.bool l,.slice D B.length G]] w fun e w'=>∃v,e=.returned (.tuple #[v,.int .i64 (pH (ar f A&&ar l B) (af f A+af l B))])∧au w.heap.size w' v (pI (ar f A&&ar l B) (af f A+af l B))∧Below w.heap.size w w':=by
 have hC:(ar f A&&ar l B)=true→bN A∧bN B:=fun h=>by
  simp only[Bool.and_eq_true]at h;exact⟨(ay h.1).2.1,(ay h.2).2.1⟩
 have HC:=aa hC
 have H2:=aa (show uA f A l B=if(ar f A&&ar l B)then 0 else 1 from rfl)
 clear hC
 generalize U:(ar f A&&ar l B)=ok at*
 clear U
 go_enter Tryz.func224,Tryz.ntmps224
 go_wp2_with fail
 have t:Below w.heap.size w (((w.alloc (.cells #[.bool f,.slice z A.length F] 50)).alloc (.cells #[.bool l,.slice D B.length G] 50)).alloc (.cells #[.bool false,.slice none 0 0] 50)):=
  (((Below.refl _ _).alloc (Nat.le_refl _) _).alloc (by simp) _).alloc (by simp;omega) _
 refine(jD f l z D F G A B _ (V.below t) (X.below t) Y Z).mono ?_
 rintro e H ⟨rfl,d⟩
 have ae:w.heap.size+3≤H.heap.size:=by have:=d.size;simpa using this
 have m:Below w.heap.size w H:=t.trans (d.mono (by simp;omega))
 have p0:H.cell? ⟨w.heap.size,0,none⟩=some (.bool f):=by rw[d.cell (p:=⟨w.heap.size,0,none⟩) (by simp;omega)];simp[go_sem]
 have p1:H.cell? ⟨w.heap.size,1,none⟩=some (.slice z A.length F):=by rw[d.cell (p:=⟨w.heap.size,1,none⟩) (by simp;omega)];simp[go_sem]
 have q0:H.cell? ⟨w.heap.size+1,0,none⟩=some (.bool l):=by rw[d.cell (p:=⟨w.heap.size+1,0,none⟩) (by simp)];simp[go_sem]
 have q1:H.cell? ⟨w.heap.size+1,1,none⟩=some (.slice D B.length G):=by rw[d.cell (p:=⟨w.heap.size+1,1,none⟩) (by simp)];simp[go_sem]
 have K:aC H (w.heap.size+2) (.bool false) (.slice none 0 0):=by
  have:=aC.new ((w.alloc (.cells #[.bool f,.slice z A.length F] 50)).alloc (.cells #[.bool l,.slice D B.length G] 50)) (.bool false) (.slice none 0 0)
  exact aC.below (by simpa using this) d (by simp)
 rw[uH H2]
 clear d H2 t
 cases ok
 ·simp only[Bool.false_eq_true,if_false]
  have N:=K.c0;have O:=K.c1;have f0:=K.free 0;have f1:=K.free 1
  go_wp2
  refine bodyPost_ret (v:=.tuple #[.agg #[.bool false,.slice none 0 0],.int .i64 1]) (by simp[results,Tryz.results224,go_sem,N,O]) rfl ⟨.agg #[.bool false,.slice none 0 0],by rw[lZ],by rw[l6];exact au.zero _ _ _ _,?_⟩
  exact(m.setCell (by simp;omega) _).setCell (by simp;omega) _
 ·obtain⟨cA,cB⟩:=uH HC rfl
  have CA:=aa cA
  have CB:=aa cB
  clear cA cB
  simp only[if_true]
  go_wp2_with fail
  refine(oW f l z D F G A B _ (V.below m) (X.below m) Y Z (uH CA) (uH CB)).mono ?_
  rintro e w2 ⟨v,rfl,⟨n2,a2,c2,L2,rfl,i1⟩,L⟩
  have M:=K.below L (by omega)
  have N:=M.c0;have O:=M.c1;have f0:=M.free 0;have f1:=M.free 1
  have I1:=aa i1
  have Q:=m.trans (L.mono m.size)
  clear i1
  go_wp2
  refine bodyPost_ret (v:=.tuple #[.agg #[.bool n2,.slice a2 L2.length c2],.int .i64 (bu (af f A+af l B))]) (by simp[results,Tryz.results224,go_sem,N,O]) rfl ⟨.agg #[.bool n2,.slice a2 L2.length c2],by rw[gj],?_,?_⟩
  ·rw[gn];exact au.stored (uH I1) (by simp;omega) (by simp;omega) (by omega) _ _
  ·exact(Q.setCell (by simp;omega) _).setCell (by simp;omega) _
attribute [local go_sem ↓] Go.wp_at_zero Go.wp_at_succ
theorem ag.box{w:World}{t:Option Addr}{f g:Nat}{L:List Nat}(h:ag w t f L){x:Bool}{a:Option Addr}{n c:Nat}(D:aC w g (.bool x) (.slice a n c))(u u':Value):
  ag ((w.setCell ⟨g,0,none⟩ u).setCell ⟨g,1,none⟩ u') t f L:=by
 refine⟨h.1,h.2.1,?_⟩
 rcases h.2.2 with H|⟨b,d,K,M,A⟩
 ·exact .inl H
 ·by_cases z:L= []
  ·exact .inl z
  ·have G:0<L.length:=List.length_pos_iff.2 z
   have l:b≠g:=by
    rintro rfl
    have m:=A 0 G
    rw[cell_of_row w b (d+0) _ _ _ D]at m
    rcases(show d=0∨d=1∨2≤d by omega)with e|e|e
    ·subst e;simp at m
    ·subst e;simp at m
    ·rw[Array.getElem?_eq_none (by simp;omega)]at m;simp at m
   refine .inr ⟨b,d,K,by simpa[World.setCell]using M,fun i F=>?_⟩
   rw[ah _ _ _ _ (by simpa using l),ah _ _ _ _ (by simpa using l)]
   exact A i F
theorem ni(h:Bool)(m:Option Addr)(t:Nat)(B:List Nat)(w:World)(H:ag w m t B)(V:B.length≤35184372088830):
  Calls Tryz.prog 105 #[.agg #[.bool h,.slice m B.length t]] w fun e w'=>∃v,e=.returned v∧aE B.length 0 w' v (-af h B)∧Below w.heap.size w w':=by
 have M:=aa (zP h B)
 go_enter Tryz.func105,Tryz.ntmps105
 go_wp2_with fail
 have d:Below w.heap.size w ((w.alloc (.cells #[.bool h,.slice m B.length t] 50)).alloc (.cells #[.bool false,.slice none 0 0] 50)):=((Below.refl _ _).alloc (Nat.le_refl _) _).alloc (by simp) _
 refine(di 0 (!h) m t B _ (H.below d) (bG.zero H) (by omega)).mono ?_
 rw[uH M]
 rintro e U ⟨v,rfl,⟨A,D,F,G,rfl,L⟩,f⟩
 have l:aC U (w.heap.size+1) (.bool false) (.slice none 0 0):=by
  have:=aC.new (w.alloc (.cells #[.bool h,.slice m B.length t] 50)) (.bool false) (.slice none 0 0)
  exact aC.below (by simpa using this) f (by simp)
 have N:=l.c0;have O:=l.c1;have X:=l.free 0;have Y:=l.free 1
 have K:=aa L
 have Q:=aa l
 have z:=aa (d.trans (f.mono (by simp;omega)))
 clear L f d l
 go_wp2
 refine bodyPost_ret (v:=.agg #[.bool A,.slice D G.length F]) (by simp[results,Tryz.results105,go_sem,N,O]) rfl ⟨.agg #[.bool A,.slice D G.length F],rfl,?_,?_⟩
 ·exact⟨A,D,F,G,rfl,(uH K).1.box (uH Q) _ _,(uH K).2⟩
 ·exact((uH z).setCell (by simp) _).setCell (by simp) _
end Go.Proofs.YtnnfjeieennffaaGreatDoor
namespace Go.Proofs.YtnnfjeieennffaaGreatDoor
open Go.RowKit
set_option maxRecDepth 100000 in
theorem xx(x:Int)(w:World)(F:0≤x)(G:x≤4294967295):
  Calls Tryz.prog 202 #[.int .u32 x] w fun e w'=>e=.returned (.int .i64 (Lib.bitLen x.toNat))∧w=w':=by
 rcases(show x<256∨(256≤x∧x<65536)∨(65536≤x∧x<16777216)∨16777216≤x by omega)with h|⟨A,D⟩|⟨A,D⟩|h
 ·have z:=fun w=>Lib.run_index_len8tab (P:=Tryz.prog) w 9 .u8 (x) Tryz.underlying9 (by omega) (by omega)
  have d:=Lib.len8_eq ⟨(x).toNat,by omega⟩
  have f:=Lib.bitLen_le8 ⟨(x).toNat,by omega⟩
  have l:0≤Lib.len8 (x):=by simp only[Int.toNat_of_nonneg (show 0≤x by omega)]at d;rw[d];omega
  have m:Lib.len8 (x)≤8:=by simp only[Int.toNat_of_nonneg (show 0≤x by omega)]at d;rw[d];simp only at f;omega
  have t:Hid (Lib.len8 (x)=(Lib.bitLen (x).toNat:Int)):=by unfold Hid;simp only[Int.toNat_of_nonneg (show 0≤x by omega)]at d;exact d
  clear d f
  go_enter Tryz.func202,Tryz.ntmps202
  go_wp2
  go_ret
  refine⟨aM ?_,rfl⟩
  rw[t.out]
 ·have z:=fun w=>Lib.run_index_len8tab (P:=Tryz.prog) w 9 .u8 (x/256) Tryz.underlying9 (by omega) (by omega)
  have d:=Lib.len8_eq ⟨(x/256).toNat,by omega⟩
  have f:=Lib.bitLen_le8 ⟨(x/256).toNat,by omega⟩
  have l:0≤Lib.len8 (x/256):=by simp only[Int.toNat_of_nonneg (show 0≤x/256 by omega)]at d;rw[d];omega
  have m:Lib.len8 (x/256)≤8:=by simp only[Int.toNat_of_nonneg (show 0≤x/256 by omega)]at d;rw[d];simp only at f;omega
  have t:Hid (Lib.len8 (x/256)=(Lib.bitLen (x/256).toNat:Int)):=by unfold Hid;simp only[Int.toNat_of_nonneg (show 0≤x/256 by omega)]at d;exact d
  clear d f
  go_enter Tryz.func202,Tryz.ntmps202
  go_wp2
  go_ret
  refine⟨aM ?_,rfl⟩
  rw[t.out]
  have s:=Lib.bitLen_shift8 x.toNat (by omega) (by omega)
  rw[show(x/256).toNat=x.toNat/256 by omega]
  omega
 ·have z:=fun w=>Lib.run_index_len8tab (P:=Tryz.prog) w 9 .u8 (x/65536) Tryz.underlying9 (by omega) (by omega)
  have d:=Lib.len8_eq ⟨(x/65536).toNat,by omega⟩
  have f:=Lib.bitLen_le8 ⟨(x/65536).toNat,by omega⟩
  have l:0≤Lib.len8 (x/65536):=by simp only[Int.toNat_of_nonneg (show 0≤x/65536 by omega)]at d;rw[d];omega
  have m:Lib.len8 (x/65536)≤8:=by simp only[Int.toNat_of_nonneg (show 0≤x/65536 by omega)]at d;rw[d];simp only at f;omega
  have t:Hid (Lib.len8 (x/65536)=(Lib.bitLen (x/65536).toNat:Int)):=by unfold Hid;simp only[Int.toNat_of_nonneg (show 0≤x/65536 by omega)]at d;exact d
  clear d f
  go_enter Tryz.func202,Tryz.ntmps202
  go_wp2
  go_ret
  refine⟨aM ?_,rfl⟩
  rw[t.out]
  have s:=Lib.bitLen_shift16 x.toNat (by omega) (by omega)
  rw[show(x/65536).toNat=x.toNat/65536 by omega]
  omega
 ·have z:=fun w=>Lib.run_index_len8tab (P:=Tryz.prog) w 9 .u8 (x/65536/256) Tryz.underlying9 (by omega) (by omega)
  have d:=Lib.len8_eq ⟨(x/65536/256).toNat,by omega⟩
  have f:=Lib.bitLen_le8 ⟨(x/65536/256).toNat,by omega⟩
  have l:0≤Lib.len8 (x/65536/256):=by simp only[Int.toNat_of_nonneg (show 0≤x/65536/256 by omega)]at d;rw[d];omega
  have m:Lib.len8 (x/65536/256)≤8:=by simp only[Int.toNat_of_nonneg (show 0≤x/65536/256 by omega)]at d;rw[d];simp only at f;omega
  have t:Hid (Lib.len8 (x/65536/256)=(Lib.bitLen (x/65536/256).toNat:Int)):=by unfold Hid;simp only[Int.toNat_of_nonneg (show 0≤x/65536/256 by omega)]at d;exact d
  clear d f
  go_enter Tryz.func202,Tryz.ntmps202
  go_wp2
  go_ret
  refine⟨aM ?_,rfl⟩
  rw[t.out]
  have s:=Lib.bitLen_shift24 x.toNat (by omega) (by omega)
  rw[show(x/65536/256).toNat=x.toNat/16777216 by omega]
  omega
theorem l8:∀(f x:Nat),x<2^f→Lib.bitLenAux (f+1) x=Lib.bitLenAux f x
 |0,x,h=>by simp at h;subst h;rfl
 |f+1,x,h=>by
  have d:=l8 f (x/2) (by rw[Nat.pow_succ]at h;omega)
  have l:Lib.bitLenAux (f+1+1) x=if x=0 then 0 else 1+Lib.bitLenAux (f+1) (x/2):=rfl
  have m:Lib.bitLenAux (f+1) x=if x=0 then 0 else 1+Lib.bitLenAux f (x/2):=rfl
  rw[l,m,d]
theorem l9(t:Nat)(f:0<t)(h:t<4294967296):Lib.bitLen t=1+Lib.bitLen (t/2):=by
 have d:Lib.bitLen t=1+Lib.bitLenAux 63 (t/2):=by
  unfold Lib.bitLen
  rw[Lib.bitLenAux,if_neg (by omega)]
 rw[d]
 unfold Lib.bitLen
 rw[←l8 63 (t/2) (by omega)]
theorem rU:Lib.bitLen 0=0:=rfl
theorem k7(t:Nat):Lib.bitLen t≤64:=by
 have:∀f x,Lib.bitLenAux f x≤f:=by
  intro f
  induction f with
  |zero=>intro x;simp[Lib.bitLenAux]
  |succ f ih=>intro x;rw[Lib.bitLenAux];split;omega;have:=ih (x/2);omega
 exact this 64 t
def dH(L:List Nat):Int:=if L.length=0 then 0 else 32*((L.length:Int)-1)+(Lib.bitLen (L[L.length-1]?.getD 0):Int)
theorem qx(neg:Bool)(l:Option Addr)(d:Nat)(L:List Nat)(w:World)(h:ag w l d L)(H:L.length≤35184372088830):
  Calls Tryz.prog 189 #[.agg #[.bool neg,.slice l L.length d]] w fun e w'=>e=.returned (.int .i64 (dH L))∧Below w.heap.size w w':=by
 by_cases f:L= []
 ·subst f
  go_enter Tryz.func189,Tryz.ntmps189
  go_wp2
  go_ret
  exact⟨aM (by simp[dH]),(Below.refl _ _).alloc (Nat.le_refl _) _⟩
 obtain⟨b,F,rfl,N,m⟩:=h.ne (List.length_pos_iff.2 f)
 have K:0<L.length:=List.length_pos_iff.2 f
 have t:=m (L.length-1) (by omega)
 have M:=h.lt (L.length-1)
 have z:Hid (dH L=32*((L.length:Int)-1)+(Lib.bitLen (L[L.length-1]?.getD 0):Int)):=by unfold Hid dH;rw[if_neg (by omega)]
 generalize dH L=r at*
 generalize G:L.length=n at*
 generalize L[n-1]?.getD 0=x at*
 clear G h m f
 have A:=k7 x
 have D:((n:Int)==0)=false:=by simp;omega
 go_enter Tryz.func189,Tryz.ntmps189
 go_wp2_with(go_at_call 202;refine(xx _ _ (by omega) (by omega)).mono ?_;rw[Int.toNat_natCast];rintro e w' ⟨rfl,rfl⟩)
 go_ret
 exact⟨aM (by rw[z.out];omega),(Below.refl _ _).alloc (Nat.le_refl _) _⟩
theorem uB(neg:Bool)(G:Option Addr)(f:Nat)(L:List Nat)(w:World)(h:ag w G f L)(Z:L.length≤35184372088830):
  Calls Tryz.prog 107 #[.agg #[.bool neg,.slice G L.length f]] w fun e w'=>e=.returned (.int .i64 (dH L))∧Below w.heap.size w w':=by
 by_cases l:L= []
 ·subst l
  go_enter Tryz.func107,Tryz.ntmps107
  go_wp2
  go_ret
  exact⟨aM (by simp[dH]),(Below.refl _ _).alloc (Nat.le_refl _) _⟩
 obtain⟨b,V,rfl,hb,H⟩:=h.ne (List.length_pos_iff.2 l)
 have hp:0<L.length:=List.length_pos_iff.2 l
 have K:=H (L.length-1) (by omega)
 have M:=h.lt (L.length-1)
 have N:Hid (dH L=32*((L.length:Int)-1)+(Lib.bitLen (L[L.length-1]?.getD 0):Int)):=by unfold Hid dH;rw[if_neg (by omega)]
 generalize dH L=r at*
 generalize Y:L.length=n at*
 generalize L[n-1]?.getD 0=x at*
 clear Y h H l
 have O:=k7 x
 have Q:((n:Int)==0)=false:=by simp;omega
 go_enter Tryz.func107,Tryz.ntmps107
 go_wp2
 go_loop [3,4] (fun m t=>∃(k y:Nat),m=.int .i64 (32*((n:Int)-1)+(k:Int))∧t=.int .u32 (y:Int)∧y<4294967296∧k≤64∧Hid (k+Lib.bitLen y=Lib.bitLen x)) (fun _ t=>(intOf t).toNat)
 case atStart=>exact⟨0,x,cQ (by omega),rfl,M,by omega,by unfold Hid;omega⟩
 case round=>
  obtain⟨k,y,rfl,rfl,X,hk,z⟩:=hrel
  by_cases A:y=0
  ·subst A
   have d:=z.out
   rw[rU]at d
   have D:=aa d
   clear d z
   go_wp2
   go_ret
   exact⟨aM (by rw[N.out];have:=uH D;omega),(Below.refl _ _).alloc (Nat.le_refl _) _⟩
  ·have U:=l9 y (by omega) X
   have d:=z.out
   have D:=aa (show k+1+Lib.bitLen (y/2)=Lib.bitLen x by omega)
   have F:k+1≤64:=by omega
   clear U d z
   go_wp2
   go_round
   case rel=>exact⟨k+1,y/2,cQ (by omega),cQ (by omega),by omega,F,uH D⟩
   case measure=>simp[intOf];omega
theorem gV{k k':IntKind}{a b c d:Int}(h:a=b)(f:c=d):Ending.returned (.tuple #[.int k a,.int k' c])=.returned (.tuple #[.int k b,.int k' d]):=by rw[h,f]
end Go.Proofs.YtnnfjeieennffaaGreatDoor
