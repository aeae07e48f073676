/- Part 7 of the texts. -/
import Derived.Test.YtenpggicmfhhdaaGreatDoorParte06
import Derived.Lib.BitFns
set_option maxHeartbeats 4000000
namespace Go.Proofs.YtenpggicmfhhdaaGreatDoor
open Go.RowKit
attribute [local go_sem ↓] Go.wp_at_zero Go.wp_at_succ
def sz(na:Bool)(A:List Nat)(nb:Bool)(B:List Nat):Int:=if aw na A&&aw nb B then 0 else 1
theorem jj(d m:Bool)(F y:Option Addr)(G z:Nat)(A B:List Nat)(w:World)(M:af w F G A)(N:af w y z B)(O:A.length≤35184372088830)(Q:B.length≤35184372088830):
  Calls Tryz.prog 201 #[.agg #[.bool d,.slice F A.length G],.agg #[.bool m,.slice y B.length z]] w fun e T=>e=.returned (.int .i64 (sz d A m B))∧Below w.heap.size w T:=by
 have L:(aw d A=false→sz d A m B=1)∧(aw d A=true→sz d A m B=dO m B):=by
  constructor<;>intro h<;>simp[sz,dO,h]
 have D:=aa L
 clear L
 generalize sz d A m B=r at*
 go_enter Tryz.func201,Tryz.ntmps201
 go_wp2_with fail
 refine(dD d F G A _ (M.below (((Below.refl _ _).alloc (Nat.le_refl _) _).alloc (by simp) _)) O).mono ?_
 rintro e I ⟨rfl,l⟩
 have f:Below w.heap.size w I:=(((Below.refl _ _).alloc (Nat.le_refl _) _).alloc (by simp) _).trans (l.mono (by simp;omega))
 have U:I.cell? ⟨w.heap.size+1,0,none⟩=some (.bool m):=by rw[l.cell (p:=⟨w.heap.size+1,0,none⟩) (by simp)];simp[go_sem]
 have V:I.cell? ⟨w.heap.size+1,1,none⟩=some (.slice y B.length z):=by rw[l.cell (p:=⟨w.heap.size+1,1,none⟩) (by simp)];simp[go_sem]
 clear l
 cases hr:aw d A
 ·have H:=aa ((uH D).1 hr)
  have t:dO d A=1:=by simp[dO,hr]
  rw[t]
  clear t hr D
  go_wp2
  go_ret
  exact⟨aQ (uH H).symm,f⟩
 ·have H:=aa ((uH D).2 hr)
  have t:dO d A=0:=by simp[dO,hr]
  rw[t]
  clear t hr D
  go_wp2_with fail
  refine(dD m y z B _ (N.below f) Q).mono ?_
  rintro e X ⟨rfl,K⟩
  go_wp2
  go_ret
  exact⟨aQ (uH H).symm,f.trans (K.mono f.size)⟩
end Go.Proofs.YtenpggicmfhhdaaGreatDoor
namespace Go.Proofs.YtenpggicmfhhdaaGreatDoor
open Go.RowKit
def oB(ok:Bool)(z:Int):Int:=if ok then bD z else 1
def oC(ok:Bool)(z:Int):Int:=if ok then dj z else 0
theorem fJ(z:Int):oB true z=bD z:=by unfold oB;rw[if_pos rfl]
theorem fL(z:Int):oC true z=dj z:=by unfold oC;rw[if_pos rfl]
theorem kP(z:Int):oB false z=1:=by unfold oB;rw[if_neg (by decide)]
theorem kQ(z:Int):oC false z=0:=by unfold oC;rw[if_neg (by decide)]
theorem aA{neg:Bool}{L:List Nat}(h:aw neg L=true):L.length≤512∧bM L∧(neg=true→L≠ []):=by
 simp only[aw,Bool.and_eq_true,decide_eq_true_eq,Bool.not_eq_true',Bool.and_eq_false_iff,decide_eq_false_iff_not,Bool.or_eq_true]at h
 obtain⟨⟨l,d⟩,f⟩:=h
 refine⟨l,?_,?_⟩
 ·rcases f with f|f
  ·exact .inl (List.length_eq_zero_iff.1 f)
  ·exact .inr f
 ·rintro m rfl
  rcases d with d|d
  ·simp at d
  ·rw[m]at d;cases d
theorem xL(d:Bool)(B:List Nat):ad (!d) B= -ad d B:=by unfold ad;cases d<;>simp
theorem Bo(f l:Bool)(y z:Option Addr)(D F:Nat)(A B:List Nat)(w:World)(Q:af w y D A)(T:af w z F B)(U:A.length≤35184372088830)(V:B.length≤35184372088830):
  Calls Tryz.prog 193 #[.agg #[.bool f,.slice y A.length D],.agg #[.bool l,.slice z B.length F]] w fun e X=>∃v,e=.returned (.tuple #[v,.int .i64 (oB (aw f A&&aw l B) (ad f A+ad l B))])∧ay w.heap.size X v (oC (aw f A&&aw l B) (ad f A+ad l B))∧Below w.heap.size w X:=by
 have Y:(aw f A&&aw l B)=true→bM A∧bM B:=fun h=>by
  simp only[Bool.and_eq_true]at h;exact⟨(aA h.1).2.1,(aA h.2).2.1⟩
 have HC:=aa Y
 have Z:=aa (show sz f A l B=if(aw f A&&aw l B)then 0 else 1 from rfl)
 clear Y
 generalize O:(aw f A&&aw l B)=ok at*
 clear O
 go_enter Tryz.func193,Tryz.ntmps193
 go_wp2_with fail
 have t:Below w.heap.size w (((w.alloc (.cells #[.bool f,.slice y A.length D] 108)).alloc (.cells #[.bool l,.slice z B.length F] 108)).alloc (.cells #[.bool false,.slice none 0 0] 108)):=
  (((Below.refl _ _).alloc (Nat.le_refl _) _).alloc (by simp) _).alloc (by simp;omega) _
 refine(jj f l y z D F A B _ (Q.below t) (T.below t) U V).mono ?_
 rintro e G ⟨rfl,d⟩
 have ae:w.heap.size+3≤G.heap.size:=by have:=d.size;simpa using this
 have m:Below w.heap.size w G:=t.trans (d.mono (by simp;omega))
 have p0:G.cell? ⟨w.heap.size,0,none⟩=some (.bool f):=by rw[d.cell (p:=⟨w.heap.size,0,none⟩) (by simp;omega)];simp[go_sem]
 have p1:G.cell? ⟨w.heap.size,1,none⟩=some (.slice y A.length D):=by rw[d.cell (p:=⟨w.heap.size,1,none⟩) (by simp;omega)];simp[go_sem]
 have q0:G.cell? ⟨w.heap.size+1,0,none⟩=some (.bool l):=by rw[d.cell (p:=⟨w.heap.size+1,0,none⟩) (by simp)];simp[go_sem]
 have q1:G.cell? ⟨w.heap.size+1,1,none⟩=some (.slice z B.length F):=by rw[d.cell (p:=⟨w.heap.size+1,1,none⟩) (by simp)];simp[go_sem]
 have H:aC G (w.heap.size+2) (.bool false) (.slice none 0 0):=by
  have:=aC.new ((w.alloc (.cells #[.bool f,.slice y A.length D] 108)).alloc (.cells #[.bool l,.slice z B.length F] 108)) (.bool false) (.slice none 0 0)
  exact aC.below (by simpa using this) d (by simp)
 rw[uH Z]
 clear d Z t
 cases ok
 ·simp only[Bool.false_eq_true,if_false]
  have L:=H.c0;have M:=H.c1;have f0:=H.free 0;have f1:=H.free 1
  go_wp2
  refine bodyPost_ret (v:=.tuple #[.agg #[.bool false,.slice none 0 0],.int .i64 1]) (by simp[results,Tryz.results193,go_sem,L,M]) rfl ⟨.agg #[.bool false,.slice none 0 0],by rw[kP],by rw[kQ];exact ay.zero _ _ _ _,?_⟩
  exact(m.setCell (by simp;omega) _).setCell (by simp;omega) _
 ·obtain⟨cA,cB⟩:=uH HC rfl
  have CA:=aa cA
  have CB:=aa cB
  clear cA cB
  simp only[if_true]
  go_wp2_with fail
  refine(nI f l y z D F A B _ (Q.below m) (T.below m) U V (uH CA) (uH CB)).mono ?_
  rintro e w2 ⟨v,rfl,⟨n2,a2,c2,L2,rfl,i1⟩,I⟩
  have K:=H.below I (by omega)
  have L:=K.c0;have M:=K.c1;have f0:=K.free 0;have f1:=K.free 1
  have I1:=aa i1
  have N:=m.trans (I.mono m.size)
  clear i1
  go_wp2
  refine bodyPost_ret (v:=.tuple #[.agg #[.bool n2,.slice a2 L2.length c2],.int .i64 (bD (ad f A+ad l B))]) (by simp[results,Tryz.results193,go_sem,L,M]) rfl ⟨.agg #[.bool n2,.slice a2 L2.length c2],by rw[fJ],?_,?_⟩
  ·rw[fL];exact ay.stored (uH I1) (by simp;omega) (by simp;omega) (by omega) _ _
  ·exact(N.setCell (by simp;omega) _).setCell (by simp;omega) _
attribute [local go_sem ↓] Go.wp_at_zero Go.wp_at_succ
theorem af.box{w:World}{t:Option Addr}{f g:Nat}{L:List Nat}(h:af w t f L){x:Bool}{a:Option Addr}{n c:Nat}(A:aC w g (.bool x) (.slice a n c))(u u':Value):
  af ((w.setCell ⟨g,0,none⟩ u).setCell ⟨g,1,none⟩ u') t f L:=by
 refine⟨h.1,h.2.1,?_⟩
 rcases h.2.2 with G|⟨b,d,H,I,z⟩
 ·exact .inl G
 ·by_cases y:L= []
  ·exact .inl y
  ·have F:0<L.length:=List.length_pos_iff.2 y
   have l:b≠g:=by
    rintro rfl
    have m:=z 0 F
    rw[cell_of_row w b (d+0) _ _ _ A]at m
    rcases(show d=0∨d=1∨2≤d by omega)with e|e|e
    ·subst e;simp at m
    ·subst e;simp at m
    ·rw[Array.getElem?_eq_none (by simp;omega)]at m;simp at m
   refine .inr ⟨b,d,H,by simpa[World.setCell]using I,fun i D=>?_⟩
   rw[ak _ _ _ _ (by simpa using l),ak _ _ _ _ (by simpa using l)]
   exact z i D
theorem lU(h:Bool)(m:Option Addr)(t:Nat)(B:List Nat)(w:World)(G:af w m t B)(T:B.length≤35184372088830):
  Calls Tryz.prog 121 #[.agg #[.bool h,.slice m B.length t]] w fun e H=>∃v,e=.returned v∧aG B.length 0 H v (-ad h B)∧Below w.heap.size w H:=by
 have L:=aa (xL h B)
 go_enter Tryz.func121,Tryz.ntmps121
 go_wp2_with fail
 have d:Below w.heap.size w ((w.alloc (.cells #[.bool h,.slice m B.length t] 108)).alloc (.cells #[.bool false,.slice none 0 0] 108)):=((Below.refl _ _).alloc (Nat.le_refl _) _).alloc (by simp) _
 refine(cS 0 (!h) m t B _ (G.below d) (bI.zero G) (by omega)).mono ?_
 rw[uH L]
 rintro e Q ⟨v,rfl,⟨z,A,D,F,rfl,K⟩,f⟩
 have l:aC Q (w.heap.size+1) (.bool false) (.slice none 0 0):=by
  have:=aC.new (w.alloc (.cells #[.bool h,.slice m B.length t] 108)) (.bool false) (.slice none 0 0)
  exact aC.below (by simpa using this) f (by simp)
 have M:=l.c0;have N:=l.c1;have U:=l.free 0;have V:=l.free 1
 have I:=aa K
 have O:=aa l
 have y:=aa (d.trans (f.mono (by simp;omega)))
 clear K f d l
 go_wp2
 refine bodyPost_ret (v:=.agg #[.bool z,.slice A F.length D]) (by simp[results,Tryz.results121,go_sem,M,N]) rfl ⟨.agg #[.bool z,.slice A F.length D],rfl,?_,?_⟩
 ·exact⟨z,A,D,F,rfl,(uH I).1.box (uH O) _ _,(uH I).2⟩
 ·exact((uH y).setCell (by simp) _).setCell (by simp) _
end Go.Proofs.YtenpggicmfhhdaaGreatDoor
namespace Go.Proofs.YtenpggicmfhhdaaGreatDoor
open Go.RowKit
set_option maxRecDepth 100000 in
theorem vp(x:Int)(w:World)(F:0≤x)(G:x≤4294967295):
  Calls Tryz.prog 178 #[.int .u32 x] w fun e z=>e=.returned (.int .i64 (Lib.bitLen x.toNat))∧w=z:=by
 rcases(show x<256∨(256≤x∧x<65536)∨(65536≤x∧x<16777216)∨16777216≤x by omega)with h|⟨A,D⟩|⟨A,D⟩|h
 ·have y:=fun w=>Lib.run_index_len8tab (P:=Tryz.prog) w 9 .u8 (x) Tryz.underlying9 (by omega) (by omega)
  have d:=Lib.len8_eq ⟨(x).toNat,by omega⟩
  have f:=Lib.bitLen_le8 ⟨(x).toNat,by omega⟩
  have l:0≤Lib.len8 (x):=by simp only[Int.toNat_of_nonneg (show 0≤x by omega)]at d;rw[d];omega
  have m:Lib.len8 (x)≤8:=by simp only[Int.toNat_of_nonneg (show 0≤x by omega)]at d;rw[d];simp only at f;omega
  have t:Hid (Lib.len8 (x)=(Lib.bitLen (x).toNat:Int)):=by unfold Hid;simp only[Int.toNat_of_nonneg (show 0≤x by omega)]at d;exact d
  clear d f
  go_enter Tryz.func178,Tryz.ntmps178
  go_wp2
  go_ret
  refine⟨aQ ?_,rfl⟩
  rw[t.out]
 ·have y:=fun w=>Lib.run_index_len8tab (P:=Tryz.prog) w 9 .u8 (x/256) Tryz.underlying9 (by omega) (by omega)
  have d:=Lib.len8_eq ⟨(x/256).toNat,by omega⟩
  have f:=Lib.bitLen_le8 ⟨(x/256).toNat,by omega⟩
  have l:0≤Lib.len8 (x/256):=by simp only[Int.toNat_of_nonneg (show 0≤x/256 by omega)]at d;rw[d];omega
  have m:Lib.len8 (x/256)≤8:=by simp only[Int.toNat_of_nonneg (show 0≤x/256 by omega)]at d;rw[d];simp only at f;omega
  have t:Hid (Lib.len8 (x/256)=(Lib.bitLen (x/256).toNat:Int)):=by unfold Hid;simp only[Int.toNat_of_nonneg (show 0≤x/256 by omega)]at d;exact d
  clear d f
  go_enter Tryz.func178,Tryz.ntmps178
  go_wp2
  go_ret
  refine⟨aQ ?_,rfl⟩
  rw[t.out]
  have s:=Lib.bitLen_shift8 x.toNat (by omega) (by omega)
  rw[show(x/256).toNat=x.toNat/256 by omega]
  omega
 ·have y:=fun w=>Lib.run_index_len8tab (P:=Tryz.prog) w 9 .u8 (x/65536) Tryz.underlying9 (by omega) (by omega)
  have d:=Lib.len8_eq ⟨(x/65536).toNat,by omega⟩
  have f:=Lib.bitLen_le8 ⟨(x/65536).toNat,by omega⟩
  have l:0≤Lib.len8 (x/65536):=by simp only[Int.toNat_of_nonneg (show 0≤x/65536 by omega)]at d;rw[d];omega
  have m:Lib.len8 (x/65536)≤8:=by simp only[Int.toNat_of_nonneg (show 0≤x/65536 by omega)]at d;rw[d];simp only at f;omega
  have t:Hid (Lib.len8 (x/65536)=(Lib.bitLen (x/65536).toNat:Int)):=by unfold Hid;simp only[Int.toNat_of_nonneg (show 0≤x/65536 by omega)]at d;exact d
  clear d f
  go_enter Tryz.func178,Tryz.ntmps178
  go_wp2
  go_ret
  refine⟨aQ ?_,rfl⟩
  rw[t.out]
  have s:=Lib.bitLen_shift16 x.toNat (by omega) (by omega)
  rw[show(x/65536).toNat=x.toNat/65536 by omega]
  omega
 ·have y:=fun w=>Lib.run_index_len8tab (P:=Tryz.prog) w 9 .u8 (x/65536/256) Tryz.underlying9 (by omega) (by omega)
  have d:=Lib.len8_eq ⟨(x/65536/256).toNat,by omega⟩
  have f:=Lib.bitLen_le8 ⟨(x/65536/256).toNat,by omega⟩
  have l:0≤Lib.len8 (x/65536/256):=by simp only[Int.toNat_of_nonneg (show 0≤x/65536/256 by omega)]at d;rw[d];omega
  have m:Lib.len8 (x/65536/256)≤8:=by simp only[Int.toNat_of_nonneg (show 0≤x/65536/256 by omega)]at d;rw[d];simp only at f;omega
  have t:Hid (Lib.len8 (x/65536/256)=(Lib.bitLen (x/65536/256).toNat:Int)):=by unfold Hid;simp only[Int.toNat_of_nonneg (show 0≤x/65536/256 by omega)]at d;exact d
  clear d f
  go_enter Tryz.func178,Tryz.ntmps178
  go_wp2
  go_ret
  refine⟨aQ ?_,rfl⟩
  rw[t.out]
  have s:=Lib.bitLen_shift24 x.toNat (by omega) (by omega)
  rw[show(x/65536/256).toNat=x.toNat/16777216 by omega]
  omega
theorem kR:∀(f x:Nat),x<2^f→Lib.bitLenAux (f+1) x=Lib.bitLenAux f x
 |0,x,h=>by simp at h;subst h;rfl
 |f+1,x,h=>by
  have d:=kR f (x/2) (by rw[Nat.pow_succ]at h;omega)
  have l:Lib.bitLenAux (f+1+1) x=if x=0 then 0 else 1+Lib.bitLenAux (f+1) (x/2):=rfl
  have m:Lib.bitLenAux (f+1) x=if x=0 then 0 else 1+Lib.bitLenAux f (x/2):=rfl
  rw[l,m,d]
theorem kS(t:Nat)(f:0<t)(h:t<4294967296):Lib.bitLen t=1+Lib.bitLen (t/2):=by
 have d:Lib.bitLen t=1+Lib.bitLenAux 63 (t/2):=by
  unfold Lib.bitLen
  rw[Lib.bitLenAux,if_neg (by omega)]
 rw[d]
 unfold Lib.bitLen
 rw[←kR 63 (t/2) (by omega)]
theorem qx:Lib.bitLen 0=0:=rfl
theorem kr(t:Nat):Lib.bitLen t≤64:=by
 have:∀f x,Lib.bitLenAux f x≤f:=by
  intro f
  induction f with
  |zero=>intro x;simp[Lib.bitLenAux]
  |succ f ih=>intro x;rw[Lib.bitLenAux];split;omega;have:=ih (x/2);omega
 exact this 64 t
def dn(L:List Nat):Int:=if L.length=0 then 0 else 32*((L.length:Int)-1)+(Lib.bitLen (L[L.length-1]?.getD 0):Int)
theorem pm(neg:Bool)(l:Option Addr)(d:Nat)(L:List Nat)(w:World)(h:af w l d L)(H:L.length≤35184372088830):
  Calls Tryz.prog 159 #[.agg #[.bool neg,.slice l L.length d]] w fun e m=>e=.returned (.int .i64 (dn L))∧Below w.heap.size w m:=by
 by_cases f:L= []
 ·subst f
  go_enter Tryz.func159,Tryz.ntmps159
  go_wp2
  go_ret
  exact⟨aQ (by simp[dn]),(Below.refl _ _).alloc (Nat.le_refl _) _⟩
 obtain⟨b,F,rfl,M,t⟩:=h.ne (List.length_pos_iff.2 f)
 have I:0<L.length:=List.length_pos_iff.2 f
 have y:=t (L.length-1) (by omega)
 have K:=h.lt (L.length-1)
 have z:Hid (dn L=32*((L.length:Int)-1)+(Lib.bitLen (L[L.length-1]?.getD 0):Int)):=by unfold Hid dn;rw[if_neg (by omega)]
 generalize dn L=r at*
 generalize G:L.length=n at*
 generalize L[n-1]?.getD 0=x at*
 clear G h t f
 have A:=kr x
 have D:((n:Int)==0)=false:=by simp;omega
 go_enter Tryz.func159,Tryz.ntmps159
 go_wp2_with(go_at_call 178;refine(vp _ _ (by omega) (by omega)).mono ?_;rw[Int.toNat_natCast];rintro e m ⟨rfl,rfl⟩)
 go_ret
 exact⟨aQ (by rw[z.out];omega),(Below.refl _ _).alloc (Nat.le_refl _) _⟩
theorem sC(neg:Bool)(G:Option Addr)(f:Nat)(L:List Nat)(w:World)(h:af w G f L)(Y:L.length≤35184372088830):
  Calls Tryz.prog 119 #[.agg #[.bool neg,.slice G L.length f]] w fun e I=>e=.returned (.int .i64 (dn L))∧Below w.heap.size w I:=by
 by_cases l:L= []
 ·subst l
  go_enter Tryz.func119,Tryz.ntmps119
  go_wp2
  go_ret
  exact⟨aQ (by simp[dn]),(Below.refl _ _).alloc (Nat.le_refl _) _⟩
 obtain⟨b,U,rfl,hb,H⟩:=h.ne (List.length_pos_iff.2 l)
 have Z:0<L.length:=List.length_pos_iff.2 l
 have K:=H (L.length-1) (by omega)
 have M:=h.lt (L.length-1)
 have N:Hid (dn L=32*((L.length:Int)-1)+(Lib.bitLen (L[L.length-1]?.getD 0):Int)):=by unfold Hid dn;rw[if_neg (by omega)]
 generalize dn L=r at*
 generalize X:L.length=n at*
 generalize L[n-1]?.getD 0=x at*
 clear X h H l
 have O:=kr x
 have Q:((n:Int)==0)=false:=by simp;omega
 go_enter Tryz.func119,Tryz.ntmps119
 go_wp2
 go_loop [3,4] (fun m t=>∃(k y:Nat),m=.int .i64 (32*((n:Int)-1)+(k:Int))∧t=.int .u32 (y:Int)∧y<4294967296∧k≤64∧Hid (k+Lib.bitLen y=Lib.bitLen x)) (fun _ t=>(intOf t).toNat)
 case atStart=>exact⟨0,x,cH (by omega),rfl,M,by omega,by unfold Hid;omega⟩
 case round=>
  obtain⟨k,y,rfl,rfl,V,hk,z⟩:=hrel
  by_cases A:y=0
  ·subst A
   have d:=z.out
   rw[qx]at d
   have D:=aa d
   clear d z
   go_wp2
   go_ret
   exact⟨aQ (by rw[N.out];have:=uH D;omega),(Below.refl _ _).alloc (Nat.le_refl _) _⟩
  ·have T:=kS y (by omega) V
   have d:=z.out
   have D:=aa (show k+1+Lib.bitLen (y/2)=Lib.bitLen x by omega)
   have F:k+1≤64:=by omega
   clear T d z
   go_wp2
   go_round
   case rel=>exact⟨k+1,y/2,cH (by omega),cH (by omega),by omega,F,uH D⟩
   case measure=>simp[intOf];omega
theorem gD{k k':IntKind}{a b c d:Int}(h:a=b)(f:c=d):Ending.returned (.tuple #[.int k a,.int k' c])=.returned (.tuple #[.int k b,.int k' d]):=by rw[h,f]
end Go.Proofs.YtenpggicmfhhdaaGreatDoor
