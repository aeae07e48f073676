/- Part 9 of the texts. -/
import Derived.Test.YtnnfjeieennffaaGreatDoorPartc08
set_option maxHeartbeats 1000000
namespace Go.Proofs.YtnnfjeieennffaaGreatDoor
open Go.RowKit
theorem jh(w:World)(g:Nat)(a b:Int)(lo d:Nat)(f:w.heap.size=g)(h:a=(lo:Int))(l:b=(d:Int)):
  bP (w.alloc (.cells #[.int .u32 a,.int .u32 b] 124)) g [lo,d]:=by
 subst f;subst h;subst l
 exact heap_alloc_new w _
theorem zS(n:Int)(d:-9223372036854775808≤n)(f:n<0):IntKind.u64.wrap (-IntKind.u64.wrap n)= -n:=by
 simp only[IntKind.wrap,IntKind.signed,IntKind.bits]
 simp
 omega
theorem mD(m:Nat):ak [m%4294967296,m/4294967296]=m:=by simp only[ak];omega
theorem uC(n:Int)(w:World)(Y:-9223372036854775808≤n)(h1:n≤9223372036854775807):
  Calls Tryz.prog 181 #[.int .i64 n] w fun e w'=>∃v,e=.returned v∧au w.heap.size w' v n∧Below w.heap.size w w':=by
 obtain⟨m,h⟩:∃m,m=n.natAbs:=⟨_,rfl⟩
 have U:bd [m%4294967296,m/4294967296]:=by intro x Z;simp at Z;omega
 have H:=aa U
 have l:=aa h
 clear U h
 by_cases V:n<0
 ·have X:=zS n Y V
  have K:=aa X
  clear X
  go_enter Tryz.func181,Tryz.ntmps181
  go_wp2_with fail
  have h:=uH l
  have z:=jh (w.alloc (.cells #[.bool false,.slice none 0 0] 50)) (w.heap.size+1) (IntKind.u64.wrap (-IntKind.u64.wrap n)%4294967296) (IntKind.u64.wrap (-IntKind.u64.wrap n)/4294967296%4294967296) (m%4294967296) (m/4294967296) (by simp) (by rw[uH K];omega) (by rw[uH K];omega)
  refine(mZ (some ⟨w.heap.size+1,0,none⟩) 2 [m%4294967296,m/4294967296] _ (z.limbs (uH H) 2 (by simp)) (by simp)).mono ?_
  rintro e w' ⟨v,rfl,⟨f,d,t,rfl,A,D,Q,F,G⟩,rfl⟩
  have L:=aa F
  have M:=aa A
  have N:=aa D
  have O:=aa G
  clear A D F G z h
  go_wp2
  refine bodyPost_ret (v:=.agg #[.bool true,.slice f t.length d]) (by simp[results,Tryz.results181,go_sem]) rfl ⟨.agg #[.bool true,.slice f t.length d],rfl,⟨true,f,d,t,rfl,uH L _ ?_,uH O _ (.inr ⟨_,_,rfl,by omega⟩),uH M,by simp[V],?_⟩,?_⟩
  ·refine(jh _ (w.heap.size+1) _ _ _ _ (by simp) ?_ ?_).limbs (uH H) 2 (by simp)
   ·have h:=uH l;rw[uH K];omega
   ·have h:=uH l;rw[uH K];omega
  ·exact⟨by rw[uH N,mD];exact uH l,by simp at Q;omega⟩
  ·exact((Below.refl _ _).alloc (Nat.le_refl _) _).alloc (by simp) _
 ·go_enter Tryz.func181,Tryz.ntmps181
  go_wp2_with fail
  have h:=uH l
  have z:=jh (w.alloc (.cells #[.bool false,.slice none 0 0] 50)) (w.heap.size+1) (n%4294967296) (n/4294967296) (m%4294967296) (m/4294967296) (by simp) (by omega) (by omega)
  refine(mZ (some ⟨w.heap.size+1,0,none⟩) 2 [m%4294967296,m/4294967296] _ (z.limbs (uH H) 2 (by simp)) (by simp)).mono ?_
  rintro e w' ⟨v,rfl,⟨f,d,t,rfl,A,D,Q,F,G⟩,rfl⟩
  have L:=aa F
  have M:=aa A
  have N:=aa D
  have O:=aa G
  clear A D F G z h
  go_wp2
  refine bodyPost_ret (v:=.agg #[.bool false,.slice f t.length d]) (by simp[results,Tryz.results181,go_sem]) rfl ⟨.agg #[.bool false,.slice f t.length d],rfl,⟨false,f,d,t,rfl,uH L _ ?_,uH O _ (.inr ⟨_,_,rfl,by omega⟩),uH M,by simp;omega,?_⟩,?_⟩
  ·refine(jh _ (w.heap.size+1) _ _ _ _ (by simp) ?_ ?_).limbs (uH H) 2 (by simp)
   ·have h:=uH l;omega
   ·have h:=uH l;omega
  ·exact⟨by rw[uH N,mD];exact uH l,by simp at Q;omega⟩
  ·exact((Below.refl _ _).alloc (Nat.le_refl _) _).alloc (by simp) _
theorem au.right{B:Nat}{w:World}{v:Value}{x:Int}(h:au B w v x)(H:x.natAbs<dE):
  ∃neg l d L,v=.agg #[.bool neg,.slice l L.length d]∧ag w l d L∧ar neg L=true∧af neg L=x∧L.length≤512:=by
 obtain⟨neg,l,d,L,rfl,t,K,z,A,G,M⟩:=h
 have m:L.length≤512:=(dW L t.2.1 z).1 (by omega)
 refine⟨neg,l,d,L,rfl,t,?_,?_,m⟩
 ·have D:L.length=0→neg=false:=fun e=>by
   have:L= []:=List.length_eq_zero_iff.1 e
   subst this
   rw[A];simp[ak]at G;simp;omega
  have F:L.length=0∨L[L.length-1]?.getD 0≠0:=by
   rcases z with h|h
   ·left;rw[h];rfl
   ·exact .inr h
  simp only[ar,Bool.and_eq_true,decide_eq_true_eq,Bool.not_eq_true',Bool.and_eq_false_iff,decide_eq_false_iff_not,Bool.or_eq_true]
  refine⟨⟨m,?_⟩,F⟩
  by_cases e:L.length=0
  ·exact .inr (D e)
  ·exact .inl e
 ·unfold af
  rw[A]
  by_cases f:x<0
  ·simp[f];omega
  ·simp[f];omega
theorem DZ{B d:Nat}{w:World}{v u:Value}{x y:Int}(f:au B w v x)(h:au d w u y)(l:x.natAbs<dE)(m:y.natAbs<dE):
  Calls Tryz.prog 224 #[v,u] w fun e w'=>∃r,e=.returned (.tuple #[r,.int .i64 (bu (x+y))])∧au w.heap.size w' r (dG (x+y))∧Below w.heap.size w w':=by
 obtain⟨t,z,D,A,rfl,F,G,H,U⟩:=f.right l
 obtain⟨K,L,M,C,rfl,N,O,Q,V⟩:=h.right m
 have:=DV t K z L D M A C w F N (by omega) (by omega)
 rwa[G,O,H,Q,Bool.and_self,gj,gn]at this
theorem cW(x:Nat)(h:x<18446744073709551616):x<dE:=by
 have:(4294967296^2:Nat)≤4294967296^kX:=Nat.pow_le_pow_right (by decide) (by decide)
 unfold dE
 omega
theorem fh(x:Int)(h:x.natAbs<dE):bu x=0:=by unfold bu;rw[if_pos h]
theorem fi(x:Int)(h:x.natAbs<dE):dG x=x:=by unfold dG;rw[if_pos h]
attribute [local go_sem ↓] Go.wp_at_zero Go.wp_at_succ
theorem uD(d:Bool)(l:Option Addr)(m:Nat)(A:List Nat)(w:World)(X:ag w l m A)(Y:A.length≤35184372088830):
  Calls Tryz.prog 138 #[.agg #[.bool d,.slice l A.length m]] w fun e w'=>∃v,e=.returned v∧aE (A.length+1) w.heap.size w' v (sg d (ak A+ak A))∧Below w.heap.size w w':=by
 have t:∀L:List Nat,ak L=ak A+ak A→af d L=sg d (ak A+ak A):=by
  intro L h;rw[dC,h]
 have HS:=aa t
 clear t
 generalize sg d (ak A+ak A)=z at*
 go_enter Tryz.func138,Tryz.ntmps138
 go_wp2
 refine aq (fun W=>Below w.heap.size w W∧W.heap.size=w.heap.size+2∧aC W w.heap.size (.bool d) (.slice l A.length m)∧aC W (w.heap.size+1) (.bool false) (.slice none 0 0)) ?_ ?_
 ·refine⟨((Below.refl _ _).alloc (Nat.le_refl _) _).alloc (by simp) _,by simp,(aC.new _ _ _).old _,?_⟩
  have:=aC.new (w.alloc (.cells #[.bool d,.slice l A.length m] 50)) (.bool false) (.slice none 0 0)
  simpa using this
 rintro K ⟨D,M,U,x2⟩
 have Z:∀w',Below (w.heap.size+1) K w'→Below (w.heap.size+1) K w'∧w'.cell? ⟨w.heap.size,0,none⟩=some (.bool d)∧w'.cell? ⟨w.heap.size,1,none⟩=some (.slice l A.length m):=fun w' h=>
  ⟨h,(U.below h (by omega)).c0,(U.below h (by omega)).c1⟩
 have N:=aa Z
 have HA:=aa (X.below D)
 have X2:=aa x2
 have O:=aa D
 clear Z X U x2 D
 go_region_held3(fun w'=>Below (w.heap.size+1) K w'∧w'.cell? ⟨w.heap.size,0,none⟩=some (.bool d)∧w'.cell? ⟨w.heap.size,1,none⟩=some (.slice l A.length m))
  (first|exact uH N _ (Below.refl _ _).drew|exact uH N _ (by assumption)|exact uH N _ ((G.setCell (by simp) _).setCell (by simp) _))
  (first|(go_at_call 98;refine(rQ l l m m A A _ ((uH HA).below ((Below.refl _ _).drew)) ((uH HA).below ((Below.refl _ _).drew)) Y Y).mono ?_;rintro e w1 ⟨aj,ae,V,rfl,g1,g2,g3,g4,f⟩;have Q:Below (w.heap.size+1) K w1:=((Below.refl _ _).drew).trans (f.mono (by simp[M]));have X3:=aa ((uH X2).drew.below f (by simp[M]));have G1:=aa g1;have G2:=aa g2;have G4:=aa g4;have L4:V.length≤35184372088832:=(by omega);have L5:V.length≤A.length+1:=(by omega);have s1:=f.size;clear g1 g2 g4 g3 f)|(go_at_call 95;refine(di _ d _ _ _ _ (uH G1) (uH G2) L4).mono ?_;rintro e w2 ⟨v,rfl,⟨n2,a2,c2,L2,rfl,i1⟩,F⟩;have G:Below (w.heap.size+1) K w2:=Q.trans (F.mono (by simp at s1;omega));have H:=(uH X3).below F (by simp at s1;omega);have y0:=H.c0;have y1:=H.c1;have f0:=H.free 0;have f1:=H.free 1;have I1:=aa i1;clear i1 F H))
 have hz:=uH HS V (uH G4)
 have HI:=aa (hz▸uH I1)
 clear hz
 go_wp2
 refine bodyPost_ret (v:=.agg #[.bool n2,.slice a2 L2.length c2]) (by simp[results,Tryz.results138,go_sem,y0,y1]) rfl ⟨.agg #[.bool n2,.slice a2 L2.length c2],rfl,?_,?_⟩
 ·exact(aE.stored (uH HI) (by simp;omega) (by simp;omega) (by simp;omega) _ _).more (by have:=L5;omega)
 ·exact(((uH O).trans (G.mono (by omega))).setCell (by simp) _).setCell (by simp) _
theorem aC.other{w:World}{b:Nat}{x y:Value}(h:aC w b x y){p:Addr}(d:b≠p.block)(u:Value):aC (w.setCell p u) b x y:=(Below.heap_setCell w p u b d).trans h
theorem xz(d f:Nat):((f%2*4294967296+d)/2)%4294967296=((d+4294967296*f)/2^1)%4294967296:=by omega
theorem rX(F:Bool)(G:Option Addr)(H:Nat)(A:List Nat)(w:World)(V:ag w G H A)(la:A.length≤1073741824):
  Calls Tryz.prog 97 #[.agg #[.bool F,.slice G A.length H]] w fun e w'=>∃v,e=.returned v∧aE A.length w.heap.size w' v (sg F (ak A/2))∧Below w.heap.size w w':=by
 obtain⟨i0,hi,a7,a9,ba⟩:=info_parts Tryz.info124
 have am:∀(S:List Nat) (k t D:Nat),k<S.length→A[k]?.getD 0=t→A[k+1]?.getD 0=D→ak (S.take k)=(ak A/(4294967296^0*2^1))%4294967296^k→ak ((S.set k (((D%2*4294967296+t)/2)%4294967296)).take (k+1))=(ak A/(4294967296^0*2^1))%4294967296^(k+1):=by
  intro S k t D h1 h2 h3 h4
  rw[xz]
  exact pE A S V.2.1 k 0 1 t D (by omega) h1 h2 h3 h4
 have ax:∀(S:List Nat),S.length=A.length→ak (S.take S.length)=(ak A/(4294967296^0*2^1))%4294967296^S.length→af F S=sg F (ak A/2):=by
  intro S h1 h2
  have:=rL A S V.2.1 0 1 (by omega) h2
  rw[dC,this]
 have X:=aa am
 have Y:=aa ax
 clear am ax
 generalize sg F (ak A/2)=z at*
 go_enter Tryz.func97,Tryz.ntmps97
 go_wp2_with(at_make;refine wpList_make_full _ rfl _ _ 48 rfl (w.heap.size+2) 124 i0 (.int .u32 0) 1 Tryz.underlying48 hi a7 a9 .i64 .i64 _ _ A.length rfl rfl (by omega) (by omega) (by rw[ba];omega) (by unfold maxLen;omega) (by simp) ?_;intro w1 U d)
 have K:=bP.made U
 have L:bP w1 (w.heap.size+1+1) (List.replicate A.length 0):=by simpa using K
 clear K
 have aI:Below w.heap.size w ((w.alloc (.cells #[.bool F,.slice G A.length H] 50)).alloc (.cells #[.bool false,.slice none 0 0] 50)):=((Below.refl _ _).alloc (Nat.le_refl _) _).alloc (by simp) _
 have Z:Below w.heap.size w w1:=aI.grown d (by simp;omega) (fun k h=>by simp at h)
 have x0:aC w1 w.heap.size (.bool F) (.slice G A.length H):=(d.block w.heap.size (by simp;omega) (by simp)).trans ((aC.new _ _ _).old _)
 have x1:aC w1 (w.heap.size+1) (.bool false) (.slice none 0 0):=by
  have h:=aC.new (w.alloc (.cells #[.bool F,.slice G A.length H] 50)) (.bool false) (.slice none 0 0)
  have h':aC ((w.alloc (.cells #[.bool F,.slice G A.length H] 50)).alloc (.cells #[.bool false,.slice none 0 0] 50)) (w.heap.size+1) (.bool false) (.slice none 0 0):=by simpa using h
  exact(d.block (w.heap.size+1) (by simp) (by simp)).trans h'
 clear U d aI
 go_loopw[4] (fun c wr=>∃(i:Nat) (S:List Nat),i≤A.length∧c=.int .i64 i∧bP wr (w.heap.size+1+1) S∧aC wr w.heap.size (.bool F) (.slice G A.length H)∧aC wr (w.heap.size+1) (.bool false) (.slice none 0 0)∧S.length=A.length∧bd S∧Below w.heap.size w wr∧Hid (ak (S.take i)=(ak A/(4294967296^0*2^1))%4294967296^i))
  (fun c _=>A.length-(intOf c).toNat)
 case atStart=>exact⟨0,List.replicate A.length 0,Nat.zero_le _,rfl,L,x0,x1,by simp,bd.zeros _,Z,by unfold Hid;simp[ak,Nat.mod_one]⟩
 case round=>
  obtain⟨i,S,bp,rfl,m,z0,z1,M,hf,f,hv⟩:=hrel
  have p0:=z0.c0;have p1:=z0.c1
  by_cases be:i<A.length
  ·obtain⟨t,N⟩:∃x,A[i]?.getD 0=x:=⟨_,rfl⟩
   obtain⟨D,O⟩:∃x,A[i+1]?.getD 0=x:=⟨_,rfl⟩
   have b0:t<4294967296:=by rw[←N];exact V.lt _
   have bi:D<4294967296:=by rw[←O];exact V.lt _
   have cA:=(V.below f).below ((Below.refl _ _).drew)
   have dS:=m.cell i (by omega)
   have fS:=m.free i
   generalize bb:S[i]?.getD 0=s at*
   have a0:=aa (uH X S i t D (by omega) N O hv.out)
   have a4:=aa N
   have a1:=aa O
   have HR:=aa m;have Z0:=aa z0;have Z1:=aa z1;have ae:=aa f;have CA:=aa cA
   clear N O m hv bb X Y x0 x1 L Z z0 z1 f cA V
   have bc:(i:Int)<(A.length:Int):=by omega
   have bj:IntKind.i64.wrap ((i:Int)+1)=(i:Int)+1:=by
    simp only[IntKind.wrap,IntKind.signed,IntKind.bits]
    simp
    omega
   have hK:∀w',w'=wr.drew∨(∃u,w'=(wr.drew).setCell ⟨w.heap.size+1+1,i,none⟩ u)→(w'=wr.drew∨(∃u,w'=(wr.drew).setCell ⟨w.heap.size+1+1,i,none⟩ u))∧w'.cell? ⟨w.heap.size,1,none⟩=some (.slice G A.length H):=fun w' h=>by
    refine⟨h,?_⟩
    rcases h with rfl|⟨u,rfl⟩
    ·exact(uH Z0).drew.c1
    ·exact((uH Z0).drew.other (by simp;omega) u).c1
   have HK:=aa hK
   clear hK
   go_wp2
   go_region_held3(fun w'=>(w'=wr.drew∨(∃u,w'=(wr.drew).setCell ⟨w.heap.size+1+1,i,none⟩ u))∧w'.cell? ⟨w.heap.size,1,none⟩=some (.slice G A.length H))
    (first|exact uH HK _ (.inl rfl)|exact uH HK _ (.inr ⟨_,rfl⟩))
    (first|(go_at_call 137;have hq:=a1;clear a1;refine(fw G H A _ (i+1) D _ (uH CA) (by omega) (by omega) hq).mono ?_;rintro e w' ⟨rfl,rfl⟩;clear hq)|(go_at_call 137;refine(fw G H A _ i t _ (uH CA) (by omega) rfl a4).mono ?_;rintro e w' ⟨rfl,rfl⟩))
   have r1:=(uH HR).set i (((D%2*4294967296+t)/2)%4294967296)
   rw[show(((D%2*4294967296+t)/2%4294967296:Nat):Int)=((D:Int)%2*4294967296+(t:Int))/2 by omega]at r1
   have Q:((D%2*4294967296+t)/2)%4294967296<4294967296:=Nat.mod_lt _ (by decide)
   have R1:=aa r1
   have HM:=aa Q
   clear r1 Q
   go_wp2
   go_roundw
   case rel=>exact⟨i+1,S.set i (((D%2*4294967296+t)/2)%4294967296),by omega,by go_num,(uH R1:_),(uH Z0).other (by simp;omega) _,(uH Z1).other (by simp) _,by simpa using M,hf.set _ _ (uH HM),((uH ae).setCell (by simp;omega) _).drew,uH a0⟩
   case measure=>simp[intOf];omega
  ·have a5:i=A.length:=by omega
   have a3:=uH Y S M (by rw[M,←a5];exact hv.out)
   have HR:=aa (m.limbs hf A.length (by omega))
   have HV:=aa a3
   have Z1:=aa z1
   have ae:=aa f
   have bm:¬(i:Int)<(A.length:Int):=by omega
   have HL:=aa M
   have bn:=z1.lt
   have bo:=m.lt
   clear a3 hv m X Y x0 x1 L Z z1 f V z0
   go_wp2_with fail
   have hN:bG (w.heap.size+1+1) (some ⟨w.heap.size+1+1,0,none⟩) S:=.inr ⟨_,_,rfl,Nat.le_refl _⟩
   have l:=di (w.heap.size+1+1) F (some ⟨w.heap.size+1+1,0,none⟩) A.length S wr (uH HR) hN (by omega)
   rw[uH HV,uH HL]at l
   refine l.mono ?_
   rintro e w2 ⟨v,rfl,⟨n2,a2,c2,L2,rfl,i1⟩,aj⟩
   have X4:=(uH Z1).below aj (uH Z1).lt
   have y0:=X4.c0;have y1:=X4.c1;have f0:=X4.free 0;have f1:=X4.free 1
   have a6:=aa ((uH ae).trans (aj.mono (by omega)))
   have I1:=aa i1
   clear l X4 aj i1 hN
   go_wp2
   refine bodyPost_ret (v:=.agg #[.bool n2,.slice a2 L2.length c2]) (by simp[results,Tryz.results97,go_sem,y0,y1]) rfl ⟨.agg #[.bool n2,.slice a2 L2.length c2],rfl,?_,?_⟩
   ·exact aE.stored (uH I1) (by simp) (by simp) (by omega) _ _
   ·exact((uH a6).setCell (by simp) _).setCell (by simp) _
end Go.Proofs.YtnnfjeieennffaaGreatDoor
namespace Go.Proofs.YtnnfjeieennffaaGreatDoor
open Go.RowKit
theorem bits_nat(a b:Int):∃y:Nat,y<4294967296∧bits BinOp.xor IntKind.u32 a b=(y:Int):=by
 refine⟨(bits BinOp.xor IntKind.u32 a b).toNat,?_,?_⟩
 all_goals
  have h:0≤bits BinOp.xor IntKind.u32 a b∧bits BinOp.xor IntKind.u32 a b<4294967296:=by
   simp only[bits,IntKind.wrap,IntKind.signed,IntKind.bits]
   simp
   omega
  omega
end Go.Proofs.YtnnfjeieennffaaGreatDoor
