/- Part 9 of the texts. -/
import Derived.Test.YtlnphkioddknfaaGreatDoorParty08
set_option maxHeartbeats 1000000
namespace Go.Proofs.YtlnphkioddknfaaGreatDoor
open Go.RowKit
theorem jC(w:World)(g:Nat)(a b:Int)(lo d:Nat)(f:w.heap.size=g)(h:a=(lo:Int))(l:b=(d:Int)):
  bR (w.alloc (.cells #[.int .u32 a,.int .u32 b] 133)) g [lo,d]:=by
 subst f;subst h;subst l
 exact heap_alloc_new w _
theorem Ao(n:Int)(d:-9223372036854775808≤n)(f:n<0):IntKind.u64.wrap (-IntKind.u64.wrap n)= -n:=by
 simp only[IntKind.wrap,IntKind.signed,IntKind.bits]
 simp
 omega
theorem mw(m:Nat):an [m%4294967296,m/4294967296]=m:=by simp only[an];omega
theorem uG(n:Int)(w:World)(X:-9223372036854775808≤n)(Z:n≤9223372036854775807):
  Calls Tryz.prog 230 #[.int .i64 n] w fun e G=>∃v,e=.returned v∧aw w.heap.size G v n∧Below w.heap.size w G:=by
 obtain⟨m,h⟩:∃m,m=n.natAbs:=⟨_,rfl⟩
 have Q:bf [m%4294967296,m/4294967296]:=by intro x Y;simp at Y;omega
 have H:=aa Q
 have l:=aa h
 clear Q h
 by_cases U:n<0
 ·have V:=Ao n X U
  have I:=aa V
  clear V
  go_enter Tryz.func230,Tryz.ntmps230
  go_wp2_with fail
  have h:=uH l
  have y:=jC (w.alloc (.cells #[.bool false,.slice none 0 0] 45)) (w.heap.size+1) (IntKind.u64.wrap (-IntKind.u64.wrap n)%4294967296) (IntKind.u64.wrap (-IntKind.u64.wrap n)/4294967296%4294967296) (m%4294967296) (m/4294967296) (by simp) (by rw[uH I];omega) (by rw[uH I];omega)
  refine(mR (some ⟨w.heap.size+1,0,none⟩) 2 [m%4294967296,m/4294967296] _ (y.limbs (uH H) 2 (by simp)) (by simp)).mono ?_
  rintro e G ⟨v,rfl,⟨f,d,t,rfl,z,A,O,D,F⟩,rfl⟩
  have K:=aa D
  have L:=aa z
  have M:=aa A
  have N:=aa F
  clear z A D F y h
  go_wp2
  refine bodyPost_ret (v:=.agg #[.bool true,.slice f t.length d]) (by simp[results,Tryz.results230,go_sem]) rfl ⟨.agg #[.bool true,.slice f t.length d],rfl,⟨true,f,d,t,rfl,uH K _ ?_,uH N _ (.inr ⟨_,_,rfl,by omega⟩),uH L,by simp[U],?_⟩,?_⟩
  ·refine(jC _ (w.heap.size+1) _ _ _ _ (by simp) ?_ ?_).limbs (uH H) 2 (by simp)
   ·have h:=uH l;rw[uH I];omega
   ·have h:=uH l;rw[uH I];omega
  ·exact⟨by rw[uH M,mw];exact uH l,by simp at O;omega⟩
  ·exact((Below.refl _ _).alloc (Nat.le_refl _) _).alloc (by simp) _
 ·go_enter Tryz.func230,Tryz.ntmps230
  go_wp2_with fail
  have h:=uH l
  have y:=jC (w.alloc (.cells #[.bool false,.slice none 0 0] 45)) (w.heap.size+1) (n%4294967296) (n/4294967296) (m%4294967296) (m/4294967296) (by simp) (by omega) (by omega)
  refine(mR (some ⟨w.heap.size+1,0,none⟩) 2 [m%4294967296,m/4294967296] _ (y.limbs (uH H) 2 (by simp)) (by simp)).mono ?_
  rintro e G ⟨v,rfl,⟨f,d,t,rfl,z,A,O,D,F⟩,rfl⟩
  have K:=aa D
  have L:=aa z
  have M:=aa A
  have N:=aa F
  clear z A D F y h
  go_wp2
  refine bodyPost_ret (v:=.agg #[.bool false,.slice f t.length d]) (by simp[results,Tryz.results230,go_sem]) rfl ⟨.agg #[.bool false,.slice f t.length d],rfl,⟨false,f,d,t,rfl,uH K _ ?_,uH N _ (.inr ⟨_,_,rfl,by omega⟩),uH L,by simp;omega,?_⟩,?_⟩
  ·refine(jC _ (w.heap.size+1) _ _ _ _ (by simp) ?_ ?_).limbs (uH H) 2 (by simp)
   ·have h:=uH l;omega
   ·have h:=uH l;omega
  ·exact⟨by rw[uH M,mw];exact uH l,by simp at O;omega⟩
  ·exact((Below.refl _ _).alloc (Nat.le_refl _) _).alloc (by simp) _
theorem aw.right{B:Nat}{w:World}{v:Value}{x:Int}(h:aw B w v x)(D:x.natAbs<dy):
  ∃neg ao cap L,v=.agg #[.bool neg,.slice ao L.length cap]∧ag w ao cap L∧av neg L=true∧af neg L=x∧L.length≤512:=by
 obtain⟨neg,ao,cap,L,rfl,l,F,m,t,A,G⟩:=h
 have f:L.length≤512:=(dR L l.2.1 m).1 (by omega)
 refine⟨neg,ao,cap,L,rfl,l,?_,?_,f⟩
 ·have y:L.length=0→neg=false:=fun e=>by
   have:L= []:=List.length_eq_zero_iff.1 e
   subst this
   rw[t];simp[an]at A;simp;omega
  have z:L.length=0∨L[L.length-1]?.getD 0≠0:=by
   rcases m with h|h
   ·left;rw[h];rfl
   ·exact .inr h
  simp only[av,Bool.and_eq_true,decide_eq_true_eq,Bool.not_eq_true',Bool.and_eq_false_iff,decide_eq_false_iff_not,Bool.or_eq_true]
  refine⟨⟨f,?_⟩,z⟩
  by_cases e:L.length=0
  ·exact .inr (y e)
  ·exact .inl e
 ·unfold af
  rw[t]
  by_cases d:x<0
  ·simp[d];omega
  ·simp[d];omega
theorem El{B f:Nat}{w:World}{v u:Value}{x y:Int}(h:aw B w v x)(l:aw f w u y)(m:x.natAbs<dy)(t:y.natAbs<dy):
  Calls Tryz.prog 285 #[v,u] w fun e d=>∃r,e=.returned (.tuple #[r,.int .i64 (bI (x+y))])∧aw w.heap.size d r (dz (x+y))∧Below w.heap.size w d:=by
 obtain⟨z,ao,D,A,rfl,F,G,H,Q⟩:=h.right m
 obtain⟨I,K,L,C,rfl,M,N,O,U⟩:=l.right t
 have:=Eh z I ao K D L A C w F M (by omega) (by omega)
 rwa[G,N,H,O,Bool.and_self,gh,gi]at this
theorem cW(x:Nat)(h:x<18446744073709551616):x<dy:=by
 have:(4294967296^2:Nat)≤4294967296^k9:=Nat.pow_le_pow_right (by decide) (by decide)
 unfold dy
 omega
theorem fj(x:Int)(h:x.natAbs<dy):bI x=0:=by unfold bI;rw[if_pos h]
theorem fk(x:Int)(h:x.natAbs<dy):dz x=x:=by unfold dz;rw[if_pos h]
attribute [local go_sem ↓] Go.wp_at_zero Go.wp_at_succ
theorem uI(f:Bool)(ao:Option Addr)(m:Nat)(A:List Nat)(w:World)(U:ag w ao m A)(V:A.length≤35184372088830):
  Calls Tryz.prog 186 #[.agg #[.bool f,.slice ao A.length m]] w fun e d=>∃v,e=.returned v∧aE (A.length+1) w.heap.size d v (sg f (an A+an A))∧Below w.heap.size w d:=by
 have t:∀L:List Nat,an L=an A+an A→af f L=sg f (an A+an A):=by
  intro L h;rw[dr,h]
 have HS:=aa t
 clear t
 generalize sg f (an A+an A)=z at*
 go_enter Tryz.func186,Tryz.ntmps186
 go_wp2
 refine au (fun W=>Below w.heap.size w W∧W.heap.size=w.heap.size+2∧aA W w.heap.size (.bool f) (.slice ao A.length m)∧aA W (w.heap.size+1) (.bool false) (.slice none 0 0)) ?_ ?_
 ·refine⟨((Below.refl _ _).alloc (Nat.le_refl _) _).alloc (by simp) _,by simp,(aA.new _ _ _).old _,?_⟩
  have:=aA.new (w.alloc (.cells #[.bool f,.slice ao A.length m] 45)) (.bool false) (.slice none 0 0)
  simpa using this
 rintro H ⟨y,I,O,x2⟩
 have X:∀d,Below (w.heap.size+1) H d→Below (w.heap.size+1) H d∧d.cell? ⟨w.heap.size,0,none⟩=some (.bool f)∧d.cell? ⟨w.heap.size,1,none⟩=some (.slice ao A.length m):=fun d h=>
  ⟨h,(O.below h (by omega)).c0,(O.below h (by omega)).c1⟩
 have K:=aa X
 have Y:=aa (U.below y)
 have X2:=aa x2
 have M:=aa y
 clear X U O x2 y
 go_region_held3(fun d=>Below (w.heap.size+1) H d∧d.cell? ⟨w.heap.size,0,none⟩=some (.bool f)∧d.cell? ⟨w.heap.size,1,none⟩=some (.slice ao A.length m))
  (first|exact uH K _ (Below.refl _ _).drew|exact uH K _ (by assumption)|exact uH K _ ((F.setCell (by simp) _).setCell (by simp) _))
  (first|(go_at_call 137;refine(rO ao ao m m A A _ ((uH Y).below ((Below.refl _ _).drew)) ((uH Y).below ((Below.refl _ _).drew)) V V).mono ?_;rintro e w1 ⟨aj,ae,Q,rfl,g1,g2,g3,g4,l⟩;have N:Below (w.heap.size+1) H w1:=((Below.refl _ _).drew).trans (l.mono (by simp[I]));have X3:=aa ((uH X2).drew.below l (by simp[I]));have G1:=aa g1;have G2:=aa g2;have G4:=aa g4;have L4:Q.length≤35184372088832:=(by omega);have L5:Q.length≤A.length+1:=(by omega);have Z:=l.size;clear g1 g2 g4 g3 l)|(go_at_call 134;refine(c8 _ f _ _ _ _ (uH G1) (uH G2) L4).mono ?_;rintro e w2 ⟨v,rfl,⟨n2,a2,c2,L2,rfl,i1⟩,D⟩;have F:Below (w.heap.size+1) H w2:=N.trans (D.mono (by simp at Z;omega));have G:=(uH X3).below D (by simp at Z;omega);have y0:=G.c0;have y1:=G.c1;have f0:=G.free 0;have f1:=G.free 1;have I1:=aa i1;clear i1 D G))
 have hz:=uH HS Q (uH G4)
 have HI:=aa (hz▸uH I1)
 clear hz
 go_wp2
 refine bodyPost_ret (v:=.agg #[.bool n2,.slice a2 L2.length c2]) (by simp[results,Tryz.results186,go_sem,y0,y1]) rfl ⟨.agg #[.bool n2,.slice a2 L2.length c2],rfl,?_,?_⟩
 ·exact(aE.stored (uH HI) (by simp;omega) (by simp;omega) (by simp;omega) _ _).more (by have:=L5;omega)
 ·exact(((uH M).trans (F.mono (by omega))).setCell (by simp) _).setCell (by simp) _
theorem aA.other{w:World}{b:Nat}{x y:Value}(h:aA w b x y){p:Addr}(d:b≠p.block)(u:Value):aA (w.setCell p u) b x y:=(Below.heap_setCell w p u b d).trans h
theorem xL(d f:Nat):((f%2*4294967296+d)/2)%4294967296=((d+4294967296*f)/2^1)%4294967296:=by omega
theorem rV(F:Bool)(ao:Option Addr)(G:Nat)(A:List Nat)(w:World)(Q:ag w ao G A)(la:A.length≤1073741824):
  Calls Tryz.prog 136 #[.agg #[.bool F,.slice ao A.length G]] w fun e l=>∃v,e=.returned v∧aE A.length w.heap.size l v (sg F (an A/2))∧Below w.heap.size w l:=by
 obtain⟨i0,hi,a4,a5,a6⟩:=info_parts Tryz.info133
 have ae:∀(S:List Nat) (k y D:Nat),k<S.length→A[k]?.getD 0=y→A[k+1]?.getD 0=D→an (S.take k)=(an A/(4294967296^0*2^1))%4294967296^k→an ((S.set k (((D%2*4294967296+y)/2)%4294967296)).take (k+1))=(an A/(4294967296^0*2^1))%4294967296^(k+1):=by
  intro S k y D h1 h2 h3 h4
  rw[xL]
  exact pp A S Q.2.1 k 0 1 y D (by omega) h1 h2 h3 h4
 have aj:∀(S:List Nat),S.length=A.length→an (S.take S.length)=(an A/(4294967296^0*2^1))%4294967296^S.length→af F S=sg F (an A/2):=by
  intro S h1 h2
  have:=rK A S Q.2.1 0 1 (by omega) h2
  rw[dr,this]
 have U:=aa ae
 have V:=aa aj
 clear ae aj
 generalize sg F (an A/2)=z at*
 go_enter Tryz.func136,Tryz.ntmps136
 go_wp2_with(at_make;refine wpList_make_full _ rfl _ _ 43 rfl (w.heap.size+2) 133 i0 (.int .u32 0) 1 Tryz.underlying43 hi a4 a5 .i64 .i64 _ _ A.length rfl rfl (by omega) (by omega) (by rw[a6];omega) (by unfold maxLen;omega) (by simp) ?_;intro w1 O d)
 have H:=bR.made O
 have I:bR w1 (w.heap.size+1+1) (List.replicate A.length 0):=by simpa using H
 clear H
 have ak:Below w.heap.size w ((w.alloc (.cells #[.bool F,.slice ao A.length G] 45)).alloc (.cells #[.bool false,.slice none 0 0] 45)):=((Below.refl _ _).alloc (Nat.le_refl _) _).alloc (by simp) _
 have X:Below w.heap.size w w1:=ak.grown d (by simp;omega) (fun k h=>by simp at h)
 have x0:aA w1 w.heap.size (.bool F) (.slice ao A.length G):=(d.block w.heap.size (by simp;omega) (by simp)).trans ((aA.new _ _ _).old _)
 have x1:aA w1 (w.heap.size+1) (.bool false) (.slice none 0 0):=by
  have h:=aA.new (w.alloc (.cells #[.bool F,.slice ao A.length G] 45)) (.bool false) (.slice none 0 0)
  have h':aA ((w.alloc (.cells #[.bool F,.slice ao A.length G] 45)).alloc (.cells #[.bool false,.slice none 0 0] 45)) (w.heap.size+1) (.bool false) (.slice none 0 0):=by simpa using h
  exact(d.block (w.heap.size+1) (by simp) (by simp)).trans h'
 clear O d ak
 go_loopw[4] (fun c wr=>∃(i:Nat) (S:List Nat),i≤A.length∧c=.int .i64 i∧bR wr (w.heap.size+1+1) S∧aA wr w.heap.size (.bool F) (.slice ao A.length G)∧aA wr (w.heap.size+1) (.bool false) (.slice none 0 0)∧S.length=A.length∧bf S∧Below w.heap.size w wr∧Hid (an (S.take i)=(an A/(4294967296^0*2^1))%4294967296^i))
  (fun c _=>A.length-(intOf c).toNat)
 case atStart=>exact⟨0,List.replicate A.length 0,Nat.zero_le _,rfl,I,x0,x1,by simp,bf.zeros _,X,by unfold Hid;simp[an,Nat.mod_one]⟩
 case round=>
  obtain⟨i,S,bm,rfl,t,z0,z1,K,hf,f,hv⟩:=hrel
  have p0:=z0.c0;have p1:=z0.c1
  by_cases ba:i<A.length
  ·obtain⟨y,L⟩:∃x,A[i]?.getD 0=x:=⟨_,rfl⟩
   obtain⟨D,M⟩:∃x,A[i+1]?.getD 0=x:=⟨_,rfl⟩
   have b0:y<4294967296:=by rw[←L];exact Q.lt _
   have bb:D<4294967296:=by rw[←M];exact Q.lt _
   have cA:=(Q.below f).below ((Below.refl _ _).drew)
   have dS:=t.cell i (by omega)
   have fS:=t.free i
   generalize a7:S[i]?.getD 0=s at*
   have am:=aa (uH U S i y D (by omega) L M hv.out)
   have a0:=aa L
   have ax:=aa M
   have HR:=aa t;have Z0:=aa z0;have Z1:=aa z1;have Y:=aa f;have CA:=aa cA
   clear L M t hv a7 U V x0 x1 I X z0 z1 f cA Q
   have a9:(i:Int)<(A.length:Int):=by omega
   have bc:IntKind.i64.wrap ((i:Int)+1)=(i:Int)+1:=by
    simp only[IntKind.wrap,IntKind.signed,IntKind.bits]
    simp
    omega
   have hK:∀l,l=wr.drew∨(∃u,l=(wr.drew).setCell ⟨w.heap.size+1+1,i,none⟩ u)→(l=wr.drew∨(∃u,l=(wr.drew).setCell ⟨w.heap.size+1+1,i,none⟩ u))∧l.cell? ⟨w.heap.size,1,none⟩=some (.slice ao A.length G):=fun l h=>by
    refine⟨h,?_⟩
    rcases h with rfl|⟨u,rfl⟩
    ·exact(uH Z0).drew.c1
    ·exact((uH Z0).drew.other (by simp;omega) u).c1
   have HK:=aa hK
   clear hK
   go_wp2
   go_region_held3(fun l=>(l=wr.drew∨(∃u,l=(wr.drew).setCell ⟨w.heap.size+1+1,i,none⟩ u))∧l.cell? ⟨w.heap.size,1,none⟩=some (.slice ao A.length G))
    (first|exact uH HK _ (.inl rfl)|exact uH HK _ (.inr ⟨_,rfl⟩))
    (first|(go_at_call 185;have hq:=ax;clear ax;refine(fw ao G A _ (i+1) D _ (uH CA) (by omega) (by omega) hq).mono ?_;rintro e l ⟨rfl,rfl⟩;clear hq)|(go_at_call 185;refine(fw ao G A _ i y _ (uH CA) (by omega) rfl a0).mono ?_;rintro e l ⟨rfl,rfl⟩))
   have r1:=(uH HR).set i (((D%2*4294967296+y)/2)%4294967296)
   rw[show(((D%2*4294967296+y)/2%4294967296:Nat):Int)=((D:Int)%2*4294967296+(y:Int))/2 by omega]at r1
   have N:((D%2*4294967296+y)/2)%4294967296<4294967296:=Nat.mod_lt _ (by decide)
   have R1:=aa r1
   have HM:=aa N
   clear r1 N
   go_wp2
   go_roundw
   case rel=>exact⟨i+1,S.set i (((D%2*4294967296+y)/2)%4294967296),by omega,by go_num,(uH R1:_),(uH Z0).other (by simp;omega) _,(uH Z1).other (by simp) _,by simpa using K,hf.set _ _ (uH HM),((uH Y).setCell (by simp;omega) _).drew,uH am⟩
   case measure=>simp[intOf];omega
  ·have a1:i=A.length:=by omega
   have aI:=uH V S K (by rw[K,←a1];exact hv.out)
   have HR:=aa (t.limbs hf A.length (by omega))
   have HV:=aa aI
   have Z1:=aa z1
   have Y:=aa f
   have be:¬(i:Int)<(A.length:Int):=by omega
   have HL:=aa K
   have bi:=z1.lt
   have bj:=t.lt
   clear aI hv t U V x0 x1 I X z1 f Q z0
   go_wp2_with fail
   have hN:bN (w.heap.size+1+1) (some ⟨w.heap.size+1+1,0,none⟩) S:=.inr ⟨_,_,rfl,Nat.le_refl _⟩
   have m:=c8 (w.heap.size+1+1) F (some ⟨w.heap.size+1+1,0,none⟩) A.length S wr (uH HR) hN (by omega)
   rw[uH HV,uH HL]at m
   refine m.mono ?_
   rintro e w2 ⟨v,rfl,⟨n2,a2,c2,L2,rfl,i1⟩,Z⟩
   have X4:=(uH Z1).below Z (uH Z1).lt
   have y0:=X4.c0;have y1:=X4.c1;have f0:=X4.free 0;have f1:=X4.free 1
   have a3:=aa ((uH Y).trans (Z.mono (by omega)))
   have I1:=aa i1
   clear m X4 Z i1 hN
   go_wp2
   refine bodyPost_ret (v:=.agg #[.bool n2,.slice a2 L2.length c2]) (by simp[results,Tryz.results136,go_sem,y0,y1]) rfl ⟨.agg #[.bool n2,.slice a2 L2.length c2],rfl,?_,?_⟩
   ·exact aE.stored (uH I1) (by simp) (by simp) (by omega) _ _
   ·exact((uH a3).setCell (by simp) _).setCell (by simp) _
end Go.Proofs.YtlnphkioddknfaaGreatDoor
namespace Go.Proofs.YtlnphkioddknfaaGreatDoor
open Go.RowKit
theorem bits_nat(a b:Int):∃y:Nat,y<4294967296∧bits BinOp.xor IntKind.u32 a b=(y:Int):=by
 refine⟨(bits BinOp.xor IntKind.u32 a b).toNat,?_,?_⟩
 all_goals
  have h:0≤bits BinOp.xor IntKind.u32 a b∧bits BinOp.xor IntKind.u32 a b<4294967296:=by
   simp only[bits,IntKind.wrap,IntKind.signed,IntKind.bits]
   simp
   omega
  omega
end Go.Proofs.YtlnphkioddknfaaGreatDoor
