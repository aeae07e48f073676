/- Part 9 of the texts. -/
import Derived.Test.YtenpggicmfhhdaaGreatDoorParte08
set_option maxHeartbeats 1000000
namespace Go.Proofs.YtenpggicmfhhdaaGreatDoor
open Go.RowKit
theorem iU(w:World)(g:Nat)(a b:Int)(lo d:Nat)(f:w.heap.size=g)(h:a=(lo:Int))(l:b=(d:Int)):
  bO (w.alloc (.cells #[.int .u32 a,.int .u32 b] 139)) g [lo,d]:=by
 subst f;subst h;subst l
 exact heap_alloc_new w _
theorem xO(n:Int)(d:-9223372036854775808≤n)(f:n<0):IntKind.u64.wrap (-IntKind.u64.wrap n)= -n:=by
 simp only[IntKind.wrap,IntKind.signed,IntKind.bits]
 simp
 omega
theorem lp(m:Nat):ah [m%4294967296,m/4294967296]=m:=by simp only[ah];omega
theorem sD(n:Int)(w:World)(V:-9223372036854775808≤n)(Y:n≤9223372036854775807):
  Calls Tryz.prog 138 #[.int .i64 n] w fun e G=>∃v,e=.returned v∧ay w.heap.size G v n∧Below w.heap.size w G:=by
 obtain⟨m,h⟩:∃m,m=n.natAbs:=⟨_,rfl⟩
 have Q:bd [m%4294967296,m/4294967296]:=by intro x X;simp at X;omega
 have H:=aa Q
 have l:=aa h
 clear Q h
 by_cases T:n<0
 ·have U:=xO n V T
  have I:=aa U
  clear U
  go_enter Tryz.func138,Tryz.ntmps138
  go_wp2_with fail
  have h:=uH l
  have y:=iU (w.alloc (.cells #[.bool false,.slice none 0 0] 108)) (w.heap.size+1) (IntKind.u64.wrap (-IntKind.u64.wrap n)%4294967296) (IntKind.u64.wrap (-IntKind.u64.wrap n)/4294967296%4294967296) (m%4294967296) (m/4294967296) (by simp) (by rw[uH I];omega) (by rw[uH I];omega)
  refine(lM (some ⟨w.heap.size+1,0,none⟩) 2 [m%4294967296,m/4294967296] _ (y.limbs (uH H) 2 (by simp)) (by simp)).mono ?_
  rintro e G ⟨v,rfl,⟨f,d,t,rfl,z,A,O,D,F⟩,rfl⟩
  have K:=aa D
  have L:=aa z
  have M:=aa A
  have N:=aa F
  clear z A D F y h
  go_wp2
  refine bodyPost_ret (v:=.agg #[.bool true,.slice f t.length d]) (by simp[results,Tryz.results138,go_sem]) rfl ⟨.agg #[.bool true,.slice f t.length d],rfl,⟨true,f,d,t,rfl,uH K _ ?_,uH N _ (.inr ⟨_,_,rfl,by omega⟩),uH L,by simp[T],?_⟩,?_⟩
  ·refine(iU _ (w.heap.size+1) _ _ _ _ (by simp) ?_ ?_).limbs (uH H) 2 (by simp)
   ·have h:=uH l;rw[uH I];omega
   ·have h:=uH l;rw[uH I];omega
  ·exact⟨by rw[uH M,lp];exact uH l,by simp at O;omega⟩
  ·exact((Below.refl _ _).alloc (Nat.le_refl _) _).alloc (by simp) _
 ·go_enter Tryz.func138,Tryz.ntmps138
  go_wp2_with fail
  have h:=uH l
  have y:=iU (w.alloc (.cells #[.bool false,.slice none 0 0] 108)) (w.heap.size+1) (n%4294967296) (n/4294967296) (m%4294967296) (m/4294967296) (by simp) (by omega) (by omega)
  refine(lM (some ⟨w.heap.size+1,0,none⟩) 2 [m%4294967296,m/4294967296] _ (y.limbs (uH H) 2 (by simp)) (by simp)).mono ?_
  rintro e G ⟨v,rfl,⟨f,d,t,rfl,z,A,O,D,F⟩,rfl⟩
  have K:=aa D
  have L:=aa z
  have M:=aa A
  have N:=aa F
  clear z A D F y h
  go_wp2
  refine bodyPost_ret (v:=.agg #[.bool false,.slice f t.length d]) (by simp[results,Tryz.results138,go_sem]) rfl ⟨.agg #[.bool false,.slice f t.length d],rfl,⟨false,f,d,t,rfl,uH K _ ?_,uH N _ (.inr ⟨_,_,rfl,by omega⟩),uH L,by simp;omega,?_⟩,?_⟩
  ·refine(iU _ (w.heap.size+1) _ _ _ _ (by simp) ?_ ?_).limbs (uH H) 2 (by simp)
   ·have h:=uH l;omega
   ·have h:=uH l;omega
  ·exact⟨by rw[uH M,lp];exact uH l,by simp at O;omega⟩
  ·exact((Below.refl _ _).alloc (Nat.le_refl _) _).alloc (by simp) _
theorem ay.right{B:Nat}{w:World}{v:Value}{x:Int}(h:ay B w v x)(G:x.natAbs<di):
  ∃neg l d L,v=.agg #[.bool neg,.slice l L.length d]∧af w l d L∧aw neg L=true∧ad neg L=x∧L.length≤512:=by
 obtain⟨neg,l,d,L,rfl,t,H,y,z,F,I⟩:=h
 have m:L.length≤512:=(dw L t.2.1 y).1 (by omega)
 refine⟨neg,l,d,L,rfl,t,?_,?_,m⟩
 ·have A:L.length=0→neg=false:=fun e=>by
   have:L= []:=List.length_eq_zero_iff.1 e
   subst this
   rw[z];simp[ah]at F;simp;omega
  have D:L.length=0∨L[L.length-1]?.getD 0≠0:=by
   rcases y with h|h
   ·left;rw[h];rfl
   ·exact .inr h
  simp only[aw,Bool.and_eq_true,decide_eq_true_eq,Bool.not_eq_true',Bool.and_eq_false_iff,decide_eq_false_iff_not,Bool.or_eq_true]
  refine⟨⟨m,?_⟩,D⟩
  by_cases e:L.length=0
  ·exact .inr (A e)
  ·exact .inl e
 ·unfold ad
  rw[z]
  by_cases f:x<0
  ·simp[f];omega
  ·simp[f];omega
theorem Bs{B f:Nat}{w:World}{v u:Value}{x y:Int}(h:ay B w v x)(l:ay f w u y)(m:x.natAbs<di)(t:y.natAbs<di):
  Calls Tryz.prog 193 #[v,u] w fun e d=>∃r,e=.returned (.tuple #[r,.int .i64 (bD (x+y))])∧ay w.heap.size d r (dj (x+y))∧Below w.heap.size w d:=by
 obtain⟨z,D,F,A,rfl,G,H,I,T⟩:=h.right m
 obtain⟨K,L,M,C,rfl,N,O,Q,U⟩:=l.right t
 have:=Bo z K D L F M A C w G N (by omega) (by omega)
 rwa[H,O,I,Q,Bool.and_self,fJ,fL]at this
theorem cL(x:Nat)(h:x<18446744073709551616):x<di:=by
 have:(4294967296^2:Nat)≤4294967296^ko:=Nat.pow_le_pow_right (by decide) (by decide)
 unfold di
 omega
theorem eO(x:Int)(h:x.natAbs<di):bD x=0:=by unfold bD;rw[if_pos h]
theorem eP(x:Int)(h:x.natAbs<di):dj x=x:=by unfold dj;rw[if_pos h]
attribute [local go_sem ↓] Go.wp_at_zero Go.wp_at_succ
theorem sE(f:Bool)(m:Option Addr)(t:Nat)(A:List Nat)(w:World)(U:af w m t A)(V:A.length≤35184372088830):
  Calls Tryz.prog 211 #[.agg #[.bool f,.slice m A.length t]] w fun e d=>∃v,e=.returned v∧aG (A.length+1) w.heap.size d v (sg f (ah A+ah A))∧Below w.heap.size w d:=by
 have y:∀L:List Nat,ah L=ah A+ah A→ad f L=sg f (ah A+ah A):=by
  intro L h;rw[de,h]
 have HS:=aa y
 clear y
 generalize sg f (ah A+ah A)=z at*
 go_enter Tryz.func211,Tryz.ntmps211
 go_wp2
 refine ap (fun W=>Below w.heap.size w W∧W.heap.size=w.heap.size+2∧aC W w.heap.size (.bool f) (.slice m A.length t)∧aC W (w.heap.size+1) (.bool false) (.slice none 0 0)) ?_ ?_
 ·refine⟨((Below.refl _ _).alloc (Nat.le_refl _) _).alloc (by simp) _,by simp,(aC.new _ _ _).old _,?_⟩
  have:=aC.new (w.alloc (.cells #[.bool f,.slice m A.length t] 108)) (.bool false) (.slice none 0 0)
  simpa using this
 rintro I ⟨D,K,Q,x2⟩
 have X:∀d,Below (w.heap.size+1) I d→Below (w.heap.size+1) I d∧d.cell? ⟨w.heap.size,0,none⟩=some (.bool f)∧d.cell? ⟨w.heap.size,1,none⟩=some (.slice m A.length t):=fun d h=>
  ⟨h,(Q.below h (by omega)).c0,(Q.below h (by omega)).c1⟩
 have M:=aa X
 have Y:=aa (U.below D)
 have X2:=aa x2
 have N:=aa D
 clear X U Q x2 D
 go_region_held3(fun d=>Below (w.heap.size+1) I d∧d.cell? ⟨w.heap.size,0,none⟩=some (.bool f)∧d.cell? ⟨w.heap.size,1,none⟩=some (.slice m A.length t))
  (first|exact uH M _ (Below.refl _ _).drew|exact uH M _ (by assumption)|exact uH M _ ((G.setCell (by simp) _).setCell (by simp) _))
  (first|(go_at_call 204;refine(qu m m t t A A _ ((uH Y).below ((Below.refl _ _).drew)) ((uH Y).below ((Below.refl _ _).drew)) V V).mono ?_;rintro e w1 ⟨aj,ae,T,rfl,g1,g2,g3,g4,l⟩;have O:Below (w.heap.size+1) I w1:=((Below.refl _ _).drew).trans (l.mono (by simp[K]));have X3:=aa ((uH X2).drew.below l (by simp[K]));have G1:=aa g1;have G2:=aa g2;have G4:=aa g4;have L4:T.length≤35184372088832:=(by omega);have L5:T.length≤A.length+1:=(by omega);have Z:=l.size;clear g1 g2 g4 g3 l)|(go_at_call 145;refine(cS _ f _ _ _ _ (uH G1) (uH G2) L4).mono ?_;rintro e w2 ⟨v,rfl,⟨n2,a2,c2,L2,rfl,i1⟩,F⟩;have G:Below (w.heap.size+1) I w2:=O.trans (F.mono (by simp at Z;omega));have H:=(uH X3).below F (by simp at Z;omega);have y0:=H.c0;have y1:=H.c1;have f0:=H.free 0;have f1:=H.free 1;have I1:=aa i1;clear i1 F H))
 have hz:=uH HS T (uH G4)
 have HI:=aa (hz▸uH I1)
 clear hz
 go_wp2
 refine bodyPost_ret (v:=.agg #[.bool n2,.slice a2 L2.length c2]) (by simp[results,Tryz.results211,go_sem,y0,y1]) rfl ⟨.agg #[.bool n2,.slice a2 L2.length c2],rfl,?_,?_⟩
 ·exact(aG.stored (uH HI) (by simp;omega) (by simp;omega) (by simp;omega) _ _).more (by have:=L5;omega)
 ·exact(((uH N).trans (G.mono (by omega))).setCell (by simp) _).setCell (by simp) _
theorem aC.other{w:World}{b:Nat}{x y:Value}(h:aC w b x y){p:Addr}(d:b≠p.block)(u:Value):aC (w.setCell p u) b x y:=(Below.heap_setCell w p u b d).trans h
theorem vr(d f:Nat):((f%2*4294967296+d)/2)%4294967296=((d+4294967296*f)/2^1)%4294967296:=by omega
theorem qA(F:Bool)(G:Option Addr)(H:Nat)(A:List Nat)(w:World)(T:af w G H A)(la:A.length≤1073741824):
  Calls Tryz.prog 147 #[.agg #[.bool F,.slice G A.length H]] w fun e l=>∃v,e=.returned v∧aG A.length w.heap.size l v (sg F (ah A/2))∧Below w.heap.size w l:=by
 obtain⟨i0,hi,a4,a5,a6⟩:=info_parts Tryz.info139
 have ae:∀(S:List Nat) (k y D:Nat),k<S.length→A[k]?.getD 0=y→A[k+1]?.getD 0=D→ah (S.take k)=(ah A/(4294967296^0*2^1))%4294967296^k→ah ((S.set k (((D%2*4294967296+y)/2)%4294967296)).take (k+1))=(ah A/(4294967296^0*2^1))%4294967296^(k+1):=by
  intro S k y D h1 h2 h3 h4
  rw[vr]
  exact ou A S T.2.1 k 0 1 y D (by omega) h1 h2 h3 h4
 have aj:∀(S:List Nat),S.length=A.length→ah (S.take S.length)=(ah A/(4294967296^0*2^1))%4294967296^S.length→ad F S=sg F (ah A/2):=by
  intro S h1 h2
  have:=qk A S T.2.1 0 1 (by omega) h2
  rw[de,this]
 have U:=aa ae
 have V:=aa aj
 clear ae aj
 generalize sg F (ah A/2)=z at*
 go_enter Tryz.func147,Tryz.ntmps147
 go_wp2_with(at_make;refine wpList_make_full _ rfl _ _ 106 rfl (w.heap.size+2) 139 i0 (.int .u32 0) 1 Tryz.underlying106 hi a4 a5 .i64 .i64 _ _ A.length rfl rfl (by omega) (by omega) (by rw[a6];omega) (by unfold maxLen;omega) (by simp) ?_;intro w1 Q d)
 have I:=bO.made Q
 have K:bO w1 (w.heap.size+1+1) (List.replicate A.length 0):=by simpa using I
 clear I
 have am:Below w.heap.size w ((w.alloc (.cells #[.bool F,.slice G A.length H] 108)).alloc (.cells #[.bool false,.slice none 0 0] 108)):=((Below.refl _ _).alloc (Nat.le_refl _) _).alloc (by simp) _
 have X:Below w.heap.size w w1:=am.grown d (by simp;omega) (fun k h=>by simp at h)
 have x0:aC w1 w.heap.size (.bool F) (.slice G A.length H):=(d.block w.heap.size (by simp;omega) (by simp)).trans ((aC.new _ _ _).old _)
 have x1:aC w1 (w.heap.size+1) (.bool false) (.slice none 0 0):=by
  have h:=aC.new (w.alloc (.cells #[.bool F,.slice G A.length H] 108)) (.bool false) (.slice none 0 0)
  have h':aC ((w.alloc (.cells #[.bool F,.slice G A.length H] 108)).alloc (.cells #[.bool false,.slice none 0 0] 108)) (w.heap.size+1) (.bool false) (.slice none 0 0):=by simpa using h
  exact(d.block (w.heap.size+1) (by simp) (by simp)).trans h'
 clear Q d am
 go_loopw[4] (fun c wr=>∃(i:Nat) (S:List Nat),i≤A.length∧c=.int .i64 i∧bO wr (w.heap.size+1+1) S∧aC wr w.heap.size (.bool F) (.slice G A.length H)∧aC wr (w.heap.size+1) (.bool false) (.slice none 0 0)∧S.length=A.length∧bd S∧Below w.heap.size w wr∧Hid (ah (S.take i)=(ah A/(4294967296^0*2^1))%4294967296^i))
  (fun c _=>A.length-(intOf c).toNat)
 case atStart=>exact⟨0,List.replicate A.length 0,Nat.zero_le _,rfl,K,x0,x1,by simp,bd.zeros _,X,by unfold Hid;simp[ah,Nat.mod_one]⟩
 case round=>
  obtain⟨i,S,bm,rfl,t,z0,z1,L,hf,f,hv⟩:=hrel
  have p0:=z0.c0;have p1:=z0.c1
  by_cases ba:i<A.length
  ·obtain⟨y,M⟩:∃x,A[i]?.getD 0=x:=⟨_,rfl⟩
   obtain⟨D,N⟩:∃x,A[i+1]?.getD 0=x:=⟨_,rfl⟩
   have b0:y<4294967296:=by rw[←M];exact T.lt _
   have bb:D<4294967296:=by rw[←N];exact T.lt _
   have cA:=(T.below f).below ((Below.refl _ _).drew)
   have dS:=t.cell i (by omega)
   have fS:=t.free i
   generalize a7:S[i]?.getD 0=s at*
   have av:=aa (uH U S i y D (by omega) M N hv.out)
   have a0:=aa M
   have ax:=aa N
   have HR:=aa t;have Z0:=aa z0;have Z1:=aa z1;have Y:=aa f;have CA:=aa cA
   clear M N t hv a7 U V x0 x1 K X z0 z1 f cA T
   have a9:(i:Int)<(A.length:Int):=by omega
   have bc:IntKind.i64.wrap ((i:Int)+1)=(i:Int)+1:=by
    simp only[IntKind.wrap,IntKind.signed,IntKind.bits]
    simp
    omega
   have hK:∀l,l=wr.drew∨(∃u,l=(wr.drew).setCell ⟨w.heap.size+1+1,i,none⟩ u)→(l=wr.drew∨(∃u,l=(wr.drew).setCell ⟨w.heap.size+1+1,i,none⟩ u))∧l.cell? ⟨w.heap.size,1,none⟩=some (.slice G A.length H):=fun l h=>by
    refine⟨h,?_⟩
    rcases h with rfl|⟨u,rfl⟩
    ·exact(uH Z0).drew.c1
    ·exact((uH Z0).drew.other (by simp;omega) u).c1
   have HK:=aa hK
   clear hK
   go_wp2
   go_region_held3(fun l=>(l=wr.drew∨(∃u,l=(wr.drew).setCell ⟨w.heap.size+1+1,i,none⟩ u))∧l.cell? ⟨w.heap.size,1,none⟩=some (.slice G A.length H))
    (first|exact uH HK _ (.inl rfl)|exact uH HK _ (.inr ⟨_,rfl⟩))
    (first|(go_at_call 174;have hq:=ax;clear ax;refine(eZ G H A _ (i+1) D _ (uH CA) (by omega) (by omega) hq).mono ?_;rintro e l ⟨rfl,rfl⟩;clear hq)|(go_at_call 174;refine(eZ G H A _ i y _ (uH CA) (by omega) rfl a0).mono ?_;rintro e l ⟨rfl,rfl⟩))
   have r1:=(uH HR).set i (((D%2*4294967296+y)/2)%4294967296)
   rw[show(((D%2*4294967296+y)/2%4294967296:Nat):Int)=((D:Int)%2*4294967296+(y:Int))/2 by omega]at r1
   have O:((D%2*4294967296+y)/2)%4294967296<4294967296:=Nat.mod_lt _ (by decide)
   have R1:=aa r1
   have HM:=aa O
   clear r1 O
   go_wp2
   go_roundw
   case rel=>exact⟨i+1,S.set i (((D%2*4294967296+y)/2)%4294967296),by omega,by go_num,(uH R1:_),(uH Z0).other (by simp;omega) _,(uH Z1).other (by simp) _,by simpa using L,hf.set _ _ (uH HM),((uH Y).setCell (by simp;omega) _).drew,uH av⟩
   case measure=>simp[intOf];omega
  ·have a1:i=A.length:=by omega
   have aI:=uH V S L (by rw[L,←a1];exact hv.out)
   have HR:=aa (t.limbs hf A.length (by omega))
   have HV:=aa aI
   have Z1:=aa z1
   have Y:=aa f
   have be:¬(i:Int)<(A.length:Int):=by omega
   have HL:=aa L
   have bi:=z1.lt
   have bj:=t.lt
   clear aI hv t U V x0 x1 K X z1 f T z0
   go_wp2_with fail
   have hN:bI (w.heap.size+1+1) (some ⟨w.heap.size+1+1,0,none⟩) S:=.inr ⟨_,_,rfl,Nat.le_refl _⟩
   have m:=cS (w.heap.size+1+1) F (some ⟨w.heap.size+1+1,0,none⟩) A.length S wr (uH HR) hN (by omega)
   rw[uH HV,uH HL]at m
   refine m.mono ?_
   rintro e w2 ⟨v,rfl,⟨n2,a2,c2,L2,rfl,i1⟩,Z⟩
   have X4:=(uH Z1).below Z (uH Z1).lt
   have y0:=X4.c0;have y1:=X4.c1;have f0:=X4.free 0;have f1:=X4.free 1
   have a3:=aa ((uH Y).trans (Z.mono (by omega)))
   have I1:=aa i1
   clear m X4 Z i1 hN
   go_wp2
   refine bodyPost_ret (v:=.agg #[.bool n2,.slice a2 L2.length c2]) (by simp[results,Tryz.results147,go_sem,y0,y1]) rfl ⟨.agg #[.bool n2,.slice a2 L2.length c2],rfl,?_,?_⟩
   ·exact aG.stored (uH I1) (by simp) (by simp) (by omega) _ _
   ·exact((uH a3).setCell (by simp) _).setCell (by simp) _
end Go.Proofs.YtenpggicmfhhdaaGreatDoor
namespace Go.Proofs.YtenpggicmfhhdaaGreatDoor
open Go.RowKit
theorem bits_nat(a b:Int):∃y:Nat,y<4294967296∧bits BinOp.xor IntKind.u32 a b=(y:Int):=by
 refine⟨(bits BinOp.xor IntKind.u32 a b).toNat,?_,?_⟩
 all_goals
  have h:0≤bits BinOp.xor IntKind.u32 a b∧bits BinOp.xor IntKind.u32 a b<4294967296:=by
   simp only[bits,IntKind.wrap,IntKind.signed,IntKind.bits]
   simp
   omega
  omega
end Go.Proofs.YtenpggicmfhhdaaGreatDoor
