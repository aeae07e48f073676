/- Part 33 of the texts. -/
import Derived.Test.YtmpkkhackbpflaaGreatDoorPartg32
import Derived.Deep.OwnRows
set_option maxHeartbeats 4000000
set_option maxRecDepth 20000
namespace Go.Proofs.YtmpkkhackbpflaaGreatDoor
open Go.RowKit
theorem tv(a n S o:Nat)(z E M X Q:Int)(w:World)(ht:-3000≤z∧z≤3000)(V:E=z/2-54-1)(T:z%2=0)
  (Y:∀h,Below w.heap.size w h→Calls Tryz.prog 257 #[.int .u64 a] h fun r l=>r=.returned (.tuple #[.int .u64 (n:Nat),.int .i64 z])∧Below h.heap.size h l)
  (Z:∀h,Calls Tryz.prog 258 #[.int .u64 (n:Nat)] h fun r l=>r=.returned (.int .i64 (S:Nat))∧Below h.heap.size h l)
  (C4:∀h,Calls Tryz.prog 219 #[.int .i64 (S:Nat)] h fun r l=>∃v,r=.returned v∧ar h.heap.size l v (S:Nat)∧Below h.heap.size h l)
  (C5:∀B h v,Below w.heap.size w h→ar B h v (S:Nat)→Calls Tryz.prog 218 #[v,.int .i64 E] h fun r l=>ow l r 0 M X∧Below h.heap.size h l)
  (C6:∀h v,Below w.heap.size w h→bc h v M X→Calls Tryz.prog 195 #[v] h fun s l=>s=.returned (.tuple #[.int .u64 (o:Nat),.int .u8 Q,.int .i64 0])∧Below h.heap.size h l):
  Calls Tryz.prog 245 #[.int .u64 a] w fun s h=>s=.returned (.tuple #[.int .u64 (o:Nat),.int .u8 Q])∧Below w.heap.size w h:=by
 have K1:=ac Y;have K3:=ac Z;have K4:=ac C4;have K5:=ac C5;have K6:=ac C6
 clear Y Z C4 C5 C6
 obtain⟨q,hq⟩:∃q,q=z/2:=⟨_,rfl⟩
 have t1:Int.tdiv z 2=q:=by rw[Int.tdiv_eq_ediv];omega
 have e1:=bF (q-54) (by omega)
 have e2:=bF (q-54-1) (by omega)
 rw[←hq]at V
 have q1:-1500≤q:=by omega
 have q2:q≤1500:=by omega
 clear hq T
 go_enter Tryz.func245,Tryz.ntmps245
 go_wp2_with fail
 refine(uH K1 _ (Below.refl _ _)).mono ?_
 rintro e w1 ⟨rfl,d⟩
 have D:=ac d
 clear d K1
 go_wp2_with fail
 refine(uH K3 _).mono ?_
 rintro e w2 ⟨rfl,d⟩
 have D:=ac ((uH D).trans (d.mono (uH D).size))
 clear d K3
 go_wp2_with fail
 refine(uH K4 _).mono ?_
 rintro e w3 ⟨v,rfl,⟨n3,a3,c3,U,rfl,i3⟩,d⟩
 have H:=ac ((uH D).trans (d.mono (uH D).size))
 have I3:=ac (show ar w2.heap.size w3 (.agg #[.bool n3,.slice a3 U.length c3]) (S:Nat)from⟨n3,a3,c3,U,rfl,i3⟩)
 clear d K4 D i3
 generalize U.length=l3 at*
 subst V
 go_wp2_with fail
 refine(uH K5 _ _ _ (uH H) (uH I3)).mono ?_
 rintro e G ⟨⟨v,rfl,hv⟩,d⟩
 obtain⟨L,N,O,F,rfl,i1⟩:=hv
 have t:Below G.heap.size G (G.alloc (.cells #[.bool L,.slice N F.length O,.int .i64 X] 57)):=(Below.refl _ _).alloc (Nat.le_refl _) _
 have HX:=ac ((show bc G (.agg #[.bool L,.slice N F.length O,.int .i64 X]) M X from⟨L,N,O,F,rfl,i1⟩).below t)
 have I:=ac ((uH H).trans ((d.trans (t.mono d.size)).mono (uH H).size))
 have J:=a8.new G (.bool L) (.slice N F.length O) (.int .i64 X)
 have y0:=J.c0;have y1:=J.c1;have y2:=J.c2
 clear i1 d t K5 H J I3
 generalize F.length=l1 at*
 go_wp2_with fail
 refine(uH K6 _ _ (uH I) (uH HX)).mono ?_
 rintro e w5 ⟨rfl,d⟩
 have B5:=ac ((uH I).trans (d.mono (uH I).size))
 clear d K6 I y0 y1 y2 HX
 go_wp2
 exact bodyPost_ret (v:=.tuple #[.int .u64 o,.int .u8 Q]) (by simp[results,Tryz.results245,go_sem]) rfl ⟨rfl,uH B5⟩
def tB(a:Nat):Nat:=rS (nS a*4^22)
theorem Nf(a:Nat)(d:a<18446744073709551616)(l:ah a=true)(t:fK a≠0):tB a≠0:=by
 obtain⟨D,F⟩:=jX a d l t
 have z:1≤nS a*4^22:=Nat.mul_pos (by omega) (by decide)
 have h:=DC z
 have:bH 1=1:=by decide
 unfold tB rS
 omega
theorem Ng(a:Nat)(d:a<18446744073709551616)(h:ah a=true)(l:fK a≠0):tB a<36028797018963968:=Nd (nS a) (jX a d h l).1
theorem Ho(a:Nat)(d:a<18446744073709551616)(l:ah a=true)(t:fK a≠0):
  cC (tB a) (nT a/2-54-1)=tV a∧bX (oM (tB a:Nat)).natAbs (oE (tB a:Nat) (nT a/2-54-1))=tF a:=by
 have h:=Hk a d l t
 rw[show nT a/2-55=nT a/2-54-1 by omega]at h
 exact h
theorem qY(a:Nat)(w:World)(d:a<18446744073709551616)(h:ah a=true)(l:fK a≠0):
  Calls Tryz.prog 258 #[.int .u64 (nS a:Nat)] w fun e t=>e=.returned (.int .i64 (tB a:Nat))∧Below w.heap.size w t:=pX (nS a) w (jX a d h l).1
theorem qZ(a n S r:Nat)(z E J:Int)(w:World)(O:-3000≤z∧z≤3000)(D:z%2=0)(Q:E=z/2-54-1)
  (s1:S≠0) (s2:S<36028797018963968) (T:cC S E=r) (U:bX (oM (S:Nat)).natAbs (oE (S:Nat) E)=J) (L:c8 w)
  (V:∀d,Below w.heap.size w d→Calls Tryz.prog 257 #[.int .u64 a] d fun r l=>r=.returned (.tuple #[.int .u64 (n:Nat),.int .i64 z])∧Below d.heap.size d l)
  (X:∀d,Calls Tryz.prog 258 #[.int .u64 (n:Nat)] d fun r l=>r=.returned (.int .i64 (S:Nat))∧Below d.heap.size d l):
  Calls Tryz.prog 245 #[.int .u64 a] w fun s d=>s=.returned (.tuple #[.int .u64 (r:Nat),.int .u8 J])∧Below w.heap.size w d:=by
 have M:((S:Nat):Int).natAbs<eN:=dK _ (by omega)
 have t:((S:Nat):Int)≠0:=by omega
 have aa:tz ((S:Nat):Int).natAbs<57:=kK _ 57 (by omega) (by rw[Int.natAbs_natCast];exact Na (by omega))
 have ad:-2300≤E∧E≤2300:=by omega
 have G:nE (S:Nat) E=true:=by
  unfold nE
  rw[decide_eq_true (show-32768≤E∧E≤32768 by omega),decide_eq_true (show-16384≤E+(tz ((S:Nat):Int).natAbs:Int)∧E+(tz ((S:Nat):Int).natAbs:Int)≤16384 by omega),Bool.or_true]
  rfl
 have H:sM (oM (S:Nat)) (oE (S:Nat) E)=true:=by
  unfold sM
  rw[if_neg (iB _ t).1,d9 _ _ t,decide_eq_true (iB _ t).2,decide_eq_true (by omega)]
  rfl
 have I:(oM (S:Nat)).natAbs<eN:=Nat.lt_of_le_of_lt (rI _) M
 have N:∀d v,Below w.heap.size w d→bc d v (oM (S:Nat)) (oE (S:Nat) E)→_:=fun d v h F=>jQ F I H (L.all h)
 rw[(jr ((S:Nat):Int) E).1,km,decide_eq_false (show¬((S:Nat):Int)<0 by omega),cn,Int.natAbs_natCast,T,U]at N
 refine tv a n S r z E _ _ _ w O Q D V X
  (fun d=>wQ _ d (by omega) (by omega)) (fun B d v h F=>?_) N
 have:=jO E F M (by omega) (L.all h)
 unfold dz dM dX at this
 rw[G]at this
 exact this.mono fun r l ⟨u,Y,Z,g3⟩=>⟨⟨u,Y,Z⟩,g3⟩
theorem pY(a:Nat)(w:World)(d:a<18446744073709551616)(l:ah a=true)(t:fK a≠0)(F:fS a=false)(D:c8 w):
  Calls Tryz.prog 245 #[.int .u64 a] w fun r z=>r=.returned (.tuple #[.int .u64 (tV a:Nat),.int .u8 (tF a)])∧Below w.heap.size w z:=by
 obtain⟨L,M,N,O,Q,T,U,V⟩:=dk a d l t
 have G:dT a=(bl (fD a).natAbs:Int)+fX a:=rfl
 have H:nT a=dT a+dT a%2:=rfl
 obtain⟨I,J⟩:=Ho a d l t
 exact qZ a (nS a) (tB a) (tV a) (nT a) _ (tF a) w (by omega) (by omega) rfl (Nf a d l t) (Ng a d l t) I J D (fun z h=>Bk a z d l t F (D.all h)) (fun z=>qY a z d l t)
theorem Hp(a:Nat)(w:World)
  (t:∀d,Calls Tryz.prog 122 #[.int .u64 a] d fun r l=>r=.returned (.int .i64 0)∧Below d.heap.size d l):
  Calls Tryz.prog 232 #[.int .u64 a] w fun r d=>r=.returned (.tuple #[.int .u64 (a:Nat),.int .u8 0])∧Below w.heap.size w d:=by
 have z:=ac t
 clear t
 go_enter Tryz.func232,Tryz.ntmps232
 go_wp2_with fail
 refine(uH z _).mono ?_
 rintro e D ⟨rfl,h⟩
 have B:=ac h
 clear h z
 go_wp2
 exact bodyPost_ret (v:=.tuple #[.int .u64 (a:Nat),.int .u8 0]) (by simp[results,Tryz.results232,go_sem]) rfl ⟨rfl,uH B⟩
theorem Hq(a:Nat)(k:Int)(w:World)(D:(k==0)=false)(F:((a:Int)==9218868437227405312)=true)
  (t:∀d,Calls Tryz.prog 122 #[.int .u64 a] d fun r l=>r=.returned (.int .i64 k)∧Below d.heap.size d l):
  Calls Tryz.prog 232 #[.int .u64 a] w fun r d=>r=.returned (.tuple #[.int .u64 (a:Nat),.int .u8 0])∧Below w.heap.size w d:=by
 have z:=ac t
 clear t
 go_enter Tryz.func232,Tryz.ntmps232
 go_wp2_with fail
 refine(uH z _).mono ?_
 rintro e G ⟨rfl,h⟩
 have B:=ac h
 clear h z
 go_wp2
 exact bodyPost_ret (v:=.tuple #[.int .u64 (a:Nat),.int .u8 0]) (by simp[results,Tryz.results232,go_sem]) rfl ⟨rfl,uH B⟩
theorem Hr(a:Nat)(w:World)(D:((a:Int)==9218868437227405312)=false)
  (t:∀d,Calls Tryz.prog 122 #[.int .u64 a] d fun r l=>r=.returned (.int .i64 4)∧Below d.heap.size d l):
  Calls Tryz.prog 232 #[.int .u64 a] w fun r d=>r=.returned (.tuple #[.int .u64 9221120237041090560,.int .u8 0])∧Below w.heap.size w d:=by
 have z:=ac t
 clear t
 go_enter Tryz.func232,Tryz.ntmps232
 go_wp2_with fail
 refine(uH z _).mono ?_
 rintro e F ⟨rfl,h⟩
 have B:=ac h
 clear h z
 go_wp2
 exact bodyPost_ret (v:=.tuple #[.int .u64 9221120237041090560,.int .u8 0]) (by simp[results,Tryz.results232,go_sem]) rfl ⟨rfl,uH B⟩
theorem Hs(a:Nat)(k:Int)(w:World)(G:(k==0)=false)(H:k≠4)(I:((a:Int)==9218868437227405312)=false)
  (t:∀h,Calls Tryz.prog 122 #[.int .u64 a] h fun r l=>r=.returned (.int .i64 k)∧Below h.heap.size h l)
  (z:∀h,Calls Tryz.prog 129 #[.int .u64 a] h fun r l=>r=.returned (.bool true)∧Below h.heap.size h l):
  Calls Tryz.prog 232 #[.int .u64 a] w fun r h=>r=.returned (.tuple #[.int .u64 9221120237041090560,.int .u8 16])∧Below w.heap.size w h:=by
 have D:=ac t
 clear t
 go_enter Tryz.func232,Tryz.ntmps232
 go_wp2_with fail
 refine(uH D _).mono ?_
 rintro e J ⟨rfl,d⟩
 have B:=ac d
 clear d D
 have F:=ac z
 clear z
 go_wp2_with fail
 refine(uH F _).mono ?_
 rintro e L ⟨rfl,d⟩
 have B:=ac ((uH B).trans (d.mono (uH B).size))
 clear d F
 go_wp2
 exact bodyPost_ret (v:=.tuple #[.int .u64 9221120237041090560,.int .u8 16]) (by simp[results,Tryz.results232,go_sem]) rfl ⟨rfl,uH B⟩
theorem Ht(a:Nat)(k t:Int)(o:Nat)(w:World)(M:(k==0)=false)(N:k≠4)(O:((a:Int)==9218868437227405312)=false)(z:c8 w)
  (D:∀h,Calls Tryz.prog 122 #[.int .u64 a] h fun r l=>r=.returned (.int .i64 k)∧Below h.heap.size h l)
  (F:∀h,Calls Tryz.prog 129 #[.int .u64 a] h fun r l=>r=.returned (.bool false)∧Below h.heap.size h l)
  (G:∀h,c8 h→Calls Tryz.prog 245 #[.int .u64 a] h fun r l=>r=.returned (.tuple #[.int .u64 (o:Nat),.int .u8 t])∧Below h.heap.size h l):
  Calls Tryz.prog 232 #[.int .u64 a] w fun r h=>r=.returned (.tuple #[.int .u64 (o:Nat),.int .u8 t])∧Below w.heap.size w h:=by
 have H:=ac D
 clear D
 go_enter Tryz.func232,Tryz.ntmps232
 go_wp2_with fail
 refine(uH H _).mono ?_
 rintro e Q ⟨rfl,d⟩
 have B:=ac d
 clear d H
 have I:=ac F
 clear F
 go_wp2_with fail
 refine(uH I _).mono ?_
 rintro e T ⟨rfl,d⟩
 have B:=ac ((uH B).trans (d.mono (uH B).size))
 clear d I
 have J:=ac G;have L:=ac (z.all (uH B))
 clear G z
 go_wp2_with fail
 refine(uH J _ (uH L)).mono ?_
 rintro e U ⟨rfl,d⟩
 have B:=ac ((uH B).trans (d.mono (uH B).size))
 clear d J L
 go_wp2
 exact bodyPost_ret (v:=.tuple #[.int .u64 (o:Nat),.int .u8 t]) (by simp[results,Tryz.results232,go_sem]) rfl ⟨rfl,uH B⟩
theorem Bl(a:Nat)(w:World)(G:a<18446744073709551616)(J:c8 w):
  Calls Tryz.prog 232 #[.int .u64 a] w fun r z=>r=.returned (.tuple #[.int .u64 (sV a:Nat),.int .u8 (sF a)])∧Below w.heap.size w z:=by
 have D:=fun z=>dj a z G
 have H:=fun z=>fh a z G
 by_cases d:fK a=4
 ·rw[show sV a=9221120237041090560 by unfold sV;rw[if_pos d],show sF a=0 by unfold sF;rw[if_pos d]]
  rw[d]at D
  have l:a≠9218868437227405312:=fun h=>by rw[h]at d;revert d;decide
  exact Hr a w (by simp;omega) D
 by_cases F:fK a=0
 ·rw[show sV a=a by unfold sV;rw[if_neg d,if_pos (Or.inl F)],show sF a=0 by unfold sF;rw[if_neg d,if_pos (Or.inl F)]]
  rw[F]at D
  exact Hp a w D
 by_cases I:a=9218868437227405312
 ·rw[show sV a=a by unfold sV;rw[if_neg d,if_pos (Or.inr I)],show sF a=0 by unfold sF;rw[if_neg d,if_pos (Or.inr I)]]
  exact Hq a _ w (by simp[F]) (by simp;omega) D
 have l:¬(fK a=0∨a=9218868437227405312):=by omega
 cases hs:fS a
 ·rw[show sV a=tV a by unfold sV;rw[if_neg d,if_neg l,if_neg (by rw[hs];decide)],show sF a=tF a by unfold sF;rw[if_neg d,if_neg l,if_neg (by rw[hs];decide)]]
  rw[hs]at H
  have L:fK a≠3:=fun h=>I (by
   have:=Ji a G
   rw[hs,cn]at this
   have M:=((cF a).2.1.1 h)
   omega)
  exact Ht a _ _ _ w (by simp[F]) d (by simp;omega) J D H (fun z t=>pY a z G (gt a L d) F hs t)
 ·rw[show sV a=9221120237041090560 by unfold sV;rw[if_neg d,if_neg l,if_pos hs],show sF a=16 by unfold sF;rw[if_neg d,if_neg l,if_pos hs]]
  rw[hs]at H
  exact Hs a _ w (by simp[F]) d (by simp;omega) D H
def ak(w:World)(ao:Option Addr)(cap:Nat)(I:List Int):Prop:=
 I.length≤cap∧(∀x∈I,0≤x∧x≤18446744073709551615)∧(I= []∨∃b off,ao=some ⟨b,off,none⟩∧b<w.heap.size∧∀i,i<I.length→w.cell? ⟨b,off+i,none⟩=some (.int .u64 (I[i]?.getD 0)))
theorem ak.below{w t:World}{z:Option Addr}{d:Nat}{I:List Int}(h:ak w z d I)(D:Below w.heap.size w t):ak t z d I:=by
 refine⟨h.1,h.2.1,?_⟩
 rcases h.2.2 with h|⟨b,l,H,F,J⟩
 ·exact .inl h
 ·refine .inr ⟨b,l,H,Nat.lt_of_lt_of_le F D.size,fun i G=>?_⟩
  rw[D.cell (p:=⟨b,l+i,none⟩) F]
  exact J i G
def bN(I:List Int)(j:Nat):Nat:=(I[j]?.getD 0).toNat
theorem ak.wf{w:World}{t:Option Addr}{d:Nat}{I:List Int}(h:ak w t d I)(j:Nat):I[j]?.getD 0=(bN I j:Int)∧bN I j<18446744073709551616:=by
 unfold bN
 by_cases l:j<I.length
 ·have:=h.2.1 _ (List.getElem_mem l)
  rw[List.getElem?_eq_getElem l]
  simp only[Option.getD_some]
  omega
 ·rw[List.getElem?_eq_none (by omega)];simp
theorem ak.ne{w:World}{t:Option Addr}{l:Nat}{I:List Int}(h:ak w t l I)(z:0<I.length):∃b d,t=some ⟨b,d,none⟩∧b<w.heap.size∧∀i,i<I.length→w.cell? ⟨b,d+i,none⟩=some (.int .u64 (bN I i:Int)):=by
 rcases h.2.2 with e|⟨b,d,F,G,H⟩
 ·rw[e]at z;simp at z
 ·exact⟨b,d,F,G,fun i D=>by rw[H i D,(h.wf i).1]⟩
theorem Ev(a b:Nat)(w:World)(h:a<18446744073709551616)(l:b<18446744073709551616)(t:c8 w):
  Calls Tryz.prog 229 #[.int .u64 a,.int .u64 b] w fun r z=>r=.returned (.int .u64 (aV a b:Nat))∧Below w.heap.size w z:=by
 have K:=ac (vG a b w h l t)
 clear h l t
 generalize aV a b=o at*
 generalize aF a b=f at*
 go_enter Tryz.func229,Tryz.ntmps229
 go_wp2_with fail
 refine Calls.mono (uH K) ?_
 rintro e D ⟨rfl,d⟩
 clear K
 go_wp2
 go_ret
 exact⟨rfl,d⟩
theorem pZ(a b:Nat)(w:World)(h:a<18446744073709551616)(l:b<18446744073709551616)(t:c8 w):
  Calls Tryz.prog 169 #[.int .u64 a,.int .u64 b] w fun r z=>r=.returned (.int .u64 (mV a b:Nat))∧Below w.heap.size w z:=by
 have K:=ac (Eh a b w h l t)
 clear h l t
 generalize mV a b=o at*
 generalize mF a b=f at*
 go_enter Tryz.func169,Tryz.ntmps169
 go_wp2_with fail
 refine Calls.mono (uH K) ?_
 rintro e D ⟨rfl,d⟩
 clear K
 go_wp2
 go_ret
 exact⟨rfl,d⟩
theorem lh(a:Nat)(n:Int)(w:World)(h:a<18446744073709551616)(l:c8 w):
  Calls Tryz.prog 46 #[.int .u64 a,.int .i64 n] w fun r t=>r=.returned (.int .u64 (xV a n:Nat))∧Below w.heap.size w t:=by
 have K:=ac (xw a n w h l)
 clear h l
 generalize xV a n=o at*
 generalize xF a n=f at*
 go_enter Tryz.func46,Tryz.ntmps46
 go_wp2_with fail
 refine Calls.mono (uH K) ?_
 rintro e z ⟨rfl,d⟩
 clear K
 go_wp2
 go_ret
 exact⟨rfl,d⟩
theorem Ew(D F:Option Addr)(n m c d:Nat)(w:World):
  Calls Tryz.prog 206 #[.slice D n c,.slice F m d] w fun r G=>r=.returned (.bool (decide (n≤64∧n=m)))∧w=G:=by
 by_cases z:n≤64
 ·have l:(n:Int)≤64:=by omega
  by_cases t:n=m
  ·rw[decide_eq_true (And.intro z t)]
   subst t
   go_enter Tryz.func206,Tryz.ntmps206
   go_wp2
   go_ret
   exact⟨rfl,rfl⟩
  ·rw[decide_eq_false (fun h=>t h.2)]
   have H:decide ((n:Int)=(m:Int))=false:=decide_eq_false (by omega)
   go_enter Tryz.func206,Tryz.ntmps206
   go_wp2
   go_ret
   exact⟨by simp;omega,rfl⟩
 ·rw[decide_eq_false (fun h=>z h.1)]
  have l:(64:Int)<(n:Int):=by omega
  go_enter Tryz.func206,Tryz.ntmps206
  go_wp2
  go_ret
  exact⟨by simp,rfl⟩
theorem Nh(R v:Nat)(w:World)(C:∀d,Calls Tryz.prog 39 #[.int .u64 (R:Nat)] d fun r h=>r=.returned (.int .u64 (v:Nat))∧d=h):
  Calls Tryz.prog 10 #[.float .f64 R] w fun r d=>r=.returned (.int .u64 (v:Nat))∧w=d:=by
 have K:=ac C
 have l:=fun R W=>Hd R W
 clear C
 go_enter Tryz.func10,Tryz.ntmps10
 go_wp2_with fail
 refine(uH K _).mono ?_
 rintro e t ⟨rfl,rfl⟩
 clear K
 go_wp2
 go_ret
 exact⟨rfl,rfl⟩
theorem om(G:Nat)(l:Array Value)(n:Nat)(f:Nat→Nat)(w:World)
  (N:∀D w,(callFunc G D).run Tryz.prog w=.ok (.enter G D) w) (X:n≤35184372088830)
  (d:∀z k,Below w.heap.size w z→k<n→Calls Tryz.prog G (#[.int .u64 (f k:Nat),.int .i64 (k:Nat)]++l) z fun e I=>e=.returned (.int .u64 (f (k+1):Nat))∧Below z.heap.size z I):
  Calls Tryz.prog 125 #[.int .i64 n,.int .u64 (f 0:Nat),.func (.func G) #[] l] w fun e z=>e=.returned (.int .u64 (f n:Nat))∧Below w.heap.size w z:=by
 have O:=ac d
 clear d
 go_enter Tryz.func125,Tryz.ntmps125
 go_wp2_with fail
 go_loopw[7,11] (fun t i wr=>∃k:Nat,k≤n∧i=.int .i64 k∧t=.int .u64 (f k:Nat)∧Hid (Below w.heap.size w wr)) (fun _ i _=>n-(intOf i).toNat)
 case atStart=>exact⟨0,Nat.zero_le _,rfl,rfl,Below.refl _ _⟩
 case round=>
  obtain⟨k,Y,rfl,rfl,H⟩:=hrel
  by_cases J:k<n
  ·have Q:(k:Int)<(n:Int):=by omega
   have C:=ac (fun z h=>uH O z k h J)
   obtain⟨o,M⟩:∃o,f (k+1)=o:=⟨_,rfl⟩
   rw[M]at C
   have T:=ac M
   clear M
   go_wp2_with fail
   refine(uH C _ H.out).mono ?_
   rintro e V ⟨rfl,F⟩
   have U:Hid (Below w.heap.size w V):=H.out.trans (F.mono H.out.size)
   clear F C
   go_wp2_with fail
   go_round
   case rel=>exact⟨k+1,by omega,by go_num,by rw[uH T],U⟩
   case measure=>simp[intOf];omega
  ·have L:k=n:=by omega
   subst L
   go_wp2_with fail
   exact bodyPost_ret (v:=.int .u64 (f k:Nat)) (by simp[results,Tryz.results125,go_sem]) rfl ⟨rfl,H.out⟩
theorem vN(G:Nat)(l:Array Value)(n:Nat)(f:Nat→Bool)(w:World)
  (N:∀D w,(callFunc G D).run Tryz.prog w=.ok (.enter G D) w) (X:n≤35184372088830)
  (d:∀z k,Below w.heap.size w z→k<n→Calls Tryz.prog G (#[.bool (f k),.int .i64 (k:Nat)]++l) z fun e I=>e=.returned (.bool (f (k+1)))∧Below z.heap.size z I):
  Calls Tryz.prog 107 #[.int .i64 n,.bool (f 0),.func (.func G) #[] l] w fun e z=>e=.returned (.bool (f n))∧Below w.heap.size w z:=by
 have O:=ac d
 clear d
 go_enter Tryz.func107,Tryz.ntmps107
 go_wp2_with fail
 go_loopw[7,11] (fun t i wr=>∃k:Nat,k≤n∧i=.int .i64 k∧t=.bool (f k)∧Hid (Below w.heap.size w wr)) (fun _ i _=>n-(intOf i).toNat)
 case atStart=>exact⟨0,Nat.zero_le _,rfl,rfl,Below.refl _ _⟩
 case round=>
  obtain⟨k,Y,rfl,rfl,H⟩:=hrel
  by_cases J:k<n
  ·have Q:(k:Int)<(n:Int):=by omega
   have C:=ac (fun z h=>uH O z k h J)
   obtain⟨o,M⟩:∃o,f (k+1)=o:=⟨_,rfl⟩
   rw[M]at C
   have T:=ac M
   clear M
   go_wp2_with fail
   refine(uH C _ H.out).mono ?_
   rintro e V ⟨rfl,F⟩
   have U:Hid (Below w.heap.size w V):=H.out.trans (F.mono H.out.size)
   clear F C
   go_wp2_with fail
   go_round
   case rel=>exact⟨k+1,by omega,by go_num,by rw[uH T],U⟩
   case measure=>simp[intOf];omega
  ·have L:k=n:=by omega
   subst L
   go_wp2_with fail
   exact bodyPost_ret (v:=.bool (f k)) (by simp[results,Tryz.results107,go_sem]) rfl ⟨rfl,H.out⟩
def lj(x:Nat):Value:=.int .u64 (x:Int)
def bI(w:World)(g:Nat)(S:List Nat):Prop:=w.heap[g]? =some (.cells (S.map lj).toArray 28 (0,0))
theorem bI.cell{w:World}{g:Nat}{S:List Nat}(h:bI w g S)(j:Nat)(d:j<S.length):w.cell? ⟨g,j,none⟩=some (.int .u64 ((S[j]?.getD 0:Nat):Int)):=by
 rw[cell_of_row w g j _ _ _ h]
 simp[lj,d]
theorem bI.free{w:World}{g:Nat}{S:List Nat}(h:bI w g S)(j:Nat):w.frozen? ⟨g,j,none⟩=false:=frozen_of_row w g j _ _ h
theorem bI.set{w:World}{g:Nat}{S:List Nat}(h:bI w g S)(j x:Nat):bI (w.setCell ⟨g,j,none⟩ (.int .u64 (x:Int))) g (S.set j x):=by
 unfold bI
 rw[heap_setCell_same w g j _ _ _ h]
 simp[lj,List.map_set]
theorem bI.lt{w:World}{g:Nat}{S:List Nat}(h:bI w g S):g<w.heap.size:=(Array.getElem?_eq_some_iff.1 h).1
theorem bI.below{w d:World}{g:Nat}{S:List Nat}(h:bI w g S){B:Nat}(l:Below B w d)(t:g<B):bI d g S:=by
 unfold bI;rw[l.block g t];exact h
theorem bI.made(w:World)(n:Nat):bI (w.alloc (.cells (madeCells #[.int .u64 0] n) 28)) w.heap.size (List.replicate n 0):=by
 unfold bI
 rw[heap_alloc_new w _]
 have:madeCells #[Value.int .u64 0] n=((List.replicate n 0).map lj).toArray:=by
  apply Array.toList_inj.1
  refine List.ext_getElem (by simp[madeCells]) fun i d h=>?_
  simp[madeCells,lj,Nat.mod_one]
 rw[this]
def xS(f:Nat→Nat)(n k:Nat):List Nat:=(List.range n).map (fun j=>if j<k then f j else 0)
theorem Js(f:Nat→Nat)(n:Nat):xS f n 0=List.replicate n 0:=by
 unfold xS
 refine List.ext_getElem (by simp) fun i d h=>?_
 simp
theorem zP(f:Nat→Nat)(n k:Nat):(xS f n k).length=n:=by simp[xS]
theorem zQ(f:Nat→Nat)(n k:Nat):(xS f n k).set k (f k)=xS f n (k+1):=by
 unfold xS
 refine List.ext_getElem (by simp) fun i l t=>?_
 rw[List.getElem_set]
 simp only[List.getElem_map,List.getElem_range]
 by_cases h:k=i
 ·subst h;simp
 ·rw[if_neg h]
  by_cases d:i<k
  ·rw[if_pos d,if_pos (by omega)]
  ·rw[if_neg d,if_neg (by omega)]
theorem vO(f:Nat→Nat)(n:Nat):xS f n n=(List.range n).map f:=by
 unfold xS
 refine List.ext_getElem (by simp) fun i h d=>?_
 simp only[List.getElem_map,List.getElem_range]
 rw[if_pos (by simpa using d)]
theorem Ex(I:Nat)(z:Array Value)(n:Nat)(f:Nat→Nat)(w:World)
  (V:∀D w,(callFunc I D).run Tryz.prog w=.ok (.enter I D) w) (hn:n≤35184372088830)
  (d:∀l k,Below w.heap.size w l→k<n→Calls Tryz.prog I (#[.int .i64 (k:Nat)]++z) l fun e L=>e=.returned (.int .u64 (f k:Nat))∧Below l.heap.size l L):
  Calls Tryz.prog 211 #[.int .i64 n,.func (.func I) #[] z] w fun e l=>∃g,e=.returned (.slice (some ⟨g,0,none⟩) n n)∧w.heap.size≤g∧bI l g ((List.range n).map f)∧Below w.heap.size w l:=by
 have X:=ac d
 have M:=run_make_row' (P:=Tryz.prog) 23 28 (.int .u64 0) 8 Tryz.underlying23 (by kernel_rfl) rfl .i64 .i64 n (by omega) (by omega)
 have Q:=ac (bI.made w n)
 have T:=ac ((Below.refl w.heap.size w).alloc (Nat.le_refl _) (.cells (madeCells #[.int .u64 0] n) 28))
 clear d
 go_enter Tryz.func211,Tryz.ntmps211
 go_wp2_with fail
 clear M
 go_loopw[10] (fun i wr=>∃k:Nat,k≤n∧i=.int .i64 k∧Hid (bI wr w.heap.size (xS f n k))∧Hid (Below w.heap.size w wr)) (fun i _=>n-(intOf i).toNat)
 case atStart=>exact⟨0,Nat.zero_le _,rfl,by rw[Js];exact Q,T⟩
 case round=>
  clear Q T
  obtain⟨k,hk,rfl,J,H⟩:=hrel
  by_cases G:k<n
  ·have Y:(k:Int)<(n:Int):=by omega
   have C:=ac (fun l h=>uH X l k h G)
   obtain⟨o,O⟩:∃o,f k=o:=⟨_,rfl⟩
   rw[O]at C
   have Z:=ac O
   clear O
   go_wp2_with fail
   refine(uH C _ H.out).mono ?_
   rintro e w2 ⟨rfl,F⟩
   have t:=(uH J).below F (uH J).lt
   have c0:=t.cell k (by rw[zP];exact G)
   have f0:=t.free k
   have R3:=ac (t.set k o)
   have U:Below w.heap.size w w2:=H.out.trans (F.mono H.out.size)
   have B3:=ac (U.setCell (p:=⟨w.heap.size,k,none⟩) (Nat.le_refl _) (.int .u64 (o:Int)))
   clear F C J H U t
   go_wp2_with fail
   go_round
   case rel=>exact⟨k+1,by omega,by go_num,by rw[←zQ,uH Z];exact R3,B3⟩
   case measure=>simp[intOf];omega
  ·have N:k=n:=by omega
   subst N
   go_wp2_with fail
   exact bodyPost_ret (v:=.slice (some ⟨w.heap.size,0,none⟩) k k) (by simp[results,Tryz.results211,go_sem]) rfl ⟨_,rfl,Nat.le_refl _,by rw[←vO];exact uH J,H.out⟩
attribute [local go_sem ↓] Go.wp_at_zero Go.wp_at_succ
theorem av{w d:World}{p:Addr}{v:Value}(h:w.cell? p=some v)(l:Below w.heap.size w d):d.cell? p=some v:=by
 rw[l.cell (World.block_lt_of_cell? w _ h)];exact h
theorem Hu(s x y p o k n m c d L t:Nat)(D F G H:Nat)(w:World)(hk:k<n)(hm:k<m)
  (M:w.cell? ⟨L,0,none⟩=some (.slice (some ⟨D,F,none⟩) n c)) (N:w.cell? ⟨t,0,none⟩=some (.slice (some ⟨G,H,none⟩) m d))
  (O:w.cell? ⟨D,F+k,none⟩=some (.int .u64 (x:Nat))) (Q:w.cell? ⟨G,H+k,none⟩=some (.int .u64 (y:Nat)))
  (T:∀l,Below w.heap.size w l→Calls Tryz.prog 169 #[.int .u64 x,.int .u64 y] l fun r z=>r=.returned (.int .u64 (p:Nat))∧Below l.heap.size l z)
  (U:∀l,Below w.heap.size w l→Calls Tryz.prog 229 #[.int .u64 s,.int .u64 p] l fun r z=>r=.returned (.int .u64 (o:Nat))∧Below l.heap.size l z):
  Calls Tryz.prog 228 #[.int .u64 s,.int .i64 k,.pointer (some ⟨L,0,none⟩),.pointer (some ⟨t,0,none⟩)] w fun e l=>e=.returned (.int .u64 (o:Nat))∧Below w.heap.size w l:=by
 have X:=ac T;have Y:=ac U
 have Z:(k:Int)<(n:Int):=by omega
 have aa:(k:Int)<(m:Int):=by omega
 have V:=ac (fun l (h:Below w.heap.size w l)=>(show Below w.heap.size w l∧l.cell? ⟨L,0,none⟩=some (.slice (some ⟨D,F,none⟩) n c)∧l.cell? ⟨t,0,none⟩=some (.slice (some ⟨G,H,none⟩) m d)∧l.cell? ⟨D,F+k,none⟩=some (.int .u64 (x:Nat))∧l.cell? ⟨G,H+k,none⟩=some (.int .u64 (y:Nat))from
  ⟨h,av M h,av N h,av O h,av Q h⟩))
 clear T U M N O Q
 go_enter Tryz.func228,Tryz.ntmps228
 go_wp2_with fail
 go_region_held3(fun l=>Below w.heap.size w l∧l.cell? ⟨L,0,none⟩=some (.slice (some ⟨D,F,none⟩) n c)∧l.cell? ⟨t,0,none⟩=some (.slice (some ⟨G,H,none⟩) m d)∧l.cell? ⟨D,F+k,none⟩=some (.int .u64 (x:Nat))∧l.cell? ⟨G,H+k,none⟩=some (.int .u64 (y:Nat)))
  (first|exact uH V _ (Below.refl _ _).drew|exact uH V _ (by assumption)|fail "KK")
  (first|(go_at_call 169;refine(uH X _ (And.left (by assumption))).mono ?_;rintro e w1 ⟨rfl,I⟩;have ad:Below w.heap.size w w1:=Below.trans (And.left (by assumption)) (I.mono (Below.size (And.left (by assumption))));clear I)|(go_at_call 229;refine(uH Y _ (And.left (by assumption))).mono ?_;rintro e w2 ⟨rfl,J⟩;have ae:Below w.heap.size w w2:=Below.trans (And.left (by assumption)) (J.mono (Below.size (And.left (by assumption))));clear J)|fail "NO ARM")
 go_wp2
 go_ret
 exact⟨rfl,And.left (by assumption)⟩
theorem Ey(x o k n c D bk:Nat)(j:Int)(l t:Nat)(w:World)(T:k<n)(U:-5000≤j∧j≤5000)
  (G:w.cell? ⟨D,0,none⟩=some (.slice (some ⟨l,t,none⟩) n c)) (H:w.cell? ⟨bk,0,none⟩=some (.int .i64 j))
  (I:w.cell? ⟨l,t+k,none⟩=some (.int .u64 (x:Nat)))
  (J:∀d,Below w.heap.size w d→Calls Tryz.prog 46 #[.int .u64 x,.int .i64 (-j)] d fun r F=>r=.returned (.int .u64 (o:Nat))∧Below d.heap.size d F):
  Calls Tryz.prog 212 #[.int .i64 k,.pointer (some ⟨D,0,none⟩),.pointer (some ⟨bk,0,none⟩)] w fun e d=>e=.returned (.int .u64 (o:Nat))∧Below w.heap.size w d:=by
 have M:=ac J
 have N:(k:Int)<(n:Int):=by omega
 have V:IntKind.i64.wrap (-j)= -j:=by simp only[IntKind.wrap_i64];omega
 have L:=ac (fun d (h:Below w.heap.size w d)=>(show Below w.heap.size w d∧d.cell? ⟨D,0,none⟩=some (.slice (some ⟨l,t,none⟩) n c)∧d.cell? ⟨l,t+k,none⟩=some (.int .u64 (x:Nat))∧d.cell? ⟨bk,0,none⟩=some (.int .i64 j)from
  ⟨h,av G h,av I h,av H h⟩))
 clear J G I H
 go_enter Tryz.func212,Tryz.ntmps212
 go_wp2_with fail
 go_region_held3(fun d=>Below w.heap.size w d∧d.cell? ⟨D,0,none⟩=some (.slice (some ⟨l,t,none⟩) n c)∧d.cell? ⟨l,t+k,none⟩=some (.int .u64 (x:Nat))∧d.cell? ⟨bk,0,none⟩=some (.int .i64 j))
  (first|exact uH L _ (Below.refl _ _).drew|exact uH L _ (by assumption)|fail "KK")
  (first|(go_at_call 46;refine(uH M _ (And.left (by assumption))).mono ?_;rintro e Q ⟨rfl,z⟩;have O:Below w.heap.size w Q:=Below.trans (And.left (by assumption)) (z.mono (Below.size (And.left (by assumption))));clear z)|fail "NO ARM")
 go_wp2
 go_ret
 exact⟨rfl,And.left (by assumption)⟩
theorem vP(m x r o k n c D:Nat)(F G:Nat)(w:World)(N:k<n)
  (O:w.cell? ⟨D,0,none⟩=some (.slice (some ⟨F,G,none⟩) n c))
  (Q:w.cell? ⟨F,G+k,none⟩=some (.int .u64 (x:Nat)))
  (H:∀d,Below w.heap.size w d→Calls Tryz.prog 70 #[.int .u64 x] d fun e h=>e=.returned (.int .u64 (r:Nat))∧Below d.heap.size d h)
  (I:∀d,Below w.heap.size w d→Calls Tryz.prog 127 #[.int .u64 m,.int .u64 r] d fun e h=>e=.returned (.int .u64 (o:Nat))∧Below d.heap.size d h):
  Calls Tryz.prog 126 #[.int .u64 m,.int .i64 k,.pointer (some ⟨D,0,none⟩)] w fun e d=>e=.returned (.int .u64 (o:Nat))∧Below w.heap.size w d:=by
 have J:=ac H;have L:=ac I
 have M:(k:Int)<(n:Int):=by omega
 clear H I
 go_enter Tryz.func126,Tryz.ntmps126
 go_wp2_with fail
 refine(uH J _ (Below.refl _ _)).mono ?_
 rintro e T ⟨rfl,l⟩
 have t:=ac l
 clear J l
 go_wp2_with fail
 refine(uH L _ (uH t)).mono ?_
 rintro e U ⟨rfl,z⟩
 clear L
 go_wp2
 go_ret
 exact⟨rfl,(uH t).trans (z.mono (uH t).size)⟩
theorem xT(q r:Bool)(x k n c t:Nat)(z D:Nat)(w:World)(I:k<n)
  (J:w.cell? ⟨t,0,none⟩=some (.slice (some ⟨z,D,none⟩) n c))
  (L:w.cell? ⟨z,D+k,none⟩=some (.int .u64 (x:Nat)))
  (F:∀d,Below w.heap.size w d→Calls Tryz.prog 98 #[.int .u64 x] d fun e h=>e=.returned (.bool r)∧Below d.heap.size d h):
  Calls Tryz.prog 108 #[.bool q,.int .i64 k,.pointer (some ⟨t,0,none⟩)] w fun e d=>e=.returned (.bool (q&&r))∧Below w.heap.size w d:=by
 have G:=ac F
 have H:(k:Int)<(n:Int):=by omega
 clear F
 cases q
 ·go_enter Tryz.func108,Tryz.ntmps108
  go_wp2
  go_ret
  exact⟨rfl,Below.refl _ _⟩
 ·go_enter Tryz.func108,Tryz.ntmps108
  go_wp2_with fail
  refine(uH G _ (Below.refl _ _)).mono ?_
  rintro e M ⟨rfl,l⟩
  clear G
  go_wp2
  go_ret
  exact⟨rfl,l⟩
end Go.Proofs.YtmpkkhackbpflaaGreatDoor
