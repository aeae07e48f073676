/- Part 32 of the texts. -/
import Derived.Test.YtlnphkioddknfaaGreatDoorParty31
set_option maxHeartbeats 4000000
set_option maxRecDepth 20000
namespace Go.Proofs.YtlnphkioddknfaaGreatDoor
open Go.RowKit
attribute [local go_sem ↓] Go.wp_at_zero Go.wp_at_succ
theorem Cy(w:World)(x y z u v:Value)(d:World)(h:Below (w.heap.size+1+1+1+1) ((((w.alloc (.cells #[x,y,z] 24)).alloc (.cells #[u] 3)).alloc (.cells #[v] 3)).alloc (.cells #[.int .i64 0,.int .i64 0,.slice none 0 0] 24)) d):
  Below w.heap.size w d∧aq d w.heap.size x y z∧(d.cell? ⟨w.heap.size+1,0,none⟩=some u∧d.cell? ⟨w.heap.size+1+1,0,none⟩=some v)∧aq d (w.heap.size+1+1+1) (.int .i64 0) (.int .i64 0) (.slice none 0 0):=by
 have L:=ab w (.cells #[x,y,z] 24)
 have M:=aq.new w x y z
 have t:=ad w (.cells #[x,y,z] 24)
 generalize w.alloc (.cells #[x,y,z] 24)=l at*
 have D:=ab l (.cells #[u] 3)
 have N:=cU l u 3
 have F:=ad l (.cells #[u] 3)
 have O:=M.all D
 generalize l.alloc (.cells #[u] 3)=m at*
 have A:=ab m (.cells #[v] 3)
 have Q:=cU m v 3
 have U:=ad m (.cells #[v] 3)
 have V:=O.all A
 have X:=ah N A
 generalize m.alloc (.cells #[v] 3)=wc at*
 have f:=ab wc (.cells #[.int .i64 0,.int .i64 0,.slice none 0 0] 24)
 have G:=aq.new wc (.int .i64 0) (.int .i64 0) (.slice none 0 0)
 have s3:=ad wc (.cells #[.int .i64 0,.int .i64 0,.slice none 0 0] 24)
 have Y:=V.all f
 have H:=ah X f
 have I:=ah Q f
 generalize wc.alloc (.cells #[.int .i64 0,.int .i64 0,.slice none 0 0] 24)=K at*
 rw[U,F,t]at G
 rw[t]at H
 rw[F,t]at I
 have Z:K.heap.size=w.heap.size+1+1+1+1:=by omega
 rw[←Z]at h
 have bb:Below w.heap.size w K:=((L.trans (D.mono (by omega))).trans (A.mono (by omega))).trans (f.mono (by omega))
 exact⟨bb.trans (h.mono (by omega)),Y.all h,⟨ah H h,ah I h⟩,G.all h⟩
theorem Io(r c:Int)(ao:Option Addr)(n cap:Nat)(i k a b:Int)(w:World)(z:n≤35184372088830)(h:i9 r c n=false):
  Calls Tryz.prog 125 #[.agg #[.int .i64 r,.int .i64 c,.slice ao n cap],.int .i64 i,.int .i64 k,.int .i64 a,.int .i64 b] w fun e m=>∃v,e=.returned (.tuple #[v,.int .i64 1])∧aS w.heap.size m 0 0 [] v∧Below w.heap.size w m:=by
 have K:=aa (iT r c ao n cap ((((w.alloc (.cells #[.int .i64 r,.int .i64 c,.slice ao n cap] 24)).alloc (.cells #[.int .i64 i] 3)).alloc (.cells #[.int .i64 k] 3)).alloc (.cells #[.int .i64 0,.int .i64 0,.slice none 0 0] 24)) z)
 rw[h]at K
 simp only[ad]at K
 have t:=aa (Cy w (.int .i64 r) (.int .i64 c) (.slice ao n cap) (.int .i64 i) (.int .i64 k))
 clear h
 go_enter Tryz.func125,Tryz.ntmps125
 go_wp2_with fail
 refine Calls.mono (uH K) ?_
 rintro e I ⟨rfl,f⟩
 obtain⟨y,F,⟨G,H⟩,d⟩:=uH t I f
 clear K t f F G H
 have L:=d.free 0;have M:=d.free 1;have N:=d.free 2
 have O:=d.c0;have Q:=d.c1;have U:=d.c2
 have l:=d.put (.int .i64 0) (.int .i64 0) (.slice none 0 0)
 have A:=l.c0;have z1:=l.c1;have z2:=l.c2
 have D:=aa (ai y (b:=w.heap.size+1+1+1) (by omega) (.int .i64 0) (.int .i64 0) (.slice none 0 0))
 clear l d y
 go_wp2
 exact bodyPost_ret (v:=.tuple #[.agg #[.int .i64 0,.int .i64 0,.slice none 0 0],.int .i64 1]) (by simp[results,Tryz.results125,go_sem,A,z1,z2]) rfl ⟨_,rfl,aS.zero _ _,uH D⟩
theorem Cz(r c:Int)(ao:Option Addr)(n cap:Nat)(i k a b:Int)(x y:Nat)(S:List Nat)(w:World)(hn:n≤35184372088830)(h:i9 r c n=true)(M:∀m,Calls Tryz.prog 177 #[.int .i64 i,.int .i64 a,.int .i64 r] m fun x d=>x=.returned (.bool true)∧m=d)(N:∀m,Calls Tryz.prog 177 #[.int .i64 k,.int .i64 b,.int .i64 c] m fun x d=>x=.returned (.bool true)∧m=d)
  (C:∀f,Below w.heap.size w f→aq f w.heap.size (.int .i64 r) (.int .i64 c) (.slice ao n cap)→f.cell? ⟨w.heap.size+1,0,none⟩=some (.int .i64 i)→f.cell? ⟨w.heap.size+1+1,0,none⟩=some (.int .i64 k)→Calls Tryz.prog 178 #[.int .i64 a,.int .i64 b,.func (.func 179) #[] #[.pointer (some ⟨w.heap.size,0,none⟩),.pointer (some ⟨w.heap.size+1,0,none⟩),.pointer (some ⟨w.heap.size+1+1,0,none⟩)]] f fun e d=>∃v,e=.returned v∧aS f.heap.size d x y S v∧Below f.heap.size f d):
  Calls Tryz.prog 125 #[.agg #[.int .i64 r,.int .i64 c,.slice ao n cap],.int .i64 i,.int .i64 k,.int .i64 a,.int .i64 b] w fun e m=>∃v,e=.returned (.tuple #[v,.int .i64 0])∧aS w.heap.size m x y S v∧Below w.heap.size w m:=by
 have O:=aa M;have U:=aa N
 clear M N
 have K:=aa (iT r c ao n cap ((((w.alloc (.cells #[.int .i64 r,.int .i64 c,.slice ao n cap] 24)).alloc (.cells #[.int .i64 i] 3)).alloc (.cells #[.int .i64 k] 3)).alloc (.cells #[.int .i64 0,.int .i64 0,.slice none 0 0] 24)) hn)
 rw[h]at K
 simp only[ad]at K
 have V:=aa (Cy w (.int .i64 r) (.int .i64 c) (.slice ao n cap) (.int .i64 i) (.int .i64 k))
 have X:=aa (fun f (t:Below w.heap.size w f) (z:aq f w.heap.size (.int .i64 r) (.int .i64 c) (.slice ao n cap)) (I:f.cell? ⟨w.heap.size+1,0,none⟩=some (.int .i64 i)) (L:f.cell? ⟨w.heap.size+1+1,0,none⟩=some (.int .i64 k)) (l:aq f (w.heap.size+1+1+1) (.int .i64 0) (.int .i64 0) (.slice none 0 0))=>(C f t z I L).mono (R':=fun e d=>∃v,e=.returned v∧aS w.heap.size d x y S v∧Below w.heap.size w d∧aq d (w.heap.size+1+1+1) (.int .i64 0) (.int .i64 0) (.slice none 0 0)) (by
  rintro e d ⟨v,rfl,h1,Z⟩
  exact⟨v,rfl,h1.least t.size,t.trans (Z.mono t.size),l.all Z⟩))
 clear h C
 go_enter Tryz.func125,Tryz.ntmps125
 go_wp2_with fail
 refine Calls.mono (uH K) ?_
 rintro e f ⟨rfl,A⟩
 obtain⟨t,z,⟨I,L⟩,l⟩:=uH V f A
 have p0:=z.c0;have p1:=z.c1;have p2:=z.c2
 have Y:=aa (uH X f t z I L l)
 clear K V X A z l t
 go_wp2_with fail
 refine(uH O _).mono ?_
 rintro e w9 ⟨rfl,rfl⟩
 clear O
 go_wp2_with fail
 refine(uH U _).mono ?_
 rintro e w9 ⟨rfl,rfl⟩
 clear U
 go_wp2_with fail
 refine Calls.mono (uH Y) ?_
 clear Y
 rintro e w2 ⟨v,rfl,⟨D,F,rfl,n1,q1⟩,G,l⟩
 have f0:=l.free 0;have f1:=l.free 1;have f2:=l.free 2
 have H:=l.put (.int .i64 x) (.int .i64 y) (.slice D S.length F)
 have z0:=H.c0;have z1:=H.c1;have z2:=H.c2
 have s0:=l.c0;have s1:=l.c1;have s2:=l.c2
 have Q:=aa (q1.putM l (.int .i64 x) (.int .i64 y) (.slice D S.length F))
 have BP:=aa (ai G (b:=w.heap.size+1+1+1) (by omega) (.int .i64 x) (.int .i64 y) (.slice D S.length F))
 clear H q1 G l
 go_wp2
 exact bodyPost_ret (v:=.tuple #[.agg #[.int .i64 x,.int .i64 y,.slice D S.length F],.int .i64 0]) (by simp[results,Tryz.results125,go_sem,z0,z1,z2]) rfl ⟨_,rfl,⟨D,F,rfl,n1,uH Q⟩,uH BP⟩
theorem IQ(r c:Int)(x y:Nat)(S:List Nat)(w:World)(h:zR r c=true)
  (C:∀l,Below w.heap.size w l→Calls Tryz.prog 178 #[.int .i64 r,.int .i64 c,.func (.func 199) #[] #[]] l fun e d=>∃v,e=.returned v∧aS l.heap.size d x y S v∧Below l.heap.size l d):
  Calls Tryz.prog 163 #[.int .i64 r,.int .i64 c] w fun e A=>∃v,e=.returned (.tuple #[v,.int .i64 0])∧aS w.heap.size A x y S v∧Below w.heap.size w A:=by
 have K:=aa (fun A=>gN r c A)
 rw[h]at K
 have F:=aa ((C _ (ab w (.cells #[.int .i64 0,.int .i64 0,.slice none 0 0] 24))).mono (R':=fun e d=>∃v,e=.returned v∧aS w.heap.size d x y S v∧Below w.heap.size w d∧aq d w.heap.size (.int .i64 0) (.int .i64 0) (.slice none 0 0)) (by
  rintro e d ⟨v,rfl,M,G⟩
  have b:=ab w (.cells #[.int .i64 0,.int .i64 0,.slice none 0 0] 24)
  exact⟨v,rfl,M.least b.size,b.trans (G.mono b.size),(aq.new w (.int .i64 0) (.int .i64 0) (.slice none 0 0)).all G⟩))
 clear h C
 go_enter Tryz.func163,Tryz.ntmps163
 go_wp2_with fail
 refine(uH K _).mono ?_
 rintro e l ⟨rfl,rfl⟩
 clear K
 go_wp2_with fail
 refine Calls.mono (uH F) ?_
 clear F
 rintro e w2 ⟨v,rfl,⟨m,t,rfl,N,H⟩,z,f⟩
 have O:=f.free 0;have U:=f.free 1;have V:=f.free 2
 have D:=f.put (.int .i64 x) (.int .i64 y) (.slice m S.length t)
 have I:=D.c0;have z1:=D.c1;have z2:=D.c2
 have X:=f.c0;have Y:=f.c1;have Z:=f.c2
 have Q:=aa (H.putM f (.int .i64 x) (.int .i64 y) (.slice m S.length t))
 have L:=aa (ai z (b:=w.heap.size) (by omega) (.int .i64 x) (.int .i64 y) (.slice m S.length t))
 clear D H z f
 go_wp2
 exact bodyPost_ret (v:=.tuple #[.agg #[.int .i64 x,.int .i64 y,.slice m S.length t],.int .i64 0]) (by simp[results,Tryz.results163,go_sem,I,z1,z2]) rfl ⟨_,rfl,⟨m,t,rfl,N,uH Q⟩,uH L⟩
theorem FK(r:Int)(x y:Nat)(S:List Nat)(w:World)(h:zR r r=true)
  (C:∀l,Below w.heap.size w l→Calls Tryz.prog 178 #[.int .i64 r,.int .i64 r,.func (.func 189) #[] #[]] l fun e d=>∃v,e=.returned v∧aS l.heap.size d x y S v∧Below l.heap.size l d):
  Calls Tryz.prog 149 #[.int .i64 r] w fun e A=>∃v,e=.returned (.tuple #[v,.int .i64 0])∧aS w.heap.size A x y S v∧Below w.heap.size w A:=by
 have K:=aa (fun A=>gN r r A)
 rw[h]at K
 have F:=aa ((C _ (ab w (.cells #[.int .i64 0,.int .i64 0,.slice none 0 0] 24))).mono (R':=fun e d=>∃v,e=.returned v∧aS w.heap.size d x y S v∧Below w.heap.size w d∧aq d w.heap.size (.int .i64 0) (.int .i64 0) (.slice none 0 0)) (by
  rintro e d ⟨v,rfl,M,G⟩
  have b:=ab w (.cells #[.int .i64 0,.int .i64 0,.slice none 0 0] 24)
  exact⟨v,rfl,M.least b.size,b.trans (G.mono b.size),(aq.new w (.int .i64 0) (.int .i64 0) (.slice none 0 0)).all G⟩))
 clear h C
 go_enter Tryz.func149,Tryz.ntmps149
 go_wp2_with fail
 refine(uH K _).mono ?_
 rintro e l ⟨rfl,rfl⟩
 clear K
 go_wp2_with fail
 refine Calls.mono (uH F) ?_
 clear F
 rintro e w2 ⟨v,rfl,⟨m,t,rfl,N,H⟩,z,f⟩
 have O:=f.free 0;have U:=f.free 1;have V:=f.free 2
 have D:=f.put (.int .i64 x) (.int .i64 y) (.slice m S.length t)
 have I:=D.c0;have z1:=D.c1;have z2:=D.c2
 have X:=f.c0;have Y:=f.c1;have Z:=f.c2
 have Q:=aa (H.putM f (.int .i64 x) (.int .i64 y) (.slice m S.length t))
 have L:=aa (ai z (b:=w.heap.size) (by omega) (.int .i64 x) (.int .i64 y) (.slice m S.length t))
 clear D H z f
 go_wp2
 exact bodyPost_ret (v:=.tuple #[.agg #[.int .i64 x,.int .i64 y,.slice m S.length t],.int .i64 0]) (by simp[results,Tryz.results149,go_sem,I,z1,z2]) rfl ⟨_,rfl,⟨m,t,rfl,N,uH Q⟩,uH L⟩
theorem FL(r c n cap p q m d:Nat)(ao O:Option Addr)(x y:Nat)(S T:List Nat)(w:World)(hn:n≤36)(hm:m≤36)(_hr:r≤6)(_hc:c≤6)(_hp:p≤6)(_hq:q≤6)(h:(i9 r c n&&i9 p q m)=true)(he:c=p)
  (C1:∀f,Below w.heap.size w f→Calls Tryz.prog 181 #[.agg #[.int .i64 p,.int .i64 q,.slice O m d]] f fun e l=>∃v,e=.returned v∧aS f.heap.size l q p T v∧Below f.heap.size f l)
  (C:∀f g F G,Below w.heap.size w f→aq f w.heap.size (.int .i64 r) (.int .i64 c) (.slice ao n cap)→aq f g (.int .i64 q) (.int .i64 p) (.slice F T.length G)→ac f F G (ar T)→Calls Tryz.prog 178 #[.int .i64 r,.int .i64 q,.func (.func 182) #[] #[.pointer (some ⟨w.heap.size,0,none⟩),.pointer (some ⟨g,0,none⟩)]] f fun e l=>∃v,e=.returned v∧aS f.heap.size l x y S v∧Below f.heap.size f l):
  Calls Tryz.prog 127 #[.agg #[.int .i64 r,.int .i64 c,.slice ao n cap],.agg #[.int .i64 p,.int .i64 q,.slice O m d]] w fun e w'=>∃v,e=.returned (.tuple #[v,.int .i64 0])∧aS w.heap.size w' x y S v∧Below w.heap.size w w':=by
 have K:=aa (vC r c ao n cap p q O m d (((w.alloc (.cells #[.int .i64 r,.int .i64 c,.slice ao n cap] 24)).alloc (.cells #[.int .i64 p,.int .i64 q,.slice O m d] 24)).alloc (.cells #[.int .i64 0,.int .i64 0,.slice none 0 0] 24)) (by omega) (by omega))
 rw[h]at K
 simp only[ad]at K
 have KB:=aa (qY w (.int .i64 r) (.int .i64 c) (.slice ao n cap) (.int .i64 p) (.int .i64 q) (.slice O m d) (.int .i64 0) (.int .i64 0) (.slice none 0 0))
 have M1:=aa C1
 have KT:=aa (fun f g F G (I:Below w.heap.size w f) (L:aq f w.heap.size (.int .i64 r) (.int .i64 c) (.slice ao n cap)) (hT:aq f g (.int .i64 q) (.int .i64 p) (.slice F T.length G)) (hq:ac f F G (ar T)) (z:aq f (w.heap.size+1+1) (.int .i64 0) (.int .i64 0) (.slice none 0 0))=>(C f g F G I L hT hq).mono (R':=fun e l=>∃v,e=.returned v∧aS w.heap.size l x y S v∧Below w.heap.size w l∧aq l (w.heap.size+1+1) (.int .i64 0) (.int .i64 0) (.slice none 0 0)) (by
  rintro e l ⟨v,rfl,h1,h2⟩
  exact⟨v,rfl,h1.least I.size,I.trans (h2.mono I.size),z.all h2⟩))
 subst he
 clear h C C1
 go_enter Tryz.func127,Tryz.ntmps127
 go_wp2_with fail
 refine Calls.mono (uH K) ?_
 rintro e f ⟨rfl,X⟩
 obtain⟨I,L,D,z⟩:=uH KB f X
 have p0:=L.c0;have p1:=L.c1;have p2:=L.c2
 have q0:=D.c0;have ae:=D.c1;have q2:=D.c2
 have HB:=aa I;have HA:=aa L;have HX:=aa z;have U:=aa D
 clear K KB X L D z I
 go_wp2_with fail
 refine(uH M1 _ (uH HB)).mono ?_
 rintro e w2 ⟨v,rfl,⟨F,G,rfl,n1,Y⟩,t⟩
 have N:=ab w2 (.cells #[.int .i64 q,.int .i64 c,.slice F T.length G] 24)
 have M:=(uH HB).trans (t.mono (uH HB).size)
 have V:=M.trans (N.mono M.size)
 have A:=((uH HA).all t).all N
 have H:=((uH U).all t).all N
 have KC:=aa (uH KT _ w2.heap.size F G V A (aq.new w2 _ _ _) (Y.below N) (((uH HX).all t).all N))
 clear p0 p1 p2 q0 ae q2
 have p0:=A.c0;have p1:=A.c1;have p2:=A.c2
 have q0:=H.c0;have q3:=H.c1;have q2:=H.c2
 clear HB HA HX U t N M V A H Y M1 KT n1
 go_wp2_with fail
 refine Calls.mono (uH KC) ?_
 clear KC
 rintro e w2 ⟨v,rfl,⟨Z,rd,rfl,n1,Y⟩,t,z⟩
 have f0:=z.free 0;have f1:=z.free 1;have f2:=z.free 2
 have XP:=z.put (.int .i64 x) (.int .i64 y) (.slice Z S.length rd)
 have z0:=XP.c0;have z1:=XP.c1;have z2:=XP.c2
 have s0:=z.c0;have s1:=z.c1;have s2:=z.c2
 have Q:=aa (Y.putM z (.int .i64 x) (.int .i64 y) (.slice Z S.length rd))
 have BP:=aa (ai t (b:=w.heap.size+1+1) (by omega) (.int .i64 x) (.int .i64 y) (.slice Z S.length rd))
 clear XP Y t z
 go_wp2
 exact bodyPost_ret (v:=.tuple #[.agg #[.int .i64 x,.int .i64 y,.slice Z S.length rd],.int .i64 0]) (by simp[results,Tryz.results127,go_sem,z0,z1,z2]) rfl ⟨_,rfl,⟨Z,rd,rfl,n1,uH Q⟩,uH BP⟩
end Go.Proofs.YtlnphkioddknfaaGreatDoor
namespace Go.Proofs.YtlnphkioddknfaaGreatDoor
open Go.RowKit
theorem CE(r c cap:Nat)(ao:Option Addr)(S:List Nat)(w:World)(h:Mx w ao cap r c S):
  Calls Tryz.prog 126 #[.agg #[.int .i64 r,.int .i64 c,.slice ao S.length cap]] w fun e d=>∃v,e=.returned (.tuple #[v,.int .i64 0])∧aS w.heap.size d c r (mH r c S) v∧Below w.heap.size w d:=
 Cv r c ao S.length cap c r (mH r c S) w (by have:=h.small;omega) (kT h) (fun f l=>oj r c cap ao S f (h.below l))
theorem FN(d:Array Value)(w:World):(callFunc 179 d).run Tryz.prog w=.ok (.enter 179 d) w:=by
 simp only[callFunc,go_sem]
 rfl
theorem Ip(d:Array Value)(w:World):(callFunc 182 d).run Tryz.prog w=.ok (.enter 182 d) w:=by
 simp only[callFunc,go_sem]
 rfl
theorem CH(d:Array Value)(w:World):(callFunc 199 d).run Tryz.prog w=.ok (.enter 199 d) w:=by
 simp only[callFunc,go_sem]
 rfl
theorem Iq(d:Array Value)(w:World):(callFunc 189 d).run Tryz.prog w=.ok (.enter 189 d) w:=by
 simp only[callFunc,go_sem]
 rfl
theorem jq(r c cap i k a b:Nat)(ao:Option Addr)(S:List Nat)(w:World)(h:Mx w ao cap r c S)(F:i+a≤r)(G:k+b≤c):
  Calls Tryz.prog 125 #[.agg #[.int .i64 r,.int .i64 c,.slice ao S.length cap],.int .i64 i,.int .i64 k,.int .i64 a,.int .i64 b] w fun e d=>∃v,e=.returned (.tuple #[v,.int .i64 0])∧aS w.heap.size d a b (qX c S i k a b) v∧Below w.heap.size w d:=by
 have H:=h.2.2.1
 have I:=h.2.2.2
 refine Cz r c ao S.length cap i k a b a b (qX c S i k a b) w (by have:=h.small;omega) (kT h) (fun d=>?_) (fun d=>?_) ?_
 ·have:=tC i a r d (by omega) (by omega)
  rwa[decide_eq_true (by omega)]at this
 ·have:=tC k b c d (by omega) (by omega)
  rwa[decide_eq_true (by omega)]at this
 ·intro t m z A D
  refine jK 179 _ a b _ t FN (by omega) (by omega) (fun x y _ _=>h.el_lt _ _) ?_
  intro d x y f K L
  have l:Below w.heap.size w d:=m.trans (f.mono m.size)
  refine Cx r c S.length cap x y i k _ w.heap.size (w.heap.size+1) (w.heap.size+1+1) ao d (by omega) (by omega) (z.all f) (ah A f) (ah D f) ?_
  rw[show(i:Int)+(x:Int)=((i+x:Nat):Int) by simp,show(k:Int)+(y:Int)=((k+y:Nat):Int) by simp]
  exact xk r c cap (i+x) (k+y) ao S d (h.below l) (by omega) (by omega)
theorem FO(n:Nat)(w:World)(f:n≤6):
  Calls Tryz.prog 149 #[.int .i64 n] w fun e d=>∃v,e=.returned (.tuple #[v,.int .i64 0])∧aS w.heap.size d n n (Ct n) v∧Below w.heap.size w d:=
 FK n n n _ w (decide_eq_true (by omega)) (fun h _=>jK 189 #[] n n _ h Iq f f (fun i k _ _=>by split<;>decide) (fun d i k _ _ _=>Cw i k d))
theorem Ir(r c:Nat)(S:List Nat):(mH r c S).length=c*r:=bg _ _ _
theorem FP(n q k:Nat)(S T:List Nat)(i:Nat)(f:k<q):iZ (ar (p5 n S i)) (ar (p5 n (mH n q T) k)) n=zQ n (fun j=>bB n S i j) (fun j=>bB q T j k):=by
 rw[xi]
 refine pY n (fun j d=>?_) (fun j d=>?_)
 ·rw[di,vB n S i j d]
 ·rw[di,vB n _ k j d]
  exact Cs q n (fun k i=>bB q T i k) f d
theorem FQ(r c cap q d:Nat)(ao A:Option Addr)(S T:List Nat)(w:World)(h:Mx w ao cap r c S)(m:Mx w A d c q T)(O:b7 w):
  Calls Tryz.prog 127 #[.agg #[.int .i64 r,.int .i64 c,.slice ao S.length cap],.agg #[.int .i64 c,.int .i64 q,.slice A T.length d]] w fun e y=>∃v,e=.returned (.tuple #[v,.int .i64 0])∧aS w.heap.size y r q (FH r c q S T) v∧Below w.heap.size w y:=by
 refine FL r c S.length cap c q T.length d ao A r q (FH r c q S T) (mH c q T) w h.small m.small h.2.2.1 h.2.2.2 m.2.2.1 m.2.2.2 (by rw[kT h,kT m];rfl) rfl (fun F t=>oj c q d A T F (m.below t)) ?_
 intro F g G H M U V X
 have Q:Mx F G H q c (mH c q T):=⟨X,Ir _ _ _,m.2.2.2,h.2.2.2⟩
 refine jK 182 _ r q _ F Ip h.2.2.1 m.2.2.2 (fun i k _ _=>Ij _ _ _) ?_
 intro y i k t Y N
 have z:Below w.heap.size w y:=M.trans (t.mono M.size)
 refine FJ r c S.length cap q c (mH c q T).length H i k _ w.heap.size g ao G (ar (p5 c S i)) (ar (p5 c (mH c q T) k)) y (U.all t) (V.all t) (fun l f=>xl r c cap i ao S l ((h.below z).below f) Y) (fun l f=>xl q c H k G (mH c q T) l ((Q.below t).below f) N) ?_
 intro l Z sd ro rd f hu hv
 have I:(ar (p5 c S i)).length=c:=by rw[al,iS]
 have K:(ar (p5 c (mH c q T) k)).length=c:=by rw[al,iS]
 have c6:=h.2.2.2
 have L:Ig (ar (p5 c S i)) (ar (p5 c (mH c q T) k))=true:=decide_eq_true (by rw[I,K];omega)
 have D:=s9 Z ro sd rd _ _ l hu hv ((O.all z).all f)
 rw[if_pos L,if_pos L,I,K,FP c q k S T i N]at D
 exact D
attribute [local go_sem ↓] Go.wp_at_zero Go.wp_at_succ
theorem vG(r c:Int)(ao:Option Addr)(n cap:Nat)(w:World):
  Calls Tryz.prog 64 #[.agg #[.int .i64 r,.int .i64 c,.slice ao n cap]] w fun e t=>e=.returned (.bool (i9 r c n))∧Below w.heap.size w t:=by
 have d:=aa (ab w (.cells #[.int .i64 r,.int .i64 c,.slice ao n cap] 24))
 rcases(show(r<0∧i9 r c n=false)∨(0≤r∧6<r∧i9 r c n=false)∨(0≤r∧r≤6∧c<0∧i9 r c n=false)∨(0≤r∧r≤6∧0≤c∧6<c∧i9 r c n=false)∨(0≤r∧r≤6∧0≤c∧c≤6) by
  unfold i9
  by_cases h:0≤r∧r≤6∧0≤c∧c≤6
  ·omega
  ·rw[decide_eq_false (fun g=>h g.1)];simp;omega)with⟨h1,e⟩|⟨h1,h2,e⟩|⟨h1,h2,h3,e⟩|⟨h1,h2,h3,h4,e⟩|⟨h1,h2,h3,h4⟩
 ·rw[e]
  clear e
  go_enter Tryz.func64,Tryz.ntmps64
  go_wp2
  go_ret
  exact⟨rfl,uH d⟩
 ·rw[e]
  clear e
  go_enter Tryz.func64,Tryz.ntmps64
  go_wp2
  go_ret
  exact⟨rfl,uH d⟩
 ·rw[e]
  clear e
  go_enter Tryz.func64,Tryz.ntmps64
  go_wp2
  go_ret
  exact⟨rfl,uH d⟩
 ·rw[e]
  clear e
  go_enter Tryz.func64,Tryz.ntmps64
  go_wp2
  go_ret
  exact⟨rfl,uH d⟩
 ·have f:∃m:Nat,r*c=(m:Int)∧m≤36:=by
   obtain⟨a,rfl⟩:=Int.eq_ofNat_of_zero_le h1
   obtain⟨b,rfl⟩:=Int.eq_ofNat_of_zero_le h3
   refine⟨a*b,by simp,?_⟩
   have:a*b≤6*6:=Nat.mul_le_mul (by omega) (by omega)
   omega
  obtain⟨m,f,y⟩:=f
  have l:i9 r c n=decide ((n:Int)=(m:Int)):=decide_eq_decide.2 (by rw[f];exact⟨fun h=>h.2,fun h=>⟨⟨h1,h2,h3,h4⟩,h⟩⟩)
  rw[l]
  clear l
  go_enter Tryz.func64,Tryz.ntmps64
  go_wp2
  go_ret
  refine⟨?_,uH d⟩
  first|rfl|simp
theorem Is(r c n cap b d i k q x:Nat)(w:World)(y:(i:Int)*(c:Int)=(q:Int))(l:q+k<n)(z:n≤36)
  (h:w.cell? ⟨b,d+(q+k),none⟩=some (.int .u64 (x:Nat))):
  Calls Tryz.prog 42 #[.agg #[.int .i64 r,.int .i64 c,.slice (some ⟨b,d,none⟩) n cap],.int .i64 i,.int .i64 k] w fun e m=>e=.returned (.int .u64 (x:Nat))∧Below w.heap.size w m:=by
 have f:=aa (ab w (.cells #[.int .i64 r,.int .i64 c,.slice (some ⟨b,d,none⟩) n cap] 24))
 have A:=ah h (uH f)
 clear h
 have t:(q:Int)+(k:Int)<(n:Int):=by omega
 go_enter Tryz.func42,Tryz.ntmps42
 go_wp2
 go_ret
 exact⟨rfl,uH f⟩
theorem fW(r c cap i k:Nat)(ao:Option Addr)(S:List Nat)(w:World)(h:Mx w ao cap r c S)(f:i<r)(l:k<c):
  Calls Tryz.prog 42 #[.agg #[.int .i64 r,.int .i64 c,.slice ao S.length cap],.int .i64 i,.int .i64 k] w fun e m=>e=.returned (.int .u64 (bB c S i k:Nat))∧Below w.heap.size w m:=by
 obtain⟨b,d,rfl,z,t,y⟩:=h.cells f l
 exact Is r c S.length cap b d i k (i*c) _ w (bd i c) y h.small t
theorem FR(r c n cap i q p:Nat)(ao:Option Addr)(w:World)(y:(i:Int)*(c:Int)=(q:Int))(z:((i:Int)+1)*(c:Int)=(p:Int))(f:q≤p)(l:p≤n)(m:n≤cap)(A:n≤36)(D:i≤6):
  Calls Tryz.prog 79 #[.agg #[.int .i64 r,.int .i64 c,.slice ao n cap],.int .i64 i] w fun e t=>e=.returned (.slice (if cap=q then ao else ao.map (·.add (q*1))) (p-q) (cap-q))∧Below w.heap.size w t:=by
 have d:=aa (ab w (.cells #[.int .i64 r,.int .i64 c,.slice ao n cap] 24))
 by_cases h:cap=q
 ·subst h
  rw[if_pos rfl]
  go_enter Tryz.func79,Tryz.ntmps79
  go_wp2
  go_ret
  exact⟨by simp,uH d⟩
 ·rw[if_neg h]
  go_enter Tryz.func79,Tryz.ntmps79
  go_wp2
  go_ret
  exact⟨by simp,uH d⟩
theorem CJ(r c cap i:Nat)(ao:Option Addr)(S:List Nat)(w:World)(h:Mx w ao cap r c S)(l:i<r):
  Calls Tryz.prog 79 #[.agg #[.int .i64 r,.int .i64 c,.slice ao S.length cap],.int .i64 i] w fun e f=>∃m d,e=.returned (.slice m c d)∧ac f m d (ar (p5 c S i))∧Below w.heap.size w f:=by
 have z:(i+1)*c≤S.length:=by rw[h.2.1];exact Nat.mul_le_mul_right c l
 have A:i*c≤(i+1)*c:=Nat.mul_le_mul_right c (by omega)
 have t:=h.1.1
 rw[al]at t
 have D:=h.2.2.1
 refine(FR r c S.length cap i (i*c) ((i+1)*c) ao w (bd i c) (by simp) A z t h.small (by omega)).mono ?_
 rintro e f ⟨rfl,y⟩
 rw[show(i+1)*c-i*c=c by rw[Nat.add_mul,Nat.one_mul];omega]
 exact⟨_,_,rfl,tu h y l,y⟩
theorem gA(r c:Nat)(w:World)(z:r≤6)(A:c≤6):
  Calls Tryz.prog 27 #[.int .i64 r,.int .i64 c] w fun e l=>∃v,e=.returned v∧aS w.heap.size l r c (List.replicate (r*c) 0) v∧Below w.heap.size w l:=by
 have I:(r:Int)*(c:Int)=((r*c:Nat):Int):=bd r c
 have F:r*c≤36:=Nat.mul_le_mul z A
 have G:=run_make_row' (P:=Tryz.prog) 22 37 (.int .u64 0) 8 Tryz.underlying22 (by kernel_rfl) rfl .i64 .i64 (r*c) (by omega) (by omega)
 generalize h:r*c=n at*
 clear h
 have d:=ab w (.cells #[.int .i64 r,.int .i64 c,.slice (some ⟨w.heap.size+1,0,none⟩) n n] 24)
 have m:=ad w (.cells #[.int .i64 r,.int .i64 c,.slice (some ⟨w.heap.size+1,0,none⟩) n n] 24)
 have t:=ab (w.alloc (.cells #[.int .i64 r,.int .i64 c,.slice (some ⟨w.heap.size+1,0,none⟩) n n] 24)) (.cells (madeCells #[.int .u64 0] n) 37)
 have y:=aY.made (w.alloc (.cells #[.int .i64 r,.int .i64 c,.slice (some ⟨w.heap.size+1,0,none⟩) n n] 24)) n
 have H:=aa (d.trans (t.mono d.size))
 have f:=y.bits (fun x D=>by rw[(List.mem_replicate.1 D).2];decide)
 rw[m,List.length_replicate]at f
 have Q:=aa f
 clear d t y f m
 go_enter Tryz.func27,Tryz.ntmps27
 go_wp2
 exact bodyPost_ret (v:=.agg #[.int .i64 r,.int .i64 c,.slice (some ⟨w.heap.size+1,0,none⟩) n n]) (by simp[results,Tryz.results27,go_sem]) rfl ⟨_,rfl,⟨some ⟨w.heap.size+1,0,none⟩,n,by rw[List.length_replicate],.inr ⟨_,_,rfl,by omega⟩,uH Q⟩,uH H⟩
theorem bD.at{d:Nat}{w:World}{ao:Option Addr}{n cap:Nat}{S:List Nat}(h:bD d w (.slice ao n cap) S){j:Nat}(m:j<S.length):
  ∃g,ao=some ⟨g,0,none⟩∧d≤g∧g<w.heap.size∧w.cell? ⟨g,j,none⟩=some (.int .u64 (S.getD j 0:Nat))∧w.frozen? ⟨g,j,none⟩=false∧
   ∀x,x<18446744073709551616→bD d (w.setCell ⟨g,j,none⟩ (.int .u64 (x:Nat))) (.slice ao n cap) (S.set j x):=by
 obtain⟨⟨N,G⟩,H⟩:=h
 rcases G with⟨_,O⟩|⟨g,t,l,z,A,f,K,L,M,D⟩
 ·omega
 ·simp only[Value.slice.injEq]at z
  obtain⟨rfl,rfl,rfl⟩:=z
  have q:(S.map ip)[j]? =some (.int .u64 ((S[j]:Nat):Int)):=by
   rw[List.getElem?_map,List.getElem?_eq_getElem m];rfl
  rw[←D,List.getElem?_take,if_pos (by omega)]at q
  refine⟨g,rfl,A,(Array.getElem?_eq_some_iff.1 f).1,?_,frozen_of_row w g j _ _ f,fun x F=>⟨⟨by simp,.inr ⟨g,cap,l.setIfInBounds j (.int .u64 (x:Nat)),?_,A,heap_setCell_same w g j _ _ _ f,by simpa using K,L,by simpa using M,?_⟩⟩,?_⟩⟩
  ·rw[cell_of_row w g j _ _ _ f]
   have e:S.getD j 0=S[j]:=by rw[List.getD_eq_getElem?_getD,List.getElem?_eq_getElem m];rfl
   rw[e]
   simpa using q
  ·simp
  ·rw[Array.toList_setIfInBounds,List.take_set,List.length_set,D,List.map_set]
   rfl
  ·intro y I
   rcases List.mem_or_eq_of_mem_set I with e|e
   ·exact H y e
   ·rw[e];exact F
theorem CU(r c n cap i k q x g:Nat)(ao:Option Addr)(G:Option Addr)(h:Nat)(S:List Nat)(w D:World)(H:S.length=n)(hq:(i:Int)*(c:Int)=(q:Int))(Z:q+k<n)(hn:n≤36)(hx:x<18446744073709551616)
  (l:(Builtin.append_ #[22,22] 22 #[.slice (some ⟨w.heap.size+1+1,0,none⟩) 0 0,.slice ao n cap]).run Tryz.prog (((w.alloc (.cells #[.int .i64 r,.int .i64 c,.slice ao n cap] 24)).alloc (.cells #[.int .i64 0,.int .i64 0,.slice none 0 0] 24)).alloc (.cells #[] 37))=.ok (.slice G n h) D)
  (M:bD (w.heap.size+1+1) D (.slice G n h) S) (N:Below (w.heap.size+1+1) ((w.alloc (.cells #[.int .i64 r,.int .i64 c,.slice ao n cap] 24)).alloc (.cells #[.int .i64 0,.int .i64 0,.slice none 0 0] 24)) D) (O:G=some ⟨g,0,none⟩):
  Calls Tryz.prog 51 #[.agg #[.int .i64 r,.int .i64 c,.slice ao n cap],.int .i64 i,.int .i64 k,.int .u64 x] w fun e U=>∃v,e=.returned v∧aS w.heap.size U r c (S.set (q+k) x) v∧Below w.heap.size w U:=by
 have m:=aa l
 obtain⟨y,z,V⟩:=dE w _ _ _ _ _ _ D N
 obtain⟨g',K,hg,X,cx,fx,A⟩:=M.at (j:=q+k) (by omega)
 rw[O]at K
 simp only[Option.some.injEq,Addr.mk.injEq]at K
 obtain⟨rfl,_⟩:=K
 subst O
 have I:=A x hx
 have f:=z.other (p:=⟨g,q+k,none⟩) (by show w.heap.size≠g;omega) (.int .u64 (x:Nat))
 have d:=V.other (p:=⟨g,q+k,none⟩) (by show w.heap.size+1≠g;omega) (.int .u64 (x:Nat))
 have t:=y.setCell (p:=⟨g,q+k,none⟩) (by show w.heap.size≤g;omega) (.int .u64 (x:Nat))
 have c0:=z.c0;have c1:=z.c1;have c2:=z.c2
 have y0:=f.c0;have y1:=f.c1;have y2:=f.c2
 have u0:=d.c0;have u1:=d.c1;have u2:=d.c2
 have f0:=d.free 0;have f1:=d.free 1;have f2:=d.free 2
 have F:=d.put (.int .i64 r) (.int .i64 c) (.slice (some ⟨g,0,none⟩) n h)
 have z0:=F.c0;have z1:=F.c1;have z2:=F.c2
 obtain⟨aj,d',L,Y⟩:=I.bits
 have HN:=aa (I.newB.least (H':=w.heap.size) (by omega))
 rw[List.length_set,H]at L
 simp only[Value.slice.injEq]at L
 obtain⟨rfl,_,rfl⟩:=L
 have Q:=aa (ac.putM Y d (.int .i64 r) (.int .i64 c) (.slice (some ⟨g,0,none⟩) n h))
 have BP:=aa (ai t (b:=w.heap.size+1) (by omega) (.int .i64 r) (.int .i64 c) (.slice (some ⟨g,0,none⟩) n h))
 have ae:(q:Int)+(k:Int)<(n:Int):=by omega
 have HL:=aa H
 generalize S.getD (q+k) 0=ak at*
 clear l M N y z V f d t F I Y A H hg
 go_enter Tryz.func51,Tryz.ntmps51
 go_wp2_with(at_builtin;refine aT _ rfl _ _ 22 rfl _ _ _ _ rfl rfl (uH m) ?_;clear m)
 exact bodyPost_ret (v:=.agg #[.int .i64 r,.int .i64 c,.slice (some ⟨g,0,none⟩) n h]) (by simp[results,Tryz.results51,go_sem,z0,z1,z2]) rfl ⟨_,rfl,⟨some ⟨g,0,none⟩,h,by rw[List.length_set,uH HL],uH HN,uH Q⟩,uH BP⟩
theorem ol{P:Program}(w:World){m:Array Oper}{o:Oper}{a:Act}{K:Act→World→Prop}{Q:Exit→Act→World→Prop}{E:Prop}(z:o.guard=none)(s x:Operand)(t:TypeId)
  (G:o.op=.call {callee:=.builtin .append,args:=#[s,x],argTypes:=#[t,t]}) (A D:Value) (n:Nat) (F:Option Addr→Nat→World→Prop) (H:a.eval s=A) (I:a.eval x=D)
  (L:∃d f l,(Builtin.append_ #[t,t] o.type #[A,D]).run P w=.ok (.slice d n f) l∧F d f l) (h:∀d f l,F d f l→K (a.put o.dst (.slice d n f)) l):
  if Region.wanted o (yielded m a.tmps)=true then Oper.wp P o a w K Q else E:=by
 have M:Region.wanted o (yielded m a.tmps)=true:=by simp[Region.wanted,z]
 rw[if_pos M]
 obtain⟨d,f,l,y,hF⟩:=L
 unfold Oper.wp execOp
 simp only[G,resolve,invoke,builtin,Sem.run_bind,Sem.run_pure,Result.andThen_ok,List.map_toArray,List.map_cons,List.map_nil,H,I,y]
 exact h d f l hF
theorem ef(r c cap i k x:Nat)(ao:Option Addr)(S:List Nat)(w:World)(h:Mx w ao cap r c S)(I:i<r)(K:k<c)(L:x<18446744073709551616):
  Calls Tryz.prog 51 #[.agg #[.int .i64 r,.int .i64 c,.slice ao S.length cap],.int .i64 i,.int .i64 k,.int .u64 x] w fun e D=>∃v,e=.returned v∧aS w.heap.size D r c (S.set (i*c+k) x) v∧Below w.heap.size w D:=by
 have F:i*c+k<S.length:=by rw[h.2.1];exact cV I K
 have z:=h.small
 have G:=ab w (.cells #[.int .i64 r,.int .i64 c,.slice ao S.length cap] 24)
 have m:=ad w (.cells #[.int .i64 r,.int .i64 c,.slice ao S.length cap] 24)
 have M:=ab (w.alloc (.cells #[.int .i64 r,.int .i64 c,.slice ao S.length cap] 24)) (.cells #[.int .i64 0,.int .i64 0,.slice none 0 0] 24)
 have t:=ad (w.alloc (.cells #[.int .i64 r,.int .i64 c,.slice ao S.length cap] 24)) (.cells #[.int .i64 0,.int .i64 0,.slice none 0 0] 24)
 have N:=G.trans (M.mono G.size)
 have H:=ab ((w.alloc (.cells #[.int .i64 r,.int .i64 c,.slice ao S.length cap] 24)).alloc (.cells #[.int .i64 0,.int .i64 0,.slice none 0 0] 24)) (.cells #[] 37)
 have O:=bD.nil ((w.alloc (.cells #[.int .i64 r,.int .i64 c,.slice ao S.length cap] 24)).alloc (.cells #[.int .i64 0,.int .i64 0,.slice none 0 0] 24)) (w.heap.size+1+1) (by rw[t,m];omega)
 have d:=(h.1.below N).below H
 obtain⟨Q,U,V,f,l,X⟩:=p4 _ (w.heap.size+1+1) 22 ao cap (ar S) _ d (by rw[al];omega) O.1 (by simp)
 rw[Cu,al]at*
 have A:=(H.mono (Nat.le_of_eq (by rw[t,m]))).grown X (by simp) (fun g y=>by cases y;rw[t,m];exact Nat.le_refl _)
 rw[t,m]at f
 obtain⟨g,y,_⟩:=l.at F
 exact CU r c S.length cap i k (i*c) x g ao Q U S w V rfl (bd i c) F z L f l A y
theorem yZ(r c:Int)(ao f:Option Addr)(cap d:Nat)(S:List Nat)(w:World)(h:ac w ao cap (ar S))(y:ac w f d (ar S))(F:S.length≤1000000):
  Calls Tryz.prog 23 #[.agg #[.int .i64 r,.int .i64 c,.slice ao S.length cap],.agg #[.int .i64 r,.int .i64 c,.slice f S.length d]] w fun e D=>e=.returned (.bool true)∧Below w.heap.size w D:=by
 have m:=ab w (.cells #[.int .i64 r,.int .i64 c,.slice ao S.length cap] 24)
 have z:=ab (w.alloc (.cells #[.int .i64 r,.int .i64 c,.slice ao S.length cap] 24)) (.cells #[.int .i64 r,.int .i64 c,.slice f S.length d] 24)
 have l:=m.trans (z.mono m.size)
 have K:=aa (tr ao f cap d (ar S) _ (h.below l) (y.below l) (by rw[al];omega))
 rw[al]at K
 have A:=aa l
 clear m z l h y
 generalize S.length=n at*
 go_enter Tryz.func23,Tryz.ntmps23
 go_wp2_with fail
 refine Calls.mono (uH K) ?_
 rintro e G ⟨rfl,t⟩
 clear K
 go_wp2
 go_ret
 exact⟨rfl,(uH A).trans (t.mono (uH A).size)⟩
end Go.Proofs.YtlnphkioddknfaaGreatDoor
