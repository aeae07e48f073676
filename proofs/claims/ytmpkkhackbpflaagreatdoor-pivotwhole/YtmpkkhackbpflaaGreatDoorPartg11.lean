/- Part 11 of the texts. -/
import Derived.Test.YtmpkkhackbpflaaGreatDoorPartg10
import Derived.DeepKeys4
import Derived.Lib.TrailingZeros
namespace Go.Proofs.YtmpkkhackbpflaaGreatDoor
open Go.RowKit
attribute [local go_sem ↓] Go.wp_at_zero Go.wp_at_succ
theorem Aw{M:List Rw}(h:Cu M=0):nc M=true∧(M.all (fun r=>r.R.all nh))=true∧(M.all (fun r=>r.R.all no))=true:=by
 unfold Cu at h
 cases h1:nc M
 ·simp[h1]at h
 ·cases h2:M.all (fun r=>r.R.all nh)
  ·simp[h1,h2]at h
  ·cases h3:M.all (fun r=>r.R.all no)
   ·simp[h1,h2,h3]at h
   ·exact⟨rfl,rfl,rfl⟩
theorem F8{M:List Rw}{w:World}{G:Option Addr}{D:Nat}(H:gV w G D M)(h:Cu M=0):Jd M (iA M):=by
 obtain⟨z,N,O⟩:=Aw h
 unfold nc at z
 simp only[Bool.and_eq_true,decide_eq_true_eq,List.all_eq_true]at z
 have l:∀i,i<M.length→(aY M i).R.length=iA M:=fun i t=>z.2 _ (iP t)
 refine⟨z.1.1,z.1.2,l,fun i j t I=>?_⟩
 have d:bT (aY M i).R j∈(aY M i).R:=ic (by rw[l i t];exact I)
 have J:=List.all_eq_true.1 (List.all_eq_true.1 N _ (iP t)) _ d
 have F:=List.all_eq_true.1 (List.all_eq_true.1 O _ (iP t)) _ d
 refine⟨J,?_⟩
 have L:=(H.nums t).2.1 _ d
 unfold l6 lM
 rw[bh]
 refine Nat.le_of_lt (Nat.lt_of_lt_of_le (eW _ L.2.1) ?_)
 unfold Ny
 exact Nat.pow_le_pow_right (by decide) (show _≤NH by unfold no at F;exact of_decide_eq_true F)
end Go.Proofs.YtmpkkhackbpflaaGreatDoor
namespace Go.Proofs.YtmpkkhackbpflaaGreatDoor
theorem l8(r s:Nat→Int)(rs:List (Nat→Int)):∀(d:List (Nat→Int)) (t:List Nat),(∀c∈t,r c=s c)→bg (d++r::rs) t=bg (d++s::rs) t
 | [],t,h=>oG r s t _ h
 |p::d,t,h=>by
  show cG p t (bg (d++r::rs))=cG p t (bg (d++s::rs))
  exact gn p t _ _ (fun l z _=>l8 r s rs d l (fun c D=>h c (z.subset D)))
theorem rC(a:Nat→Nat→Int)(d:List (Nat→Int))(C:List Nat):∀(P:List Nat) (G:List Nat→Int),(∀i∈P,bg (d++[a i]) C=0)→bg (d++[fun c=>cG (fun i=>a i c) P G]) C=0
 | [],G,_=>jM _ [] C (fun _ _=>rfl) d
 |i::P,G,h=>by
  have e:bg (d++[fun c=>cG (fun i=>a i c) (i::P) G]) C=bg (d++[fun c=>G P*a i c+(-1)*cG (fun i=>a i c) P (fun l=>G (i::l))]) C:=by
   refine l8 _ _ [] d C (fun c _=>?_)
   show a i c*G P-cG (fun i=>a i c) P (fun l=>G (i::l))=_
   rw[Int.mul_comm (a i c)];omega
  rw[e,fw,h i (by simp),rC a d C P (fun l=>G (i::l)) (fun j t=>h j (by simp[t]))]
  simp
theorem Da{k n:Nat}{a:Nat→Nat→Int}(P Q:List Nat)(X:∀i∈P,i<k)(O:P.length=Q.length)(Y:bg (P.map a) Q≠0)(Z:∀c,c<n→bg ((P++[k]).map a) (c::Q)=0)(T:kE (P.length+1) a k n):kE (P.length+1) a (k+1) n:=by
 intro I C J L M V
 rcases List.eq_nil_or_concat I with rfl|⟨t,x,rfl⟩
 ·simp at M
 ·rw[List.concat_eq_append]at*
  have G:∀i∈t,i<x:=fun i z=>(List.pairwise_append.1 J.1).2.2 i z x (by simp)
  have hx:x<k+1:=J.2 x (by simp)
  have U:∀i∈t,i<k:=fun i z=>by have:=G i z;omega
  by_cases aa:x<k
  ·exact T _ C ⟨J.1,fun i z=>by
    rcases List.mem_append.1 z with h|h
    ·exact U i h
    ·simp at h;omega⟩ L M V
  ·obtain rfl:x=k:=by omega
   unfold fz
   rw[List.map_append,List.map_cons,List.map_nil]
   --the row,times the minor,is a sum of rows
   have H:∀c,c<n→bg (P.map a) Q*a x c= -((-1)^P.length)*cG (fun i=>a i c) P (fun l=>bg (Q.map (fun j=>fun i=>a i j)) (l++[x])):=by
    intro c F
    have D:bg ((P++[x]).map a) (c::Q)=bg ((c::Q).map (fun j=>fun i=>a i j)) (P++[x]):=eC a (P.length+1) (P++[x]) (c::Q) (by simp) (by simp[O])
    have e2:bg (P.map a) Q=bg (Q.map (fun j=>fun i=>a i j)) P:=eC a P.length P Q rfl O.symm
    rw[Z c F,List.map_cons,ru,pe,←e2]at D
    generalize cG (fun i=>a i c) P (fun l=>bg (Q.map (fun j=>fun i=>a i j)) (l++[x]))=u at D⊢
    generalize bg (P.map a) Q=d at D⊢
    generalize a x c=y at D⊢
    rcases CX P.length with⟨N,_⟩|⟨N,_⟩
    ·rw[N]at D⊢;rw[Int.mul_comm d y];omega
    ·rw[N]at D⊢;rw[Int.mul_comm d y];omega
   have hz:bg (t.map a++[fun c=>cG (fun i=>a i c) P (fun l=>bg (Q.map (fun j=>fun i=>a i j)) (l++[x]))]) C=0:=by
    refine rC a (t.map a) C P _ (fun i z=>?_)
    have:=T.all (t++[i]) C (fun q hq=>by
     rcases List.mem_append.1 hq with h|h
     ·exact U q h
     ·simp at h;subst h;exact X _ z) L (by simpa using M) V
    unfold fz at this
    simpa using this
   have hs:bg (P.map a) Q*bg (t.map a++[a x]) C=0:=by
    have e3:bg (t.map a++[fun c=>bg (P.map a) Q*a x c+0*a x c]) C=bg (P.map a) Q*bg (t.map a++[a x]) C:=by
     rw[fw];simp
    have e4:bg (t.map a++[fun c=>bg (P.map a) Q*a x c+0*a x c]) C=bg (t.map a++[fun c=>(-((-1)^P.length))*cG (fun i=>a i c) P (fun l=>bg (Q.map (fun j=>fun i=>a i j)) (l++[x]))+0*a x c]) C:=by
     refine l8 _ _ [] _ C (fun c F=>?_)
     rw[H c (L.2 c F)]
    rw[←e3,e4,fw,hz];simp
   exact(Int.mul_eq_zero.1 hs).resolve_left Y
def aU(b:Nat→Int):Nat→(Nat→Int)→Int
 |0,_=>0
 |n+1,f=>aU b n f+b n*f n
theorem kg(b:Nat→Int):∀(n:Nat) (f:Nat→Int),(∀c,c<n→f c=0)→aU b n f=0
 |0,_,_=>rfl
 |n+1,f,h=>by
  show aU b n f+b n*f n=0
  rw[kg b n f (fun c d=>h c (by omega)),h n (Nat.lt_succ_self n)]
  simp
theorem ur(b:Nat→Int)(a:Nat→Nat→Int)(L:List Nat)(D:List Nat→Int):∀n,cG (fun i=>aU b n (fun c=>a i c)) L D=aU b n (fun c=>cG (fun i=>a i c) L D)
 |0=>jh _ L D (fun _ _=>rfl)
 |n+1=>by
  have h:=kU (fun i=>aU b n (fun c=>a i c)) (fun i=>a i n) 1 (b n) L D
  rw[ur b a L D n]at h
  show cG (fun i=>aU b n (fun c=>a i c)+b n*a i n) L D=aU b n (fun c=>cG (fun i=>a i c) L D)+b n*cG (fun i=>a i n) L D
  rw[←Int.one_mul (aU b n (fun c=>cG (fun i=>a i c) L D)),←h]
  congr 1
  funext i
  omega
theorem ut{n k:Nat}{a:Nat→Nat→Int}(P Q:List Nat)(b:Nat→Int)(D:P.length=Q.length)(G:bg (P.map a) Q≠0)(H:∀i∈P,aU b n (a i)=0)(I:aU b n (a k)≠0):∃c,c<n∧bg ((P++[k]).map a) (c::Q)≠0:=by
 apply Classical.byContradiction
 intro N
 have J:∀c,c<n→bg ((P++[k]).map a) (c::Q)=0:=fun c h=>Classical.byContradiction (fun e=>N ⟨c,h,e⟩)
 have L:∀c,c<n→cG (fun i=>a i c) (P++[k]) (bg (Q.map (fun j=>fun i=>a i j)))=0:=fun c h=>by
  have F:bg ((P++[k]).map a) (c::Q)=bg ((c::Q).map (fun j=>fun i=>a i j)) (P++[k]):=eC a (P.length+1) (P++[k]) (c::Q) (by simp) (by simp[D])
  rw[J c h,List.map_cons,ru]at F
  exact F.symm
 have d:=ur b a (P++[k]) (bg (Q.map (fun j=>fun i=>a i j))) n
 rw[kg b n _ L,pe,jh _ P _ H]at d
 have M:bg (P.map a) Q=bg (Q.map (fun j=>fun i=>a i j)) P:=eC a P.length P Q rfl D.symm
 rw[←M]at d
 have l:aU b n (fun c=>a k c)≠0:=I
 have O:aU b n (fun c=>a k c)*bg (P.map a) Q≠0:=fun e=>(Int.mul_eq_zero.1 e).elim l G
 generalize aU b n (fun c=>a k c)*bg (P.map a) Q=z at*
 rcases CX P.length with⟨t,_⟩|⟨t,_⟩
 ·rw[t]at d;omega
 ·rw[t]at d;omega
theorem uu{n:Nat}{a:Nat→Nat→Int}:∀t,(∀j,j<t→∃b:Nat→Int,(∀i,i<j→aU b n (a i)=0)∧aU b n (a j)≠0)→∃Q:List Nat,Q.length=t∧(∀c∈Q,c<n)∧bg ((List.range t).map a) Q≠0:=by
 intro t
 induction t with
 |zero=>intro _;exact⟨[],rfl,(fun c z=>by cases z),(by show(1:Int)≠0;decide)⟩
 |succ t ih=>
  intro h
  obtain⟨Q,l,F,G⟩:=ih (fun j M=>h j (by omega))
  obtain⟨b,H,I⟩:=h t (Nat.lt_succ_self t)
  obtain⟨c,J,L⟩:=ut (List.range t) Q b (by rw[List.length_range,l]) G (fun i D=>H i (List.mem_range.1 D)) I
  refine⟨c::Q,by rw[List.length_cons,l],fun x d=>?_,by rw[List.range_succ];exact L⟩
  rcases List.mem_cons.1 d with rfl|d
  ·exact J
  ·exact F x d
def gp(Y:Nat→Int)(a:Nat→Nat→Int):Nat→Nat→Int
 |0,_=>0
 |t+1,c=>gp Y a t c+Y t*a t c
theorem uv(Y:Nat→Int)(a:Nat→Nat→Int)(d:List (Nat→Int))(C:List Nat):∀t,(∀i,i<t→bg (d++[a i]) C=0)→bg (d++[fun c=>gp Y a t c]) C=0
 |0,_=>jM (fun _=>0) [] C (fun _ _=>rfl) d
 |t+1,h=>by
  have e:=fw (fun c=>gp Y a t c) (a t) 1 (Y t) [] d C
  rw[uv Y a d C t (fun i z=>h i (by omega)),h t (Nat.lt_succ_self t)]at e
  have l:(fun c=>gp Y a (t+1) c)=fun c=>1*gp Y a t c+Y t*a t c:=by
   funext c
   show gp Y a t c+Y t*a t c=_
   omega
  rw[l,e]
  simp
theorem wW{t N n:Nat}{a:Nat→Nat→Int}(ht:t≤N)(O:∀j,j<t→∃b:Nat→Int,(∀i,i<j→aU b n (a i)=0)∧aU b n (a j)≠0)
  (l:(∀k,t≤k→k<N→∃(G:Int) (Y:Nat→Int),G≠0∧∀c,c<n→G*a k c=gp Y a t c)∨n≤t):dw t a N n:=by
 obtain⟨Q,I,L,M⟩:=uu t O
 refine⟨fun z=>M ?_,?_⟩
 ·have U:bg ((List.range t).map a) Q=bg (Q.map (fun j=>fun i=>a i j)) (List.range t):=eC a t (List.range t) Q List.length_range I
  rw[U]
  exact(pd z).all Q (List.range t) L ⟨List.pairwise_lt_range,fun i h=>by have:=List.mem_range.1 h;omega⟩ I List.length_range
 ·rcases l with l|l
  ·have F:∀d,t+d≤N→kE (t+1) a (t+d) n:=by
    intro d
    induction d with
    |zero=>intro _;exact um (.inl (by omega))
    |succ d ih=>
     intro hd
     obtain⟨G,Y,Z,hY⟩:=l (t+d) (by omega) (by omega)
     have z:=ih (by omega)
     have:=Da (k:=t+d) (n:=n) (a:=a) (List.range t) Q (fun i h=>by have:=List.mem_range.1 h;omega) (by rw[List.length_range,I]) M (fun c T=>?_) (by rw[List.length_range];exact z)
     ·rw[List.length_range]at this
      exact this
     ·rw[List.map_append,List.map_cons,List.map_nil]
      have J:bg ((List.range t).map a++[fun c=>G*a (t+d) c+0*a (t+d) c]) (c::Q)=G*bg ((List.range t).map a++[a (t+d)]) (c::Q):=by
       rw[fw];simp
      have V:bg ((List.range t).map a++[fun c=>G*a (t+d) c+0*a (t+d) c]) (c::Q)=bg ((List.range t).map a++[fun c=>gp Y a t c]) (c::Q):=by
       refine l8 _ _ [] _ (c::Q) (fun x D=>?_)
       have H:x<n:=by
        rcases List.mem_cons.1 D with rfl|D
        ·exact T
        ·exact L x D
       rw[Int.zero_mul,Int.add_zero]
       exact hY x H
      have X:bg ((List.range t).map a++[fun c=>gp Y a t c]) (c::Q)=0:=uv Y a _ _ t (fun i h=>by
       obtain⟨A,B,e⟩:∃A B,List.range t=A++i::B:=List.append_of_mem (List.mem_range.2 h)
       rw[e,List.map_append,List.map_cons,List.append_assoc,List.cons_append]
       exact pa (a i) [] (A.map a) (B.map a) (c::Q))
      rw[V,X]at J
      exact(Int.mul_eq_zero.1 J.symm).resolve_left Z
   have:=F (N-t) (by omega)
   rwa[show t+(N-t)=N by omega]at this
  ·exact um (.inr (by omega))
def tz(v:Nat):Nat:=Lib.ctzFrom v v
theorem ji(v:Nat)(h:0<v):∃m,v=2^tz v*(2*m+1):=by
 obtain⟨m,d,_⟩:=Lib.ctzFrom_spec v v h Nat.lt_two_pow_self
 exact⟨m,d⟩
theorem uw(k j m n:Nat)(h:2^k*(2*m+1)=2^j*(2*n+1)):k=j∧m=n:=by
 rcases Nat.lt_trichotomy k j with l|rfl|l
 ·exfalso
  obtain⟨d,rfl⟩:∃d,j=k+(d+1):=⟨j-k-1,by omega⟩
  rw[Nat.pow_add,Nat.mul_assoc]at h
  have:=Nat.eq_of_mul_eq_mul_left (Nat.pow_pos (by decide)) h
  rw[Nat.pow_succ,Nat.mul_assoc,Nat.mul_left_comm]at this
  omega
 ·have:=Nat.eq_of_mul_eq_mul_left (Nat.pow_pos (by decide)) h
  exact⟨rfl,by omega⟩
 ·exfalso
  obtain⟨d,rfl⟩:∃d,k=j+(d+1):=⟨k-j-1,by omega⟩
  rw[Nat.pow_add,Nat.mul_assoc]at h
  have:=Nat.eq_of_mul_eq_mul_left (Nat.pow_pos (by decide)) h
  rw[Nat.pow_succ,Nat.mul_assoc,Nat.mul_left_comm]at this
  omega
theorem Db(v k m:Nat)(h:v=2^k*(2*m+1)):tz v=k:=by
 have d:0<v:=by rw[h];exact Nat.mul_pos (Nat.pow_pos (by decide)) (by omega)
 obtain⟨m',l⟩:=ji v d
 exact(uw _ _ m' m (by rw[←l,←h])).1
theorem Dc(v k:Nat)(h:0<v):tz (2^k*v)=k+tz v:=by
 obtain⟨m,d⟩:=ji v h
 exact Db _ _ m (by rw[Nat.pow_add,Nat.mul_assoc,←d])
theorem JJ(x:Nat)(d:x≠0)(h:x<4294967296):tz x=Lib.ctz 32 x:=by
 obtain⟨m,l,_⟩:=Lib.ctzFrom_spec 32 x (by omega) (by omega)
 have e:Lib.ctz 32 x=Lib.ctzFrom 32 x:=by simp[Lib.ctz,d]
 rw[e]
 exact Db _ _ m l
theorem kK(v k:Nat)(l:0<v)(h:v<2^k):tz v<k:=by
 obtain⟨m,D⟩:=ji v l
 apply Nat.lt_of_not_le
 intro d
 have t:2^k≤2^tz v:=Nat.pow_le_pow_right (by decide) d
 have z:2^tz v≤2^tz v*(2*m+1):=Nat.le_mul_of_pos_right _ (by omega)
 omega
theorem Dd(L:List Nat)(k x:Nat)(h:val (L.take k)=0)(l:L[k]?.getD 0=x)(G:x≠0)(t:x<4294967296):val L≠0∧tz (val L)=32*k+tz x:=by
 obtain⟨m,F⟩:=ji x (by omega)
 have e:val L=4294967296^k*(x+4294967296*val (L.drop (k+1))):=by
  rw[iM L (k+1),aR,h,l,Nat.zero_add,Nat.pow_succ,Nat.mul_add,Nat.mul_assoc]
 have H:tz x<32:=kK x 32 (by omega) (by omega)
 have z:x+4294967296*val (L.drop (k+1))=2^tz x*(2*(m+2^(31-tz x)*val (L.drop (k+1)))+1):=by
  have D:4294967296=2^tz x*(2*2^(31-tz x)):=by
   rw[←Nat.pow_succ',←Nat.pow_add,show tz x+(31-tz x).succ=32 by omega]
  rw[Nat.mul_add 2,Nat.add_right_comm,Nat.mul_add (2^tz x),←F,←Nat.mul_assoc 2,←Nat.mul_assoc,←D]
 have d:val L=2^(32*k+tz x)*(2*(m+2^(31-tz x)*val (L.drop (k+1)))+1):=by
  rw[e,z,←Nat.mul_assoc,kT]
 refine⟨?_,Db _ _ _ d⟩
 have:0<val L:=by rw[d];exact Nat.mul_pos (Nat.pow_pos (by decide)) (by omega)
 omega
def oM(z:Int):Int:=z/2^tz z.natAbs
def oE(z e:Int):Int:=if z=0 then 0 else e+tz z.natAbs
def jE(z m:Int)(k:Nat):Prop:=z=m*2^k∧m%2=1
theorem jE.unique{z m m':Int}{k k':Nat}(h:jE z m k)(t:jE z m' k'):m=m'∧k=k':=by
 obtain⟨d,H⟩:=h
 obtain⟨l,I⟩:=t
 have D:z.natAbs=2^k*(2*(m.natAbs/2)+1):=by
  rw[d,Int.natAbs_mul,Int.natAbs_pow,Nat.mul_comm,show(2:Int).natAbs=2 from rfl,show 2*(m.natAbs/2)+1=m.natAbs by omega]
 have F:z.natAbs=2^k'*(2*(m'.natAbs/2)+1):=by
  rw[l,Int.natAbs_mul,Int.natAbs_pow,Nat.mul_comm,show(2:Int).natAbs=2 from rfl,show 2*(m'.natAbs/2)+1=m'.natAbs by omega]
 obtain⟨rfl,_⟩:=uw _ _ _ _ (D.symm.trans F)
 have G:(2:Int)^k≠0:=Int.pow_ne_zero (by decide)
 exact⟨Int.eq_of_mul_eq_mul_right G (d.symm.trans l),rfl⟩
theorem gW(z:Int)(h:z≠0):jE z (oM z) (tz z.natAbs):=by
 obtain⟨m,F⟩:=ji z.natAbs (by omega)
 unfold oM
 generalize tz z.natAbs=k at*
 have D:(2:Int)^k≠0:=Int.pow_ne_zero (by decide)
 have d:z=2^k*(2*(m:Int)+1)∨z=2^k*(2*(-(m:Int)-1)+1):=by
  have e:(z.natAbs:Int)=2^k*(2*(m:Int)+1):=by rw[F];push_cast;rfl
  rcases Int.natAbs_eq z with t|t
  ·left;rw[t,e]
  ·right;rw[t,e,←Int.mul_neg];congr 1;omega
 rcases d with d|d
 ·have l:z/2^k=2*(m:Int)+1:=by rw[d];exact Int.mul_ediv_cancel_left _ D
  rw[l]
  exact⟨by rw[Int.mul_comm];exact d,by omega⟩
 ·have l:z/2^k=2*(-(m:Int)-1)+1:=by rw[d];exact Int.mul_ediv_cancel_left _ D
  rw[l]
  exact⟨by rw[Int.mul_comm];exact d,by omega⟩
theorem jE.eq{z m:Int}{k:Nat}(h:jE z m k):z≠0∧m=oM z∧k=tz z.natAbs:=by
 have d:z≠0:=by
  rw[h.1]
  intro e
  rcases Int.mul_eq_zero.1 e with e|e
  ·have:=h.2;rw[e]at this;simp at this
  ·exact Int.pow_ne_zero (by decide) e
 obtain⟨a,b⟩:=h.unique (gW z d)
 exact⟨d,a,b⟩
def bl(v:Nat):Nat:=if v=0 then 0 else Nat.log2 v+1
theorem bQ(v:Nat)(h:v≠0):1≤bl v∧2^(bl v-1)≤v∧v<2^bl v:=by
 unfold bl
 rw[if_neg h]
 exact⟨by omega,by simpa using Nat.log2_self_le h,Nat.lt_log2_self⟩
theorem dh{a b:Nat}(h:(2:Nat)^a<2^b):a<b:=(Nat.pow_lt_pow_iff_right (by decide)).1 h
theorem gX{a b:Nat}(h:a≤b):(2:Nat)^a≤2^b:=Nat.pow_le_pow_right (by decide) h
theorem oc{v n:Nat}(z:1≤n)(d:2^(n-1)≤v)(h:v<2^n):bl v=n:=by
 have D:0<2^(n-1):=Nat.two_pow_pos _
 obtain⟨H,l,t⟩:=bQ v (by omega)
 have F:=dh (Nat.lt_of_le_of_lt l h)
 have G:=dh (Nat.lt_of_le_of_lt d t)
 omega
theorem l9(v k:Nat)(h:v≠0):bl (v*2^k)=bl v+k:=by
 obtain⟨z,l,t⟩:=bQ v h
 have d:0<2^k:=Nat.two_pow_pos _
 refine oc (by omega) ?_ ?_
 ·rw[show bl v+k-1=(bl v-1)+k by omega,Nat.pow_add]
  exact Nat.mul_le_mul_right _ l
 ·rw[Nat.pow_add]
  exact Nat.mul_lt_mul_of_pos_right t d
theorem F9{v u:Nat}(h:v≤u):bl v≤bl u:=by
 by_cases d:v=0
 ·subst d;simp[bl]
 ·obtain⟨z,l,_⟩:=bQ v d
  obtain⟨_,_,t⟩:=bQ u (by omega)
  have:=dh (Nat.lt_of_le_of_lt (Nat.le_trans l h) t)
  omega
def dq(v k:Nat):Nat:=v/2^k+(if 2^k<2*(v%2^k)∨(2^k=2*(v%2^k)∧v/2^k%2=1)then 1 else 0)
theorem yZ(v k:Nat):v/2^k≤dq v k∧dq v k≤v/2^k+1:=by
 unfold dq;split<;>omega
theorem nA{v u:Nat}(k:Nat)(h:v≤u):dq v k≤dq u k:=by
 have t:v/2^k≤u/2^k:=Nat.div_le_div_right h
 by_cases d:v/2^k=u/2^k
 ·have l:=Nat.div_add_mod v (2^k)
  have z:=Nat.div_add_mod u (2^k)
  rw[d]at l
  have D:v%2^k≤u%2^k:=by omega
  unfold dq
  rw[d]
  generalize v%2^k=r at*
  generalize u%2^k=s at*
  generalize u/2^k=q at*
  generalize 2^k=p at*
  split<;>split<;>omega
 ·have:=(yZ v k).2
  have:=(yZ u k).1
  omega
theorem jk(a k:Nat):dq (a*2^k) k=a:=by
 have d:0<2^k:=Nat.two_pow_pos _
 unfold dq
 rw[Nat.mul_mod_left,Nat.mul_div_cancel _ d,if_neg (by omega)]
 omega
theorem Ga{a v k:Nat}(h:a*2^k≤v):a≤dq v k:=by
 have:=nA k h;rwa[jk]at this
theorem nB{a v k:Nat}(h:v≤a*2^k):dq v k≤a:=by
 have:=nA k h;rwa[jk]at this
theorem wX(v i k:Nat):dq (v*2^i) (k+i)=dq v k:=by
 have d:0<2^i:=Nat.two_pow_pos _
 have h:v*2^i/2^(k+i)=v/2^k:=by
  rw[Nat.pow_add,Nat.mul_div_mul_right _ _ d]
 have l:v*2^i%2^(k+i)=v%2^k*2^i:=by
  rw[Nat.pow_add,Nat.mul_mod_mul_right]
 unfold dq
 rw[h,l,Nat.pow_add,←Nat.mul_assoc]
 have t:(2^k*2^i<2*(v%2^k)*2^i)↔2^k<2*(v%2^k):=Nat.mul_lt_mul_right d
 have z:(2^k*2^i=2*(v%2^k)*2^i)↔2^k=2*(v%2^k):=Nat.mul_left_inj (by omega)
 simp only[t,z]
theorem Ax(v k:Nat):2*(dq v k*2^k)≤2*v+2^k∧2*v≤2*(dq v k*2^k)+2^k:=by
 have h:=Nat.div_add_mod v (2^k)
 have l:=Nat.mod_lt v (Nat.two_pow_pos k)
 unfold dq
 split
 ·rename_i d
  rw[Nat.add_mul,Nat.one_mul,Nat.mul_comm (v/2^k)]
  generalize 2^k*(v/2^k)=x at*
  generalize v/2^k%2=z at*
  generalize v%2^k=r at*
  generalize 2^k=p at*
  omega
 ·rename_i d
  rw[Nat.add_zero,Nat.mul_comm (v/2^k)]
  generalize 2^k*(v/2^k)=x at*
  generalize v/2^k%2=z at*
  generalize v%2^k=r at*
  generalize 2^k=p at*
  omega
def mS(v:Nat)(j:Int):Nat:=if 0≤j then v*2^j.toNat else dq v (-j).toNat
theorem mc(v k:Nat):mS v (k:Int)=v*2^k:=by unfold mS;rw[if_pos (by omega)];simp
theorem dO(v k:Nat)(h:1≤k):mS v (-(k:Int))=dq v k:=by unfold mS;rw[if_neg (by omega)];simp
theorem Gb{v u:Nat}(j:Int)(h:v≤u):mS v j≤mS u j:=by
 unfold mS
 split
 ·exact Nat.mul_le_mul_right _ h
 ·exact nA _ h
theorem De(v i:Nat)(j:Int):mS (v*2^i) j=mS v (j+i):=by
 rcases Int.eq_ofNat_of_zero_le (a:=if 0≤j then j else-j) (by split<;>omega)with⟨k,hk⟩
 by_cases h:0≤j
 ·rw[if_pos h]at hk
  subst hk
  rw[mc,show((k:Int)+(i:Int))=((i+k:Nat):Int) by omega,mc,Nat.pow_add,Nat.mul_assoc]
 ·rw[if_neg h]at hk
  obtain rfl:j= -(k:Int):=by omega
  rw[dO _ _ (by omega)]
  by_cases l:k≤i
  ·obtain⟨d,rfl⟩:=Nat.exists_eq_add_of_le l
   rw[show(-(k:Int)+((k+d:Nat):Int))=(d:Int) by omega,mc,Nat.add_comm k d,Nat.pow_add,←Nat.mul_assoc,jk]
  ·obtain⟨d,rfl⟩:=Nat.exists_eq_add_of_le (show i≤k by omega)
   rw[show(-((i+d:Nat):Int)+(i:Int))= -(d:Int) by omega,dO _ _ (by omega),Nat.add_comm i d,wX]
def pN(v:Nat)(j:Int):Nat:=if 0≤j+1 then v*2^(j+1).toNat else v/2^(-(j+1)).toNat
def Mq(v:Nat)(j:Int):Bool:=decide (pN v j%2=1)&&(!decide (j= -1)||decide (pN v j/2%2=1))
def pM(v:Nat)(j:Int):Nat:=(pN v j+(Mq v j).toNat)/2
theorem My(v:Nat)(j:Int)(h:v%2=1):pM v j=mS v j:=by
 by_cases z:0≤j
 ·obtain⟨k,rfl⟩:=Int.eq_ofNat_of_zero_le z
  have l:pN v k=v*2^k*2:=by
   unfold pN
   rw[if_pos (by omega),show((k:Int)+1).toNat=k+1 by omega,Nat.pow_succ,Nat.mul_assoc]
  have D:Mq v k=false:=by
   unfold Mq
   rw[l,decide_eq_false (by omega)];rfl
  rw[mc]
  unfold pM
  rw[D,l]
  simp
 ·obtain⟨k,N⟩:=Int.eq_ofNat_of_zero_le (show 0≤-j by omega)
  obtain rfl:j= -(k:Int):=by omega
  obtain⟨i,rfl⟩:∃i,k=i+1:=⟨k-1,by omega⟩
  rw[dO _ _ (by omega)]
  have l:pN v (-((i+1:Nat):Int))=v/2^i:=by
   unfold pN
   by_cases d:i=0
   ·subst d;simp
   ·rw[if_neg (by omega),show(-(-((i+1:Nat):Int)+1)).toNat=i by omega]
  have F:decide (-((i+1:Nat):Int)= -1)=decide (i=0):=by
   by_cases d:i=0
   ·subst d;simp
   ·rw[decide_eq_false d,decide_eq_false (by omega)]
  have G:v/2^(i+1)=v/2^i/2:=by rw[Nat.pow_succ,Nat.div_div_eq_div_mul]
  have H:v%2^(i+1)=v%2^i+2^i*(v/2^i%2):=by rw[Nat.pow_succ,Nat.mod_mul]
  have I:i≠0→0<v%2^i:=by
   intro d
   have:v%2^i%2=v%2:=Nat.mod_mod_of_dvd _ (by obtain⟨m,rfl⟩:∃m,i=m+1:=⟨i-1,by omega⟩;rw[Nat.pow_succ];exact Nat.dvd_mul_left _ _)
   omega
  have M:=Nat.mod_lt v (Nat.two_pow_pos i)
  unfold pM Mq dq
  rw[l,F,G,H,Nat.pow_succ]
  by_cases d:i=0
  ·subst d
   simp only[Nat.pow_zero,Nat.div_one,Nat.mod_one,Nat.zero_add,Nat.one_mul,h]
   by_cases t:v/2%2=1
   ·simp[t]<;>omega
   ·simp[t]<;>omega
  ·have J:=I d
   simp only[decide_eq_false d,Bool.not_false,Bool.true_or,Bool.and_true]
   generalize v/2^i=n at*
   generalize v%2^i=s at*
   generalize 2^i=p at*
   by_cases t:n%2=1
   ·rw[t,if_pos (by left;omega)]
    simp;omega
   ·have L:n%2=0:=by omega
    rw[L,if_neg (by omega)]
    simp
end Go.Proofs.YtmpkkhackbpflaaGreatDoor
