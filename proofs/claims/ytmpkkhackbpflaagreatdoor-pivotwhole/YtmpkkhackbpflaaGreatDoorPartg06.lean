/- Part 6 of the texts. -/
import Derived.Test.YtmpkkhackbpflaaGreatDoorPartg04
set_option maxHeartbeats 2000000
namespace Go.Proofs.YtmpkkhackbpflaaGreatDoor
theorem lN(S:List Nat)(x:Nat):val (S++[x])=val S+4294967296^S.length*x:=by rw[kS];simp[val]
theorem bM.snoc{S:List Nat}(h:bM S){x:Nat}(t:x<4294967296):bM (S++[x]):=fun y l=>by
 rcases List.mem_append.1 l with d|d
 ·exact h y d
 ·simp at d;omega
theorem An(A B S:List Nat)(c x y:Nat)(d:A[S.length]?.getD 0=x)(l:B[S.length]?.getD 0=y)(h:val S+4294967296^S.length*c=val (A.take S.length)+val (B.take S.length)):
  val (S++[(x+y+c)%4294967296])+4294967296^(S.length+1)*((x+y+c)/4294967296)=val (A.take (S.length+1))+val (B.take (S.length+1)):=by
 rw[lN,aR A,aR B,d,l]
 have e:=jK (4294967296^S.length) 4294967296 (x+y+c)
 rw[Nat.pow_succ]
 rw[Nat.mul_add,Nat.mul_add]at e
 omega
theorem wR(A B S:List Nat)(c x y t d:Nat)(l:A[S.length]?.getD 0=x)(z:B[S.length]?.getD 0=y)(D:t+y+c=x+4294967296*d)(h:val S+val (B.take S.length)=val (A.take S.length)+4294967296^S.length*c):
  val (S++[t])+val (B.take (S.length+1))=val (A.take (S.length+1))+4294967296^(S.length+1)*d:=by
 rw[lN,aR A,aR B,l,z,Nat.pow_succ]
 have e:4294967296^S.length*(t+y+c)=4294967296^S.length*(x+4294967296*d):=by rw[D]
 rw[Nat.mul_add,Nat.mul_add,Nat.mul_add,←Nat.mul_assoc]at e
 omega
theorem lO:∀(S:List Nat) (j t:Nat),j<S.length→val (S.set j t)+4294967296^j*(S[j]?.getD 0)=val S+4294967296^j*t
 | [],_,_,h=>by simp at h
 |x::r,0,t,_=>by simp[val];omega
 |x::r,j+1,t,h=>by
  have z:=lO r j t (by simpa using h)
  simp only[List.set_cons_succ,val,List.getElem?_cons_succ,Nat.pow_succ]
  have d:4294967296^j*4294967296*(r[j]?.getD 0)=4294967296*(4294967296^j*(r[j]?.getD 0)):=by rw[Nat.mul_comm (4294967296^j),Nat.mul_assoc]
  have l:4294967296^j*4294967296*t=4294967296*(4294967296^j*t):=by rw[Nat.mul_comm (4294967296^j),Nat.mul_assoc]
  rw[d,l]
  omega
theorem gG(S:List Nat)(j k t:Nat)(h:k≠j):(S.set j t)[k]?.getD 0=S[k]?.getD 0:=by
 rw[List.getElem?_set_ne (by omega)]
theorem wS(x y:Nat)(d:x<4294967296)(h:y<4294967296):x*y≤18446744065119617025:=by
 have:=Nat.mul_le_mul (show x≤4294967295 by omega) (show y≤4294967295 by omega)
 simpa using this
theorem yY(x y:Nat)(d:x<4294967296)(l:y<4294967296):(x:Int)*(y:Int)≤18446744065119617025∧(0:Int)≤(x:Int)*(y:Int):=by
 have h:=wS x y d l
 have e:((x*y:Nat):Int)=(x:Int)*(y:Int):=Int.natCast_mul x y
 rw[←e]
 omega
theorem Ao(x y z q:Nat):(((y+(x*z+q))%4294967296:Nat):Int)=((y:Int)+((x:Int)*(z:Int)+(q:Int)))%4294967296∧(((y+(x*z+q))/4294967296:Nat):Int)=((y:Int)+((x:Int)*(z:Int)+(q:Int)))/4294967296:=by
 have e:((x*z:Nat):Int)=(x:Int)*(z:Int):=Int.natCast_mul x z
 rw[←e]
 omega
theorem Cv(B Q:List Nat)(V x i k c y q:Nat)(d:i+k<Q.length)(l:B[k]?.getD 0=y)(t:Q[i+k]?.getD 0=q)(h:val Q+4294967296^(i+k)*c=V+4294967296^i*x*val (B.take k)):
  val (Q.set (i+k) ((c+(x*y+q))%4294967296))+4294967296^(i+(k+1))*((c+(x*y+q))/4294967296)=V+4294967296^i*x*val (B.take (k+1)):=by
 have z:=lO Q (i+k) ((c+(x*y+q))%4294967296) d
 rw[t]at z
 have e:=jK (4294967296^(i+k)) 4294967296 (c+(x*y+q))
 rw[show 4294967296^(i+(k+1))=4294967296^(i+k)*4294967296 by rw[←Nat.add_assoc,Nat.pow_succ],aR B k,l]
 have D:4294967296^i*x*(val (B.take k)+4294967296^k*y)=4294967296^i*x*val (B.take k)+4294967296^(i+k)*(x*y):=by
  rw[Nat.mul_add,Nat.pow_add]
  congr 1
  rw[Nat.mul_assoc,Nat.mul_assoc,←Nat.mul_assoc x,Nat.mul_comm x,Nat.mul_assoc]
 rw[D]
 have F:4294967296^(i+k)*(c+(x*y+q))=4294967296^(i+k)*c+4294967296^(i+k)*(x*y)+4294967296^(i+k)*q:=by rw[Nat.mul_add,Nat.mul_add];omega
 omega
theorem FU(A B Q:List Nat)(x i c:Nat)(d:i+B.length<Q.length)(l:A[i]?.getD 0=x)(t:Q[i+B.length]?.getD 0=0)(h:val Q+4294967296^(i+B.length)*c=val (A.take i)*val B+4294967296^i*x*val (B.take B.length)):
  val (Q.set (i+B.length) c)=val (A.take (i+1))*val B:=by
 have z:=lO Q (i+B.length) c d
 rw[t,Nat.mul_zero]at z
 rw[List.take_length]at h
 rw[aR A i,l,Nat.add_mul]
 omega
open Go.RowKit
theorem sC(ao bo:Option Addr)(ca cb:Nat)(A B:List Nat)(w:World)(hA:af w ao ca A)(hB:af w bo cb B)(la:A.length≤1073741824)(lb:B.length≤1073741824):
  Calls Tryz.prog 262 #[.slice ao A.length ca,.slice bo B.length cb] w fun e w'=>∃V M L',e=.returned (.slice V L'.length M)∧af w' V M L'∧bB w.heap.size V L'∧L'.length=A.length+B.length∧val L'=val A*val B∧Below w.heap.size w w':=by
 obtain⟨i0,hi,D,ba,bb⟩:=info_parts Tryz.info147
 obtain⟨n,hn⟩:∃n,n=A.length+B.length:=⟨_,rfl⟩
 have HN:=ac hn
 have n1:n≤2147483648:=by omega
 have n2:A.length+B.length≤n:=by omega
 clear hn
 go_enter Tryz.func262,Tryz.ntmps262
 go_wp2_with(at_make;have hn:=uH HN;refine wpList_make_full _ rfl _ _ 53 rfl w.heap.size 147 i0 (.int .u32 0) 1 Tryz.underlying53 hi D ba .i64 .i64 _ _ n rfl rfl (by omega) (by omega) (by rw[bb];omega) (by unfold maxLen;omega) (Nat.le_refl _) ?_;clear hn;intro w1 U H)
 have N:=cH.made U
 have am:Below w.heap.size w w1:=(Below.refl _ _).grown H (Nat.le_refl _) (fun k h=>by simp at h)
 clear U H
 go_wp2
 go_loopw[17] (fun c wr=>∃(i:Nat) (P:List Nat),i≤A.length∧c=.int .i64 i∧cH wr w.heap.size P∧P.length=n∧bM P∧Below w.heap.size w wr∧Hid (val P=val (A.take i)*val B)∧Hid (∀j,i+B.length≤j→P[j]?.getD 0=0))
  (fun c _=>A.length-(intOf c).toNat)
 case atStart=>
  refine⟨0,List.replicate n 0,Nat.zero_le _,rfl,N,by simp,bM.zeros _,am,?_,?_⟩
  ·unfold Hid
   have:∀k,val (List.replicate k 0)=0:=by intro k;induction k with|zero=>rfl|succ k ih=>simp[List.replicate_succ,val,ih]
   rw[this];simp[val]
  ·intro j _
   rw[List.getElem?_replicate];split<;>rfl
 case round=>
  obtain⟨i,P,bv,rfl,hr,ae,hf,T,hv,J⟩:=hrel
  by_cases ap:i<A.length
  ·obtain⟨x,hx⟩:∃x,A[i]?.getD 0=x:=⟨_,rfl⟩
   have bx:x<4294967296:=by rw[←hx];exact hA.lt i
   obtain⟨b1,o1,bd,a0,a1⟩:=hA.ne (by omega)
   have X:=a1 i ap
   rw[hx]at X
   have HX:=ac hx
   have aq:=ac X
   have HR:=ac hr
   have bp:=ac ap
   clear hx a1 X hr N am
   subst bd
   have bi:(i:Int)<(A.length:Int):=by omega
   go_wp2
   go_loopw[7,22] (fun c k wq=>∃(y:Nat) (d:Nat) (Q:List Nat),d≤B.length∧k=.int .i64 d∧c=.int .u64 y∧y<4294967296∧cH wq w.heap.size Q∧Q.length=n∧bM Q∧Below w.heap.size w wq∧Hid (val Q+4294967296^(i+d)*y=val (A.take i)*val B+4294967296^i*x*val (B.take d))∧Hid (∀j,i+B.length≤j→Q[j]?.getD 0=0))
    (fun _ k _=>B.length-(intOf k).toNat)
   case atStart=>exact⟨0,0,P,Nat.zero_le _,rfl,rfl,by omega,uH HR,ae,hf,T,by unfold Hid;simp[val];exact hv.out,J⟩
   case round=>
    obtain⟨y,d,Q,bA,rfl,rfl,hy,l,a2,ai,L,F,G⟩:=hrel
    by_cases a5:d<B.length
    ·obtain⟨z,hz⟩:∃z,B[d]?.getD 0=z:=⟨_,rfl⟩
     have bz:z<4294967296:=by rw[←hz];exact hB.lt d
     obtain⟨q,hq⟩:∃q,Q[i+d]?.getD 0=q:=⟨_,rfl⟩
     obtain⟨b2,o2,be,a3,a4⟩:=hB.ne (by omega)
     have Y:=a4 d a5
     rw[hz]at Y
     have bq:q<4294967296:=by
      rw[←hq]
      by_cases hh:i+d<Q.length
      ·rw[List.getElem?_eq_getElem hh];exact ai _ (List.getElem_mem hh)
      ·rw[List.getElem?_eq_none (by omega)];decide
     have dA:wr.cell? ⟨b1,o1+i,none⟩=some (.int .u32 (x:Int)):=by rw[L.cell (p:=⟨b1,o1+i,none⟩) a0];exact uH aq
     have dB:wr.cell? ⟨b2,o2+d,none⟩=some (.int .u32 (z:Int)):=by rw[L.cell (p:=⟨b2,o2+d,none⟩) a3];exact Y
     have dQ:=l.cell (i+d) (by omega)
     rw[hq]at dQ
     have fQ:=l.free (i+d)
     have a6:=wS x z bx bz
     obtain⟨bm,bn⟩:=yY x z bx bz
     have ax:=Cv B Q (val (A.take i)*val B) x i d y z q (by omega) hz hq F.out
     have t:∀j,i+B.length≤j→(Q.set (i+d) ((y+(x*z+q))%4294967296))[j]?.getD 0=0:=fun j hj=>by rw[gG _ _ _ _ (by omega)];exact G.out j hj
     have a7:=ac ax
     have Z:=ac t
     have aa:=ac l
     obtain⟨ec,ed⟩:=Ao x y z q
     have EC:=ac ec
     have ED:=ac ed
     have ay:(y+(x*z+q))/4294967296<4294967296:=by omega
     have BY:=ac ay
     clear ax t l ec ed hz hq a4 Y F G ay a6 hv J
     subst be
     have bt:(d:Int)<(B.length:Int):=by omega
     have a9:(i:Int)+(d:Int)<(n:Int):=by omega
     go_wp2
     go_quiet (fail)
     go_wp2
     have I:=((uH aa).drewN nq).set (i+d) ((y+(x*z+q))%4294967296)
     rw[uH EC]at I
     go_roundw
     case rel=>exact⟨(y+(x*z+q))/4294967296,d+1,Q.set (i+d) ((y+(x*z+q))%4294967296),by omega,by go_num,dg (uH ED).symm,uH BY,I,by simpa using a2,ai.set _ _ (by omega),(below_drewN L nq).setCell (by simp) _,uH a7,uH Z⟩
     case measure=>simp[intOf];omega
    ·have az:d=B.length:=by omega
     rw[az]at F
     have D:=G.out (i+B.length) (by omega)
     have O:=FU A B Q x i y (by omega) (uH HX) D F.out
     have t:∀j,i+1+B.length≤j→(Q.set (i+B.length) y)[j]?.getD 0=0:=fun j hj=>by rw[gG _ _ _ _ (by omega)];exact G.out j (by omega)
     have dQ:=l.cell (i+B.length) (by omega)
     rw[D]at dQ
     have fQ:=l.free (i+B.length)
     have aD:=ac O
     have Z:=ac t
     have aa:=ac l
     have a9:(i:Int)+(B.length:Int)<(n:Int):=by omega
     clear O t l F G D az hv J aq
     go_wp2
     have I:=(uH aa).set (i+B.length) y
     go_roundw
     case rel=>exact⟨i+1,Q.set (i+B.length) y,by omega,by go_num,I,by simpa using a2,ai.set _ _ hy,L.setCell (by simp) _,uH aD,uH Z⟩
     case measure=>simp[intOf];omega
  ·have aI:i=A.length:=by omega
   have ad:=hv.out
   rw[aI,List.take_length]at ad
   have HV:=ac ad
   have HR:=ac hr
   clear ad hv J hr aI
   go_wp2
   go_ret
   exact⟨some ⟨w.heap.size,0,none⟩,n,P,by rw[ae];rfl,(uH HR).limbs hf _ (by omega),.inr ⟨_,_,rfl,Nat.le_refl _⟩,by rw[ae];exact uH HN,uH HV,T⟩
attribute [local go_sem ↓] Go.wp_at_zero Go.wp_at_succ
theorem FW(A B:List Nat)(d:bZ A)(cB:bZ B)(G:A.length≤512)(H:B.length≤512)(h:512<A.length+B.length-1):¬val A*val B<eN:=by
 have l:A≠ []:=by rintro rfl;simp at h;omega
 have t:B≠ []:=by rintro rfl;simp at h;omega
 have z:=mY A (d.resolve_left l)
 have D:=mY B (cB.resolve_left t)
 have F:=Nat.mul_le_mul z D
 rw[←Nat.pow_add]at F
 have I:eN≤4294967296^(A.length-1+(B.length-1)):=by
  unfold eN
  exact Nat.pow_le_pow_right (by decide) (show sA≤A.length-1+(B.length-1) by unfold sA;omega)
 omega
theorem FX(l t:Bool)(H I:Option Addr)(J M:Nat)(A B:List Nat)(w:World)(hA:af w H J A)(hB:af w I M B)(la:A.length≤35184372088830)(lb:B.length≤35184372088830):
  Calls Tryz.prog 255 #[.agg #[.bool l,.slice H A.length J],.agg #[.bool t,.slice I B.length M]] w fun e F=>∃v,e=.returned (.tuple #[v,.int .i64 (rm (aE l A&&aE t B) (aj l A*aj t B))])∧ar w.heap.size F v (rn (aE l A&&aE t B) (aj l A*aj t B))∧Below w.heap.size w F:=by
 have hC:(aE l A&&aE t B)=true→bZ A∧bZ B:=fun h=>by
  simp only[Bool.and_eq_true]at h;exact⟨(aN h.1).2.1,(aN h.2).2.1⟩
 have hL:(aE l A&&aE t B)=true→A.length≤512∧B.length≤512∧(512<A.length+B.length-1→bO (aj l A*aj t B)=2∧eI (aj l A*aj t B)=0):=fun h=>by
  simp only[Bool.and_eq_true]at h
  have r1:=aN h.1
  have G:=aN h.2
  refine⟨r1.1,G.1,fun hb=>?_⟩
  have X:¬(aj l A*aj t B).natAbs<eN:=by
   rw[Int.natAbs_mul,bh,bh]
   exact FW A B r1.2.1 G.2.1 r1.1 G.1 hb
  constructor
  ·unfold bO;rw[if_neg X]
  ·unfold eI;rw[if_neg X]
 have Y:∀L:List Nat,val L=val A*val B→aj (l != t) L=aj l A*aj t B:=by
  intro L h;unfold aj;rw[h];cases l<;>cases t<;>simp[Int.neg_mul,Int.mul_neg]
 have HC:=ac hC
 have HL:=ac hL
 have ae:=ac Y
 clear hL Y
 have H2:=ac (show wO l A t B=if(aE l A&&aE t B)then 0 else 1 from rfl)
 clear hC
 generalize ap:(aE l A&&aE t B)=ok at*
 generalize aj l A*aj t B=z at*
 clear ap
 go_enter Tryz.func255,Tryz.ntmps255
 go_wp2_with fail
 have Q:Below w.heap.size w (((w.alloc (.cells #[.bool l,.slice H A.length J] 55)).alloc (.cells #[.bool t,.slice I B.length M] 55)).alloc (.cells #[.bool false,.slice none 0 0] 55)):=
  (((Below.refl _ _).alloc (Nat.le_refl _) _).alloc (by simp) _).alloc (by simp;omega) _
 refine(kJ l t H I J M A B _ (hA.below Q) (hB.below Q) la lb).mono ?_
 rintro e O ⟨rfl,d⟩
 have ax:w.heap.size+3≤O.heap.size:=by have:=d.size;simpa using this
 have D:Below w.heap.size w O:=Q.trans (d.mono (by simp;omega))
 have p0:O.cell? ⟨w.heap.size,0,none⟩=some (.bool l):=by rw[d.cell (p:=⟨w.heap.size,0,none⟩) (by simp;omega)];simp[go_sem]
 have p1:O.cell? ⟨w.heap.size,1,none⟩=some (.slice H A.length J):=by rw[d.cell (p:=⟨w.heap.size,1,none⟩) (by simp;omega)];simp[go_sem]
 have q0:O.cell? ⟨w.heap.size+1,0,none⟩=some (.bool t):=by rw[d.cell (p:=⟨w.heap.size+1,0,none⟩) (by simp)];simp[go_sem]
 have q1:O.cell? ⟨w.heap.size+1,1,none⟩=some (.slice I B.length M):=by rw[d.cell (p:=⟨w.heap.size+1,1,none⟩) (by simp)];simp[go_sem]
 have G:aC O (w.heap.size+2) (.bool false) (.slice none 0 0):=by
  have:=aC.new ((w.alloc (.cells #[.bool l,.slice H A.length J] 55)).alloc (.cells #[.bool t,.slice I B.length M] 55)) (.bool false) (.slice none 0 0)
  exact aC.below (by simpa using this) d (by simp)
 have PA:Hid (aC O w.heap.size (.bool l) (.slice H A.length J)):=(((aC.new _ _ _).old _).old _).below d (by simp;omega)
 have PB:Hid (aC O (w.heap.size+1) (.bool t) (.slice I B.length M)):=by
  have:=(aC.new (w.alloc (.cells #[.bool l,.slice H A.length J] 55)) (.bool t) (.slice I B.length M)).old (.cells #[.bool false,.slice none 0 0] 55)
  exact aC.below (by simpa using this) d (by simp)
 rw[uH H2]
 clear d H2 Q
 cases ok
 ·simp only[Bool.false_eq_true,if_false]
  have Z:=G.c0;have y1:=G.c1;have f0:=G.free 0;have f1:=G.free 1
  go_wp2
  refine bodyPost_ret (v:=.tuple #[.agg #[.bool false,.slice none 0 0],.int .i64 1]) (by simp[results,Tryz.results255,go_sem,Z,y1]) rfl ⟨.agg #[.bool false,.slice none 0 0],by rw[nX],by rw[nY];exact ar.zero _ _ _ _,?_⟩
  exact(D.setCell (by simp;omega) _).setCell (by simp;omega) _
 ·obtain⟨cA,cB⟩:=uH HC rfl
  obtain⟨l1,l2,T⟩:=uH HL rfl
  have N:=ac T
  clear cA cB T HC HL
  simp only[if_true]
  by_cases aa:512<A.length+B.length-1
  ·have hE:=ac (uH N aa)
   have Z:=G.c0;have y1:=G.c1;have f0:=G.free 0;have f1:=G.free 1
   have U:(512:Int)<(A.length:Int)+(B.length:Int)-1:=by omega
   clear N
   go_wp2
   refine bodyPost_ret (v:=.tuple #[.agg #[.bool false,.slice none 0 0],.int .i64 2]) (by simp[results,Tryz.results255,go_sem,Z,y1]) rfl ⟨.agg #[.bool false,.slice none 0 0],by rw[ia,(uH hE).1],by rw[ib,(uH hE).2];exact ar.zero _ _ _ _,?_⟩
   exact(D.setCell (by simp;omega) _).setCell (by simp;omega) _
  have U:¬(512:Int)<(A.length:Int)+(B.length:Int)-1:=by omega
  clear N
  go_wp2
  refine aG (fun W=>W=O) rfl ?_
  rintro V e0
  subst e0
  have x0:aC V w.heap.size (.bool l) (.slice H A.length J):=uH PA
  have x1:aC V (w.heap.size+1) (.bool t) (.slice I B.length M):=uH PB
  have hK:∀F,Below (w.heap.size+2) V F→Below (w.heap.size+2) V F∧F.cell? ⟨w.heap.size,0,none⟩=some (.bool l)∧F.cell? ⟨w.heap.size+1,0,none⟩=some (.bool t)∧F.cell? ⟨w.heap.size,1,none⟩=some (.slice H A.length J)∧F.cell? ⟨w.heap.size+1,1,none⟩=some (.slice I B.length M):=fun F h=>
   ⟨h,(x0.below h (by omega)).c0,(x1.below h (by omega)).c0,(x0.below h (by omega)).c1,(x1.below h (by omega)).c1⟩
  have HK:=ac hK
  have HA:=ac (hA.below D)
  have HB:=ac (hB.below D)
  have X2:=ac G
  have ai:=ac D
  clear hK hA hB x0 x1 G D p0 p1 q0 q1 PA PB
  go_region_held3(fun F=>Below (w.heap.size+2) V F∧F.cell? ⟨w.heap.size,0,none⟩=some (.bool l)∧F.cell? ⟨w.heap.size+1,0,none⟩=some (.bool t)∧F.cell? ⟨w.heap.size,1,none⟩=some (.slice H A.length J)∧F.cell? ⟨w.heap.size+1,1,none⟩=some (.slice I B.length M))
   (first|exact uH HK _ (Below.refl _ _).drew|exact uH HK _ (by assumption)|exact uH HK _ ((ad.setCell (by simp) _).setCell (by simp) _))
   (first|(go_at_call 262;refine(sC H I J M A B _ ((uH HA).below ((Below.refl _ _).drew)) ((uH HB).below ((Below.refl _ _).drew)) (by omega) (by omega)).mono ?_;rintro e w3 ⟨ay,aq,L',rfl,g1,g2,g3,g4,d⟩;have am:Below (w.heap.size+2) V w3:=((Below.refl _ _).drew).trans (d.mono (by simp;omega));have X3:=ac ((uH X2).drew.below d (by simp;omega));have G1:=ac g1;have G2:=ac g2;have G4:=ac g4;have L4:L'.length≤35184372088832:=(by omega);have s1:=d.size;clear g1 g2 g4 g3 d)|(go_at_call 248;refine(j8 _ (l != t) _ _ _ _ (uH G1) (uH G2) L4).mono ?_;rintro e w4 ⟨v,rfl,⟨n2,a2,c2,L2,rfl,i1⟩,D⟩;have ad:Below (w.heap.size+2) V w4:=am.trans (D.mono (by simp at s1;omega));have X4:=(uH X3).below D (by simp at s1;omega);have Z:=X4.c0;have y1:=X4.c1;have f0:=X4.free 0;have f1:=X4.free 1;have I1:=ac i1;clear i1 D X4))
  have hz:=uH ae L' (uH G4)
  have HI:=ac (hz▸uH I1)
  have HE:=ac (show bO (aj (l != t) L')=bO z by rw[hz])
  clear hz
  go_wp2
  refine bodyPost_ret (v:=.tuple #[.agg #[.bool n2,.slice a2 L2.length c2],.int .i64 (bO (aj (l != t) L'))]) (by simp[results,Tryz.results255,go_sem,Z,y1]) rfl ⟨.agg #[.bool n2,.slice a2 L2.length c2],?_,?_,?_⟩
  ·rw[ia,uH HE]
  ·rw[ib];exact ar.stored (uH HI) (by simp;omega) (by simp;omega) (by simp;omega) _ _
  ·exact(((uH ai).trans (ad.mono (by omega))).setCell (by simp;omega) _).setCell (by simp;omega) _
end Go.Proofs.YtmpkkhackbpflaaGreatDoor
namespace Go.Proofs.YtmpkkhackbpflaaGreatDoor
open Go.RowKit
theorem Cw(z:Option Addr)(l:Nat)(L:List Nat)(i:Int)(k:Nat)(w:World)(h:af w z l L)(M:L.length≤35184372088830)(F:i=(k:Int)):
  Calls Tryz.prog 183 #[.slice z L.length l,.int .i64 i] w fun e G=>e=.returned (.int .u64 ((L[k]?.getD 0:Nat):Int))∧w=G:=by
 subst F
 by_cases d:k<L.length
 ·rcases h.2.2 with I|⟨b,J,rfl,N,D⟩
  ·subst I;simp at d
  ·have H:=D k d
   have t:L[k]?.getD 0<4294967296:=by rw[List.getElem?_eq_getElem d];exact h.2.1 _ (List.getElem_mem d)
   clear h D
   generalize L[k]?.getD 0=x at*
   generalize L.length=n at*
   go_enter Tryz.func183,Tryz.ntmps183
   go_wp2
   go_ret
   exact⟨rfl,rfl⟩
 ·have t:L[k]?.getD 0=0:=by rw[List.getElem?_eq_none (by omega)];rfl
  rw[t]
  clear h t
  generalize L.length=n at*
  go_enter Tryz.func183,Tryz.ntmps183
  go_wp2
  go_ret
  exact⟨rfl,rfl⟩
end Go.Proofs.YtmpkkhackbpflaaGreatDoor
