/- Part 8 of the texts. -/
import Derived.Test.YtlnphkioddknfaaGreatDoorParty07
set_option maxHeartbeats 2000000
namespace Go.Proofs.YtlnphkioddknfaaGreatDoor
open Go.RowKit
theorem xK(x p:Nat)(d:x<4294967296)(f:p≤31):IntKind.u64.wrap ((x:Int)*2^p)=((x*2^p:Nat):Int):=by
 have h:=ql x p d f
 have e:(x:Int)*2^p=((x*2^p:Nat):Int):=by simp
 rw[e]
 clear e
 generalize x*2^p=z at*
 simp only[IntKind.wrap,IntKind.signed,IntKind.bits]
 simp
 omega
theorem Ei(x p s:Nat)(f:x<4294967296)(l:p≤31)(m:s<2^p):
  bits BinOp.or IntKind.u32 (s:Int) (IntKind.u64.wrap ((x:Int)*2^p)%4294967296)=((s+(x*2^p)%4294967296:Nat):Int)∧IntKind.u64.wrap ((x:Int)*2^p)/4294967296%4294967296=(((x*2^p)/4294967296:Nat):Int)∧s+(x*2^p)%4294967296<4294967296:=by
 have h:=ql x p f l
 have d:s<4294967296:=Nat.lt_of_lt_of_le m (by have:=Nat.pow_le_pow_right (n:=2) (by decide) (show p≤32 by omega);simpa using this)
 have e:=DU s ((x*2^p)%4294967296) p m (Ac x p (by omega))
 have y:s|||(x*2^p)%4294967296<2^32:=Nat.or_lt_two_pow (by omega) (by omega)
 rw[xK x p f l]
 generalize x*2^p=z at*
 have t:((z:Nat):Int)%4294967296=((z%4294967296:Nat):Int):=by omega
 rw[t,u32_or_nat s (z%4294967296) d (by omega),e]
 refine⟨rfl,by omega,by omega⟩
theorem rT(ao:Option Addr)(ca:Nat)(A:List Nat)(l p:Nat)(m:Int)(w:World)(hA:ag w ao ca A)(la:A.length≤1073741824)(hm:m=32*(l:Int)+(p:Int))(hp:p≤31)(hl:l≤1073741824):
  Calls Tryz.prog 271 #[.slice ao A.length ca,.int .i64 m] w fun e w'=>∃K F O,e=.returned (.slice K O.length F)∧ag w' K F O∧bN w.heap.size K O∧O.length=A.length+l+1∧an O=4294967296^l*2^p*an A∧Below w.heap.size w w':=by
 obtain⟨i0,hi,a0,a1,a2⟩:=info_parts Tryz.info133
 have hd:m/32=(l:Int):=by omega
 have hr:m%32=(p:Int):=by omega
 have a5:0≤m:=by omega
 have a6:m≤68719476735:=by omega
 clear hm
 go_enter Tryz.func271,Tryz.ntmps271
 go_wp2_with(at_make;refine wpList_make_full _ rfl _ _ 43 rfl w.heap.size 133 i0 (.int .u32 0) 1 Tryz.underlying43 hi a0 a1 .i64 .i64 _ _ (A.length+l+1) rfl rfl (by omega) (by omega) (by rw[a2];omega) (by unfold maxLen;omega) (Nat.le_refl _) ?_;intro w1 I D)
 have Q:=bR.made I
 have aj:Below w.heap.size w w1:=(Below.refl _ _).grown D (Nat.le_refl _) (fun k h=>by simp at h)
 clear I D
 go_wp2
 go_loopw[22] (fun c wr=>∃(i:Nat) (S:List Nat),i≤A.length∧c=.int .i64 i∧bR wr w.heap.size S∧S.length=A.length+l+1∧bf S∧Below w.heap.size w wr∧Hid (an S=4294967296^l*2^p*an (A.take i))∧Hid (S[i+l]?.getD 0<2^p)∧Hid (∀j,i+l<j→S[j]?.getD 0=0))
  (fun c _=>A.length-(intOf c).toNat)
 case atStart=>
  refine⟨0,List.replicate (A.length+l+1) 0,Nat.zero_le _,rfl,Q,by simp,bf.zeros _,aj,?_,?_,?_⟩
  ·unfold Hid
   have:∀k,an (List.replicate k 0)=0:=by intro k;induction k with|zero=>rfl|succ k ih=>simp[List.replicate_succ,an,ih]
   rw[this];simp[an]
  ·unfold Hid
   have:(List.replicate (A.length+l+1) 0)[0+l]?.getD 0=0:=by rw[List.getElem?_replicate];split<;>rfl
   rw[this];exact Nat.pow_pos (by decide)
  ·intro j _
   rw[List.getElem?_replicate];split<;>rfl
 case round=>
  obtain⟨i,S,a7,rfl,d,N,hf,t,hv,y,z⟩:=hrel
  by_cases ak:i<A.length
  ·obtain⟨x,hx⟩:∃x,A[i]?.getD 0=x:=⟨_,rfl⟩
   have bx:x<4294967296:=by rw[←hx];exact hA.lt i
   obtain⟨s,hs⟩:∃s,S[i+l]?.getD 0=s:=⟨_,rfl⟩
   obtain⟨b1,o1,a3,Z,ae⟩:=hA.ne (by omega)
   have L:=ae i ak
   rw[hx]at L
   have dA:wr.cell? ⟨b1,o1+i,none⟩=some (.int .u32 (x:Int)):=by rw[t.cell (p:=⟨b1,o1+i,none⟩) Z];exact L
   have dS:=d.cell (i+l) (by omega)
   rw[hs]at dS
   have dT:=d.cell (i+l+1) (by omega)
   rw[z.out _ (by omega)]at dT
   have U:s<2^p:=by rw[←hs];exact y.out
   obtain⟨u1,u2,u3⟩:=Ei x p s bx hp U
   have V:=DV A S i l p x s (by omega) hx hs (z.out _ (by omega)) hv.out
   have X:=xG x p bx hp
   have f:((S.set (i+l) (s+(x*2^p)%4294967296)).set (i+l+1) ((x*2^p)/4294967296))[i+1+l]?.getD 0<2^p:=by
    rw[show i+1+l=i+l+1 by omega,List.getElem?_set_self (by simp;omega)];exact X
   have G:∀j,i+1+l<j→((S.set (i+l) (s+(x*2^p)%4294967296)).set (i+l+1) ((x*2^p)/4294967296))[j]?.getD 0=0:=fun j hj=>by
    rw[fg _ _ _ _ (by omega),fg _ _ _ _ (by omega)];exact z.out j (by omega)
   have H:(x*2^p)/4294967296<4294967296:=by have:=ql x p bx hp;omega
   have U1:=aa u1;have U2:=aa u2;have U3:=aa u3;have am:=aa V;have ax:=aa f;have aI:=aa G;have HH:=aa H
   have fS:=d.free (i+l)
   have fT:=d.free (i+l+1)
   have HR:=aa d
   clear u1 u2 u3 V f G X H U hx hs d hv y z ae L
   subst a3
   have a4:(i:Int)<(A.length:Int):=by omega
   go_wp2
   have r1:=((uH HR).set (i+l) (s+(x*2^p)%4294967296)).set (i+l+1) ((x*2^p)/4294967296)
   rw[←uH U1,←uH U2]at r1
   go_roundw
   case rel=>exact⟨i+1,_,by omega,by go_num,r1,by simpa using N,(hf.set _ _ (uH U3)).set _ _ (uH HH),(t.setCell (by simp) _).setCell (by simp) _,uH am,uH ax,uH aI⟩
   case measure=>simp[intOf];omega
  ·have Y:i=A.length:=by omega
   have M:=hv.out
   rw[Y,List.take_length]at M
   have HV:=aa M
   have HR:=aa d
   clear M hv z d Y y
   go_wp2
   go_ret
   exact⟨some ⟨w.heap.size,0,none⟩,A.length+l+1,S,by rw[N];rfl,(uH HR).limbs hf _ (by omega),.inr ⟨_,_,rfl,Nat.le_refl _⟩,N,uH HV,t⟩
theorem Am(f d p:Nat)(l:f<4294967296)(m:d<4294967296):
  bits BinOp.or IntKind.u64 (f:Int) ((d:Int)*4294967296)/2^p%4294967296=(((f+4294967296*d)/2^p%4294967296:Nat):Int):=by
 have e:(d:Int)*4294967296=((d*2^32:Nat):Int):=by simp
 have h:=Nat.two_pow_add_eq_or_of_lt (i:=32) (b:=f) (by omega) d
 rw[e,u64_or_nat f (d*2^32) (by omega) (by omega),Nat.or_comm,Nat.mul_comm d,←h]
 rw[show 2^32*d+f=f+4294967296*d by omega]
 simp
theorem oQ(ao:Option Addr)(ca:Nat)(A:List Nat)(l p:Nat)(m:Int)(w:World)(I:ag w ao ca A)(la:A.length≤1073741824)(hm:m=32*(l:Int)+(p:Int))(hp:p≤31)(hl:l≤1073741824):
  Calls Tryz.prog 270 #[.slice ao A.length ca,.int .i64 m] w fun e w'=>∃K G Q,e=.returned (.slice K Q.length G)∧ag w' K G Q∧bN w.heap.size K Q∧Q.length≤A.length∧an Q=an A/(4294967296^l*2^p)∧Below w.heap.size w w':=by
 obtain⟨i0,hi,a2,a3,a4⟩:=info_parts Tryz.info133
 have hd:m/32=(l:Int):=by omega
 have hr:m%32=(p:Int):=by omega
 have bb:0≤m:=by omega
 have bc:m≤68719476735:=by omega
 clear hm
 by_cases U:A.length≤l
 ·have hz:an A/(4294967296^l*2^p)=0:=by
   apply Nat.div_eq_of_lt
   have h1:=ei A I.2.1
   have h2:(4294967296:Nat)^A.length≤4294967296^l:=Nat.pow_le_pow_right (by decide) U
   have h3:=Nat.mul_le_mul_left (4294967296^l) (show 1≤2^p from Nat.pow_pos (by decide))
   omega
  have HZ:=aa hz
  generalize an A/(4294967296^l*2^p)=q at*
  clear hz
  have ax:(A.length:Int)≤(l:Int):=by omega
  go_enter Tryz.func270,Tryz.ntmps270
  go_wp2
  go_ret
  exact⟨none,0,[],rfl,ag.nil _ _ _,.inl rfl,by simp,by rw[uH HZ];rfl,Below.refl _ _⟩
 obtain⟨n,hn⟩:∃n,n+l=A.length:=⟨A.length-l,by omega⟩
 have ax:¬(A.length:Int)≤(l:Int):=by omega
 have V:=fun(S:List Nat) (k D F:Nat)=>pp A S I.2.1 k l p D F hp
 have X:=fun(S:List Nat)=>rK A S I.2.1 l p
 have L:=aa V
 have M:=aa X
 clear V X
 have n1:n≤1073741824:=by omega
 have n2:n+l≤A.length:=by omega
 have n3:A.length≤n+l:=by omega
 clear hn U
 go_enter Tryz.func270,Tryz.ntmps270
 go_wp2_with(at_make;refine wpList_make_full _ rfl _ _ 43 rfl w.heap.size 133 i0 (.int .u32 0) 1 Tryz.underlying43 hi a2 a3 .i64 .i64 _ _ n rfl rfl (by omega) (by omega) (by rw[a4];omega) (by unfold maxLen;omega) (Nat.le_refl _) ?_;intro w1 H t)
 have Y:=bR.made H
 have aI:Below w.heap.size w w1:=(Below.refl _ _).grown t (Nat.le_refl _) (fun k h=>by simp at h)
 clear H t
 go_wp2
 go_loopw[25] (fun c wr=>∃(i:Nat) (S:List Nat),i≤n∧c=.int .i64 i∧bR wr w.heap.size S∧S.length=n∧bf S∧Below w.heap.size w wr∧Hid (an (S.take i)=(an A/(4294967296^l*2^p))%4294967296^i))
  (fun c _=>n-(intOf c).toNat)
 case atStart=>exact⟨0,List.replicate n 0,Nat.zero_le _,rfl,Y,by simp,bf.zeros _,aI,by unfold Hid;simp[an,Nat.mod_one]⟩
 case round=>
  obtain⟨i,S,bi,rfl,f,O,hf,d,hv⟩:=hrel
  by_cases be:i<n
  ·obtain⟨D,y⟩:∃x,A[i+l]?.getD 0=x:=⟨_,rfl⟩
   obtain⟨F,z⟩:∃x,A[i+l+1]?.getD 0=x:=⟨_,rfl⟩
   have b0:D<4294967296:=by rw[←y];exact I.lt _
   have a0:F<4294967296:=by rw[←z];exact I.lt _
   obtain⟨b1,o1,a5,ak,am⟩:=I.ne (by omega)
   have N:=am (i+l) (by omega)
   rw[y]at N
   have dA:wr.cell? ⟨b1,o1+(i+l),none⟩=some (.int .u32 (D:Int)):=by rw[d.cell (p:=⟨b1,o1+(i+l),none⟩) ak];exact N
   have cA:=I.below d
   have dS:=f.cell i (by omega)
   have fS:=f.free i
   generalize a6:S[i]?.getD 0=s at*
   have Z:=aa (uH L S i D F (by omega) y z hv.out)
   have a1:=aa z
   have HR:=aa f
   clear y z am N f hv a6 L M
   have a7:(i:Int)+(l:Int)<(A.length:Int):=by omega
   have a9:(0:Int)≤(i:Int)+(l:Int):=by omega
   have ba:(i:Int)<(n:Int):=by omega
   subst a5
   go_wp2
   go_quiet ((go_at_call 280;exact jd (g9 (some ⟨b1,o1,none⟩) ca A _ (i+l+1) F _ (cA.below (below_drewN (Below.refl _ _) _)) (by omega) (by omega) a1)))
   go_wp2
   have e:=Am D F p b0 a0
   have r1:=((uH HR).drewN nq).set i (((D+4294967296*F)/2^p)%4294967296)
   rw[←e]at r1
   have ae:((D+4294967296*F)/2^p)%4294967296<4294967296:=Nat.mod_lt _ (by decide)
   go_roundw
   case rel=>exact⟨i+1,_,by omega,by go_num,r1,by simpa using O,hf.set _ _ ae,(below_drewN d nq).setCell (by simp) _,uH Z⟩
   case measure=>simp[intOf];omega
  ·have aj:=uH M S (by omega) (by rw[O,show n=i by omega];exact hv.out)
   have HV:=aa aj
   have HR:=aa f
   clear aj hv f L M
   go_wp2
   go_ret
   exact⟨some ⟨w.heap.size,0,none⟩,n,S,by rw[O];rfl,(uH HR).limbs hf _ (by omega),.inr ⟨_,_,rfl,Nat.le_refl _⟩,by omega,uH HV,d⟩
attribute [local go_sem ↓] Go.wp_at_zero Go.wp_at_succ
def sg(neg:Bool)(v:Nat):Int:=if neg then-(v:Int)else(v:Int)
theorem dr(neg:Bool)(L:List Nat):af neg L=sg neg (an L):=rfl
def oR(neg:Bool)(L:List Nat)(n:Int):Int:=sg neg (if 0≤n then an L*2^n.toNat else an L/2^(-n).toNat)
def lg(neg:Bool)(L:List Nat)(n:Int):Bool:=av neg L&&decide (-16384≤n∧n≤16384)
def uw(neg:Bool)(L:List Nat)(n:Int):Int:=if lg neg L n then bI (oR neg L n)else if av neg L then 2 else 1
def rU(neg:Bool)(L:List Nat)(n:Int):Int:=if lg neg L n then dz (oR neg L n)else 0
theorem GG(neg:Bool)(A L:List Nat)(l p:Nat)(n:Int)(d:n=32*(l:Int)+(p:Int))(h:an L=4294967296^l*2^p*an A):af neg L=oR neg A n:=by
 rw[dr,h,j0]
 unfold oR
 rw[if_pos (by omega),show n.toNat=32*l+p by omega,Nat.mul_comm]
theorem An(neg:Bool)(A L:List Nat)(l p:Nat)(n:Int)(d:n<0)(f:-n=32*(l:Int)+(p:Int))(h:an L=an A/(4294967296^l*2^p)):af neg L=oR neg A n:=by
 rw[dr,h,j0]
 unfold oR
 rw[if_neg (by omega),show(-n).toNat=32*l+p by omega]
theorem ia(d:Bool)(ao:Option Addr)(D:Nat)(A:List Nat)(n:Int)(w:World)(hA:ag w ao D A)(la:A.length≤35184372088830)(bn:-9223372036854775808≤n∧n≤9223372036854775807):
  Calls Tryz.prog 252 #[.agg #[.bool d,.slice ao A.length D],.int .i64 n] w fun e t=>∃v,e=.returned (.tuple #[v,.int .i64 (uw d A n)])∧aw w.heap.size t v (rU d A n)∧Below w.heap.size w t:=by
 have aI:av d A=false→ep d A=1∧uw d A n=1∧rU d A n=0:=fun h=>by simp[ep,uw,rU,lg,h]
 have a0:av d A=true→¬(-16384≤n∧n≤16384)→ep d A=0∧uw d A n=2∧rU d A n=0:=fun h h'=>by simp only[ep,uw,rU,lg,h,decide_eq_false h'];simp
 have a1:av d A=true→(-16384≤n∧n≤16384)→ep d A=0∧A.length≤512∧uw d A n=bI (oR d A n)∧rU d A n=dz (oR d A n):=fun h h'=>by
  refine⟨by simp[ep,h],(ay h).1,?_,?_⟩
  ·unfold uw lg;rw[h,decide_eq_true h',Bool.and_self,if_pos rfl]
  ·unfold rU lg;rw[h,decide_eq_true h',Bool.and_self,if_pos rfl]
 have a3:=fun(L:List Nat) (l p:Nat)=>GG d A L l p n
 have a4:=fun(L:List Nat) (l p:Nat)=>An d A L l p n
 have O:=aa aI;have Q:=aa a0;have U:=aa a1;have G:=aa a3;have H:=aa a4
 have a5:=fun t h'=>dW d ao D A t h' la
 have a6:=aa a5
 clear aI a0 a1 a3 a4 a5
 generalize oR d A n=z at*
 generalize uw d A n=er at*
 generalize rU d A n=nu at*
 generalize ep d A=ck at*
 generalize av d A=rb at*
 go_enter Tryz.func252,Tryz.ntmps252
 go_wp2_with fail
 have ae:Below w.heap.size w ((w.alloc (.cells #[.bool d,.slice ao A.length D] 45)).alloc (.cells #[.bool false,.slice none 0 0] 45)):=((Below.refl _ _).alloc (Nat.le_refl _) _).alloc (by simp) _
 refine(uH a6 _ (hA.below ae)).mono ?_
 rintro e w1 ⟨rfl,m⟩
 have bb:w.heap.size+2≤w1.heap.size:=by have:=m.size;simpa using this
 have f:Below w.heap.size w w1:=ae.trans (m.mono (by simp;omega))
 have X:aA w1 w.heap.size (.bool d) (.slice ao A.length D):=((aA.new _ _ _).old _).below m (by simp;omega)
 have F:aA w1 (w.heap.size+1) (.bool false) (.slice none 0 0):=by
  have:=aA.new (w.alloc (.cells #[.bool d,.slice ao A.length D] 45)) (.bool false) (.slice none 0 0)
  exact aA.below (by simpa using this) m (by simp)
 have p0:=X.c0;have p1:=X.c1
 clear m ae a6
 cases rb
 ·obtain⟨Y,y,Z⟩:=uH O rfl
  have N:=aa (And.intro y Z)
  rw[Y]
  have y0:=F.c0;have y1:=F.c1;have f0:=F.free 0;have f1:=F.free 1
  clear O Q U G H Y y Z
  go_wp2
  refine bodyPost_ret (v:=.tuple #[.agg #[.bool false,.slice none 0 0],.int .i64 1]) (by simp[results,Tryz.results252,go_sem,y0,y1]) rfl ⟨.agg #[.bool false,.slice none 0 0],by rw[(uH N).1],by rw[(uH N).2];exact aw.zero _ _ _ _,?_⟩
  exact(f.setCell (by simp) _).setCell (by simp) _
 by_cases aj:-16384≤n∧n≤16384
 case neg=>
  obtain⟨Y,y,Z⟩:=uH Q rfl aj
  have N:=aa (And.intro y Z)
  rw[Y]
  have y0:=F.c0;have y1:=F.c1;have f0:=F.free 0;have f1:=F.free 1
  clear O Q U G H Y y Z
  rcases(show n< -16384∨(¬n< -16384∧16384<n) by omega)with hx|⟨hx,bj⟩
  all_goals
   go_wp2
   refine bodyPost_ret (v:=.tuple #[.agg #[.bool false,.slice none 0 0],.int .i64 2]) (by simp[results,Tryz.results252,go_sem,y0,y1]) rfl ⟨.agg #[.bool false,.slice none 0 0],by rw[(uH N).1],by rw[(uH N).2];exact aw.zero _ _ _ _,?_⟩
   exact(f.setCell (by simp) _).setCell (by simp) _
 obtain⟨Y,c4,y,Z⟩:=uH U rfl aj
 have N:=aa (And.intro y Z)
 rw[Y]
 obtain⟨be,bi⟩:=aj
 clear O Q U Y y Z
 by_cases a7:n<0
 ·obtain⟨l,hl⟩:∃l:Nat,(l:Int)=(-n)/32:=⟨((-n)/32).toNat,by omega⟩
  obtain⟨p,hp⟩:∃p:Nat,(p:Int)=(-n)%32:=⟨((-n)%32).toNat,by omega⟩
  have q1:-n=32*(l:Int)+(p:Int):=by omega
  have ak:=aa (fun L h=>uH H L l p a7 q1 h)
  have q2:p≤31:=by omega
  have q3:l≤512:=by omega
  have q4:n= -(32*(l:Int)+(p:Int)):=by omega
  have Q4:=aa q4
  have bc:IntKind.i64.wrap (-n)= -n:=by
   simp only[IntKind.wrap,IntKind.signed,IntKind.bits]
   simp
   omega
  clear G H hl hp q1 q4
  go_wp2
  refine au (fun W=>W=w1) rfl ?_
  rintro M e0
  subst e0
  have hK:∀t,Below (w.heap.size+1) M t→Below (w.heap.size+1) M t∧t.cell? ⟨w.heap.size,0,none⟩=some (.bool d)∧t.cell? ⟨w.heap.size,1,none⟩=some (.slice ao A.length D):=fun t h=>
   ⟨h,(X.below h (by omega)).c0,(X.below h (by omega)).c1⟩
  have HK:=aa hK
  have HA:=aa (hA.below f)
  have X2:=aa F
  have am:=aa f
  clear hK hA X F f p0 p1
  go_region_held3(fun t=>Below (w.heap.size+1) M t∧t.cell? ⟨w.heap.size,0,none⟩=some (.bool d)∧t.cell? ⟨w.heap.size,1,none⟩=some (.slice ao A.length D))
   (first|exact uH HK _ (Below.refl _ _).drew|exact uH HK _ (by assumption)|exact uH HK _ ((I.setCell (by simp) _).setCell (by simp) _))
   (first|(go_at_call 270;refine(oQ ao D A l p _ _ ((uH HA).below ((Below.refl _ _).drew)) (by omega) (by have:=uH Q4;omega) (by omega) (by omega)).mono ?_;rintro e w3 ⟨ba,a9,V,rfl,g1,g2,g3,g4,m⟩;have ax:Below (w.heap.size+1) M w3:=((Below.refl _ _).drew).trans (m.mono (by simp;omega));have X3:=aa ((uH X2).drew.below m (by simp;omega));have G1:=aa g1;have G2:=aa g2;have G4:=aa g4;have L4:V.length≤35184372088832:=(by omega);have s1:=m.size;clear g1 g2 g4 g3 m)|(go_at_call 269;refine(jB _ d _ _ _ _ (uH G1) (uH G2) L4).mono ?_;rintro e w4 ⟨v,rfl,⟨n2,a2,y,L2,rfl,i1⟩,f⟩;have I:Below (w.heap.size+1) M w4:=ax.trans (f.mono (by simp at s1;omega));have K:=(uH X3).below f (by simp at s1;omega);have y0:=K.c0;have y1:=K.c1;have f0:=K.free 0;have f1:=K.free 1;have I1:=aa i1;clear i1 f K))
  have hz:=uH ak V (uH G4)
  have HI:=aa (hz▸uH I1)
  have HE:=aa (show bI (af d V)=bI z by rw[hz])
  clear hz
  go_wp2
  refine bodyPost_ret (v:=.tuple #[.agg #[.bool n2,.slice a2 L2.length y],.int .i64 (bI (af d V))]) (by simp[results,Tryz.results252,go_sem,y0,y1]) rfl ⟨.agg #[.bool n2,.slice a2 L2.length y],?_,?_,?_⟩
  ·rw[(uH N).1,uH HE]
  ·rw[(uH N).2];exact aw.stored (uH HI) (by simp;omega) (by simp;omega) (by simp;omega) _ _
  ·exact(((uH am).trans (I.mono (by omega))).setCell (by simp) _).setCell (by simp) _
 ·obtain⟨l,hl⟩:∃l:Nat,(l:Int)=n/32:=⟨(n/32).toNat,by omega⟩
  obtain⟨p,hp⟩:∃p:Nat,(p:Int)=n%32:=⟨(n%32).toNat,by omega⟩
  have q1:n=32*(l:Int)+(p:Int):=by omega
  have ak:=aa (fun L h=>uH G L l p q1 h)
  have q2:p≤31:=by omega
  have q3:l≤512:=by omega
  have Q4:=aa q1
  clear G H hl hp q1
  go_wp2
  refine au (fun W=>W=w1) rfl ?_
  rintro M e0
  subst e0
  have hK:∀t,Below (w.heap.size+1) M t→Below (w.heap.size+1) M t∧t.cell? ⟨w.heap.size,0,none⟩=some (.bool d)∧t.cell? ⟨w.heap.size,1,none⟩=some (.slice ao A.length D):=fun t h=>
   ⟨h,(X.below h (by omega)).c0,(X.below h (by omega)).c1⟩
  have HK:=aa hK
  have HA:=aa (hA.below f)
  have X2:=aa F
  have am:=aa f
  clear hK hA X F f p0 p1
  go_region_held3(fun t=>Below (w.heap.size+1) M t∧t.cell? ⟨w.heap.size,0,none⟩=some (.bool d)∧t.cell? ⟨w.heap.size,1,none⟩=some (.slice ao A.length D))
   (first|exact uH HK _ (Below.refl _ _).drew|exact uH HK _ (by assumption)|exact uH HK _ ((I.setCell (by simp) _).setCell (by simp) _))
   (first|(go_at_call 271;refine(rT ao D A l p _ _ ((uH HA).below ((Below.refl _ _).drew)) (by omega) (by have:=uH Q4;omega) (by omega) (by omega)).mono ?_;rintro e w3 ⟨ba,a9,V,rfl,g1,g2,g3,g4,m⟩;have ax:Below (w.heap.size+1) M w3:=((Below.refl _ _).drew).trans (m.mono (by simp;omega));have X3:=aa ((uH X2).drew.below m (by simp;omega));have G1:=aa g1;have G2:=aa g2;have G4:=aa g4;have L4:V.length≤35184372088832:=(by omega);have s1:=m.size;clear g1 g2 g4 g3 m)|(go_at_call 269;refine(jB _ d _ _ _ _ (uH G1) (uH G2) L4).mono ?_;rintro e w4 ⟨v,rfl,⟨n2,a2,y,L2,rfl,i1⟩,f⟩;have I:Below (w.heap.size+1) M w4:=ax.trans (f.mono (by simp at s1;omega));have K:=(uH X3).below f (by simp at s1;omega);have y0:=K.c0;have y1:=K.c1;have f0:=K.free 0;have f1:=K.free 1;have I1:=aa i1;clear i1 f K))
  have hz:=uH ak V (uH G4)
  have HI:=aa (hz▸uH I1)
  have HE:=aa (show bI (af d V)=bI z by rw[hz])
  clear hz
  go_wp2
  refine bodyPost_ret (v:=.tuple #[.agg #[.bool n2,.slice a2 L2.length y],.int .i64 (bI (af d V))]) (by simp[results,Tryz.results252,go_sem,y0,y1]) rfl ⟨.agg #[.bool n2,.slice a2 L2.length y],?_,?_,?_⟩
  ·rw[(uH N).1,uH HE]
  ·rw[(uH N).2];exact aw.stored (uH HI) (by simp;omega) (by simp;omega) (by simp;omega) _ _
  ·exact(((uH am).trans (I.mono (by omega))).setCell (by simp) _).setCell (by simp) _
end Go.Proofs.YtlnphkioddknfaaGreatDoor
namespace Go.Proofs.YtlnphkioddknfaaGreatDoor
open Go.RowKit
theorem qx(ao bo:Option Addr)(ca cb:Nat)(A B:List Nat)(w:World)(hA:ag w ao ca A)(hB:ag w bo cb B)(la:A.length≤1073741824)(lb:B.length≤1073741824):
  Calls Tryz.prog 278 #[.slice ao A.length ca,.slice bo B.length cb] w fun e w'=>∃U K L',e=.returned (.slice U L'.length K)∧ag w' U K L'∧bN w.heap.size U L'∧L'.length=A.length+B.length∧an L'=an A*an B∧Below w.heap.size w w':=by
 obtain⟨i0,hi,m,bj,bm⟩:=info_parts Tryz.info133
 obtain⟨n,hn⟩:∃n,n=A.length+B.length:=⟨_,rfl⟩
 have HN:=aa hn
 have n1:n≤2147483648:=by omega
 have n2:A.length+B.length≤n:=by omega
 clear hn
 go_enter Tryz.func278,Tryz.ntmps278
 go_wp2_with(at_make;have hn:=uH HN;refine wpList_make_full _ rfl _ _ 43 rfl w.heap.size 133 i0 (.int .u32 0) 1 Tryz.underlying43 hi m bj .i64 .i64 _ _ n rfl rfl (by omega) (by omega) (by rw[bm];omega) (by unfold maxLen;omega) (Nat.le_refl _) ?_;clear hn;intro w1 O F)
 have L:=bR.made O
 have am:Below w.heap.size w w1:=(Below.refl _ _).grown F (Nat.le_refl _) (fun k h=>by simp at h)
 clear O F
 go_wp2
 go_loopw[17] (fun c wr=>∃(i:Nat) (P:List Nat),i≤A.length∧c=.int .i64 i∧bR wr w.heap.size P∧P.length=n∧bf P∧Below w.heap.size w wr∧Hid (an P=an (A.take i)*an B)∧Hid (∀j,i+B.length≤j→P[j]?.getD 0=0))
  (fun c _=>A.length-(intOf c).toNat)
 case atStart=>
  refine⟨0,List.replicate n 0,Nat.zero_le _,rfl,L,by simp,bf.zeros _,am,?_,?_⟩
  ·unfold Hid
   have:∀k,an (List.replicate k 0)=0:=by intro k;induction k with|zero=>rfl|succ k ih=>simp[List.replicate_succ,an,ih]
   rw[this];simp[an]
  ·intro j _
   rw[List.getElem?_replicate];split<;>rfl
 case round=>
  obtain⟨i,P,b0,rfl,hr,aj,hf,N,hv,H⟩:=hrel
  by_cases ax:i<A.length
  ·obtain⟨x,hx⟩:∃x,A[i]?.getD 0=x:=⟨_,rfl⟩
   have bx:x<4294967296:=by rw[←hx];exact hA.lt i
   obtain⟨b1,o1,bn,a5,a6⟩:=hA.ne (by omega)
   have V:=a6 i ax
   rw[hx]at V
   have HX:=aa hx
   have aI:=aa V
   have HR:=aa hr
   have bA:=aa ax
   clear hx a6 V hr L am
   subst bn
   have bt:(i:Int)<(A.length:Int):=by omega
   go_wp2
   go_loopw[7,22] (fun c k wq=>∃(y:Nat) (d:Nat) (Q:List Nat),d≤B.length∧k=.int .i64 d∧c=.int .u64 y∧y<4294967296∧bR wq w.heap.size Q∧Q.length=n∧bf Q∧Below w.heap.size w wq∧Hid (an Q+4294967296^(i+d)*y=an (A.take i)*an B+4294967296^i*x*an (B.take d))∧Hid (∀j,i+B.length≤j→Q[j]?.getD 0=0))
    (fun _ k _=>B.length-(intOf k).toNat)
   case atStart=>exact⟨0,0,P,Nat.zero_le _,rfl,rfl,by omega,uH HR,aj,hf,N,by unfold Hid;simp[an];exact hv.out,H⟩
   case round=>
    obtain⟨y,d,Q,b3,rfl,rfl,hy,f,a7,ak,I,t,D⟩:=hrel
    by_cases bb:d<B.length
    ·obtain⟨z,hz⟩:∃z,B[d]?.getD 0=z:=⟨_,rfl⟩
     have bz:z<4294967296:=by rw[←hz];exact hB.lt d
     obtain⟨q,hq⟩:∃q,Q[i+d]?.getD 0=q:=⟨_,rfl⟩
     obtain⟨b2,o2,br,a9,ba⟩:=hB.ne (by omega)
     have X:=ba d bb
     rw[hz]at X
     have bq:q<4294967296:=by
      rw[←hq]
      by_cases hh:i+d<Q.length
      ·rw[List.getElem?_eq_getElem hh];exact ak _ (List.getElem_mem hh)
      ·rw[List.getElem?_eq_none (by omega)];decide
     have dA:wr.cell? ⟨b1,o1+i,none⟩=some (.int .u32 (x:Int)):=by rw[I.cell (p:=⟨b1,o1+i,none⟩) a5];exact uH aI
     have dB:wr.cell? ⟨b2,o2+d,none⟩=some (.int .u32 (z:Int)):=by rw[I.cell (p:=⟨b2,o2+d,none⟩) a9];exact X
     have dQ:=f.cell (i+d) (by omega)
     rw[hq]at dQ
     have fQ:=f.free (i+d)
     have bc:=Aa x z bx bz
     obtain⟨bv,bw⟩:=DS x z bx bz
     have a0:=Ab B Q (an (A.take i)*an B) x i d y z q (by omega) hz hq t.out
     have l:∀j,i+B.length≤j→(Q.set (i+d) ((y+(x*z+q))%4294967296))[j]?.getD 0=0:=fun j hj=>by rw[fg _ _ _ _ (by omega)];exact D.out j hj
     have be:=aa a0
     have Y:=aa l
     have Z:=aa f
     obtain⟨ec,ed⟩:=xE x y z q
     have EC:=aa ec
     have ED:=aa ed
     have a1:(y+(x*z+q))/4294967296<4294967296:=by omega
     have BY:=aa a1
     clear a0 l f ec ed hz hq ba X t D a1 bc hv H
     subst br
     have bE:(d:Int)<(B.length:Int):=by omega
     have bi:(i:Int)+(d:Int)<(n:Int):=by omega
     go_wp2
     go_quiet (fail)
     go_wp2
     have G:=((uH Z).drewN nq).set (i+d) ((y+(x*z+q))%4294967296)
     rw[uH EC]at G
     go_roundw
     case rel=>exact⟨(y+(x*z+q))/4294967296,d+1,Q.set (i+d) ((y+(x*z+q))%4294967296),by omega,by go_num,cN (uH ED).symm,uH BY,G,by simpa using a7,ak.set _ _ (by omega),(below_drewN I nq).setCell (by simp) _,uH be,uH Y⟩
     case measure=>simp[intOf];omega
    ·have a2:d=B.length:=by omega
     rw[a2]at t
     have m:=D.out (i+B.length) (by omega)
     have M:=DT A B Q x i y (by omega) (uH HX) m t.out
     have l:∀j,i+1+B.length≤j→(Q.set (i+B.length) y)[j]?.getD 0=0:=fun j hj=>by rw[fg _ _ _ _ (by omega)];exact D.out j (by omega)
     have dQ:=f.cell (i+B.length) (by omega)
     rw[m]at dQ
     have fQ:=f.free (i+B.length)
     have a3:=aa M
     have Y:=aa l
     have Z:=aa f
     have bi:(i:Int)+(B.length:Int)<(n:Int):=by omega
     clear M l f t D m a2 hv H aI
     go_wp2
     have G:=(uH Z).set (i+B.length) y
     go_roundw
     case rel=>exact⟨i+1,Q.set (i+B.length) y,by omega,by go_num,G,by simpa using a7,ak.set _ _ hy,I.setCell (by simp) _,uH a3,uH Y⟩
     case measure=>simp[intOf];omega
  ·have a4:i=A.length:=by omega
   have ae:=hv.out
   rw[a4,List.take_length]at ae
   have HV:=aa ae
   have HR:=aa hr
   clear ae hv H hr a4
   go_wp2
   go_ret
   exact⟨some ⟨w.heap.size,0,none⟩,n,P,by rw[aj];rfl,(uH HR).limbs hf _ (by omega),.inr ⟨_,_,rfl,Nat.le_refl _⟩,by rw[aj];exact uH HN,uH HV,N⟩
attribute [local go_sem ↓] Go.wp_at_zero Go.wp_at_succ
theorem Ej(A B:List Nat)(d:bP A)(cB:bP B)(z:A.length≤512)(D:B.length≤512)(h:512<A.length+B.length-1):¬an A*an B<dy:=by
 have f:A≠ []:=by rintro rfl;simp at h;omega
 have l:B≠ []:=by rintro rfl;simp at h;omega
 have m:=k8 A (d.resolve_left f)
 have t:=k8 B (cB.resolve_left l)
 have y:=Nat.mul_le_mul m t
 rw[←Nat.pow_add]at y
 have F:dy≤4294967296^(A.length-1+(B.length-1)):=by
  unfold dy
  exact Nat.pow_le_pow_right (by decide) (show k9≤A.length-1+(B.length-1) by unfold k9;omega)
 omega
theorem Ek(f l:Bool)(ao D:Option Addr)(F G:Nat)(A B:List Nat)(w:World)(hA:ag w ao F A)(hB:ag w D G B)(la:A.length≤35184372088830)(lb:B.length≤35184372088830):
  Calls Tryz.prog 265 #[.agg #[.bool f,.slice ao A.length F],.agg #[.bool l,.slice D B.length G]] w fun e t=>∃v,e=.returned (.tuple #[v,.int .i64 (pw (av f A&&av l B) (af f A*af l B))])∧aw w.heap.size t v (py (av f A&&av l B) (af f A*af l B))∧Below w.heap.size w t:=by
 have hC:(av f A&&av l B)=true→bP A∧bP B:=fun h=>by
  simp only[Bool.and_eq_true]at h;exact⟨(ay h.1).2.1,(ay h.2).2.1⟩
 have hL:(av f A&&av l B)=true→A.length≤512∧B.length≤512∧(512<A.length+B.length-1→bI (af f A*af l B)=2∧dz (af f A*af l B)=0):=fun h=>by
  simp only[Bool.and_eq_true]at h
  have r1:=ay h.1
  have y:=ay h.2
  refine⟨r1.1,y.1,fun hb=>?_⟩
  have Q:¬(af f A*af l B).natAbs<dy:=by
   rw[Int.natAbs_mul,aR,aR]
   exact Ej A B r1.2.1 y.2.1 r1.1 y.1 hb
  constructor
  ·unfold bI;rw[if_neg Q]
  ·unfold dz;rw[if_neg Q]
 have U:∀L:List Nat,an L=an A*an B→af (f != l) L=af f A*af l B:=by
  intro L h;unfold af;rw[h];cases f<;>cases l<;>simp[Int.neg_mul,Int.mul_neg]
 have HC:=aa hC
 have HL:=aa hL
 have ae:=aa U
 clear hL U
 have H2:=aa (show uE f A l B=if(av f A&&av l B)then 0 else 1 from rfl)
 clear hC
 generalize am:(av f A&&av l B)=ok at*
 generalize af f A*af l B=z at*
 clear am
 go_enter Tryz.func265,Tryz.ntmps265
 go_wp2_with fail
 have K:Below w.heap.size w (((w.alloc (.cells #[.bool f,.slice ao A.length F] 45)).alloc (.cells #[.bool l,.slice D B.length G] 45)).alloc (.cells #[.bool false,.slice none 0 0] 45)):=
  (((Below.refl _ _).alloc (Nat.le_refl _) _).alloc (by simp) _).alloc (by simp;omega) _
 refine(jS f l ao D F G A B _ (hA.below K) (hB.below K) la lb).mono ?_
 rintro e I ⟨rfl,d⟩
 have aI:w.heap.size+3≤I.heap.size:=by have:=d.size;simpa using this
 have m:Below w.heap.size w I:=K.trans (d.mono (by simp;omega))
 have p0:I.cell? ⟨w.heap.size,0,none⟩=some (.bool f):=by rw[d.cell (p:=⟨w.heap.size,0,none⟩) (by simp;omega)];simp[go_sem]
 have p1:I.cell? ⟨w.heap.size,1,none⟩=some (.slice ao A.length F):=by rw[d.cell (p:=⟨w.heap.size,1,none⟩) (by simp;omega)];simp[go_sem]
 have q0:I.cell? ⟨w.heap.size+1,0,none⟩=some (.bool l):=by rw[d.cell (p:=⟨w.heap.size+1,0,none⟩) (by simp)];simp[go_sem]
 have q1:I.cell? ⟨w.heap.size+1,1,none⟩=some (.slice D B.length G):=by rw[d.cell (p:=⟨w.heap.size+1,1,none⟩) (by simp)];simp[go_sem]
 have y:aA I (w.heap.size+2) (.bool false) (.slice none 0 0):=by
  have:=aA.new ((w.alloc (.cells #[.bool f,.slice ao A.length F] 45)).alloc (.cells #[.bool l,.slice D B.length G] 45)) (.bool false) (.slice none 0 0)
  exact aA.below (by simpa using this) d (by simp)
 have PA:Hid (aA I w.heap.size (.bool f) (.slice ao A.length F)):=(((aA.new _ _ _).old _).old _).below d (by simp;omega)
 have PB:Hid (aA I (w.heap.size+1) (.bool l) (.slice D B.length G)):=by
  have:=(aA.new (w.alloc (.cells #[.bool f,.slice ao A.length F] 45)) (.bool l) (.slice D B.length G)).old (.cells #[.bool false,.slice none 0 0] 45)
  exact aA.below (by simpa using this) d (by simp)
 rw[uH H2]
 clear d H2 K
 cases ok
 ·simp only[Bool.false_eq_true,if_false]
  have V:=y.c0;have X:=y.c1;have f0:=y.free 0;have f1:=y.free 1
  go_wp2
  refine bodyPost_ret (v:=.tuple #[.agg #[.bool false,.slice none 0 0],.int .i64 1]) (by simp[results,Tryz.results265,go_sem,V,X]) rfl ⟨.agg #[.bool false,.slice none 0 0],by rw[lW],by rw[lZ];exact aw.zero _ _ _ _,?_⟩
  exact(m.setCell (by simp;omega) _).setCell (by simp;omega) _
 ·obtain⟨cA,cB⟩:=uH HC rfl
  obtain⟨l1,l2,M⟩:=uH HL rfl
  have H:=aa M
  clear cA cB M HC HL
  simp only[if_true]
  by_cases Y:512<A.length+B.length-1
  ·have hE:=aa (uH H Y)
   have V:=y.c0;have X:=y.c1;have f0:=y.free 0;have f1:=y.free 1
   have N:(512:Int)<(A.length:Int)+(B.length:Int)-1:=by omega
   clear H
   go_wp2
   refine bodyPost_ret (v:=.tuple #[.agg #[.bool false,.slice none 0 0],.int .i64 2]) (by simp[results,Tryz.results265,go_sem,V,X]) rfl ⟨.agg #[.bool false,.slice none 0 0],by rw[gh,(uH hE).1],by rw[gi,(uH hE).2];exact aw.zero _ _ _ _,?_⟩
   exact(m.setCell (by simp;omega) _).setCell (by simp;omega) _
  have N:¬(512:Int)<(A.length:Int)+(B.length:Int)-1:=by omega
  clear H
  go_wp2
  refine au (fun W=>W=I) rfl ?_
  rintro O e0
  subst e0
  have x0:aA O w.heap.size (.bool f) (.slice ao A.length F):=uH PA
  have x1:aA O (w.heap.size+1) (.bool l) (.slice D B.length G):=uH PB
  have hK:∀t,Below (w.heap.size+2) O t→Below (w.heap.size+2) O t∧t.cell? ⟨w.heap.size,0,none⟩=some (.bool f)∧t.cell? ⟨w.heap.size+1,0,none⟩=some (.bool l)∧t.cell? ⟨w.heap.size,1,none⟩=some (.slice ao A.length F)∧t.cell? ⟨w.heap.size+1,1,none⟩=some (.slice D B.length G):=fun t h=>
   ⟨h,(x0.below h (by omega)).c0,(x1.below h (by omega)).c0,(x0.below h (by omega)).c1,(x1.below h (by omega)).c1⟩
  have HK:=aa hK
  have HA:=aa (hA.below m)
  have HB:=aa (hB.below m)
  have X2:=aa y
  have aj:=aa m
  clear hK hA hB x0 x1 y m p0 p1 q0 q1 PA PB
  go_region_held3(fun t=>Below (w.heap.size+2) O t∧t.cell? ⟨w.heap.size,0,none⟩=some (.bool f)∧t.cell? ⟨w.heap.size+1,0,none⟩=some (.bool l)∧t.cell? ⟨w.heap.size,1,none⟩=some (.slice ao A.length F)∧t.cell? ⟨w.heap.size+1,1,none⟩=some (.slice D B.length G))
   (first|exact uH HK _ (Below.refl _ _).drew|exact uH HK _ (by assumption)|exact uH HK _ ((Z.setCell (by simp) _).setCell (by simp) _))
   (first|(go_at_call 278;refine(qx ao D F G A B _ ((uH HA).below ((Below.refl _ _).drew)) ((uH HB).below ((Below.refl _ _).drew)) (by omega) (by omega)).mono ?_;rintro e w3 ⟨a0,ax,L',rfl,g1,g2,g3,g4,d⟩;have ak:Below (w.heap.size+2) O w3:=((Below.refl _ _).drew).trans (d.mono (by simp;omega));have X3:=aa ((uH X2).drew.below d (by simp;omega));have G1:=aa g1;have G2:=aa g2;have G4:=aa g4;have L4:L'.length≤35184372088832:=(by omega);have s1:=d.size;clear g1 g2 g4 g3 d)|(go_at_call 269;refine(jB _ (f != l) _ _ _ _ (uH G1) (uH G2) L4).mono ?_;rintro e w4 ⟨v,rfl,⟨n2,a2,c2,L2,rfl,i1⟩,m⟩;have Z:Below (w.heap.size+2) O w4:=ak.trans (m.mono (by simp at s1;omega));have X4:=(uH X3).below m (by simp at s1;omega);have V:=X4.c0;have X:=X4.c1;have f0:=X4.free 0;have f1:=X4.free 1;have I1:=aa i1;clear i1 m X4))
  have hz:=uH ae L' (uH G4)
  have HI:=aa (hz▸uH I1)
  have HE:=aa (show bI (af (f != l) L')=bI z by rw[hz])
  clear hz
  go_wp2
  refine bodyPost_ret (v:=.tuple #[.agg #[.bool n2,.slice a2 L2.length c2],.int .i64 (bI (af (f != l) L'))]) (by simp[results,Tryz.results265,go_sem,V,X]) rfl ⟨.agg #[.bool n2,.slice a2 L2.length c2],?_,?_,?_⟩
  ·rw[gh,uH HE]
  ·rw[gi];exact aw.stored (uH HI) (by simp;omega) (by simp;omega) (by simp;omega) _ _
  ·exact(((uH aj).trans (Z.mono (by omega))).setCell (by simp;omega) _).setCell (by simp;omega) _
end Go.Proofs.YtlnphkioddknfaaGreatDoor
