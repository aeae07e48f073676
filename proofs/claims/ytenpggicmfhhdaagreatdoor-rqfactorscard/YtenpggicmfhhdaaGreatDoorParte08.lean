/- Part 8 of the texts. -/
import Derived.Test.YtenpggicmfhhdaaGreatDoorParte07
set_option maxHeartbeats 2000000
namespace Go.Proofs.YtenpggicmfhhdaaGreatDoor
open Go.RowKit
theorem vq(x p:Nat)(d:x<4294967296)(f:p≤31):IntKind.u64.wrap ((x:Int)*2^p)=((x*2^p:Nat):Int):=by
 have h:=pe x p d f
 have e:(x:Int)*2^p=((x*2^p:Nat):Int):=by simp
 rw[e]
 clear e
 generalize x*2^p=z at*
 simp only[IntKind.wrap,IntKind.signed,IntKind.bits]
 simp
 omega
theorem Bp(x p s:Nat)(f:x<4294967296)(l:p≤31)(m:s<2^p):
  bits BinOp.or IntKind.u32 (s:Int) (IntKind.u64.wrap ((x:Int)*2^p)%4294967296)=((s+(x*2^p)%4294967296:Nat):Int)∧IntKind.u64.wrap ((x:Int)*2^p)/4294967296%4294967296=(((x*2^p)/4294967296:Nat):Int)∧s+(x*2^p)%4294967296<4294967296:=by
 have h:=pe x p f l
 have d:s<4294967296:=Nat.lt_of_lt_of_le m (by have:=Nat.pow_le_pow_right (n:=2) (by decide) (show p≤32 by omega);simpa using this)
 have e:=AZ s ((x*2^p)%4294967296) p m (xB x p (by omega))
 have y:s|||(x*2^p)%4294967296<2^32:=Nat.or_lt_two_pow (by omega) (by omega)
 rw[vq x p f l]
 generalize x*2^p=z at*
 have t:((z:Nat):Int)%4294967296=((z%4294967296:Nat):Int):=by omega
 rw[t,u32_or_nat s (z%4294967296) d (by omega),e]
 refine⟨rfl,by omega,by omega⟩
theorem qy(ao:Option Addr)(ca:Nat)(A:List Nat)(l p:Nat)(m:Int)(w:World)(hA:af w ao ca A)(la:A.length≤1073741824)(hm:m=32*(l:Int)+(p:Int))(hp:p≤31)(hl:l≤1073741824):
  Calls Tryz.prog 183 #[.slice ao A.length ca,.int .i64 m] w fun e w'=>∃K F O,e=.returned (.slice K O.length F)∧af w' K F O∧bI w.heap.size K O∧O.length=A.length+l+1∧ah O=4294967296^l*2^p*ah A∧Below w.heap.size w w':=by
 obtain⟨i0,hi,aI,a0,a1⟩:=info_parts Tryz.info139
 have hd:m/32=(l:Int):=by omega
 have hr:m%32=(p:Int):=by omega
 have a4:0≤m:=by omega
 have a5:m≤68719476735:=by omega
 clear hm
 go_enter Tryz.func183,Tryz.ntmps183
 go_wp2_with(at_make;refine wpList_make_full _ rfl _ _ 106 rfl w.heap.size 139 i0 (.int .u32 0) 1 Tryz.underlying106 hi aI a0 .i64 .i64 _ _ (A.length+l+1) rfl rfl (by omega) (by omega) (by rw[a1];omega) (by unfold maxLen;omega) (Nat.le_refl _) ?_;intro w1 I D)
 have Q:=bO.made I
 have ae:Below w.heap.size w w1:=(Below.refl _ _).grown D (Nat.le_refl _) (fun k h=>by simp at h)
 clear I D
 go_wp2
 go_loopw[22] (fun c wr=>∃(i:Nat) (S:List Nat),i≤A.length∧c=.int .i64 i∧bO wr w.heap.size S∧S.length=A.length+l+1∧bd S∧Below w.heap.size w wr∧Hid (ah S=4294967296^l*2^p*ah (A.take i))∧Hid (S[i+l]?.getD 0<2^p)∧Hid (∀j,i+l<j→S[j]?.getD 0=0))
  (fun c _=>A.length-(intOf c).toNat)
 case atStart=>
  refine⟨0,List.replicate (A.length+l+1) 0,Nat.zero_le _,rfl,Q,by simp,bd.zeros _,ae,?_,?_,?_⟩
  ·unfold Hid
   have:∀k,ah (List.replicate k 0)=0:=by intro k;induction k with|zero=>rfl|succ k ih=>simp[List.replicate_succ,ah,ih]
   rw[this];simp[ah]
  ·unfold Hid
   have:(List.replicate (A.length+l+1) 0)[0+l]?.getD 0=0:=by rw[List.getElem?_replicate];split<;>rfl
   rw[this];exact Nat.pow_pos (by decide)
  ·intro j _
   rw[List.getElem?_replicate];split<;>rfl
 case round=>
  obtain⟨i,S,a6,rfl,d,N,hf,t,hv,y,z⟩:=hrel
  by_cases aj:i<A.length
  ·obtain⟨x,hx⟩:∃x,A[i]?.getD 0=x:=⟨_,rfl⟩
   have bx:x<4294967296:=by rw[←hx];exact hA.lt i
   obtain⟨s,hs⟩:∃s,S[i+l]?.getD 0=s:=⟨_,rfl⟩
   obtain⟨b1,o1,a2,Y,Z⟩:=hA.ne (by omega)
   have L:=Z i aj
   rw[hx]at L
   have dA:wr.cell? ⟨b1,o1+i,none⟩=some (.int .u32 (x:Int)):=by rw[t.cell (p:=⟨b1,o1+i,none⟩) Y];exact L
   have dS:=d.cell (i+l) (by omega)
   rw[hs]at dS
   have dT:=d.cell (i+l+1) (by omega)
   rw[z.out _ (by omega)]at dT
   have T:s<2^p:=by rw[←hs];exact y.out
   obtain⟨u1,u2,u3⟩:=Bp x p s bx hp T
   have U:=A7 A S i l p x s (by omega) hx hs (z.out _ (by omega)) hv.out
   have V:=vk x p bx hp
   have f:((S.set (i+l) (s+(x*2^p)%4294967296)).set (i+l+1) ((x*2^p)/4294967296))[i+1+l]?.getD 0<2^p:=by
    rw[show i+1+l=i+l+1 by omega,List.getElem?_set_self (by simp;omega)];exact V
   have G:∀j,i+1+l<j→((S.set (i+l) (s+(x*2^p)%4294967296)).set (i+l+1) ((x*2^p)/4294967296))[j]?.getD 0=0:=fun j hj=>by
    rw[eH _ _ _ _ (by omega),eH _ _ _ _ (by omega)];exact z.out j (by omega)
   have H:(x*2^p)/4294967296<4294967296:=by have:=pe x p bx hp;omega
   have U1:=aa u1;have U2:=aa u2;have U3:=aa u3;have am:=aa U;have av:=aa f;have ax:=aa G;have HH:=aa H
   have fS:=d.free (i+l)
   have fT:=d.free (i+l+1)
   have HR:=aa d
   clear u1 u2 u3 U f G V H T hx hs d hv y z Z L
   subst a2
   have a3:(i:Int)<(A.length:Int):=by omega
   go_wp2
   have r1:=((uH HR).set (i+l) (s+(x*2^p)%4294967296)).set (i+l+1) ((x*2^p)/4294967296)
   rw[←uH U1,←uH U2]at r1
   go_roundw
   case rel=>exact⟨i+1,_,by omega,by go_num,r1,by simpa using N,(hf.set _ _ (uH U3)).set _ _ (uH HH),(t.setCell (by simp) _).setCell (by simp) _,uH am,uH av,uH ax⟩
   case measure=>simp[intOf];omega
  ·have X:i=A.length:=by omega
   have M:=hv.out
   rw[X,List.take_length]at M
   have HV:=aa M
   have HR:=aa d
   clear M hv z d X y
   go_wp2
   go_ret
   exact⟨some ⟨w.heap.size,0,none⟩,A.length+l+1,S,by rw[N];rfl,(uH HR).limbs hf _ (by omega),.inr ⟨_,_,rfl,Nat.le_refl _⟩,N,uH HV,t⟩
theorem xM(f d p:Nat)(l:f<4294967296)(m:d<4294967296):
  bits BinOp.or IntKind.u64 (f:Int) ((d:Int)*4294967296)/2^p%4294967296=(((f+4294967296*d)/2^p%4294967296:Nat):Int):=by
 have e:(d:Int)*4294967296=((d*2^32:Nat):Int):=by simp
 have h:=Nat.two_pow_add_eq_or_of_lt (i:=32) (b:=f) (by omega) d
 rw[e,u64_or_nat f (d*2^32) (by omega) (by omega),Nat.or_comm,Nat.mul_comm d,←h]
 rw[show 2^32*d+f=f+4294967296*d by omega]
 simp
theorem nJ(ao:Option Addr)(ca:Nat)(A:List Nat)(l p:Nat)(m:Int)(w:World)(I:af w ao ca A)(la:A.length≤1073741824)(hm:m=32*(l:Int)+(p:Int))(hp:p≤31)(hl:l≤1073741824):
  Calls Tryz.prog 182 #[.slice ao A.length ca,.int .i64 m] w fun e w'=>∃K G Q,e=.returned (.slice K Q.length G)∧af w' K G Q∧bI w.heap.size K Q∧Q.length≤A.length∧ah Q=ah A/(4294967296^l*2^p)∧Below w.heap.size w w':=by
 obtain⟨i0,hi,a1,a2,a3⟩:=info_parts Tryz.info139
 have hd:m/32=(l:Int):=by omega
 have hr:m%32=(p:Int):=by omega
 have ba:0≤m:=by omega
 have bb:m≤68719476735:=by omega
 clear hm
 by_cases T:A.length≤l
 ·have hz:ah A/(4294967296^l*2^p)=0:=by
   apply Nat.div_eq_of_lt
   have h1:=dL A I.2.1
   have h2:(4294967296:Nat)^A.length≤4294967296^l:=Nat.pow_le_pow_right (by decide) T
   have h3:=Nat.mul_le_mul_left (4294967296^l) (show 1≤2^p from Nat.pow_pos (by decide))
   omega
  have HZ:=aa hz
  generalize ah A/(4294967296^l*2^p)=q at*
  clear hz
  have av:(A.length:Int)≤(l:Int):=by omega
  go_enter Tryz.func182,Tryz.ntmps182
  go_wp2
  go_ret
  exact⟨none,0,[],rfl,af.nil _ _ _,.inl rfl,by simp,by rw[uH HZ];rfl,Below.refl _ _⟩
 obtain⟨n,hn⟩:∃n,n+l=A.length:=⟨A.length-l,by omega⟩
 have av:¬(A.length:Int)≤(l:Int):=by omega
 have U:=fun(S:List Nat) (k D F:Nat)=>ou A S I.2.1 k l p D F hp
 have V:=fun(S:List Nat)=>qk A S I.2.1 l p
 have L:=aa U
 have M:=aa V
 clear U V
 have n1:n≤1073741824:=by omega
 have n2:n+l≤A.length:=by omega
 have n3:A.length≤n+l:=by omega
 clear hn T
 go_enter Tryz.func182,Tryz.ntmps182
 go_wp2_with(at_make;refine wpList_make_full _ rfl _ _ 106 rfl w.heap.size 139 i0 (.int .u32 0) 1 Tryz.underlying106 hi a1 a2 .i64 .i64 _ _ n rfl rfl (by omega) (by omega) (by rw[a3];omega) (by unfold maxLen;omega) (Nat.le_refl _) ?_;intro w1 H t)
 have X:=bO.made H
 have ax:Below w.heap.size w w1:=(Below.refl _ _).grown t (Nat.le_refl _) (fun k h=>by simp at h)
 clear H t
 go_wp2
 go_loopw[25] (fun c wr=>∃(i:Nat) (S:List Nat),i≤n∧c=.int .i64 i∧bO wr w.heap.size S∧S.length=n∧bd S∧Below w.heap.size w wr∧Hid (ah (S.take i)=(ah A/(4294967296^l*2^p))%4294967296^i))
  (fun c _=>n-(intOf c).toNat)
 case atStart=>exact⟨0,List.replicate n 0,Nat.zero_le _,rfl,X,by simp,bd.zeros _,ax,by unfold Hid;simp[ah,Nat.mod_one]⟩
 case round=>
  obtain⟨i,S,be,rfl,f,O,hf,d,hv⟩:=hrel
  by_cases bc:i<n
  ·obtain⟨D,y⟩:∃x,A[i+l]?.getD 0=x:=⟨_,rfl⟩
   obtain⟨F,z⟩:∃x,A[i+l+1]?.getD 0=x:=⟨_,rfl⟩
   have b0:D<4294967296:=by rw[←y];exact I.lt _
   have aI:F<4294967296:=by rw[←z];exact I.lt _
   obtain⟨b1,o1,a4,aj,am⟩:=I.ne (by omega)
   have N:=am (i+l) (by omega)
   rw[y]at N
   have dA:wr.cell? ⟨b1,o1+(i+l),none⟩=some (.int .u32 (D:Int)):=by rw[d.cell (p:=⟨b1,o1+(i+l),none⟩) aj];exact N
   have cA:=I.below d
   have dS:=f.cell i (by omega)
   have fS:=f.free i
   generalize a5:S[i]?.getD 0=s at*
   have Y:=aa (uH L S i D F (by omega) y z hv.out)
   have a0:=aa z
   have HR:=aa f
   clear y z am N f hv a5 L M
   have a6:(i:Int)+(l:Int)<(A.length:Int):=by omega
   have a7:(0:Int)≤(i:Int)+(l:Int):=by omega
   have a9:(i:Int)<(n:Int):=by omega
   subst a4
   go_wp2
   go_quiet ((go_at_call 194;exact iq (gC (some ⟨b1,o1,none⟩) ca A _ (i+l+1) F _ (cA.below (below_drewN (Below.refl _ _) _)) (by omega) (by omega) a0)))
   go_wp2
   have e:=xM D F p b0 aI
   have r1:=((uH HR).drewN nq).set i (((D+4294967296*F)/2^p)%4294967296)
   rw[←e]at r1
   have Z:((D+4294967296*F)/2^p)%4294967296<4294967296:=Nat.mod_lt _ (by decide)
   go_roundw
   case rel=>exact⟨i+1,_,by omega,by go_num,r1,by simpa using O,hf.set _ _ Z,(below_drewN d nq).setCell (by simp) _,uH Y⟩
   case measure=>simp[intOf];omega
  ·have ae:=uH M S (by omega) (by rw[O,show n=i by omega];exact hv.out)
   have HV:=aa ae
   have HR:=aa f
   clear ae hv f L M
   go_wp2
   go_ret
   exact⟨some ⟨w.heap.size,0,none⟩,n,S,by rw[O];rfl,(uH HR).limbs hf _ (by omega),.inr ⟨_,_,rfl,Nat.le_refl _⟩,by omega,uH HV,d⟩
attribute [local go_sem ↓] Go.wp_at_zero Go.wp_at_succ
def sg(neg:Bool)(v:Nat):Int:=if neg then-(v:Int)else(v:Int)
theorem de(neg:Bool)(L:List Nat):ad neg L=sg neg (ah L):=rfl
def nK(neg:Bool)(L:List Nat)(n:Int):Int:=sg neg (if 0≤n then ah L*2^n.toNat else ah L/2^(-n).toNat)
def ks(neg:Bool)(L:List Nat)(n:Int):Bool:=aw neg L&&decide (-16384≤n∧n≤16384)
def si(neg:Bool)(L:List Nat)(n:Int):Int:=if ks neg L n then bD (nK neg L n)else if aw neg L then 2 else 1
def qz(neg:Bool)(L:List Nat)(n:Int):Int:=if ks neg L n then dj (nK neg L n)else 0
theorem Eh(neg:Bool)(A L:List Nat)(l p:Nat)(n:Int)(d:n=32*(l:Int)+(p:Int))(h:ah L=4294967296^l*2^p*ah A):ad neg L=nK neg A n:=by
 rw[de,h,jr]
 unfold nK
 rw[if_pos (by omega),show n.toNat=32*l+p by omega,Nat.mul_comm]
theorem xN(neg:Bool)(A L:List Nat)(l p:Nat)(n:Int)(d:n<0)(f:-n=32*(l:Int)+(p:Int))(h:ah L=ah A/(4294967296^l*2^p)):ad neg L=nK neg A n:=by
 rw[de,h,jr]
 unfold nK
 rw[if_neg (by omega),show(-n).toNat=32*l+p by omega]
theorem gE(d:Bool)(D:Option Addr)(F:Nat)(A:List Nat)(n:Int)(w:World)(hA:af w D F A)(la:A.length≤35184372088830)(bn:-9223372036854775808≤n∧n≤9223372036854775807):
  Calls Tryz.prog 162 #[.agg #[.bool d,.slice D A.length F],.int .i64 n] w fun e t=>∃v,e=.returned (.tuple #[v,.int .i64 (si d A n)])∧ay w.heap.size t v (qz d A n)∧Below w.heap.size w t:=by
 have aI:aw d A=false→dO d A=1∧si d A n=1∧qz d A n=0:=fun h=>by simp[dO,si,qz,ks,h]
 have a0:aw d A=true→¬(-16384≤n∧n≤16384)→dO d A=0∧si d A n=2∧qz d A n=0:=fun h h'=>by simp only[dO,si,qz,ks,h,decide_eq_false h'];simp
 have a1:aw d A=true→(-16384≤n∧n≤16384)→dO d A=0∧A.length≤512∧si d A n=bD (nK d A n)∧qz d A n=dj (nK d A n):=fun h h'=>by
  refine⟨by simp[dO,h],(aA h).1,?_,?_⟩
  ·unfold si ks;rw[h,decide_eq_true h',Bool.and_self,if_pos rfl]
  ·unfold qz ks;rw[h,decide_eq_true h',Bool.and_self,if_pos rfl]
 have a3:=fun(L:List Nat) (l p:Nat)=>Eh d A L l p n
 have a4:=fun(L:List Nat) (l p:Nat)=>xN d A L l p n
 have Q:=aa aI;have T:=aa a0;have U:=aa a1;have H:=aa a3;have I:=aa a4
 have a5:=fun t h'=>dD d D F A t h' la
 have a6:=aa a5
 clear aI a0 a1 a3 a4 a5
 generalize nK d A n=z at*
 generalize si d A n=er at*
 generalize qz d A n=nu at*
 generalize dO d A=ck at*
 generalize aw d A=rb at*
 go_enter Tryz.func162,Tryz.ntmps162
 go_wp2_with fail
 have ae:Below w.heap.size w ((w.alloc (.cells #[.bool d,.slice D A.length F] 108)).alloc (.cells #[.bool false,.slice none 0 0] 108)):=((Below.refl _ _).alloc (Nat.le_refl _) _).alloc (by simp) _
 refine(uH a6 _ (hA.below ae)).mono ?_
 rintro e w1 ⟨rfl,m⟩
 have bb:w.heap.size+2≤w1.heap.size:=by have:=m.size;simpa using this
 have f:Below w.heap.size w w1:=ae.trans (m.mono (by simp;omega))
 have X:aC w1 w.heap.size (.bool d) (.slice D A.length F):=((aC.new _ _ _).old _).below m (by simp;omega)
 have G:aC w1 (w.heap.size+1) (.bool false) (.slice none 0 0):=by
  have:=aC.new (w.alloc (.cells #[.bool d,.slice D A.length F] 108)) (.bool false) (.slice none 0 0)
  exact aC.below (by simpa using this) m (by simp)
 have p0:=X.c0;have p1:=X.c1
 clear m ae a6
 cases rb
 ·obtain⟨Y,y,Z⟩:=uH Q rfl
  have O:=aa (And.intro y Z)
  rw[Y]
  have y0:=G.c0;have y1:=G.c1;have f0:=G.free 0;have f1:=G.free 1
  clear Q T U H I Y y Z
  go_wp2
  refine bodyPost_ret (v:=.tuple #[.agg #[.bool false,.slice none 0 0],.int .i64 1]) (by simp[results,Tryz.results162,go_sem,y0,y1]) rfl ⟨.agg #[.bool false,.slice none 0 0],by rw[(uH O).1],by rw[(uH O).2];exact ay.zero _ _ _ _,?_⟩
  exact(f.setCell (by simp) _).setCell (by simp) _
 by_cases aj:-16384≤n∧n≤16384
 case neg=>
  obtain⟨Y,y,Z⟩:=uH T rfl aj
  have O:=aa (And.intro y Z)
  rw[Y]
  have y0:=G.c0;have y1:=G.c1;have f0:=G.free 0;have f1:=G.free 1
  clear Q T U H I Y y Z
  rcases(show n< -16384∨(¬n< -16384∧16384<n) by omega)with hx|⟨hx,bj⟩
  all_goals
   go_wp2
   refine bodyPost_ret (v:=.tuple #[.agg #[.bool false,.slice none 0 0],.int .i64 2]) (by simp[results,Tryz.results162,go_sem,y0,y1]) rfl ⟨.agg #[.bool false,.slice none 0 0],by rw[(uH O).1],by rw[(uH O).2];exact ay.zero _ _ _ _,?_⟩
   exact(f.setCell (by simp) _).setCell (by simp) _
 obtain⟨Y,c4,y,Z⟩:=uH U rfl aj
 have O:=aa (And.intro y Z)
 rw[Y]
 obtain⟨be,bi⟩:=aj
 clear Q T U Y y Z
 by_cases a7:n<0
 ·obtain⟨l,hl⟩:∃l:Nat,(l:Int)=(-n)/32:=⟨((-n)/32).toNat,by omega⟩
  obtain⟨p,hp⟩:∃p:Nat,(p:Int)=(-n)%32:=⟨((-n)%32).toNat,by omega⟩
  have q1:-n=32*(l:Int)+(p:Int):=by omega
  have am:=aa (fun L h=>uH I L l p a7 q1 h)
  have q2:p≤31:=by omega
  have q3:l≤512:=by omega
  have q4:n= -(32*(l:Int)+(p:Int)):=by omega
  have Q4:=aa q4
  have bc:IntKind.i64.wrap (-n)= -n:=by
   simp only[IntKind.wrap,IntKind.signed,IntKind.bits]
   simp
   omega
  clear H I hl hp q1 q4
  go_wp2
  refine ap (fun W=>W=w1) rfl ?_
  rintro N e0
  subst e0
  have hK:∀t,Below (w.heap.size+1) N t→Below (w.heap.size+1) N t∧t.cell? ⟨w.heap.size,0,none⟩=some (.bool d)∧t.cell? ⟨w.heap.size,1,none⟩=some (.slice D A.length F):=fun t h=>
   ⟨h,(X.below h (by omega)).c0,(X.below h (by omega)).c1⟩
  have HK:=aa hK
  have HA:=aa (hA.below f)
  have X2:=aa G
  have av:=aa f
  clear hK hA X G f p0 p1
  go_region_held3(fun t=>Below (w.heap.size+1) N t∧t.cell? ⟨w.heap.size,0,none⟩=some (.bool d)∧t.cell? ⟨w.heap.size,1,none⟩=some (.slice D A.length F))
   (first|exact uH HK _ (Below.refl _ _).drew|exact uH HK _ (by assumption)|exact uH HK _ ((K.setCell (by simp) _).setCell (by simp) _))
   (first|(go_at_call 182;refine(nJ D F A l p _ _ ((uH HA).below ((Below.refl _ _).drew)) (by omega) (by have:=uH Q4;omega) (by omega) (by omega)).mono ?_;rintro e w3 ⟨ba,a9,V,rfl,g1,g2,g3,g4,m⟩;have ax:Below (w.heap.size+1) N w3:=((Below.refl _ _).drew).trans (m.mono (by simp;omega));have X3:=aa ((uH X2).drew.below m (by simp;omega));have G1:=aa g1;have G2:=aa g2;have G4:=aa g4;have L4:V.length≤35184372088832:=(by omega);have s1:=m.size;clear g1 g2 g4 g3 m)|(go_at_call 181;refine(iT _ d _ _ _ _ (uH G1) (uH G2) L4).mono ?_;rintro e w4 ⟨v,rfl,⟨n2,a2,y,L2,rfl,i1⟩,f⟩;have K:Below (w.heap.size+1) N w4:=ax.trans (f.mono (by simp at s1;omega));have M:=(uH X3).below f (by simp at s1;omega);have y0:=M.c0;have y1:=M.c1;have f0:=M.free 0;have f1:=M.free 1;have I1:=aa i1;clear i1 f M))
  have hz:=uH am V (uH G4)
  have HI:=aa (hz▸uH I1)
  have HE:=aa (show bD (ad d V)=bD z by rw[hz])
  clear hz
  go_wp2
  refine bodyPost_ret (v:=.tuple #[.agg #[.bool n2,.slice a2 L2.length y],.int .i64 (bD (ad d V))]) (by simp[results,Tryz.results162,go_sem,y0,y1]) rfl ⟨.agg #[.bool n2,.slice a2 L2.length y],?_,?_,?_⟩
  ·rw[(uH O).1,uH HE]
  ·rw[(uH O).2];exact ay.stored (uH HI) (by simp;omega) (by simp;omega) (by simp;omega) _ _
  ·exact(((uH av).trans (K.mono (by omega))).setCell (by simp) _).setCell (by simp) _
 ·obtain⟨l,hl⟩:∃l:Nat,(l:Int)=n/32:=⟨(n/32).toNat,by omega⟩
  obtain⟨p,hp⟩:∃p:Nat,(p:Int)=n%32:=⟨(n%32).toNat,by omega⟩
  have q1:n=32*(l:Int)+(p:Int):=by omega
  have am:=aa (fun L h=>uH H L l p q1 h)
  have q2:p≤31:=by omega
  have q3:l≤512:=by omega
  have Q4:=aa q1
  clear H I hl hp q1
  go_wp2
  refine ap (fun W=>W=w1) rfl ?_
  rintro N e0
  subst e0
  have hK:∀t,Below (w.heap.size+1) N t→Below (w.heap.size+1) N t∧t.cell? ⟨w.heap.size,0,none⟩=some (.bool d)∧t.cell? ⟨w.heap.size,1,none⟩=some (.slice D A.length F):=fun t h=>
   ⟨h,(X.below h (by omega)).c0,(X.below h (by omega)).c1⟩
  have HK:=aa hK
  have HA:=aa (hA.below f)
  have X2:=aa G
  have av:=aa f
  clear hK hA X G f p0 p1
  go_region_held3(fun t=>Below (w.heap.size+1) N t∧t.cell? ⟨w.heap.size,0,none⟩=some (.bool d)∧t.cell? ⟨w.heap.size,1,none⟩=some (.slice D A.length F))
   (first|exact uH HK _ (Below.refl _ _).drew|exact uH HK _ (by assumption)|exact uH HK _ ((K.setCell (by simp) _).setCell (by simp) _))
   (first|(go_at_call 183;refine(qy D F A l p _ _ ((uH HA).below ((Below.refl _ _).drew)) (by omega) (by have:=uH Q4;omega) (by omega) (by omega)).mono ?_;rintro e w3 ⟨ba,a9,V,rfl,g1,g2,g3,g4,m⟩;have ax:Below (w.heap.size+1) N w3:=((Below.refl _ _).drew).trans (m.mono (by simp;omega));have X3:=aa ((uH X2).drew.below m (by simp;omega));have G1:=aa g1;have G2:=aa g2;have G4:=aa g4;have L4:V.length≤35184372088832:=(by omega);have s1:=m.size;clear g1 g2 g4 g3 m)|(go_at_call 181;refine(iT _ d _ _ _ _ (uH G1) (uH G2) L4).mono ?_;rintro e w4 ⟨v,rfl,⟨n2,a2,y,L2,rfl,i1⟩,f⟩;have K:Below (w.heap.size+1) N w4:=ax.trans (f.mono (by simp at s1;omega));have M:=(uH X3).below f (by simp at s1;omega);have y0:=M.c0;have y1:=M.c1;have f0:=M.free 0;have f1:=M.free 1;have I1:=aa i1;clear i1 f M))
  have hz:=uH am V (uH G4)
  have HI:=aa (hz▸uH I1)
  have HE:=aa (show bD (ad d V)=bD z by rw[hz])
  clear hz
  go_wp2
  refine bodyPost_ret (v:=.tuple #[.agg #[.bool n2,.slice a2 L2.length y],.int .i64 (bD (ad d V))]) (by simp[results,Tryz.results162,go_sem,y0,y1]) rfl ⟨.agg #[.bool n2,.slice a2 L2.length y],?_,?_,?_⟩
  ·rw[(uH O).1,uH HE]
  ·rw[(uH O).2];exact ay.stored (uH HI) (by simp;omega) (by simp;omega) (by simp;omega) _ _
  ·exact(((uH av).trans (K.mono (by omega))).setCell (by simp) _).setCell (by simp) _
end Go.Proofs.YtenpggicmfhhdaaGreatDoor
namespace Go.Proofs.YtenpggicmfhhdaaGreatDoor
open Go.RowKit
theorem pn(ao bo:Option Addr)(ca cb:Nat)(A B:List Nat)(w:World)(hA:af w ao ca A)(hB:af w bo cb B)(la:A.length≤1073741824)(lb:B.length≤1073741824):
  Calls Tryz.prog 203 #[.slice ao A.length ca,.slice bo B.length cb] w fun e w'=>∃T K L',e=.returned (.slice T L'.length K)∧af w' T K L'∧bI w.heap.size T L'∧L'.length=A.length+B.length∧ah L'=ah A*ah B∧Below w.heap.size w w':=by
 obtain⟨i0,hi,m,bi,bj⟩:=info_parts Tryz.info139
 obtain⟨n,hn⟩:∃n,n=A.length+B.length:=⟨_,rfl⟩
 have HN:=aa hn
 have n1:n≤2147483648:=by omega
 have n2:A.length+B.length≤n:=by omega
 clear hn
 go_enter Tryz.func203,Tryz.ntmps203
 go_wp2_with(at_make;have hn:=uH HN;refine wpList_make_full _ rfl _ _ 106 rfl w.heap.size 139 i0 (.int .u32 0) 1 Tryz.underlying106 hi m bi .i64 .i64 _ _ n rfl rfl (by omega) (by omega) (by rw[bj];omega) (by unfold maxLen;omega) (Nat.le_refl _) ?_;clear hn;intro w1 O F)
 have L:=bO.made O
 have am:Below w.heap.size w w1:=(Below.refl _ _).grown F (Nat.le_refl _) (fun k h=>by simp at h)
 clear O F
 go_wp2
 go_loopw[17] (fun c wr=>∃(i:Nat) (P:List Nat),i≤A.length∧c=.int .i64 i∧bO wr w.heap.size P∧P.length=n∧bd P∧Below w.heap.size w wr∧Hid (ah P=ah (A.take i)*ah B)∧Hid (∀j,i+B.length≤j→P[j]?.getD 0=0))
  (fun c _=>A.length-(intOf c).toNat)
 case atStart=>
  refine⟨0,List.replicate n 0,Nat.zero_le _,rfl,L,by simp,bd.zeros _,am,?_,?_⟩
  ·unfold Hid
   have:∀k,ah (List.replicate k 0)=0:=by intro k;induction k with|zero=>rfl|succ k ih=>simp[List.replicate_succ,ah,ih]
   rw[this];simp[ah]
  ·intro j _
   rw[List.getElem?_replicate];split<;>rfl
 case round=>
  obtain⟨i,P,bE,rfl,hr,ae,hf,N,hv,H⟩:=hrel
  by_cases av:i<A.length
  ·obtain⟨x,hx⟩:∃x,A[i]?.getD 0=x:=⟨_,rfl⟩
   have bx:x<4294967296:=by rw[←hx];exact hA.lt i
   obtain⟨b1,o1,bm,a4,a5⟩:=hA.ne (by omega)
   have U:=a5 i av
   rw[hx]at U
   have HX:=aa hx
   have ax:=aa U
   have HR:=aa hr
   have bv:=aa av
   clear hx a5 U hr L am
   subst bm
   have bp:(i:Int)<(A.length:Int):=by omega
   go_wp2
   go_loopw[7,22] (fun c k wq=>∃(y:Nat) (d:Nat) (Q:List Nat),d≤B.length∧k=.int .i64 d∧c=.int .u64 y∧y<4294967296∧bO wq w.heap.size Q∧Q.length=n∧bd Q∧Below w.heap.size w wq∧Hid (ah Q+4294967296^(i+d)*y=ah (A.take i)*ah B+4294967296^i*x*ah (B.take d))∧Hid (∀j,i+B.length≤j→Q[j]?.getD 0=0))
    (fun _ k _=>B.length-(intOf k).toNat)
   case atStart=>exact⟨0,0,P,Nat.zero_le _,rfl,rfl,by omega,uH HR,ae,hf,N,by unfold Hid;simp[ah];exact hv.out,H⟩
   case round=>
    obtain⟨y,d,Q,b0,rfl,rfl,hy,f,a6,aj,I,t,D⟩:=hrel
    by_cases ba:d<B.length
    ·obtain⟨z,hz⟩:∃z,B[d]?.getD 0=z:=⟨_,rfl⟩
     have bz:z<4294967296:=by rw[←hz];exact hB.lt d
     obtain⟨q,hq⟩:∃q,Q[i+d]?.getD 0=q:=⟨_,rfl⟩
     obtain⟨b2,o2,bn,a7,a9⟩:=hB.ne (by omega)
     have V:=a9 d ba
     rw[hz]at V
     have bq:q<4294967296:=by
      rw[←hq]
      by_cases hh:i+d<Q.length
      ·rw[List.getElem?_eq_getElem hh];exact aj _ (List.getElem_mem hh)
      ·rw[List.getElem?_eq_none (by omega)];decide
     have dA:wr.cell? ⟨b1,o1+i,none⟩=some (.int .u32 (x:Int)):=by rw[I.cell (p:=⟨b1,o1+i,none⟩) a4];exact uH ax
     have dB:wr.cell? ⟨b2,o2+d,none⟩=some (.int .u32 (z:Int)):=by rw[I.cell (p:=⟨b2,o2+d,none⟩) a7];exact V
     have dQ:=f.cell (i+d) (by omega)
     rw[hq]at dQ
     have fQ:=f.free (i+d)
     have bb:=xz x z bx bz
     obtain⟨br,bt⟩:=AX x z bx bz
     have aI:=xA B Q (ah (A.take i)*ah B) x i d y z q (by omega) hz hq t.out
     have l:∀j,i+B.length≤j→(Q.set (i+d) ((y+(x*z+q))%4294967296))[j]?.getD 0=0:=fun j hj=>by rw[eH _ _ _ _ (by omega)];exact D.out j hj
     have bc:=aa aI
     have X:=aa l
     have Y:=aa f
     obtain⟨ec,ed⟩:=vi x y z q
     have EC:=aa ec
     have ED:=aa ed
     have a0:(y+(x*z+q))/4294967296<4294967296:=by omega
     have BY:=aa a0
     clear aI l f ec ed hz hq a9 V t D a0 bb hv H
     subst bn
     have bA:(d:Int)<(B.length:Int):=by omega
     have be:(i:Int)+(d:Int)<(n:Int):=by omega
     go_wp2
     go_quiet (fail)
     go_wp2
     have G:=((uH Y).drewN nq).set (i+d) ((y+(x*z+q))%4294967296)
     rw[uH EC]at G
     go_roundw
     case rel=>exact⟨(y+(x*z+q))/4294967296,d+1,Q.set (i+d) ((y+(x*z+q))%4294967296),by omega,by go_num,cH (uH ED).symm,uH BY,G,by simpa using a6,aj.set _ _ (by omega),(below_drewN I nq).setCell (by simp) _,uH bc,uH X⟩
     case measure=>simp[intOf];omega
    ·have a1:d=B.length:=by omega
     rw[a1]at t
     have m:=D.out (i+B.length) (by omega)
     have M:=AY A B Q x i y (by omega) (uH HX) m t.out
     have l:∀j,i+1+B.length≤j→(Q.set (i+B.length) y)[j]?.getD 0=0:=fun j hj=>by rw[eH _ _ _ _ (by omega)];exact D.out j (by omega)
     have dQ:=f.cell (i+B.length) (by omega)
     rw[m]at dQ
     have fQ:=f.free (i+B.length)
     have a2:=aa M
     have X:=aa l
     have Y:=aa f
     have be:(i:Int)+(B.length:Int)<(n:Int):=by omega
     clear M l f t D m a1 hv H ax
     go_wp2
     have G:=(uH Y).set (i+B.length) y
     go_roundw
     case rel=>exact⟨i+1,Q.set (i+B.length) y,by omega,by go_num,G,by simpa using a6,aj.set _ _ hy,I.setCell (by simp) _,uH a2,uH X⟩
     case measure=>simp[intOf];omega
  ·have a3:i=A.length:=by omega
   have Z:=hv.out
   rw[a3,List.take_length]at Z
   have HV:=aa Z
   have HR:=aa hr
   clear Z hv H hr a3
   go_wp2
   go_ret
   exact⟨some ⟨w.heap.size,0,none⟩,n,P,by rw[ae];rfl,(uH HR).limbs hf _ (by omega),.inr ⟨_,_,rfl,Nat.le_refl _⟩,by rw[ae];exact uH HN,uH HV,N⟩
attribute [local go_sem ↓] Go.wp_at_zero Go.wp_at_succ
theorem Bq(A B:List Nat)(d:bM A)(cB:bM B)(z:A.length≤512)(D:B.length≤512)(h:512<A.length+B.length-1):¬ah A*ah B<di:=by
 have f:A≠ []:=by rintro rfl;simp at h;omega
 have l:B≠ []:=by rintro rfl;simp at h;omega
 have m:=kn A (d.resolve_left f)
 have t:=kn B (cB.resolve_left l)
 have y:=Nat.mul_le_mul m t
 rw[←Nat.pow_add]at y
 have F:di≤4294967296^(A.length-1+(B.length-1)):=by
  unfold di
  exact Nat.pow_le_pow_right (by decide) (show ko≤A.length-1+(B.length-1) by unfold ko;omega)
 omega
theorem Br(f l:Bool)(D F:Option Addr)(G H:Nat)(A B:List Nat)(w:World)(hA:af w D G A)(hB:af w F H B)(la:A.length≤35184372088830)(lb:B.length≤35184372088830):
  Calls Tryz.prog 195 #[.agg #[.bool f,.slice D A.length G],.agg #[.bool l,.slice F B.length H]] w fun e t=>∃v,e=.returned (.tuple #[v,.int .i64 (oB (aw f A&&aw l B) (ad f A*ad l B))])∧ay w.heap.size t v (oC (aw f A&&aw l B) (ad f A*ad l B))∧Below w.heap.size w t:=by
 have hC:(aw f A&&aw l B)=true→bM A∧bM B:=fun h=>by
  simp only[Bool.and_eq_true]at h;exact⟨(aA h.1).2.1,(aA h.2).2.1⟩
 have hL:(aw f A&&aw l B)=true→A.length≤512∧B.length≤512∧(512<A.length+B.length-1→bD (ad f A*ad l B)=2∧dj (ad f A*ad l B)=0):=fun h=>by
  simp only[Bool.and_eq_true]at h
  have r1:=aA h.1
  have y:=aA h.2
  refine⟨r1.1,y.1,fun hb=>?_⟩
  have T:¬(ad f A*ad l B).natAbs<di:=by
   rw[Int.natAbs_mul,aS,aS]
   exact Bq A B r1.2.1 y.2.1 r1.1 y.1 hb
  constructor
  ·unfold bD;rw[if_neg T]
  ·unfold dj;rw[if_neg T]
 have U:∀L:List Nat,ah L=ah A*ah B→ad (f != l) L=ad f A*ad l B:=by
  intro L h;unfold ad;rw[h];cases f<;>cases l<;>simp[Int.neg_mul,Int.mul_neg]
 have HC:=aa hC
 have HL:=aa hL
 have ae:=aa U
 clear hL U
 have H2:=aa (show sz f A l B=if(aw f A&&aw l B)then 0 else 1 from rfl)
 clear hC
 generalize av:(aw f A&&aw l B)=ok at*
 generalize ad f A*ad l B=z at*
 clear av
 go_enter Tryz.func195,Tryz.ntmps195
 go_wp2_with fail
 have M:Below w.heap.size w (((w.alloc (.cells #[.bool f,.slice D A.length G] 108)).alloc (.cells #[.bool l,.slice F B.length H] 108)).alloc (.cells #[.bool false,.slice none 0 0] 108)):=
  (((Below.refl _ _).alloc (Nat.le_refl _) _).alloc (by simp) _).alloc (by simp;omega) _
 refine(jj f l D F G H A B _ (hA.below M) (hB.below M) la lb).mono ?_
 rintro e K ⟨rfl,d⟩
 have aI:w.heap.size+3≤K.heap.size:=by have:=d.size;simpa using this
 have m:Below w.heap.size w K:=M.trans (d.mono (by simp;omega))
 have p0:K.cell? ⟨w.heap.size,0,none⟩=some (.bool f):=by rw[d.cell (p:=⟨w.heap.size,0,none⟩) (by simp;omega)];simp[go_sem]
 have p1:K.cell? ⟨w.heap.size,1,none⟩=some (.slice D A.length G):=by rw[d.cell (p:=⟨w.heap.size,1,none⟩) (by simp;omega)];simp[go_sem]
 have q0:K.cell? ⟨w.heap.size+1,0,none⟩=some (.bool l):=by rw[d.cell (p:=⟨w.heap.size+1,0,none⟩) (by simp)];simp[go_sem]
 have q1:K.cell? ⟨w.heap.size+1,1,none⟩=some (.slice F B.length H):=by rw[d.cell (p:=⟨w.heap.size+1,1,none⟩) (by simp)];simp[go_sem]
 have y:aC K (w.heap.size+2) (.bool false) (.slice none 0 0):=by
  have:=aC.new ((w.alloc (.cells #[.bool f,.slice D A.length G] 108)).alloc (.cells #[.bool l,.slice F B.length H] 108)) (.bool false) (.slice none 0 0)
  exact aC.below (by simpa using this) d (by simp)
 have PA:Hid (aC K w.heap.size (.bool f) (.slice D A.length G)):=(((aC.new _ _ _).old _).old _).below d (by simp;omega)
 have PB:Hid (aC K (w.heap.size+1) (.bool l) (.slice F B.length H)):=by
  have:=(aC.new (w.alloc (.cells #[.bool f,.slice D A.length G] 108)) (.bool l) (.slice F B.length H)).old (.cells #[.bool false,.slice none 0 0] 108)
  exact aC.below (by simpa using this) d (by simp)
 rw[uH H2]
 clear d H2 M
 cases ok
 ·simp only[Bool.false_eq_true,if_false]
  have V:=y.c0;have X:=y.c1;have f0:=y.free 0;have f1:=y.free 1
  go_wp2
  refine bodyPost_ret (v:=.tuple #[.agg #[.bool false,.slice none 0 0],.int .i64 1]) (by simp[results,Tryz.results195,go_sem,V,X]) rfl ⟨.agg #[.bool false,.slice none 0 0],by rw[kP],by rw[kQ];exact ay.zero _ _ _ _,?_⟩
  exact(m.setCell (by simp;omega) _).setCell (by simp;omega) _
 ·obtain⟨cA,cB⟩:=uH HC rfl
  obtain⟨l1,l2,N⟩:=uH HL rfl
  have I:=aa N
  clear cA cB N HC HL
  simp only[if_true]
  by_cases Y:512<A.length+B.length-1
  ·have hE:=aa (uH I Y)
   have V:=y.c0;have X:=y.c1;have f0:=y.free 0;have f1:=y.free 1
   have O:(512:Int)<(A.length:Int)+(B.length:Int)-1:=by omega
   clear I
   go_wp2
   refine bodyPost_ret (v:=.tuple #[.agg #[.bool false,.slice none 0 0],.int .i64 2]) (by simp[results,Tryz.results195,go_sem,V,X]) rfl ⟨.agg #[.bool false,.slice none 0 0],by rw[fJ,(uH hE).1],by rw[fL,(uH hE).2];exact ay.zero _ _ _ _,?_⟩
   exact(m.setCell (by simp;omega) _).setCell (by simp;omega) _
  have O:¬(512:Int)<(A.length:Int)+(B.length:Int)-1:=by omega
  clear I
  go_wp2
  refine ap (fun W=>W=K) rfl ?_
  rintro Q e0
  subst e0
  have x0:aC Q w.heap.size (.bool f) (.slice D A.length G):=uH PA
  have x1:aC Q (w.heap.size+1) (.bool l) (.slice F B.length H):=uH PB
  have hK:∀t,Below (w.heap.size+2) Q t→Below (w.heap.size+2) Q t∧t.cell? ⟨w.heap.size,0,none⟩=some (.bool f)∧t.cell? ⟨w.heap.size+1,0,none⟩=some (.bool l)∧t.cell? ⟨w.heap.size,1,none⟩=some (.slice D A.length G)∧t.cell? ⟨w.heap.size+1,1,none⟩=some (.slice F B.length H):=fun t h=>
   ⟨h,(x0.below h (by omega)).c0,(x1.below h (by omega)).c0,(x0.below h (by omega)).c1,(x1.below h (by omega)).c1⟩
  have HK:=aa hK
  have HA:=aa (hA.below m)
  have HB:=aa (hB.below m)
  have X2:=aa y
  have aj:=aa m
  clear hK hA hB x0 x1 y m p0 p1 q0 q1 PA PB
  go_region_held3(fun t=>Below (w.heap.size+2) Q t∧t.cell? ⟨w.heap.size,0,none⟩=some (.bool f)∧t.cell? ⟨w.heap.size+1,0,none⟩=some (.bool l)∧t.cell? ⟨w.heap.size,1,none⟩=some (.slice D A.length G)∧t.cell? ⟨w.heap.size+1,1,none⟩=some (.slice F B.length H))
   (first|exact uH HK _ (Below.refl _ _).drew|exact uH HK _ (by assumption)|exact uH HK _ ((Z.setCell (by simp) _).setCell (by simp) _))
   (first|(go_at_call 203;refine(pn D F G H A B _ ((uH HA).below ((Below.refl _ _).drew)) ((uH HB).below ((Below.refl _ _).drew)) (by omega) (by omega)).mono ?_;rintro e w3 ⟨a0,ax,L',rfl,g1,g2,g3,g4,d⟩;have am:Below (w.heap.size+2) Q w3:=((Below.refl _ _).drew).trans (d.mono (by simp;omega));have X3:=aa ((uH X2).drew.below d (by simp;omega));have G1:=aa g1;have G2:=aa g2;have G4:=aa g4;have L4:L'.length≤35184372088832:=(by omega);have s1:=d.size;clear g1 g2 g4 g3 d)|(go_at_call 181;refine(iT _ (f != l) _ _ _ _ (uH G1) (uH G2) L4).mono ?_;rintro e w4 ⟨v,rfl,⟨n2,a2,c2,L2,rfl,i1⟩,m⟩;have Z:Below (w.heap.size+2) Q w4:=am.trans (m.mono (by simp at s1;omega));have X4:=(uH X3).below m (by simp at s1;omega);have V:=X4.c0;have X:=X4.c1;have f0:=X4.free 0;have f1:=X4.free 1;have I1:=aa i1;clear i1 m X4))
  have hz:=uH ae L' (uH G4)
  have HI:=aa (hz▸uH I1)
  have HE:=aa (show bD (ad (f != l) L')=bD z by rw[hz])
  clear hz
  go_wp2
  refine bodyPost_ret (v:=.tuple #[.agg #[.bool n2,.slice a2 L2.length c2],.int .i64 (bD (ad (f != l) L'))]) (by simp[results,Tryz.results195,go_sem,V,X]) rfl ⟨.agg #[.bool n2,.slice a2 L2.length c2],?_,?_,?_⟩
  ·rw[fJ,uH HE]
  ·rw[fL];exact ay.stored (uH HI) (by simp;omega) (by simp;omega) (by simp;omega) _ _
  ·exact(((uH aj).trans (Z.mono (by omega))).setCell (by simp;omega) _).setCell (by simp;omega) _
end Go.Proofs.YtenpggicmfhhdaaGreatDoor
