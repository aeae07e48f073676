/- Part 6 of the texts. -/
import Derived.Test.YtcbcmlaogehimaaGreatDoorPartt05
set_option maxHeartbeats 2000000
namespace Go.Proofs.YtcbcmlaogehimaaGreatDoor
open Go.RowKit
theorem yZ(x p:Nat)(d:x<4294967296)(u:p≤31):IntKind.u64.wrap ((x:Int)*2^p)=((x*2^p:Nat):Int):=by
 have h:=qT x p d u
 have e:(x:Int)*2^p=((x*2^p:Nat):Int):=by simp
 rw[e]
 clear e
 generalize x*2^p=z at*
 simp only[IntKind.wrap,IntKind.signed,IntKind.bits]
 simp
 omega
theorem Fk(x p s:Nat)(u:x<4294967296)(A:p≤31)(D:s<2^p):
  bits BinOp.or IntKind.u32 (s:Int) (IntKind.u64.wrap ((x:Int)*2^p)%4294967296)=((s+(x*2^p)%4294967296:Nat):Int)∧IntKind.u64.wrap ((x:Int)*2^p)/4294967296%4294967296=(((x*2^p)/4294967296:Nat):Int)∧s+(x*2^p)%4294967296<4294967296:=by
 have h:=qT x p u A
 have d:s<4294967296:=Nat.lt_of_lt_of_le D (by have:=Nat.pow_le_pow_right (n:=2) (by decide) (show p≤32 by omega);simpa using this)
 have e:=ET s ((x*2^p)%4294967296) p D (AU x p (by omega))
 have G:s|||(x*2^p)%4294967296<2^32:=Nat.or_lt_two_pow (by omega) (by omega)
 rw[yZ x p u A]
 generalize x*2^p=z at*
 have F:((z:Nat):Int)%4294967296=((z%4294967296:Nat):Int):=by omega
 rw[F,u32_or_nat s (z%4294967296) d (by omega),e]
 refine⟨rfl,by omega,by omega⟩
theorem te(ao:Option Addr)(ca:Nat)(A:List Nat)(l p:Nat)(m:Int)(w:World)(hA:ag w ao ca A)(la:A.length≤1073741824)(hm:m=32*(l:Int)+(p:Int))(hp:p≤31)(hl:l≤1073741824):
  Calls Tryz.prog 268 #[.slice ao A.length ca,.int .i64 m] w fun e w'=>∃L H U,e=.returned (.slice L U.length H)∧ag w' L H U∧bC w.heap.size L U∧U.length=A.length+l+1∧ai U=4294967296^l*2^p*ai A∧Below w.heap.size w w':=by
 obtain⟨i0,hi,a0,a1,a2⟩:=info_parts Tryz.info84
 have hd:m/32=(l:Int):=by omega
 have hr:m%32=(p:Int):=by omega
 have a5:0≤m:=by omega
 have a6:m≤68719476735:=by omega
 clear hm
 go_enter Tryz.func268,Tryz.ntmps268
 go_wp2_with(at_make;refine wpList_make_full _ rfl _ _ 31 rfl w.heap.size 84 i0 (.int .u32 0) 1 Tryz.underlying31 hi a0 a1 .i64 .i64 _ _ (A.length+l+1) rfl rfl (by omega) (by omega) (by rw[a2];omega) (by unfold maxLen;omega) (Nat.le_refl _) ?_;intro w1 K G)
 have X:=bU.made K
 have an:Below w.heap.size w w1:=(Below.refl _ _).grown G (Nat.le_refl _) (fun k h=>by simp at h)
 clear K G
 go_wp2
 go_loopw[22] (fun c wr=>∃(i:Nat) (S:List Nat),i≤A.length∧c=.int .i64 i∧bU wr w.heap.size S∧S.length=A.length+l+1∧bh S∧Below w.heap.size w wr∧Hid (ai S=4294967296^l*2^p*ai (A.take i))∧Hid (S[i+l]?.getD 0<2^p)∧Hid (∀j,i+l<j→S[j]?.getD 0=0))
  (fun c _=>A.length-(intOf c).toNat)
 case atStart=>
  refine⟨0,List.replicate (A.length+l+1) 0,Nat.zero_le _,rfl,X,by simp,bh.zeros _,an,?_,?_,?_⟩
  ·unfold Hid
   have:∀k,ai (List.replicate k 0)=0:=by intro k;induction k with|zero=>rfl|succ k ih=>simp[List.replicate_succ,ai,ih]
   rw[this];simp[ai]
  ·unfold Hid
   have:(List.replicate (A.length+l+1) 0)[0+l]?.getD 0=0:=by rw[List.getElem?_replicate];split<;>rfl
   rw[this];exact Nat.pow_pos (by decide)
  ·intro j _
   rw[List.getElem?_replicate];split<;>rfl
 case round=>
  obtain⟨i,S,a7,rfl,d,Q,hf,z,hv,D,F⟩:=hrel
  by_cases ar:i<A.length
  ·obtain⟨x,hx⟩:∃x,A[i]?.getD 0=x:=⟨_,rfl⟩
   have bx:x<4294967296:=by rw[←hx];exact hA.lt i
   obtain⟨s,hs⟩:∃s,S[i+l]?.getD 0=s:=⟨_,rfl⟩
   obtain⟨b1,o1,a3,ah,am⟩:=hA.ne (by omega)
   have N:=am i ar
   rw[hx]at N
   have dA:wr.cell? ⟨b1,o1+i,none⟩=some (.int .u32 (x:Int)):=by rw[z.cell (p:=⟨b1,o1+i,none⟩) ah];exact N
   have dS:=d.cell (i+l) (by omega)
   rw[hs]at dS
   have dT:=d.cell (i+l+1) (by omega)
   rw[F.out _ (by omega)]at dT
   have Y:s<2^p:=by rw[←hs];exact D.out
   obtain⟨u1,u2,u3⟩:=Fk x p s bx hp Y
   have Z:=EU A S i l p x s (by omega) hx hs (F.out _ (by omega)) hv.out
   have aa:=yV x p bx hp
   have u:((S.set (i+l) (s+(x*2^p)%4294967296)).set (i+l+1) ((x*2^p)/4294967296))[i+1+l]?.getD 0<2^p:=by
    rw[show i+1+l=i+l+1 by omega,List.getElem?_set_self (by simp;omega)];exact aa
   have I:∀j,i+1+l<j→((S.set (i+l) (s+(x*2^p)%4294967296)).set (i+l+1) ((x*2^p)/4294967296))[j]?.getD 0=0:=fun j hj=>by
    rw[f7 _ _ _ _ (by omega),f7 _ _ _ _ (by omega)];exact F.out j (by omega)
   have J:(x*2^p)/4294967296<4294967296:=by have:=qT x p bx hp;omega
   have U1:=ac u1;have U2:=ac u2;have U3:=ac u3;have ax:=ac Z;have az:=ac u;have aI:=ac I;have HH:=ac J
   have fS:=d.free (i+l)
   have fT:=d.free (i+l+1)
   have HR:=ac d
   clear u1 u2 u3 Z u I aa J Y hx hs d hv D F am N
   subst a3
   have a4:(i:Int)<(A.length:Int):=by omega
   go_wp2
   have r1:=((uH HR).set (i+l) (s+(x*2^p)%4294967296)).set (i+l+1) ((x*2^p)/4294967296)
   rw[←uH U1,←uH U2]at r1
   go_roundw
   case rel=>exact⟨i+1,_,by omega,by go_num,r1,by simpa using Q,(hf.set _ _ (uH U3)).set _ _ (uH HH),(z.setCell (by simp) _).setCell (by simp) _,uH ax,uH az,uH aI⟩
   case measure=>simp[intOf];omega
  ·have ae:i=A.length:=by omega
   have O:=hv.out
   rw[ae,List.take_length]at O
   have HV:=ac O
   have HR:=ac d
   clear O hv F d ae D
   go_wp2
   go_ret
   exact⟨some ⟨w.heap.size,0,none⟩,A.length+l+1,S,by rw[Q];rfl,(uH HR).limbs hf _ (by omega),.inr ⟨_,_,rfl,Nat.le_refl _⟩,Q,uH HV,z⟩
theorem Be(u d p:Nat)(z:u<4294967296)(A:d<4294967296):
  bits BinOp.or IntKind.u64 (u:Int) ((d:Int)*4294967296)/2^p%4294967296=(((u+4294967296*d)/2^p%4294967296:Nat):Int):=by
 have e:(d:Int)*4294967296=((d*2^32:Nat):Int):=by simp
 have h:=Nat.two_pow_add_eq_or_of_lt (i:=32) (b:=u) (by omega) d
 rw[e,u64_or_nat u (d*2^32) (by omega) (by omega),Nat.or_comm,Nat.mul_comm d,←h]
 rw[show 2^32*d+u=u+4294967296*d by omega]
 simp
theorem pH(ao:Option Addr)(ca:Nat)(A:List Nat)(l p:Nat)(m:Int)(w:World)(K:ag w ao ca A)(la:A.length≤1073741824)(hm:m=32*(l:Int)+(p:Int))(hp:p≤31)(hl:l≤1073741824):
  Calls Tryz.prog 267 #[.slice ao A.length ca,.int .i64 m] w fun e w'=>∃L I X,e=.returned (.slice L X.length I)∧ag w' L I X∧bC w.heap.size L X∧X.length≤A.length∧ai X=ai A/(4294967296^l*2^p)∧Below w.heap.size w w':=by
 obtain⟨i0,hi,a2,a3,a4⟩:=info_parts Tryz.info84
 have hd:m/32=(l:Int):=by omega
 have hr:m%32=(p:Int):=by omega
 have bb:0≤m:=by omega
 have bd:m≤68719476735:=by omega
 clear hm
 by_cases Y:A.length≤l
 ·have hz:ai A/(4294967296^l*2^p)=0:=by
   apply Nat.div_eq_of_lt
   have h1:=eM A K.2.1
   have h2:(4294967296:Nat)^A.length≤4294967296^l:=Nat.pow_le_pow_right (by decide) Y
   have h3:=Nat.mul_le_mul_left (4294967296^l) (show 1≤2^p from Nat.pow_pos (by decide))
   omega
  have HZ:=ac hz
  generalize ai A/(4294967296^l*2^p)=q at*
  clear hz
  have az:(A.length:Int)≤(l:Int):=by omega
  go_enter Tryz.func267,Tryz.ntmps267
  go_wp2
  go_ret
  exact⟨none,0,[],rfl,ag.nil _ _ _,.inl rfl,by simp,by rw[uH HZ];rfl,Below.refl _ _⟩
 obtain⟨n,hn⟩:∃n,n+l=A.length:=⟨A.length-l,by omega⟩
 have az:¬(A.length:Int)≤(l:Int):=by omega
 have Z:=fun(S:List Nat) (k G H:Nat)=>qi A S K.2.1 k l p G H hp
 have aa:=fun(S:List Nat)=>sT A S K.2.1 l p
 have N:=ac Z
 have O:=ac aa
 clear Z aa
 have n1:n≤1073741824:=by omega
 have n2:n+l≤A.length:=by omega
 have n3:A.length≤n+l:=by omega
 clear hn Y
 go_enter Tryz.func267,Tryz.ntmps267
 go_wp2_with(at_make;refine wpList_make_full _ rfl _ _ 31 rfl w.heap.size 84 i0 (.int .u32 0) 1 Tryz.underlying31 hi a2 a3 .i64 .i64 _ _ n rfl rfl (by omega) (by omega) (by rw[a4];omega) (by unfold maxLen;omega) (Nat.le_refl _) ?_;intro w1 J z)
 have ae:=bU.made J
 have aI:Below w.heap.size w w1:=(Below.refl _ _).grown z (Nat.le_refl _) (fun k h=>by simp at h)
 clear J z
 go_wp2
 go_loopw[25] (fun c wr=>∃(i:Nat) (S:List Nat),i≤n∧c=.int .i64 i∧bU wr w.heap.size S∧S.length=n∧bh S∧Below w.heap.size w wr∧Hid (ai (S.take i)=(ai A/(4294967296^l*2^p))%4294967296^i))
  (fun c _=>n-(intOf c).toNat)
 case atStart=>exact⟨0,List.replicate n 0,Nat.zero_le _,rfl,ae,by simp,bh.zeros _,aI,by unfold Hid;simp[ai,Nat.mod_one]⟩
 case round=>
  obtain⟨i,S,bg,rfl,u,U,hf,d,hv⟩:=hrel
  by_cases be:i<n
  ·obtain⟨G,D⟩:∃x,A[i+l]?.getD 0=x:=⟨_,rfl⟩
   obtain⟨H,F⟩:∃x,A[i+l+1]?.getD 0=x:=⟨_,rfl⟩
   have b0:G<4294967296:=by rw[←D];exact K.lt _
   have a0:H<4294967296:=by rw[←F];exact K.lt _
   obtain⟨b1,o1,a5,ar,ax⟩:=K.ne (by omega)
   have Q:=ax (i+l) (by omega)
   rw[D]at Q
   have dA:wr.cell? ⟨b1,o1+(i+l),none⟩=some (.int .u32 (G:Int)):=by rw[d.cell (p:=⟨b1,o1+(i+l),none⟩) ar];exact Q
   have cA:=K.below d
   have dS:=u.cell i (by omega)
   have fS:=u.free i
   generalize a6:S[i]?.getD 0=s at*
   have ah:=ac (uH N S i G H (by omega) D F hv.out)
   have a1:=ac F
   have HR:=ac u
   clear D F ax Q u hv a6 N O
   have a7:(i:Int)+(l:Int)<(A.length:Int):=by omega
   have a9:(0:Int)≤(i:Int)+(l:Int):=by omega
   have ba:(i:Int)<(n:Int):=by omega
   subst a5
   go_wp2
   go_quiet ((go_at_call 285;exact jn (il (some ⟨b1,o1,none⟩) ca A _ (i+l+1) H _ (cA.below (below_drewN (Below.refl _ _) _)) (by omega) (by omega) a1)))
   go_wp2
   have e:=Be G H p b0 a0
   have r1:=((uH HR).drewN nq).set i (((G+4294967296*H)/2^p)%4294967296)
   rw[←e]at r1
   have am:((G+4294967296*H)/2^p)%4294967296<4294967296:=Nat.mod_lt _ (by decide)
   go_roundw
   case rel=>exact⟨i+1,_,by omega,by go_num,r1,by simpa using U,hf.set _ _ am,(below_drewN d nq).setCell (by simp) _,uH ah⟩
   case measure=>simp[intOf];omega
  ·have an:=uH O S (by omega) (by rw[U,show n=i by omega];exact hv.out)
   have HV:=ac an
   have HR:=ac u
   clear an hv u N O
   go_wp2
   go_ret
   exact⟨some ⟨w.heap.size,0,none⟩,n,S,by rw[U];rfl,(uH HR).limbs hf _ (by omega),.inr ⟨_,_,rfl,Nat.le_refl _⟩,by omega,uH HV,d⟩
attribute [local go_sem ↓] Go.wp_at_zero Go.wp_at_succ
def sg(neg:Bool)(v:Nat):Int:=if neg then-(v:Int)else(v:Int)
theorem dN(neg:Bool)(L:List Nat):af neg L=sg neg (ai L):=rfl
def pI(neg:Bool)(L:List Nat)(n:Int):Int:=sg neg (if 0≤n then ai L*2^n.toNat else ai L/2^(-n).toNat)
def mi(neg:Bool)(L:List Nat)(n:Int):Bool:=av neg L&&decide (-16384≤n∧n≤16384)
def vw(neg:Bool)(L:List Nat)(n:Int):Int:=if mi neg L n then bD (pI neg L n)else if av neg L then 2 else 1
def tf(neg:Bool)(L:List Nat)(n:Int):Int:=if mi neg L n then dR (pI neg L n)else 0
theorem Iw(neg:Bool)(A L:List Nat)(l p:Nat)(n:Int)(d:n=32*(l:Int)+(p:Int))(h:ai L=4294967296^l*2^p*ai A):af neg L=pI neg A n:=by
 rw[dN,h,kf]
 unfold pI
 rw[if_pos (by omega),show n.toNat=32*l+p by omega,Nat.mul_comm]
theorem Bf(neg:Bool)(A L:List Nat)(l p:Nat)(n:Int)(d:n<0)(u:-n=32*(l:Int)+(p:Int))(h:ai L=ai A/(4294967296^l*2^p)):af neg L=pI neg A n:=by
 rw[dN,h,kf]
 unfold pI
 rw[if_neg (by omega),show(-n).toNat=32*l+p by omega]
theorem ip(d:Bool)(H:Option Addr)(I:Nat)(A:List Nat)(n:Int)(w:World)(hA:ag w H I A)(la:A.length≤35184372088830)(bn:-9223372036854775808≤n∧n≤9223372036854775807):
  Calls Tryz.prog 238 #[.agg #[.bool d,.slice H A.length I],.int .i64 n] w fun e F=>∃v,e=.returned (.tuple #[v,.int .i64 (vw d A n)])∧au w.heap.size F v (tf d A n)∧Below w.heap.size w F:=by
 have ax:av d A=false→eO d A=1∧vw d A n=1∧tf d A n=0:=fun h=>by simp[eO,vw,tf,mi,h]
 have az:av d A=true→¬(-16384≤n∧n≤16384)→eO d A=0∧vw d A n=2∧tf d A n=0:=fun h h'=>by simp only[eO,vw,tf,mi,h,decide_eq_false h'];simp
 have aI:av d A=true→(-16384≤n∧n≤16384)→eO d A=0∧A.length≤512∧vw d A n=bD (pI d A n)∧tf d A n=dR (pI d A n):=fun h h'=>by
  refine⟨by simp[eO,h],(ay h).1,?_,?_⟩
  ·unfold vw mi;rw[h,decide_eq_true h',Bool.and_self,if_pos rfl]
  ·unfold tf mi;rw[h,decide_eq_true h',Bool.and_self,if_pos rfl]
 have a0:=fun(L:List Nat) (l p:Nat)=>Iw d A L l p n
 have a1:=fun(L:List Nat) (l p:Nat)=>Bf d A L l p n
 have Y:=ac ax;have Z:=ac az;have aa:=ac aI;have K:=ac a0;have N:=ac a1
 have a3:=fun F h'=>ew d H I A F h' la
 have a4:=ac a3
 clear ax az aI a0 a1 a3
 generalize pI d A n=z at*
 generalize vw d A n=er at*
 generalize tf d A n=nu at*
 generalize eO d A=ck at*
 generalize av d A=rb at*
 go_enter Tryz.func238,Tryz.ntmps238
 go_wp2_with fail
 have ae:Below w.heap.size w ((w.alloc (.cells #[.bool d,.slice H A.length I] 33)).alloc (.cells #[.bool false,.slice none 0 0] 33)):=((Below.refl _ _).alloc (Nat.le_refl _) _).alloc (by simp) _
 refine(uH a4 _ (hA.below ae)).mono ?_
 rintro e w1 ⟨rfl,D⟩
 have a9:w.heap.size+2≤w1.heap.size:=by have:=D.size;simpa using this
 have u:Below w.heap.size w w1:=ae.trans (D.mono (by simp;omega))
 have x0:aB w1 w.heap.size (.bool d) (.slice H A.length I):=((aB.new _ _ _).old _).below D (by simp;omega)
 have J:aB w1 (w.heap.size+1) (.bool false) (.slice none 0 0):=by
  have:=aB.new (w.alloc (.cells #[.bool d,.slice H A.length I] 33)) (.bool false) (.slice none 0 0)
  exact aB.below (by simpa using this) D (by simp)
 have p0:=x0.c0;have p1:=x0.c1
 clear D ae a4
 cases rb
 ·obtain⟨c1,G,c3⟩:=uH Y rfl
  have X:=ac (And.intro G c3)
  rw[c1]
  have y0:=J.c0;have y1:=J.c1;have f0:=J.free 0;have f1:=J.free 1
  clear Y Z aa K N c1 G c3
  go_wp2
  refine bodyPost_ret (v:=.tuple #[.agg #[.bool false,.slice none 0 0],.int .i64 1]) (by simp[results,Tryz.results238,go_sem,y0,y1]) rfl ⟨.agg #[.bool false,.slice none 0 0],by rw[(uH X).1],by rw[(uH X).2];exact au.zero _ _ _ _,?_⟩
  exact(u.setCell (by simp) _).setCell (by simp) _
 by_cases ah:-16384≤n∧n≤16384
 case neg=>
  obtain⟨c1,G,c3⟩:=uH Z rfl ah
  have X:=ac (And.intro G c3)
  rw[c1]
  have y0:=J.c0;have y1:=J.c1;have f0:=J.free 0;have f1:=J.free 1
  clear Y Z aa K N c1 G c3
  rcases(show n< -16384∨(¬n< -16384∧16384<n) by omega)with hx|⟨hx,be⟩
  all_goals
   go_wp2
   refine bodyPost_ret (v:=.tuple #[.agg #[.bool false,.slice none 0 0],.int .i64 2]) (by simp[results,Tryz.results238,go_sem,y0,y1]) rfl ⟨.agg #[.bool false,.slice none 0 0],by rw[(uH X).1],by rw[(uH X).2];exact au.zero _ _ _ _,?_⟩
   exact(u.setCell (by simp) _).setCell (by simp) _
 obtain⟨c1,c4,G,c3⟩:=uH aa rfl ah
 have X:=ac (And.intro G c3)
 rw[c1]
 obtain⟨bb,bd⟩:=ah
 clear Y Z aa c1 G c3
 by_cases a5:n<0
 ·obtain⟨l,hl⟩:∃l:Nat,(l:Int)=(-n)/32:=⟨((-n)/32).toNat,by omega⟩
  obtain⟨p,hp⟩:∃p:Nat,(p:Int)=(-n)%32:=⟨((-n)%32).toNat,by omega⟩
  have q1:-n=32*(l:Int)+(p:Int):=by omega
  have am:=ac (fun L h=>uH N L l p a5 q1 h)
  have q2:p≤31:=by omega
  have q3:l≤512:=by omega
  have q4:n= -(32*(l:Int)+(p:Int)):=by omega
  have Q4:=ac q4
  have ba:IntKind.i64.wrap (-n)= -n:=by
   simp only[IntKind.wrap,IntKind.signed,IntKind.bits]
   simp
   omega
  clear K N hl hp q1 q4
  go_wp2
  refine ap (fun W=>W=w1) rfl ?_
  rintro U e0
  subst e0
  have hK:∀F,Below (w.heap.size+1) U F→Below (w.heap.size+1) U F∧F.cell? ⟨w.heap.size,0,none⟩=some (.bool d)∧F.cell? ⟨w.heap.size,1,none⟩=some (.slice H A.length I):=fun F h=>
   ⟨h,(x0.below h (by omega)).c0,(x0.below h (by omega)).c1⟩
  have HK:=ac hK
  have HA:=ac (hA.below u)
  have X2:=ac J
  have an:=ac u
  clear hK hA x0 J u p0 p1
  go_region_held3(fun F=>Below (w.heap.size+1) U F∧F.cell? ⟨w.heap.size,0,none⟩=some (.bool d)∧F.cell? ⟨w.heap.size,1,none⟩=some (.slice H A.length I))
   (first|exact uH HK _ (Below.refl _ _).drew|exact uH HK _ (by assumption)|exact uH HK _ ((O.setCell (by simp) _).setCell (by simp) _))
   (first|(go_at_call 267;refine(pH H I A l p _ _ ((uH HA).below ((Below.refl _ _).drew)) (by omega) (by have:=uH Q4;omega) (by omega) (by omega)).mono ?_;rintro e w3 ⟨a7,a6,L',rfl,g1,g2,g3,g4,D⟩;have ar:Below (w.heap.size+1) U w3:=((Below.refl _ _).drew).trans (D.mono (by simp;omega));have X3:=ac ((uH X2).drew.below D (by simp;omega));have G1:=ac g1;have G2:=ac g2;have G4:=ac g4;have L4:L'.length≤35184372088832:=(by omega);have s1:=D.size;clear g1 g2 g4 g3 D)|(go_at_call 266;refine(jH _ d _ _ _ _ (uH G1) (uH G2) L4).mono ?_;rintro e w4 ⟨v,rfl,⟨n2,a2,G,L2,rfl,i1⟩,u⟩;have O:Below (w.heap.size+1) U w4:=ar.trans (u.mono (by simp at s1;omega));have Q:=(uH X3).below u (by simp at s1;omega);have y0:=Q.c0;have y1:=Q.c1;have f0:=Q.free 0;have f1:=Q.free 1;have I1:=ac i1;clear i1 u Q))
  have hz:=uH am L' (uH G4)
  have HI:=ac (hz▸uH I1)
  have HE:=ac (show bD (af d L')=bD z by rw[hz])
  clear hz
  go_wp2
  refine bodyPost_ret (v:=.tuple #[.agg #[.bool n2,.slice a2 L2.length G],.int .i64 (bD (af d L'))]) (by simp[results,Tryz.results238,go_sem,y0,y1]) rfl ⟨.agg #[.bool n2,.slice a2 L2.length G],?_,?_,?_⟩
  ·rw[(uH X).1,uH HE]
  ·rw[(uH X).2];exact au.stored (uH HI) (by simp;omega) (by simp;omega) (by simp;omega) _ _
  ·exact(((uH an).trans (O.mono (by omega))).setCell (by simp) _).setCell (by simp) _
 ·obtain⟨l,hl⟩:∃l:Nat,(l:Int)=n/32:=⟨(n/32).toNat,by omega⟩
  obtain⟨p,hp⟩:∃p:Nat,(p:Int)=n%32:=⟨(n%32).toNat,by omega⟩
  have q1:n=32*(l:Int)+(p:Int):=by omega
  have am:=ac (fun L h=>uH K L l p q1 h)
  have q2:p≤31:=by omega
  have q3:l≤512:=by omega
  have Q4:=ac q1
  clear K N hl hp q1
  go_wp2
  refine ap (fun W=>W=w1) rfl ?_
  rintro U e0
  subst e0
  have hK:∀F,Below (w.heap.size+1) U F→Below (w.heap.size+1) U F∧F.cell? ⟨w.heap.size,0,none⟩=some (.bool d)∧F.cell? ⟨w.heap.size,1,none⟩=some (.slice H A.length I):=fun F h=>
   ⟨h,(x0.below h (by omega)).c0,(x0.below h (by omega)).c1⟩
  have HK:=ac hK
  have HA:=ac (hA.below u)
  have X2:=ac J
  have an:=ac u
  clear hK hA x0 J u p0 p1
  go_region_held3(fun F=>Below (w.heap.size+1) U F∧F.cell? ⟨w.heap.size,0,none⟩=some (.bool d)∧F.cell? ⟨w.heap.size,1,none⟩=some (.slice H A.length I))
   (first|exact uH HK _ (Below.refl _ _).drew|exact uH HK _ (by assumption)|exact uH HK _ ((O.setCell (by simp) _).setCell (by simp) _))
   (first|(go_at_call 268;refine(te H I A l p _ _ ((uH HA).below ((Below.refl _ _).drew)) (by omega) (by have:=uH Q4;omega) (by omega) (by omega)).mono ?_;rintro e w3 ⟨a7,a6,L',rfl,g1,g2,g3,g4,D⟩;have ar:Below (w.heap.size+1) U w3:=((Below.refl _ _).drew).trans (D.mono (by simp;omega));have X3:=ac ((uH X2).drew.below D (by simp;omega));have G1:=ac g1;have G2:=ac g2;have G4:=ac g4;have L4:L'.length≤35184372088832:=(by omega);have s1:=D.size;clear g1 g2 g4 g3 D)|(go_at_call 266;refine(jH _ d _ _ _ _ (uH G1) (uH G2) L4).mono ?_;rintro e w4 ⟨v,rfl,⟨n2,a2,G,L2,rfl,i1⟩,u⟩;have O:Below (w.heap.size+1) U w4:=ar.trans (u.mono (by simp at s1;omega));have Q:=(uH X3).below u (by simp at s1;omega);have y0:=Q.c0;have y1:=Q.c1;have f0:=Q.free 0;have f1:=Q.free 1;have I1:=ac i1;clear i1 u Q))
  have hz:=uH am L' (uH G4)
  have HI:=ac (hz▸uH I1)
  have HE:=ac (show bD (af d L')=bD z by rw[hz])
  clear hz
  go_wp2
  refine bodyPost_ret (v:=.tuple #[.agg #[.bool n2,.slice a2 L2.length G],.int .i64 (bD (af d L'))]) (by simp[results,Tryz.results238,go_sem,y0,y1]) rfl ⟨.agg #[.bool n2,.slice a2 L2.length G],?_,?_,?_⟩
  ·rw[(uH X).1,uH HE]
  ·rw[(uH X).2];exact au.stored (uH HI) (by simp;omega) (by simp;omega) (by simp;omega) _ _
  ·exact(((uH an).trans (O.mono (by omega))).setCell (by simp) _).setCell (by simp) _
end Go.Proofs.YtcbcmlaogehimaaGreatDoor
namespace Go.Proofs.YtcbcmlaogehimaaGreatDoor
open Go.RowKit
theorem rc(ao bo:Option Addr)(ca cb:Nat)(A B:List Nat)(w:World)(hA:ag w ao ca A)(hB:ag w bo cb B)(la:A.length≤1073741824)(lb:B.length≤1073741824):
  Calls Tryz.prog 297 #[.slice ao A.length ca,.slice bo B.length cb] w fun e w'=>∃Z N L',e=.returned (.slice Z L'.length N)∧ag w' Z N L'∧bC w.heap.size Z L'∧L'.length=A.length+B.length∧ai L'=ai A*ai B∧Below w.heap.size w w':=by
 obtain⟨i0,hi,F,bn,bp⟩:=info_parts Tryz.info84
 obtain⟨n,hn⟩:∃n,n=A.length+B.length:=⟨_,rfl⟩
 have HN:=ac hn
 have n1:n≤2147483648:=by omega
 have n2:A.length+B.length≤n:=by omega
 clear hn
 go_enter Tryz.func297,Tryz.ntmps297
 go_wp2_with(at_make;have hn:=uH HN;refine wpList_make_full _ rfl _ _ 31 rfl w.heap.size 84 i0 (.int .u32 0) 1 Tryz.underlying31 hi F bn .i64 .i64 _ _ n rfl rfl (by omega) (by omega) (by rw[bp];omega) (by unfold maxLen;omega) (Nat.le_refl _) ?_;clear hn;intro w1 Y I)
 have O:=bU.made Y
 have az:Below w.heap.size w w1:=(Below.refl _ _).grown I (Nat.le_refl _) (fun k h=>by simp at h)
 clear Y I
 go_wp2
 go_loopw[17] (fun c wr=>∃(i:Nat) (P:List Nat),i≤A.length∧c=.int .i64 i∧bU wr w.heap.size P∧P.length=n∧bh P∧Below w.heap.size w wr∧Hid (ai P=ai (A.take i)*ai B)∧Hid (∀j,i+B.length≤j→P[j]?.getD 0=0))
  (fun c _=>A.length-(intOf c).toNat)
 case atStart=>
  refine⟨0,List.replicate n 0,Nat.zero_le _,rfl,O,by simp,bh.zeros _,az,?_,?_⟩
  ·unfold Hid
   have:∀k,ai (List.replicate k 0)=0:=by intro k;induction k with|zero=>rfl|succ k ih=>simp[List.replicate_succ,ai,ih]
   rw[this];simp[ai]
  ·intro j _
   rw[List.getElem?_replicate];split<;>rfl
 case round=>
  obtain⟨i,P,bR,rfl,hr,ar,hf,X,hv,K⟩:=hrel
  by_cases aI:i<A.length
  ·obtain⟨x,hx⟩:∃x,A[i]?.getD 0=x:=⟨_,rfl⟩
   have bx:x<4294967296:=by rw[←hx];exact hA.lt i
   obtain⟨b1,o1,bs,a6,a7⟩:=hA.ne (by omega)
   have aa:=a7 i aI
   rw[hx]at aa
   have HX:=ac hx
   have a0:=ac aa
   have HR:=ac hr
   have bO:=ac aI
   clear hx a7 aa hr O az
   subst bs
   have bw:(i:Int)<(A.length:Int):=by omega
   go_wp2
   go_loopw[7,22] (fun c k wq=>∃(y:Nat) (d:Nat) (Q:List Nat),d≤B.length∧k=.int .i64 d∧c=.int .u64 y∧y<4294967296∧bU wq w.heap.size Q∧Q.length=n∧bh Q∧Below w.heap.size w wq∧Hid (ai Q+4294967296^(i+d)*y=ai (A.take i)*ai B+4294967296^i*x*ai (B.take d))∧Hid (∀j,i+B.length≤j→Q[j]?.getD 0=0))
    (fun _ k _=>B.length-(intOf k).toNat)
   case atStart=>exact⟨0,0,P,Nat.zero_le _,rfl,rfl,by omega,uH HR,ar,hf,X,by unfold Hid;simp[ai];exact hv.out,K⟩
   case round=>
    obtain⟨y,d,Q,b0,rfl,rfl,hy,u,a9,ax,L,G,H⟩:=hrel
    by_cases bd:d<B.length
    ·obtain⟨z,hz⟩:∃z,B[d]?.getD 0=z:=⟨_,rfl⟩
     have bz:z<4294967296:=by rw[←hz];exact hB.lt d
     obtain⟨q,hq⟩:∃q,Q[i+d]?.getD 0=q:=⟨_,rfl⟩
     obtain⟨b2,o2,bv,ba,bb⟩:=hB.ne (by omega)
     have ae:=bb d bd
     rw[hz]at ae
     have bq:q<4294967296:=by
      rw[←hq]
      by_cases hh:i+d<Q.length
      ·rw[List.getElem?_eq_getElem hh];exact ax _ (List.getElem_mem hh)
      ·rw[List.getElem?_eq_none (by omega)];decide
     have dA:wr.cell? ⟨b1,o1+i,none⟩=some (.int .u32 (x:Int)):=by rw[L.cell (p:=⟨b1,o1+i,none⟩) a6];exact uH a0
     have dB:wr.cell? ⟨b2,o2+d,none⟩=some (.int .u32 (z:Int)):=by rw[L.cell (p:=⟨b2,o2+d,none⟩) ba];exact ae
     have dQ:=u.cell (i+d) (by omega)
     rw[hq]at dQ
     have fQ:=u.free (i+d)
     have be:=vz x z bx bz
     obtain⟨bA,bE⟩:=xC x z bx bz
     have a1:=AR B Q (ai (A.take i)*ai B) x i d y z q (by omega) hz hq G.out
     have D:∀j,i+B.length≤j→(Q.set (i+d) ((y+(x*z+q))%4294967296))[j]?.getD 0=0:=fun j hj=>by rw[f7 _ _ _ _ (by omega)];exact H.out j hj
     have bg:=ac a1
     have ah:=ac D
     have am:=ac u
     obtain⟨ec,ed⟩:=yU x y z q
     have EC:=ac ec
     have ED:=ac ed
     have a2:(y+(x*z+q))/4294967296<4294967296:=by omega
     have BY:=ac a2
     clear a1 D u ec ed hz hq bb ae G H a2 be hv K
     subst bv
     have bP:(d:Int)<(B.length:Int):=by omega
     have bi:(i:Int)+(d:Int)<(n:Int):=by omega
     go_wp2
     go_quiet (fail)
     go_wp2
     have J:=((uH am).drewN nq).set (i+d) ((y+(x*z+q))%4294967296)
     rw[uH EC]at J
     go_roundw
     case rel=>exact⟨(y+(x*z+q))/4294967296,d+1,Q.set (i+d) ((y+(x*z+q))%4294967296),by omega,by go_num,cL (uH ED).symm,uH BY,J,by simpa using a9,ax.set _ _ (by omega),(below_drewN L nq).setCell (by simp) _,uH bg,uH ah⟩
     case measure=>simp[intOf];omega
    ·have a3:d=B.length:=by omega
     rw[a3]at G
     have F:=H.out (i+B.length) (by omega)
     have U:=ES A B Q x i y (by omega) (uH HX) F G.out
     have D:∀j,i+1+B.length≤j→(Q.set (i+B.length) y)[j]?.getD 0=0:=fun j hj=>by rw[f7 _ _ _ _ (by omega)];exact H.out j (by omega)
     have dQ:=u.cell (i+B.length) (by omega)
     rw[F]at dQ
     have fQ:=u.free (i+B.length)
     have a4:=ac U
     have ah:=ac D
     have am:=ac u
     have bi:(i:Int)+(B.length:Int)<(n:Int):=by omega
     clear U D u G H F a3 hv K a0
     go_wp2
     have J:=(uH am).set (i+B.length) y
     go_roundw
     case rel=>exact⟨i+1,Q.set (i+B.length) y,by omega,by go_num,J,by simpa using a9,ax.set _ _ hy,L.setCell (by simp) _,uH a4,uH ah⟩
     case measure=>simp[intOf];omega
  ·have a5:i=A.length:=by omega
   have an:=hv.out
   rw[a5,List.take_length]at an
   have HV:=ac an
   have HR:=ac hr
   clear an hv K hr a5
   go_wp2
   go_ret
   exact⟨some ⟨w.heap.size,0,none⟩,n,P,by rw[ar];rfl,(uH HR).limbs hf _ (by omega),.inr ⟨_,_,rfl,Nat.le_refl _⟩,by rw[ar];exact uH HN,uH HV,X⟩
attribute [local go_sem ↓] Go.wp_at_zero Go.wp_at_succ
theorem Fl(A B:List Nat)(d:bQ A)(cB:bQ B)(H:A.length≤512)(I:B.length≤512)(h:512<A.length+B.length-1):¬ai A*ai B<du:=by
 have u:A≠ []:=by rintro rfl;simp at h;omega
 have z:B≠ []:=by rintro rfl;simp at h;omega
 have D:=lY A (d.resolve_left u)
 have F:=lY B (cB.resolve_left z)
 have G:=Nat.mul_le_mul D F
 rw[←Nat.pow_add]at G
 have J:du≤4294967296^(A.length-1+(B.length-1)):=by
  unfold du
  exact Nat.pow_le_pow_right (by decide) (show mb≤A.length-1+(B.length-1) by unfold mb;omega)
 omega
theorem Fm(u D:Bool)(I J:Option Addr)(K N:Nat)(A B:List Nat)(w:World)(hA:ag w I K A)(hB:ag w J N B)(la:A.length≤35184372088830)(lb:B.length≤35184372088830):
  Calls Tryz.prog 291 #[.agg #[.bool u,.slice I A.length K],.agg #[.bool D,.slice J B.length N]] w fun e G=>∃v,e=.returned (.tuple #[v,.int .i64 (qm (av u A&&av D B) (af u A*af D B))])∧au w.heap.size G v (qp (av u A&&av D B) (af u A*af D B))∧Below w.heap.size w G:=by
 have hC:(av u A&&av D B)=true→bQ A∧bQ B:=fun h=>by
  simp only[Bool.and_eq_true]at h;exact⟨(ay h.1).2.1,(ay h.2).2.1⟩
 have hL:(av u A&&av D B)=true→A.length≤512∧B.length≤512∧(512<A.length+B.length-1→bD (af u A*af D B)=2∧dR (af u A*af D B)=0):=fun h=>by
  simp only[Bool.and_eq_true]at h
  have r1:=ay h.1
  have H:=ay h.2
  refine⟨r1.1,H.1,fun hb=>?_⟩
  have aa:¬(af u A*af D B).natAbs<du:=by
   rw[Int.natAbs_mul,aM,aM]
   exact Fl A B r1.2.1 H.2.1 r1.1 H.1 hb
  constructor
  ·unfold bD;rw[if_neg aa]
  ·unfold dR;rw[if_neg aa]
 have ae:∀L:List Nat,ai L=ai A*ai B→af (u != D) L=af u A*af D B:=by
  intro L h;unfold af;rw[h];cases u<;>cases D<;>simp[Int.neg_mul,Int.mul_neg]
 have HC:=ac hC
 have HL:=ac hL
 have an:=ac ae
 clear hL ae
 have H2:=ac (show vE u A D B=if(av u A&&av D B)then 0 else 1 from rfl)
 clear hC
 generalize az:(av u A&&av D B)=ok at*
 generalize af u A*af D B=z at*
 clear az
 go_enter Tryz.func291,Tryz.ntmps291
 go_wp2_with fail
 have U:Below w.heap.size w (((w.alloc (.cells #[.bool u,.slice I A.length K] 33)).alloc (.cells #[.bool D,.slice J B.length N] 33)).alloc (.cells #[.bool false,.slice none 0 0] 33)):=
  (((Below.refl _ _).alloc (Nat.le_refl _) _).alloc (by simp) _).alloc (by simp;omega) _
 refine(j0 u D I J K N A B _ (hA.below U) (hB.below U) la lb).mono ?_
 rintro e Q ⟨rfl,d⟩
 have a0:w.heap.size+3≤Q.heap.size:=by have:=d.size;simpa using this
 have F:Below w.heap.size w Q:=U.trans (d.mono (by simp;omega))
 have p0:Q.cell? ⟨w.heap.size,0,none⟩=some (.bool u):=by rw[d.cell (p:=⟨w.heap.size,0,none⟩) (by simp;omega)];simp[go_sem]
 have p1:Q.cell? ⟨w.heap.size,1,none⟩=some (.slice I A.length K):=by rw[d.cell (p:=⟨w.heap.size,1,none⟩) (by simp;omega)];simp[go_sem]
 have q0:Q.cell? ⟨w.heap.size+1,0,none⟩=some (.bool D):=by rw[d.cell (p:=⟨w.heap.size+1,0,none⟩) (by simp)];simp[go_sem]
 have q1:Q.cell? ⟨w.heap.size+1,1,none⟩=some (.slice J B.length N):=by rw[d.cell (p:=⟨w.heap.size+1,1,none⟩) (by simp)];simp[go_sem]
 have H:aB Q (w.heap.size+2) (.bool false) (.slice none 0 0):=by
  have:=aB.new ((w.alloc (.cells #[.bool u,.slice I A.length K] 33)).alloc (.cells #[.bool D,.slice J B.length N] 33)) (.bool false) (.slice none 0 0)
  exact aB.below (by simpa using this) d (by simp)
 have PA:Hid (aB Q w.heap.size (.bool u) (.slice I A.length K)):=(((aB.new _ _ _).old _).old _).below d (by simp;omega)
 have PB:Hid (aB Q (w.heap.size+1) (.bool D) (.slice J B.length N)):=by
  have:=(aB.new (w.alloc (.cells #[.bool u,.slice I A.length K] 33)) (.bool D) (.slice J B.length N)).old (.cells #[.bool false,.slice none 0 0] 33)
  exact aB.below (by simpa using this) d (by simp)
 rw[uH H2]
 clear d H2 U
 cases ok
 ·simp only[Bool.false_eq_true,if_false]
  have y0:=H.c0;have y1:=H.c1;have f0:=H.free 0;have f1:=H.free 1
  go_wp2
  refine bodyPost_ret (v:=.tuple #[.agg #[.bool false,.slice none 0 0],.int .i64 1]) (by simp[results,Tryz.results291,go_sem,y0,y1]) rfl ⟨.agg #[.bool false,.slice none 0 0],by rw[mM],by rw[mN];exact au.zero _ _ _ _,?_⟩
  exact(F.setCell (by simp;omega) _).setCell (by simp;omega) _
 ·obtain⟨cA,cB⟩:=uH HC rfl
  obtain⟨l1,l2,X⟩:=uH HL rfl
  have O:=ac X
  clear cA cB X HC HL
  simp only[if_true]
  by_cases ah:512<A.length+B.length-1
  ·have hE:=ac (uH O ah)
   have y0:=H.c0;have y1:=H.c1;have f0:=H.free 0;have f1:=H.free 1
   have Y:(512:Int)<(A.length:Int)+(B.length:Int)-1:=by omega
   clear O
   go_wp2
   refine bodyPost_ret (v:=.tuple #[.agg #[.bool false,.slice none 0 0],.int .i64 2]) (by simp[results,Tryz.results291,go_sem,y0,y1]) rfl ⟨.agg #[.bool false,.slice none 0 0],by rw[gJ,(uH hE).1],by rw[gK,(uH hE).2];exact au.zero _ _ _ _,?_⟩
   exact(F.setCell (by simp;omega) _).setCell (by simp;omega) _
  have Y:¬(512:Int)<(A.length:Int)+(B.length:Int)-1:=by omega
  clear O
  go_wp2
  refine ap (fun W=>W=Q) rfl ?_
  rintro Z e0
  subst e0
  have x0:aB Z w.heap.size (.bool u) (.slice I A.length K):=uH PA
  have x1:aB Z (w.heap.size+1) (.bool D) (.slice J B.length N):=uH PB
  have hK:∀G,Below (w.heap.size+2) Z G→Below (w.heap.size+2) Z G∧G.cell? ⟨w.heap.size,0,none⟩=some (.bool u)∧G.cell? ⟨w.heap.size+1,0,none⟩=some (.bool D)∧G.cell? ⟨w.heap.size,1,none⟩=some (.slice I A.length K)∧G.cell? ⟨w.heap.size+1,1,none⟩=some (.slice J B.length N):=fun G h=>
   ⟨h,(x0.below h (by omega)).c0,(x1.below h (by omega)).c0,(x0.below h (by omega)).c1,(x1.below h (by omega)).c1⟩
  have HK:=ac hK
  have HA:=ac (hA.below F)
  have HB:=ac (hB.below F)
  have X2:=ac H
  have ar:=ac F
  clear hK hA hB x0 x1 H F p0 p1 q0 q1 PA PB
  go_region_held3(fun G=>Below (w.heap.size+2) Z G∧G.cell? ⟨w.heap.size,0,none⟩=some (.bool u)∧G.cell? ⟨w.heap.size+1,0,none⟩=some (.bool D)∧G.cell? ⟨w.heap.size,1,none⟩=some (.slice I A.length K)∧G.cell? ⟨w.heap.size+1,1,none⟩=some (.slice J B.length N))
   (first|exact uH HK _ (Below.refl _ _).drew|exact uH HK _ (by assumption)|exact uH HK _ ((am.setCell (by simp) _).setCell (by simp) _))
   (first|(go_at_call 297;refine(rc I J K N A B _ ((uH HA).below ((Below.refl _ _).drew)) ((uH HB).below ((Below.refl _ _).drew)) (by omega) (by omega)).mono ?_;rintro e w3 ⟨a1,aI,L',rfl,g1,g2,g3,g4,d⟩;have ax:Below (w.heap.size+2) Z w3:=((Below.refl _ _).drew).trans (d.mono (by simp;omega));have X3:=ac ((uH X2).drew.below d (by simp;omega));have G1:=ac g1;have G2:=ac g2;have G4:=ac g4;have L4:L'.length≤35184372088832:=(by omega);have s1:=d.size;clear g1 g2 g4 g3 d)|(go_at_call 266;refine(jH _ (u != D) _ _ _ _ (uH G1) (uH G2) L4).mono ?_;rintro e w4 ⟨v,rfl,⟨n2,a2,c2,L2,rfl,i1⟩,F⟩;have am:Below (w.heap.size+2) Z w4:=ax.trans (F.mono (by simp at s1;omega));have X4:=(uH X3).below F (by simp at s1;omega);have y0:=X4.c0;have y1:=X4.c1;have f0:=X4.free 0;have f1:=X4.free 1;have I1:=ac i1;clear i1 F X4))
  have hz:=uH an L' (uH G4)
  have HI:=ac (hz▸uH I1)
  have HE:=ac (show bD (af (u != D) L')=bD z by rw[hz])
  clear hz
  go_wp2
  refine bodyPost_ret (v:=.tuple #[.agg #[.bool n2,.slice a2 L2.length c2],.int .i64 (bD (af (u != D) L'))]) (by simp[results,Tryz.results291,go_sem,y0,y1]) rfl ⟨.agg #[.bool n2,.slice a2 L2.length c2],?_,?_,?_⟩
  ·rw[gJ,uH HE]
  ·rw[gK];exact au.stored (uH HI) (by simp;omega) (by simp;omega) (by simp;omega) _ _
  ·exact(((uH ar).trans (am.mono (by omega))).setCell (by simp;omega) _).setCell (by simp;omega) _
end Go.Proofs.YtcbcmlaogehimaaGreatDoor
namespace Go.Proofs.YtcbcmlaogehimaaGreatDoor
open Go.RowKit
theorem jI(w:World)(g:Nat)(a b:Int)(lo d:Nat)(h:w.heap.size=g)(u:a=(lo:Int))(z:b=(d:Int)):
  bU (w.alloc (.cells #[.int .u32 a,.int .u32 b] 84)) g [lo,d]:=by
 subst h;subst u;subst z
 exact heap_alloc_new w _
theorem Bg(n:Int)(d:-9223372036854775808≤n)(h:n<0):IntKind.u64.wrap (-IntKind.u64.wrap n)= -n:=by
 simp only[IntKind.wrap,IntKind.signed,IntKind.bits]
 simp
 omega
theorem nx(m:Nat):ai [m%4294967296,m/4294967296]=m:=by simp only[ai];omega
theorem vG(n:Int)(w:World)(h0:-9223372036854775808≤n)(h1:n≤9223372036854775807):
  Calls Tryz.prog 207 #[.int .i64 n] w fun e J=>∃v,e=.returned v∧au w.heap.size J v n∧Below w.heap.size w J:=by
 obtain⟨m,u⟩:∃m,m=n.natAbs:=⟨_,rfl⟩
 have Y:bh [m%4294967296,m/4294967296]:=by intro x hx;simp at hx;omega
 have K:=ac Y
 have z:=ac u
 clear Y u
 by_cases Z:n<0
 ·have hw:=Bg n h0 Z
  have L:=ac hw
  clear hw
  go_enter Tryz.func207,Tryz.ntmps207
  go_wp2_with fail
  have u:=uH z
  have D:=jI (w.alloc (.cells #[.bool false,.slice none 0 0] 33)) (w.heap.size+1) (IntKind.u64.wrap (-IntKind.u64.wrap n)%4294967296) (IntKind.u64.wrap (-IntKind.u64.wrap n)/4294967296%4294967296) (m%4294967296) (m/4294967296) (by simp) (by rw[uH L];omega) (by rw[uH L];omega)
  refine(nR (some ⟨w.heap.size+1,0,none⟩) 2 [m%4294967296,m/4294967296] _ (D.limbs (uH K) 2 (by simp)) (by simp)).mono ?_
  rintro e J ⟨v,rfl,⟨h,d,A,rfl,F,G,X,H,I⟩,rfl⟩
  have N:=ac H
  have O:=ac F
  have Q:=ac G
  have U:=ac I
  clear F G H I D u
  go_wp2
  refine bodyPost_ret (v:=.agg #[.bool true,.slice h A.length d]) (by simp[results,Tryz.results207,go_sem]) rfl ⟨.agg #[.bool true,.slice h A.length d],rfl,⟨true,h,d,A,rfl,uH N _ ?_,uH U _ (.inr ⟨_,_,rfl,by omega⟩),uH O,by simp[Z],?_⟩,?_⟩
  ·refine(jI _ (w.heap.size+1) _ _ _ _ (by simp) ?_ ?_).limbs (uH K) 2 (by simp)
   ·have u:=uH z;rw[uH L];omega
   ·have u:=uH z;rw[uH L];omega
  ·exact⟨by rw[uH Q,nx];exact uH z,by simp at X;omega⟩
  ·exact((Below.refl _ _).alloc (Nat.le_refl _) _).alloc (by simp) _
 ·go_enter Tryz.func207,Tryz.ntmps207
  go_wp2_with fail
  have u:=uH z
  have D:=jI (w.alloc (.cells #[.bool false,.slice none 0 0] 33)) (w.heap.size+1) (n%4294967296) (n/4294967296) (m%4294967296) (m/4294967296) (by simp) (by omega) (by omega)
  refine(nR (some ⟨w.heap.size+1,0,none⟩) 2 [m%4294967296,m/4294967296] _ (D.limbs (uH K) 2 (by simp)) (by simp)).mono ?_
  rintro e J ⟨v,rfl,⟨h,d,A,rfl,F,G,X,H,I⟩,rfl⟩
  have N:=ac H
  have O:=ac F
  have Q:=ac G
  have U:=ac I
  clear F G H I D u
  go_wp2
  refine bodyPost_ret (v:=.agg #[.bool false,.slice h A.length d]) (by simp[results,Tryz.results207,go_sem]) rfl ⟨.agg #[.bool false,.slice h A.length d],rfl,⟨false,h,d,A,rfl,uH N _ ?_,uH U _ (.inr ⟨_,_,rfl,by omega⟩),uH O,by simp;omega,?_⟩,?_⟩
  ·refine(jI _ (w.heap.size+1) _ _ _ _ (by simp) ?_ ?_).limbs (uH K) 2 (by simp)
   ·have u:=uH z;omega
   ·have u:=uH z;omega
  ·exact⟨by rw[uH Q,nx];exact uH z,by simp at X;omega⟩
  ·exact((Below.refl _ _).alloc (Nat.le_refl _) _).alloc (by simp) _
theorem au.right{B:Nat}{w:World}{v:Value}{x:Int}(h:au B w v x)(K:x.natAbs<du):
  ∃neg z d L,v=.agg #[.bool neg,.slice z L.length d]∧ag w z d L∧av neg L=true∧af neg L=x∧L.length≤512:=by
 obtain⟨neg,z,d,L,rfl,D,N,F,G,J,O⟩:=h
 have A:L.length≤512:=(dz L D.2.1 F).1 (by omega)
 refine⟨neg,z,d,L,rfl,D,?_,?_,A⟩
 ·have H:L.length=0→neg=false:=fun e=>by
   have:L= []:=List.length_eq_zero_iff.1 e
   subst this
   rw[G];simp[ai]at J;simp;omega
  have I:L.length=0∨L[L.length-1]?.getD 0≠0:=by
   rcases F with h|h
   ·left;rw[h];rfl
   ·exact .inr h
  simp only[av,Bool.and_eq_true,decide_eq_true_eq,Bool.not_eq_true',Bool.and_eq_false_iff,decide_eq_false_iff_not,Bool.or_eq_true]
  refine⟨⟨A,?_⟩,I⟩
  by_cases e:L.length=0
  ·exact .inr (H e)
  ·exact .inl e
 ·unfold af
  rw[G]
  by_cases u:x<0
  ·simp[u];omega
  ·simp[u];omega
theorem Fn{B h:Nat}{w:World}{v u:Value}{x y:Int}(z:au B w v x)(D:au h w u y)(F:x.natAbs<du)(G:y.natAbs<du):
  Calls Tryz.prog 295 #[v,u] w fun e d=>∃r,e=.returned (.tuple #[r,.int .i64 (bD (x+y))])∧au w.heap.size d r (dR (x+y))∧Below w.heap.size w d:=by
 obtain⟨H,I,J,A,rfl,K,L,N,a4⟩:=z.right F
 obtain⟨O,Q,U,C,rfl,X,Y,Z,b4⟩:=D.right G
 have:=Fj H O I Q J U A C w K X (by omega) (by omega)
 rwa[L,Y,N,Z,Bool.and_self,gJ,gK]at this
theorem cw(x:Nat)(h:x<18446744073709551616):x<du:=by
 have:(4294967296^2:Nat)≤4294967296^mb:=Nat.pow_le_pow_right (by decide) (by decide)
 unfold du
 omega
theorem f9(x:Int)(h:x.natAbs<du):bD x=0:=by unfold bD;rw[if_pos h]
theorem gb(x:Int)(h:x.natAbs<du):dR x=x:=by unfold dR;rw[if_pos h]
end Go.Proofs.YtcbcmlaogehimaaGreatDoor
