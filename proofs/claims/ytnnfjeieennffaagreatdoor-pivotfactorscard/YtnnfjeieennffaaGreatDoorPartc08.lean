/- Part 8 of the texts. -/
import Derived.Test.YtnnfjeieennffaaGreatDoorPartc07
set_option maxHeartbeats 2000000
namespace Go.Proofs.YtnnfjeieennffaaGreatDoor
open Go.RowKit
theorem xy(x p:Nat)(d:x<4294967296)(f:p≤31):IntKind.u64.wrap ((x:Int)*2^p)=((x*2^p:Nat):Int):=by
 have h:=qq x p d f
 have e:(x:Int)*2^p=((x*2^p:Nat):Int):=by simp
 rw[e]
 clear e
 generalize x*2^p=z at*
 simp only[IntKind.wrap,IntKind.signed,IntKind.bits]
 simp
 omega
theorem DW(x p s:Nat)(f:x<4294967296)(l:p≤31)(m:s<2^p):
  bits BinOp.or IntKind.u32 (s:Int) (IntKind.u64.wrap ((x:Int)*2^p)%4294967296)=((s+(x*2^p)%4294967296:Nat):Int)∧IntKind.u64.wrap ((x:Int)*2^p)/4294967296%4294967296=(((x*2^p)/4294967296:Nat):Int)∧s+(x*2^p)%4294967296<4294967296:=by
 have h:=qq x p f l
 have d:s<4294967296:=Nat.lt_of_lt_of_le m (by have:=Nat.pow_le_pow_right (n:=2) (by decide) (show p≤32 by omega);simpa using this)
 have e:=DB s ((x*2^p)%4294967296) p m (zH x p (by omega))
 have A:s|||(x*2^p)%4294967296<2^32:=Nat.or_lt_two_pow (by omega) (by omega)
 rw[xy x p f l]
 generalize x*2^p=z at*
 have t:((z:Nat):Int)%4294967296=((z%4294967296:Nat):Int):=by omega
 rw[t,u32_or_nat s (z%4294967296) d (by omega),e]
 refine⟨rfl,by omega,by omega⟩
theorem rV(ao:Option Addr)(ca:Nat)(A:List Nat)(l p:Nat)(m:Int)(w:World)(hA:ag w ao ca A)(la:A.length≤1073741824)(hm:m=32*(l:Int)+(p:Int))(hp:p≤31)(hl:l≤1073741824):
  Calls Tryz.prog 210 #[.slice ao A.length ca,.int .i64 m] w fun e w'=>∃M G U,e=.returned (.slice M U.length G)∧ag w' M G U∧bG w.heap.size M U∧U.length=A.length+l+1∧ak U=4294967296^l*2^p*ak A∧Below w.heap.size w w':=by
 obtain⟨i0,hi,a3,a4,a5⟩:=info_parts Tryz.info124
 have hd:m/32=(l:Int):=by omega
 have hr:m%32=(p:Int):=by omega
 have a9:0≤m:=by omega
 have ba:m≤68719476735:=by omega
 clear hm
 go_enter Tryz.func210,Tryz.ntmps210
 go_wp2_with(at_make;refine wpList_make_full _ rfl _ _ 48 rfl w.heap.size 124 i0 (.int .u32 0) 1 Tryz.underlying48 hi a3 a4 .i64 .i64 _ _ (A.length+l+1) rfl rfl (by omega) (by omega) (by rw[a5];omega) (by unfold maxLen;omega) (Nat.le_refl _) ?_;intro w1 L F)
 have V:=bP.made L
 have ax:Below w.heap.size w w1:=(Below.refl _ _).grown F (Nat.le_refl _) (fun k h=>by simp at h)
 clear L F
 go_wp2
 go_loopw[22] (fun c wr=>∃(i:Nat) (S:List Nat),i≤A.length∧c=.int .i64 i∧bP wr w.heap.size S∧S.length=A.length+l+1∧bd S∧Below w.heap.size w wr∧Hid (ak S=4294967296^l*2^p*ak (A.take i))∧Hid (S[i+l]?.getD 0<2^p)∧Hid (∀j,i+l<j→S[j]?.getD 0=0))
  (fun c _=>A.length-(intOf c).toNat)
 case atStart=>
  refine⟨0,List.replicate (A.length+l+1) 0,Nat.zero_le _,rfl,V,by simp,bd.zeros _,ax,?_,?_,?_⟩
  ·unfold Hid
   have:∀k,ak (List.replicate k 0)=0:=by intro k;induction k with|zero=>rfl|succ k ih=>simp[List.replicate_succ,ak,ih]
   rw[this];simp[ak]
  ·unfold Hid
   have:(List.replicate (A.length+l+1) 0)[0+l]?.getD 0=0:=by rw[List.getElem?_replicate];split<;>rfl
   rw[this];exact Nat.pow_pos (by decide)
  ·intro j _
   rw[List.getElem?_replicate];split<;>rfl
 case round=>
  obtain⟨i,S,bb,rfl,d,Q,hf,t,hv,z,D⟩:=hrel
  by_cases aI:i<A.length
  ·obtain⟨x,hx⟩:∃x,A[i]?.getD 0=x:=⟨_,rfl⟩
   have bx:x<4294967296:=by rw[←hx];exact hA.lt i
   obtain⟨s,hs⟩:∃s,S[i+l]?.getD 0=s:=⟨_,rfl⟩
   obtain⟨b1,o1,a6,aj,am⟩:=hA.ne (by omega)
   have N:=am i aI
   rw[hx]at N
   have dA:wr.cell? ⟨b1,o1+i,none⟩=some (.int .u32 (x:Int)):=by rw[t.cell (p:=⟨b1,o1+i,none⟩) aj];exact N
   have dS:=d.cell (i+l) (by omega)
   rw[hs]at dS
   have dT:=d.cell (i+l+1) (by omega)
   rw[D.out _ (by omega)]at dT
   have X:s<2^p:=by rw[←hs];exact z.out
   obtain⟨u1,u2,u3⟩:=DW x p s bx hp X
   have Y:=DC A S i l p x s (by omega) hx hs (D.out _ (by omega)) hv.out
   have Z:=xu x p bx hp
   have f:((S.set (i+l) (s+(x*2^p)%4294967296)).set (i+l+1) ((x*2^p)/4294967296))[i+1+l]?.getD 0<2^p:=by
    rw[show i+1+l=i+l+1 by omega,List.getElem?_set_self (by simp;omega)];exact Z
   have H:∀j,i+1+l<j→((S.set (i+l) (s+(x*2^p)%4294967296)).set (i+l+1) ((x*2^p)/4294967296))[j]?.getD 0=0:=fun j hj=>by
    rw[ff _ _ _ _ (by omega),ff _ _ _ _ (by omega)];exact D.out j (by omega)
   have K:(x*2^p)/4294967296<4294967296:=by have:=qq x p bx hp;omega
   have U1:=aa u1;have U2:=aa u2;have U3:=aa u3;have a0:=aa Y;have a1:=aa f;have a2:=aa H;have HH:=aa K
   have fS:=d.free (i+l)
   have fT:=d.free (i+l+1)
   have HR:=aa d
   clear u1 u2 u3 Y f H Z K X hx hs d hv z D am N
   subst a6
   have a7:(i:Int)<(A.length:Int):=by omega
   go_wp2
   have r1:=((uH HR).set (i+l) (s+(x*2^p)%4294967296)).set (i+l+1) ((x*2^p)/4294967296)
   rw[←uH U1,←uH U2]at r1
   go_roundw
   case rel=>exact⟨i+1,_,by omega,by go_num,r1,by simpa using Q,(hf.set _ _ (uH U3)).set _ _ (uH HH),(t.setCell (by simp) _).setCell (by simp) _,uH a0,uH a1,uH a2⟩
   case measure=>simp[intOf];omega
  ·have ae:i=A.length:=by omega
   have O:=hv.out
   rw[ae,List.take_length]at O
   have HV:=aa O
   have HR:=aa d
   clear O hv D d ae z
   go_wp2
   go_ret
   exact⟨some ⟨w.heap.size,0,none⟩,A.length+l+1,S,by rw[Q];rfl,(uH HR).limbs hf _ (by omega),.inr ⟨_,_,rfl,Nat.le_refl _⟩,Q,uH HV,t⟩
theorem zQ(f d p:Nat)(l:f<4294967296)(m:d<4294967296):
  bits BinOp.or IntKind.u64 (f:Int) ((d:Int)*4294967296)/2^p%4294967296=(((f+4294967296*d)/2^p%4294967296:Nat):Int):=by
 have e:(d:Int)*4294967296=((d*2^32:Nat):Int):=by simp
 have h:=Nat.two_pow_add_eq_or_of_lt (i:=32) (b:=f) (by omega) d
 rw[e,u64_or_nat f (d*2^32) (by omega) (by omega),Nat.or_comm,Nat.mul_comm d,←h]
 rw[show 2^32*d+f=f+4294967296*d by omega]
 simp
theorem oX(ao:Option Addr)(ca:Nat)(A:List Nat)(l p:Nat)(m:Int)(w:World)(L:ag w ao ca A)(la:A.length≤1073741824)(hm:m=32*(l:Int)+(p:Int))(hp:p≤31)(hl:l≤1073741824):
  Calls Tryz.prog 209 #[.slice ao A.length ca,.int .i64 m] w fun e w'=>∃M H V,e=.returned (.slice M V.length H)∧ag w' M H V∧bG w.heap.size M V∧V.length≤A.length∧ak V=ak A/(4294967296^l*2^p)∧Below w.heap.size w w':=by
 obtain⟨i0,hi,a5,a6,a7⟩:=info_parts Tryz.info124
 have hd:m/32=(l:Int):=by omega
 have hr:m%32=(p:Int):=by omega
 have bi:0≤m:=by omega
 have bj:m≤68719476735:=by omega
 clear hm
 by_cases X:A.length≤l
 ·have hz:ak A/(4294967296^l*2^p)=0:=by
   apply Nat.div_eq_of_lt
   have h1:=eh A L.2.1
   have h2:(4294967296:Nat)^A.length≤4294967296^l:=Nat.pow_le_pow_right (by decide) X
   have h3:=Nat.mul_le_mul_left (4294967296^l) (show 1≤2^p from Nat.pow_pos (by decide))
   omega
  have HZ:=aa hz
  generalize ak A/(4294967296^l*2^p)=q at*
  clear hz
  have a1:(A.length:Int)≤(l:Int):=by omega
  go_enter Tryz.func209,Tryz.ntmps209
  go_wp2
  go_ret
  exact⟨none,0,[],rfl,ag.nil _ _ _,.inl rfl,by simp,by rw[uH HZ];rfl,Below.refl _ _⟩
 obtain⟨n,hn⟩:∃n,n+l=A.length:=⟨A.length-l,by omega⟩
 have a1:¬(A.length:Int)≤(l:Int):=by omega
 have Y:=fun(S:List Nat) (k F G:Nat)=>pE A S L.2.1 k l p F G hp
 have Z:=fun(S:List Nat)=>rL A S L.2.1 l p
 have N:=aa Y
 have O:=aa Z
 clear Y Z
 have n1:n≤1073741824:=by omega
 have n2:n+l≤A.length:=by omega
 have n3:A.length≤n+l:=by omega
 clear hn X
 go_enter Tryz.func209,Tryz.ntmps209
 go_wp2_with(at_make;refine wpList_make_full _ rfl _ _ 48 rfl w.heap.size 124 i0 (.int .u32 0) 1 Tryz.underlying48 hi a5 a6 .i64 .i64 _ _ n rfl rfl (by omega) (by omega) (by rw[a7];omega) (by unfold maxLen;omega) (Nat.le_refl _) ?_;intro w1 K t)
 have ae:=bP.made K
 have a2:Below w.heap.size w w1:=(Below.refl _ _).grown t (Nat.le_refl _) (fun k h=>by simp at h)
 clear K t
 go_wp2
 go_loopw[25] (fun c wr=>∃(i:Nat) (S:List Nat),i≤n∧c=.int .i64 i∧bP wr w.heap.size S∧S.length=n∧bd S∧Below w.heap.size w wr∧Hid (ak (S.take i)=(ak A/(4294967296^l*2^p))%4294967296^i))
  (fun c _=>n-(intOf c).toNat)
 case atStart=>exact⟨0,List.replicate n 0,Nat.zero_le _,rfl,ae,by simp,bd.zeros _,a2,by unfold Hid;simp[ak,Nat.mod_one]⟩
 case round=>
  obtain⟨i,S,bn,rfl,f,U,hf,d,hv⟩:=hrel
  by_cases bm:i<n
  ·obtain⟨F,z⟩:∃x,A[i+l]?.getD 0=x:=⟨_,rfl⟩
   obtain⟨G,D⟩:∃x,A[i+l+1]?.getD 0=x:=⟨_,rfl⟩
   have b0:F<4294967296:=by rw[←z];exact L.lt _
   have a3:G<4294967296:=by rw[←D];exact L.lt _
   obtain⟨b1,o1,a9,aI,a0⟩:=L.ne (by omega)
   have Q:=a0 (i+l) (by omega)
   rw[z]at Q
   have dA:wr.cell? ⟨b1,o1+(i+l),none⟩=some (.int .u32 (F:Int)):=by rw[d.cell (p:=⟨b1,o1+(i+l),none⟩) aI];exact Q
   have cA:=L.below d
   have dS:=f.cell i (by omega)
   have fS:=f.free i
   generalize ba:S[i]?.getD 0=s at*
   have aj:=aa (uH N S i F G (by omega) z D hv.out)
   have a4:=aa D
   have HR:=aa f
   clear z D a0 Q f hv ba N O
   have bb:(i:Int)+(l:Int)<(A.length:Int):=by omega
   have bc:(0:Int)≤(i:Int)+(l:Int):=by omega
   have be:(i:Int)<(n:Int):=by omega
   subst a9
   go_wp2
   go_quiet ((go_at_call 217;exact iS (gU (some ⟨b1,o1,none⟩) ca A _ (i+l+1) G _ (cA.below (below_drewN (Below.refl _ _) _)) (by omega) (by omega) a4)))
   go_wp2
   have e:=zQ F G p b0 a3
   have r1:=((uH HR).drewN nq).set i (((F+4294967296*G)/2^p)%4294967296)
   rw[←e]at r1
   have am:((F+4294967296*G)/2^p)%4294967296<4294967296:=Nat.mod_lt _ (by decide)
   go_roundw
   case rel=>exact⟨i+1,_,by omega,by go_num,r1,by simpa using U,hf.set _ _ am,(below_drewN d nq).setCell (by simp) _,uH aj⟩
   case measure=>simp[intOf];omega
  ·have ax:=uH O S (by omega) (by rw[U,show n=i by omega];exact hv.out)
   have HV:=aa ax
   have HR:=aa f
   clear ax hv f N O
   go_wp2
   go_ret
   exact⟨some ⟨w.heap.size,0,none⟩,n,S,by rw[U];rfl,(uH HR).limbs hf _ (by omega),.inr ⟨_,_,rfl,Nat.le_refl _⟩,by omega,uH HV,d⟩
attribute [local go_sem ↓] Go.wp_at_zero Go.wp_at_succ
def sg(neg:Bool)(v:Nat):Int:=if neg then-(v:Int)else(v:Int)
theorem dC(neg:Bool)(L:List Nat):af neg L=sg neg (ak L):=rfl
def oY(neg:Bool)(L:List Nat)(n:Int):Int:=sg neg (if 0≤n then ak L*2^n.toNat else ak L/2^(-n).toNat)
def k8(neg:Bool)(L:List Nat)(n:Int):Bool:=ar neg L&&decide (-16384≤n∧n≤16384)
def ur(neg:Bool)(L:List Nat)(n:Int):Int:=if k8 neg L n then bu (oY neg L n)else if ar neg L then 2 else 1
def rW(neg:Bool)(L:List Nat)(n:Int):Int:=if k8 neg L n then dG (oY neg L n)else 0
theorem Gs(neg:Bool)(A L:List Nat)(l p:Nat)(n:Int)(d:n=32*(l:Int)+(p:Int))(h:ak L=4294967296^l*2^p*ak A):af neg L=oY neg A n:=by
 rw[dC,h,jN]
 unfold oY
 rw[if_pos (by omega),show n.toNat=32*l+p by omega,Nat.mul_comm]
theorem zR(neg:Bool)(A L:List Nat)(l p:Nat)(n:Int)(d:n<0)(f:-n=32*(l:Int)+(p:Int))(h:ak L=ak A/(4294967296^l*2^p)):af neg L=oY neg A n:=by
 rw[dC,h,jN]
 unfold oY
 rw[if_neg (by omega),show(-n).toNat=32*l+p by omega]
theorem gW(d:Bool)(D:Option Addr)(F:Nat)(A:List Nat)(n:Int)(w:World)(hA:ag w D F A)(la:A.length≤35184372088830)(bn:-9223372036854775808≤n∧n≤9223372036854775807):
  Calls Tryz.prog 198 #[.agg #[.bool d,.slice D A.length F],.int .i64 n] w fun e w'=>∃v,e=.returned (.tuple #[v,.int .i64 (ur d A n)])∧au w.heap.size w' v (rW d A n)∧Below w.heap.size w w':=by
 have a0:ar d A=false→ei d A=1∧ur d A n=1∧rW d A n=0:=fun h=>by simp[ei,ur,rW,k8,h]
 have a1:ar d A=true→¬(-16384≤n∧n≤16384)→ei d A=0∧ur d A n=2∧rW d A n=0:=fun h h'=>by simp only[ei,ur,rW,k8,h,decide_eq_false h'];simp
 have a3:ar d A=true→(-16384≤n∧n≤16384)→ei d A=0∧A.length≤512∧ur d A n=bu (oY d A n)∧rW d A n=dG (oY d A n):=fun h h'=>by
  refine⟨by simp[ei,h],(ay h).1,?_,?_⟩
  ·unfold ur k8;rw[h,decide_eq_true h',Bool.and_self,if_pos rfl]
  ·unfold rW k8;rw[h,decide_eq_true h',Bool.and_self,if_pos rfl]
 have a4:=fun(L:List Nat) (l p:Nat)=>Gs d A L l p n
 have a5:=fun(L:List Nat) (l p:Nat)=>zR d A L l p n
 have U:=aa a0;have V:=aa a1;have X:=aa a3;have H:=aa a4;have K:=aa a5
 have a6:=fun w' h'=>dZ d D F A w' h' la
 have a7:=aa a6
 clear a0 a1 a3 a4 a5 a6
 generalize oY d A n=z at*
 generalize ur d A n=er at*
 generalize rW d A n=nu at*
 generalize ei d A=ck at*
 generalize ar d A=rb at*
 go_enter Tryz.func198,Tryz.ntmps198
 go_wp2_with fail
 have ae:Below w.heap.size w ((w.alloc (.cells #[.bool d,.slice D A.length F] 50)).alloc (.cells #[.bool false,.slice none 0 0] 50)):=((Below.refl _ _).alloc (Nat.le_refl _) _).alloc (by simp) _
 refine(uH a7 _ (hA.below ae)).mono ?_
 rintro e w1 ⟨rfl,m⟩
 have bc:w.heap.size+2≤w1.heap.size:=by have:=m.size;simpa using this
 have f:Below w.heap.size w w1:=ae.trans (m.mono (by simp;omega))
 have Z:aC w1 w.heap.size (.bool d) (.slice D A.length F):=((aC.new _ _ _).old _).below m (by simp;omega)
 have G:aC w1 (w.heap.size+1) (.bool false) (.slice none 0 0):=by
  have:=aC.new (w.alloc (.cells #[.bool d,.slice D A.length F] 50)) (.bool false) (.slice none 0 0)
  exact aC.below (by simpa using this) m (by simp)
 have p0:=Z.c0;have p1:=Z.c1
 clear m ae a7
 cases rb
 ·obtain⟨c1,t,c3⟩:=uH U rfl
  have Q:=aa (And.intro t c3)
  rw[c1]
  have y0:=G.c0;have y1:=G.c1;have f0:=G.free 0;have f1:=G.free 1
  clear U V X H K c1 t c3
  go_wp2
  refine bodyPost_ret (v:=.tuple #[.agg #[.bool false,.slice none 0 0],.int .i64 1]) (by simp[results,Tryz.results198,go_sem,y0,y1]) rfl ⟨.agg #[.bool false,.slice none 0 0],by rw[(uH Q).1],by rw[(uH Q).2];exact au.zero _ _ _ _,?_⟩
  exact(f.setCell (by simp) _).setCell (by simp) _
 by_cases aj:-16384≤n∧n≤16384
 case neg=>
  obtain⟨c1,t,c3⟩:=uH V rfl aj
  have Q:=aa (And.intro t c3)
  rw[c1]
  have y0:=G.c0;have y1:=G.c1;have f0:=G.free 0;have f1:=G.free 1
  clear U V X H K c1 t c3
  rcases(show n< -16384∨(¬n< -16384∧16384<n) by omega)with hx|⟨hx,bm⟩
  all_goals
   go_wp2
   refine bodyPost_ret (v:=.tuple #[.agg #[.bool false,.slice none 0 0],.int .i64 2]) (by simp[results,Tryz.results198,go_sem,y0,y1]) rfl ⟨.agg #[.bool false,.slice none 0 0],by rw[(uH Q).1],by rw[(uH Q).2];exact au.zero _ _ _ _,?_⟩
   exact(f.setCell (by simp) _).setCell (by simp) _
 obtain⟨c1,c4,t,c3⟩:=uH X rfl aj
 have Q:=aa (And.intro t c3)
 rw[c1]
 obtain⟨bi,bj⟩:=aj
 clear U V X c1 t c3
 by_cases a9:n<0
 ·obtain⟨l,hl⟩:∃l:Nat,(l:Int)=(-n)/32:=⟨((-n)/32).toNat,by omega⟩
  obtain⟨p,hp⟩:∃p:Nat,(p:Int)=(-n)%32:=⟨((-n)%32).toNat,by omega⟩
  have q1:-n=32*(l:Int)+(p:Int):=by omega
  have am:=aa (fun L h=>uH K L l p a9 q1 h)
  have q2:p≤31:=by omega
  have q3:l≤512:=by omega
  have q4:n= -(32*(l:Int)+(p:Int)):=by omega
  have Q4:=aa q4
  have be:IntKind.i64.wrap (-n)= -n:=by
   simp only[IntKind.wrap,IntKind.signed,IntKind.bits]
   simp
   omega
  clear H K hl hp q1 q4
  go_wp2
  refine aq (fun W=>W=w1) rfl ?_
  rintro O e0
  subst e0
  have hK:∀w',Below (w.heap.size+1) O w'→Below (w.heap.size+1) O w'∧w'.cell? ⟨w.heap.size,0,none⟩=some (.bool d)∧w'.cell? ⟨w.heap.size,1,none⟩=some (.slice D A.length F):=fun w' h=>
   ⟨h,(Z.below h (by omega)).c0,(Z.below h (by omega)).c1⟩
  have HK:=aa hK
  have HA:=aa (hA.below f)
  have X2:=aa G
  have ax:=aa f
  clear hK hA Z G f p0 p1
  go_region_held3(fun w'=>Below (w.heap.size+1) O w'∧w'.cell? ⟨w.heap.size,0,none⟩=some (.bool d)∧w'.cell? ⟨w.heap.size,1,none⟩=some (.slice D A.length F))
   (first|exact uH HK _ (Below.refl _ _).drew|exact uH HK _ (by assumption)|exact uH HK _ ((M.setCell (by simp) _).setCell (by simp) _))
   (first|(go_at_call 209;refine(oX D F A l p _ _ ((uH HA).below ((Below.refl _ _).drew)) (by omega) (by have:=uH Q4;omega) (by omega) (by omega)).mono ?_;rintro e w3 ⟨bb,ba,Y,rfl,g1,g2,g3,g4,m⟩;have aI:Below (w.heap.size+1) O w3:=((Below.refl _ _).drew).trans (m.mono (by simp;omega));have X3:=aa ((uH X2).drew.below m (by simp;omega));have G1:=aa g1;have G2:=aa g2;have G4:=aa g4;have L4:Y.length≤35184372088832:=(by omega);have s1:=m.size;clear g1 g2 g4 g3 m)|(go_at_call 208;refine(jg _ d _ _ _ _ (uH G1) (uH G2) L4).mono ?_;rintro e w4 ⟨v,rfl,⟨n2,a2,t,L2,rfl,i1⟩,f⟩;have M:Below (w.heap.size+1) O w4:=aI.trans (f.mono (by simp at s1;omega));have N:=(uH X3).below f (by simp at s1;omega);have y0:=N.c0;have y1:=N.c1;have f0:=N.free 0;have f1:=N.free 1;have I1:=aa i1;clear i1 f N))
  have hz:=uH am Y (uH G4)
  have HI:=aa (hz▸uH I1)
  have HE:=aa (show bu (af d Y)=bu z by rw[hz])
  clear hz
  go_wp2
  refine bodyPost_ret (v:=.tuple #[.agg #[.bool n2,.slice a2 L2.length t],.int .i64 (bu (af d Y))]) (by simp[results,Tryz.results198,go_sem,y0,y1]) rfl ⟨.agg #[.bool n2,.slice a2 L2.length t],?_,?_,?_⟩
  ·rw[(uH Q).1,uH HE]
  ·rw[(uH Q).2];exact au.stored (uH HI) (by simp;omega) (by simp;omega) (by simp;omega) _ _
  ·exact(((uH ax).trans (M.mono (by omega))).setCell (by simp) _).setCell (by simp) _
 ·obtain⟨l,hl⟩:∃l:Nat,(l:Int)=n/32:=⟨(n/32).toNat,by omega⟩
  obtain⟨p,hp⟩:∃p:Nat,(p:Int)=n%32:=⟨(n%32).toNat,by omega⟩
  have q1:n=32*(l:Int)+(p:Int):=by omega
  have am:=aa (fun L h=>uH H L l p q1 h)
  have q2:p≤31:=by omega
  have q3:l≤512:=by omega
  have Q4:=aa q1
  clear H K hl hp q1
  go_wp2
  refine aq (fun W=>W=w1) rfl ?_
  rintro O e0
  subst e0
  have hK:∀w',Below (w.heap.size+1) O w'→Below (w.heap.size+1) O w'∧w'.cell? ⟨w.heap.size,0,none⟩=some (.bool d)∧w'.cell? ⟨w.heap.size,1,none⟩=some (.slice D A.length F):=fun w' h=>
   ⟨h,(Z.below h (by omega)).c0,(Z.below h (by omega)).c1⟩
  have HK:=aa hK
  have HA:=aa (hA.below f)
  have X2:=aa G
  have ax:=aa f
  clear hK hA Z G f p0 p1
  go_region_held3(fun w'=>Below (w.heap.size+1) O w'∧w'.cell? ⟨w.heap.size,0,none⟩=some (.bool d)∧w'.cell? ⟨w.heap.size,1,none⟩=some (.slice D A.length F))
   (first|exact uH HK _ (Below.refl _ _).drew|exact uH HK _ (by assumption)|exact uH HK _ ((M.setCell (by simp) _).setCell (by simp) _))
   (first|(go_at_call 210;refine(rV D F A l p _ _ ((uH HA).below ((Below.refl _ _).drew)) (by omega) (by have:=uH Q4;omega) (by omega) (by omega)).mono ?_;rintro e w3 ⟨bb,ba,Y,rfl,g1,g2,g3,g4,m⟩;have aI:Below (w.heap.size+1) O w3:=((Below.refl _ _).drew).trans (m.mono (by simp;omega));have X3:=aa ((uH X2).drew.below m (by simp;omega));have G1:=aa g1;have G2:=aa g2;have G4:=aa g4;have L4:Y.length≤35184372088832:=(by omega);have s1:=m.size;clear g1 g2 g4 g3 m)|(go_at_call 208;refine(jg _ d _ _ _ _ (uH G1) (uH G2) L4).mono ?_;rintro e w4 ⟨v,rfl,⟨n2,a2,t,L2,rfl,i1⟩,f⟩;have M:Below (w.heap.size+1) O w4:=aI.trans (f.mono (by simp at s1;omega));have N:=(uH X3).below f (by simp at s1;omega);have y0:=N.c0;have y1:=N.c1;have f0:=N.free 0;have f1:=N.free 1;have I1:=aa i1;clear i1 f N))
  have hz:=uH am Y (uH G4)
  have HI:=aa (hz▸uH I1)
  have HE:=aa (show bu (af d Y)=bu z by rw[hz])
  clear hz
  go_wp2
  refine bodyPost_ret (v:=.tuple #[.agg #[.bool n2,.slice a2 L2.length t],.int .i64 (bu (af d Y))]) (by simp[results,Tryz.results198,go_sem,y0,y1]) rfl ⟨.agg #[.bool n2,.slice a2 L2.length t],?_,?_,?_⟩
  ·rw[(uH Q).1,uH HE]
  ·rw[(uH Q).2];exact au.stored (uH HI) (by simp;omega) (by simp;omega) (by simp;omega) _ _
  ·exact(((uH ax).trans (M.mono (by omega))).setCell (by simp) _).setCell (by simp) _
end Go.Proofs.YtnnfjeieennffaaGreatDoor
namespace Go.Proofs.YtnnfjeieennffaaGreatDoor
open Go.RowKit
theorem qy(ao bo:Option Addr)(ca cb:Nat)(A B:List Nat)(w:World)(hA:ag w ao ca A)(hB:ag w bo cb B)(la:A.length≤1073741824)(lb:B.length≤1073741824):
  Calls Tryz.prog 226 #[.slice ao A.length ca,.slice bo B.length cb] w fun e w'=>∃V L L',e=.returned (.slice V L'.length L)∧ag w' V L L'∧bG w.heap.size V L'∧L'.length=A.length+B.length∧ak L'=ak A*ak B∧Below w.heap.size w w':=by
 obtain⟨i0,hi,m,bn,bp⟩:=info_parts Tryz.info124
 obtain⟨n,hn⟩:∃n,n=A.length+B.length:=⟨_,rfl⟩
 have HN:=aa hn
 have n1:n≤2147483648:=by omega
 have n2:A.length+B.length≤n:=by omega
 clear hn
 go_enter Tryz.func226,Tryz.ntmps226
 go_wp2_with(at_make;have hn:=uH HN;refine wpList_make_full _ rfl _ _ 48 rfl w.heap.size 124 i0 (.int .u32 0) 1 Tryz.underlying48 hi m bn .i64 .i64 _ _ n rfl rfl (by omega) (by omega) (by rw[bp];omega) (by unfold maxLen;omega) (Nat.le_refl _) ?_;clear hn;intro w1 U F)
 have M:=bP.made U
 have aI:Below w.heap.size w w1:=(Below.refl _ _).grown F (Nat.le_refl _) (fun k h=>by simp at h)
 clear U F
 go_wp2
 go_loopw[17] (fun c wr=>∃(i:Nat) (P:List Nat),i≤A.length∧c=.int .i64 i∧bP wr w.heap.size P∧P.length=n∧bd P∧Below w.heap.size w wr∧Hid (ak P=ak (A.take i)*ak B)∧Hid (∀j,i+B.length≤j→P[j]?.getD 0=0))
  (fun c _=>A.length-(intOf c).toNat)
 case atStart=>
  refine⟨0,List.replicate n 0,Nat.zero_le _,rfl,M,by simp,bd.zeros _,aI,?_,?_⟩
  ·unfold Hid
   have:∀k,ak (List.replicate k 0)=0:=by intro k;induction k with|zero=>rfl|succ k ih=>simp[List.replicate_succ,ak,ih]
   rw[this];simp[ak]
  ·intro j _
   rw[List.getElem?_replicate];split<;>rfl
 case round=>
  obtain⟨i,P,b5,rfl,hr,am,hf,O,hv,H⟩:=hrel
  by_cases a0:i<A.length
  ·obtain⟨x,hx⟩:∃x,A[i]?.getD 0=x:=⟨_,rfl⟩
   have bx:x<4294967296:=by rw[←hx];exact hA.lt i
   obtain⟨b1,o1,bt,a7,a9⟩:=hA.ne (by omega)
   have X:=a9 i a0
   rw[hx]at X
   have HX:=aa hx
   have a1:=aa X
   have HR:=aa hr
   have b3:=aa a0
   clear hx a9 X hr M aI
   subst bt
   have bA:(i:Int)<(A.length:Int):=by omega
   go_wp2
   go_loopw[7,22] (fun c k wq=>∃(y:Nat) (d:Nat) (Q:List Nat),d≤B.length∧k=.int .i64 d∧c=.int .u64 y∧y<4294967296∧bP wq w.heap.size Q∧Q.length=n∧bd Q∧Below w.heap.size w wq∧Hid (ak Q+4294967296^(i+d)*y=ak (A.take i)*ak B+4294967296^i*x*ak (B.take d))∧Hid (∀j,i+B.length≤j→Q[j]?.getD 0=0))
    (fun _ k _=>B.length-(intOf k).toNat)
   case atStart=>exact⟨0,0,P,Nat.zero_le _,rfl,rfl,by omega,uH HR,am,hf,O,by unfold Hid;simp[ak];exact hv.out,H⟩
   case round=>
    obtain⟨y,d,Q,b6,rfl,rfl,hy,f,ba,ax,K,t,D⟩:=hrel
    by_cases be:d<B.length
    ·obtain⟨z,hz⟩:∃z,B[d]?.getD 0=z:=⟨_,rfl⟩
     have bz:z<4294967296:=by rw[←hz];exact hB.lt d
     obtain⟨q,hq⟩:∃q,Q[i+d]?.getD 0=q:=⟨_,rfl⟩
     obtain⟨b2,o2,bv,bb,bc⟩:=hB.ne (by omega)
     have Y:=bc d be
     rw[hz]at Y
     have bq:q<4294967296:=by
      rw[←hq]
      by_cases hh:i+d<Q.length
      ·rw[List.getElem?_eq_getElem hh];exact ax _ (List.getElem_mem hh)
      ·rw[List.getElem?_eq_none (by omega)];decide
     have dA:wr.cell? ⟨b1,o1+i,none⟩=some (.int .u32 (x:Int)):=by rw[K.cell (p:=⟨b1,o1+i,none⟩) a7];exact uH a1
     have dB:wr.cell? ⟨b2,o2+d,none⟩=some (.int .u32 (z:Int)):=by rw[K.cell (p:=⟨b2,o2+d,none⟩) bb];exact Y
     have dQ:=f.cell (i+d) (by omega)
     rw[hq]at dQ
     have fQ:=f.free (i+d)
     have bi:=zF x z bx bz
     obtain⟨bE,b0⟩:=Dz x z bx bz
     have a2:=zG B Q (ak (A.take i)*ak B) x i d y z q (by omega) hz hq t.out
     have l:∀j,i+B.length≤j→(Q.set (i+d) ((y+(x*z+q))%4294967296))[j]?.getD 0=0:=fun j hj=>by rw[ff _ _ _ _ (by omega)];exact D.out j hj
     have bj:=aa a2
     have Z:=aa l
     have ae:=aa f
     obtain⟨ec,ed⟩:=xt x y z q
     have EC:=aa ec
     have ED:=aa ed
     have a3:(y+(x*z+q))/4294967296<4294967296:=by omega
     have BY:=aa a3
     clear a2 l f ec ed hz hq bc Y t D a3 bi hv H
     subst bv
     have b4:(d:Int)<(B.length:Int):=by omega
     have bm:(i:Int)+(d:Int)<(n:Int):=by omega
     go_wp2
     go_quiet (fail)
     go_wp2
     have G:=((uH ae).drewN nq).set (i+d) ((y+(x*z+q))%4294967296)
     rw[uH EC]at G
     go_roundw
     case rel=>exact⟨(y+(x*z+q))/4294967296,d+1,Q.set (i+d) ((y+(x*z+q))%4294967296),by omega,by go_num,cQ (uH ED).symm,uH BY,G,by simpa using ba,ax.set _ _ (by omega),(below_drewN K nq).setCell (by simp) _,uH bj,uH Z⟩
     case measure=>simp[intOf];omega
    ·have a4:d=B.length:=by omega
     rw[a4]at t
     have m:=D.out (i+B.length) (by omega)
     have N:=DA A B Q x i y (by omega) (uH HX) m t.out
     have l:∀j,i+1+B.length≤j→(Q.set (i+B.length) y)[j]?.getD 0=0:=fun j hj=>by rw[ff _ _ _ _ (by omega)];exact D.out j (by omega)
     have dQ:=f.cell (i+B.length) (by omega)
     rw[m]at dQ
     have fQ:=f.free (i+B.length)
     have a5:=aa N
     have Z:=aa l
     have ae:=aa f
     have bm:(i:Int)+(B.length:Int)<(n:Int):=by omega
     clear N l f t D m a4 hv H a1
     go_wp2
     have G:=(uH ae).set (i+B.length) y
     go_roundw
     case rel=>exact⟨i+1,Q.set (i+B.length) y,by omega,by go_num,G,by simpa using ba,ax.set _ _ hy,K.setCell (by simp) _,uH a5,uH Z⟩
     case measure=>simp[intOf];omega
  ·have a6:i=A.length:=by omega
   have aj:=hv.out
   rw[a6,List.take_length]at aj
   have HV:=aa aj
   have HR:=aa hr
   clear aj hv H hr a6
   go_wp2
   go_ret
   exact⟨some ⟨w.heap.size,0,none⟩,n,P,by rw[am];rfl,(uH HR).limbs hf _ (by omega),.inr ⟨_,_,rfl,Nat.le_refl _⟩,by rw[am];exact uH HN,uH HV,O⟩
attribute [local go_sem ↓] Go.wp_at_zero Go.wp_at_succ
theorem DX(A B:List Nat)(d:bN A)(cB:bN B)(D:A.length≤512)(F:B.length≤512)(h:512<A.length+B.length-1):¬ak A*ak B<dE:=by
 have f:A≠ []:=by rintro rfl;simp at h;omega
 have l:B≠ []:=by rintro rfl;simp at h;omega
 have m:=kW A (d.resolve_left f)
 have t:=kW B (cB.resolve_left l)
 have z:=Nat.mul_le_mul m t
 rw[←Nat.pow_add]at z
 have G:dE≤4294967296^(A.length-1+(B.length-1)):=by
  unfold dE
  exact Nat.pow_le_pow_right (by decide) (show kX≤A.length-1+(B.length-1) by unfold kX;omega)
 omega
theorem DY(f l:Bool)(D F:Option Addr)(G H:Nat)(A B:List Nat)(w:World)(hA:ag w D G A)(hB:ag w F H B)(la:A.length≤35184372088830)(lb:B.length≤35184372088830):
  Calls Tryz.prog 222 #[.agg #[.bool f,.slice D A.length G],.agg #[.bool l,.slice F B.length H]] w fun e w'=>∃v,e=.returned (.tuple #[v,.int .i64 (pH (ar f A&&ar l B) (af f A*af l B))])∧au w.heap.size w' v (pI (ar f A&&ar l B) (af f A*af l B))∧Below w.heap.size w w':=by
 have hC:(ar f A&&ar l B)=true→bN A∧bN B:=fun h=>by
  simp only[Bool.and_eq_true]at h;exact⟨(ay h.1).2.1,(ay h.2).2.1⟩
 have hL:(ar f A&&ar l B)=true→A.length≤512∧B.length≤512∧(512<A.length+B.length-1→bu (af f A*af l B)=2∧dG (af f A*af l B)=0):=fun h=>by
  simp only[Bool.and_eq_true]at h
  have r1:=ay h.1
  have t:=ay h.2
  refine⟨r1.1,t.1,fun hb=>?_⟩
  have V:¬(af f A*af l B).natAbs<dE:=by
   rw[Int.natAbs_mul,aP,aP]
   exact DX A B r1.2.1 t.2.1 r1.1 t.1 hb
  constructor
  ·unfold bu;rw[if_neg V]
  ·unfold dG;rw[if_neg V]
 have X:∀L:List Nat,ak L=ak A*ak B→af (f != l) L=af f A*af l B:=by
  intro L h;unfold af;rw[h];cases f<;>cases l<;>simp[Int.neg_mul,Int.mul_neg]
 have HC:=aa hC
 have HL:=aa hL
 have am:=aa X
 clear hL X
 have H2:=aa (show uA f A l B=if(ar f A&&ar l B)then 0 else 1 from rfl)
 clear hC
 generalize a0:(ar f A&&ar l B)=ok at*
 generalize af f A*af l B=z at*
 clear a0
 go_enter Tryz.func222,Tryz.ntmps222
 go_wp2_with fail
 have N:Below w.heap.size w (((w.alloc (.cells #[.bool f,.slice D A.length G] 50)).alloc (.cells #[.bool l,.slice F B.length H] 50)).alloc (.cells #[.bool false,.slice none 0 0] 50)):=
  (((Below.refl _ _).alloc (Nat.le_refl _) _).alloc (by simp) _).alloc (by simp;omega) _
 refine(jD f l D F G H A B _ (hA.below N) (hB.below N) la lb).mono ?_
 rintro e M ⟨rfl,d⟩
 have a3:w.heap.size+3≤M.heap.size:=by have:=d.size;simpa using this
 have m:Below w.heap.size w M:=N.trans (d.mono (by simp;omega))
 have p0:M.cell? ⟨w.heap.size,0,none⟩=some (.bool f):=by rw[d.cell (p:=⟨w.heap.size,0,none⟩) (by simp;omega)];simp[go_sem]
 have p1:M.cell? ⟨w.heap.size,1,none⟩=some (.slice D A.length G):=by rw[d.cell (p:=⟨w.heap.size,1,none⟩) (by simp;omega)];simp[go_sem]
 have q0:M.cell? ⟨w.heap.size+1,0,none⟩=some (.bool l):=by rw[d.cell (p:=⟨w.heap.size+1,0,none⟩) (by simp)];simp[go_sem]
 have q1:M.cell? ⟨w.heap.size+1,1,none⟩=some (.slice F B.length H):=by rw[d.cell (p:=⟨w.heap.size+1,1,none⟩) (by simp)];simp[go_sem]
 have t:aC M (w.heap.size+2) (.bool false) (.slice none 0 0):=by
  have:=aC.new ((w.alloc (.cells #[.bool f,.slice D A.length G] 50)).alloc (.cells #[.bool l,.slice F B.length H] 50)) (.bool false) (.slice none 0 0)
  exact aC.below (by simpa using this) d (by simp)
 have PA:Hid (aC M w.heap.size (.bool f) (.slice D A.length G)):=(((aC.new _ _ _).old _).old _).below d (by simp;omega)
 have PB:Hid (aC M (w.heap.size+1) (.bool l) (.slice F B.length H)):=by
  have:=(aC.new (w.alloc (.cells #[.bool f,.slice D A.length G] 50)) (.bool l) (.slice F B.length H)).old (.cells #[.bool false,.slice none 0 0] 50)
  exact aC.below (by simpa using this) d (by simp)
 rw[uH H2]
 clear d H2 N
 cases ok
 ·simp only[Bool.false_eq_true,if_false]
  have Y:=t.c0;have Z:=t.c1;have f0:=t.free 0;have f1:=t.free 1
  go_wp2
  refine bodyPost_ret (v:=.tuple #[.agg #[.bool false,.slice none 0 0],.int .i64 1]) (by simp[results,Tryz.results222,go_sem,Y,Z]) rfl ⟨.agg #[.bool false,.slice none 0 0],by rw[lZ],by rw[l6];exact au.zero _ _ _ _,?_⟩
  exact(m.setCell (by simp;omega) _).setCell (by simp;omega) _
 ·obtain⟨cA,cB⟩:=uH HC rfl
  obtain⟨l1,l2,O⟩:=uH HL rfl
  have K:=aa O
  clear cA cB O HC HL
  simp only[if_true]
  by_cases ae:512<A.length+B.length-1
  ·have hE:=aa (uH K ae)
   have Y:=t.c0;have Z:=t.c1;have f0:=t.free 0;have f1:=t.free 1
   have Q:(512:Int)<(A.length:Int)+(B.length:Int)-1:=by omega
   clear K
   go_wp2
   refine bodyPost_ret (v:=.tuple #[.agg #[.bool false,.slice none 0 0],.int .i64 2]) (by simp[results,Tryz.results222,go_sem,Y,Z]) rfl ⟨.agg #[.bool false,.slice none 0 0],by rw[gj,(uH hE).1],by rw[gn,(uH hE).2];exact au.zero _ _ _ _,?_⟩
   exact(m.setCell (by simp;omega) _).setCell (by simp;omega) _
  have Q:¬(512:Int)<(A.length:Int)+(B.length:Int)-1:=by omega
  clear K
  go_wp2
  refine aq (fun W=>W=M) rfl ?_
  rintro U e0
  subst e0
  have x0:aC U w.heap.size (.bool f) (.slice D A.length G):=uH PA
  have x1:aC U (w.heap.size+1) (.bool l) (.slice F B.length H):=uH PB
  have hK:∀w',Below (w.heap.size+2) U w'→Below (w.heap.size+2) U w'∧w'.cell? ⟨w.heap.size,0,none⟩=some (.bool f)∧w'.cell? ⟨w.heap.size+1,0,none⟩=some (.bool l)∧w'.cell? ⟨w.heap.size,1,none⟩=some (.slice D A.length G)∧w'.cell? ⟨w.heap.size+1,1,none⟩=some (.slice F B.length H):=fun w' h=>
   ⟨h,(x0.below h (by omega)).c0,(x1.below h (by omega)).c0,(x0.below h (by omega)).c1,(x1.below h (by omega)).c1⟩
  have HK:=aa hK
  have HA:=aa (hA.below m)
  have HB:=aa (hB.below m)
  have X2:=aa t
  have ax:=aa m
  clear hK hA hB x0 x1 t m p0 p1 q0 q1 PA PB
  go_region_held3(fun w'=>Below (w.heap.size+2) U w'∧w'.cell? ⟨w.heap.size,0,none⟩=some (.bool f)∧w'.cell? ⟨w.heap.size+1,0,none⟩=some (.bool l)∧w'.cell? ⟨w.heap.size,1,none⟩=some (.slice D A.length G)∧w'.cell? ⟨w.heap.size+1,1,none⟩=some (.slice F B.length H))
   (first|exact uH HK _ (Below.refl _ _).drew|exact uH HK _ (by assumption)|exact uH HK _ ((aj.setCell (by simp) _).setCell (by simp) _))
   (first|(go_at_call 226;refine(qy D F G H A B _ ((uH HA).below ((Below.refl _ _).drew)) ((uH HB).below ((Below.refl _ _).drew)) (by omega) (by omega)).mono ?_;rintro e w3 ⟨a4,a1,L',rfl,g1,g2,g3,g4,d⟩;have aI:Below (w.heap.size+2) U w3:=((Below.refl _ _).drew).trans (d.mono (by simp;omega));have X3:=aa ((uH X2).drew.below d (by simp;omega));have G1:=aa g1;have G2:=aa g2;have G4:=aa g4;have L4:L'.length≤35184372088832:=(by omega);have s1:=d.size;clear g1 g2 g4 g3 d)|(go_at_call 208;refine(jg _ (f != l) _ _ _ _ (uH G1) (uH G2) L4).mono ?_;rintro e w4 ⟨v,rfl,⟨n2,a2,c2,L2,rfl,i1⟩,m⟩;have aj:Below (w.heap.size+2) U w4:=aI.trans (m.mono (by simp at s1;omega));have X4:=(uH X3).below m (by simp at s1;omega);have Y:=X4.c0;have Z:=X4.c1;have f0:=X4.free 0;have f1:=X4.free 1;have I1:=aa i1;clear i1 m X4))
  have hz:=uH am L' (uH G4)
  have HI:=aa (hz▸uH I1)
  have HE:=aa (show bu (af (f != l) L')=bu z by rw[hz])
  clear hz
  go_wp2
  refine bodyPost_ret (v:=.tuple #[.agg #[.bool n2,.slice a2 L2.length c2],.int .i64 (bu (af (f != l) L'))]) (by simp[results,Tryz.results222,go_sem,Y,Z]) rfl ⟨.agg #[.bool n2,.slice a2 L2.length c2],?_,?_,?_⟩
  ·rw[gj,uH HE]
  ·rw[gn];exact au.stored (uH HI) (by simp;omega) (by simp;omega) (by simp;omega) _ _
  ·exact(((uH ax).trans (aj.mono (by omega))).setCell (by simp;omega) _).setCell (by simp;omega) _
end Go.Proofs.YtnnfjeieennffaaGreatDoor
