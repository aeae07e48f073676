/- Part 8 of the texts. -/
import Derived.Test.YtmpkkhackbpflaaGreatDoorPartg07
set_option maxHeartbeats 2000000
namespace Go.Proofs.YtmpkkhackbpflaaGreatDoor
open Go.RowKit
theorem Aq(x p:Nat)(d:x<4294967296)(l:p≤31):IntKind.u64.wrap ((x:Int)*2^p)=((x*2^p:Nat):Int):=by
 have h:=sD x p d l
 have e:(x:Int)*2^p=((x*2^p:Nat):Int):=by simp
 rw[e]
 clear e
 generalize x*2^p=z at*
 simp only[IntKind.wrap,IntKind.signed,IntKind.bits]
 simp
 omega
theorem F1(x p s:Nat)(l:x<4294967296)(t:p≤31)(D:s<2^p):
  bits BinOp.or IntKind.u32 (s:Int) (IntKind.u64.wrap ((x:Int)*2^p)%4294967296)=((s+(x*2^p)%4294967296:Nat):Int)∧IntKind.u64.wrap ((x:Int)*2^p)/4294967296%4294967296=(((x*2^p)/4294967296:Nat):Int)∧s+(x*2^p)%4294967296<4294967296:=by
 have h:=sD x p l t
 have d:s<4294967296:=Nat.lt_of_lt_of_le D (by have:=Nat.pow_le_pow_right (n:=2) (by decide) (show p≤32 by omega);simpa using this)
 have e:=FY s ((x*2^p)%4294967296) p D (Cy x p (by omega))
 have G:s|||(x*2^p)%4294967296<2^32:=Nat.or_lt_two_pow (by omega) (by omega)
 rw[Aq x p l t]
 generalize x*2^p=z at*
 have F:((z:Nat):Int)%4294967296=((z%4294967296:Nat):Int):=by omega
 rw[F,u32_or_nat s (z%4294967296) d (by omega),e]
 refine⟨rfl,by omega,by omega⟩
theorem ue(ao:Option Addr)(ca:Nat)(A:List Nat)(l p:Nat)(m:Int)(w:World)(hA:af w ao ca A)(la:A.length≤1073741824)(hm:m=32*(l:Int)+(p:Int))(hp:p≤31)(hl:l≤1073741824):
  Calls Tryz.prog 250 #[.slice ao A.length ca,.int .i64 m] w fun e w'=>∃M H T,e=.returned (.slice M T.length H)∧af w' M H T∧bB w.heap.size M T∧T.length=A.length+l+1∧val T=4294967296^l*2^p*val A∧Below w.heap.size w w':=by
 obtain⟨i0,hi,ax,ay,az⟩:=info_parts Tryz.info147
 have hd:m/32=(l:Int):=by omega
 have hr:m%32=(p:Int):=by omega
 have a0:0≤m:=by omega
 have a1:m≤68719476735:=by omega
 clear hm
 go_enter Tryz.func250,Tryz.ntmps250
 go_wp2_with(at_make;refine wpList_make_full _ rfl _ _ 53 rfl w.heap.size 147 i0 (.int .u32 0) 1 Tryz.underlying53 hi ax ay .i64 .i64 _ _ (A.length+l+1) rfl rfl (by omega) (by omega) (by rw[az];omega) (by unfold maxLen;omega) (Nat.le_refl _) ?_;intro w1 L G)
 have U:=cH.made L
 have ae:Below w.heap.size w w1:=(Below.refl _ _).grown G (Nat.le_refl _) (fun k h=>by simp at h)
 clear L G
 go_wp2
 go_loopw[22] (fun c wr=>∃(i:Nat) (S:List Nat),i≤A.length∧c=.int .i64 i∧cH wr w.heap.size S∧S.length=A.length+l+1∧bM S∧Below w.heap.size w wr∧Hid (val S=4294967296^l*2^p*val (A.take i))∧Hid (S[i+l]?.getD 0<2^p)∧Hid (∀j,i+l<j→S[j]?.getD 0=0))
  (fun c _=>A.length-(intOf c).toNat)
 case atStart=>
  refine⟨0,List.replicate (A.length+l+1) 0,Nat.zero_le _,rfl,U,by simp,bM.zeros _,ae,?_,?_,?_⟩
  ·unfold Hid
   have:∀k,val (List.replicate k 0)=0:=by intro k;induction k with|zero=>rfl|succ k ih=>simp[List.replicate_succ,val,ih]
   rw[this];simp[val]
  ·unfold Hid
   have:(List.replicate (A.length+l+1) 0)[0+l]?.getD 0=0:=by rw[List.getElem?_replicate];split<;>rfl
   rw[this];exact Nat.pow_pos (by decide)
  ·intro j _
   rw[List.getElem?_replicate];split<;>rfl
 case round=>
  obtain⟨i,S,a2,rfl,d,Q,hf,z,hv,D,F⟩:=hrel
  by_cases ai:i<A.length
  ·obtain⟨x,hx⟩:∃x,A[i]?.getD 0=x:=⟨_,rfl⟩
   have bx:x<4294967296:=by rw[←hx];exact hA.lt i
   obtain⟨s,hs⟩:∃s,S[i+l]?.getD 0=s:=⟨_,rfl⟩
   obtain⟨b1,o1,aD,aa,ad⟩:=hA.ne (by omega)
   have N:=ad i ai
   rw[hx]at N
   have dA:wr.cell? ⟨b1,o1+i,none⟩=some (.int .u32 (x:Int)):=by rw[z.cell (p:=⟨b1,o1+i,none⟩) aa];exact N
   have dS:=d.cell (i+l) (by omega)
   rw[hs]at dS
   have dT:=d.cell (i+l+1) (by omega)
   rw[F.out _ (by omega)]at dT
   have V:s<2^p:=by rw[←hs];exact D.out
   obtain⟨u1,u2,u3⟩:=F1 x p s bx hp V
   have X:=FZ A S i l p x s (by omega) hx hs (F.out _ (by omega)) hv.out
   have Y:=Ap x p bx hp
   have t:((S.set (i+l) (s+(x*2^p)%4294967296)).set (i+l+1) ((x*2^p)/4294967296))[i+1+l]?.getD 0<2^p:=by
    rw[show i+1+l=i+l+1 by omega,List.getElem?_set_self (by simp;omega)];exact Y
   have I:∀j,i+1+l<j→((S.set (i+l) (s+(x*2^p)%4294967296)).set (i+l+1) ((x*2^p)/4294967296))[j]?.getD 0=0:=fun j hj=>by
    rw[gG _ _ _ _ (by omega),gG _ _ _ _ (by omega)];exact F.out j (by omega)
   have J:(x*2^p)/4294967296<4294967296:=by have:=sD x p bx hp;omega
   have U1:=ac u1;have U2:=ac u2;have U3:=ac u3;have am:=ac X;have ap:=ac t;have aq:=ac I;have HH:=ac J
   have fS:=d.free (i+l)
   have fT:=d.free (i+l+1)
   have HR:=ac d
   clear u1 u2 u3 X t I Y J V hx hs d hv D F ad N
   subst aD
   have aI:(i:Int)<(A.length:Int):=by omega
   go_wp2
   have r1:=((uH HR).set (i+l) (s+(x*2^p)%4294967296)).set (i+l+1) ((x*2^p)/4294967296)
   rw[←uH U1,←uH U2]at r1
   go_roundw
   case rel=>exact⟨i+1,_,by omega,by go_num,r1,by simpa using Q,(hf.set _ _ (uH U3)).set _ _ (uH HH),(z.setCell (by simp) _).setCell (by simp) _,uH am,uH ap,uH aq⟩
   case measure=>simp[intOf];omega
  ·have Z:i=A.length:=by omega
   have O:=hv.out
   rw[Z,List.take_length]at O
   have HV:=ac O
   have HR:=ac d
   clear O hv F d Z D
   go_wp2
   go_ret
   exact⟨some ⟨w.heap.size,0,none⟩,A.length+l+1,S,by rw[Q];rfl,(uH HR).limbs hf _ (by omega),.inr ⟨_,_,rfl,Nat.le_refl _⟩,Q,uH HV,z⟩
theorem Cz(l d p:Nat)(t:l<4294967296)(z:d<4294967296):
  bits BinOp.or IntKind.u64 (l:Int) ((d:Int)*4294967296)/2^p%4294967296=(((l+4294967296*d)/2^p%4294967296:Nat):Int):=by
 have e:(d:Int)*4294967296=((d*2^32:Nat):Int):=by simp
 have h:=Nat.two_pow_add_eq_or_of_lt (i:=32) (b:=l) (by omega) d
 rw[e,u64_or_nat l (d*2^32) (by omega) (by omega),Nat.or_comm,Nat.mul_comm d,←h]
 rw[show 2^32*d+l=l+4294967296*d by omega]
 simp
theorem qH(ao:Option Addr)(ca:Nat)(A:List Nat)(l p:Nat)(m:Int)(w:World)(L:af w ao ca A)(la:A.length≤1073741824)(hm:m=32*(l:Int)+(p:Int))(hp:p≤31)(hl:l≤1073741824):
  Calls Tryz.prog 249 #[.slice ao A.length ca,.int .i64 m] w fun e w'=>∃M I U,e=.returned (.slice M U.length I)∧af w' M I U∧bB w.heap.size M U∧U.length≤A.length∧val U=val A/(4294967296^l*2^p)∧Below w.heap.size w w':=by
 obtain⟨i0,hi,az,aD,aI⟩:=info_parts Tryz.info147
 have hd:m/32=(l:Int):=by omega
 have hr:m%32=(p:Int):=by omega
 have a5:0≤m:=by omega
 have a6:m≤68719476735:=by omega
 clear hm
 by_cases V:A.length≤l
 ·have hz:val A/(4294967296^l*2^p)=0:=by
   apply Nat.div_eq_of_lt
   have h1:=eW A L.2.1
   have h2:(4294967296:Nat)^A.length≤4294967296^l:=Nat.pow_le_pow_right (by decide) V
   have h3:=Nat.mul_le_mul_left (4294967296^l) (show 1≤2^p from Nat.pow_pos (by decide))
   omega
  have HZ:=ac hz
  generalize val A/(4294967296^l*2^p)=q at*
  clear hz
  have ap:(A.length:Int)≤(l:Int):=by omega
  go_enter Tryz.func249,Tryz.ntmps249
  go_wp2
  go_ret
  exact⟨none,0,[],rfl,af.nil _ _ _,.inl rfl,by simp,by rw[uH HZ];rfl,Below.refl _ _⟩
 obtain⟨n,hn⟩:∃n,n+l=A.length:=⟨A.length-l,by omega⟩
 have ap:¬(A.length:Int)≤(l:Int):=by omega
 have X:=fun(S:List Nat) (k G H:Nat)=>rq A S L.2.1 k l p G H hp
 have Y:=fun(S:List Nat)=>ud A S L.2.1 l p
 have N:=ac X
 have O:=ac Y
 clear X Y
 have n1:n≤1073741824:=by omega
 have n2:n+l≤A.length:=by omega
 have n3:A.length≤n+l:=by omega
 clear hn V
 go_enter Tryz.func249,Tryz.ntmps249
 go_wp2_with(at_make;refine wpList_make_full _ rfl _ _ 53 rfl w.heap.size 147 i0 (.int .u32 0) 1 Tryz.underlying53 hi az aD .i64 .i64 _ _ n rfl rfl (by omega) (by omega) (by rw[aI];omega) (by unfold maxLen;omega) (Nat.le_refl _) ?_;intro w1 J z)
 have Z:=cH.made J
 have aq:Below w.heap.size w w1:=(Below.refl _ _).grown z (Nat.le_refl _) (fun k h=>by simp at h)
 clear J z
 go_wp2
 go_loopw[25] (fun c wr=>∃(i:Nat) (S:List Nat),i≤n∧c=.int .i64 i∧cH wr w.heap.size S∧S.length=n∧bM S∧Below w.heap.size w wr∧Hid (val (S.take i)=(val A/(4294967296^l*2^p))%4294967296^i))
  (fun c _=>n-(intOf c).toNat)
 case atStart=>exact⟨0,List.replicate n 0,Nat.zero_le _,rfl,Z,by simp,bM.zeros _,aq,by unfold Hid;simp[val,Nat.mod_one]⟩
 case round=>
  obtain⟨i,S,a9,rfl,t,T,hf,d,hv⟩:=hrel
  by_cases a7:i<n
  ·obtain⟨G,D⟩:∃x,A[i+l]?.getD 0=x:=⟨_,rfl⟩
   obtain⟨H,F⟩:∃x,A[i+l+1]?.getD 0=x:=⟨_,rfl⟩
   have b0:G<4294967296:=by rw[←D];exact L.lt _
   have ax:H<4294967296:=by rw[←F];exact L.lt _
   obtain⟨b1,o1,a0,ai,am⟩:=L.ne (by omega)
   have Q:=am (i+l) (by omega)
   rw[D]at Q
   have dA:wr.cell? ⟨b1,o1+(i+l),none⟩=some (.int .u32 (G:Int)):=by rw[d.cell (p:=⟨b1,o1+(i+l),none⟩) ai];exact Q
   have cA:=L.below d
   have dS:=t.cell i (by omega)
   have fS:=t.free i
   generalize a1:S[i]?.getD 0=s at*
   have aa:=ac (uH N S i G H (by omega) D F hv.out)
   have ay:=ac F
   have HR:=ac t
   clear D F am Q t hv a1 N O
   have a2:(i:Int)+(l:Int)<(A.length:Int):=by omega
   have a3:(0:Int)≤(i:Int)+(l:Int):=by omega
   have a4:(i:Int)<(n:Int):=by omega
   subst a0
   go_wp2
   go_quiet ((go_at_call 259;exact jL (iO (some ⟨b1,o1,none⟩) ca A _ (i+l+1) H _ (cA.below (below_drewN (Below.refl _ _) _)) (by omega) (by omega) ay)))
   go_wp2
   have e:=Cz G H p b0 ax
   have r1:=((uH HR).drewN nq).set i (((G+4294967296*H)/2^p)%4294967296)
   rw[←e]at r1
   have ad:((G+4294967296*H)/2^p)%4294967296<4294967296:=Nat.mod_lt _ (by decide)
   go_roundw
   case rel=>exact⟨i+1,_,by omega,by go_num,r1,by simpa using T,hf.set _ _ ad,(below_drewN d nq).setCell (by simp) _,uH aa⟩
   case measure=>simp[intOf];omega
  ·have ae:=uH O S (by omega) (by rw[T,show n=i by omega];exact hv.out)
   have HV:=ac ae
   have HR:=ac t
   clear ae hv t N O
   go_wp2
   go_ret
   exact⟨some ⟨w.heap.size,0,none⟩,n,S,by rw[T];rfl,(uH HR).limbs hf _ (by omega),.inr ⟨_,_,rfl,Nat.le_refl _⟩,by omega,uH HV,d⟩
attribute [local go_sem ↓] Go.wp_at_zero Go.wp_at_succ
def sg(neg:Bool)(v:Nat):Int:=if neg then-(v:Int)else(v:Int)
theorem eU(neg:Bool)(L:List Nat):aj neg L=sg neg (val L):=rfl
def qJ(neg:Bool)(L:List Nat)(n:Int):Int:=sg neg (if 0≤n then val L*2^n.toNat else val L/2^(-n).toNat)
def nr(neg:Bool)(L:List Nat)(n:Int):Bool:=aE neg L&&decide (-16384≤n∧n≤16384)
def wI(neg:Bool)(L:List Nat)(n:Int):Int:=if nr neg L n then bO (qJ neg L n)else if aE neg L then 2 else 1
def uf(neg:Bool)(L:List Nat)(n:Int):Int:=if nr neg L n then eI (qJ neg L n)else 0
theorem JH(neg:Bool)(A L:List Nat)(l p:Nat)(n:Int)(d:n=32*(l:Int)+(p:Int))(h:val L=4294967296^l*2^p*val A):aj neg L=qJ neg A n:=by
 rw[eU,h,kT]
 unfold qJ
 rw[if_pos (by omega),show n.toNat=32*l+p by omega,Nat.mul_comm]
theorem CG(neg:Bool)(A L:List Nat)(l p:Nat)(n:Int)(d:n<0)(t:-n=32*(l:Int)+(p:Int))(h:val L=val A/(4294967296^l*2^p)):aj neg L=qJ neg A n:=by
 rw[eU,h,kT]
 unfold qJ
 rw[if_neg (by omega),show(-n).toNat=32*l+p by omega]
theorem iR(d:Bool)(H:Option Addr)(I:Nat)(A:List Nat)(n:Int)(w:World)(hA:af w H I A)(la:A.length≤35184372088830)(bn:-9223372036854775808≤n∧n≤9223372036854775807):
  Calls Tryz.prog 237 #[.agg #[.bool d,.slice H A.length I],.int .i64 n] w fun e F=>∃v,e=.returned (.tuple #[v,.int .i64 (wI d A n)])∧ar w.heap.size F v (uf d A n)∧Below w.heap.size w F:=by
 have ap:aE d A=false→fu d A=1∧wI d A n=1∧uf d A n=0:=fun h=>by simp[fu,wI,uf,nr,h]
 have aq:aE d A=true→¬(-16384≤n∧n≤16384)→fu d A=0∧wI d A n=2∧uf d A n=0:=fun h h'=>by simp only[fu,wI,uf,nr,h,decide_eq_false h'];simp
 have ax:aE d A=true→(-16384≤n∧n≤16384)→fu d A=0∧A.length≤512∧wI d A n=bO (qJ d A n)∧uf d A n=eI (qJ d A n):=fun h h'=>by
  refine⟨by simp[fu,h],(aN h).1,?_,?_⟩
  ·unfold wI nr;rw[h,decide_eq_true h',Bool.and_self,if_pos rfl]
  ·unfold uf nr;rw[h,decide_eq_true h',Bool.and_self,if_pos rfl]
 have ay:=fun(L:List Nat) (l p:Nat)=>JH d A L l p n
 have az:=fun(L:List Nat) (l p:Nat)=>CG d A L l p n
 have V:=ac ap;have X:=ac aq;have Y:=ac ax;have M:=ac ay;have N:=ac az
 have aD:=fun F h'=>e9 d H I A F h' la
 have aI:=ac aD
 clear ap aq ax ay az aD
 generalize qJ d A n=z at*
 generalize wI d A n=er at*
 generalize uf d A n=nu at*
 generalize fu d A=ck at*
 generalize aE d A=rb at*
 go_enter Tryz.func237,Tryz.ntmps237
 go_wp2_with fail
 have aa:Below w.heap.size w ((w.alloc (.cells #[.bool d,.slice H A.length I] 55)).alloc (.cells #[.bool false,.slice none 0 0] 55)):=((Below.refl _ _).alloc (Nat.le_refl _) _).alloc (by simp) _
 refine(uH aI _ (hA.below aa)).mono ?_
 rintro e w1 ⟨rfl,D⟩
 have a4:w.heap.size+2≤w1.heap.size:=by have:=D.size;simpa using this
 have t:Below w.heap.size w w1:=aa.trans (D.mono (by simp;omega))
 have x0:aC w1 w.heap.size (.bool d) (.slice H A.length I):=((aC.new _ _ _).old _).below D (by simp;omega)
 have J:aC w1 (w.heap.size+1) (.bool false) (.slice none 0 0):=by
  have:=aC.new (w.alloc (.cells #[.bool d,.slice H A.length I] 55)) (.bool false) (.slice none 0 0)
  exact aC.below (by simpa using this) D (by simp)
 have p0:=x0.c0;have p1:=x0.c1
 clear D aa aI
 cases rb
 ·obtain⟨c1,G,c3⟩:=uH V rfl
  have U:=ac (And.intro G c3)
  rw[c1]
  have y0:=J.c0;have y1:=J.c1;have f0:=J.free 0;have f1:=J.free 1
  clear V X Y M N c1 G c3
  go_wp2
  refine bodyPost_ret (v:=.tuple #[.agg #[.bool false,.slice none 0 0],.int .i64 1]) (by simp[results,Tryz.results237,go_sem,y0,y1]) rfl ⟨.agg #[.bool false,.slice none 0 0],by rw[(uH U).1],by rw[(uH U).2];exact ar.zero _ _ _ _,?_⟩
  exact(t.setCell (by simp) _).setCell (by simp) _
 by_cases ad:-16384≤n∧n≤16384
 case neg=>
  obtain⟨c1,G,c3⟩:=uH X rfl ad
  have U:=ac (And.intro G c3)
  rw[c1]
  have y0:=J.c0;have y1:=J.c1;have f0:=J.free 0;have f1:=J.free 1
  clear V X Y M N c1 G c3
  rcases(show n< -16384∨(¬n< -16384∧16384<n) by omega)with hx|⟨hx,a9⟩
  all_goals
   go_wp2
   refine bodyPost_ret (v:=.tuple #[.agg #[.bool false,.slice none 0 0],.int .i64 2]) (by simp[results,Tryz.results237,go_sem,y0,y1]) rfl ⟨.agg #[.bool false,.slice none 0 0],by rw[(uH U).1],by rw[(uH U).2];exact ar.zero _ _ _ _,?_⟩
   exact(t.setCell (by simp) _).setCell (by simp) _
 obtain⟨c1,c4,G,c3⟩:=uH Y rfl ad
 have U:=ac (And.intro G c3)
 rw[c1]
 obtain⟨a6,a7⟩:=ad
 clear V X Y c1 G c3
 by_cases a0:n<0
 ·obtain⟨l,hl⟩:∃l:Nat,(l:Int)=(-n)/32:=⟨((-n)/32).toNat,by omega⟩
  obtain⟨p,hp⟩:∃p:Nat,(p:Int)=(-n)%32:=⟨((-n)%32).toNat,by omega⟩
  have q1:-n=32*(l:Int)+(p:Int):=by omega
  have ae:=ac (fun L h=>uH N L l p a0 q1 h)
  have q2:p≤31:=by omega
  have q3:l≤512:=by omega
  have q4:n= -(32*(l:Int)+(p:Int)):=by omega
  have Q4:=ac q4
  have a5:IntKind.i64.wrap (-n)= -n:=by
   simp only[IntKind.wrap,IntKind.signed,IntKind.bits]
   simp
   omega
  clear M N hl hp q1 q4
  go_wp2
  refine aG (fun W=>W=w1) rfl ?_
  rintro T e0
  subst e0
  have hK:∀F,Below (w.heap.size+1) T F→Below (w.heap.size+1) T F∧F.cell? ⟨w.heap.size,0,none⟩=some (.bool d)∧F.cell? ⟨w.heap.size,1,none⟩=some (.slice H A.length I):=fun F h=>
   ⟨h,(x0.below h (by omega)).c0,(x0.below h (by omega)).c1⟩
  have HK:=ac hK
  have HA:=ac (hA.below t)
  have X2:=ac J
  have ai:=ac t
  clear hK hA x0 J t p0 p1
  go_region_held3(fun F=>Below (w.heap.size+1) T F∧F.cell? ⟨w.heap.size,0,none⟩=some (.bool d)∧F.cell? ⟨w.heap.size,1,none⟩=some (.slice H A.length I))
   (first|exact uH HK _ (Below.refl _ _).drew|exact uH HK _ (by assumption)|exact uH HK _ ((O.setCell (by simp) _).setCell (by simp) _))
   (first|(go_at_call 249;refine(qH H I A l p _ _ ((uH HA).below ((Below.refl _ _).drew)) (by omega) (by have:=uH Q4;omega) (by omega) (by omega)).mono ?_;rintro e w3 ⟨a3,a1,Z,rfl,g1,g2,g3,g4,D⟩;have am:Below (w.heap.size+1) T w3:=((Below.refl _ _).drew).trans (D.mono (by simp;omega));have X3:=ac ((uH X2).drew.below D (by simp;omega));have G1:=ac g1;have G2:=ac g2;have G4:=ac g4;have L4:Z.length≤35184372088832:=(by omega);have s1:=D.size;clear g1 g2 g4 g3 D)|(go_at_call 248;refine(j8 _ d _ _ _ _ (uH G1) (uH G2) L4).mono ?_;rintro e w4 ⟨v,rfl,⟨n2,a2,G,L2,rfl,i1⟩,t⟩;have O:Below (w.heap.size+1) T w4:=am.trans (t.mono (by simp at s1;omega));have Q:=(uH X3).below t (by simp at s1;omega);have y0:=Q.c0;have y1:=Q.c1;have f0:=Q.free 0;have f1:=Q.free 1;have I1:=ac i1;clear i1 t Q))
  have hz:=uH ae Z (uH G4)
  have HI:=ac (hz▸uH I1)
  have HE:=ac (show bO (aj d Z)=bO z by rw[hz])
  clear hz
  go_wp2
  refine bodyPost_ret (v:=.tuple #[.agg #[.bool n2,.slice a2 L2.length G],.int .i64 (bO (aj d Z))]) (by simp[results,Tryz.results237,go_sem,y0,y1]) rfl ⟨.agg #[.bool n2,.slice a2 L2.length G],?_,?_,?_⟩
  ·rw[(uH U).1,uH HE]
  ·rw[(uH U).2];exact ar.stored (uH HI) (by simp;omega) (by simp;omega) (by simp;omega) _ _
  ·exact(((uH ai).trans (O.mono (by omega))).setCell (by simp) _).setCell (by simp) _
 ·obtain⟨l,hl⟩:∃l:Nat,(l:Int)=n/32:=⟨(n/32).toNat,by omega⟩
  obtain⟨p,hp⟩:∃p:Nat,(p:Int)=n%32:=⟨(n%32).toNat,by omega⟩
  have q1:n=32*(l:Int)+(p:Int):=by omega
  have ae:=ac (fun L h=>uH M L l p q1 h)
  have q2:p≤31:=by omega
  have q3:l≤512:=by omega
  have Q4:=ac q1
  clear M N hl hp q1
  go_wp2
  refine aG (fun W=>W=w1) rfl ?_
  rintro T e0
  subst e0
  have hK:∀F,Below (w.heap.size+1) T F→Below (w.heap.size+1) T F∧F.cell? ⟨w.heap.size,0,none⟩=some (.bool d)∧F.cell? ⟨w.heap.size,1,none⟩=some (.slice H A.length I):=fun F h=>
   ⟨h,(x0.below h (by omega)).c0,(x0.below h (by omega)).c1⟩
  have HK:=ac hK
  have HA:=ac (hA.below t)
  have X2:=ac J
  have ai:=ac t
  clear hK hA x0 J t p0 p1
  go_region_held3(fun F=>Below (w.heap.size+1) T F∧F.cell? ⟨w.heap.size,0,none⟩=some (.bool d)∧F.cell? ⟨w.heap.size,1,none⟩=some (.slice H A.length I))
   (first|exact uH HK _ (Below.refl _ _).drew|exact uH HK _ (by assumption)|exact uH HK _ ((O.setCell (by simp) _).setCell (by simp) _))
   (first|(go_at_call 250;refine(ue H I A l p _ _ ((uH HA).below ((Below.refl _ _).drew)) (by omega) (by have:=uH Q4;omega) (by omega) (by omega)).mono ?_;rintro e w3 ⟨a3,a1,Z,rfl,g1,g2,g3,g4,D⟩;have am:Below (w.heap.size+1) T w3:=((Below.refl _ _).drew).trans (D.mono (by simp;omega));have X3:=ac ((uH X2).drew.below D (by simp;omega));have G1:=ac g1;have G2:=ac g2;have G4:=ac g4;have L4:Z.length≤35184372088832:=(by omega);have s1:=D.size;clear g1 g2 g4 g3 D)|(go_at_call 248;refine(j8 _ d _ _ _ _ (uH G1) (uH G2) L4).mono ?_;rintro e w4 ⟨v,rfl,⟨n2,a2,G,L2,rfl,i1⟩,t⟩;have O:Below (w.heap.size+1) T w4:=am.trans (t.mono (by simp at s1;omega));have Q:=(uH X3).below t (by simp at s1;omega);have y0:=Q.c0;have y1:=Q.c1;have f0:=Q.free 0;have f1:=Q.free 1;have I1:=ac i1;clear i1 t Q))
  have hz:=uH ae Z (uH G4)
  have HI:=ac (hz▸uH I1)
  have HE:=ac (show bO (aj d Z)=bO z by rw[hz])
  clear hz
  go_wp2
  refine bodyPost_ret (v:=.tuple #[.agg #[.bool n2,.slice a2 L2.length G],.int .i64 (bO (aj d Z))]) (by simp[results,Tryz.results237,go_sem,y0,y1]) rfl ⟨.agg #[.bool n2,.slice a2 L2.length G],?_,?_,?_⟩
  ·rw[(uH U).1,uH HE]
  ·rw[(uH U).2];exact ar.stored (uH HI) (by simp;omega) (by simp;omega) (by simp;omega) _ _
  ·exact(((uH ai).trans (O.mono (by omega))).setCell (by simp) _).setCell (by simp) _
theorem wU(l:Bool)(D:Option Addr)(F:Nat)(A:List Nat)(w:World)(Y:af w D F A)(Z:A.length≤35184372088830):
  Calls Tryz.prog 164 #[.agg #[.bool l,.slice D A.length F]] w fun e d=>∃v,e=.returned v∧aP (A.length+1) w.heap.size d v (sg l (val A+val A))∧Below w.heap.size w d:=by
 have G:∀L:List Nat,val L=val A+val A→aj l L=sg l (val A+val A):=by
  intro L h;rw[eU,h]
 have HS:=ac G
 clear G
 generalize sg l (val A+val A)=z at*
 go_enter Tryz.func164,Tryz.ntmps164
 go_wp2
 refine aG (fun W=>Below w.heap.size w W∧W.heap.size=w.heap.size+2∧aC W w.heap.size (.bool l) (.slice D A.length F)∧aC W (w.heap.size+1) (.bool false) (.slice none 0 0)) ?_ ?_
 ·refine⟨((Below.refl _ _).alloc (Nat.le_refl _) _).alloc (by simp) _,by simp,(aC.new _ _ _).old _,?_⟩
  have:=aC.new (w.alloc (.cells #[.bool l,.slice D A.length F] 55)) (.bool false) (.slice none 0 0)
  simpa using this
 rintro N ⟨H,O,V,x2⟩
 have hK:∀d,Below (w.heap.size+1) N d→Below (w.heap.size+1) N d∧d.cell? ⟨w.heap.size,0,none⟩=some (.bool l)∧d.cell? ⟨w.heap.size,1,none⟩=some (.slice D A.length F):=fun d h=>
  ⟨h,(V.below h (by omega)).c0,(V.below h (by omega)).c1⟩
 have Q:=ac hK
 have HA:=ac (Y.below H)
 have X2:=ac x2
 have T:=ac H
 clear hK Y V x2 H
 go_region_held3(fun d=>Below (w.heap.size+1) N d∧d.cell? ⟨w.heap.size,0,none⟩=some (.bool l)∧d.cell? ⟨w.heap.size,1,none⟩=some (.slice D A.length F))
  (first|exact uH Q _ (Below.refl _ _).drew|exact uH Q _ (by assumption)|exact uH Q _ ((J.setCell (by simp) _).setCell (by simp) _))
  (first|(go_at_call 144;refine(oZ D D F F A A _ ((uH HA).below ((Below.refl _ _).drew)) ((uH HA).below ((Below.refl _ _).drew)) Z Z).mono ?_;rintro e w1 ⟨ad,aa,X,rfl,g1,g2,g3,g4,t⟩;have U:Below (w.heap.size+1) N w1:=((Below.refl _ _).drew).trans (t.mono (by simp[O]));have X3:=ac ((uH X2).drew.below t (by simp[O]));have G1:=ac g1;have G2:=ac g2;have G4:=ac g4;have L4:X.length≤35184372088832:=(by omega);have L5:X.length≤A.length+1:=(by omega);have s1:=t.size;clear g1 g2 g4 g3 t)|(go_at_call 141;refine(dI _ l _ _ _ _ (uH G1) (uH G2) L4).mono ?_;rintro e w2 ⟨v,rfl,⟨n2,a2,c2,L2,rfl,i1⟩,I⟩;have J:Below (w.heap.size+1) N w2:=U.trans (I.mono (by simp at s1;omega));have M:=(uH X3).below I (by simp at s1;omega);have y0:=M.c0;have y1:=M.c1;have f0:=M.free 0;have f1:=M.free 1;have I1:=ac i1;clear i1 I M))
 have hz:=uH HS X (uH G4)
 have HI:=ac (hz▸uH I1)
 clear hz
 go_wp2
 refine bodyPost_ret (v:=.agg #[.bool n2,.slice a2 L2.length c2]) (by simp[results,Tryz.results164,go_sem,y0,y1]) rfl ⟨.agg #[.bool n2,.slice a2 L2.length c2],rfl,?_,?_⟩
 ·exact(aP.stored (uH HI) (by simp;omega) (by simp;omega) (by simp;omega) _ _).more (by have:=L5;omega)
 ·exact(((uH T).trans (J.mono (by omega))).setCell (by simp) _).setCell (by simp) _
theorem aC.other{w:World}{b:Nat}{x y:Value}(h:aC w b x y){p:Addr}(d:b≠p.block)(u:Value):aC (w.setCell p u) b x y:=(Below.heap_setCell w p u b d).trans h
theorem Ar(d h:Nat):((h%2*4294967296+d)/2)%4294967296=((d+4294967296*h)/2^1)%4294967296:=by omega
theorem ug(I:Bool)(J:Option Addr)(L:Nat)(A:List Nat)(w:World)(X:af w J L A)(la:A.length≤1073741824):
  Calls Tryz.prog 143 #[.agg #[.bool I,.slice J A.length L]] w fun e t=>∃v,e=.returned v∧aP A.length w.heap.size t v (sg I (val A/2))∧Below w.heap.size w t:=by
 obtain⟨i0,hi,a0,a1,a3⟩:=info_parts Tryz.info147
 have ai:∀(S:List Nat) (k G H:Nat),k<S.length→A[k]?.getD 0=G→A[k+1]?.getD 0=H→val (S.take k)=(val A/(4294967296^0*2^1))%4294967296^k→val ((S.set k (((H%2*4294967296+G)/2)%4294967296)).take (k+1))=(val A/(4294967296^0*2^1))%4294967296^(k+1):=by
  intro S k G H h1 h2 h3 h4
  rw[Ar]
  exact rq A S X.2.1 k 0 1 G H (by omega) h1 h2 h3 h4
 have am:∀(S:List Nat),S.length=A.length→val (S.take S.length)=(val A/(4294967296^0*2^1))%4294967296^S.length→aj I S=sg I (val A/2):=by
  intro S h1 h2
  have:=ud A S X.2.1 0 1 (by omega) h2
  rw[eU,this]
 have Y:=ac ai
 have Z:=ac am
 clear ai am
 generalize sg I (val A/2)=z at*
 go_enter Tryz.func143,Tryz.ntmps143
 go_wp2_with(at_make;refine wpList_make_full _ rfl _ _ 53 rfl (w.heap.size+2) 147 i0 (.int .u32 0) 1 Tryz.underlying53 hi a0 a1 .i64 .i64 _ _ A.length rfl rfl (by omega) (by omega) (by rw[a3];omega) (by unfold maxLen;omega) (by simp) ?_;intro w1 V d)
 have M:=cH.made V
 have N:cH w1 (w.heap.size+1+1) (List.replicate A.length 0):=by simpa using M
 clear M
 have ap:Below w.heap.size w ((w.alloc (.cells #[.bool I,.slice J A.length L] 55)).alloc (.cells #[.bool false,.slice none 0 0] 55)):=((Below.refl _ _).alloc (Nat.le_refl _) _).alloc (by simp) _
 have aa:Below w.heap.size w w1:=ap.grown d (by simp;omega) (fun k h=>by simp at h)
 have x0:aC w1 w.heap.size (.bool I) (.slice J A.length L):=(d.block w.heap.size (by simp;omega) (by simp)).trans ((aC.new _ _ _).old _)
 have x1:aC w1 (w.heap.size+1) (.bool false) (.slice none 0 0):=by
  have h:=aC.new (w.alloc (.cells #[.bool I,.slice J A.length L] 55)) (.bool false) (.slice none 0 0)
  have h':aC ((w.alloc (.cells #[.bool I,.slice J A.length L] 55)).alloc (.cells #[.bool false,.slice none 0 0] 55)) (w.heap.size+1) (.bool false) (.slice none 0 0):=by simpa using h
  exact(d.block (w.heap.size+1) (by simp) (by simp)).trans h'
 clear V d ap
 go_loopw[4] (fun c wr=>∃(i:Nat) (S:List Nat),i≤A.length∧c=.int .i64 i∧cH wr (w.heap.size+1+1) S∧aC wr w.heap.size (.bool I) (.slice J A.length L)∧aC wr (w.heap.size+1) (.bool false) (.slice none 0 0)∧S.length=A.length∧bM S∧Below w.heap.size w wr∧Hid (val (S.take i)=(val A/(4294967296^0*2^1))%4294967296^i))
  (fun c _=>A.length-(intOf c).toNat)
 case atStart=>exact⟨0,List.replicate A.length 0,Nat.zero_le _,rfl,N,x0,x1,by simp,bM.zeros _,aa,by unfold Hid;simp[val,Nat.mod_one]⟩
 case round=>
  obtain⟨i,S,be,rfl,F,z0,z1,O,hf,l,hv⟩:=hrel
  have p0:=z0.c0;have p1:=z0.c1
  by_cases a6:i<A.length
  ·obtain⟨G,Q⟩:∃x,A[i]?.getD 0=x:=⟨_,rfl⟩
   obtain⟨H,T⟩:∃x,A[i+1]?.getD 0=x:=⟨_,rfl⟩
   have b0:G<4294967296:=by rw[←Q];exact X.lt _
   have a7:H<4294967296:=by rw[←T];exact X.lt _
   have cA:=(X.below l).below ((Below.refl _ _).drew)
   have dS:=F.cell i (by omega)
   have fS:=F.free i
   generalize a4:S[i]?.getD 0=s at*
   have aq:=ac (uH Y S i G H (by omega) Q T hv.out)
   have az:=ac Q
   have ax:=ac T
   have HR:=ac F;have Z0:=ac z0;have Z1:=ac z1;have ad:=ac l;have CA:=ac cA
   clear Q T F hv a4 Y Z x0 x1 N aa z0 z1 l cA X
   have a5:(i:Int)<(A.length:Int):=by omega
   have a9:IntKind.i64.wrap ((i:Int)+1)=(i:Int)+1:=by
    simp only[IntKind.wrap,IntKind.signed,IntKind.bits]
    simp
    omega
   have hK:∀t,t=wr.drew∨(∃u,t=(wr.drew).setCell ⟨w.heap.size+1+1,i,none⟩ u)→(t=wr.drew∨(∃u,t=(wr.drew).setCell ⟨w.heap.size+1+1,i,none⟩ u))∧t.cell? ⟨w.heap.size,1,none⟩=some (.slice J A.length L):=fun t h=>by
    refine⟨h,?_⟩
    rcases h with rfl|⟨u,rfl⟩
    ·exact(uH Z0).drew.c1
    ·exact((uH Z0).drew.other (by simp;omega) u).c1
   have HK:=ac hK
   clear hK
   go_wp2
   go_region_held3(fun t=>(t=wr.drew∨(∃u,t=(wr.drew).setCell ⟨w.heap.size+1+1,i,none⟩ u))∧t.cell? ⟨w.heap.size,1,none⟩=some (.slice J A.length L))
    (first|exact uH HK _ (.inl rfl)|exact uH HK _ (.inr ⟨_,rfl⟩))
    (first|(go_at_call 183;have hq:=ax;clear ax;refine(gQ J L A _ (i+1) H _ (uH CA) (by omega) (by omega) hq).mono ?_;rintro e t ⟨rfl,rfl⟩;clear hq)|(go_at_call 183;refine(gQ J L A _ i G _ (uH CA) (by omega) rfl az).mono ?_;rintro e t ⟨rfl,rfl⟩))
   have r1:=(uH HR).set i (((H%2*4294967296+G)/2)%4294967296)
   rw[show(((H%2*4294967296+G)/2%4294967296:Nat):Int)=((H:Int)%2*4294967296+(G:Int))/2 by omega]at r1
   have U:((H%2*4294967296+G)/2)%4294967296<4294967296:=Nat.mod_lt _ (by decide)
   have R1:=ac r1
   have HM:=ac U
   clear r1 U
   go_wp2
   go_roundw
   case rel=>exact⟨i+1,S.set i (((H%2*4294967296+G)/2)%4294967296),by omega,by go_num,(uH R1:_),(uH Z0).other (by simp;omega) _,(uH Z1).other (by simp) _,by simpa using O,hf.set _ _ (uH HM),((uH ad).setCell (by simp;omega) _).drew,uH aq⟩
   case measure=>simp[intOf];omega
  ·have aD:i=A.length:=by omega
   have ay:=uH Z S O (by rw[O,←aD];exact hv.out)
   have HR:=ac (F.limbs hf A.length (by omega))
   have HV:=ac ay
   have Z1:=ac z1
   have ad:=ac l
   have ba:¬(i:Int)<(A.length:Int):=by omega
   have HL:=ac O
   have bb:=z1.lt
   have bd:=F.lt
   clear ay hv F Y Z x0 x1 N aa z1 l X z0
   go_wp2_with fail
   have hN:bB (w.heap.size+1+1) (some ⟨w.heap.size+1+1,0,none⟩) S:=.inr ⟨_,_,rfl,Nat.le_refl _⟩
   have D:=dI (w.heap.size+1+1) I (some ⟨w.heap.size+1+1,0,none⟩) A.length S wr (uH HR) hN (by omega)
   rw[uH HV,uH HL]at D
   refine D.mono ?_
   rintro e w2 ⟨v,rfl,⟨n2,a2,c2,L2,rfl,i1⟩,ae⟩
   have X4:=(uH Z1).below ae (uH Z1).lt
   have y0:=X4.c0;have y1:=X4.c1;have f0:=X4.free 0;have f1:=X4.free 1
   have aI:=ac ((uH ad).trans (ae.mono (by omega)))
   have I1:=ac i1
   clear D X4 ae i1 hN
   go_wp2
   refine bodyPost_ret (v:=.agg #[.bool n2,.slice a2 L2.length c2]) (by simp[results,Tryz.results143,go_sem,y0,y1]) rfl ⟨.agg #[.bool n2,.slice a2 L2.length c2],rfl,?_,?_⟩
   ·exact aP.stored (uH I1) (by simp) (by simp) (by omega) _ _
   ·exact((uH aI).setCell (by simp) _).setCell (by simp) _
end Go.Proofs.YtmpkkhackbpflaaGreatDoor
