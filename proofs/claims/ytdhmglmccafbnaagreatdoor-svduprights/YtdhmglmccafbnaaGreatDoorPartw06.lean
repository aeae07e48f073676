/- Part 6 of the texts. -/
import Derived.Test.YtdhmglmccafbnaaGreatDoorPartw05
set_option maxHeartbeats 2000000
namespace Go.Proofs.YtdhmglmccafbnaaGreatDoor
open Go.RowKit
theorem wJ(x p:Nat)(d:x<4294967296)(f:p≤31):IntKind.u64.wrap ((x:Int)*2^p)=((x*2^p:Nat):Int):=by
 have h:=qf x p d f
 have e:(x:Int)*2^p=((x*2^p:Nat):Int):=by simp
 rw[e]
 clear e
 generalize x*2^p=z at*
 simp only[IntKind.wrap,IntKind.signed,IntKind.bits]
 simp
 omega
theorem Db(x p s:Nat)(f:x<4294967296)(l:p≤31)(u:s<2^p):
  bits BinOp.or IntKind.u32 (s:Int) (IntKind.u64.wrap ((x:Int)*2^p)%4294967296)=((s+(x*2^p)%4294967296:Nat):Int)∧IntKind.u64.wrap ((x:Int)*2^p)/4294967296%4294967296=(((x*2^p)/4294967296:Nat):Int)∧s+(x*2^p)%4294967296<4294967296:=by
 have h:=qf x p f l
 have d:s<4294967296:=Nat.lt_of_lt_of_le u (by have:=Nat.pow_le_pow_right (n:=2) (by decide) (show p≤32 by omega);simpa using this)
 have e:=Cn s ((x*2^p)%4294967296) p u (yL x p (by omega))
 have F:s|||(x*2^p)%4294967296<2^32:=Nat.or_lt_two_pow (by omega) (by omega)
 rw[wJ x p f l]
 generalize x*2^p=z at*
 have D:((z:Nat):Int)%4294967296=((z%4294967296:Nat):Int):=by omega
 rw[D,u32_or_nat s (z%4294967296) d (by omega),e]
 refine⟨rfl,by omega,by omega⟩
theorem rL(ao:Option Addr)(ca:Nat)(A:List Nat)(l p:Nat)(m:Int)(w:World)(hA:ag w ao ca A)(la:A.length≤1073741824)(hm:m=32*(l:Int)+(p:Int))(hp:p≤31)(hl:l≤1073741824):
  Calls Tryz.prog 290 #[.slice ao A.length ca,.int .i64 m] w fun e w'=>∃L G Q,e=.returned (.slice L Q.length G)∧ag w' L G Q∧bs w.heap.size L Q∧Q.length=A.length+l+1∧ai Q=4294967296^l*2^p*ai A∧Below w.heap.size w w':=by
 obtain⟨i0,hi,a2,a3,a4⟩:=info_parts Tryz.info122
 have hd:m/32=(l:Int):=by omega
 have hr:m%32=(p:Int):=by omega
 have a7:0≤m:=by omega
 have a9:m≤68719476735:=by omega
 clear hm
 go_enter Tryz.func290,Tryz.ntmps290
 go_wp2_with(at_make;refine wpList_make_full _ rfl _ _ 37 rfl w.heap.size 122 i0 (.int .u32 0) 1 Tryz.underlying37 hi a2 a3 .i64 .i64 _ _ (A.length+l+1) rfl rfl (by omega) (by omega) (by rw[a4];omega) (by unfold maxLen;omega) (Nat.le_refl _) ?_;intro w1 K F)
 have U:=bL.made K
 have ap:Below w.heap.size w w1:=(Below.refl _ _).grown F (Nat.le_refl _) (fun k h=>by simp at h)
 clear K F
 go_wp2
 go_loopw[22] (fun c wr=>∃(i:Nat) (S:List Nat),i≤A.length∧c=.int .i64 i∧bL wr w.heap.size S∧S.length=A.length+l+1∧aX S∧Below w.heap.size w wr∧Hid (ai S=4294967296^l*2^p*ai (A.take i))∧Hid (S[i+l]?.getD 0<2^p)∧Hid (∀j,i+l<j→S[j]?.getD 0=0))
  (fun c _=>A.length-(intOf c).toNat)
 case atStart=>
  refine⟨0,List.replicate (A.length+l+1) 0,Nat.zero_le _,rfl,U,by simp,aX.zeros _,ap,?_,?_,?_⟩
  ·unfold Hid
   have:∀k,ai (List.replicate k 0)=0:=by intro k;induction k with|zero=>rfl|succ k ih=>simp[List.replicate_succ,ai,ih]
   rw[this];simp[ai]
  ·unfold Hid
   have:(List.replicate (A.length+l+1) 0)[0+l]?.getD 0=0:=by rw[List.getElem?_replicate];split<;>rfl
   rw[this];exact Nat.pow_pos (by decide)
  ·intro j _
   rw[List.getElem?_replicate];split<;>rfl
 case round=>
  obtain⟨i,S,ba,rfl,d,O,hf,u,hv,z,D⟩:=hrel
  by_cases ax:i<A.length
  ·obtain⟨x,hx⟩:∃x,A[i]?.getD 0=x:=⟨_,rfl⟩
   have bx:x<4294967296:=by rw[←hx];exact hA.lt i
   obtain⟨s,hs⟩:∃s,S[i+l]?.getD 0=s:=⟨_,rfl⟩
   obtain⟨b1,o1,a5,ae,am⟩:=hA.ne (by omega)
   have M:=am i ax
   rw[hx]at M
   have dA:wr.cell? ⟨b1,o1+i,none⟩=some (.int .u32 (x:Int)):=by rw[u.cell (p:=⟨b1,o1+i,none⟩) ae];exact M
   have dS:=d.cell (i+l) (by omega)
   rw[hs]at dS
   have dT:=d.cell (i+l+1) (by omega)
   rw[D.out _ (by omega)]at dT
   have V:s<2^p:=by rw[←hs];exact z.out
   obtain⟨u1,u2,u3⟩:=Db x p s bx hp V
   have X:=Co A S i l p x s (by omega) hx hs (D.out _ (by omega)) hv.out
   have Y:=wF x p bx hp
   have f:((S.set (i+l) (s+(x*2^p)%4294967296)).set (i+l+1) ((x*2^p)/4294967296))[i+1+l]?.getD 0<2^p:=by
    rw[show i+1+l=i+l+1 by omega,List.getElem?_set_self (by simp;omega)];exact Y
   have H:∀j,i+1+l<j→((S.set (i+l) (s+(x*2^p)%4294967296)).set (i+l+1) ((x*2^p)/4294967296))[j]?.getD 0=0:=fun j hj=>by
    rw[eQ _ _ _ _ (by omega),eQ _ _ _ _ (by omega)];exact D.out j (by omega)
   have J:(x*2^p)/4294967296<4294967296:=by have:=qf x p bx hp;omega
   have U1:=aa u1;have U2:=aa u2;have U3:=aa u3;have aI:=aa X;have a0:=aa f;have a1:=aa H;have HH:=aa J
   have fS:=d.free (i+l)
   have fT:=d.free (i+l+1)
   have HR:=aa d
   clear u1 u2 u3 X f H Y J V hx hs d hv z D am M
   subst a5
   have a6:(i:Int)<(A.length:Int):=by omega
   go_wp2
   have r1:=((uH HR).set (i+l) (s+(x*2^p)%4294967296)).set (i+l+1) ((x*2^p)/4294967296)
   rw[←uH U1,←uH U2]at r1
   go_roundw
   case rel=>exact⟨i+1,_,by omega,by go_num,r1,by simpa using O,(hf.set _ _ (uH U3)).set _ _ (uH HH),(u.setCell (by simp) _).setCell (by simp) _,uH aI,uH a0,uH a1⟩
   case measure=>simp[intOf];omega
  ·have Z:i=A.length:=by omega
   have N:=hv.out
   rw[Z,List.take_length]at N
   have HV:=aa N
   have HR:=aa d
   clear N hv D d Z z
   go_wp2
   go_ret
   exact⟨some ⟨w.heap.size,0,none⟩,A.length+l+1,S,by rw[O];rfl,(uH HR).limbs hf _ (by omega),.inr ⟨_,_,rfl,Nat.le_refl _⟩,O,uH HV,u⟩
theorem yU(f d p:Nat)(l:f<4294967296)(u:d<4294967296):
  bits BinOp.or IntKind.u64 (f:Int) ((d:Int)*4294967296)/2^p%4294967296=(((f+4294967296*d)/2^p%4294967296:Nat):Int):=by
 have e:(d:Int)*4294967296=((d*2^32:Nat):Int):=by simp
 have h:=Nat.two_pow_add_eq_or_of_lt (i:=32) (b:=f) (by omega) d
 rw[e,u64_or_nat f (d*2^32) (by omega) (by omega),Nat.or_comm,Nat.mul_comm d,←h]
 rw[show 2^32*d+f=f+4294967296*d by omega]
 simp
theorem oS(ao:Option Addr)(ca:Nat)(A:List Nat)(l p:Nat)(m:Int)(w:World)(K:ag w ao ca A)(la:A.length≤1073741824)(hm:m=32*(l:Int)+(p:Int))(hp:p≤31)(hl:l≤1073741824):
  Calls Tryz.prog 289 #[.slice ao A.length ca,.int .i64 m] w fun e w'=>∃L H U,e=.returned (.slice L U.length H)∧ag w' L H U∧bs w.heap.size L U∧U.length≤A.length∧ai U=ai A/(4294967296^l*2^p)∧Below w.heap.size w w':=by
 obtain⟨i0,hi,a4,a5,a6⟩:=info_parts Tryz.info122
 have hd:m/32=(l:Int):=by omega
 have hr:m%32=(p:Int):=by omega
 have bg:0≤m:=by omega
 have bi:m≤68719476735:=by omega
 clear hm
 by_cases V:A.length≤l
 ·have hz:ai A/(4294967296^l*2^p)=0:=by
   apply Nat.div_eq_of_lt
   have h1:=dZ A K.2.1
   have h2:(4294967296:Nat)^A.length≤4294967296^l:=Nat.pow_le_pow_right (by decide) V
   have h3:=Nat.mul_le_mul_left (4294967296^l) (show 1≤2^p from Nat.pow_pos (by decide))
   omega
  have HZ:=aa hz
  generalize ai A/(4294967296^l*2^p)=q at*
  clear hz
  have a0:(A.length:Int)≤(l:Int):=by omega
  go_enter Tryz.func289,Tryz.ntmps289
  go_wp2
  go_ret
  exact⟨none,0,[],rfl,ag.nil _ _ _,.inl rfl,by simp,by rw[uH HZ];rfl,Below.refl _ _⟩
 obtain⟨n,hn⟩:∃n,n+l=A.length:=⟨A.length-l,by omega⟩
 have a0:¬(A.length:Int)≤(l:Int):=by omega
 have X:=fun(S:List Nat) (k F G:Nat)=>pp A S K.2.1 k l p F G hp
 have Y:=fun(S:List Nat)=>rC A S K.2.1 l p
 have M:=aa X
 have N:=aa Y
 clear X Y
 have n1:n≤1073741824:=by omega
 have n2:n+l≤A.length:=by omega
 have n3:A.length≤n+l:=by omega
 clear hn V
 go_enter Tryz.func289,Tryz.ntmps289
 go_wp2_with(at_make;refine wpList_make_full _ rfl _ _ 37 rfl w.heap.size 122 i0 (.int .u32 0) 1 Tryz.underlying37 hi a4 a5 .i64 .i64 _ _ n rfl rfl (by omega) (by omega) (by rw[a6];omega) (by unfold maxLen;omega) (Nat.le_refl _) ?_;intro w1 J u)
 have Z:=bL.made J
 have a1:Below w.heap.size w w1:=(Below.refl _ _).grown u (Nat.le_refl _) (fun k h=>by simp at h)
 clear J u
 go_wp2
 go_loopw[25] (fun c wr=>∃(i:Nat) (S:List Nat),i≤n∧c=.int .i64 i∧bL wr w.heap.size S∧S.length=n∧aX S∧Below w.heap.size w wr∧Hid (ai (S.take i)=(ai A/(4294967296^l*2^p))%4294967296^i))
  (fun c _=>n-(intOf c).toNat)
 case atStart=>exact⟨0,List.replicate n 0,Nat.zero_le _,rfl,Z,by simp,aX.zeros _,a1,by unfold Hid;simp[ai,Nat.mod_one]⟩
 case round=>
  obtain⟨i,S,bn,rfl,f,Q,hf,d,hv⟩:=hrel
  by_cases bm:i<n
  ·obtain⟨F,z⟩:∃x,A[i+l]?.getD 0=x:=⟨_,rfl⟩
   obtain⟨G,D⟩:∃x,A[i+l+1]?.getD 0=x:=⟨_,rfl⟩
   have b0:F<4294967296:=by rw[←z];exact K.lt _
   have a2:G<4294967296:=by rw[←D];exact K.lt _
   obtain⟨b1,o1,a7,ax,aI⟩:=K.ne (by omega)
   have O:=aI (i+l) (by omega)
   rw[z]at O
   have dA:wr.cell? ⟨b1,o1+(i+l),none⟩=some (.int .u32 (F:Int)):=by rw[d.cell (p:=⟨b1,o1+(i+l),none⟩) ax];exact O
   have cA:=K.below d
   have dS:=f.cell i (by omega)
   have fS:=f.free i
   generalize a9:S[i]?.getD 0=s at*
   have ae:=aa (uH M S i F G (by omega) z D hv.out)
   have a3:=aa D
   have HR:=aa f
   clear z D aI O f hv a9 M N
   have ba:(i:Int)+(l:Int)<(A.length:Int):=by omega
   have bb:(0:Int)≤(i:Int)+(l:Int):=by omega
   have be:(i:Int)<(n:Int):=by omega
   subst a7
   go_wp2
   go_quiet ((go_at_call 303;exact iH (gJ (some ⟨b1,o1,none⟩) ca A _ (i+l+1) G _ (cA.below (below_drewN (Below.refl _ _) _)) (by omega) (by omega) a3)))
   go_wp2
   have e:=yU F G p b0 a2
   have r1:=((uH HR).drewN nq).set i (((F+4294967296*G)/2^p)%4294967296)
   rw[←e]at r1
   have am:((F+4294967296*G)/2^p)%4294967296<4294967296:=Nat.mod_lt _ (by decide)
   go_roundw
   case rel=>exact⟨i+1,_,by omega,by go_num,r1,by simpa using Q,hf.set _ _ am,(below_drewN d nq).setCell (by simp) _,uH ae⟩
   case measure=>simp[intOf];omega
  ·have ap:=uH N S (by omega) (by rw[Q,show n=i by omega];exact hv.out)
   have HV:=aa ap
   have HR:=aa f
   clear ap hv f M N
   go_wp2
   go_ret
   exact⟨some ⟨w.heap.size,0,none⟩,n,S,by rw[Q];rfl,(uH HR).limbs hf _ (by omega),.inr ⟨_,_,rfl,Nat.le_refl _⟩,by omega,uH HV,d⟩
attribute [local go_sem ↓] Go.wp_at_zero Go.wp_at_succ
def sg(neg:Bool)(v:Nat):Int:=if neg then-(v:Int)else(v:Int)
theorem dn(neg:Bool)(L:List Nat):ad neg L=sg neg (ai L):=rfl
def oT(neg:Bool)(L:List Nat)(n:Int):Int:=sg neg (if 0≤n then ai L*2^n.toNat else ai L/2^(-n).toNat)
def kT(neg:Bool)(L:List Nat)(n:Int):Bool:=al neg L&&decide (-16384≤n∧n≤16384)
def tU(neg:Bool)(L:List Nat)(n:Int):Int:=if kT neg L n then bd (oT neg L n)else if al neg L then 2 else 1
def rM(neg:Bool)(L:List Nat)(n:Int):Int:=if kT neg L n then du (oT neg L n)else 0
theorem Fx(neg:Bool)(A L:List Nat)(l p:Nat)(n:Int)(d:n=32*(l:Int)+(p:Int))(h:ai L=4294967296^l*2^p*ai A):ad neg L=oT neg A n:=by
 rw[dn,h,jz]
 unfold oT
 rw[if_pos (by omega),show n.toNat=32*l+p by omega,Nat.mul_comm]
theorem yV(neg:Bool)(A L:List Nat)(l p:Nat)(n:Int)(d:n<0)(f:-n=32*(l:Int)+(p:Int))(h:ai L=ai A/(4294967296^l*2^p)):ad neg L=oT neg A n:=by
 rw[dn,h,jz]
 unfold oT
 rw[if_neg (by omega),show(-n).toNat=32*l+p by omega]
theorem gL(d:Bool)(F:Option Addr)(G:Nat)(A:List Nat)(n:Int)(w:World)(hA:ag w F G A)(la:A.length≤35184372088830)(bn:-9223372036854775808≤n∧n≤9223372036854775807):
  Calls Tryz.prog 268 #[.agg #[.bool d,.slice F A.length G],.int .i64 n] w fun e w'=>∃v,e=.returned (.tuple #[v,.int .i64 (tU d A n)])∧an w.heap.size w' v (rM d A n)∧Below w.heap.size w w':=by
 have a0:al d A=false→d6 d A=1∧tU d A n=1∧rM d A n=0:=fun h=>by simp[d6,tU,rM,kT,h]
 have a1:al d A=true→¬(-16384≤n∧n≤16384)→d6 d A=0∧tU d A n=2∧rM d A n=0:=fun h h'=>by simp only[d6,tU,rM,kT,h,decide_eq_false h'];simp
 have a3:al d A=true→(-16384≤n∧n≤16384)→d6 d A=0∧A.length≤512∧tU d A n=bd (oT d A n)∧rM d A n=du (oT d A n):=fun h h'=>by
  refine⟨by simp[d6,h],(au h).1,?_,?_⟩
  ·unfold tU kT;rw[h,decide_eq_true h',Bool.and_self,if_pos rfl]
  ·unfold rM kT;rw[h,decide_eq_true h',Bool.and_self,if_pos rfl]
 have a4:=fun(L:List Nat) (l p:Nat)=>Fx d A L l p n
 have a5:=fun(L:List Nat) (l p:Nat)=>yV d A L l p n
 have U:=aa a0;have V:=aa a1;have X:=aa a3;have J:=aa a4;have K:=aa a5
 have a6:=fun w' h'=>dL d F G A w' h' la
 have a7:=aa a6
 clear a0 a1 a3 a4 a5 a6
 generalize oT d A n=z at*
 generalize tU d A n=er at*
 generalize rM d A n=nu at*
 generalize d6 d A=ck at*
 generalize al d A=rb at*
 go_enter Tryz.func268,Tryz.ntmps268
 go_wp2_with fail
 have ae:Below w.heap.size w ((w.alloc (.cells #[.bool d,.slice F A.length G] 39)).alloc (.cells #[.bool false,.slice none 0 0] 39)):=((Below.refl _ _).alloc (Nat.le_refl _) _).alloc (by simp) _
 refine(uH a7 _ (hA.below ae)).mono ?_
 rintro e w1 ⟨rfl,u⟩
 have be:w.heap.size+2≤w1.heap.size:=by have:=u.size;simpa using this
 have f:Below w.heap.size w w1:=ae.trans (u.mono (by simp;omega))
 have Z:az w1 w.heap.size (.bool d) (.slice F A.length G):=((az.new _ _ _).old _).below u (by simp;omega)
 have H:az w1 (w.heap.size+1) (.bool false) (.slice none 0 0):=by
  have:=az.new (w.alloc (.cells #[.bool d,.slice F A.length G] 39)) (.bool false) (.slice none 0 0)
  exact az.below (by simpa using this) u (by simp)
 have p0:=Z.c0;have p1:=Z.c1
 clear u ae a7
 cases rb
 ·obtain⟨c1,D,c3⟩:=uH U rfl
  have Q:=aa (And.intro D c3)
  rw[c1]
  have y0:=H.c0;have y1:=H.c1;have f0:=H.free 0;have f1:=H.free 1
  clear U V X J K c1 D c3
  go_wp2
  refine bodyPost_ret (v:=.tuple #[.agg #[.bool false,.slice none 0 0],.int .i64 1]) (by simp[results,Tryz.results268,go_sem,y0,y1]) rfl ⟨.agg #[.bool false,.slice none 0 0],by rw[(uH Q).1],by rw[(uH Q).2];exact an.zero _ _ _ _,?_⟩
  exact(f.setCell (by simp) _).setCell (by simp) _
 by_cases am:-16384≤n∧n≤16384
 case neg=>
  obtain⟨c1,D,c3⟩:=uH V rfl am
  have Q:=aa (And.intro D c3)
  rw[c1]
  have y0:=H.c0;have y1:=H.c1;have f0:=H.free 0;have f1:=H.free 1
  clear U V X J K c1 D c3
  rcases(show n< -16384∨(¬n< -16384∧16384<n) by omega)with hx|⟨hx,bo⟩
  all_goals
   go_wp2
   refine bodyPost_ret (v:=.tuple #[.agg #[.bool false,.slice none 0 0],.int .i64 2]) (by simp[results,Tryz.results268,go_sem,y0,y1]) rfl ⟨.agg #[.bool false,.slice none 0 0],by rw[(uH Q).1],by rw[(uH Q).2];exact an.zero _ _ _ _,?_⟩
   exact(f.setCell (by simp) _).setCell (by simp) _
 obtain⟨c1,c4,D,c3⟩:=uH X rfl am
 have Q:=aa (And.intro D c3)
 rw[c1]
 obtain⟨bi,bm⟩:=am
 clear U V X c1 D c3
 by_cases a9:n<0
 ·obtain⟨l,hl⟩:∃l:Nat,(l:Int)=(-n)/32:=⟨((-n)/32).toNat,by omega⟩
  obtain⟨p,hp⟩:∃p:Nat,(p:Int)=(-n)%32:=⟨((-n)%32).toNat,by omega⟩
  have q1:-n=32*(l:Int)+(p:Int):=by omega
  have ap:=aa (fun L h=>uH K L l p a9 q1 h)
  have q2:p≤31:=by omega
  have q3:l≤512:=by omega
  have q4:n= -(32*(l:Int)+(p:Int)):=by omega
  have Q4:=aa q4
  have bg:IntKind.i64.wrap (-n)= -n:=by
   simp only[IntKind.wrap,IntKind.signed,IntKind.bits]
   simp
   omega
  clear J K hl hp q1 q4
  go_wp2
  refine aj (fun W=>W=w1) rfl ?_
  rintro O e0
  subst e0
  have hK:∀w',Below (w.heap.size+1) O w'→Below (w.heap.size+1) O w'∧w'.cell? ⟨w.heap.size,0,none⟩=some (.bool d)∧w'.cell? ⟨w.heap.size,1,none⟩=some (.slice F A.length G):=fun w' h=>
   ⟨h,(Z.below h (by omega)).c0,(Z.below h (by omega)).c1⟩
  have HK:=aa hK
  have HA:=aa (hA.below f)
  have X2:=aa H
  have ax:=aa f
  clear hK hA Z H f p0 p1
  go_region_held3(fun w'=>Below (w.heap.size+1) O w'∧w'.cell? ⟨w.heap.size,0,none⟩=some (.bool d)∧w'.cell? ⟨w.heap.size,1,none⟩=some (.slice F A.length G))
   (first|exact uH HK _ (Below.refl _ _).drew|exact uH HK _ (by assumption)|exact uH HK _ ((M.setCell (by simp) _).setCell (by simp) _))
   (first|(go_at_call 289;refine(oS F G A l p _ _ ((uH HA).below ((Below.refl _ _).drew)) (by omega) (by have:=uH Q4;omega) (by omega) (by omega)).mono ?_;rintro e w3 ⟨bb,ba,Y,rfl,g1,g2,g3,g4,u⟩;have aI:Below (w.heap.size+1) O w3:=((Below.refl _ _).drew).trans (u.mono (by simp;omega));have X3:=aa ((uH X2).drew.below u (by simp;omega));have G1:=aa g1;have G2:=aa g2;have G4:=aa g4;have L4:Y.length≤35184372088832:=(by omega);have s1:=u.size;clear g1 g2 g4 g3 u)|(go_at_call 288;refine(jb _ d _ _ _ _ (uH G1) (uH G2) L4).mono ?_;rintro e w4 ⟨v,rfl,⟨n2,a2,D,L2,rfl,i1⟩,f⟩;have M:Below (w.heap.size+1) O w4:=aI.trans (f.mono (by simp at s1;omega));have N:=(uH X3).below f (by simp at s1;omega);have y0:=N.c0;have y1:=N.c1;have f0:=N.free 0;have f1:=N.free 1;have I1:=aa i1;clear i1 f N))
  have hz:=uH ap Y (uH G4)
  have HI:=aa (hz▸uH I1)
  have HE:=aa (show bd (ad d Y)=bd z by rw[hz])
  clear hz
  go_wp2
  refine bodyPost_ret (v:=.tuple #[.agg #[.bool n2,.slice a2 L2.length D],.int .i64 (bd (ad d Y))]) (by simp[results,Tryz.results268,go_sem,y0,y1]) rfl ⟨.agg #[.bool n2,.slice a2 L2.length D],?_,?_,?_⟩
  ·rw[(uH Q).1,uH HE]
  ·rw[(uH Q).2];exact an.stored (uH HI) (by simp;omega) (by simp;omega) (by simp;omega) _ _
  ·exact(((uH ax).trans (M.mono (by omega))).setCell (by simp) _).setCell (by simp) _
 ·obtain⟨l,hl⟩:∃l:Nat,(l:Int)=n/32:=⟨(n/32).toNat,by omega⟩
  obtain⟨p,hp⟩:∃p:Nat,(p:Int)=n%32:=⟨(n%32).toNat,by omega⟩
  have q1:n=32*(l:Int)+(p:Int):=by omega
  have ap:=aa (fun L h=>uH J L l p q1 h)
  have q2:p≤31:=by omega
  have q3:l≤512:=by omega
  have Q4:=aa q1
  clear J K hl hp q1
  go_wp2
  refine aj (fun W=>W=w1) rfl ?_
  rintro O e0
  subst e0
  have hK:∀w',Below (w.heap.size+1) O w'→Below (w.heap.size+1) O w'∧w'.cell? ⟨w.heap.size,0,none⟩=some (.bool d)∧w'.cell? ⟨w.heap.size,1,none⟩=some (.slice F A.length G):=fun w' h=>
   ⟨h,(Z.below h (by omega)).c0,(Z.below h (by omega)).c1⟩
  have HK:=aa hK
  have HA:=aa (hA.below f)
  have X2:=aa H
  have ax:=aa f
  clear hK hA Z H f p0 p1
  go_region_held3(fun w'=>Below (w.heap.size+1) O w'∧w'.cell? ⟨w.heap.size,0,none⟩=some (.bool d)∧w'.cell? ⟨w.heap.size,1,none⟩=some (.slice F A.length G))
   (first|exact uH HK _ (Below.refl _ _).drew|exact uH HK _ (by assumption)|exact uH HK _ ((M.setCell (by simp) _).setCell (by simp) _))
   (first|(go_at_call 290;refine(rL F G A l p _ _ ((uH HA).below ((Below.refl _ _).drew)) (by omega) (by have:=uH Q4;omega) (by omega) (by omega)).mono ?_;rintro e w3 ⟨bb,ba,Y,rfl,g1,g2,g3,g4,u⟩;have aI:Below (w.heap.size+1) O w3:=((Below.refl _ _).drew).trans (u.mono (by simp;omega));have X3:=aa ((uH X2).drew.below u (by simp;omega));have G1:=aa g1;have G2:=aa g2;have G4:=aa g4;have L4:Y.length≤35184372088832:=(by omega);have s1:=u.size;clear g1 g2 g4 g3 u)|(go_at_call 288;refine(jb _ d _ _ _ _ (uH G1) (uH G2) L4).mono ?_;rintro e w4 ⟨v,rfl,⟨n2,a2,D,L2,rfl,i1⟩,f⟩;have M:Below (w.heap.size+1) O w4:=aI.trans (f.mono (by simp at s1;omega));have N:=(uH X3).below f (by simp at s1;omega);have y0:=N.c0;have y1:=N.c1;have f0:=N.free 0;have f1:=N.free 1;have I1:=aa i1;clear i1 f N))
  have hz:=uH ap Y (uH G4)
  have HI:=aa (hz▸uH I1)
  have HE:=aa (show bd (ad d Y)=bd z by rw[hz])
  clear hz
  go_wp2
  refine bodyPost_ret (v:=.tuple #[.agg #[.bool n2,.slice a2 L2.length D],.int .i64 (bd (ad d Y))]) (by simp[results,Tryz.results268,go_sem,y0,y1]) rfl ⟨.agg #[.bool n2,.slice a2 L2.length D],?_,?_,?_⟩
  ·rw[(uH Q).1,uH HE]
  ·rw[(uH Q).2];exact an.stored (uH HI) (by simp;omega) (by simp;omega) (by simp;omega) _ _
  ·exact(((uH ax).trans (M.mono (by omega))).setCell (by simp) _).setCell (by simp) _
end Go.Proofs.YtdhmglmccafbnaaGreatDoor
namespace Go.Proofs.YtdhmglmccafbnaaGreatDoor
open Go.RowKit
theorem ql(ao bo:Option Addr)(ca cb:Nat)(A B:List Nat)(w:World)(hA:ag w ao ca A)(hB:ag w bo cb B)(la:A.length≤1073741824)(lb:B.length≤1073741824):
  Calls Tryz.prog 307 #[.slice ao A.length ca,.slice bo B.length cb] w fun e w'=>∃V L L',e=.returned (.slice V L'.length L)∧ag w' V L L'∧bs w.heap.size V L'∧L'.length=A.length+B.length∧ai L'=ai A*ai B∧Below w.heap.size w w':=by
 obtain⟨i0,hi,u,bt,bv⟩:=info_parts Tryz.info122
 obtain⟨n,hn⟩:∃n,n=A.length+B.length:=⟨_,rfl⟩
 have HN:=aa hn
 have n1:n≤2147483648:=by omega
 have n2:A.length+B.length≤n:=by omega
 clear hn
 go_enter Tryz.func307,Tryz.ntmps307
 go_wp2_with(at_make;have hn:=uH HN;refine wpList_make_full _ rfl _ _ 37 rfl w.heap.size 122 i0 (.int .u32 0) 1 Tryz.underlying37 hi u bt .i64 .i64 _ _ n rfl rfl (by omega) (by omega) (by rw[bv];omega) (by unfold maxLen;omega) (Nat.le_refl _) ?_;clear hn;intro w1 U G)
 have M:=bL.made U
 have aI:Below w.heap.size w w1:=(Below.refl _ _).grown G (Nat.le_refl _) (fun k h=>by simp at h)
 clear U G
 go_wp2
 go_loopw[17] (fun c wr=>∃(i:Nat) (P:List Nat),i≤A.length∧c=.int .i64 i∧bL wr w.heap.size P∧P.length=n∧aX P∧Below w.heap.size w wr∧Hid (ai P=ai (A.take i)*ai B)∧Hid (∀j,i+B.length≤j→P[j]?.getD 0=0))
  (fun c _=>A.length-(intOf c).toNat)
 case atStart=>
  refine⟨0,List.replicate n 0,Nat.zero_le _,rfl,M,by simp,aX.zeros _,aI,?_,?_⟩
  ·unfold Hid
   have:∀k,ai (List.replicate k 0)=0:=by intro k;induction k with|zero=>rfl|succ k ih=>simp[List.replicate_succ,ai,ih]
   rw[this];simp[ai]
  ·intro j _
   rw[List.getElem?_replicate];split<;>rfl
 case round=>
  obtain⟨i,P,b6,rfl,hr,ap,hf,O,hv,J⟩:=hrel
  by_cases a0:i<A.length
  ·obtain⟨x,hx⟩:∃x,A[i]?.getD 0=x:=⟨_,rfl⟩
   have bx:x<4294967296:=by rw[←hx];exact hA.lt i
   obtain⟨b1,o1,bw,a7,a9⟩:=hA.ne (by omega)
   have X:=a9 i a0
   rw[hx]at X
   have HX:=aa hx
   have a1:=aa X
   have HR:=aa hr
   have b4:=aa a0
   clear hx a9 X hr M aI
   subst bw
   have bE:(i:Int)<(A.length:Int):=by omega
   go_wp2
   go_loopw[7,22] (fun c k wq=>∃(y:Nat) (d:Nat) (Q:List Nat),d≤B.length∧k=.int .i64 d∧c=.int .u64 y∧y<4294967296∧bL wq w.heap.size Q∧Q.length=n∧aX Q∧Below w.heap.size w wq∧Hid (ai Q+4294967296^(i+d)*y=ai (A.take i)*ai B+4294967296^i*x*ai (B.take d))∧Hid (∀j,i+B.length≤j→Q[j]?.getD 0=0))
    (fun _ k _=>B.length-(intOf k).toNat)
   case atStart=>exact⟨0,0,P,Nat.zero_le _,rfl,rfl,by omega,uH HR,ap,hf,O,by unfold Hid;simp[ai];exact hv.out,J⟩
   case round=>
    obtain⟨y,d,Q,b7,rfl,rfl,hy,f,ba,ax,K,D,F⟩:=hrel
    by_cases bg:d<B.length
    ·obtain⟨z,hz⟩:∃z,B[d]?.getD 0=z:=⟨_,rfl⟩
     have bz:z<4294967296:=by rw[←hz];exact hB.lt d
     obtain⟨q,hq⟩:∃q,Q[i+d]?.getD 0=q:=⟨_,rfl⟩
     obtain⟨b2,o2,bA,bb,be⟩:=hB.ne (by omega)
     have Y:=be d bg
     rw[hz]at Y
     have bq:q<4294967296:=by
      rw[←hq]
      by_cases hh:i+d<Q.length
      ·rw[List.getElem?_eq_getElem hh];exact ax _ (List.getElem_mem hh)
      ·rw[List.getElem?_eq_none (by omega)];decide
     have dA:wr.cell? ⟨b1,o1+i,none⟩=some (.int .u32 (x:Int)):=by rw[K.cell (p:=⟨b1,o1+i,none⟩) a7];exact uH a1
     have dB:wr.cell? ⟨b2,o2+d,none⟩=some (.int .u32 (z:Int)):=by rw[K.cell (p:=⟨b2,o2+d,none⟩) bb];exact Y
     have dQ:=f.cell (i+d) (by omega)
     rw[hq]at dQ
     have fQ:=f.free (i+d)
     have bi:=yJ x z bx bz
     obtain⟨b0,b3⟩:=Cl x z bx bz
     have a2:=yK B Q (ai (A.take i)*ai B) x i d y z q (by omega) hz hq D.out
     have l:∀j,i+B.length≤j→(Q.set (i+d) ((y+(x*z+q))%4294967296))[j]?.getD 0=0:=fun j hj=>by rw[eQ _ _ _ _ (by omega)];exact F.out j hj
     have bm:=aa a2
     have Z:=aa l
     have ae:=aa f
     obtain⟨ec,ed⟩:=wE x y z q
     have EC:=aa ec
     have ED:=aa ed
     have a3:(y+(x*z+q))/4294967296<4294967296:=by omega
     have BY:=aa a3
     clear a2 l f ec ed hz hq be Y D F a3 bi hv J
     subst bA
     have b5:(d:Int)<(B.length:Int):=by omega
     have bn:(i:Int)+(d:Int)<(n:Int):=by omega
     go_wp2
     go_quiet (fail)
     go_wp2
     have H:=((uH ae).drewN nq).set (i+d) ((y+(x*z+q))%4294967296)
     rw[uH EC]at H
     go_roundw
     case rel=>exact⟨(y+(x*z+q))/4294967296,d+1,Q.set (i+d) ((y+(x*z+q))%4294967296),by omega,by go_num,cJ (uH ED).symm,uH BY,H,by simpa using ba,ax.set _ _ (by omega),(below_drewN K nq).setCell (by simp) _,uH bm,uH Z⟩
     case measure=>simp[intOf];omega
    ·have a4:d=B.length:=by omega
     rw[a4]at D
     have u:=F.out (i+B.length) (by omega)
     have N:=Cm A B Q x i y (by omega) (uH HX) u D.out
     have l:∀j,i+1+B.length≤j→(Q.set (i+B.length) y)[j]?.getD 0=0:=fun j hj=>by rw[eQ _ _ _ _ (by omega)];exact F.out j (by omega)
     have dQ:=f.cell (i+B.length) (by omega)
     rw[u]at dQ
     have fQ:=f.free (i+B.length)
     have a5:=aa N
     have Z:=aa l
     have ae:=aa f
     have bn:(i:Int)+(B.length:Int)<(n:Int):=by omega
     clear N l f D F u a4 hv J a1
     go_wp2
     have H:=(uH ae).set (i+B.length) y
     go_roundw
     case rel=>exact⟨i+1,Q.set (i+B.length) y,by omega,by go_num,H,by simpa using ba,ax.set _ _ hy,K.setCell (by simp) _,uH a5,uH Z⟩
     case measure=>simp[intOf];omega
  ·have a6:i=A.length:=by omega
   have am:=hv.out
   rw[a6,List.take_length]at am
   have HV:=aa am
   have HR:=aa hr
   clear am hv J hr a6
   go_wp2
   go_ret
   exact⟨some ⟨w.heap.size,0,none⟩,n,P,by rw[ap];rfl,(uH HR).limbs hf _ (by omega),.inr ⟨_,_,rfl,Nat.le_refl _⟩,by rw[ap];exact uH HN,uH HV,O⟩
attribute [local go_sem ↓] Go.wp_at_zero Go.wp_at_succ
theorem Dc(A B:List Nat)(d:bG A)(cB:bG B)(F:A.length≤512)(G:B.length≤512)(h:512<A.length+B.length-1):¬ai A*ai B<dt:=by
 have f:A≠ []:=by rintro rfl;simp at h;omega
 have l:B≠ []:=by rintro rfl;simp at h;omega
 have u:=kL A (d.resolve_left f)
 have z:=kL B (cB.resolve_left l)
 have D:=Nat.mul_le_mul u z
 rw[←Nat.pow_add]at D
 have H:dt≤4294967296^(A.length-1+(B.length-1)):=by
  unfold dt
  exact Nat.pow_le_pow_right (by decide) (show kN≤A.length-1+(B.length-1) by unfold kN;omega)
 omega
theorem Dd(f l:Bool)(F G:Option Addr)(H J:Nat)(A B:List Nat)(w:World)(hA:ag w F H A)(hB:ag w G J B)(la:A.length≤35184372088830)(lb:B.length≤35184372088830):
  Calls Tryz.prog 298 #[.agg #[.bool f,.slice F A.length H],.agg #[.bool l,.slice G B.length J]] w fun e w'=>∃v,e=.returned (.tuple #[v,.int .i64 (ps (al f A&&al l B) (ad f A*ad l B))])∧an w.heap.size w' v (pu (al f A&&al l B) (ad f A*ad l B))∧Below w.heap.size w w':=by
 have hC:(al f A&&al l B)=true→bG A∧bG B:=fun h=>by
  simp only[Bool.and_eq_true]at h;exact⟨(au h.1).2.1,(au h.2).2.1⟩
 have hL:(al f A&&al l B)=true→A.length≤512∧B.length≤512∧(512<A.length+B.length-1→bd (ad f A*ad l B)=2∧du (ad f A*ad l B)=0):=fun h=>by
  simp only[Bool.and_eq_true]at h
  have r1:=au h.1
  have D:=au h.2
  refine⟨r1.1,D.1,fun hb=>?_⟩
  have V:¬(ad f A*ad l B).natAbs<dt:=by
   rw[Int.natAbs_mul,aM,aM]
   exact Dc A B r1.2.1 D.2.1 r1.1 D.1 hb
  constructor
  ·unfold bd;rw[if_neg V]
  ·unfold du;rw[if_neg V]
 have X:∀L:List Nat,ai L=ai A*ai B→ad (f != l) L=ad f A*ad l B:=by
  intro L h;unfold ad;rw[h];cases f<;>cases l<;>simp[Int.neg_mul,Int.mul_neg]
 have HC:=aa hC
 have HL:=aa hL
 have ap:=aa X
 clear hL X
 have H2:=aa (show t8 f A l B=if(al f A&&al l B)then 0 else 1 from rfl)
 clear hC
 generalize a0:(al f A&&al l B)=ok at*
 generalize ad f A*ad l B=z at*
 clear a0
 go_enter Tryz.func298,Tryz.ntmps298
 go_wp2_with fail
 have N:Below w.heap.size w (((w.alloc (.cells #[.bool f,.slice F A.length H] 39)).alloc (.cells #[.bool l,.slice G B.length J] 39)).alloc (.cells #[.bool false,.slice none 0 0] 39)):=
  (((Below.refl _ _).alloc (Nat.le_refl _) _).alloc (by simp) _).alloc (by simp;omega) _
 refine(jq f l F G H J A B _ (hA.below N) (hB.below N) la lb).mono ?_
 rintro e M ⟨rfl,d⟩
 have a3:w.heap.size+3≤M.heap.size:=by have:=d.size;simpa using this
 have u:Below w.heap.size w M:=N.trans (d.mono (by simp;omega))
 have p0:M.cell? ⟨w.heap.size,0,none⟩=some (.bool f):=by rw[d.cell (p:=⟨w.heap.size,0,none⟩) (by simp;omega)];simp[go_sem]
 have p1:M.cell? ⟨w.heap.size,1,none⟩=some (.slice F A.length H):=by rw[d.cell (p:=⟨w.heap.size,1,none⟩) (by simp;omega)];simp[go_sem]
 have q0:M.cell? ⟨w.heap.size+1,0,none⟩=some (.bool l):=by rw[d.cell (p:=⟨w.heap.size+1,0,none⟩) (by simp)];simp[go_sem]
 have q1:M.cell? ⟨w.heap.size+1,1,none⟩=some (.slice G B.length J):=by rw[d.cell (p:=⟨w.heap.size+1,1,none⟩) (by simp)];simp[go_sem]
 have D:az M (w.heap.size+2) (.bool false) (.slice none 0 0):=by
  have:=az.new ((w.alloc (.cells #[.bool f,.slice F A.length H] 39)).alloc (.cells #[.bool l,.slice G B.length J] 39)) (.bool false) (.slice none 0 0)
  exact az.below (by simpa using this) d (by simp)
 have PA:Hid (az M w.heap.size (.bool f) (.slice F A.length H)):=(((az.new _ _ _).old _).old _).below d (by simp;omega)
 have PB:Hid (az M (w.heap.size+1) (.bool l) (.slice G B.length J)):=by
  have:=(az.new (w.alloc (.cells #[.bool f,.slice F A.length H] 39)) (.bool l) (.slice G B.length J)).old (.cells #[.bool false,.slice none 0 0] 39)
  exact az.below (by simpa using this) d (by simp)
 rw[uH H2]
 clear d H2 N
 cases ok
 ·simp only[Bool.false_eq_true,if_false]
  have Y:=D.c0;have Z:=D.c1;have f0:=D.free 0;have f1:=D.free 1
  go_wp2
  refine bodyPost_ret (v:=.tuple #[.agg #[.bool false,.slice none 0 0],.int .i64 1]) (by simp[results,Tryz.results298,go_sem,Y,Z]) rfl ⟨.agg #[.bool false,.slice none 0 0],by rw[lG],by rw[lI];exact an.zero _ _ _ _,?_⟩
  exact(u.setCell (by simp;omega) _).setCell (by simp;omega) _
 ·obtain⟨cA,cB⟩:=uH HC rfl
  obtain⟨l1,l2,O⟩:=uH HL rfl
  have K:=aa O
  clear cA cB O HC HL
  simp only[if_true]
  by_cases ae:512<A.length+B.length-1
  ·have hE:=aa (uH K ae)
   have Y:=D.c0;have Z:=D.c1;have f0:=D.free 0;have f1:=D.free 1
   have Q:(512:Int)<(A.length:Int)+(B.length:Int)-1:=by omega
   clear K
   go_wp2
   refine bodyPost_ret (v:=.tuple #[.agg #[.bool false,.slice none 0 0],.int .i64 2]) (by simp[results,Tryz.results298,go_sem,Y,Z]) rfl ⟨.agg #[.bool false,.slice none 0 0],by rw[fO,(uH hE).1],by rw[fU,(uH hE).2];exact an.zero _ _ _ _,?_⟩
   exact(u.setCell (by simp;omega) _).setCell (by simp;omega) _
  have Q:¬(512:Int)<(A.length:Int)+(B.length:Int)-1:=by omega
  clear K
  go_wp2
  refine aj (fun W=>W=M) rfl ?_
  rintro U e0
  subst e0
  have x0:az U w.heap.size (.bool f) (.slice F A.length H):=uH PA
  have x1:az U (w.heap.size+1) (.bool l) (.slice G B.length J):=uH PB
  have hK:∀w',Below (w.heap.size+2) U w'→Below (w.heap.size+2) U w'∧w'.cell? ⟨w.heap.size,0,none⟩=some (.bool f)∧w'.cell? ⟨w.heap.size+1,0,none⟩=some (.bool l)∧w'.cell? ⟨w.heap.size,1,none⟩=some (.slice F A.length H)∧w'.cell? ⟨w.heap.size+1,1,none⟩=some (.slice G B.length J):=fun w' h=>
   ⟨h,(x0.below h (by omega)).c0,(x1.below h (by omega)).c0,(x0.below h (by omega)).c1,(x1.below h (by omega)).c1⟩
  have HK:=aa hK
  have HA:=aa (hA.below u)
  have HB:=aa (hB.below u)
  have X2:=aa D
  have ax:=aa u
  clear hK hA hB x0 x1 D u p0 p1 q0 q1 PA PB
  go_region_held3(fun w'=>Below (w.heap.size+2) U w'∧w'.cell? ⟨w.heap.size,0,none⟩=some (.bool f)∧w'.cell? ⟨w.heap.size+1,0,none⟩=some (.bool l)∧w'.cell? ⟨w.heap.size,1,none⟩=some (.slice F A.length H)∧w'.cell? ⟨w.heap.size+1,1,none⟩=some (.slice G B.length J))
   (first|exact uH HK _ (Below.refl _ _).drew|exact uH HK _ (by assumption)|exact uH HK _ ((am.setCell (by simp) _).setCell (by simp) _))
   (first|(go_at_call 307;refine(ql F G H J A B _ ((uH HA).below ((Below.refl _ _).drew)) ((uH HB).below ((Below.refl _ _).drew)) (by omega) (by omega)).mono ?_;rintro e w3 ⟨a4,a1,L',rfl,g1,g2,g3,g4,d⟩;have aI:Below (w.heap.size+2) U w3:=((Below.refl _ _).drew).trans (d.mono (by simp;omega));have X3:=aa ((uH X2).drew.below d (by simp;omega));have G1:=aa g1;have G2:=aa g2;have G4:=aa g4;have L4:L'.length≤35184372088832:=(by omega);have s1:=d.size;clear g1 g2 g4 g3 d)|(go_at_call 288;refine(jb _ (f != l) _ _ _ _ (uH G1) (uH G2) L4).mono ?_;rintro e w4 ⟨v,rfl,⟨n2,a2,c2,L2,rfl,i1⟩,u⟩;have am:Below (w.heap.size+2) U w4:=aI.trans (u.mono (by simp at s1;omega));have X4:=(uH X3).below u (by simp at s1;omega);have Y:=X4.c0;have Z:=X4.c1;have f0:=X4.free 0;have f1:=X4.free 1;have I1:=aa i1;clear i1 u X4))
  have hz:=uH ap L' (uH G4)
  have HI:=aa (hz▸uH I1)
  have HE:=aa (show bd (ad (f != l) L')=bd z by rw[hz])
  clear hz
  go_wp2
  refine bodyPost_ret (v:=.tuple #[.agg #[.bool n2,.slice a2 L2.length c2],.int .i64 (bd (ad (f != l) L'))]) (by simp[results,Tryz.results298,go_sem,Y,Z]) rfl ⟨.agg #[.bool n2,.slice a2 L2.length c2],?_,?_,?_⟩
  ·rw[fO,uH HE]
  ·rw[fU];exact an.stored (uH HI) (by simp;omega) (by simp;omega) (by simp;omega) _ _
  ·exact(((uH ax).trans (am.mono (by omega))).setCell (by simp;omega) _).setCell (by simp;omega) _
end Go.Proofs.YtdhmglmccafbnaaGreatDoor
namespace Go.Proofs.YtdhmglmccafbnaaGreatDoor
open Go.RowKit
theorem jc(w:World)(g:Nat)(a b:Int)(lo d:Nat)(f:w.heap.size=g)(h:a=(lo:Int))(l:b=(d:Int)):
  bL (w.alloc (.cells #[.int .u32 a,.int .u32 b] 122)) g [lo,d]:=by
 subst f;subst h;subst l
 exact heap_alloc_new w _
theorem yW(n:Int)(d:-9223372036854775808≤n)(f:n<0):IntKind.u64.wrap (-IntKind.u64.wrap n)= -n:=by
 simp only[IntKind.wrap,IntKind.signed,IntKind.bits]
 simp
 omega
theorem my(m:Nat):ai [m%4294967296,m/4294967296]=m:=by simp only[ai];omega
theorem uc(n:Int)(w:World)(Y:-9223372036854775808≤n)(h1:n≤9223372036854775807):
  Calls Tryz.prog 237 #[.int .i64 n] w fun e w'=>∃v,e=.returned v∧an w.heap.size w' v n∧Below w.heap.size w w':=by
 obtain⟨m,h⟩:∃m,m=n.natAbs:=⟨_,rfl⟩
 have U:aX [m%4294967296,m/4294967296]:=by intro x Z;simp at Z;omega
 have J:=aa U
 have l:=aa h
 clear U h
 by_cases V:n<0
 ·have X:=yW n Y V
  have K:=aa X
  clear X
  go_enter Tryz.func237,Tryz.ntmps237
  go_wp2_with fail
  have h:=uH l
  have z:=jc (w.alloc (.cells #[.bool false,.slice none 0 0] 39)) (w.heap.size+1) (IntKind.u64.wrap (-IntKind.u64.wrap n)%4294967296) (IntKind.u64.wrap (-IntKind.u64.wrap n)/4294967296%4294967296) (m%4294967296) (m/4294967296) (by simp) (by rw[uH K];omega) (by rw[uH K];omega)
  refine(mR (some ⟨w.heap.size+1,0,none⟩) 2 [m%4294967296,m/4294967296] _ (z.limbs (uH J) 2 (by simp)) (by simp)).mono ?_
  rintro e w' ⟨v,rfl,⟨f,d,u,rfl,D,F,Q,G,H⟩,rfl⟩
  have L:=aa G
  have M:=aa D
  have N:=aa F
  have O:=aa H
  clear D F G H z h
  go_wp2
  refine bodyPost_ret (v:=.agg #[.bool true,.slice f u.length d]) (by simp[results,Tryz.results237,go_sem]) rfl ⟨.agg #[.bool true,.slice f u.length d],rfl,⟨true,f,d,u,rfl,uH L _ ?_,uH O _ (.inr ⟨_,_,rfl,by omega⟩),uH M,by simp[V],?_⟩,?_⟩
  ·refine(jc _ (w.heap.size+1) _ _ _ _ (by simp) ?_ ?_).limbs (uH J) 2 (by simp)
   ·have h:=uH l;rw[uH K];omega
   ·have h:=uH l;rw[uH K];omega
  ·exact⟨by rw[uH N,my];exact uH l,by simp at Q;omega⟩
  ·exact((Below.refl _ _).alloc (Nat.le_refl _) _).alloc (by simp) _
 ·go_enter Tryz.func237,Tryz.ntmps237
  go_wp2_with fail
  have h:=uH l
  have z:=jc (w.alloc (.cells #[.bool false,.slice none 0 0] 39)) (w.heap.size+1) (n%4294967296) (n/4294967296) (m%4294967296) (m/4294967296) (by simp) (by omega) (by omega)
  refine(mR (some ⟨w.heap.size+1,0,none⟩) 2 [m%4294967296,m/4294967296] _ (z.limbs (uH J) 2 (by simp)) (by simp)).mono ?_
  rintro e w' ⟨v,rfl,⟨f,d,u,rfl,D,F,Q,G,H⟩,rfl⟩
  have L:=aa G
  have M:=aa D
  have N:=aa F
  have O:=aa H
  clear D F G H z h
  go_wp2
  refine bodyPost_ret (v:=.agg #[.bool false,.slice f u.length d]) (by simp[results,Tryz.results237,go_sem]) rfl ⟨.agg #[.bool false,.slice f u.length d],rfl,⟨false,f,d,u,rfl,uH L _ ?_,uH O _ (.inr ⟨_,_,rfl,by omega⟩),uH M,by simp;omega,?_⟩,?_⟩
  ·refine(jc _ (w.heap.size+1) _ _ _ _ (by simp) ?_ ?_).limbs (uH J) 2 (by simp)
   ·have h:=uH l;omega
   ·have h:=uH l;omega
  ·exact⟨by rw[uH N,my];exact uH l,by simp at Q;omega⟩
  ·exact((Below.refl _ _).alloc (Nat.le_refl _) _).alloc (by simp) _
theorem an.right{B:Nat}{w:World}{v:Value}{x:Int}(h:an B w v x)(K:x.natAbs<dt):
  ∃neg l d L,v=.agg #[.bool neg,.slice l L.length d]∧ag w l d L∧al neg L=true∧ad neg L=x∧L.length≤512:=by
 obtain⟨neg,l,d,L,rfl,z,M,D,F,J,N⟩:=h
 have u:L.length≤512:=(dJ L z.2.1 D).1 (by omega)
 refine⟨neg,l,d,L,rfl,z,?_,?_,u⟩
 ·have G:L.length=0→neg=false:=fun e=>by
   have:L= []:=List.length_eq_zero_iff.1 e
   subst this
   rw[F];simp[ai]at J;simp;omega
  have H:L.length=0∨L[L.length-1]?.getD 0≠0:=by
   rcases D with h|h
   ·left;rw[h];rfl
   ·exact .inr h
  simp only[al,Bool.and_eq_true,decide_eq_true_eq,Bool.not_eq_true',Bool.and_eq_false_iff,decide_eq_false_iff_not,Bool.or_eq_true]
  refine⟨⟨u,?_⟩,H⟩
  by_cases e:L.length=0
  ·exact .inr (G e)
  ·exact .inl e
 ·unfold ad
  rw[F]
  by_cases f:x<0
  ·simp[f];omega
  ·simp[f];omega
theorem De{B d:Nat}{w:World}{v u:Value}{x y:Int}(f:an B w v x)(h:an d w u y)(l:x.natAbs<dt)(z:y.natAbs<dt):
  Calls Tryz.prog 311 #[v,u] w fun e w'=>∃r,e=.returned (.tuple #[r,.int .i64 (bd (x+y))])∧an w.heap.size w' r (du (x+y))∧Below w.heap.size w w':=by
 obtain⟨D,F,G,A,rfl,H,J,K,V⟩:=f.right l
 obtain⟨L,M,N,C,rfl,O,Q,U,X⟩:=h.right z
 have:=Da D L F M G N A C w H O (by omega) (by omega)
 rwa[J,Q,K,U,Bool.and_self,fO,fU]at this
theorem cS(x:Nat)(h:x<18446744073709551616):x<dt:=by
 have:(4294967296^2:Nat)≤4294967296^kN:=Nat.pow_le_pow_right (by decide) (by decide)
 unfold dt
 omega
theorem eU(x:Int)(h:x.natAbs<dt):bd x=0:=by unfold bd;rw[if_pos h]
theorem eW(x:Int)(h:x.natAbs<dt):du x=x:=by unfold du;rw[if_pos h]
end Go.Proofs.YtdhmglmccafbnaaGreatDoor
