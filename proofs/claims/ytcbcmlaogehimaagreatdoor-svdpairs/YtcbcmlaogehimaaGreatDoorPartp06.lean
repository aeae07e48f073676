/- Part 6 of the texts. -/
import Derived.Test.YtcbcmlaogehimaaGreatDoorPartp05
set_option maxHeartbeats 2000000
namespace Go.Proofs.YtcbcmlaogehimaaGreatDoor
open Go.RowKit
theorem zK(x p:Nat)(d:x<4294967296)(u:p≤31):IntKind.u64.wrap ((x:Int)*2^p)=((x*2^p:Nat):Int):=by
 have h:=rr x p d u
 have e:(x:Int)*2^p=((x*2^p:Nat):Int):=by simp
 rw[e]
 clear e
 generalize x*2^p=z at*
 simp only[IntKind.wrap,IntKind.signed,IntKind.bits]
 simp
 omega
theorem F3(x p s:Nat)(u:x<4294967296)(A:p≤31)(D:s<2^p):
  bits BinOp.or IntKind.u32 (s:Int) (IntKind.u64.wrap ((x:Int)*2^p)%4294967296)=((s+(x*2^p)%4294967296:Nat):Int)∧IntKind.u64.wrap ((x:Int)*2^p)/4294967296%4294967296=(((x*2^p)/4294967296:Nat):Int)∧s+(x*2^p)%4294967296<4294967296:=by
 have h:=rr x p u A
 have d:s<4294967296:=Nat.lt_of_lt_of_le D (by have:=Nat.pow_le_pow_right (n:=2) (by decide) (show p≤32 by omega);simpa using this)
 have e:=FC s ((x*2^p)%4294967296) p D (BG x p (by omega))
 have G:s|||(x*2^p)%4294967296<2^32:=Nat.or_lt_two_pow (by omega) (by omega)
 rw[zK x p u A]
 generalize x*2^p=z at*
 have F:((z:Nat):Int)%4294967296=((z%4294967296:Nat):Int):=by omega
 rw[F,u32_or_nat s (z%4294967296) d (by omega),e]
 refine⟨rfl,by omega,by omega⟩
theorem tO(ao:Option Addr)(ca:Nat)(A:List Nat)(l p:Nat)(m:Int)(w:World)(hA:ag w ao ca A)(la:A.length≤1073741824)(hm:m=32*(l:Int)+(p:Int))(hp:p≤31)(hl:l≤1073741824):
  Calls Tryz.prog 268 #[.slice ao A.length ca,.int .i64 m] w fun e w'=>∃L H X,e=.returned (.slice L X.length H)∧ag w' L H X∧bI w.heap.size L X∧X.length=A.length+l+1∧aj X=4294967296^l*2^p*aj A∧Below w.heap.size w w':=by
 obtain⟨i0,hi,a1,a2,a3⟩:=info_parts Tryz.info84
 have hd:m/32=(l:Int):=by omega
 have hr:m%32=(p:Int):=by omega
 have a6:0≤m:=by omega
 have a7:m≤68719476735:=by omega
 clear hm
 go_enter Tryz.func268,Tryz.ntmps268
 go_wp2_with(at_make;refine wpList_make_full _ rfl _ _ 31 rfl w.heap.size 84 i0 (.int .u32 0) 1 Tryz.underlying31 hi a1 a2 .i64 .i64 _ _ (A.length+l+1) rfl rfl (by omega) (by omega) (by rw[a3];omega) (by unfold maxLen;omega) (Nat.le_refl _) ?_;intro w1 K G)
 have Y:=bW.made K
 have ar:Below w.heap.size w w1:=(Below.refl _ _).grown G (Nat.le_refl _) (fun k h=>by simp at h)
 clear K G
 go_wp2
 go_loopw[22] (fun c wr=>∃(i:Nat) (S:List Nat),i≤A.length∧c=.int .i64 i∧bW wr w.heap.size S∧S.length=A.length+l+1∧bm S∧Below w.heap.size w wr∧Hid (aj S=4294967296^l*2^p*aj (A.take i))∧Hid (S[i+l]?.getD 0<2^p)∧Hid (∀j,i+l<j→S[j]?.getD 0=0))
  (fun c _=>A.length-(intOf c).toNat)
 case atStart=>
  refine⟨0,List.replicate (A.length+l+1) 0,Nat.zero_le _,rfl,Y,by simp,bm.zeros _,ar,?_,?_,?_⟩
  ·unfold Hid
   have:∀k,aj (List.replicate k 0)=0:=by intro k;induction k with|zero=>rfl|succ k ih=>simp[List.replicate_succ,aj,ih]
   rw[this];simp[aj]
  ·unfold Hid
   have:(List.replicate (A.length+l+1) 0)[0+l]?.getD 0=0:=by rw[List.getElem?_replicate];split<;>rfl
   rw[this];exact Nat.pow_pos (by decide)
  ·intro j _
   rw[List.getElem?_replicate];split<;>rfl
 case round=>
  obtain⟨i,S,a9,rfl,d,U,hf,z,hv,D,F⟩:=hrel
  by_cases ax:i<A.length
  ·obtain⟨x,hx⟩:∃x,A[i]?.getD 0=x:=⟨_,rfl⟩
   have bx:x<4294967296:=by rw[←hx];exact hA.lt i
   obtain⟨s,hs⟩:∃s,S[i+l]?.getD 0=s:=⟨_,rfl⟩
   obtain⟨b1,o1,a4,am,an⟩:=hA.ne (by omega)
   have O:=an i ax
   rw[hx]at O
   have dA:wr.cell? ⟨b1,o1+i,none⟩=some (.int .u32 (x:Int)):=by rw[z.cell (p:=⟨b1,o1+i,none⟩) am];exact O
   have dS:=d.cell (i+l) (by omega)
   rw[hs]at dS
   have dT:=d.cell (i+l+1) (by omega)
   rw[F.out _ (by omega)]at dT
   have Z:s<2^p:=by rw[←hs];exact D.out
   obtain⟨u1,u2,u3⟩:=F3 x p s bx hp Z
   have aa:=FD A S i l p x s (by omega) hx hs (F.out _ (by omega)) hv.out
   have ae:=zG x p bx hp
   have u:((S.set (i+l) (s+(x*2^p)%4294967296)).set (i+l+1) ((x*2^p)/4294967296))[i+1+l]?.getD 0<2^p:=by
    rw[show i+1+l=i+l+1 by omega,List.getElem?_set_self (by simp;omega)];exact ae
   have I:∀j,i+1+l<j→((S.set (i+l) (s+(x*2^p)%4294967296)).set (i+l+1) ((x*2^p)/4294967296))[j]?.getD 0=0:=fun j hj=>by
    rw[gj _ _ _ _ (by omega),gj _ _ _ _ (by omega)];exact F.out j (by omega)
   have J:(x*2^p)/4294967296<4294967296:=by have:=rr x p bx hp;omega
   have U1:=ac u1;have U2:=ac u2;have U3:=ac u3;have az:=ac aa;have aI:=ac u;have a0:=ac I;have HH:=ac J
   have fS:=d.free (i+l)
   have fT:=d.free (i+l+1)
   have HR:=ac d
   clear u1 u2 u3 aa u I ae J Z hx hs d hv D F an O
   subst a4
   have a5:(i:Int)<(A.length:Int):=by omega
   go_wp2
   have r1:=((uH HR).set (i+l) (s+(x*2^p)%4294967296)).set (i+l+1) ((x*2^p)/4294967296)
   rw[←uH U1,←uH U2]at r1
   go_roundw
   case rel=>exact⟨i+1,_,by omega,by go_num,r1,by simpa using U,(hf.set _ _ (uH U3)).set _ _ (uH HH),(z.setCell (by simp) _).setCell (by simp) _,uH az,uH aI,uH a0⟩
   case measure=>simp[intOf];omega
  ·have ah:i=A.length:=by omega
   have Q:=hv.out
   rw[ah,List.take_length]at Q
   have HV:=ac Q
   have HR:=ac d
   clear Q hv F d ah D
   go_wp2
   go_ret
   exact⟨some ⟨w.heap.size,0,none⟩,A.length+l+1,S,by rw[U];rfl,(uH HR).limbs hf _ (by omega),.inr ⟨_,_,rfl,Nat.le_refl _⟩,U,uH HV,z⟩
theorem BR(u d p:Nat)(z:u<4294967296)(A:d<4294967296):
  bits BinOp.or IntKind.u64 (u:Int) ((d:Int)*4294967296)/2^p%4294967296=(((u+4294967296*d)/2^p%4294967296:Nat):Int):=by
 have e:(d:Int)*4294967296=((d*2^32:Nat):Int):=by simp
 have h:=Nat.two_pow_add_eq_or_of_lt (i:=32) (b:=u) (by omega) d
 rw[e,u64_or_nat u (d*2^32) (by omega) (by omega),Nat.or_comm,Nat.mul_comm d,←h]
 rw[show 2^32*d+u=u+4294967296*d by omega]
 simp
theorem p9(ao:Option Addr)(ca:Nat)(A:List Nat)(l p:Nat)(m:Int)(w:World)(K:ag w ao ca A)(la:A.length≤1073741824)(hm:m=32*(l:Int)+(p:Int))(hp:p≤31)(hl:l≤1073741824):
  Calls Tryz.prog 267 #[.slice ao A.length ca,.int .i64 m] w fun e w'=>∃L I Y,e=.returned (.slice L Y.length I)∧ag w' L I Y∧bI w.heap.size L Y∧Y.length≤A.length∧aj Y=aj A/(4294967296^l*2^p)∧Below w.heap.size w w':=by
 obtain⟨i0,hi,a3,a4,a5⟩:=info_parts Tryz.info84
 have hd:m/32=(l:Int):=by omega
 have hr:m%32=(p:Int):=by omega
 have bd:0≤m:=by omega
 have be:m≤68719476735:=by omega
 clear hm
 by_cases Z:A.length≤l
 ·have hz:aj A/(4294967296^l*2^p)=0:=by
   apply Nat.div_eq_of_lt
   have h1:=eO A K.2.1
   have h2:(4294967296:Nat)^A.length≤4294967296^l:=Nat.pow_le_pow_right (by decide) Z
   have h3:=Nat.mul_le_mul_left (4294967296^l) (show 1≤2^p from Nat.pow_pos (by decide))
   omega
  have HZ:=ac hz
  generalize aj A/(4294967296^l*2^p)=q at*
  clear hz
  have aI:(A.length:Int)≤(l:Int):=by omega
  go_enter Tryz.func267,Tryz.ntmps267
  go_wp2
  go_ret
  exact⟨none,0,[],rfl,ag.nil _ _ _,.inl rfl,by simp,by rw[uH HZ];rfl,Below.refl _ _⟩
 obtain⟨n,hn⟩:∃n,n+l=A.length:=⟨A.length-l,by omega⟩
 have aI:¬(A.length:Int)≤(l:Int):=by omega
 have aa:=fun(S:List Nat) (k G H:Nat)=>qD A S K.2.1 k l p G H hp
 have ae:=fun(S:List Nat)=>tG A S K.2.1 l p
 have O:=ac aa
 have Q:=ac ae
 clear aa ae
 have n1:n≤1073741824:=by omega
 have n2:n+l≤A.length:=by omega
 have n3:A.length≤n+l:=by omega
 clear hn Z
 go_enter Tryz.func267,Tryz.ntmps267
 go_wp2_with(at_make;refine wpList_make_full _ rfl _ _ 31 rfl w.heap.size 84 i0 (.int .u32 0) 1 Tryz.underlying31 hi a3 a4 .i64 .i64 _ _ n rfl rfl (by omega) (by omega) (by rw[a5];omega) (by unfold maxLen;omega) (Nat.le_refl _) ?_;intro w1 J z)
 have ah:=bW.made J
 have a0:Below w.heap.size w w1:=(Below.refl _ _).grown z (Nat.le_refl _) (fun k h=>by simp at h)
 clear J z
 go_wp2
 go_loopw[25] (fun c wr=>∃(i:Nat) (S:List Nat),i≤n∧c=.int .i64 i∧bW wr w.heap.size S∧S.length=n∧bm S∧Below w.heap.size w wr∧Hid (aj (S.take i)=(aj A/(4294967296^l*2^p))%4294967296^i))
  (fun c _=>n-(intOf c).toNat)
 case atStart=>exact⟨0,List.replicate n 0,Nat.zero_le _,rfl,ah,by simp,bm.zeros _,a0,by unfold Hid;simp[aj,Nat.mod_one]⟩
 case round=>
  obtain⟨i,S,bi,rfl,u,X,hf,d,hv⟩:=hrel
  by_cases bg:i<n
  ·obtain⟨G,D⟩:∃x,A[i+l]?.getD 0=x:=⟨_,rfl⟩
   obtain⟨H,F⟩:∃x,A[i+l+1]?.getD 0=x:=⟨_,rfl⟩
   have b0:G<4294967296:=by rw[←D];exact K.lt _
   have a1:H<4294967296:=by rw[←F];exact K.lt _
   obtain⟨b1,o1,a6,ax,az⟩:=K.ne (by omega)
   have U:=az (i+l) (by omega)
   rw[D]at U
   have dA:wr.cell? ⟨b1,o1+(i+l),none⟩=some (.int .u32 (G:Int)):=by rw[d.cell (p:=⟨b1,o1+(i+l),none⟩) ax];exact U
   have cA:=K.below d
   have dS:=u.cell i (by omega)
   have fS:=u.free i
   generalize a7:S[i]?.getD 0=s at*
   have am:=ac (uH O S i G H (by omega) D F hv.out)
   have a2:=ac F
   have HR:=ac u
   clear D F az U u hv a7 O Q
   have a9:(i:Int)+(l:Int)<(A.length:Int):=by omega
   have ba:(0:Int)≤(i:Int)+(l:Int):=by omega
   have bb:(i:Int)<(n:Int):=by omega
   subst a6
   go_wp2
   go_quiet ((go_at_call 285;exact jr (ir (some ⟨b1,o1,none⟩) ca A _ (i+l+1) H _ (cA.below (below_drewN (Below.refl _ _) _)) (by omega) (by omega) a2)))
   go_wp2
   have e:=BR G H p b0 a1
   have r1:=((uH HR).drewN nq).set i (((G+4294967296*H)/2^p)%4294967296)
   rw[←e]at r1
   have an:((G+4294967296*H)/2^p)%4294967296<4294967296:=Nat.mod_lt _ (by decide)
   go_roundw
   case rel=>exact⟨i+1,_,by omega,by go_num,r1,by simpa using X,hf.set _ _ an,(below_drewN d nq).setCell (by simp) _,uH am⟩
   case measure=>simp[intOf];omega
  ·have ar:=uH Q S (by omega) (by rw[X,show n=i by omega];exact hv.out)
   have HV:=ac ar
   have HR:=ac u
   clear ar hv u O Q
   go_wp2
   go_ret
   exact⟨some ⟨w.heap.size,0,none⟩,n,S,by rw[X];rfl,(uH HR).limbs hf _ (by omega),.inr ⟨_,_,rfl,Nat.le_refl _⟩,by omega,uH HV,d⟩
attribute [local go_sem ↓] Go.wp_at_zero Go.wp_at_succ
def sg(neg:Bool)(v:Nat):Int:=if neg then-(v:Int)else(v:Int)
theorem dN(neg:Bool)(L:List Nat):af neg L=sg neg (aj L):=rfl
def qa(neg:Bool)(L:List Nat)(n:Int):Int:=sg neg (if 0≤n then aj L*2^n.toNat else aj L/2^(-n).toNat)
def mD(neg:Bool)(L:List Nat)(n:Int):Bool:=aw neg L&&decide (-16384≤n∧n≤16384)
def vT(neg:Bool)(L:List Nat)(n:Int):Int:=if mD neg L n then bJ (qa neg L n)else if aw neg L then 2 else 1
def tP(neg:Bool)(L:List Nat)(n:Int):Int:=if mD neg L n then dP (qa neg L n)else 0
theorem Jv(neg:Bool)(A L:List Nat)(l p:Nat)(n:Int)(d:n=32*(l:Int)+(p:Int))(h:aj L=4294967296^l*2^p*aj A):af neg L=qa neg A n:=by
 rw[dN,h,ku]
 unfold qa
 rw[if_pos (by omega),show n.toNat=32*l+p by omega,Nat.mul_comm]
theorem BT(neg:Bool)(A L:List Nat)(l p:Nat)(n:Int)(d:n<0)(u:-n=32*(l:Int)+(p:Int))(h:aj L=aj A/(4294967296^l*2^p)):af neg L=qa neg A n:=by
 rw[dN,h,ku]
 unfold qa
 rw[if_neg (by omega),show(-n).toNat=32*l+p by omega]
theorem iA(d:Bool)(H:Option Addr)(I:Nat)(A:List Nat)(n:Int)(w:World)(hA:ag w H I A)(la:A.length≤35184372088830)(bn:-9223372036854775808≤n∧n≤9223372036854775807):
  Calls Tryz.prog 238 #[.agg #[.bool d,.slice H A.length I],.int .i64 n] w fun e F=>∃v,e=.returned (.tuple #[v,.int .i64 (vT d A n)])∧au w.heap.size F v (tP d A n)∧Below w.heap.size w F:=by
 have az:aw d A=false→eQ d A=1∧vT d A n=1∧tP d A n=0:=fun h=>by simp[eQ,vT,tP,mD,h]
 have aI:aw d A=true→¬(-16384≤n∧n≤16384)→eQ d A=0∧vT d A n=2∧tP d A n=0:=fun h h'=>by simp only[eQ,vT,tP,mD,h,decide_eq_false h'];simp
 have a0:aw d A=true→(-16384≤n∧n≤16384)→eQ d A=0∧A.length≤512∧vT d A n=bJ (qa d A n)∧tP d A n=dP (qa d A n):=fun h h'=>by
  refine⟨by simp[eQ,h],(ay h).1,?_,?_⟩
  ·unfold vT mD;rw[h,decide_eq_true h',Bool.and_self,if_pos rfl]
  ·unfold tP mD;rw[h,decide_eq_true h',Bool.and_self,if_pos rfl]
 have a1:=fun(L:List Nat) (l p:Nat)=>Jv d A L l p n
 have a3:=fun(L:List Nat) (l p:Nat)=>BT d A L l p n
 have Z:=ac az;have aa:=ac aI;have ae:=ac a0;have K:=ac a1;have O:=ac a3
 have a4:=fun F h'=>eC d H I A F h' la
 have a5:=ac a4
 clear az aI a0 a1 a3 a4
 generalize qa d A n=z at*
 generalize vT d A n=er at*
 generalize tP d A n=nu at*
 generalize eQ d A=ck at*
 generalize aw d A=rb at*
 go_enter Tryz.func238,Tryz.ntmps238
 go_wp2_with fail
 have ah:Below w.heap.size w ((w.alloc (.cells #[.bool d,.slice H A.length I] 33)).alloc (.cells #[.bool false,.slice none 0 0] 33)):=((Below.refl _ _).alloc (Nat.le_refl _) _).alloc (by simp) _
 refine(uH a5 _ (hA.below ah)).mono ?_
 rintro e w1 ⟨rfl,D⟩
 have ba:w.heap.size+2≤w1.heap.size:=by have:=D.size;simpa using this
 have u:Below w.heap.size w w1:=ah.trans (D.mono (by simp;omega))
 have x0:aB w1 w.heap.size (.bool d) (.slice H A.length I):=((aB.new _ _ _).old _).below D (by simp;omega)
 have J:aB w1 (w.heap.size+1) (.bool false) (.slice none 0 0):=by
  have:=aB.new (w.alloc (.cells #[.bool d,.slice H A.length I] 33)) (.bool false) (.slice none 0 0)
  exact aB.below (by simpa using this) D (by simp)
 have p0:=x0.c0;have p1:=x0.c1
 clear D ah a5
 cases rb
 ·obtain⟨c1,G,c3⟩:=uH Z rfl
  have Y:=ac (And.intro G c3)
  rw[c1]
  have y0:=J.c0;have y1:=J.c1;have f0:=J.free 0;have f1:=J.free 1
  clear Z aa ae K O c1 G c3
  go_wp2
  refine bodyPost_ret (v:=.tuple #[.agg #[.bool false,.slice none 0 0],.int .i64 1]) (by simp[results,Tryz.results238,go_sem,y0,y1]) rfl ⟨.agg #[.bool false,.slice none 0 0],by rw[(uH Y).1],by rw[(uH Y).2];exact au.zero _ _ _ _,?_⟩
  exact(u.setCell (by simp) _).setCell (by simp) _
 by_cases am:-16384≤n∧n≤16384
 case neg=>
  obtain⟨c1,G,c3⟩:=uH aa rfl am
  have Y:=ac (And.intro G c3)
  rw[c1]
  have y0:=J.c0;have y1:=J.c1;have f0:=J.free 0;have f1:=J.free 1
  clear Z aa ae K O c1 G c3
  rcases(show n< -16384∨(¬n< -16384∧16384<n) by omega)with hx|⟨hx,bg⟩
  all_goals
   go_wp2
   refine bodyPost_ret (v:=.tuple #[.agg #[.bool false,.slice none 0 0],.int .i64 2]) (by simp[results,Tryz.results238,go_sem,y0,y1]) rfl ⟨.agg #[.bool false,.slice none 0 0],by rw[(uH Y).1],by rw[(uH Y).2];exact au.zero _ _ _ _,?_⟩
   exact(u.setCell (by simp) _).setCell (by simp) _
 obtain⟨c1,c4,G,c3⟩:=uH ae rfl am
 have Y:=ac (And.intro G c3)
 rw[c1]
 obtain⟨bd,be⟩:=am
 clear Z aa ae c1 G c3
 by_cases a6:n<0
 ·obtain⟨l,hl⟩:∃l:Nat,(l:Int)=(-n)/32:=⟨((-n)/32).toNat,by omega⟩
  obtain⟨p,hp⟩:∃p:Nat,(p:Int)=(-n)%32:=⟨((-n)%32).toNat,by omega⟩
  have q1:-n=32*(l:Int)+(p:Int):=by omega
  have an:=ac (fun L h=>uH O L l p a6 q1 h)
  have q2:p≤31:=by omega
  have q3:l≤512:=by omega
  have q4:n= -(32*(l:Int)+(p:Int)):=by omega
  have Q4:=ac q4
  have bb:IntKind.i64.wrap (-n)= -n:=by
   simp only[IntKind.wrap,IntKind.signed,IntKind.bits]
   simp
   omega
  clear K O hl hp q1 q4
  go_wp2
  refine ap (fun W=>W=w1) rfl ?_
  rintro X e0
  subst e0
  have hK:∀F,Below (w.heap.size+1) X F→Below (w.heap.size+1) X F∧F.cell? ⟨w.heap.size,0,none⟩=some (.bool d)∧F.cell? ⟨w.heap.size,1,none⟩=some (.slice H A.length I):=fun F h=>
   ⟨h,(x0.below h (by omega)).c0,(x0.below h (by omega)).c1⟩
  have HK:=ac hK
  have HA:=ac (hA.below u)
  have X2:=ac J
  have ar:=ac u
  clear hK hA x0 J u p0 p1
  go_region_held3(fun F=>Below (w.heap.size+1) X F∧F.cell? ⟨w.heap.size,0,none⟩=some (.bool d)∧F.cell? ⟨w.heap.size,1,none⟩=some (.slice H A.length I))
   (first|exact uH HK _ (Below.refl _ _).drew|exact uH HK _ (by assumption)|exact uH HK _ ((Q.setCell (by simp) _).setCell (by simp) _))
   (first|(go_at_call 267;refine(p9 H I A l p _ _ ((uH HA).below ((Below.refl _ _).drew)) (by omega) (by have:=uH Q4;omega) (by omega) (by omega)).mono ?_;rintro e w3 ⟨a9,a7,L',rfl,g1,g2,g3,g4,D⟩;have ax:Below (w.heap.size+1) X w3:=((Below.refl _ _).drew).trans (D.mono (by simp;omega));have X3:=ac ((uH X2).drew.below D (by simp;omega));have G1:=ac g1;have G2:=ac g2;have G4:=ac g4;have L4:L'.length≤35184372088832:=(by omega);have s1:=D.size;clear g1 g2 g4 g3 D)|(go_at_call 266;refine(jP _ d _ _ _ _ (uH G1) (uH G2) L4).mono ?_;rintro e w4 ⟨v,rfl,⟨n2,a2,G,L2,rfl,i1⟩,u⟩;have Q:Below (w.heap.size+1) X w4:=ax.trans (u.mono (by simp at s1;omega));have U:=(uH X3).below u (by simp at s1;omega);have y0:=U.c0;have y1:=U.c1;have f0:=U.free 0;have f1:=U.free 1;have I1:=ac i1;clear i1 u U))
  have hz:=uH an L' (uH G4)
  have HI:=ac (hz▸uH I1)
  have HE:=ac (show bJ (af d L')=bJ z by rw[hz])
  clear hz
  go_wp2
  refine bodyPost_ret (v:=.tuple #[.agg #[.bool n2,.slice a2 L2.length G],.int .i64 (bJ (af d L'))]) (by simp[results,Tryz.results238,go_sem,y0,y1]) rfl ⟨.agg #[.bool n2,.slice a2 L2.length G],?_,?_,?_⟩
  ·rw[(uH Y).1,uH HE]
  ·rw[(uH Y).2];exact au.stored (uH HI) (by simp;omega) (by simp;omega) (by simp;omega) _ _
  ·exact(((uH ar).trans (Q.mono (by omega))).setCell (by simp) _).setCell (by simp) _
 ·obtain⟨l,hl⟩:∃l:Nat,(l:Int)=n/32:=⟨(n/32).toNat,by omega⟩
  obtain⟨p,hp⟩:∃p:Nat,(p:Int)=n%32:=⟨(n%32).toNat,by omega⟩
  have q1:n=32*(l:Int)+(p:Int):=by omega
  have an:=ac (fun L h=>uH K L l p q1 h)
  have q2:p≤31:=by omega
  have q3:l≤512:=by omega
  have Q4:=ac q1
  clear K O hl hp q1
  go_wp2
  refine ap (fun W=>W=w1) rfl ?_
  rintro X e0
  subst e0
  have hK:∀F,Below (w.heap.size+1) X F→Below (w.heap.size+1) X F∧F.cell? ⟨w.heap.size,0,none⟩=some (.bool d)∧F.cell? ⟨w.heap.size,1,none⟩=some (.slice H A.length I):=fun F h=>
   ⟨h,(x0.below h (by omega)).c0,(x0.below h (by omega)).c1⟩
  have HK:=ac hK
  have HA:=ac (hA.below u)
  have X2:=ac J
  have ar:=ac u
  clear hK hA x0 J u p0 p1
  go_region_held3(fun F=>Below (w.heap.size+1) X F∧F.cell? ⟨w.heap.size,0,none⟩=some (.bool d)∧F.cell? ⟨w.heap.size,1,none⟩=some (.slice H A.length I))
   (first|exact uH HK _ (Below.refl _ _).drew|exact uH HK _ (by assumption)|exact uH HK _ ((Q.setCell (by simp) _).setCell (by simp) _))
   (first|(go_at_call 268;refine(tO H I A l p _ _ ((uH HA).below ((Below.refl _ _).drew)) (by omega) (by have:=uH Q4;omega) (by omega) (by omega)).mono ?_;rintro e w3 ⟨a9,a7,L',rfl,g1,g2,g3,g4,D⟩;have ax:Below (w.heap.size+1) X w3:=((Below.refl _ _).drew).trans (D.mono (by simp;omega));have X3:=ac ((uH X2).drew.below D (by simp;omega));have G1:=ac g1;have G2:=ac g2;have G4:=ac g4;have L4:L'.length≤35184372088832:=(by omega);have s1:=D.size;clear g1 g2 g4 g3 D)|(go_at_call 266;refine(jP _ d _ _ _ _ (uH G1) (uH G2) L4).mono ?_;rintro e w4 ⟨v,rfl,⟨n2,a2,G,L2,rfl,i1⟩,u⟩;have Q:Below (w.heap.size+1) X w4:=ax.trans (u.mono (by simp at s1;omega));have U:=(uH X3).below u (by simp at s1;omega);have y0:=U.c0;have y1:=U.c1;have f0:=U.free 0;have f1:=U.free 1;have I1:=ac i1;clear i1 u U))
  have hz:=uH an L' (uH G4)
  have HI:=ac (hz▸uH I1)
  have HE:=ac (show bJ (af d L')=bJ z by rw[hz])
  clear hz
  go_wp2
  refine bodyPost_ret (v:=.tuple #[.agg #[.bool n2,.slice a2 L2.length G],.int .i64 (bJ (af d L'))]) (by simp[results,Tryz.results238,go_sem,y0,y1]) rfl ⟨.agg #[.bool n2,.slice a2 L2.length G],?_,?_,?_⟩
  ·rw[(uH Y).1,uH HE]
  ·rw[(uH Y).2];exact au.stored (uH HI) (by simp;omega) (by simp;omega) (by simp;omega) _ _
  ·exact(((uH ar).trans (Q.mono (by omega))).setCell (by simp) _).setCell (by simp) _
end Go.Proofs.YtcbcmlaogehimaaGreatDoor
namespace Go.Proofs.YtcbcmlaogehimaaGreatDoor
open Go.RowKit
theorem rB(ao bo:Option Addr)(ca cb:Nat)(A B:List Nat)(w:World)(hA:ag w ao ca A)(hB:ag w bo cb B)(la:A.length≤1073741824)(lb:B.length≤1073741824):
  Calls Tryz.prog 297 #[.slice ao A.length ca,.slice bo B.length cb] w fun e w'=>∃aa O L',e=.returned (.slice aa L'.length O)∧ag w' aa O L'∧bI w.heap.size aa L'∧L'.length=A.length+B.length∧aj L'=aj A*aj B∧Below w.heap.size w w':=by
 obtain⟨i0,hi,F,bp,bs⟩:=info_parts Tryz.info84
 obtain⟨n,hn⟩:∃n,n=A.length+B.length:=⟨_,rfl⟩
 have HN:=ac hn
 have n1:n≤2147483648:=by omega
 have n2:A.length+B.length≤n:=by omega
 clear hn
 go_enter Tryz.func297,Tryz.ntmps297
 go_wp2_with(at_make;have hn:=uH HN;refine wpList_make_full _ rfl _ _ 31 rfl w.heap.size 84 i0 (.int .u32 0) 1 Tryz.underlying31 hi F bp .i64 .i64 _ _ n rfl rfl (by omega) (by omega) (by rw[bs];omega) (by unfold maxLen;omega) (Nat.le_refl _) ?_;clear hn;intro w1 Z I)
 have U:=bW.made Z
 have aI:Below w.heap.size w w1:=(Below.refl _ _).grown I (Nat.le_refl _) (fun k h=>by simp at h)
 clear Z I
 go_wp2
 go_loopw[17] (fun c wr=>∃(i:Nat) (P:List Nat),i≤A.length∧c=.int .i64 i∧bW wr w.heap.size P∧P.length=n∧bm P∧Below w.heap.size w wr∧Hid (aj P=aj (A.take i)*aj B)∧Hid (∀j,i+B.length≤j→P[j]?.getD 0=0))
  (fun c _=>A.length-(intOf c).toNat)
 case atStart=>
  refine⟨0,List.replicate n 0,Nat.zero_le _,rfl,U,by simp,bm.zeros _,aI,?_,?_⟩
  ·unfold Hid
   have:∀k,aj (List.replicate k 0)=0:=by intro k;induction k with|zero=>rfl|succ k ih=>simp[List.replicate_succ,aj,ih]
   rw[this];simp[aj]
  ·intro j _
   rw[List.getElem?_replicate];split<;>rfl
 case round=>
  obtain⟨i,P,b3,rfl,hr,ax,hf,Y,hv,K⟩:=hrel
  by_cases a0:i<A.length
  ·obtain⟨x,hx⟩:∃x,A[i]?.getD 0=x:=⟨_,rfl⟩
   have bx:x<4294967296:=by rw[←hx];exact hA.lt i
   obtain⟨b1,o1,bv,a7,a9⟩:=hA.ne (by omega)
   have ae:=a9 i a0
   rw[hx]at ae
   have HX:=ac hx
   have a1:=ac ae
   have HR:=ac hr
   have bR:=ac a0
   clear hx a9 ae hr U aI
   subst bv
   have bA:(i:Int)<(A.length:Int):=by omega
   go_wp2
   go_loopw[7,22] (fun c k wq=>∃(y:Nat) (d:Nat) (Q:List Nat),d≤B.length∧k=.int .i64 d∧c=.int .u64 y∧y<4294967296∧bW wq w.heap.size Q∧Q.length=n∧bm Q∧Below w.heap.size w wq∧Hid (aj Q+4294967296^(i+d)*y=aj (A.take i)*aj B+4294967296^i*x*aj (B.take d))∧Hid (∀j,i+B.length≤j→Q[j]?.getD 0=0))
    (fun _ k _=>B.length-(intOf k).toNat)
   case atStart=>exact⟨0,0,P,Nat.zero_le _,rfl,rfl,by omega,uH HR,ax,hf,Y,by unfold Hid;simp[aj];exact hv.out,K⟩
   case round=>
    obtain⟨y,d,Q,b4,rfl,rfl,hy,u,ba,az,L,G,H⟩:=hrel
    by_cases be:d<B.length
    ·obtain⟨z,hz⟩:∃z,B[d]?.getD 0=z:=⟨_,rfl⟩
     have bz:z<4294967296:=by rw[←hz];exact hB.lt d
     obtain⟨q,hq⟩:∃q,Q[i+d]?.getD 0=q:=⟨_,rfl⟩
     obtain⟨b2,o2,bw,bb,bd⟩:=hB.ne (by omega)
     have ah:=bd d be
     rw[hz]at ah
     have bq:q<4294967296:=by
      rw[←hq]
      by_cases hh:i+d<Q.length
      ·rw[List.getElem?_eq_getElem hh];exact az _ (List.getElem_mem hh)
      ·rw[List.getElem?_eq_none (by omega)];decide
     have dA:wr.cell? ⟨b1,o1+i,none⟩=some (.int .u32 (x:Int)):=by rw[L.cell (p:=⟨b1,o1+i,none⟩) a7];exact uH a1
     have dB:wr.cell? ⟨b2,o2+d,none⟩=some (.int .u32 (z:Int)):=by rw[L.cell (p:=⟨b2,o2+d,none⟩) bb];exact ah
     have dQ:=u.cell (i+d) (by omega)
     rw[hq]at dQ
     have fQ:=u.free (i+d)
     have bg:=vX x z bx bz
     obtain⟨bE,bG⟩:=yi x z bx bz
     have a2:=BC B Q (aj (A.take i)*aj B) x i d y z q (by omega) hz hq G.out
     have D:∀j,i+B.length≤j→(Q.set (i+d) ((y+(x*z+q))%4294967296))[j]?.getD 0=0:=fun j hj=>by rw[gj _ _ _ _ (by omega)];exact H.out j hj
     have bi:=ac a2
     have am:=ac D
     have an:=ac u
     obtain⟨ec,ed⟩:=zF x y z q
     have EC:=ac ec
     have ED:=ac ed
     have a3:(y+(x*z+q))/4294967296<4294967296:=by omega
     have BY:=ac a3
     clear a2 D u ec ed hz hq bd ah G H a3 bg hv K
     subst bw
     have b0:(d:Int)<(B.length:Int):=by omega
     have bn:(i:Int)+(d:Int)<(n:Int):=by omega
     go_wp2
     go_quiet (fail)
     go_wp2
     have J:=((uH an).drewN nq).set (i+d) ((y+(x*z+q))%4294967296)
     rw[uH EC]at J
     go_roundw
     case rel=>exact⟨(y+(x*z+q))/4294967296,d+1,Q.set (i+d) ((y+(x*z+q))%4294967296),by omega,by go_num,cL (uH ED).symm,uH BY,J,by simpa using ba,az.set _ _ (by omega),(below_drewN L nq).setCell (by simp) _,uH bi,uH am⟩
     case measure=>simp[intOf];omega
    ·have a4:d=B.length:=by omega
     rw[a4]at G
     have F:=H.out (i+B.length) (by omega)
     have X:=FB A B Q x i y (by omega) (uH HX) F G.out
     have D:∀j,i+1+B.length≤j→(Q.set (i+B.length) y)[j]?.getD 0=0:=fun j hj=>by rw[gj _ _ _ _ (by omega)];exact H.out j (by omega)
     have dQ:=u.cell (i+B.length) (by omega)
     rw[F]at dQ
     have fQ:=u.free (i+B.length)
     have a5:=ac X
     have am:=ac D
     have an:=ac u
     have bn:(i:Int)+(B.length:Int)<(n:Int):=by omega
     clear X D u G H F a4 hv K a1
     go_wp2
     have J:=(uH an).set (i+B.length) y
     go_roundw
     case rel=>exact⟨i+1,Q.set (i+B.length) y,by omega,by go_num,J,by simpa using ba,az.set _ _ hy,L.setCell (by simp) _,uH a5,uH am⟩
     case measure=>simp[intOf];omega
  ·have a6:i=A.length:=by omega
   have ar:=hv.out
   rw[a6,List.take_length]at ar
   have HV:=ac ar
   have HR:=ac hr
   clear ar hv K hr a6
   go_wp2
   go_ret
   exact⟨some ⟨w.heap.size,0,none⟩,n,P,by rw[ax];rfl,(uH HR).limbs hf _ (by omega),.inr ⟨_,_,rfl,Nat.le_refl _⟩,by rw[ax];exact uH HN,uH HV,Y⟩
attribute [local go_sem ↓] Go.wp_at_zero Go.wp_at_succ
theorem F4(A B:List Nat)(d:bT A)(cB:bT B)(H:A.length≤512)(I:B.length≤512)(h:512<A.length+B.length-1):¬aj A*aj B<du:=by
 have u:A≠ []:=by rintro rfl;simp at h;omega
 have z:B≠ []:=by rintro rfl;simp at h;omega
 have D:=mt A (d.resolve_left u)
 have F:=mt B (cB.resolve_left z)
 have G:=Nat.mul_le_mul D F
 rw[←Nat.pow_add]at G
 have J:du≤4294967296^(A.length-1+(B.length-1)):=by
  unfold du
  exact Nat.pow_le_pow_right (by decide) (show mu≤A.length-1+(B.length-1) by unfold mu;omega)
 omega
theorem F5(u D:Bool)(I J:Option Addr)(K O:Nat)(A B:List Nat)(w:World)(hA:ag w I K A)(hB:ag w J O B)(la:A.length≤35184372088830)(lb:B.length≤35184372088830):
  Calls Tryz.prog 291 #[.agg #[.bool u,.slice I A.length K],.agg #[.bool D,.slice J B.length O]] w fun e G=>∃v,e=.returned (.tuple #[v,.int .i64 (qI (aw u A&&aw D B) (af u A*af D B))])∧au w.heap.size G v (qJ (aw u A&&aw D B) (af u A*af D B))∧Below w.heap.size w G:=by
 have hC:(aw u A&&aw D B)=true→bT A∧bT B:=fun h=>by
  simp only[Bool.and_eq_true]at h;exact⟨(ay h.1).2.1,(ay h.2).2.1⟩
 have hL:(aw u A&&aw D B)=true→A.length≤512∧B.length≤512∧(512<A.length+B.length-1→bJ (af u A*af D B)=2∧dP (af u A*af D B)=0):=fun h=>by
  simp only[Bool.and_eq_true]at h
  have r1:=ay h.1
  have H:=ay h.2
  refine⟨r1.1,H.1,fun hb=>?_⟩
  have aa:¬(af u A*af D B).natAbs<du:=by
   rw[Int.natAbs_mul,aQ,aQ]
   exact F4 A B r1.2.1 H.2.1 r1.1 H.1 hb
  constructor
  ·unfold bJ;rw[if_neg aa]
  ·unfold dP;rw[if_neg aa]
 have ae:∀L:List Nat,aj L=aj A*aj B→af (u != D) L=af u A*af D B:=by
  intro L h;unfold af;rw[h];cases u<;>cases D<;>simp[Int.neg_mul,Int.mul_neg]
 have HC:=ac hC
 have HL:=ac hL
 have an:=ac ae
 clear hL ae
 have H2:=ac (show wu u A D B=if(aw u A&&aw D B)then 0 else 1 from rfl)
 clear hC
 generalize az:(aw u A&&aw D B)=ok at*
 generalize af u A*af D B=z at*
 clear az
 go_enter Tryz.func291,Tryz.ntmps291
 go_wp2_with fail
 have X:Below w.heap.size w (((w.alloc (.cells #[.bool u,.slice I A.length K] 33)).alloc (.cells #[.bool D,.slice J B.length O] 33)).alloc (.cells #[.bool false,.slice none 0 0] 33)):=
  (((Below.refl _ _).alloc (Nat.le_refl _) _).alloc (by simp) _).alloc (by simp;omega) _
 refine(kg u D I J K O A B _ (hA.below X) (hB.below X) la lb).mono ?_
 rintro e U ⟨rfl,d⟩
 have a0:w.heap.size+3≤U.heap.size:=by have:=d.size;simpa using this
 have F:Below w.heap.size w U:=X.trans (d.mono (by simp;omega))
 have p0:U.cell? ⟨w.heap.size,0,none⟩=some (.bool u):=by rw[d.cell (p:=⟨w.heap.size,0,none⟩) (by simp;omega)];simp[go_sem]
 have p1:U.cell? ⟨w.heap.size,1,none⟩=some (.slice I A.length K):=by rw[d.cell (p:=⟨w.heap.size,1,none⟩) (by simp;omega)];simp[go_sem]
 have q0:U.cell? ⟨w.heap.size+1,0,none⟩=some (.bool D):=by rw[d.cell (p:=⟨w.heap.size+1,0,none⟩) (by simp)];simp[go_sem]
 have q1:U.cell? ⟨w.heap.size+1,1,none⟩=some (.slice J B.length O):=by rw[d.cell (p:=⟨w.heap.size+1,1,none⟩) (by simp)];simp[go_sem]
 have H:aB U (w.heap.size+2) (.bool false) (.slice none 0 0):=by
  have:=aB.new ((w.alloc (.cells #[.bool u,.slice I A.length K] 33)).alloc (.cells #[.bool D,.slice J B.length O] 33)) (.bool false) (.slice none 0 0)
  exact aB.below (by simpa using this) d (by simp)
 have PA:Hid (aB U w.heap.size (.bool u) (.slice I A.length K)):=(((aB.new _ _ _).old _).old _).below d (by simp;omega)
 have PB:Hid (aB U (w.heap.size+1) (.bool D) (.slice J B.length O)):=by
  have:=(aB.new (w.alloc (.cells #[.bool u,.slice I A.length K] 33)) (.bool D) (.slice J B.length O)).old (.cells #[.bool false,.slice none 0 0] 33)
  exact aB.below (by simpa using this) d (by simp)
 rw[uH H2]
 clear d H2 X
 cases ok
 ·simp only[Bool.false_eq_true,if_false]
  have y0:=H.c0;have y1:=H.c1;have f0:=H.free 0;have f1:=H.free 1
  go_wp2
  refine bodyPost_ret (v:=.tuple #[.agg #[.bool false,.slice none 0 0],.int .i64 1]) (by simp[results,Tryz.results291,go_sem,y0,y1]) rfl ⟨.agg #[.bool false,.slice none 0 0],by rw[nj],by rw[nm];exact au.zero _ _ _ _,?_⟩
  exact(F.setCell (by simp;omega) _).setCell (by simp;omega) _
 ·obtain⟨cA,cB⟩:=uH HC rfl
  obtain⟨l1,l2,Y⟩:=uH HL rfl
  have Q:=ac Y
  clear cA cB Y HC HL
  simp only[if_true]
  by_cases ah:512<A.length+B.length-1
  ·have hE:=ac (uH Q ah)
   have y0:=H.c0;have y1:=H.c1;have f0:=H.free 0;have f1:=H.free 1
   have Z:(512:Int)<(A.length:Int)+(B.length:Int)-1:=by omega
   clear Q
   go_wp2
   refine bodyPost_ret (v:=.tuple #[.agg #[.bool false,.slice none 0 0],.int .i64 2]) (by simp[results,Tryz.results291,go_sem,y0,y1]) rfl ⟨.agg #[.bool false,.slice none 0 0],by rw[gP,(uH hE).1],by rw[gQ,(uH hE).2];exact au.zero _ _ _ _,?_⟩
   exact(F.setCell (by simp;omega) _).setCell (by simp;omega) _
  have Z:¬(512:Int)<(A.length:Int)+(B.length:Int)-1:=by omega
  clear Q
  go_wp2
  refine ap (fun W=>W=U) rfl ?_
  rintro W0 e0
  subst e0
  have x0:aB W0 w.heap.size (.bool u) (.slice I A.length K):=uH PA
  have x1:aB W0 (w.heap.size+1) (.bool D) (.slice J B.length O):=uH PB
  have hK:∀G,Below (w.heap.size+2) W0 G→Below (w.heap.size+2) W0 G∧G.cell? ⟨w.heap.size,0,none⟩=some (.bool u)∧G.cell? ⟨w.heap.size+1,0,none⟩=some (.bool D)∧G.cell? ⟨w.heap.size,1,none⟩=some (.slice I A.length K)∧G.cell? ⟨w.heap.size+1,1,none⟩=some (.slice J B.length O):=fun G h=>
   ⟨h,(x0.below h (by omega)).c0,(x1.below h (by omega)).c0,(x0.below h (by omega)).c1,(x1.below h (by omega)).c1⟩
  have HK:=ac hK
  have HA:=ac (hA.below F)
  have HB:=ac (hB.below F)
  have X2:=ac H
  have ar:=ac F
  clear hK hA hB x0 x1 H F p0 p1 q0 q1 PA PB
  go_region_held3(fun G=>Below (w.heap.size+2) W0 G∧G.cell? ⟨w.heap.size,0,none⟩=some (.bool u)∧G.cell? ⟨w.heap.size+1,0,none⟩=some (.bool D)∧G.cell? ⟨w.heap.size,1,none⟩=some (.slice I A.length K)∧G.cell? ⟨w.heap.size+1,1,none⟩=some (.slice J B.length O))
   (first|exact uH HK _ (Below.refl _ _).drew|exact uH HK _ (by assumption)|exact uH HK _ ((am.setCell (by simp) _).setCell (by simp) _))
   (first|(go_at_call 297;refine(rB I J K O A B _ ((uH HA).below ((Below.refl _ _).drew)) ((uH HB).below ((Below.refl _ _).drew)) (by omega) (by omega)).mono ?_;rintro e w3 ⟨a1,aI,L',rfl,g1,g2,g3,g4,d⟩;have ax:Below (w.heap.size+2) W0 w3:=((Below.refl _ _).drew).trans (d.mono (by simp;omega));have X3:=ac ((uH X2).drew.below d (by simp;omega));have G1:=ac g1;have G2:=ac g2;have G4:=ac g4;have L4:L'.length≤35184372088832:=(by omega);have s1:=d.size;clear g1 g2 g4 g3 d)|(go_at_call 266;refine(jP _ (u != D) _ _ _ _ (uH G1) (uH G2) L4).mono ?_;rintro e w4 ⟨v,rfl,⟨n2,a2,c2,L2,rfl,i1⟩,F⟩;have am:Below (w.heap.size+2) W0 w4:=ax.trans (F.mono (by simp at s1;omega));have X4:=(uH X3).below F (by simp at s1;omega);have y0:=X4.c0;have y1:=X4.c1;have f0:=X4.free 0;have f1:=X4.free 1;have I1:=ac i1;clear i1 F X4))
  have hz:=uH an L' (uH G4)
  have HI:=ac (hz▸uH I1)
  have HE:=ac (show bJ (af (u != D) L')=bJ z by rw[hz])
  clear hz
  go_wp2
  refine bodyPost_ret (v:=.tuple #[.agg #[.bool n2,.slice a2 L2.length c2],.int .i64 (bJ (af (u != D) L'))]) (by simp[results,Tryz.results291,go_sem,y0,y1]) rfl ⟨.agg #[.bool n2,.slice a2 L2.length c2],?_,?_,?_⟩
  ·rw[gP,uH HE]
  ·rw[gQ];exact au.stored (uH HI) (by simp;omega) (by simp;omega) (by simp;omega) _ _
  ·exact(((uH ar).trans (am.mono (by omega))).setCell (by simp;omega) _).setCell (by simp;omega) _
end Go.Proofs.YtcbcmlaogehimaaGreatDoor
namespace Go.Proofs.YtcbcmlaogehimaaGreatDoor
open Go.RowKit
theorem jQ(w:World)(g:Nat)(a b:Int)(lo d:Nat)(h:w.heap.size=g)(u:a=(lo:Int))(z:b=(d:Int)):
  bW (w.alloc (.cells #[.int .u32 a,.int .u32 b] 84)) g [lo,d]:=by
 subst h;subst u;subst z
 exact heap_alloc_new w _
theorem BU(n:Int)(d:-9223372036854775808≤n)(h:n<0):IntKind.u64.wrap (-IntKind.u64.wrap n)= -n:=by
 simp only[IntKind.wrap,IntKind.signed,IntKind.bits]
 simp
 omega
theorem nO(m:Nat):aj [m%4294967296,m/4294967296]=m:=by simp only[aj];omega
theorem wy(n:Int)(w:World)(h0:-9223372036854775808≤n)(h1:n≤9223372036854775807):
  Calls Tryz.prog 207 #[.int .i64 n] w fun e J=>∃v,e=.returned v∧au w.heap.size J v n∧Below w.heap.size w J:=by
 obtain⟨m,u⟩:∃m,m=n.natAbs:=⟨_,rfl⟩
 have Z:bm [m%4294967296,m/4294967296]:=by intro x hx;simp at hx;omega
 have K:=ac Z
 have z:=ac u
 clear Z u
 by_cases hn:n<0
 ·have hw:=BU n h0 hn
  have L:=ac hw
  clear hw
  go_enter Tryz.func207,Tryz.ntmps207
  go_wp2_with fail
  have u:=uH z
  have D:=jQ (w.alloc (.cells #[.bool false,.slice none 0 0] 33)) (w.heap.size+1) (IntKind.u64.wrap (-IntKind.u64.wrap n)%4294967296) (IntKind.u64.wrap (-IntKind.u64.wrap n)/4294967296%4294967296) (m%4294967296) (m/4294967296) (by simp) (by rw[uH L];omega) (by rw[uH L];omega)
  refine(oF (some ⟨w.heap.size+1,0,none⟩) 2 [m%4294967296,m/4294967296] _ (D.limbs (uH K) 2 (by simp)) (by simp)).mono ?_
  rintro e J ⟨v,rfl,⟨h,d,A,rfl,F,G,Y,H,I⟩,rfl⟩
  have O:=ac H
  have Q:=ac F
  have U:=ac G
  have X:=ac I
  clear F G H I D u
  go_wp2
  refine bodyPost_ret (v:=.agg #[.bool true,.slice h A.length d]) (by simp[results,Tryz.results207,go_sem]) rfl ⟨.agg #[.bool true,.slice h A.length d],rfl,⟨true,h,d,A,rfl,uH O _ ?_,uH X _ (.inr ⟨_,_,rfl,by omega⟩),uH Q,by simp[hn],?_⟩,?_⟩
  ·refine(jQ _ (w.heap.size+1) _ _ _ _ (by simp) ?_ ?_).limbs (uH K) 2 (by simp)
   ·have u:=uH z;rw[uH L];omega
   ·have u:=uH z;rw[uH L];omega
  ·exact⟨by rw[uH U,nO];exact uH z,by simp at Y;omega⟩
  ·exact((Below.refl _ _).alloc (Nat.le_refl _) _).alloc (by simp) _
 ·go_enter Tryz.func207,Tryz.ntmps207
  go_wp2_with fail
  have u:=uH z
  have D:=jQ (w.alloc (.cells #[.bool false,.slice none 0 0] 33)) (w.heap.size+1) (n%4294967296) (n/4294967296) (m%4294967296) (m/4294967296) (by simp) (by omega) (by omega)
  refine(oF (some ⟨w.heap.size+1,0,none⟩) 2 [m%4294967296,m/4294967296] _ (D.limbs (uH K) 2 (by simp)) (by simp)).mono ?_
  rintro e J ⟨v,rfl,⟨h,d,A,rfl,F,G,Y,H,I⟩,rfl⟩
  have O:=ac H
  have Q:=ac F
  have U:=ac G
  have X:=ac I
  clear F G H I D u
  go_wp2
  refine bodyPost_ret (v:=.agg #[.bool false,.slice h A.length d]) (by simp[results,Tryz.results207,go_sem]) rfl ⟨.agg #[.bool false,.slice h A.length d],rfl,⟨false,h,d,A,rfl,uH O _ ?_,uH X _ (.inr ⟨_,_,rfl,by omega⟩),uH Q,by simp;omega,?_⟩,?_⟩
  ·refine(jQ _ (w.heap.size+1) _ _ _ _ (by simp) ?_ ?_).limbs (uH K) 2 (by simp)
   ·have u:=uH z;omega
   ·have u:=uH z;omega
  ·exact⟨by rw[uH U,nO];exact uH z,by simp at Y;omega⟩
  ·exact((Below.refl _ _).alloc (Nat.le_refl _) _).alloc (by simp) _
theorem au.right{B:Nat}{w:World}{v:Value}{x:Int}(h:au B w v x)(K:x.natAbs<du):
  ∃neg z d L,v=.agg #[.bool neg,.slice z L.length d]∧ag w z d L∧aw neg L=true∧af neg L=x∧L.length≤512:=by
 obtain⟨neg,z,d,L,rfl,D,O,F,G,J,Q⟩:=h
 have A:L.length≤512:=(dC L D.2.1 F).1 (by omega)
 refine⟨neg,z,d,L,rfl,D,?_,?_,A⟩
 ·have H:L.length=0→neg=false:=fun e=>by
   have:L= []:=List.length_eq_zero_iff.1 e
   subst this
   rw[G];simp[aj]at J;simp;omega
  have I:L.length=0∨L[L.length-1]?.getD 0≠0:=by
   rcases F with h|h
   ·left;rw[h];rfl
   ·exact .inr h
  simp only[aw,Bool.and_eq_true,decide_eq_true_eq,Bool.not_eq_true',Bool.and_eq_false_iff,decide_eq_false_iff_not,Bool.or_eq_true]
  refine⟨⟨A,?_⟩,I⟩
  by_cases e:L.length=0
  ·exact .inr (H e)
  ·exact .inl e
 ·unfold af
  rw[G]
  by_cases u:x<0
  ·simp[u];omega
  ·simp[u];omega
theorem F6{B h:Nat}{w:World}{v u:Value}{x y:Int}(z:au B w v x)(D:au h w u y)(F:x.natAbs<du)(G:y.natAbs<du):
  Calls Tryz.prog 295 #[v,u] w fun e d=>∃r,e=.returned (.tuple #[r,.int .i64 (bJ (x+y))])∧au w.heap.size d r (dP (x+y))∧Below w.heap.size w d:=by
 obtain⟨H,I,J,A,rfl,K,L,O,a4⟩:=z.right F
 obtain⟨Q,U,X,C,rfl,Y,Z,b3,b4⟩:=D.right G
 have:=F1 H Q I U J X A C w K Y (by omega) (by omega)
 rwa[L,Z,O,b3,Bool.and_self,gP,gQ]at this
theorem cz(x:Nat)(h:x<18446744073709551616):x<du:=by
 have:(4294967296^2:Nat)≤4294967296^mu:=Nat.pow_le_pow_right (by decide) (by decide)
 unfold du
 omega
theorem gq(x:Int)(h:x.natAbs<du):bJ x=0:=by unfold bJ;rw[if_pos h]
theorem gr(x:Int)(h:x.natAbs<du):dP x=x:=by unfold dP;rw[if_pos h]
end Go.Proofs.YtcbcmlaogehimaaGreatDoor
