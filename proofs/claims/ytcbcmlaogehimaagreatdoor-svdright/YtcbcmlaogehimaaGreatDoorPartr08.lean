/- Part 8 of the texts. -/
import Derived.Test.YtcbcmlaogehimaaGreatDoorPartr07
import Derived.Shelf.Spec.TrailingZeros
set_option maxHeartbeats 4000000
namespace Go.Proofs.YtcbcmlaogehimaaGreatDoor
open Go.RowKit
attribute [local go_sem ↓] Go.wp_at_zero Go.wp_at_succ
theorem pr(d:Option Addr)(h:Nat)(n:Int)(w:World):
  Calls Tryz.prog 111 #[.agg #[.bool false,.slice d 0 h],.int .i64 n] w fun e F=>∃v,e=.returned v∧au 0 F v 0∧Below w.heap.size w F:=by
 rcases(show(32≤n∧0<n∧¬n≤-32∧¬n<0)∨(¬32≤n∧0<n∧¬n≤-32∧¬n<0)∨(¬32≤n∧¬0<n∧¬n≤-32∧¬n<0)∨(¬32≤n∧¬0<n∧¬n≤-32∧n<0)∨(¬32≤n∧¬0<n∧n≤-32∧n<0) by omega)with⟨u,z,A,D⟩|⟨u,z,A,D⟩|⟨u,z,A,D⟩|⟨u,z,A,D⟩|⟨u,z,A,D⟩
 all_goals
  go_enter Tryz.func111,Tryz.ntmps111
  go_wp2
  go_loopw[1] (fun i wr=>i=.int .i64 n∧wr=(w.alloc (.cells #[.bool false,.slice d 0 h] 33)).alloc (.cells #[.bool false,.slice none 0 0] 33)) (fun _ _=>0)
  case atStart=>exact⟨rfl,rfl⟩
  case round=>
   obtain⟨rfl,rfl⟩:=hrel
   go_wp2
   go_loopw[1] (fun i wr=>i=.int .i64 n∧wr=(w.alloc (.cells #[.bool false,.slice d 0 h] 33)).alloc (.cells #[.bool false,.slice none 0 0] 33)) (fun _ _=>0)
   case atStart=>exact⟨rfl,rfl⟩
   case round=>
    obtain⟨rfl,rfl⟩:=hrel
    go_wp2
    go_loopw[1] (fun i wr=>i=.int .i64 n∧wr=(w.alloc (.cells #[.bool false,.slice d 0 h] 33)).alloc (.cells #[.bool false,.slice none 0 0] 33)) (fun _ _=>0)
    case atStart=>exact⟨rfl,rfl⟩
    case round=>
     obtain⟨rfl,rfl⟩:=hrel
     go_wp2
     go_loopw[1] (fun i wr=>i=.int .i64 n∧wr=(w.alloc (.cells #[.bool false,.slice d 0 h] 33)).alloc (.cells #[.bool false,.slice none 0 0] 33)) (fun _ _=>0)
     case atStart=>exact⟨rfl,rfl⟩
     case round=>
      obtain⟨rfl,rfl⟩:=hrel
      go_wp2
      refine bodyPost_ret (v:=.agg #[.bool false,.slice d 0 h]) (by simp[results,Tryz.results111,go_sem]) rfl ⟨.agg #[.bool false,.slice d 0 h],rfl,au.zero _ _ _ _,?_⟩
      exact((Below.refl _ _).alloc (Nat.le_refl _) _).alloc (by simp) _
theorem qE(d:Bool)(h:Option Addr)(u:Nat)(A:List Nat)(n:Int)(w:World)(F:ag w h u A)(G:av d A=true)(H:-16384≤n∧n≤16384):
  Calls Tryz.prog 111 #[.agg #[.bool d,.slice h A.length u],.int .i64 n] w fun e z=>∃v,e=.returned v∧au 0 z v (pn d A n)∧Below w.heap.size w z:=by
 have I:=ay G
 by_cases D:A= []
 ·subst D
  have:d=false:=by cases d<;>simp_all
  subst this
  have e:pn false [] n=0:=by rw[nd];simp[ai,nK,sg]
  rw[e]
  exact pr h u n w
 ·exact pp d h u A n w F D I.2.1 (by omega) H
end Go.Proofs.YtcbcmlaogehimaaGreatDoor
namespace Go.Proofs.YtcbcmlaogehimaaGreatDoor
open Go.RowKit
theorem sH(A S:List Nat)(x c y:Nat)(d:A[S.length]?.getD 0=y)(h:ai S+4294967296^S.length*c=ai (A.take S.length)*x):
  ai (S++[(y*x+c)%4294967296])+4294967296^(S.length+1)*((y*x+c)/4294967296)=ai (A.take (S.length+1))*x:=by
 rw[kv,aK A,d,Nat.add_mul]
 have e:=jd (4294967296^S.length) 4294967296 (y*x+c)
 rw[Nat.pow_succ]
 rw[Nat.mul_add,←Nat.mul_assoc]at e
 omega
theorem qG(x y c:Nat):(((y*x+c)%4294967296:Nat):Int)=((y:Int)*(x:Int)+(c:Int))%4294967296∧(((y*x+c)/4294967296:Nat):Int)=((y:Int)*(x:Int)+(c:Int))/4294967296:=by
 have e:((y*x:Nat):Int)=(y:Int)*(x:Int):=Int.natCast_mul y x
 rw[←e]
 omega
theorem vh(ao:Option Addr)(ca:Nat)(A:List Nat)(x:Nat)(w:World)(hA:ag w ao ca A)(bx:x<4294967296)(la:A.length≤1073741824):
  Calls Tryz.prog 108 #[.slice ao A.length ca,.int .u32 (x:Int)] w fun e w'=>∃I G L',e=.returned (.slice I L'.length G)∧ag w' I G L'∧bC w.heap.size I L'∧L'.length=A.length+1∧ai L'=ai A*x∧Below w.heap.size w w':=by
 obtain⟨i0,hi,an,ar,ax⟩:=info_parts Tryz.info84
 have aa:=fun(S:List Nat) (c y:Nat)=>sH A S x c y
 have ae:∀(S:List Nat) (c:Nat),S.length=A.length→ai S+4294967296^S.length*c=ai (A.take S.length)*x→ai (S++[c])=ai A*x:=by
  intro S c hl h
  rw[kv,h,hl,List.take_length]
 have K:=ac aa
 have L:=ac ae
 clear aa ae
 go_enter Tryz.func108,Tryz.ntmps108
 go_wp2
 go_loopw[5,6,7,8] (fun v c i _ wr=>∃(S:List Nat) (y:Nat),S.length≤A.length∧i=.int .i64 (S.length:Nat)∧c=.int .u64 y∧y<4294967296∧wr.ownsRow w.heap.size 84 1 v S.length (S.map dq)∧bh S∧Below w.heap.size w wr∧Hid (ai S+4294967296^S.length*y=ai (A.take S.length)*x))
  (fun _ _ i _ _=>A.length-(intOf i).toNat)
 case atStart=>
  refine⟨[],0,by simp,rfl,rfl,by omega,?_,by intro x hx;simp at hx,(Below.refl _ _).alloc (Nat.le_refl _) _,by unfold Hid;simp[ai]⟩
  exact World.ownsRow_made w #[] 0 (Nat.le_refl _) (by simp[maxLen]) (by simp)
 case round=>
  obtain⟨S,y,hk,rfl,rfl,hy,H,hf,F,hv⟩:=hrel
  by_cases a1:S.length<A.length
  ·obtain⟨z,hz⟩:∃z,A[S.length]?.getD 0=z:=⟨_,rfl⟩
   have bz:z<4294967296:=by rw[←hz];exact hA.lt _
   obtain⟨b1,o1,a6,az,aI⟩:=hA.ne (by omega)
   have N:=aI S.length a1
   rw[hz]at N
   have dA:wr.cell? ⟨b1,o1+S.length,none⟩=some (.int .u32 (z:Int)):=by rw[F.cell (p:=⟨b1,o1+S.length,none⟩) az];exact N
   have a2:=ac (uH K S y z hz hv.out)
   have a3:=uX z x bz bx
   obtain⟨a7,a9⟩:=wR z x bz bx
   obtain⟨ec,ed⟩:=qG x z y
   have ah:(z*x+y)/4294967296<4294967296:=by omega
   have EC:=ac ec;have ED:=ac ed;have BY:=ac ah
   have O:=F.size
   have HF:=ac hf
   clear hz hv K L hf aI N ec ed ah a3
   subst a6
   generalize a0:S.length=k at*
   have Q:=ac a0
   clear a0
   have a4:(k:Int)<(A.length:Int):=by omega
   go_wp2_with(at_builtin;refine wpList_append_own _ rfl _ _ 31 rfl w.heap.size 84 i0 (.int .u32 0) 1 4 Tryz.underlying31 hi an ar ax rfl (by decide) _ _ _ rfl (H.alloc _) ⟨wr.heap.size,0,none⟩ 1 1 [.int .u32 (((z:Int)*(x:Int)+(y:Int))%4294967296)] rfl rfl (cell_one_new _ _ _) (fun u hu=>by simp at hu;subst hu;rfl) (by unfold maxLen;omega) (by omega) (by simp;omega) ?_;intro v' w1 d D _;have U:Below w.heap.size w w1:=((F.alloc O _).grown D (by simp;omega) (fun g hg=>(H.lt g hg).1));have X:=ac (kA (x:=(z*x+y)%4294967296) d (uH EC).symm);clear d D)
   have a5:=uH a2
   have Y:(S++[(z*x+y)%4294967296]).length=k+1:=by simp[uH Q]
   go_roundw
   case rel=>exact⟨S++[(z*x+y)%4294967296],(z*x+y)/4294967296,by omega,by rw[Y];go_num,cG (uH ED).symm,uH BY,by rw[Y];exact uH X,(uH HF).snoc (Nat.mod_lt _ (by decide)),U,by rw[Y];exact a5⟩
   case measure=>simp[intOf];omega
  ·have Z:S.length=A.length:=by omega
   have J:=uH L S y Z hv.out
   have am:=ac J
   have Q:=ac Z
   have O:=F.size
   have HF:=ac (hf.snoc hy)
   clear J hv K L hf Z
   have a4:¬((S.length:Nat):Int)<(A.length:Int):=by omega
   go_wp2_with(at_builtin;refine wpList_append_own _ rfl _ _ 31 rfl w.heap.size 84 i0 (.int .u32 0) 1 4 Tryz.underlying31 hi an ar ax rfl (by decide) _ _ _ rfl (H.alloc _) ⟨wr.heap.size,0,none⟩ 1 1 [.int .u32 (y:Int)] rfl rfl (cell_one_new _ _ _) (fun u hu=>by simp at hu;subst hu;rfl) (by unfold maxLen;omega) (by omega) (by simp;omega) ?_;intro v' w1 d D _;have U:Below w.heap.size w w1:=((F.alloc O _).grown D (by simp;omega) (fun g hg=>(H.lt g hg).1));have X:=ac (kA (x:=y) d rfl);clear d D)
   obtain⟨I,G,e1,e2,e3,e4⟩:=ic (uH X) (uH HF)
   subst e1
   go_ret
   exact⟨I,G,S++[y],rfl,e2,e3,by have:=uH Q;simp;omega,uH am,U⟩
attribute [local go_sem ↓] Go.wp_at_zero Go.wp_at_succ
theorem Au(W:World):(W.alloc (.cells #[.int .u32 0] 84)).ownsRow W.heap.size 84 1 (.slice (some ⟨W.heap.size,0,none⟩) 1 1) 1 [.int .u32 0]:=
 ⟨by simp,.inr ⟨W.heap.size,1,#[.int .u32 0],rfl,Nat.le_refl _,heap_alloc_new W _,Nat.le_refl _,by simp[maxLen],by simp,by simp⟩⟩
theorem pt(B:List Nat)(k:Nat)(h:k<B.length):ai (B.drop k)=B[k]?.getD 0+4294967296*ai (B.drop (k+1)):=by
 rw[List.drop_eq_getElem_cons h]
 simp[ai,h]
theorem Av(d u:Bool)(A B S:List Nat)(h:ai S=ai A*ai B):af (d != u) S=af d A*af u B:=by
 unfold af
 rw[h]
 cases d<;>cases u<;>simp[Int.natCast_mul,Int.neg_mul,Int.mul_neg]
theorem nN(H I:Bool)(ao bo:Option Addr)(ca cb:Nat)(A B:List Nat)(w:World)(hA:ag w ao ca A)(hB:ag w bo cb B)(la:A.length≤1048576)(lb:B.length≤1048576):
  Calls Tryz.prog 54 #[.agg #[.bool H,.slice ao A.length ca],.agg #[.bool I,.slice bo B.length cb]] w fun e F=>∃v,e=.returned v∧au 0 F v (af H A*af I B)∧Below w.heap.size w F:=by
 obtain⟨i0,hi,bs,bv,bw⟩:=info_parts Tryz.info84
 have HZ:=ac (fun S=>Av H I A B S)
 generalize af H A*af I B=z at*
 go_enter Tryz.func54,Tryz.ntmps54
 go_wp2
 go_loopw[5,6,7] (fun v i _ wr=>∃(m b d J:Nat) (S:List Nat),m≤B.length∧i=.int .i64 ((m:Int)-1)∧v=.slice (some ⟨b,d,none⟩) S.length J∧Hid (ag wr (some ⟨b,d,none⟩) J S)∧aA wr w.heap.size (.bool H) (.slice ao A.length ca)∧aA wr (w.heap.size+1) (.bool I) (.slice bo B.length cb)∧aA wr (w.heap.size+2) (.bool false) (.slice none 0 0)∧S.length+2*m≤A.length+1+2*B.length∧Hid (ai S=ai A*ai (B.drop m))∧Below w.heap.size w wr)
  (fun _ i _ _=>(intOf i+1).toNat)
 case atStart=>
  refine⟨B.length,w.heap.size+3,0,0,[],Nat.le_refl _,rfl,rfl,ag.nil _ _ _,(((aA.new _ _ _).old _).old _).old _,?_,?_,by simp,by unfold Hid;simp[ai],?_⟩
  ·have:=((aA.new (w.alloc (.cells #[.bool H,.slice ao A.length ca] 33)) (.bool I) (.slice bo B.length cb)).old (.cells #[.bool false,.slice none 0 0] 33)).old (.cells #[] 84)
   simpa using this
  ·have:=(aA.new ((w.alloc (.cells #[.bool H,.slice ao A.length ca] 33)).alloc (.cells #[.bool I,.slice bo B.length cb] 33)) (.bool false) (.slice none 0 0)).old (.cells #[] 84)
   simpa using this
  ·exact((((Below.refl _ _).alloc (Nat.le_refl _) _).alloc (by simp) _).alloc (by simp;omega) _).alloc (by simp;omega) _
 case round=>
  obtain⟨m,b,d,J,S,hm,rfl,rfl,hS,x0,x1,x2,ax,hv,G⟩:=hrel
  by_cases h0:m=0
  ·subst h0
   have hz:=uH HZ S (by have:=hv.out;simpa using this)
   have Z:=ac hz
   have X2:=ac x2;have K:=ac G
   have p0:=x0.c0;have q0:=x1.c0
   have b6:=x2.lt
   clear hz HZ hv x0 x1 x2 G hA hB
   go_wp2_with fail
   have D:=cW 0 (H != I) (some ⟨b,d,none⟩) J S wr (uH hS) (bC.zero (uH hS)) (by omega)
   rw[uH Z]at D
   have aI:(!H==I)=(H != I):=by cases H<;>cases I<;>rfl
   rw[aI]
   refine D.mono ?_
   rintro e w2 ⟨v,rfl,⟨n2,a2,c2,L2,rfl,i1⟩,a3⟩
   have X4:=(uH X2).below a3 (uH X2).lt
   have y0:=X4.c0;have y1:=X4.c1;have f0:=X4.free 0;have f1:=X4.free 1
   have be:=ac ((uH K).trans (a3.mono (by omega)))
   have I1:=ac i1;have bg:=ac X4
   clear D X4 a3 i1
   go_wp2
   refine bodyPost_ret (v:=.agg #[.bool n2,.slice a2 L2.length c2]) (by simp[results,Tryz.results54,go_sem,y0,y1]) rfl ⟨.agg #[.bool n2,.slice a2 L2.length c2],rfl,?_,?_⟩
   ·have i:=uH I1
    exact⟨n2,a2,c2,L2,rfl,i.1.box (uH bg) _ _,i.2.1,i.2.2.1,i.2.2.2.1,i.2.2.2.2.1,by have:=i.2.2.2.2.2;omega⟩
   ·exact((uH be).setCell (by simp;omega) _).setCell (by simp;omega) _
  ·obtain⟨k,rfl⟩:∃k,m=k+1:=⟨m-1,by omega⟩
   rw[show(((k+1:Nat):Int)-1)=(k:Int) by omega]
   clear h0 HZ
   obtain⟨x,hx⟩:∃x,B[k]?.getD 0=x:=⟨_,rfl⟩
   have bx:x<4294967296:=by rw[←hx];exact hB.lt _
   obtain⟨b2,o2,bz,az,bb⟩:=hB.ne (by omega)
   have a0:=bb k (by omega)
   rw[hx]at a0
   have L:∀L1 L2:List Nat,ai L1=ai A*x→ai L2=ai (0::S)+ai L1→ai L2=ai A*ai (B.drop k):=by
    intro L1 L2 e1 e2
    have:=hv.out
    rw[e2,e1,pt B k (by omega),hx,Nat.mul_add]
    simp only[ai]
    rw[this,Nat.zero_add,←Nat.mul_assoc,←Nat.mul_assoc,Nat.mul_comm 4294967296 (ai A)]
    omega
   have N:∀j u,(S.map dq)[j]? =some u→(wr.alloc (.cells #[.int .u32 0] 84)).cell? ((⟨b,d,none⟩:Addr).add j)=some u:=by
    intro j u hu
    rw[List.getElem?_map]at hu
    have hj:j<S.length:=by
     rcases Nat.lt_or_ge j S.length with e|e
     ·exact e
     ·rw[List.getElem?_eq_none e]at hu;simp at hu
    obtain⟨b',b4,e0,bA,bE⟩:=(uH hS).ne (by omega)
    simp only[Option.some.injEq,Addr.mk.injEq,and_true]at e0
    obtain⟨rfl,rfl⟩:=e0
    have e3:(⟨b,d,none⟩:Addr).add j=⟨b,d+j,none⟩:=by simp[Addr.add]
    rw[e3,((Below.refl wr.heap.size wr).alloc (Nat.le_refl _) _).cell (p:=⟨b,d+j,none⟩) bA,bE j hj]
    rw[List.getElem?_eq_getElem hj]at hu⊢
    simpa[dq]using hu
   have ah:∀u∈S.map dq,u.oneCell'=true:=by
    intro u hu
    obtain⟨y,_,rfl⟩:=List.mem_map.1 hu
    rfl
   have am:bh (0::S):=by
    intro y hy
    rcases List.mem_cons.1 hy with rfl|hy
    ·decide
    ·exact(uH hS).2.1 y hy
   have O:=ac L;have Q:=ac N;have an:=ac ah;have ar:=ac am;have a4:=ac a0
   have X0:=ac x0;have X1:=ac x1;have X2:=ac x2;have K:=ac G;have a5:=ac ax
   have z0:=x0.lt;have z1:=x1.lt;have z2:=x2.lt
   have ls:S.length≤4000000:=by omega
   have b7:(0:Int)≤(k:Int):=by omega
   have b8:(k:Int)<(B.length:Int):=by omega
   subst bz
   have HA:=ac hA;have HB:=ac az
   clear L N ah am a0 x0 x1 x2 G ax hv hx bb hA hB hS az
   go_wp2_with(at_builtin;refine wpList_append_own _ rfl _ _ 31 rfl wr.heap.size 84 i0 (.int .u32 0) 1 4 Tryz.underlying31 hi bs bv bw rfl (by decide) _ 1 [.int .u32 0] rfl (Au wr) ⟨b,d,none⟩ S.length J (S.map dq) rfl (by simp) (uH Q) (uH an) (by unfold maxLen;omega) (by omega) (by simp) ?_;intro v' w1 X Y _;have a6:=ac X;have a7:=ac Y;clear X Y)
   obtain⟨bR,bd,e1,e2,e3,e4⟩:=ic (S:=0::S) (uH a6) (uH ar)
   subst e1
   have U:Below wr.heap.size wr w1:=((Below.refl _ _).alloc (Nat.le_refl _) _).grown (uH a7) (by simp) (fun g hg=>by have e:some wr.heap.size=some g:=hg;cases e;exact Nat.le_refl _)
   have x0:=(uH X0).below U (uH X0).lt
   have x1:=(uH X1).below U (uH X1).lt
   have x2:=(uH X2).below U (uH X2).lt
   have b1:Below w.heap.size w w1:=(uH K).trans (U.mono (uH K).size)
   have a9:w1.cell? ⟨b2,o2+k,none⟩=some (.int .u32 (x:Int)):=by rw[b1.cell (p:=⟨b2,o2+k,none⟩) (uH HB)];exact uH a4
   have ba:b2<w1.heap.size:=Nat.lt_of_lt_of_le (uH HB) b1.size
   have bi:(0::S).length≤35184372088830:=by simp;omega
   have bn:=ac ((uH HA).below b1)
   have E2:=ac e2;have B1:=ac b1;have Y0:=ac x0;have Y1:=ac x1;have Y2:=ac x2
   have hK:∀F,Below w1.heap.size w1 F→Below w1.heap.size w1 F∧F.cell? ⟨w.heap.size,1,none⟩=some (.slice ao A.length ca)∧F.cell? ⟨w.heap.size+1,1,none⟩=some (.slice (some ⟨b2,o2,none⟩) B.length cb)∧F.cell? ⟨b2,o2+k,none⟩=some (.int .u32 (x:Int)):=fun F h=>
    ⟨h,(x0.below h x0.lt).c1,(x1.below h x1.lt).c1,(h.cell (p:=⟨b2,o2+k,none⟩) ba).trans a9⟩
   have HK:=ac hK
   clear hK x0 x1 x2 b1 a9 e2 e3 e4 a6 a7 U X0 X1 X2 K a4 Q an ar HA HB
   refine al (fun W=>W=w1) rfl ?_
   rintro W0 e0
   subst e0
   go_region_held3(fun F=>Below W0.heap.size W0 F∧F.cell? ⟨w.heap.size,1,none⟩=some (.slice ao A.length ca)∧F.cell? ⟨w.heap.size+1,1,none⟩=some (.slice (some ⟨b2,o2,none⟩) B.length cb)∧F.cell? ⟨b2,o2+k,none⟩=some (.int .u32 (x:Int)))
    (first|exact uH HK _ (Below.refl _ _).drew|exact uH HK _ (by assumption))
    (first|(go_at_call 108;refine(vh ao ca A x _ ((uH bn).below (And.left (by assumption))) bx (by omega)).mono ?_;rintro e w3 ⟨b3,c3,L3,rfl,g1,g2,g3,g4,aa⟩;have a1:Below W0.heap.size W0 w3:=Below.trans (And.left (by assumption)) (aa.mono (Below.size (And.left (by assumption))));have G1:=ac g1;have G3:=ac g3;have G4:=ac g4;have l3:L3.length≤35184372088830:=(by omega);clear aa g1 g2 g3 g4)|(go_at_call 107;refine(nF bR b3 bd c3 (0::S) L3 _ ((uH E2).below a1) (uH G1) bi l3).mono ?_;rintro e w4 ⟨cc,c4,L4,rfl,g1,g2,g3,g4,aa⟩;have ae:Below W0.heap.size W0 w4:=a1.trans (aa.mono a1.size);have J1:=ac g1;have J3:=ac g3;have J4:=ac g4;clear aa g1 g2 g3 g4))
   obtain⟨b5,o5,e5,b9,b0⟩:=(uH J1).ne (by have:=uH J3;omega)
   subst e5
   have bp:=ac (uH O L3 L4 (uH G4) (uH J4))
   have bq:L4.length+2*k≤A.length+1+2*B.length:=by
    have h1:=uH J3;have h2:=uH G3;have h3:=uH a5
    simp only[List.length_cons]at h1
    omega
   clear b0 O
   go_wp2
   go_roundw
   case rel=>exact⟨k,b5,o5,c4,L4,by omega,by go_num,rfl,uH J1,(uH Y0).below ae (uH Y0).lt,(uH Y1).below ae (uH Y1).lt,(uH Y2).below ae (uH Y2).lt,bq,uH bp,(uH B1).trans (ae.mono (uH B1).size)⟩
   case measure=>simp[intOf]
end Go.Proofs.YtcbcmlaogehimaaGreatDoor
namespace Go.Proofs.YtcbcmlaogehimaaGreatDoor
open Go.RowKit
def iL(x:Int):Bool:=decide (-9223372036854775808≤x∧x≤9223372036854775807)
def rV(neg:Bool)(L:List Nat):Int:=if av neg L then(if iL (af neg L)then 0 else 2)else 1
def rW(neg:Bool)(L:List Nat):Int:=if av neg L&&iL (af neg L)then af neg L else 0
theorem nO(v x i:Nat)(d:v<2^i):v|||x*2^i=v+x*2^i:=by
 have:=Nat.two_pow_add_eq_or_of_lt d x
 rw[Nat.mul_comm x,Nat.or_comm,←this];omega
theorem EX(v x k:Nat)(h:k≤1)(d:v<4294967296^k)(u:x<4294967296):
  bits BinOp.or IntKind.u64 (v:Int) (IntKind.u64.wrap ((x:Int)*2^(k*32)))=((v+4294967296^k*x:Nat):Int):=by
 rcases(show k=0∨k=1 by omega)with rfl|rfl
 ·have e:IntKind.u64.wrap ((x:Int)*2^(0*32))=((x:Nat):Int):=by
   simp only[IntKind.wrap,IntKind.signed,IntKind.bits];simp;omega
  rw[e,u64_or_nat v x (by simp at d;omega) (by omega)]
  have:v=0:=by simpa using d
  subst this;simp
 ·have e:IntKind.u64.wrap ((x:Int)*2^(1*32))=((x*2^32:Nat):Int):=by
   simp only[IntKind.wrap,IntKind.signed,IntKind.bits];simp;omega
  rw[e,u64_or_nat v (x*2^32) (by simp at d;omega) (by omega),nO v x 32 (by simpa using d)]
  congr 1
  simp;omega
theorem yu(v:Nat)(d:v≤9223372036854775808):wrap64 (IntKind.u64.wrap (-(v:Int)))= -(v:Int):=by
 unfold wrap64
 simp only[IntKind.wrap,IntKind.signed,IntKind.bits]
 simp
 omega
theorem sI(neg:Bool)(G:Option Addr)(u:Nat)(L:List Nat)(w:World)(h:ag w G u L)(Z:av neg L=true)(hl:L.length≤2):
  Calls Tryz.prog 290 #[.agg #[.bool neg,.slice G L.length u]] w fun e w'=>e=.returned (.tuple #[.int .i64 (rW neg L),.int .i64 (rV neg L)])∧Below w.heap.size w w':=by
 have D:=eh neg G u L (w.alloc (.cells #[.bool neg,.slice G L.length u] 33)) (h.below ((Below.refl _ _).alloc (Nat.le_refl _) _)) (by omega)
 have hz:eC neg L=0:=by simp[eC,Z]
 rw[hz]at D
 have hF:(neg=true→ai L≤9223372036854775808→rW neg L= -(ai L:Int)∧rV neg L=0)∧(neg=true→9223372036854775808<ai L→rW neg L=0∧rV neg L=2)∧(neg=false→ai L<9223372036854775808→rW neg L=(ai L:Int)∧rV neg L=0)∧(neg=false→9223372036854775808≤ai L→rW neg L=0∧rV neg L=2):=by
  unfold rW rV
  rw[Z]
  refine⟨?_,?_,?_,?_⟩<;>(rintro rfl d;simp only[af,iL,if_true,Bool.true_and,Bool.false_eq_true,if_false])
  ·rw[decide_eq_true (by omega)];simp
  ·rw[decide_eq_false (by omega)];simp
  ·rw[decide_eq_true (by omega)];simp
  ·rw[decide_eq_false (by omega)];simp
 have A:=ac hF
 clear hF
 generalize rW neg L=r at*
 generalize rV neg L=e2 at*
 have I:=ac D
 clear D hz Z
 go_enter Tryz.func290,Tryz.ntmps290
 go_wp2_with fail
 refine(uH I).mono ?_
 rintro e w1 ⟨rfl,F⟩
 have x0:aA w1 w.heap.size (.bool neg) (.slice G L.length u):=(aA.new _ _ _).below F (by simp)
 have p0:=x0.c0;have p1:=x0.c1
 have z:Below w.heap.size w w1:=((Below.refl _ _).alloc (Nat.le_refl _) _).trans (F.mono (by simp))
 clear x0 F I
 go_wp2
 go_loop [5,19] (fun s i=>∃k:Nat,k≤L.length∧i=.int .i64 k∧s=.int .u64 ((ai (L.take k):Nat):Int)) (fun _ i=>L.length-(intOf i).toNat)
 case atStart=>exact⟨0,Nat.zero_le _,rfl,by simp[ai]⟩
 case round=>
  obtain⟨k,hk,rfl,rfl⟩:=hrel
  by_cases J:k<L.length
  ·obtain⟨b,Y,am,hb,hc⟩:=h.ne (by omega)
   have c1:=hc k J
   have d1:w1.cell? ⟨b,Y+k,none⟩=some (.int .u32 ((L[k]?.getD 0:Nat):Int)):=by rw[z.cell (p:=⟨b,Y+k,none⟩) hb];exact c1
   have hx:=h.lt k
   have d:=gO L h.2.1 k
   have K:=aK L k
   have aa:=ac K
   clear c1 hc K
   generalize L[k]?.getD 0=x at*
   generalize an:ai (L.take k)=v at*
   clear an h
   subst am
   have ae:k≤1:=by omega
   have N:=EX v x k ae d hx
   have ah:=ac N
   clear N
   go_wp2
   go_round
   case rel=>exact⟨k+1,by omega,by go_num,cG (by rw[uH ah,uH aa])⟩
   case measure=>simp[intOf];omega
  ·have O:k=L.length:=by omega
   rw[O,List.take_length]
   clear O hk J
   have Q:=ew L h.2.1
   have U:ai L<18446744073709551616:=by
    refine Nat.lt_of_lt_of_le Q ?_
    have:=Nat.pow_le_pow_right (n:=4294967296) (by decide) hl
    simpa using this
   generalize ai L=v at*
   clear Q h
   cases neg
   ·rcases Nat.lt_or_ge v 9223372036854775808 with d|d
    ·have H:=ac ((uH A).2.2.1 rfl d)
     have X:(v:Int)<9223372036854775808:=by omega
     clear A d U
     go_wp2
     go_ret2
     exact⟨ie (uH H).1.symm (uH H).2.symm,z⟩
    ·have H:=ac ((uH A).2.2.2 rfl d)
     have X:¬(v:Int)<9223372036854775808:=by omega
     clear A
     go_wp2
     go_ret2
     exact⟨ie (uH H).1.symm (uH H).2.symm,z⟩
   ·rcases Nat.lt_or_ge 9223372036854775808 v with d|d
    ·have H:=ac ((uH A).2.1 rfl d)
     have X:¬(v:Int)≤9223372036854775808:=by omega
     clear A
     go_wp2
     go_ret2
     exact⟨ie (uH H).1.symm (uH H).2.symm,z⟩
    ·have H:=ac ((uH A).1 rfl d)
     clear A
     go_wp2
     go_ret2
     refine⟨ie ?_ (uH H).2.symm,z⟩
     rw[(uH H).1]
     exact yu v d
theorem p9(neg:Bool)(D:Option Addr)(d:Nat)(L:List Nat)(w:World)(h:ag w D d L)(O:L.length≤35184372088830):
  Calls Tryz.prog 290 #[.agg #[.bool neg,.slice D L.length d]] w fun e U=>e=.returned (.tuple #[.int .i64 (rW neg L),.int .i64 (rV neg L)])∧Below w.heap.size w U:=by
 cases hr:av neg L
 ·have u:=eh neg D d L (w.alloc (.cells #[.bool neg,.slice D L.length d] 33)) (h.below ((Below.refl _ _).alloc (Nat.le_refl _) _)) O
  have F:eC neg L=1:=by simp[eC,hr]
  rw[F]at u
  have A:=ac u
  have H:=ac (show rW neg L=0∧rV neg L=1 by simp[rW,rV,hr])
  generalize rW neg L=r at*
  generalize rV neg L=Y at*
  clear u F hr
  go_enter Tryz.func290,Tryz.ntmps290
  go_wp2_with fail
  refine(uH A).mono ?_
  rintro e N ⟨rfl,z⟩
  go_wp2
  go_ret2
  exact⟨ie (uH H).1.symm (uH H).2.symm,((Below.refl _ _).alloc (Nat.le_refl _) _).trans (z.mono (by simp))⟩
 ·by_cases I:L.length≤2
  ·exact sI neg D d L w h hr I
  ·have u:=eh neg D d L (w.alloc (.cells #[.bool neg,.slice D L.length d] 33)) (h.below ((Below.refl _ _).alloc (Nat.le_refl _) _)) O
   have F:eC neg L=0:=by simp[eC,hr]
   rw[F]at u
   have A:=ac u
   have G:18446744073709551616≤ai L:=by
    rcases(ay hr).2.1 with e|e
    ·rw[e]at I;simp at I
    ·have Z:=lE L e
     have X:=Nat.pow_le_pow_right (n:=4294967296) (by decide) (show 2≤L.length-1 by omega)
     simp at X;omega
   have Q:iL (af neg L)=false:=by
    unfold iL af
    rw[decide_eq_false_iff_not]
    cases neg<;>simp<;>omega
   have H:=ac (show rW neg L=0∧rV neg L=2 by simp[rW,rV,hr,Q])
   generalize rW neg L=r at*
   generalize rV neg L=Y at*
   clear u F hr G Q
   go_enter Tryz.func290,Tryz.ntmps290
   go_wp2_with fail
   refine(uH A).mono ?_
   rintro e N ⟨rfl,z⟩
   have J:aA N w.heap.size (.bool neg) (.slice D L.length d):=(aA.new _ _ _).below z (by simp)
   have p0:=J.c0;have p1:=J.c1
   have K:Below w.heap.size w N:=((Below.refl _ _).alloc (Nat.le_refl _) _).trans (z.mono (by simp))
   clear J z A
   go_wp2
   go_ret2
   exact⟨ie (uH H).1.symm (uH H).2.symm,K⟩
theorem fo(n:Int)(w:World)(h0:-9223372036854775808≤n)(h1:n≤9223372036854775807):
  Calls Tryz.prog 28 #[.int .i64 n] w fun e X=>∃v,e=.returned v∧aJ 2 w.heap.size X v n∧Below w.heap.size w X:=by
 obtain⟨m,z⟩:∃m,m=n.natAbs:=⟨_,rfl⟩
 have Y:bh [m%4294967296,m/4294967296]:=by intro x hx;simp at hx;omega
 have Z:=ac Y
 have K:=ac z
 clear Y z
 by_cases hn:n<0
 ·have A:af true [m%4294967296,m/4294967296]=n:=by
   have:=uH K
   unfold af;rw[if_pos rfl,mZ];omega
  have L:=ac A
  clear A
  go_enter Tryz.func28,Tryz.ntmps28
  go_wp2_with fail
  have z:=uH K
  have D:=jz (w.alloc (.cells #[.bool false,.slice none 0 0] 33)) (w.heap.size+1) ((-(n+1)+1)%4294967296) ((-(n+1)+1)/4294967296) (m%4294967296) (m/4294967296) (by simp) (by omega) (by omega)
  refine(cW (w.heap.size+1) true (some ⟨w.heap.size+1,0,none⟩) 2 [m%4294967296,m/4294967296] _ (D.limbs (uH Z) 2 (by simp)) (.inr ⟨_,_,rfl,Nat.le_refl _⟩) (by simp)).mono ?_
  rw[uH L]
  rintro e U ⟨v,rfl,⟨F,G,H,I,rfl,J⟩,d⟩
  have h:aA U w.heap.size (.bool false) (.slice none 0 0):=((aA.new _ _ _).old _).below d (by simp;omega)
  have N:=h.c0;have O:=h.c1;have f0:=h.free 0;have f1:=h.free 1
  have Q:=ac J
  have u:=ac ((((Below.refl _ w).alloc (Nat.le_refl _) (.cells #[.bool false,.slice none 0 0] 33)).alloc (by simp) _).trans (d.mono (by simp;omega)))
  clear J d h D z
  go_wp2
  refine bodyPost_ret (v:=.agg #[.bool F,.slice G I.length H]) (by simp[results,Tryz.results28,go_sem,N,O]) rfl ⟨.agg #[.bool F,.slice G I.length H],rfl,?_,?_⟩
  ·exact aJ.stored (uH Q) (by simp) (by simp) (by omega) _ _
  ·exact((uH u).setCell (by simp) _).setCell (by simp) _
 ·have A:af false [m%4294967296,m/4294967296]=n:=by
   have:=uH K
   unfold af;rw[if_neg (by decide),mZ];omega
  have L:=ac A
  clear A
  go_enter Tryz.func28,Tryz.ntmps28
  go_wp2_with fail
  have z:=uH K
  have D:=jz (w.alloc (.cells #[.bool false,.slice none 0 0] 33)) (w.heap.size+1) (n%4294967296) (n/4294967296) (m%4294967296) (m/4294967296) (by simp) (by omega) (by omega)
  refine(cW (w.heap.size+1) false (some ⟨w.heap.size+1,0,none⟩) 2 [m%4294967296,m/4294967296] _ (D.limbs (uH Z) 2 (by simp)) (.inr ⟨_,_,rfl,Nat.le_refl _⟩) (by simp)).mono ?_
  rw[uH L]
  rintro e U ⟨v,rfl,⟨F,G,H,I,rfl,J⟩,d⟩
  have h:aA U w.heap.size (.bool false) (.slice none 0 0):=((aA.new _ _ _).old _).below d (by simp;omega)
  have N:=h.c0;have O:=h.c1;have f0:=h.free 0;have f1:=h.free 1
  have Q:=ac J
  have u:=ac ((((Below.refl _ w).alloc (Nat.le_refl _) (.cells #[.bool false,.slice none 0 0] 33)).alloc (by simp) _).trans (d.mono (by simp;omega)))
  clear J d h D z
  go_wp2
  refine bodyPost_ret (v:=.agg #[.bool F,.slice G I.length H]) (by simp[results,Tryz.results28,go_sem,N,O]) rfl ⟨.agg #[.bool F,.slice G I.length H],rfl,?_,?_⟩
  ·exact aJ.stored (uH Q) (by simp) (by simp) (by omega) _ _
  ·exact((uH u).setCell (by simp) _).setCell (by simp) _
def ch(w:World):Prop:=TabAt 1 Lib.deBruijn32tab w
theorem ch.below{w d:World}{B:Nat}(h:ch w)(u:Below B w d)(z:1<B):ch d:=fun j A=>by
 rw[u.cell (p:=⟨1,j,none⟩) z]
 exact h j A
theorem ch.pos{w:World}(h:ch w):1<w.heap.size:=World.block_lt_of_cell? w _ (h 0 (by decide))
theorem ch.all{w d:World}(h:ch w)(u:Below w.heap.size w d):ch d:=h.below u h.pos
theorem yv(x k d:Nat)(w:World)(z:((x:Int)==0)=false)
  (h:bits BinOp.and IntKind.u32 (x:Int) (-(x:Int)%4294967296)*125613361%4294967296/134217728=(d:Int))
  (D:d<32) (F:k<32) (u:w.cell? ⟨1,d,none⟩=some (.int .u8 k)):
  Calls Tryz.prog 265 #[.int .u32 x] w fun e A=>e=.returned (.int .i64 k)∧w=A:=by
 go_enter Tryz.func265,Tryz.ntmps265
 go_wp2_with(simp only[h])
 go_ret
 exact⟨rfl,rfl⟩
theorem Aw(x:Nat)(w:World)(A:x<4294967296)(G:ch w):
  Calls Tryz.prog 265 #[.int .u32 x] w fun e H=>e=.returned (.int .i64 (Lib.ctz 32 x))∧w=H:=by
 by_cases h:x=0
 ·subst h
  go_enter Tryz.func265,Tryz.ntmps265
  go_wp2
  go_ret
  exact⟨rfl,rfl⟩
 ·obtain⟨u,D⟩:=Lib.lowest_bit 32 x h A
  obtain⟨F,z⟩:=Lib.deBruijn32_at _ D
  have d:=G _ F
  rw[z]at d
  exact yv x _ _ w (by simp;omega) (tz32_key x _ A h u) F D d
theorem du(n m:Int)(w:World)(G:0≤m)(D:m≤100000):
  Calls Tryz.prog 236 #[.int .i64 n,.int .i64 m] w fun e F=>e=.returned (.bool (decide (-m≤n∧n≤m)))∧w=F:=by
 have H:IntKind.i64.wrap (-m)= -m:=by
  simp only[IntKind.wrap,IntKind.signed,IntKind.bits]
  simp
  omega
 by_cases d:-m≤n
 ·by_cases u:n≤m
  ·go_enter Tryz.func236,Tryz.ntmps236
   go_wp2
   go_ret
   exact⟨jc (by simp[d,u]),rfl⟩
  ·go_enter Tryz.func236,Tryz.ntmps236
   go_wp2
   go_ret
   exact⟨jc (by simp[u]),rfl⟩
 ·have z:¬(-m≤n∧n≤m):=fun h=>d h.1
  have A:=ac (decide_eq_false z)
  rw[uH A]
  clear z A
  go_enter Tryz.func236,Tryz.ntmps236
  go_wp2
  go_ret
  exact⟨rfl,rfl⟩
theorem dw(neg:Bool)(u:Option Addr)(d:Nat)(n:Nat)(w:World):
  Calls Tryz.prog 237 #[.agg #[.bool neg,.slice u n d]] w fun e z=>e=.returned (.bool (decide (n=0)))∧Below w.heap.size w z:=by
 by_cases h:n=0
 ·subst h
  go_enter Tryz.func237,Tryz.ntmps237
  go_wp2
  go_ret
  exact⟨rfl,(Below.refl _ _).alloc (Nat.le_refl _) _⟩
 ·have A:((n:Int)==0)=false:=by simp;omega
  have H:=ac (decide_eq_false h)
  clear h
  go_enter Tryz.func237,Tryz.ntmps237
  go_wp2
  go_ret
  exact⟨jc (uH H).symm,(Below.refl _ _).alloc (Nat.le_refl _) _⟩
def g6(neg:Bool)(n:Nat):Int:=if n=0 then 0 else if neg then-1 else 1
def fr(v:Nat):Int:=if v=0 then 0 else(tz v:Int)
theorem kC(v:Nat)(h:v≠0):fr v=tz v:=by unfold fr;rw[if_neg h]
theorem kD(neg:Bool)(ao:Option Addr)(d:Nat)(L:List Nat)(w:World)(h:ag w ao d L)(hl:L.length≤1073741824)(hT:ch w):
  Calls Tryz.prog 235 #[.agg #[.bool neg,.slice ao L.length d]] w fun e X=>e=.returned (.int .i64 (fr (ai L)))∧Below w.heap.size w X:=by
 by_cases F:L= []
 ·subst F
  go_enter Tryz.func235,Tryz.ntmps235
  go_wp2
  refine wp_loop_rounds 1 ?_
  rw[rounds_succ]
  go_wp2
  go_ret
  exact⟨rfl,(Below.refl _ _).alloc (Nat.le_refl _) _⟩
 obtain⟨b,D,rfl,hb,hc⟩:=h.ne (List.length_pos_iff.2 F)
 have ae:=h.1
 have u:Below w.heap.size w (w.alloc (.cells #[.bool neg,.slice (some ⟨b,D,none⟩) L.length d] 33)):=(Below.refl _ _).alloc (Nat.le_refl _) _
 have G:∀i,i<L.length→(w.alloc (.cells #[.bool neg,.slice (some ⟨b,D,none⟩) L.length d] 33)).cell? ⟨b,D+i,none⟩=some (.int .u32 ((L[i]?.getD 0:Nat):Int)):=fun i hi=>by
  rw[u.cell (p:=⟨b,D+i,none⟩) hb];exact hc i hi
 have Y:=hT.all u
 have Z:=ac (fun k x=>Ah L k x)
 have HZ:=ac (fun h:ai L=0=>(show fr (ai L)=0 by rw[h];rfl))
 have U:=ac (fun h=>kC (ai L) h)
 have HF:=ac (fun i=>h.lt i)
 have HV:=ac (fun k (hk:L.length≤k)=>dC L k hk)
 have HS:=ac (fun k=>aK L k)
 have O:=ac u
 clear hT hc h hb F u
 generalize fr (ai L)=z at*
 go_enter Tryz.func235,Tryz.ntmps235
 go_wp2
 go_loop [3,9] (fun c i=>∃k:Nat,k≤L.length∧i=.int .i64 k∧c=.int .i64 (32*(k:Int))∧Hid (ai (L.take k)=0)) (fun _ i=>L.length-(intOf i).toNat)
 case atStart=>exact⟨0,Nat.zero_le _,rfl,rfl,by unfold Hid;simp[ai]⟩
 case round=>
  obtain⟨k,hk,rfl,rfl,N⟩:=hrel
  by_cases aa:k<L.length
  ·have ah:=G k aa
   clear G
   have hx:=uH HF k
   have H:=ac (uH HS k)
   have I:=ac (fun K=>uH Z k _ N.out rfl K hx)
   clear Z HZ HS HF HV
   generalize L[k]?.getD 0=x at*
   have TZ:=ac (Aw x _ hx Y)
   have Q:(Lib.ctz 32 x:Int)≤32∧(0:Int)≤Lib.ctz 32 x:=by
    by_cases K:x=0
    ·subst K;decide
    ·have:=(Lib.lowest_bit 32 x K (by omega)).2
     omega
   have J:=ac (fun K=>H8 x K hx)
   have e0:x=0→Lib.ctz 32 x=32:=fun h=>by subst h;rfl
   generalize Lib.ctz 32 x=c at*
   obtain⟨c1,c2⟩:=Q
   by_cases A:x=0
   ·have ec:=e0 A
    subst A;subst ec
    have HN:Hid (ai (L.take (k+1))=0):=by unfold Hid;rw[uH H,N.out];simp
    clear I H N J e0 U
    go_wp2_with(go_at_call 265;refine(uH TZ).mono ?_;rintro e X ⟨rfl,rfl⟩)
    go_round
    case rel=>exact⟨k+1,by omega,by go_num,cG (by omega),HN⟩
    case measure=>simp[intOf];omega
   ·have hr:=uH I A
    have HE:=ac (show z=32*(k:Int)+(c:Int) by rw[uH U hr.1,hr.2,uH J A];omega)
    have am:((x:Int) != 0)=true:=by rw[bne_iff_ne];omega
    clear I H N J e0 U hr
    go_wp2_with(go_at_call 265;refine(uH TZ).mono ?_;rintro e X ⟨rfl,rfl⟩)
    go_ret
    exact⟨aU (uH HE).symm,uH O⟩
  ·have hz:=uH HZ (by rw[←uH HV k (by omega)];exact N.out)
   subst hz
   clear Z HZ U HF HV HS N G
   go_wp2
   go_ret
   exact⟨rfl,uH O⟩
def ak(w:World)(b:Nat)(x y z:Value):Prop:=w.heap[b]? =some (.cells #[x,y,z] 35 (0,0))
theorem ak.c0{w:World}{b:Nat}{x y z:Value}(h:ak w b x y z):w.cell? ⟨b,0,none⟩=some x:=by rw[cell_of_row w b 0 _ _ _ h];rfl
theorem ak.c1{w:World}{b:Nat}{x y z:Value}(h:ak w b x y z):w.cell? ⟨b,1,none⟩=some y:=by rw[cell_of_row w b 1 _ _ _ h];rfl
theorem ak.c2{w:World}{b:Nat}{x y z:Value}(h:ak w b x y z):w.cell? ⟨b,2,none⟩=some z:=by rw[cell_of_row w b 2 _ _ _ h];rfl
theorem ak.free{w:World}{b:Nat}{x y z:Value}(h:ak w b x y z)(j:Nat):w.frozen? ⟨b,j,none⟩=false:=frozen_of_row w b j _ _ h
theorem ak.lt{w:World}{b:Nat}{x y z:Value}(h:ak w b x y z):b<w.heap.size:=(Array.getElem?_eq_some_iff.1 h).1
theorem ak.below{w u:World}{b:Nat}{x y z:Value}(h:ak w b x y z){B:Nat}(A:Below B w u)(d:b<B):ak u b x y z:=(A.block b d).trans h
theorem ak.new(w:World)(x y z:Value):ak (w.alloc (.cells #[x,y,z] 35)) w.heap.size x y z:=heap_alloc_new w _
theorem ak.old{w:World}{b:Nat}{x y z:Value}(h:ak w b x y z)(o:Obj):ak (w.alloc o) b x y z:=by
 unfold ak;rw[Below.heap_alloc w o b h.lt];exact h
theorem ak.all{w d:World}{b:Nat}{x y z:Value}(h:ak w b x y z)(u:Below w.heap.size w d):ak d b x y z:=h.below u h.lt
theorem aA.all{w d:World}{b:Nat}{x y:Value}(h:aA w b x y)(u:Below w.heap.size w d):aA d b x y:=h.below u h.lt
theorem ak.drew{w:World}{b:Nat}{x y z:Value}(h:ak w b x y z):ak w.drew b x y z:=h
theorem ak.other{w:World}{b:Nat}{x y z:Value}(h:ak w b x y z){p:Addr}(d:b≠p.block)(u:Value):ak (w.setCell p u) b x y z:=(Below.heap_setCell w p u b d).trans h
theorem ak.put{w:World}{b:Nat}{x y z:Value}(h:ak w b x y z)(u A d:Value):ak (((w.setCell ⟨b,0,none⟩ u).setCell ⟨b,1,none⟩ A).setCell ⟨b,2,none⟩ d) b u A d:=by
 have D:=heap_setCell_same w b 0 _ _ u h
 have F:=heap_setCell_same (w.setCell ⟨b,0,none⟩ u) b 1 _ _ A D
 have G:=heap_setCell_same ((w.setCell ⟨b,0,none⟩ u).setCell ⟨b,1,none⟩ A) b 2 _ _ d F
 unfold ak
 rw[G]
 simp
theorem aC{w A:World}{B b:Nat}(h:Below B w A)(d:B≤b)(u D z:Value):Below B w (((A.setCell ⟨b,0,none⟩ u).setCell ⟨b,1,none⟩ D).setCell ⟨b,2,none⟩ z):=
 ((h.setCell d _).setCell d _).setCell d _
theorem ag.box3{w:World}{G:Option Addr}{D g:Nat}{L:List Nat}(h:ag w G D L){x:Bool}{a:Option Addr}{n c:Nat}{e:Int}(J:ak w g (.bool x) (.slice a n c) (.int .i64 e))(u K F:Value):
  ag (((w.setCell ⟨g,0,none⟩ u).setCell ⟨g,1,none⟩ K).setCell ⟨g,2,none⟩ F) G D L:=by
 refine⟨h.1,h.2.1,?_⟩
 rcases h.2.2 with Q|⟨b,d,U,X,I⟩
 ·exact .inl Q
 ·by_cases H:L= []
  ·exact .inl H
  ·have O:0<L.length:=List.length_pos_iff.2 H
   have z:b≠g:=by
    rintro rfl
    have A:=I 0 O
    rw[cell_of_row w b (d+0) _ _ _ J]at A
    rcases(show d=0∨d=1∨d=2∨3≤d by omega)with e|e|e|e
    ·subst e;simp at A
    ·subst e;simp at A
    ·subst e;simp at A
    ·rw[Array.getElem?_eq_none (by simp;omega)]at A;simp at A
   refine .inr ⟨b,d,U,by simpa[World.setCell]using X,fun i N=>?_⟩
   rw[a8 _ _ _ _ (by simpa using z),a8 _ _ _ _ (by simpa using z),a8 _ _ _ _ (by simpa using z)]
   exact I i N
def kt(neg:Bool)(L:List Nat)(e:Int):Bool:=av neg L&&(if L.length=0 then decide (e=0)else(decide (ai L%2=1)&&decide (-16384≤e∧e≤16384)))
def nP(neg:Bool)(L:List Nat)(e:Int):Int:=if kt neg L e then 0 else 1
theorem Ax(v:Nat)(h:v≠0):0<fr v↔v%2=0:=by
 rw[kC v h]
 obtain⟨m,d⟩:=iJ v (by omega)
 constructor
 ·intro z
  obtain⟨k,u⟩:∃k,tz v=k+1:=⟨tz v-1,by omega⟩
  rw[u,Nat.pow_succ,Nat.mul_assoc,Nat.mul_left_comm]at d
  omega
 ·intro z
  rcases Nat.eq_zero_or_pos (tz v)with e|e
  ·rw[e]at d;simp at d;omega
  ·omega
theorem wT(v:Nat)(h:v<dl):0≤fr v∧fr v<16384:=by
 by_cases d:v=0
 ·subst d;decide
 ·rw[kC v d]
  have e:dl=2^(32*lF):=by
   unfold dl
   rw[show(4294967296:Nat)=2^32 by decide,←Nat.pow_mul]
  rw[e]at h
  have:=jP v (32*lF) (by omega) h
  have u:32*lF=16384:=rfl
  omega
theorem iM(neg:Bool)(K:Option Addr)(F:Nat)(L:List Nat)(e:Int)(w:World)(h:ag w K F L)(hl:L.length≤35184372088830)(hT:ch w):
  Calls Tryz.prog 260 #[.agg #[.bool neg,.slice K L.length F,.int .i64 e]] w fun r X=>r=.returned (.int .i64 (nP neg L e))∧Below w.heap.size w X:=by
 have HC:=ac (fun X N=>eh neg K F L X N hl)
 have H1:=ac (show av neg L=false→nP neg L e=1 from fun h=>by simp[nP,kt,h])
 have O:=ac (show¬(-16384≤e∧e≤16384)→nP neg L e=1 from fun h=>by
  unfold nP kt
  by_cases u:L.length=0
  ·rw[if_pos u,decide_eq_false (show¬e=0 by omega)];simp
  ·rw[if_neg u,decide_eq_false h];simp)
 have Q:=ac (show L.length=0→e≠0→nP neg L e=1 from fun u h=>by
  unfold nP kt
  rw[if_pos u,decide_eq_false h];simp)
 have H4:=ac (show av neg L=true→L.length=0→e=0→nP neg L e=0∧fr (ai L)=0 from fun h u N=>by
  unfold nP kt
  rw[if_pos u,decide_eq_true N,h]
  have:L= []:=List.length_eq_zero_iff.1 u
  subst this
  exact⟨by simp,rfl⟩)
 have H5:=ac (show av neg L=true→L.length≠0→(-16384≤e∧e≤16384)→nP neg L e=if 0<fr (ai L)then 1 else 0 from fun h u N=>by
  have hv:ai L≠0:=fun e=>u (by rw[(aQ L (ay h).2.1).1 e];rfl)
  unfold nP kt
  rw[if_neg u,decide_eq_true N,h]
  have:=Ax _ hv
  by_cases h1:ai L%2=1
  ·rw[decide_eq_true h1,if_neg (show¬0<fr (ai L) by omega)];simp
  ·rw[decide_eq_false h1,if_pos (show 0<fr (ai L) by omega)];simp)
 have HL:=ac (show av neg L=true→L.length≤512 from fun h=>(ay h).1)
 have HE:=ac (show eC neg L=if av neg L then 0 else 1 from rfl)
 have U:=ac (fun X N aa t=>kD neg K F L X N aa t)
 generalize nP neg L e=er at*
 generalize eC neg L=ce at*
 generalize fr (ai L)=lz at*
 generalize av neg L=rb at*
 have J:Below w.heap.size w (w.alloc (.cells #[.bool neg,.slice K L.length F,.int .i64 e] 35)):=(Below.refl _ _).alloc (Nat.le_refl _) _
 have D:=ak.new w (.bool neg) (.slice K L.length F) (.int .i64 e)
 go_enter Tryz.func260,Tryz.ntmps260
 go_wp2_with fail
 refine(uH HC _ (h.below J)).mono ?_
 rintro r w1 ⟨rfl,d⟩
 replace D:=D.all d
 have A:=J.trans (d.mono J.size)
 rw[uH HE]
 clear d HE HC J
 have p0:=D.c0;have p1:=D.c1;have p2:=D.c2
 cases rb
 ·have I:=uH H1 rfl
  subst I
  simp only[Bool.false_eq_true,if_false]
  clear H1 O Q H4 H5 HL U D
  go_wp2
  go_ret
  exact⟨rfl,A⟩
 have ae:=uH HL rfl
 have G:=ac (uH H4 rfl)
 have H:=ac (uH H5 rfl)
 clear HL H4 H5 H1
 simp only[if_true]
 go_wp2_with fail
 refine(du e 16384 _ (by decide) (by decide)).mono ?_
 rintro r w2 ⟨rfl,rfl⟩
 by_cases z:-16384≤e∧e≤16384
 case neg=>
  have I:=uH O z
  subst I
  rw[decide_eq_false z]
  clear O Q G H ae U D z
  go_wp2
  go_ret
  exact⟨rfl,A⟩
 rw[decide_eq_true z]
 go_wp2_with fail
 refine(dw neg K F L.length _).mono ?_
 rintro r w3 ⟨rfl,d⟩
 replace D:=D.all d
 replace A:=A.trans (d.mono A.size)
 clear d p0 p1 p2
 have p0:=D.c0;have p1:=D.c1;have p2:=D.c2
 by_cases u:L.length=0
 ·rw[decide_eq_true u]
  by_cases Y:e=0
  ·obtain⟨I,Z⟩:=uH G u Y
   subst I
   subst Z
   subst Y
   clear O Q G H D z u
   go_wp2_with fail
   refine(uH U _ (h.below A) (by omega) (hT.all A)).mono ?_
   rintro r w4 ⟨rfl,d⟩
   go_wp2
   go_ret
   exact⟨rfl,A.trans (d.mono A.size)⟩
  ·have I:=uH Q u Y
   subst I
   have ah:(e != 0)=true:=by simpa using Y
   clear O Q G H D z U
   go_wp2
   go_ret
   exact⟨rfl,A⟩
 ·have I:=uH H u z
  rw[decide_eq_false u]
  by_cases Z:0<lz
  ·rw[if_pos Z]at I
   subst I
   clear O Q G H D z u
   go_wp2_with fail
   refine(uH U _ (h.below A) (by omega) (hT.all A)).mono ?_
   rintro r w4 ⟨rfl,d⟩
   go_wp2
   go_ret
   exact⟨rfl,A.trans (d.mono A.size)⟩
  ·rw[if_neg Z]at I
   subst I
   clear O Q G H D z u
   go_wp2_with fail
   refine(uH U _ (h.below A) (by omega) (hT.all A)).mono ?_
   rintro r w4 ⟨rfl,d⟩
   go_wp2
   go_ret
   exact⟨rfl,A.trans (d.mono A.size)⟩
def aB(w:World)(v:Value)(m e:Int):Prop:=
 ∃(neg:Bool) (ao:Option Addr) (cap:Nat) (L:List Nat),v=.agg #[.bool neg,.slice ao L.length cap,.int .i64 e]∧au 0 w (.agg #[.bool neg,.slice ao L.length cap]) m
theorem aB.below{w u:World}{v:Value}{m e:Int}(h:aB w v m e)(z:Below w.heap.size w u):aB u v m e:=by
 obtain⟨neg,A,d,L,D,F⟩:=h
 exact⟨neg,A,d,L,D,F.below z⟩
theorem aB.put3{w:World}{v:Value}{m e:Int}(h:aB w v m e){g:Nat}{x:Bool}{a:Option Addr}{n c:Nat}{k:Int}(A:ak w g (.bool x) (.slice a n c) (.int .i64 k))(u D d:Value):aB (((w.setCell ⟨g,0,none⟩ u).setCell ⟨g,1,none⟩ D).setCell ⟨g,2,none⟩ d) v m e:=by
 obtain⟨neg,F,z,L,G,H,I,J,K,N,O,Q⟩:=h
 exact⟨neg,F,z,L,G,H,I,J,K,N,O.box3 A _ _ _,Q⟩
theorem aB.zero(w:World)(h:Option Addr)(d:Nat):aB w (.agg #[.bool false,.slice h 0 d,.int .i64 0]) 0 0:=
 ⟨false,h,d,[],rfl,au.zero _ _ _ _⟩
def lP(z e:Int):Bool:=decide (-32768≤e∧e≤32768)&&(decide (z=0)||decide (-16384≤e+tz z.natAbs∧e+tz z.natAbs≤16384))
def cR(z e:Int):Int:=if lP z e then 0 else 2
def dM(z e:Int):Int:=if lP z e then oM z else 0
def dX(z e:Int):Int:=if lP z e then oE z e else 0
def pu(na:Bool)(A:List Nat)(x:Int)(nb:Bool)(B:List Nat)(y:Int):Int:=if kt na A x&&kt nb B y then 0 else 1
theorem jf(d z:Bool)(I F:Option Addr)(J G:Nat)(A B:List Nat)(x y:Int)(w:World)(hA:ag w I J A)(hB:ag w F G B)(la:A.length≤35184372088830)(lb:B.length≤35184372088830)(O:ch w):
  Calls Tryz.prog 288 #[.agg #[.bool d,.slice I A.length J,.int .i64 x],.agg #[.bool z,.slice F B.length G,.int .i64 y]] w fun r K=>r=.returned (.int .i64 (pu d A x z B y))∧Below w.heap.size w K:=by
 have U:=ac (show kt d A x=false→nP d A x=1∧pu d A x z B y=1 from fun h=>by simp[nP,pu,h])
 have X:=ac (show kt d A x=true→nP d A x=0∧pu d A x z B y=nP z B y from fun h=>by simp[nP,pu,h])
 have Y:=ac (fun K Q t=>iM d I J A x K Q la t)
 have HB:=ac (fun K Q t=>iM z F G B y K Q lb t)
 generalize pu d A x z B y=er at*
 generalize nP d A x=e1 at*
 generalize nP z B y=e2 at*
 generalize kt d A x=ra at*
 have L:Below w.heap.size w ((w.alloc (.cells #[.bool d,.slice I A.length J,.int .i64 x] 35)).alloc (.cells #[.bool z,.slice F B.length G,.int .i64 y] 35)):=((Below.refl _ _).alloc (Nat.le_refl _) _).alloc (by simp) _
 have H:ak ((w.alloc (.cells #[.bool d,.slice I A.length J,.int .i64 x] 35)).alloc (.cells #[.bool z,.slice F B.length G,.int .i64 y] 35)) (w.heap.size+1) (.bool z) (.slice F B.length G) (.int .i64 y):=by
  have:=ak.new (w.alloc (.cells #[.bool d,.slice I A.length J,.int .i64 x] 35)) (.bool z) (.slice F B.length G) (.int .i64 y)
  simpa using this
 have Z:=ac H;have D:=ac L
 clear H L
 cases ra
 ·obtain⟨rfl,rfl⟩:=uH U rfl
  clear U X HB Z
  go_enter Tryz.func288,Tryz.ntmps288
  go_wp2_with fail
  refine(uH Y _ (hA.below (uH D)) (O.all (uH D))).mono ?_
  rintro r w1 ⟨rfl,u⟩
  go_wp2
  go_ret
  exact⟨rfl,(uH D).trans (u.mono (uH D).size)⟩
 ·obtain⟨rfl,rfl⟩:=uH X rfl
  clear U X
  go_enter Tryz.func288,Tryz.ntmps288
  go_wp2_with fail
  refine(uH Y _ (hA.below (uH D)) (O.all (uH D))).mono ?_
  rintro r w1 ⟨rfl,u⟩
  have H:=(uH Z).all u
  have p0:=H.c0;have p1:=H.c1;have p2:=H.c2
  have N:=ac ((uH D).trans (u.mono (uH D).size))
  clear u H Z D Y
  go_wp2_with fail
  refine(uH HB _ (hB.below (uH N)) (O.all (uH N))).mono ?_
  rintro r w2 ⟨rfl,u⟩
  go_wp2
  go_ret
  exact⟨rfl,(uH N).trans (u.mono (uH N).size)⟩
theorem EY(d:Bool)(v:Nat)(h:v≠0):sg d (v/2^tz v)=oM (sg d v):=by
 obtain⟨m,u⟩:=iJ v (by omega)
 have z:0<2^tz v:=Nat.pow_pos (by decide)
 have A:v/2^tz v=2*m+1:=by
  generalize 2^tz v=P at u z
  rw[u];exact Nat.mul_div_cancel_left _ z
 have D:ia (sg d v) (sg d (2*m+1)) (tz v):=by
  constructor
  ·have e:(v:Int)=(2*(m:Int)+1)*2^tz v:=by
    rw[Int.mul_comm]
    exact_mod_cast u
   unfold sg
   cases d
   ·simp only[Bool.false_eq_true,if_false];rw[e];push_cast;rfl
   ·simp only[if_true];rw[e];push_cast;rw[Int.neg_mul]
  ·unfold sg;cases d<;>simp<;>omega
 rw[A,D.eq.2.1]
theorem iN:0<dl:=Nat.pow_pos (by decide)
theorem vi(d:Bool)(A:List Nat)(e:Int)(K:av d A=true)(Q:bh A):
  (¬(-32768≤e∧e≤32768)∧cR (af d A) e=2∧dM (af d A) e=0∧dX (af d A) e=0)∨
  ((-32768≤e∧e≤32768)∧A.length≠0∧¬(-16384≤e+fr (ai A)∧e+fr (ai A)≤16384)∧cR (af d A) e=2∧dM (af d A) e=0∧dX (af d A) e=0)∨
  ((-32768≤e∧e≤32768)∧A.length=0∧cR (af d A) e=0∧dM (af d A) e=0∧dX (af d A) e=0)∨
  ((-32768≤e∧e≤32768)∧A.length≠0∧(-16384≤e+fr (ai A)∧e+fr (ai A)≤16384)∧cR (af d A) e=0∧dX (af d A) e=e+fr (ai A)∧uT d A (-fr (ai A))=0∧sE d A (-fr (ai A))=dM (af d A) e):=by
 obtain⟨hl,O,_⟩:=ay K
 have U:ai A<dl:=(dr A Q O).2 hl
 have X:=wT (ai A) U
 by_cases u:-32768≤e∧e≤32768
 case neg=>
  left
  have:lP (af d A) e=false:=by unfold lP;rw[decide_eq_false u,Bool.false_and]
  exact⟨u,by simp[cR,this],by simp[dM,this],by simp[dX,this]⟩
 right
 by_cases D:A.length=0
 ·right;left
  have Y:A= []:=List.length_eq_zero_iff.1 D
  subst Y
  have:lP (af d []) e=true:=by unfold lP;rw[decide_eq_true u,h9];simp
  refine⟨u,rfl,by simp[cR,this],?_,?_⟩
  ·simp[dM,h9,oM]
  ·simp[dX,h9,oE]
 have G:ai A≠0:=fun e=>D (by rw[(aQ A O).1 e];rfl)
 have h:=kC (ai A) G
 have H:af d A≠0:=fun e=>G (by rw[←aM d A,e];rfl)
 by_cases F:-16384≤e+fr (ai A)∧e+fr (ai A)≤16384
 case neg=>
  left
  have:lP (af d A) e=false:=by
   unfold lP
   rw[aM,←h,decide_eq_false F,decide_eq_false H];simp
  exact⟨u,D,F,by simp[cR,this],by simp[dM,this],by simp[dX,this]⟩
 right;right
 have I:lP (af d A) e=true:=by
  unfold lP
  rw[aM,←h,decide_eq_true u,decide_eq_true F];simp
 have L:pn d A (-fr (ai A))=oM (af d A):=by
  rw[nd,dH,←EY d (ai A) G,h]
  congr 1
  unfold nJ
  rcases Nat.eq_zero_or_pos (tz (ai A))with e|e
  ·rw[e];simp
  ·rw[if_neg (by omega)]
   congr 2
   omega
 have Z:=eE (af d A) H
 have aa:(oM (af d A)).natAbs≤ai A:=by
  have N:(af d A).natAbs=(oM (af d A)).natAbs*2^tz (af d A).natAbs:=by
   conv=>lhs;rw[Z.1]
   rw[Int.natAbs_mul,Int.natAbs_pow]
   rfl
  rw[aM]at N
  rw[N]
  exact Nat.le_mul_of_pos_right _ (Nat.pow_pos (by decide))
 have J:-16384≤-fr (ai A)∧-fr (ai A)≤16384:=by omega
 have z:lO d A (-fr (ai A))=true:=by unfold lO;rw[K,decide_eq_true J];rfl
 refine⟨u,D,F,by simp[cR,I],?_,?_,?_⟩
 ·unfold dX oE;rw[if_pos I,if_neg H,aM,h]
 ·unfold uT;rw[if_pos z,L,fU _ (by omega)]
 ·unfold sE dM;rw[if_pos z,if_pos I,L,fY _ (by omega)]
theorem iO(D:Bool)(I:Option Addr)(J:Nat)(A:List Nat)(e:Int)(w:World)(hA:ag w I J A)(hr:av D A=true)(be:-9223372036854775808≤e∧e≤9223372036854775807)(hT:ch w):
  Calls Tryz.prog 206 #[.agg #[.bool D,.slice I A.length J],.int .i64 e] w fun r Y=>∃v,r=.returned (.tuple #[v,.int .i64 (cR (af D A) e)])∧aB Y v (dM (af D A) e) (dX (af D A) e)∧Below w.heap.size w Y:=by
 have hl:=(ay hr).1
 have ah:eC D A=0:=by simp[eC,hr]
 have HM:=ac (vi D A e hr hA.2.1)
 have ae:=ac (fun Y h'=>eh D I J A Y h' (by omega))
 rw[ah]at ae
 have am:=ac (fun Y h' t=>kD D I J A Y h' (by omega) t)
 have U:=ac (fun n Y h' bn=>ig D I J A n Y h' (by omega) bn)
 have aI:=wT (ai A) ((dr A hA.2.1 (ay hr).2.1).2 hl)
 clear ah hr
 generalize cR (af D A) e=er at*
 generalize dM (af D A) e=dm at*
 generalize dX (af D A) e=dx at*
 generalize fr (ai A)=lz at*
 obtain⟨a0,a1⟩:=aI
 have aa:Below w.heap.size w ((w.alloc (.cells #[.bool D,.slice I A.length J] 33)).alloc (.cells #[.bool false,.slice none 0 0,.int .i64 0] 35)):=((Below.refl _ _).alloc (Nat.le_refl _) _).alloc (by simp) _
 have u:aA ((w.alloc (.cells #[.bool D,.slice I A.length J] 33)).alloc (.cells #[.bool false,.slice none 0 0,.int .i64 0] 35)) w.heap.size (.bool D) (.slice I A.length J):=(aA.new _ _ _).old _
 have h:ak ((w.alloc (.cells #[.bool D,.slice I A.length J] 33)).alloc (.cells #[.bool false,.slice none 0 0,.int .i64 0] 35)) (w.heap.size+1) (.bool false) (.slice none 0 0) (.int .i64 0):=by
  have:=ak.new (w.alloc (.cells #[.bool D,.slice I A.length J] 33)) (.bool false) (.slice none 0 0) (.int .i64 0)
  simpa using this
 go_enter Tryz.func206,Tryz.ntmps206
 go_wp2_with fail
 refine(uH ae _ (hA.below aa)).mono ?_
 rintro r w1 ⟨rfl,d⟩
 replace u:=u.all d
 replace h:=h.all d
 have F:=aa.trans (d.mono aa.size)
 clear d aa ae
 have Q:=u.c0;have K:=u.c1
 have G:=ac u;have H:=ac h;have z:=ac F
 clear u h F
 go_wp2_with fail
 refine(uH am _ (hA.below (uH z)) (hT.all (uH z))).mono ?_
 rintro r w2 ⟨rfl,d⟩
 have u:=(uH G).all d
 have h:=(uH H).all d
 have F:=(uH z).trans (d.mono (uH z).size)
 clear d am Q K G H z
 have Q:=u.c0;have K:=u.c1
 have G:=ac u;have H:=ac h;have z:=ac F
 have L:=h.c0;have N:=h.c1;have O:=h.c2;have Z:=h.free 0;have f1:=h.free 1;have f2:=h.free 2
 clear u h F
 rcases uH HM with⟨X,rfl,rfl,rfl⟩|⟨X,h0,h2,rfl,rfl,rfl⟩|⟨X,h0,rfl,rfl,rfl⟩|⟨X,h0,h2,rfl,rfl,ax,az⟩
 ·clear HM U
  go_wp2_with fail
  refine(du e 32768 _ (by decide) (by decide)).mono ?_
  rw[decide_eq_false X]
  rintro r w3 ⟨rfl,rfl⟩
  clear X
  go_wp2
  refine bodyPost_ret (v:=.tuple #[.agg #[.bool false,.slice none 0 0,.int .i64 0],.int .i64 2]) (by simp[results,Tryz.results206,go_sem,L,N,O]) rfl ⟨_,rfl,aB.zero _ _ _,aC (uH z) (by omega) _ _ _⟩
 ·clear HM U
  go_wp2_with fail
  refine(du e 32768 _ (by decide) (by decide)).mono ?_
  rw[decide_eq_true X]
  rintro r w3 ⟨rfl,rfl⟩
  obtain⟨an,ar⟩:=X
  go_wp2_with fail
  refine(dw D I J A.length _).mono ?_
  rw[decide_eq_false h0]
  rintro r w4 ⟨rfl,d⟩
  have u:=(uH G).all d
  have h:=(uH H).all d
  have F:=(uH z).trans (d.mono (uH z).size)
  clear d Q K G H z L N O Z f1 f2
  have Q:=u.c0;have K:=u.c1
  have G:=ac u;have H:=ac h;have z:=ac F
  have L:=h.c0;have N:=h.c1;have O:=h.c2;have Z:=h.free 0;have f1:=h.free 1;have f2:=h.free 2
  clear u h F
  go_wp2_with fail
  refine(du (e+lz) 16384 _ (by decide) (by decide)).mono ?_
  rw[decide_eq_false h2]
  rintro r w5 ⟨rfl,rfl⟩
  clear h2
  go_wp2
  refine bodyPost_ret (v:=.tuple #[.agg #[.bool false,.slice none 0 0,.int .i64 0],.int .i64 2]) (by simp[results,Tryz.results206,go_sem,L,N,O]) rfl ⟨_,rfl,aB.zero _ _ _,aC (uH z) (by omega) _ _ _⟩
 ·clear HM U
  have H0:=ac h0
  clear h0
  go_wp2_with fail
  refine(du e 32768 _ (by decide) (by decide)).mono ?_
  rw[decide_eq_true X]
  rintro r w3 ⟨rfl,rfl⟩
  obtain⟨an,ar⟩:=X
  go_wp2_with fail
  refine(dw D I J A.length _).mono ?_
  rw[decide_eq_true (uH H0)]
  rintro r w4 ⟨rfl,d⟩
  have u:=(uH G).all d
  have h:=(uH H).all d
  have F:=(uH z).trans (d.mono (uH z).size)
  clear d Q K G H z L N O Z f1 f2
  have Q:=u.c0;have K:=u.c1
  have G:=ac u;have H:=ac h;have z:=ac F
  have L:=h.c0;have N:=h.c1;have O:=h.c2;have Z:=h.free 0;have f1:=h.free 1;have f2:=h.free 2
  clear u h F
  clear K
  have K:=(uH G).c1
  go_wp2_with fail
  refine(dw D I J A.length _).mono ?_
  rw[decide_eq_true (uH H0)]
  rintro r w5 ⟨rfl,d⟩
  have u:=(uH G).all d
  have h:=(uH H).all d
  have F:=(uH z).trans (d.mono (uH z).size)
  clear d Q K G H z L N O Z f1 f2
  have z:=ac F
  have L:=h.c0;have N:=h.c1;have O:=h.c2;have Z:=h.free 0;have f1:=h.free 1;have f2:=h.free 2
  clear u h F
  go_wp2
  refine bodyPost_ret (v:=.tuple #[.agg #[.bool false,.slice none 0 0,.int .i64 0],.int .i64 0]) (by simp[results,Tryz.results206,go_sem,L,N,O]) rfl ⟨_,rfl,aB.zero _ _ _,aC (uH z) (by omega) _ _ _⟩
 ·clear HM
  have HN:=ac az
  have SH:=ac (fun Y h'=>uH U (-lz) Y h' (by omega))
  rw[ax]at SH
  clear az ax U
  go_wp2_with fail
  refine(du e 32768 _ (by decide) (by decide)).mono ?_
  rw[decide_eq_true X]
  rintro r w3 ⟨rfl,rfl⟩
  obtain⟨an,ar⟩:=X
  go_wp2_with fail
  refine(dw D I J A.length _).mono ?_
  rw[decide_eq_false h0]
  rintro r w4 ⟨rfl,d⟩
  have u:=(uH G).all d
  have h:=(uH H).all d
  have F:=(uH z).trans (d.mono (uH z).size)
  clear d Q K G H z L N O Z f1 f2
  have Q:=u.c0;have K:=u.c1
  have G:=ac u;have H:=ac h;have z:=ac F
  have L:=h.c0;have N:=h.c1;have O:=h.c2;have Z:=h.free 0;have f1:=h.free 1;have f2:=h.free 2
  clear u h F
  go_wp2_with fail
  refine(du (e+lz) 16384 _ (by decide) (by decide)).mono ?_
  rw[decide_eq_true h2]
  rintro r w5 ⟨rfl,rfl⟩
  obtain⟨a3,a4⟩:=h2
  go_wp2_with fail
  refine(dw D I J A.length _).mono ?_
  rw[decide_eq_false h0]
  rintro r w6 ⟨rfl,d⟩
  have u:=(uH G).all d
  have h:=(uH H).all d
  have F:=(uH z).trans (d.mono (uH z).size)
  clear d Q K G H z L N O Z f1 f2
  have Q:=u.c0;have K:=u.c1
  have G:=ac u;have H:=ac h;have z:=ac F
  clear u h F
  go_wp2_with fail
  refine(uH SH _ (hA.below (uH z))).mono ?_
  rintro r w7 ⟨v,rfl,⟨n2,a2,c2,L2,rfl,i1⟩,d⟩
  have h:=(uH H).all d
  have F:=(uH z).trans (d.mono (uH z).size)
  have I1:=ac i1;have B2:=ac F;have X2:=ac h
  clear d Q K G H z h F i1
  have h:=(uH X2).old (.cells #[.bool n2,.slice a2 L2.length c2] 33)
  have L:=h.c0;have N:=h.c1;have O:=h.c2;have Z:=h.free 0;have f1:=h.free 1;have f2:=h.free 2
  have X3:=ac h
  clear h
  go_wp2
  have j:au w6.heap.size w7 (.agg #[.bool n2,.slice a2 L2.length c2]) dm:=(uH HN)▸(⟨n2,a2,c2,L2,rfl,uH I1⟩:au w6.heap.size w7 (.agg #[.bool n2,.slice a2 L2.length c2]) (sE D A (-lz)))
  have j2:aB (w7.alloc (.cells #[.bool n2,.slice a2 L2.length c2] 33)) (.agg #[.bool n2,.slice a2 L2.length c2,.int .i64 (e+lz)]) dm (e+lz):=⟨n2,a2,c2,L2,rfl,(j.below ((Below.refl _ _).alloc (Nat.le_refl _) _)).mono (Nat.zero_le _)⟩
  have b3:=(uH B2).alloc (uH B2).size (.cells #[.bool n2,.slice a2 L2.length c2] 33)
  refine bodyPost_ret (v:=.tuple #[.agg #[.bool n2,.slice a2 L2.length c2,.int .i64 (e+lz)],.int .i64 0]) (by simp[results,Tryz.results206,go_sem,L,N,O]) rfl ⟨_,rfl,j2.put3 (uH X3) _ _ _,aC b3 (by omega) _ _ _⟩
theorem jg{B:Nat}{w:World}{v:Value}{z:Int}(e:Int)(h:au B w v z)(D:z.natAbs<dl)(F:-9223372036854775808≤e∧e≤9223372036854775807)(G:ch w):
  Calls Tryz.prog 206 #[v,.int .i64 e] w fun r d=>∃u,r=.returned (.tuple #[u,.int .i64 (cR z e)])∧aB d u (dM z e) (dX z e)∧Below w.heap.size w d:=by
 obtain⟨H,I,J,A,rfl,K,L,N,O⟩:=h.right D
 have:=iO H I J A e w K L F G
 rwa[N]at this
end Go.Proofs.YtcbcmlaogehimaaGreatDoor
