/- Part 8 of the texts. -/
import Derived.Test.YtcbcmlaogehimaaGreatDoorPartu07
import Derived.Shelf.Spec.TrailingZeros
set_option maxHeartbeats 4000000
namespace Go.Proofs.YtcbcmlaogehimaaGreatDoor
open Go.RowKit
attribute [local go_sem ↓] Go.wp_at_zero Go.wp_at_succ
theorem sO(ao:GY)(h:Nat)(n:Int)(w:World):
  GF 111 #[.agg #[.bool false,.slice ao 0 h],C0 n] w fun e G=>∃v,e=.returned v/\aA 0 G v 0/\H8 w G:=by
 rcases(show(32<=n/\0<n/\¬n<=-32/\¬n<0)\/(¬32<=n/\0<n/\¬n<=-32/\¬n<0)\/(¬32<=n/\¬0<n/\¬n<=-32/\¬n<0)\/(¬32<=n/\¬0<n/\¬n<=-32/\n<0)\/(¬32<=n/\¬0<n/\n<=-32/\n<0) by omega)with⟨l,t,D,F⟩|⟨l,t,D,F⟩|⟨l,t,D,F⟩|⟨l,t,D,F⟩|⟨l,t,D,F⟩
 all_goals
  go_enter Tryz.func111,Tryz.ntmps111
  go_wp2
  go_loopw[1] (fun i wr=>i=.int .i64 n/\wr=(w.alloc (.cells #[.bool false,.slice ao 0 h] 33)).alloc (.cells #[.bool false,.slice none 0 0] 33)) (fun _ _=>0)
  case atStart=>exact⟨rfl,rfl⟩
  case round=>
   obtain⟨rfl,rfl⟩:=hrel
   go_wp2
   go_loopw[1] (fun i wr=>i=.int .i64 n/\wr=(w.alloc (.cells #[.bool false,.slice ao 0 h] 33)).alloc (.cells #[.bool false,.slice none 0 0] 33)) (fun _ _=>0)
   case atStart=>exact⟨rfl,rfl⟩
   case round=>
    obtain⟨rfl,rfl⟩:=hrel
    go_wp2
    go_loopw[1] (fun i wr=>i=.int .i64 n/\wr=(w.alloc (.cells #[.bool false,.slice ao 0 h] 33)).alloc (.cells #[.bool false,.slice none 0 0] 33)) (fun _ _=>0)
    case atStart=>exact⟨rfl,rfl⟩
    case round=>
     obtain⟨rfl,rfl⟩:=hrel
     go_wp2
     go_loopw[1] (fun i wr=>i=.int .i64 n/\wr=(w.alloc (.cells #[.bool false,.slice ao 0 h] 33)).alloc (.cells #[.bool false,.slice none 0 0] 33)) (fun _ _=>0)
     case atStart=>exact⟨rfl,rfl⟩
     case round=>
      obtain⟨rfl,rfl⟩:=hrel
      go_wp2
      refine bodyPost_ret (v:=.agg #[.bool false,.slice ao 0 h]) (by simp[results,Tryz.results111,go_sem]) rfl ⟨.agg #[.bool false,.slice ao 0 h],rfl,aA.zero _ _ _ _,?_⟩;exact((Below.refl _ _).alloc (Nat.le_refl _) _).alloc (by simp) _
theorem uw(h:Bool)(ao:GY)(l:Nat)(A:H3)(n:Int)(w:World)(F:ai w ao l A)(G:aD h A=true)(H:-16384<=n/\n<=16384):
  GF 111 #[.agg #[.bool h,.slice ao A.length l],C0 n] w fun e t=>∃v,e=.returned v/\aA 0 t v (sM h A n)/\H8 w t:=by
 have I:=aG G
 by_cases D:A= []
 ·subst D
  have:h=false:=by cases h<;>simp_all
  subst this;have e:sM false [] n=0:=by rw[p5];simp[aj,qE,sg]
  rw[e];exact sO ao l n w
 ·exact sN h ao l A n w F D I.2.1 (by omega) H
def Q9(n:Bool)(L:H3):Bool:=decide (L.length<=40)|| !aD n L
end Go.Proofs.YtcbcmlaogehimaaGreatDoor
namespace Go.Proofs.YtcbcmlaogehimaaGreatDoor
open Go.RowKit
theorem vU(A S:H3)(x c y:Nat)(l:A[S.length]?.getD 0=y)(h:aj S+4294967296^S.length*c=aj (A.take S.length)*x):
  aj (S++[(y*x+c)%4294967296])+4294967296^(S.length+1)*((y*x+c)/4294967296)=aj (A.take (S.length+1))*x:=by
 rw[nr,aT A,l,Nat.add_mul];have e:=kE (4294967296^S.length) 4294967296 (y*x+c);rw[Nat.pow_succ];rw[Nat.mul_add,<-Nat.mul_assoc]at e;omega
theorem ux(x y c:Nat):(((y*x+c)%4294967296:Nat):Int)=((y:Int)*(x:Int)+(c:Int))%4294967296/\(((y*x+c)/4294967296:Nat):Int)=((y:Int)*(x:Int)+(c:Int))/4294967296:=by
 have e:((y*x:Nat):Int)=(y:Int)*(x:Int):=Int.natCast_mul y x;rw[<-e];omega
theorem yN(ao:GY)(ca:Nat)(A:H3)(x:Nat)(w:World)(hA:ai w ao ca A)(bx:x<4294967296)(la:A.length<=1073741824):
  GF 108 #[.slice ao A.length ca,.int .u32 (x:Int)] w fun e w'=>∃H F L',e=.returned (.slice H L'.length F)/\ai w' H F L'/\cj w.heap.size H L'/\L'.length=A.length+1/\aj L'=aj A*x/\H8 w w':=by
 obtain⟨i0,hi,ax,aI,a0⟩:=info_parts Tryz.info84;have aa:=fun(S:H3) (c y:Nat)=>vU A S x c y
 have ae:∀(S:H3) (c:Nat),S.length=A.length->aj S+4294967296^S.length*c=aj (A.take S.length)*x->aj (S++[c])=aj A*x:=by
  intro S c hl h;rw[nr,h,hl,List.take_length]
 have J:=ac aa;have K:=ac ae;clear aa ae
 go_enter Tryz.func108,Tryz.ntmps108
 go_wp2
 go_loopw[5,6,7,8] (fun v c i _ wr=>∃(S:H3) (y:Nat),S.length<=A.length/\i=.int .i64 (S.length:Nat)/\c=.int .u64 y/\y<4294967296/\wr.ownsRow w.heap.size 84 1 v S.length (S.map eM)/\bQ S/\H8 w wr/\Hid (aj S+4294967296^S.length*y=aj (A.take S.length)*x))
  (fun _ _ i _ _=>A.length-(intOf i).toNat)
 case atStart=>
  refine⟨[],0,by simp,rfl,rfl,by omega,?_,by intro x hx;simp at hx,(Below.refl _ _).alloc (Nat.le_refl _) _,by unfold Hid;simp[aj]⟩;exact World.ownsRow_made w #[] 0 (Nat.le_refl _) (by simp[maxLen]) (by simp)
 case round=>
  obtain⟨S,y,hk,rfl,rfl,hy,G,hf,D,hv⟩:=hrel
  by_cases a4:S.length<A.length
  ·obtain⟨z,hz⟩:∃z,A[S.length]?.getD 0=z:=⟨_,rfl⟩
   have bz:z<4294967296:=by rw[<-hz];exact hA.lt _
   obtain⟨b1,o1,ba,a1,a2⟩:=hA.ne (by omega);have L:=a2 S.length a4;rw[hz]at L;have dA:wr.cell? ⟨b1,o1+S.length,none⟩=some (.int .u32 (z:Int)):=by rw[D.cell (p:=⟨b1,o1+S.length,none⟩) a1];exact L
   have a5:=ac (uH J S y z hz hv.out);have a6:=yD z x bz bx;obtain⟨bb,bc⟩:=AU z x bz bx;obtain⟨ec,ed⟩:=ux x z y;have am:(z*x+y)/4294967296<4294967296:=by omega
   have EC:=ac ec;have ED:=ac ed;have BY:=ac am;have M:=D.size;have HF:=ac hf;clear hz hv J K hf a2 L ec ed am a6;subst ba;generalize a3:S.length=k at*;have N:=ac a3;clear a3;have a7:(k:Int)<(A.length:Int):=by omega
   go_wp2_with(at_builtin;refine wpList_append_own _ rfl _ _ 31 rfl w.heap.size 84 i0 (.int .u32 0) 1 4 Tryz.underlying31 hi ax aI a0 rfl (by decide) _ _ _ rfl (G.alloc _) ⟨wr.heap.size,0,none⟩ 1 1 [.int .u32 (((z:Int)*(x:Int)+(y:Int))%4294967296)] rfl rfl (cell_one_new _ _ _) (fun u hu=>by simp at hu;subst hu;rfl) (by unfold maxLen;omega) (by omega) (by simp;omega) ?_;intro v' w1 l t _;have O:H8 w w1:=((D.alloc M _).grown t (by simp;omega) (fun g hg=>(G.lt g hg).1));have Q:=ac (nB (x:=(z*x+y)%4294967296) l (uH EC).symm);clear l t)
   have a9:=uH a5;have U:(S++[(z*x+y)%4294967296]).length=k+1:=by simp[uH N]
   go_roundw
   case rel=>exact⟨S++[(z*x+y)%4294967296],(z*x+y)/4294967296,by omega,by rw[U];go_num,dG (uH ED).symm,uH BY,by rw[U];exact uH Q,(uH HF).snoc (Nat.mod_lt _ (by decide)),O,by rw[U];exact a9⟩
   case measure=>simp[intOf];omega
  ·have Z:S.length=A.length:=by omega
   have I:=uH K S y Z hv.out;have ap:=ac I;have N:=ac Z;have M:=D.size;have HF:=ac (hf.snoc hy);clear I hv J K hf Z;have a7:¬((S.length:Nat):Int)<(A.length:Int):=by omega
   go_wp2_with(at_builtin;refine wpList_append_own _ rfl _ _ 31 rfl w.heap.size 84 i0 (.int .u32 0) 1 4 Tryz.underlying31 hi ax aI a0 rfl (by decide) _ _ _ rfl (G.alloc _) ⟨wr.heap.size,0,none⟩ 1 1 [.int .u32 (y:Int)] rfl rfl (cell_one_new _ _ _) (fun u hu=>by simp at hu;subst hu;rfl) (by unfold maxLen;omega) (by omega) (by simp;omega) ?_;intro v' w1 l t _;have O:H8 w w1:=((D.alloc M _).grown t (by simp;omega) (fun g hg=>(G.lt g hg).1));have Q:=ac (nB (x:=y) l rfl);clear l t)
   obtain⟨H,F,e1,e2,e3,e4⟩:=jG (uH Q) (uH HF);subst e1
   go_ret
   exact⟨H,F,S++[y],rfl,e2,e3,by have:=uH N;simp;omega,uH ap,O⟩
attribute [local go_sem ↓] Go.wp_at_zero Go.wp_at_succ
theorem ET(W:World):(W.alloc (.cells #[.int .u32 0] 84)).ownsRow W.heap.size 84 1 (.slice (some ⟨W.heap.size,0,none⟩) 1 1) 1 [.int .u32 0]:=
 ⟨by simp,.inr ⟨W.heap.size,1,#[.int .u32 0],rfl,Nat.le_refl _,heap_alloc_new W _,Nat.le_refl _,by simp[maxLen],by simp,by simp⟩⟩
theorem sP(B:H3)(k:Nat)(h:k<B.length):aj (B.drop k)=B[k]?.getD 0+4294967296*aj (B.drop (k+1)):=by
 rw[List.drop_eq_getElem_cons h]
 simp[aj,h]
theorem EU(l t:Bool)(A B S:H3)(h:aj S=aj A*aj B):af (l != t) S=af l A*af t B:=by
 unfold af;rw[h]
 cases l<;>cases t<;>simp[Int.natCast_mul,Int.neg_mul,Int.mul_neg]
theorem qJ(G H:Bool)(ao bo:GY)(ca cb:Nat)(A B:H3)(w:World)(hA:ai w ao ca A)(hB:ai w bo cb B)(la:A.length<=1048576)(lb:B.length<=1048576):
  GF 54 #[.agg #[.bool G,.slice ao A.length ca],.agg #[.bool H,.slice bo B.length cb]] w fun e D=>∃v,e=.returned v/\aA 0 D v (af G A*af H B)/\H8 w D:=by
 obtain⟨i0,hi,bs,bt,bv⟩:=info_parts Tryz.info84;have HZ:=ac (fun S=>EU G H A B S);generalize af G A*af H B=z at*
 go_enter Tryz.func54,Tryz.ntmps54
 go_wp2
 go_loopw[5,6,7] (fun v i _ wr=>∃(m b l cap:Nat) (S:H3),m<=B.length/\i=.int .i64 ((m:Int)-1)/\v=.slice (some ⟨b,l,none⟩) S.length cap/\Hid (ai wr (some ⟨b,l,none⟩) cap S)/\aK wr w.heap.size (.bool G) (.slice ao A.length ca)/\aK wr (w.heap.size+1) (.bool H) (.slice bo B.length cb)/\aK wr (w.heap.size+2) (.bool false) (.slice none 0 0)/\S.length+2*m<=A.length+1+2*B.length/\Hid (aj S=aj A*aj (B.drop m))/\H8 w wr)
  (fun _ i _ _=>(intOf i+1).toNat)
 case atStart=>
  refine⟨B.length,w.heap.size+3,0,0,[],Nat.le_refl _,rfl,rfl,ai.nil _ _ _,(((aK.new _ _ _).old _).old _).old _,?_,?_,by simp,by unfold Hid;simp[aj],?_⟩
  ·have:=((aK.new (w.alloc (.cells #[.bool G,.slice ao A.length ca] 33)) (.bool H) (.slice bo B.length cb)).old (.cells #[.bool false,.slice none 0 0] 33)).old (.cells #[] 84)
   simpa using this
  ·have:=(aK.new ((w.alloc (.cells #[.bool G,.slice ao A.length ca] 33)).alloc (.cells #[.bool H,.slice bo B.length cb] 33)) (.bool false) (.slice none 0 0)).old (.cells #[] 84)
   simpa using this
  ·exact((((Below.refl _ _).alloc (Nat.le_refl _) _).alloc (by simp) _).alloc (by simp;omega) _).alloc (by simp;omega) _
 case round=>
  obtain⟨m,b,l,cap,S,hm,rfl,rfl,hS,x0,x1,x2,aI,hv,F⟩:=hrel
  by_cases h0:m=0
  ·subst h0
   have hz:=uH HZ S (by have:=hv.out;simpa using this);have Z:=ac hz;have X2:=ac x2;have I:=ac F;have p0:=x0.c0;have q0:=x1.c0;have bU:=x2.lt;clear hz HZ hv x0 x1 x2 F hA hB;go_wp2_with fail;have t:=dZ 0 (G != H) (some ⟨b,l,none⟩) cap S wr (uH hS) (cj.zero (uH hS)) (by omega);rw[uH Z]at t;have a1:(!G==H)=(G != H):=by cases G<;>cases H<;>rfl
   rw[a1];refine t.mono ?_;rintro e w2 ⟨v,rfl,⟨n2,a2,c2,L2,rfl,i1⟩,a5⟩;have X4:=(uH X2).below a5 (uH X2).lt;have y0:=X4.c0;have y1:=X4.c1;have f0:=X4.free 0;have f1:=X4.free 1;have bi:=ac ((uH I).trans (a5.mono (by omega)));have I1:=ac i1;have bm:=ac X4;clear t X4 a5 i1
   go_wp2
   refine bodyPost_ret (v:=.agg #[.bool n2,.slice a2 L2.length c2]) (by simp[results,Tryz.results54,go_sem,y0,y1]) rfl ⟨.agg #[.bool n2,.slice a2 L2.length c2],rfl,?_,?_⟩
   ·have i:=uH I1
    exact⟨n2,a2,c2,L2,rfl,i.1.box (uH bm) _ _,i.2.1,i.2.2.1,i.2.2.2.1,i.2.2.2.2.1,by have:=i.2.2.2.2.2;omega⟩
   ·exact((uH bi).setCell (by simp;omega) _).setCell (by simp;omega) _
  ·obtain⟨k,rfl⟩:∃k,m=k+1:=⟨m-1,by omega⟩
   rw[show(((k+1:Nat):Int)-1)=(k:Int) by omega];clear h0 HZ;obtain⟨x,hx⟩:∃x,B[k]?.getD 0=x:=⟨_,rfl⟩;have bx:x<4294967296:=by rw[<-hx];exact hB.lt _
   obtain⟨b2,o2,bw,a0,bd⟩:=hB.ne (by omega);have a3:=bd k (by omega);rw[hx]at a3;have J:∀L1 L2:H3,aj L1=aj A*x->aj L2=aj (0::S)+aj L1->aj L2=aj A*aj (B.drop k):=by
    intro L1 L2 e1 e2;have:=hv.out;rw[e2,e1,sP B k (by omega),hx,Nat.mul_add];simp only[aj];rw[this,Nat.zero_add,<-Nat.mul_assoc,<-Nat.mul_assoc,Nat.mul_comm 4294967296 (aj A)];omega
   have K:∀j u,(S.map eM)[j]? =some u->(wr.alloc (.cells #[.int .u32 0] 84)).cell? ((⟨b,l,none⟩:Addr).add j)=some u:=by
    intro j u hu;rw[List.getElem?_map]at hu;have hj:j<S.length:=by
     rcases Nat.lt_or_ge j S.length with e|e
     ·exact e
     ·rw[List.getElem?_eq_none e]at hu;simp at hu
    obtain⟨b',bJ,e0,bz,bA⟩:=(uH hS).ne (by omega);simp only[Option.some.injEq,Addr.mk.injEq,and_true]at e0;obtain⟨rfl,rfl⟩:=e0;have e3:(⟨b,l,none⟩:Addr).add j=⟨b,l+j,none⟩:=by simp[Addr.add]
    rw[e3,((Below.refl wr.heap.size wr).alloc (Nat.le_refl _) _).cell (p:=⟨b,l+j,none⟩) bz,bA j hj];rw[List.getElem?_eq_getElem hj]at hu⊢
    simpa[eM]using hu
   have ae:∀u∈S.map eM,u.oneCell'=true:=by
    intro u hu;obtain⟨y,_,rfl⟩:=List.mem_map.1 hu;rfl
   have am:bQ (0::S):=by
    intro y hy;rcases List.mem_cons.1 hy with rfl|hy
    ·decide
    ·exact(uH hS).2.1 y hy
   have L:=ac J;have M:=ac K;have ap:=ac ae;have ax:=ac am;have a6:=ac a3;have X0:=ac x0;have X1:=ac x1;have X2:=ac x2;have I:=ac F;have a7:=ac aI;have z0:=x0.lt;have z1:=x1.lt;have z2:=x2.lt;have ls:S.length<=4000000:=by omega
   have bV:(0:Int)<=(k:Int):=by omega
   have b0:(k:Int)<(B.length:Int):=by omega
   subst bw;have HA:=ac hA;have HB:=ac a0;clear J K ae am a3 x0 x1 x2 F aI hv hx bd hA hB hS a0
   go_wp2_with(at_builtin;refine wpList_append_own _ rfl _ _ 31 rfl wr.heap.size 84 i0 (.int .u32 0) 1 4 Tryz.underlying31 hi bs bt bv rfl (by decide) _ 1 [.int .u32 0] rfl (ET wr) ⟨b,l,none⟩ S.length cap (S.map eM) rfl (by simp) (uH M) (uH ap) (by unfold maxLen;omega) (by omega) (by simp) ?_;intro v' w1 O Q _;have a9:=ac O;have ba:=ac Q;clear O Q)
   obtain⟨bE,be,e1,e2,e3,e4⟩:=jG (S:=0::S) (uH a9) (uH ax);subst e1;have N:H8 wr w1:=((Below.refl _ _).alloc (Nat.le_refl _) _).grown (uH ba) (by simp) (fun g hg=>by have e:some wr.heap.size=some g:=hg;cases e;exact Nat.le_refl _);have x0:=(uH X0).below N (uH X0).lt;have x1:=(uH X1).below N (uH X1).lt;have x2:=(uH X2).below N (uH X2).lt;have b1:H8 w w1:=(uH I).trans (N.mono (uH I).size);have bb:w1.cell? ⟨b2,o2+k,none⟩=some (.int .u32 (x:Int)):=by rw[b1.cell (p:=⟨b2,o2+k,none⟩) (uH HB)];exact uH a6
   have bc:b2<w1.heap.size:=Nat.lt_of_lt_of_le (uH HB) b1.size;have bn:(0::S).length<=35184372088830:=by simp;omega
   have bp:=ac ((uH HA).below b1);have E2:=ac e2;have B1:=ac b1;have Y0:=ac x0;have Y1:=ac x1;have Y2:=ac x2;have hK:∀D,H8 w1 D->H8 w1 D/\D.cell? ⟨w.heap.size,1,none⟩=some (.slice ao A.length ca)/\D.cell? ⟨w.heap.size+1,1,none⟩=some (.slice (some ⟨b2,o2,none⟩) B.length cb)/\D.cell? ⟨b2,o2+k,none⟩=some (.int .u32 (x:Int)):=fun D h=>
    ⟨h,(x0.below h x0.lt).c1,(x1.below h x1.lt).c1,(h.cell (p:=⟨b2,o2+k,none⟩) bc).trans bb⟩
   have HK:=ac hK;clear hK x0 x1 x2 b1 bb e2 e3 e4 a9 ba N X0 X1 X2 I a6 M ap ax HA HB;refine aB (fun W=>W=w1) rfl ?_;rintro W0 e0;subst e0
   go_region_held3(fun D=>H8 W0 D/\D.cell? ⟨w.heap.size,1,none⟩=some (.slice ao A.length ca)/\D.cell? ⟨w.heap.size+1,1,none⟩=some (.slice (some ⟨b2,o2,none⟩) B.length cb)/\D.cell? ⟨b2,o2+k,none⟩=some (.int .u32 (x:Int)))
    (first|exact uH HK _ (Below.refl _ _).drew|exact uH HK _ (by assumption))
    (first|(go_at_call 108;refine(yN ao ca A x _ ((uH bp).below (And.left (by assumption))) bx (by omega)).mono ?_;rintro e w3 ⟨bI,c3,L3,rfl,g1,g2,g3,g4,U⟩;have a4:H8 W0 w3:=Below.trans (And.left (by assumption)) (U.mono (Below.size (And.left (by assumption))));have G1:=ac g1;have G3:=ac g3;have G4:=ac g4;have l3:L3.length<=35184372088830:=(by omega);clear U g1 g2 g3 g4)|(go_at_call 107;refine(qw bE bI be c3 (0::S) L3 _ ((uH E2).below a4) (uH G1) bn l3).mono ?_;rintro e w4 ⟨b4,c4,L4,rfl,g1,g2,g3,g4,U⟩;have aa:H8 W0 w4:=a4.trans (U.mono a4.size);have J1:=ac g1;have J3:=ac g3;have J4:=ac g4;clear U g1 g2 g3 g4))
   obtain⟨b5,o5,e5,b3,bG⟩:=(uH J1).ne (by have:=uH J3;omega);subst e5;have bq:=ac (uH L L3 L4 (uH G4) (uH J4));have br:L4.length+2*k<=A.length+1+2*B.length:=by
    have h1:=uH J3;have h2:=uH G3;have h3:=uH a7;simp only[List.length_cons]at h1;omega
   clear bG L
   go_wp2
   go_roundw
   case rel=>exact⟨k,b5,o5,c4,L4,by omega,by go_num,rfl,uH J1,(uH Y0).below aa (uH Y0).lt,(uH Y1).below aa (uH Y1).lt,(uH Y2).below aa (uH Y2).lt,br,uH bq,(uH B1).trans (aa.mono (uH B1).size)⟩
   case measure=>simp[intOf]
end Go.Proofs.YtcbcmlaogehimaaGreatDoor
namespace Go.Proofs.YtcbcmlaogehimaaGreatDoor
open Go.RowKit
def j3(x:Int):Bool:=decide (-9223372036854775808<=x/\x<=9223372036854775807)
def vC(neg:Bool)(L:H3):Int:=if aD neg L then(if j3 (af neg L)then 0 else 2)else 1
def vD(neg:Bool)(L:H3):Int:=if aD neg L&&j3 (af neg L)then af neg L else 0
theorem qK(v x i:Nat)(h:v<2^i):v|||x*2^i=v+x*2^i:=by
 have:=Nat.two_pow_add_eq_or_of_lt h x;rw[Nat.mul_comm x,Nat.or_comm,<-this];omega
theorem Jv(v x k:Nat)(l:k<=1)(h:v<4294967296^k)(t:x<4294967296):
  bits BinOp.or IntKind.u64 (v:Int) (IntKind.u64.wrap ((x:Int)*2^(k*32)))=((v+4294967296^k*x:Nat):Int):=by
 rcases(show k=0\/k=1 by omega)with rfl|rfl
 ·have e:IntKind.u64.wrap ((x:Int)*2^(0*32))=((x:Nat):Int):=by
   simp only[IntKind.wrap,IntKind.signed,IntKind.bits];simp;omega
  rw[e,u64_or_nat v x (by simp at h;omega) (by omega)];have:v=0:=by simpa using h
  subst this;simp
 ·have e:IntKind.u64.wrap ((x:Int)*2^(1*32))=((x*2^32:Nat):Int):=by
   simp only[IntKind.wrap,IntKind.signed,IntKind.bits];simp;omega
  rw[e,u64_or_nat v (x*2^32) (by simp at h;omega) (by omega),qK v x 32 (by simpa using h)]
  congr 1
  simp;omega
theorem Co(v:Nat)(h:v<=9223372036854775808):wrap64 (IntKind.u64.wrap (-(v:Int)))= -(v:Int):=by
 unfold wrap64;simp only[IntKind.wrap,IntKind.signed,IntKind.bits]
 simp
 omega
theorem vV(neg:Bool)(ao:GY)(cap:Nat)(L:H3)(w:World)(h:ai w ao cap L)(hr:aD neg L=true)(hl:L.length<=2):
  BS 290 #[.agg #[.bool neg,.slice ao L.length cap]] w (.tuple #[C0 (vD neg L),C0 (vC neg L)]):=by
 have F:=gC neg ao cap L (w.alloc (.cells #[.bool neg,.slice ao L.length cap] 33)) (h.below ((Below.refl _ _).alloc (Nat.le_refl _) _)) (by omega);have hz:gL neg L=0:=by simp[gL,hr]
 rw[hz]at F;have hF:(neg=true->aj L<=9223372036854775808->vD neg L= -(aj L:Int)/\vC neg L=0)/\(neg=true->9223372036854775808<aj L->vD neg L=0/\vC neg L=2)/\(neg=false->aj L<9223372036854775808->vD neg L=(aj L:Int)/\vC neg L=0)/\(neg=false->9223372036854775808<=aj L->vD neg L=0/\vC neg L=2):=by
  unfold vD vC;rw[hr];refine⟨?_,?_,?_,?_⟩<;>(rintro rfl l;simp only[af,j3,if_true,Bool.true_and,Bool.false_eq_true,if_false])
  ·rw[decide_eq_true (by omega)];simp
  ·rw[decide_eq_false (by omega)];simp
  ·rw[decide_eq_true (by omega)];simp
  ·rw[decide_eq_false (by omega)];simp
 have D:=ac hF;clear hF;generalize vD neg L=r at*;generalize vC neg L=e2 at*;have I:=ac F;clear F hz hr
 go_enter Tryz.func290,Tryz.ntmps290
 go_wp2_with fail;refine(uH I).mono ?_;rintro e w1 ⟨rfl,G⟩;have x0:aK w1 w.heap.size (.bool neg) (.slice ao L.length cap):=(aK.new _ _ _).below G (by simp);have p0:=x0.c0;have p1:=x0.c1;have t:H8 w w1:=((Below.refl _ _).alloc (Nat.le_refl _) _).trans (G.mono (by simp));clear x0 G I
 go_wp2
 go_loop [5,19] (fun s i=>∃k:Nat,k<=L.length/\i=.int .i64 k/\s=.int .u64 ((aj (L.take k):Nat):Int)) (fun _ i=>L.length-(intOf i).toNat)
 case atStart=>exact⟨0,Nat.zero_le _,rfl,by simp[aj]⟩
 case round=>
  obtain⟨k,hk,rfl,rfl⟩:=hrel
  by_cases J:k<L.length
  ·obtain⟨b,Z,ap,hb,hc⟩:=h.ne (by omega)
   have c1:=hc k J;have d1:w1.cell? ⟨b,Z+k,none⟩=some (.int .u32 ((L[k]?.getD 0:Nat):Int)):=by rw[t.cell (p:=⟨b,Z+k,none⟩) hb];exact c1
   have hx:=h.lt k;have l:=jm L h.2.1 k;have K:=aT L k;have aa:=ac K;clear c1 hc K;generalize L[k]?.getD 0=x at*;generalize ax:aj (L.take k)=v at*;clear ax h;subst ap;have ae:k<=1:=by omega
   have M:=Jv v x k ae l hx;have am:=ac M;clear M
   go_wp2
   go_round
   case rel=>exact⟨k+1,by omega,by go_num,dG (by rw[uH am,uH aa])⟩
   case measure=>simp[intOf];omega
  ·have N:k=L.length:=by omega
   rw[N,List.take_length];clear N hk J;have O:=gK L h.2.1;have Q:aj L<18446744073709551616:=by
    refine Nat.lt_of_lt_of_le O ?_;have:=Nat.pow_le_pow_right (n:=4294967296) (by decide) hl
    simpa using this
   generalize aj L=v at*;clear O h
   cases neg
   ·rcases Nat.lt_or_ge v 9223372036854775808 with l|l
    ·have H:=ac ((uH D).2.2.1 rfl l)
     have U:(v:Int)<9223372036854775808:=by omega
     clear D l Q
     go_wp2
     go_ret2
     exact⟨jH (uH H).1.symm (uH H).2.symm,t⟩
    ·have H:=ac ((uH D).2.2.2 rfl l)
     have U:¬(v:Int)<9223372036854775808:=by omega
     clear D
     go_wp2
     go_ret2
     exact⟨jH (uH H).1.symm (uH H).2.symm,t⟩
   ·rcases Nat.lt_or_ge 9223372036854775808 v with l|l
    ·have H:=ac ((uH D).2.1 rfl l)
     have U:¬(v:Int)<=9223372036854775808:=by omega
     clear D
     go_wp2
     go_ret2
     exact⟨jH (uH H).1.symm (uH H).2.symm,t⟩
    ·have H:=ac ((uH D).1 rfl l)
     clear D
     go_wp2
     go_ret2
     refine⟨jH ?_ (uH H).2.symm,t⟩;rw[(uH H).1];exact Co v l
theorem tN(neg:Bool)(ao:GY)(cap:Nat)(L:H3)(w:World)(h:ai w ao cap L)(N:L.length<=35184372088830):
  BS 290 #[.agg #[.bool neg,.slice ao L.length cap]] w (.tuple #[C0 (vD neg L),C0 (vC neg L)]):=by
 cases hr:aD neg L
 ·have l:=gC neg ao cap L (w.alloc (.cells #[.bool neg,.slice ao L.length cap] 33)) (h.below ((Below.refl _ _).alloc (Nat.le_refl _) _)) N
  have F:gL neg L=1:=by simp[gL,hr]
  rw[F]at l;have D:=ac l;have H:=ac (show vD neg L=0/\vC neg L=1 by simp[vD,vC,hr]);generalize vD neg L=r at*;generalize vC neg L=Z at*;clear l F hr
  go_enter Tryz.func290,Tryz.ntmps290
  go_wp2_with fail;refine(uH D).mono ?_;rintro e M ⟨rfl,t⟩
  go_wp2
  go_ret2
  exact⟨jH (uH H).1.symm (uH H).2.symm,((Below.refl _ _).alloc (Nat.le_refl _) _).trans (t.mono (by simp))⟩
 ·by_cases I:L.length<=2
  ·exact vV neg ao cap L w h hr I
  ·have l:=gC neg ao cap L (w.alloc (.cells #[.bool neg,.slice ao L.length cap] 33)) (h.below ((Below.refl _ _).alloc (Nat.le_refl _) _)) N
   have F:gL neg L=0:=by simp[gL,hr]
   rw[F]at l;have D:=ac l;have G:18446744073709551616<=aj L:=by
    rcases(aG hr).2.1 with e|e
    ·rw[e]at I;simp at I
    ·have h3:=oC L e
     have U:=Nat.pow_le_pow_right (n:=4294967296) (by decide) (show 2<=L.length-1 by omega)
     simp at U;omega
   have O:j3 (af neg L)=false:=by
    unfold j3 af;rw[decide_eq_false_iff_not]
    cases neg<;>simp<;>omega
   have H:=ac (show vD neg L=0/\vC neg L=2 by simp[vD,vC,hr,O]);generalize vD neg L=r at*;generalize vC neg L=Z at*;clear l F hr G O
   go_enter Tryz.func290,Tryz.ntmps290
   go_wp2_with fail;refine(uH D).mono ?_;rintro e M ⟨rfl,t⟩;have J:aK M w.heap.size (.bool neg) (.slice ao L.length cap):=(aK.new _ _ _).below t (by simp);have p0:=J.c0;have p1:=J.c1;have K:H8 w M:=((Below.refl _ _).alloc (Nat.le_refl _) _).trans (t.mono (by simp));clear J t D
   go_wp2
   go_ret2
   exact⟨jH (uH H).1.symm (uH H).2.symm,K⟩
theorem ia(n:Int)(w:World)(h0:-9223372036854775808<=n)(h1:n<=9223372036854775807):
  GF 28 #[C0 n] w fun e w'=>∃v,e=.returned v/\aS 2 w.heap.size w' v n/\H8 w w':=by
 obtain⟨m,D⟩:∃m,m=n.natAbs:=⟨_,rfl⟩;have hf:bQ [m%4294967296,m/4294967296]:=by intro x hx;simp at hx;omega
 have HF:=ac hf;have M:=ac D;clear hf D
 by_cases hn:n<0
 ·have F:af true [m%4294967296,m/4294967296]=n:=by
   have:=uH M;unfold af;rw[if_pos rfl,pZ];omega
  have N:=ac F;clear F
  go_enter Tryz.func28,Tryz.ntmps28
  go_wp2_with fail;have D:=uH M;have G:=lF (w.alloc (.cells #[.bool false,.slice none 0 0] 33)) (w.heap.size+1) ((-(n+1)+1)%4294967296) ((-(n+1)+1)/4294967296) (m%4294967296) (m/4294967296) (by simp) (by omega) (by omega);refine(dZ (w.heap.size+1) true (some ⟨w.heap.size+1,0,none⟩) 2 [m%4294967296,m/4294967296] _ (G.limbs (uH HF) 2 (by simp)) (.inr ⟨_,_,rfl,Nat.le_refl _⟩) (by simp)).mono ?_;rw[uH N];rintro e Z ⟨v,rfl,⟨H,I,J,K,rfl,L⟩,h⟩;have l:aK Z w.heap.size (.bool false) (.slice none 0 0):=((aK.new _ _ _).old _).below h (by simp;omega);have O:=l.c0;have Q:=l.c1;have f0:=l.free 0;have f1:=l.free 1;have U:=ac L;have t:=ac ((((Below.refl _ w).alloc (Nat.le_refl _) (.cells #[.bool false,.slice none 0 0] 33)).alloc (by simp) _).trans (h.mono (by simp;omega)));clear L h l G D
  go_wp2
  refine bodyPost_ret (v:=.agg #[.bool H,.slice I K.length J]) (by simp[results,Tryz.results28,go_sem,O,Q]) rfl ⟨.agg #[.bool H,.slice I K.length J],rfl,?_,?_⟩
  ·exact aS.stored (uH U) (by simp) (by simp) (by omega) _ _
  ·exact((uH t).setCell (by simp) _).setCell (by simp) _
 ·have F:af false [m%4294967296,m/4294967296]=n:=by
   have:=uH M;unfold af;rw[if_neg (by decide),pZ];omega
  have N:=ac F;clear F
  go_enter Tryz.func28,Tryz.ntmps28
  go_wp2_with fail;have D:=uH M;have G:=lF (w.alloc (.cells #[.bool false,.slice none 0 0] 33)) (w.heap.size+1) (n%4294967296) (n/4294967296) (m%4294967296) (m/4294967296) (by simp) (by omega) (by omega);refine(dZ (w.heap.size+1) false (some ⟨w.heap.size+1,0,none⟩) 2 [m%4294967296,m/4294967296] _ (G.limbs (uH HF) 2 (by simp)) (.inr ⟨_,_,rfl,Nat.le_refl _⟩) (by simp)).mono ?_;rw[uH N];rintro e Z ⟨v,rfl,⟨H,I,J,K,rfl,L⟩,h⟩;have l:aK Z w.heap.size (.bool false) (.slice none 0 0):=((aK.new _ _ _).old _).below h (by simp;omega);have O:=l.c0;have Q:=l.c1;have f0:=l.free 0;have f1:=l.free 1;have U:=ac L;have t:=ac ((((Below.refl _ w).alloc (Nat.le_refl _) (.cells #[.bool false,.slice none 0 0] 33)).alloc (by simp) _).trans (h.mono (by simp;omega)));clear L h l G D
  go_wp2
  refine bodyPost_ret (v:=.agg #[.bool H,.slice I K.length J]) (by simp[results,Tryz.results28,go_sem,O,Q]) rfl ⟨.agg #[.bool H,.slice I K.length J],rfl,?_,?_⟩
  ·exact aS.stored (uH U) (by simp) (by simp) (by omega) _ _
  ·exact((uH t).setCell (by simp) _).setCell (by simp) _
def cX(w:World):Prop:=TabAt 1 Lib.deBruijn32tab w
theorem cX.below{w l:World}{B:Nat}(h:cX w)(t:Below B w l)(D:1<B):cX l:=fun j F=>by
 rw[t.cell (p:=⟨1,j,none⟩) D];exact h j F
theorem cX.pos{w:World}(h:cX w):1<w.heap.size:=World.block_lt_of_cell? w _ (h 0 (by decide))
theorem cX.all{w l:World}(h:cX w)(t:H8 w l):cX l:=h.below t h.pos
theorem Cp(x k h:Nat)(w:World)(D:((x:Int)==0)=false)
  (l:bits BinOp.and IntKind.u32 (x:Int) (-(x:Int)%4294967296)*125613361%4294967296/134217728=(h:Int))
  (G:h<32) (H:k<32) (t:w.cell? ⟨1,h,none⟩=some (.int .u8 k)):
  GF 265 #[.int .u32 x] w fun e F=>e=.returned (C0 k)/\w=F:=by
 go_enter Tryz.func265,Tryz.ntmps265
 go_wp2_with(simp only[l])
 go_ret
 exact⟨rfl,rfl⟩
theorem EV(x:Nat)(w:World)(F:x<4294967296)(I:cX w):
  GF 265 #[.int .u32 x] w fun e J=>e=.returned (C0 (Lib.ctz 32 x))/\w=J:=by
 by_cases l:x=0
 ·subst l
  go_enter Tryz.func265,Tryz.ntmps265
  go_wp2
  go_ret
  exact⟨rfl,rfl⟩
 ·obtain⟨t,G⟩:=Lib.lowest_bit 32 x l F
  obtain⟨H,D⟩:=Lib.deBruijn32_at _ G;have h:=I _ H;rw[D]at h;exact Cp x _ _ w (by simp;omega) (tz32_key x _ F l t) H G h
theorem eY(n m:Int)(w:World)(I:0<=m)(G:m<=100000):
  GF 236 #[C0 n,C0 m] w fun e H=>e=.returned (.bool (decide (-m<=n/\n<=m)))/\w=H:=by
 have J:IntKind.i64.wrap (-m)= -m:=by
  simp only[IntKind.wrap,IntKind.signed,IntKind.bits]
  simp
  omega
 by_cases l:-m<=n
 ·by_cases t:n<=m
  ·go_enter Tryz.func236,Tryz.ntmps236
   go_wp2
   go_ret
   exact⟨kC (by simp[l,t]),rfl⟩
  ·go_enter Tryz.func236,Tryz.ntmps236
   go_wp2
   go_ret
   exact⟨kC (by simp[t]),rfl⟩
 ·have D:¬(-m<=n/\n<=m):=fun h=>l h.1
  have F:=ac (decide_eq_false D);rw[uH F];clear D F
  go_enter Tryz.func236,Tryz.ntmps236
  go_wp2
  go_ret
  exact⟨rfl,rfl⟩
theorem e9(neg:Bool)(ao:GY)(cap:Nat)(n:Nat)(w:World):
  BS 237 #[.agg #[.bool neg,.slice ao n cap]] w (.bool (decide (n=0))):=by
 by_cases h:n=0
 ·subst h
  go_enter Tryz.func237,Tryz.ntmps237
  go_wp2
  go_ret
  exact⟨rfl,(Below.refl _ _).alloc (Nat.le_refl _) _⟩
 ·have t:((n:Int)==0)=false:=by simp;omega
  have H:=ac (decide_eq_false h);clear h
  go_enter Tryz.func237,Tryz.ntmps237
  go_wp2
  go_ret
  exact⟨kC (uH H).symm,(Below.refl _ _).alloc (Nat.le_refl _) _⟩
def jv(neg:Bool)(n:Nat):Int:=if n=0 then 0 else if neg then-1 else 1
def ib(v:Nat):Int:=if v=0 then 0 else(tz v:Int)
theorem nD(v:Nat)(h:v≠0):ib v=tz v:=by unfold ib;rw[if_neg h]
theorem nE(neg:Bool)(ao:GY)(cap:Nat)(L:H3)(w:World)(h:ai w ao cap L)(hl:L.length<=1073741824)(hT:cX w):
  BS 235 #[.agg #[.bool neg,.slice ao L.length cap]] w (C0 (ib (aj L))):=by
 by_cases F:L= []
 ·subst F
  go_enter Tryz.func235,Tryz.ntmps235
  go_wp2
  refine wp_loop_rounds 1 ?_;rw[rounds_succ]
  go_wp2
  go_ret
  exact⟨rfl,(Below.refl _ _).alloc (Nat.le_refl _) _⟩
 obtain⟨b,D,rfl,hb,hc⟩:=h.ne (List.length_pos_iff.2 F);have ae:=h.1;have l:H8 w (w.alloc (.cells #[.bool neg,.slice (some ⟨b,D,none⟩) L.length cap] 33)):=(Below.refl _ _).alloc (Nat.le_refl _) _;have G:∀i,i<L.length->(w.alloc (.cells #[.bool neg,.slice (some ⟨b,D,none⟩) L.length cap] 33)).cell? ⟨b,D+i,none⟩=some (.int .u32 ((L[i]?.getD 0:Nat):Int)):=fun i hi=>by
  rw[l.cell (p:=⟨b,D+i,none⟩) hb];exact hc i hi
 have Z:=hT.all l;have HR:=ac (fun k x=>Ey L k x);have HZ:=ac (fun h:aj L=0=>(show ib (aj L)=0 by rw[h];rfl));have Q:=ac (fun h=>nD (aj L) h);have HF:=ac (fun i=>h.lt i);have HV:=ac (fun k (hk:L.length<=k)=>fi L k hk);have HS:=ac (fun k=>aT L k);have N:=ac l;clear hT hc h hb F l;generalize ib (aj L)=z at*
 go_enter Tryz.func235,Tryz.ntmps235
 go_wp2
 go_loop [3,9] (fun c i=>∃k:Nat,k<=L.length/\i=.int .i64 k/\c=.int .i64 (32*(k:Int))/\Hid (aj (L.take k)=0)) (fun _ i=>L.length-(intOf i).toNat)
 case atStart=>exact⟨0,Nat.zero_le _,rfl,rfl,by unfold Hid;simp[aj]⟩
 case round=>
  obtain⟨k,hk,rfl,rfl,M⟩:=hrel
  by_cases aa:k<L.length
  ·have am:=G k aa
   clear G;have hx:=uH HF k;have H:=ac (uH HS k);have I:=ac (fun K=>uH HR k _ M.out rfl K hx);clear HR HZ HS HF HV;generalize L[k]?.getD 0=x at*;have TZ:=ac (EV x _ hx Z);have O:(Lib.ctz 32 x:Int)<=32/\(0:Int)<=Lib.ctz 32 x:=by
    by_cases K:x=0
    ·subst K;decide
    ·have:=(Lib.lowest_bit 32 x K (by omega)).2
     omega
   have J:=ac (fun K=>Nf x K hx);have e0:x=0->Lib.ctz 32 x=32:=fun h=>by subst h;rfl
   generalize Lib.ctz 32 x=c at*;obtain⟨c1,c2⟩:=O
   by_cases t:x=0
   ·have ec:=e0 t
    subst t;subst ec;have HN:Hid (aj (L.take (k+1))=0):=by unfold Hid;rw[uH H,M.out];simp
    clear I H M J e0 Q
    go_wp2_with(go_at_call 265;refine(uH TZ).mono ?_;rintro e U ⟨rfl,rfl⟩)
    go_round
    case rel=>exact⟨k+1,by omega,by go_num,dG (by omega),HN⟩
    case measure=>simp[intOf];omega
   ·have hr:=uH I t
    have HE:=ac (show z=32*(k:Int)+(c:Int) by rw[uH Q hr.1,hr.2,uH J t];omega);have ap:((x:Int) != 0)=true:=by rw[bne_iff_ne];omega
    clear I H M J e0 Q hr
    go_wp2_with(go_at_call 265;refine(uH TZ).mono ?_;rintro e U ⟨rfl,rfl⟩)
    go_ret
    exact⟨bh (uH HE).symm,uH N⟩
  ·have hz:=uH HZ (by rw[<-uH HV k (by omega)];exact M.out)
   subst hz;clear HR HZ Q HF HV HS M G
   go_wp2
   go_ret
   exact⟨rfl,uH N⟩
def ar(w:World)(b:Nat)(x y z:Value):Prop:=w.heap[b]? =some (.cells #[x,y,z] 35 (0,0))
theorem ar.c0{w:World}{b:Nat}{x y z:Value}(h:ar w b x y z):w.cell? ⟨b,0,none⟩=some x:=by rw[cell_of_row w b 0 _ _ _ h];rfl
theorem ar.c1{w:World}{b:Nat}{x y z:Value}(h:ar w b x y z):w.cell? ⟨b,1,none⟩=some y:=by rw[cell_of_row w b 1 _ _ _ h];rfl
theorem ar.c2{w:World}{b:Nat}{x y z:Value}(h:ar w b x y z):w.cell? ⟨b,2,none⟩=some z:=by rw[cell_of_row w b 2 _ _ _ h];rfl
theorem ar.free{w:World}{b:Nat}{x y z:Value}(h:ar w b x y z)(j:Nat):w.frozen? ⟨b,j,none⟩=false:=frozen_of_row w b j _ _ h
theorem ar.lt{w:World}{b:Nat}{x y z:Value}(h:ar w b x y z):b<w.heap.size:=(Array.getElem?_eq_some_iff.1 h).1
theorem ar.below{w t:World}{b:Nat}{x y z:Value}(h:ar w b x y z){B:Nat}(D:Below B w t)(l:b<B):ar t b x y z:=(D.block b l).trans h
theorem ar.new(w:World)(x y z:Value):ar (w.alloc (.cells #[x,y,z] 35)) w.heap.size x y z:=heap_alloc_new w _
theorem ar.old{w:World}{b:Nat}{x y z:Value}(h:ar w b x y z)(o:Obj):ar (w.alloc o) b x y z:=by
 unfold ar;rw[Below.heap_alloc w o b h.lt];exact h
theorem ar.all{w l:World}{b:Nat}{x y z:Value}(h:ar w b x y z)(t:H8 w l):ar l b x y z:=h.below t h.lt
theorem aK.all{w l:World}{b:Nat}{x y:Value}(h:aK w b x y)(t:H8 w l):aK l b x y:=h.below t h.lt
theorem ar.drew{w:World}{b:Nat}{x y z:Value}(h:ar w b x y z):ar w.drew b x y z:=h
theorem ar.other{w:World}{b:Nat}{x y z:Value}(h:ar w b x y z){p:Addr}(l:b≠p.block)(u:Value):ar (w.setCell p u) b x y z:=(Below.heap_setCell w p u b l).trans h
theorem ar.put{w:World}{b:Nat}{x y z:Value}(h:ar w b x y z)(u u' u'':Value):ar (((w.setCell ⟨b,0,none⟩ u).setCell ⟨b,1,none⟩ u').setCell ⟨b,2,none⟩ u'') b u u' u'':=by
 have l:=heap_setCell_same w b 0 _ _ u h;have t:=heap_setCell_same (w.setCell ⟨b,0,none⟩ u) b 1 _ _ u' l;have D:=heap_setCell_same ((w.setCell ⟨b,0,none⟩ u).setCell ⟨b,1,none⟩ u') b 2 _ _ u'' t;unfold ar;rw[D]
 simp
theorem aJ{w t:World}{B b:Nat}(h:Below B w t)(l:B<=b)(u u' u'':Value):Below B w (((t.setCell ⟨b,0,none⟩ u).setCell ⟨b,1,none⟩ u').setCell ⟨b,2,none⟩ u''):=
 ((h.setCell l _).setCell l _).setCell l _
theorem ai.box3{w:World}{ao:GY}{cap g:Nat}{L:H3}(h:ai w ao cap L){x:Bool}{a:GY}{n c:Nat}{e:Int}(H:ar w g (.bool x) (.slice a n c) (C0 e))(u u' u'':Value):
  ai (((w.setCell ⟨g,0,none⟩ u).setCell ⟨g,1,none⟩ u').setCell ⟨g,2,none⟩ u'') ao cap L:=by
 refine⟨h.1,h.2.1,?_⟩;rcases h.2.2 with K|⟨b,l,M,N,G⟩
 ·exact .inl K
 ·by_cases F:L= []
  ·exact .inl F
  ·have J:0<L.length:=List.length_pos_iff.2 F
   have t:b≠g:=by
    rintro rfl;have D:=G 0 J;rw[cell_of_row w b (l+0) _ _ _ H]at D;rcases(show l=0\/l=1\/l=2\/3<=l by omega)with e|e|e|e
    ·subst e;simp at D
    ·subst e;simp at D
    ·subst e;simp at D
    ·rw[Array.getElem?_eq_none (by simp;omega)]at D;simp at D
   refine .inr ⟨b,l,M,by simpa[World.setCell]using N,fun i I=>?_⟩;rw[au _ _ _ _ (by simpa using t),au _ _ _ _ (by simpa using t),au _ _ _ _ (by simpa using t)];exact G i I
def np(neg:Bool)(L:H3)(e:Int):Bool:=aD neg L&&(if L.length=0 then decide (e=0)else(decide (aj L%2=1)&&decide (-16384<=e/\e<=16384)))
def qL(neg:Bool)(L:H3)(e:Int):Int:=if np neg L e then 0 else 1
theorem EW(v:Nat)(h:v≠0):0<ib v↔v%2=0:=by
 rw[nD v h];obtain⟨m,l⟩:=jZ v (by omega)
 constructor
 ·intro D
  obtain⟨k,t⟩:∃k,tz v=k+1:=⟨tz v-1,by omega⟩;rw[t,Nat.pow_succ,Nat.mul_assoc,Nat.mul_left_comm]at l;omega
 ·intro D
  rcases Nat.eq_zero_or_pos (tz v)with e|e
  ·rw[e]at l;simp at l;omega
  ·omega
theorem AW(v:Nat)(h:v<eE):0<=ib v/\ib v<16384:=by
 by_cases l:v=0
 ·subst l;decide
 ·rw[nD v l]
  have e:eE=2^(32*oD):=by
   unfold eE;rw[show(4294967296:Nat)=2^32 by decide,<-Nat.pow_mul]
  rw[e]at h;have:=mr v (32*oD) (by omega) h;have t:32*oD=16384:=rfl;omega
theorem j4(neg:Bool)(ao:GY)(cap:Nat)(L:H3)(e:Int)(w:World)(h:ai w ao cap L)(hl:L.length<=35184372088830)(hT:cX w):
  BS 260 #[.agg #[.bool neg,.slice ao L.length cap,C0 e]] w (C0 (qL neg L e)):=by
 have HC:=ac (fun Z N=>gC neg ao cap L Z N hl);have H1:=ac (show aD neg L=false->qL neg L e=1 from fun h=>by simp[qL,np,h]);have O:=ac (show¬(-16384<=e/\e<=16384)->qL neg L e=1 from fun h=>by
  unfold qL np
  by_cases D:L.length=0
  ·rw[if_pos D,decide_eq_false (show¬e=0 by omega)];simp
  ·rw[if_neg D,decide_eq_false h];simp)
 have Q:=ac (show L.length=0->e≠0->qL neg L e=1 from fun D h=>by
  unfold qL np;rw[if_pos D,decide_eq_false h];simp)
 have H4:=ac (show aD neg L=true->L.length=0->e=0->qL neg L e=0/\ib (aj L)=0 from fun h D N=>by
  unfold qL np;rw[if_pos D,decide_eq_true N,h];have:L= []:=List.length_eq_zero_iff.1 D;subst this;exact⟨by simp,rfl⟩)
 have H5:=ac (show aD neg L=true->L.length≠0->(-16384<=e/\e<=16384)->qL neg L e=if 0<ib (aj L)then 1 else 0 from fun h D N=>by
  have hv:aj L≠0:=fun e=>D (by rw[(aY L (aG h).2.1).1 e];rfl)
  unfold qL np;rw[if_neg D,decide_eq_true N,h];have:=EW _ hv
  by_cases h1:aj L%2=1
  ·rw[decide_eq_true h1,if_neg (show¬0<ib (aj L) by omega)];simp
  ·rw[decide_eq_false h1,if_pos (show 0<ib (aj L) by omega)];simp)
 have HL:=ac (show aD neg L=true->L.length<=512 from fun h=>(aG h).1);have HE:=ac (show gL neg L=if aD neg L then 0 else 1 from rfl);have U:=ac (fun Z N aa t=>nE neg ao cap L Z N aa t);generalize qL neg L e=er at*;generalize gL neg L=ce at*;generalize ib (aj L)=lz at*;generalize aD neg L=rb at*;have M:H8 w (w.alloc (.cells #[.bool neg,.slice ao L.length cap,C0 e] 35)):=(Below.refl _ _).alloc (Nat.le_refl _) _;have H:=ar.new w (.bool neg) (.slice ao L.length cap) (C0 e)
 go_enter Tryz.func260,Tryz.ntmps260
 go_wp2_with fail;refine(uH HC _ (h.below M)).mono ?_;rintro r w1 ⟨rfl,l⟩;replace H:=H.all l;have G:=M.trans (l.mono M.size);rw[uH HE];clear l HE HC M;have p0:=H.c0;have p1:=H.c1;have p2:=H.c2
 cases rb
 ·have K:=uH H1 rfl
  subst K;simp only[Bool.false_eq_true,if_false];clear H1 O Q H4 H5 HL U H
  go_wp2
  go_ret
  exact⟨rfl,G⟩
 have ae:=uH HL rfl;have I:=ac (uH H4 rfl);have J:=ac (uH H5 rfl);clear HL H4 H5 H1;simp only[if_true];go_wp2_with fail;refine(eY e 16384 _ (by decide) (by decide)).mono ?_;rintro r w2 ⟨rfl,rfl⟩
 by_cases F:-16384<=e/\e<=16384
 case neg=>
  have K:=uH O F;subst K;rw[decide_eq_false F];clear O Q I J ae U H F
  go_wp2
  go_ret
  exact⟨rfl,G⟩
 rw[decide_eq_true F];go_wp2_with fail;refine(e9 neg ao cap L.length _).mono ?_;rintro r w3 ⟨rfl,l⟩;replace H:=H.all l;replace G:=G.trans (l.mono G.size);clear l p0 p1 p2;have p0:=H.c0;have p1:=H.c1;have p2:=H.c2
 by_cases D:L.length=0
 ·rw[decide_eq_true D]
  by_cases he:e=0
  ·obtain⟨K,hz⟩:=uH I D he
   subst K;subst hz;subst he;clear O Q I J H F D;go_wp2_with fail;refine(uH U _ (h.below G) (by omega) (hT.all G)).mono ?_;rintro r w4 ⟨rfl,l⟩
   go_wp2
   go_ret
   exact⟨rfl,G.trans (l.mono G.size)⟩
  ·have K:=uH Q D he
   subst K;have am:(e != 0)=true:=by simpa using he
   clear O Q I J H F U
   go_wp2
   go_ret
   exact⟨rfl,G⟩
 ·have K:=uH J D F
  rw[decide_eq_false D]
  by_cases hz:0<lz
  ·rw[if_pos hz]at K
   subst K;clear O Q I J H F D;go_wp2_with fail;refine(uH U _ (h.below G) (by omega) (hT.all G)).mono ?_;rintro r w4 ⟨rfl,l⟩
   go_wp2
   go_ret
   exact⟨rfl,G.trans (l.mono G.size)⟩
  ·rw[if_neg hz]at K
   subst K;clear O Q I J H F D;go_wp2_with fail;refine(uH U _ (h.below G) (by omega) (hT.all G)).mono ?_;rintro r w4 ⟨rfl,l⟩
   go_wp2
   go_ret
   exact⟨rfl,G.trans (l.mono G.size)⟩
def aH(w:World)(v:Value)(m e:Int):Prop:=
 ∃(neg:Bool) (ao:GY) (cap:Nat) (L:H3),v=.agg #[.bool neg,.slice ao L.length cap,C0 e]/\aA 0 w (.agg #[.bool neg,.slice ao L.length cap]) m
theorem aH.below{w l:World}{v:Value}{m e:Int}(h:aH w v m e)(t:H8 w l):aH l v m e:=by
 obtain⟨neg,ao,cap,L,D,F⟩:=h;exact⟨neg,ao,cap,L,D,F.below t⟩
theorem aH.put3{w:World}{v:Value}{m e:Int}(h:aH w v m e){g:Nat}{x:Bool}{a:GY}{n c:Nat}{k:Int}(l:ar w g (.bool x) (.slice a n c) (C0 k))(u u' u'':Value):aH (((w.setCell ⟨g,0,none⟩ u).setCell ⟨g,1,none⟩ u').setCell ⟨g,2,none⟩ u'') v m e:=by
 obtain⟨neg,ao,cap,L,t,D,F,G,H,I,J,K⟩:=h;exact⟨neg,ao,cap,L,t,D,F,G,H,I,J.box3 l _ _ _,K⟩
theorem aH.zero(w:World)(ao:GY)(cap:Nat):aH w (.agg #[.bool false,.slice ao 0 cap,C0 0]) 0 0:=
 ⟨false,ao,cap,[],rfl,aA.zero _ _ _ _⟩
def oK(z e:Int):Bool:=decide (-32768<=e/\e<=32768)&&(decide (z=0)||decide (-16384<=e+tz z.natAbs/\e+tz z.natAbs<=16384))
def dU(z e:Int):Int:=if oK z e then 0 else 2
def dM(z e:Int):Int:=if oK z e then oM z else 0
def dX(z e:Int):Int:=if oK z e then oE z e else 0
def sQ(na:Bool)(A:H3)(x:Int)(nb:Bool)(B:H3)(y:Int):Int:=if np na A x&&np nb B y then 0 else 1
theorem kG(l F:Bool)(ao H:GY)(K I:Nat)(A B:H3)(x y:Int)(w:World)(hA:ai w ao K A)(hB:ai w H I B)(la:A.length<=35184372088830)(lb:B.length<=35184372088830)(O:cX w):
  BS 288 #[.agg #[.bool l,.slice ao A.length K,C0 x],.agg #[.bool F,.slice H B.length I,C0 y]] w (C0 (sQ l A x F B y)):=by
 have U:=ac (show np l A x=false->qL l A x=1/\sQ l A x F B y=1 from fun h=>by simp[qL,sQ,h]);have Z:=ac (show np l A x=true->qL l A x=0/\sQ l A x F B y=qL F B y from fun h=>by simp[qL,sQ,h]);have HA:=ac (fun L Q t=>j4 l ao K A x L Q la t);have HB:=ac (fun L Q t=>j4 F H I B y L Q lb t);generalize sQ l A x F B y=er at*;generalize qL l A x=e1 at*;generalize qL F B y=e2 at*;generalize np l A x=ra at*;have M:H8 w ((w.alloc (.cells #[.bool l,.slice ao A.length K,C0 x] 35)).alloc (.cells #[.bool F,.slice H B.length I,C0 y] 35)):=((Below.refl _ _).alloc (Nat.le_refl _) _).alloc (by simp) _;have J:ar ((w.alloc (.cells #[.bool l,.slice ao A.length K,C0 x] 35)).alloc (.cells #[.bool F,.slice H B.length I,C0 y] 35)) (w.heap.size+1) (.bool F) (.slice H B.length I) (C0 y):=by
  have:=ar.new (w.alloc (.cells #[.bool l,.slice ao A.length K,C0 x] 35)) (.bool F) (.slice H B.length I) (C0 y)
  simpa using this
 have X1:=ac J;have G:=ac M;clear J M
 cases ra
 ·obtain⟨rfl,rfl⟩:=uH U rfl
  clear U Z HB X1
  go_enter Tryz.func288,Tryz.ntmps288
  go_wp2_with fail;refine(uH HA _ (hA.below (uH G)) (O.all (uH G))).mono ?_;rintro r w1 ⟨rfl,D⟩
  go_wp2
  go_ret
  exact⟨rfl,(uH G).trans (D.mono (uH G).size)⟩
 ·obtain⟨rfl,rfl⟩:=uH Z rfl
  clear U Z
  go_enter Tryz.func288,Tryz.ntmps288
  go_wp2_with fail;refine(uH HA _ (hA.below (uH G)) (O.all (uH G))).mono ?_;rintro r w1 ⟨rfl,D⟩;have J:=(uH X1).all D;have p0:=J.c0;have p1:=J.c1;have p2:=J.c2;have N:=ac ((uH G).trans (D.mono (uH G).size));clear D J X1 G HA;go_wp2_with fail;refine(uH HB _ (hB.below (uH N)) (O.all (uH N))).mono ?_;rintro r w2 ⟨rfl,D⟩
  go_wp2
  go_ret
  exact⟨rfl,(uH N).trans (D.mono (uH N).size)⟩
theorem Jw(l:Bool)(v:Nat)(h:v≠0):sg l (v/2^tz v)=oM (sg l v):=by
 obtain⟨m,t⟩:=jZ v (by omega);have D:0<2^tz v:=Nat.pow_pos (by decide);have F:v/2^tz v=2*m+1:=by
  generalize 2^tz v=P at t D;rw[t];exact Nat.mul_div_cancel_left _ D
 have G:jE (sg l v) (sg l (2*m+1)) (tz v):=by
  constructor
  ·have e:(v:Int)=(2*(m:Int)+1)*2^tz v:=by
    rw[Int.mul_comm]
    exact_mod_cast t
   unfold sg
   cases l
   ·simp only[Bool.false_eq_true,if_false];rw[e];push_cast;rfl
   ·simp only[if_true];rw[e];push_cast;rw[Int.neg_mul]
  ·unfold sg;cases l<;>simp<;>omega
 rw[F,G.eq.2.1]
theorem j5:0<eE:=Nat.pow_pos (by decide)
theorem yO(h:Bool)(A:H3)(e:Int)(L:aD h A=true)(Q:bQ A):
  (¬(-32768<=e/\e<=32768)/\dU (af h A) e=2/\dM (af h A) e=0/\dX (af h A) e=0)\/
  ((-32768<=e/\e<=32768)/\A.length≠0/\¬(-16384<=e+ib (aj A)/\e+ib (aj A)<=16384)/\dU (af h A) e=2/\dM (af h A) e=0/\dX (af h A) e=0)\/
  ((-32768<=e/\e<=32768)/\A.length=0/\dU (af h A) e=0/\dM (af h A) e=0/\dX (af h A) e=0)\/
  ((-32768<=e/\e<=32768)/\A.length≠0/\(-16384<=e+ib (aj A)/\e+ib (aj A)<=16384)/\dU (af h A) e=0/\dX (af h A) e=e+ib (aj A)/\yz h A (-ib (aj A))=0/\vS h A (-ib (aj A))=dM (af h A) e):=by
 obtain⟨hl,O,_⟩:=aG L;have U:aj A<eE:=(eO A Q O).2 hl;have Z:=AW (aj A) U
 by_cases t:-32768<=e/\e<=32768
 case neg=>
  left
  have:oK (af h A) e=false:=by unfold oK;rw[decide_eq_false t,Bool.false_and]
  exact⟨t,by simp[dU,this],by simp[dM,this],by simp[dX,this]⟩
 right
 by_cases F:A.length=0
 ·right;left
  have e0:A= []:=List.length_eq_zero_iff.1 F;subst e0;have:oK (af h []) e=true:=by unfold oK;rw[decide_eq_true t,jD];simp
  refine⟨t,rfl,by simp[dU,this],?_,?_⟩
  ·simp[dM,jD,oM]
  ·simp[dX,jD,oE]
 have H:aj A≠0:=fun e=>F (by rw[(aY A O).1 e];rfl)
 have l:=nD (aj A) H;have I:af h A≠0:=fun e=>H (by rw[<-aU h A,e];rfl)
 by_cases G:-16384<=e+ib (aj A)/\e+ib (aj A)<=16384
 case neg=>
  left
  have:oK (af h A) e=false:=by
   unfold oK;rw[aU,<-l,decide_eq_false G,decide_eq_false I];simp
  exact⟨t,F,G,by simp[dU,this],by simp[dM,this],by simp[dX,this]⟩
 right;right
 have J:oK (af h A) e=true:=by
  unfold oK;rw[aU,<-l,decide_eq_true t,decide_eq_true G];simp
 have M:sM h A (-ib (aj A))=oM (af h A):=by
  rw[p5,fm,<-Jw h (aj A) H,l]
  congr 1
  unfold qD;rcases Nat.eq_zero_or_pos (tz (aj A))with e|e
  ·rw[e];simp
  ·rw[if_neg (by omega)]
   congr 2
   omega
 have hO:=gN (af h A) I;have aa:(oM (af h A)).natAbs<=aj A:=by
  have N:(af h A).natAbs=(oM (af h A)).natAbs*2^tz (af h A).natAbs:=by
   conv=>lhs;rw[hO.1]
   rw[Int.natAbs_mul,Int.natAbs_pow];rfl
  rw[aU]at N;rw[N];exact Nat.le_mul_of_pos_right _ (Nat.pow_pos (by decide))
 have K:-16384<=-ib (aj A)/\-ib (aj A)<=16384:=by omega
 have D:oJ h A (-ib (aj A))=true:=by unfold oJ;rw[L,decide_eq_true K];rfl
 refine⟨t,F,G,by simp[dU,J],?_,?_,?_⟩
 ·unfold dX oE;rw[if_pos J,if_neg I,aU,l]
 ·unfold yz;rw[if_pos D,M,iq _ (by omega)]
 ·unfold vS dM;rw[if_pos D,if_pos J,M,ir _ (by omega)]
theorem j6(G:Bool)(ao:GY)(K:Nat)(A:H3)(e:Int)(w:World)(hA:ai w ao K A)(hr:aD G A=true)(be:-9223372036854775808<=e/\e<=9223372036854775807)(hT:cX w):
  GF 206 #[.agg #[.bool G,.slice ao A.length K],C0 e] w fun r w'=>∃v,r=.returned (.tuple #[v,C0 (dU (af G A) e)])/\aH w' v (dM (af G A) e) (dX (af G A) e)/\H8 w w':=by
 have hl:=(aG hr).1;have am:gL G A=0:=by simp[gL,hr]
 have HM:=ac (yO G A e hr hA.2.1);have ae:=ac (fun w' h'=>gC G ao K A w' h' (by omega));rw[am]at ae;have ap:=ac (fun w' h' t=>nE G ao K A w' h' (by omega) t);have U:=ac (fun n w' h' bn=>jI G ao K A n w' h' (by omega) bn);have a3:=AW (aj A) ((eO A hA.2.1 (aG hr).2.1).2 hl);clear am hr;generalize dU (af G A) e=er at*;generalize dM (af G A) e=dm at*;generalize dX (af G A) e=dx at*;generalize ib (aj A)=lz at*;obtain⟨a4,a5⟩:=a3;have aa:H8 w ((w.alloc (.cells #[.bool G,.slice ao A.length K] 33)).alloc (.cells #[.bool false,.slice none 0 0,C0 0] 35)):=((Below.refl _ _).alloc (Nat.le_refl _) _).alloc (by simp) _;have D:aK ((w.alloc (.cells #[.bool G,.slice ao A.length K] 33)).alloc (.cells #[.bool false,.slice none 0 0,C0 0] 35)) w.heap.size (.bool G) (.slice ao A.length K):=(aK.new _ _ _).old _;have l:ar ((w.alloc (.cells #[.bool G,.slice ao A.length K] 33)).alloc (.cells #[.bool false,.slice none 0 0,C0 0] 35)) (w.heap.size+1) (.bool false) (.slice none 0 0) (C0 0):=by
  have:=ar.new (w.alloc (.cells #[.bool G,.slice ao A.length K] 33)) (.bool false) (.slice none 0 0) (C0 0)
  simpa using this
 go_enter Tryz.func206,Tryz.ntmps206
 go_wp2_with fail;refine(uH ae _ (hA.below aa)).mono ?_;rintro r w1 ⟨rfl,h⟩;replace D:=D.all h;replace l:=l.all h;have H:=aa.trans (h.mono aa.size);clear h aa ae;have Q:=D.c0;have L:=D.c1;have I:=ac D;have J:=ac l;have F:=ac H;clear D l H;go_wp2_with fail;refine(uH ap _ (hA.below (uH F)) (hT.all (uH F))).mono ?_;rintro r w2 ⟨rfl,h⟩;have D:=(uH I).all h;have l:=(uH J).all h;have H:=(uH F).trans (h.mono (uH F).size);clear h ap Q L I J F;have Q:=D.c0;have L:=D.c1;have I:=ac D;have J:=ac l;have F:=ac H;have M:=l.c0;have N:=l.c1;have O:=l.c2;have f0:=l.free 0;have f1:=l.free 1;have f2:=l.free 2;clear D l H;rcases uH HM with⟨Z,rfl,rfl,rfl⟩|⟨Z,h0,h2,rfl,rfl,rfl⟩|⟨Z,h0,rfl,rfl,rfl⟩|⟨Z,h0,h2,rfl,rfl,a0,a1⟩
 ·clear HM U
  go_wp2_with fail;refine(eY e 32768 _ (by decide) (by decide)).mono ?_;rw[decide_eq_false Z];rintro r w3 ⟨rfl,rfl⟩;clear Z
  go_wp2
  refine bodyPost_ret (v:=.tuple #[.agg #[.bool false,.slice none 0 0,C0 0],C0 2]) (by simp[results,Tryz.results206,go_sem,M,N,O]) rfl ⟨_,rfl,aH.zero _ _ _,aJ (uH F) (by omega) _ _ _⟩
 ·clear HM U
  go_wp2_with fail;refine(eY e 32768 _ (by decide) (by decide)).mono ?_;rw[decide_eq_true Z];rintro r w3 ⟨rfl,rfl⟩;obtain⟨ax,aI⟩:=Z;go_wp2_with fail;refine(e9 G ao K A.length _).mono ?_;rw[decide_eq_false h0];rintro r w4 ⟨rfl,h⟩;have D:=(uH I).all h;have l:=(uH J).all h;have H:=(uH F).trans (h.mono (uH F).size);clear h Q L I J F M N O f0 f1 f2;have Q:=D.c0;have L:=D.c1;have I:=ac D;have J:=ac l;have F:=ac H;have M:=l.c0;have N:=l.c1;have O:=l.c2;have f0:=l.free 0;have f1:=l.free 1;have f2:=l.free 2;clear D l H;go_wp2_with fail;refine(eY (e+lz) 16384 _ (by decide) (by decide)).mono ?_;rw[decide_eq_false h2];rintro r w5 ⟨rfl,rfl⟩;clear h2
  go_wp2
  refine bodyPost_ret (v:=.tuple #[.agg #[.bool false,.slice none 0 0,C0 0],C0 2]) (by simp[results,Tryz.results206,go_sem,M,N,O]) rfl ⟨_,rfl,aH.zero _ _ _,aJ (uH F) (by omega) _ _ _⟩
 ·clear HM U
  have H0:=ac h0;clear h0;go_wp2_with fail;refine(eY e 32768 _ (by decide) (by decide)).mono ?_;rw[decide_eq_true Z];rintro r w3 ⟨rfl,rfl⟩;obtain⟨ax,aI⟩:=Z;go_wp2_with fail;refine(e9 G ao K A.length _).mono ?_;rw[decide_eq_true (uH H0)];rintro r w4 ⟨rfl,h⟩;have D:=(uH I).all h;have l:=(uH J).all h;have H:=(uH F).trans (h.mono (uH F).size);clear h Q L I J F M N O f0 f1 f2;have Q:=D.c0;have L:=D.c1;have I:=ac D;have J:=ac l;have F:=ac H;have M:=l.c0;have N:=l.c1;have O:=l.c2;have f0:=l.free 0;have f1:=l.free 1;have f2:=l.free 2;clear D l H;clear L;have L:=(uH I).c1;go_wp2_with fail;refine(e9 G ao K A.length _).mono ?_;rw[decide_eq_true (uH H0)];rintro r w5 ⟨rfl,h⟩;have D:=(uH I).all h;have l:=(uH J).all h;have H:=(uH F).trans (h.mono (uH F).size);clear h Q L I J F M N O f0 f1 f2;have F:=ac H;have M:=l.c0;have N:=l.c1;have O:=l.c2;have f0:=l.free 0;have f1:=l.free 1;have f2:=l.free 2;clear D l H
  go_wp2
  refine bodyPost_ret (v:=.tuple #[.agg #[.bool false,.slice none 0 0,C0 0],C0 0]) (by simp[results,Tryz.results206,go_sem,M,N,O]) rfl ⟨_,rfl,aH.zero _ _ _,aJ (uH F) (by omega) _ _ _⟩
 ·clear HM
  have HN:=ac a1;have SH:=ac (fun w' h'=>uH U (-lz) w' h' (by omega));rw[a0]at SH;clear a1 a0 U;go_wp2_with fail;refine(eY e 32768 _ (by decide) (by decide)).mono ?_;rw[decide_eq_true Z];rintro r w3 ⟨rfl,rfl⟩;obtain⟨ax,aI⟩:=Z;go_wp2_with fail;refine(e9 G ao K A.length _).mono ?_;rw[decide_eq_false h0];rintro r w4 ⟨rfl,h⟩;have D:=(uH I).all h;have l:=(uH J).all h;have H:=(uH F).trans (h.mono (uH F).size);clear h Q L I J F M N O f0 f1 f2;have Q:=D.c0;have L:=D.c1;have I:=ac D;have J:=ac l;have F:=ac H;have M:=l.c0;have N:=l.c1;have O:=l.c2;have f0:=l.free 0;have f1:=l.free 1;have f2:=l.free 2;clear D l H;go_wp2_with fail;refine(eY (e+lz) 16384 _ (by decide) (by decide)).mono ?_;rw[decide_eq_true h2];rintro r w5 ⟨rfl,rfl⟩;obtain⟨a6,a7⟩:=h2;go_wp2_with fail;refine(e9 G ao K A.length _).mono ?_;rw[decide_eq_false h0];rintro r w6 ⟨rfl,h⟩;have D:=(uH I).all h;have l:=(uH J).all h;have H:=(uH F).trans (h.mono (uH F).size);clear h Q L I J F M N O f0 f1 f2;have Q:=D.c0;have L:=D.c1;have I:=ac D;have J:=ac l;have F:=ac H;clear D l H;go_wp2_with fail;refine(uH SH _ (hA.below (uH F))).mono ?_;rintro r w7 ⟨v,rfl,⟨n2,a2,c2,L2,rfl,i1⟩,h⟩;have l:=(uH J).all h;have H:=(uH F).trans (h.mono (uH F).size);have I1:=ac i1;have B2:=ac H;have X2:=ac l;clear h Q L I J F l H i1;have l:=(uH X2).old (.cells #[.bool n2,.slice a2 L2.length c2] 33);have M:=l.c0;have N:=l.c1;have O:=l.c2;have f0:=l.free 0;have f1:=l.free 1;have f2:=l.free 2;have X3:=ac l;clear l
  go_wp2
  have j:aA w6.heap.size w7 (.agg #[.bool n2,.slice a2 L2.length c2]) dm:=(uH HN)▸(⟨n2,a2,c2,L2,rfl,uH I1⟩:aA w6.heap.size w7 (.agg #[.bool n2,.slice a2 L2.length c2]) (vS G A (-lz)));have j2:aH (w7.alloc (.cells #[.bool n2,.slice a2 L2.length c2] 33)) (.agg #[.bool n2,.slice a2 L2.length c2,C0 (e+lz)]) dm (e+lz):=⟨n2,a2,c2,L2,rfl,(j.below ((Below.refl _ _).alloc (Nat.le_refl _) _)).mono (Nat.zero_le _)⟩;have b3:=(uH B2).alloc (uH B2).size (.cells #[.bool n2,.slice a2 L2.length c2] 33);refine bodyPost_ret (v:=.tuple #[.agg #[.bool n2,.slice a2 L2.length c2,C0 (e+lz)],C0 0]) (by simp[results,Tryz.results206,go_sem,M,N,O]) rfl ⟨_,rfl,j2.put3 (uH X3) _ _ _,aJ b3 (by omega) _ _ _⟩
theorem kH{B:Nat}{w:World}{v:Value}{z:Int}(e:Int)(l:aA B w v z)(t:z.natAbs<eE)(D:-9223372036854775808<=e/\e<=9223372036854775807)(F:cX w):
  GF 206 #[v,C0 e] w fun r h=>∃u,r=.returned (.tuple #[u,C0 (dU z e)])/\aH h u (dM z e) (dX z e)/\H8 w h:=by
 obtain⟨G,ao,H,A,rfl,I,J,K,L⟩:=l.right t;have:=j6 G ao H A e w I J D F
 rwa[K]at this
end Go.Proofs.YtcbcmlaogehimaaGreatDoor
