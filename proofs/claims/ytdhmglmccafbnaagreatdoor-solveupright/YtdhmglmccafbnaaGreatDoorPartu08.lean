/- Part 8 of the texts. -/
import Derived.Test.YtdhmglmccafbnaaGreatDoorPartu07
import Derived.Test.YtdhmglmccafbnaaGreatDoorPartu05
import Derived.Test.YtdhmglmccafbnaaGreatDoorPartu04
import Derived.Test.YtdhmglmccafbnaaGreatDoorPartu02
import Derived.Test.YtdhmglmccafbnaaGreatDoorPartu06
import Derived.Laws.BitsAllLaws
import Derived.Shelf.Spec.TrailingZeros
set_option maxHeartbeats 4000000
namespace Go.Proofs.YtdhmglmccafbnaaGreatDoor
open Go.RowKit
attribute [local go_sem ↓] Go.wp_at_zero Go.wp_at_succ
theorem refShift_none (ao:Option Addr) (ca:Nat) (n:Int) (w:World) :
  Calls Tryz.prog 131 #[.agg #[.bool false,.slice ao 0 ca],.int .i64 n] w fun e w'=>∃ v,e = .returned v∧IsNum 0 w' v 0∧Below w.heap.size w w':=by
 rcases (show (32≤n∧0 < n∧¬ n≤-32∧¬ n < 0) ∨ (¬ 32≤n∧0 < n∧¬ n≤-32∧¬ n < 0) ∨ (¬ 32≤n∧¬ 0 < n∧¬ n≤-32∧¬ n < 0) ∨ (¬ 32≤n∧¬ 0 < n∧¬ n≤-32∧n < 0) ∨ (¬ 32≤n∧¬ 0 < n∧n≤-32∧n < 0) by omega) with ⟨h1,h2,h3,h4⟩ | ⟨h1,h2,h3,h4⟩ | ⟨h1,h2,h3,h4⟩ | ⟨h1,h2,h3,h4⟩ | ⟨h1,h2,h3,h4⟩
 all_goals
  go_enter Tryz.func131,Tryz.ntmps131
  go_wp2
  go_loopw [1] (fun i wr=>i = .int .i64 n∧wr = (w.alloc (.cells #[.bool false,.slice ao 0 ca] 39)).alloc (.cells #[.bool false,.slice none 0 0] 39)) (fun _ _=>0)
  case atStart=>exact ⟨rfl,rfl⟩
  case round =>
   obtain ⟨rfl,rfl⟩:=hrel
   go_wp2
   go_loopw [1] (fun i wr=>i = .int .i64 n∧wr = (w.alloc (.cells #[.bool false,.slice ao 0 ca] 39)).alloc (.cells #[.bool false,.slice none 0 0] 39)) (fun _ _=>0)
   case atStart=>exact ⟨rfl,rfl⟩
   case round =>
    obtain ⟨rfl,rfl⟩:=hrel
    go_wp2
    go_loopw [1] (fun i wr=>i = .int .i64 n∧wr = (w.alloc (.cells #[.bool false,.slice ao 0 ca] 39)).alloc (.cells #[.bool false,.slice none 0 0] 39)) (fun _ _=>0)
    case atStart=>exact ⟨rfl,rfl⟩
    case round =>
     obtain ⟨rfl,rfl⟩:=hrel
     go_wp2
     go_loopw [1] (fun i wr=>i = .int .i64 n∧wr = (w.alloc (.cells #[.bool false,.slice ao 0 ca] 39)).alloc (.cells #[.bool false,.slice none 0 0] 39)) (fun _ _=>0)
     case atStart=>exact ⟨rfl,rfl⟩
     case round =>
      obtain ⟨rfl,rfl⟩:=hrel
      go_wp2
      refine bodyPost_ret (v:=.agg #[.bool false,.slice ao 0 ca]) (by simp [results,Tryz.results131,go_sem]) rfl ⟨.agg #[.bool false,.slice ao 0 ca],rfl,IsNum.zero _ _ _ _,?_⟩
      exact ((Below.refl _ _).alloc (Nat.le_refl _) _).alloc (by simp) _
theorem refShift_any (na:Bool) (ao:Option Addr) (ca:Nat) (A:List Nat) (n:Int) (w:World) (hA:LimbsAt w ao ca A) (hr:rightB na A = true) (hn:-16384≤n∧n≤16384) :
  Calls Tryz.prog 131 #[.agg #[.bool na,.slice ao A.length ca],.int .i64 n] w fun e w'=>∃ v,e = .returned v∧IsNum 0 w' v (shV na A n)∧Below w.heap.size w w':=by
 have hc:=right_canon hr
 by_cases h0:A = []
 ·subst h0
  have:na = false:=by cases na <;> simp_all
  subst this
  have e:shV false [] n = 0:=by rw [shV_shF];simp [val,shF_zero,sg]
  rw [e]
  exact refShift_none ao ca n w
 ·exact refShift_some na ao ca A n w hA h0 hc.2.1 (by omega) hn
def lt1 (n:Bool) (L:List Nat):Bool:=decide (L.length≤40) || !rightB n L
end Go.Proofs.YtdhmglmccafbnaaGreatDoor
namespace Go.Proofs.YtdhmglmccafbnaaGreatDoor
open Go.RowKit
theorem single_step (A S:List Nat) (x c y:Nat) (hy:A[S.length]?.getD 0 = y) (h:val S+4294967296 ^ S.length * c = val (A.take S.length) * x) :
  val (S ++ [(y * x+c) % 4294967296])+4294967296 ^ (S.length+1) * ((y * x+c) / 4294967296) = val (A.take (S.length+1)) * x:=by
 rw [val_snoc,val_take_succ A,hy,Nat.add_mul]
 have e:=pow_step (4294967296 ^ S.length) 4294967296 (y * x+c)
 rw [Nat.pow_succ]
 rw [Nat.mul_add,← Nat.mul_assoc] at e
 omega
theorem single_casts (x y c:Nat):(((y * x+c) % 4294967296:Nat):Int) = ((y:Int) * (x:Int)+(c:Int)) % 4294967296∧(((y * x+c) / 4294967296:Nat):Int) = ((y:Int) * (x:Int)+(c:Int)) / 4294967296:=by
 have e:((y * x:Nat):Int) = (y:Int) * (x:Int):=Int.natCast_mul y x
 rw [← e]
 omega
theorem single_any (ao:Option Addr) (ca:Nat) (A:List Nat) (x:Nat) (w:World) (hA:LimbsAt w ao ca A) (bx:x < 4294967296) (la:A.length≤1073741824) :
  Calls Tryz.prog 128 #[.slice ao A.length ca,.int .u32 (x:Int)] w fun e w'=>∃ ao' cap' L',e = .returned (.slice ao' L'.length cap')∧LimbsAt w' ao' cap' L'∧NewAt w.heap.size ao' L'∧L'.length = A.length+1∧val L' = val A * x∧Below w.heap.size w w':=by
 obtain ⟨i0,hi,hz0,hz1,hz2⟩:=info_parts Tryz.info122
 have hst:=fun (S:List Nat) (c y:Nat)=>single_step A S x c y
 have hen:∀ (S:List Nat) (c:Nat),S.length = A.length→val S+4294967296 ^ S.length * c = val (A.take S.length) * x→val (S ++ [c]) = val A * x:=by
  intro S c hl h
  rw [val_snoc,h,hl,List.take_length]
 have HST:=hide hst
 have HEN:=hide hen
 clear hst hen
 go_enter Tryz.func128,Tryz.ntmps128
 go_wp2
 go_loopw [5,6,7,8] (fun v c i _ wr=>∃ (S:List Nat) (y:Nat),S.length≤A.length∧i = .int .i64 (S.length:Nat)∧c = .int .u64 y∧y < 4294967296∧wr.ownsRow w.heap.size 122 1 v S.length (S.map limbV)∧Fits S∧Below w.heap.size w wr∧Hid (val S+4294967296 ^ S.length * y = val (A.take S.length) * x))
  (fun _ _ i _ _=>A.length - (intOf i).toNat)
 case atStart =>
  refine ⟨[],0,by simp,rfl,rfl,by omega,?_,by intro x hx;simp at hx,(Below.refl _ _).alloc (Nat.le_refl _) _,by unfold Hid;simp [val]⟩
  exact World.ownsRow_made w #[] 0 (Nat.le_refl _) (by simp [maxLen]) (by simp)
 case round =>
  obtain ⟨S,y,hk,rfl,rfl,hy,hown,hf,hbel,hv⟩:=hrel
  by_cases hlt:S.length < A.length
  ·obtain ⟨z,hz⟩:∃ z,A[S.length]?.getD 0 = z:=⟨_,rfl⟩
   have bz:z < 4294967296:=by rw [← hz];exact hA.lt _
   obtain ⟨b1,o1,hao,hb1',hc1⟩:=hA.ne (by omega)
   have ca1:=hc1 S.length hlt
   rw [hz] at ca1
   have dA:wr.cell? ⟨b1,o1+S.length,none⟩ = some (.int .u32 (z:Int)):=by rw [hbel.cell (p:=⟨b1,o1+S.length,none⟩) hb1'];exact ca1
   have HS2:=hide (uH HST S y z hz hv.out)
   have hzx:=mul_lt z x bz bx
   obtain ⟨hzxI,hzx0⟩:=mul_ltI z x bz bx
   obtain ⟨ec,ed⟩:=single_casts x z y
   have by':(z * x+y) / 4294967296 < 4294967296:=by omega
   have EC:=hide ec;have ED:=hide ed;have BY:=hide by'
   have hsz:=hbel.size
   have HF:=hide hf
   clear hz hv HST HEN hf hc1 ca1 ec ed by' hzx
   subst hao
   generalize hSl:S.length = k at *
   have HSL:=hide hSl
   clear hSl
   have hki:(k:Int) < (A.length:Int):=by omega
   go_wp2_with (at_builtin;refine wpList_append_own _ rfl _ _ 37 rfl w.heap.size 122 i0 (.int .u32 0) 1 4 Tryz.underlying37 hi hz0 hz1 hz2 rfl (by decide) _ _ _ rfl (hown.alloc _) ⟨wr.heap.size,0,none⟩ 1 1 [.int .u32 (((z:Int) * (x:Int)+(y:Int)) % 4294967296)] rfl rfl (cell_one_new _ _ _) (fun u hu=>by simp at hu;subst hu;rfl) (by unfold maxLen;omega) (by omega) (by simp;omega) ?_;intro v' w1 hown' hgrow _;have hbl:Below w.heap.size w w1:=((hbel.alloc hsz _).grown hgrow (by simp;omega) (fun g hg=>(hown.lt g hg).1));have ho2:=hide (own_snoc (x:=(z * x+y) % 4294967296) hown' (uH EC).symm);clear hown' hgrow)
   have hS2:=uH HS2
   have hl2:(S ++ [(z * x+y) % 4294967296]).length = k+1:=by simp [uH HSL]
   go_roundw
   case rel=>exact ⟨S ++ [(z * x+y) % 4294967296],(z * x+y) / 4294967296,by omega,by rw [hl2];go_num,int_eq (uH ED).symm,uH BY,by rw [hl2];exact uH ho2,(uH HF).snoc (Nat.mod_lt _ (by decide)),hbl,by rw [hl2];exact hS2⟩
   case measure=>simp [intOf];omega
  ·have hsl:S.length = A.length:=by omega
   have hend:=uH HEN S y hsl hv.out
   have HEND:=hide hend
   have HSL:=hide hsl
   have hsz:=hbel.size
   have HF:=hide (hf.snoc hy)
   clear hend hv HST HEN hf hsl
   have hki:¬ ((S.length:Nat):Int) < (A.length:Int):=by omega
   go_wp2_with (at_builtin;refine wpList_append_own _ rfl _ _ 37 rfl w.heap.size 122 i0 (.int .u32 0) 1 4 Tryz.underlying37 hi hz0 hz1 hz2 rfl (by decide) _ _ _ rfl (hown.alloc _) ⟨wr.heap.size,0,none⟩ 1 1 [.int .u32 (y:Int)] rfl rfl (cell_one_new _ _ _) (fun u hu=>by simp at hu;subst hu;rfl) (by unfold maxLen;omega) (by omega) (by simp;omega) ?_;intro v' w1 hown' hgrow _;have hbl:Below w.heap.size w w1:=((hbel.alloc hsz _).grown hgrow (by simp;omega) (fun g hg=>(hown.lt g hg).1));have ho2:=hide (own_snoc (x:=y) hown' rfl);clear hown' hgrow)
   obtain ⟨ao',cap',e1,e2,e3,e4⟩:=own_limbs (uH ho2) (uH HF)
   subst e1
   go_ret
   exact ⟨ao',cap',S ++ [y],rfl,e2,e3,by have:=uH HSL;simp;omega,uH HEND,hbl⟩
end Go.Proofs.YtdhmglmccafbnaaGreatDoor
namespace Go.Proofs.YtdhmglmccafbnaaGreatDoor
open Go.RowKit
attribute [local go_sem ↓] Go.wp_at_zero Go.wp_at_succ
theorem own_zero (W:World):(W.alloc (.cells #[.int .u32 0] 122)).ownsRow W.heap.size 122 1 (.slice (some ⟨W.heap.size,0,none⟩) 1 1) 1 [.int .u32 0] :=
 ⟨by simp,.inr ⟨W.heap.size,1,#[.int .u32 0],rfl,Nat.le_refl _,heap_alloc_new W _,Nat.le_refl _,by simp [maxLen],by simp,by simp⟩⟩
theorem val_drop_succ (B:List Nat) (k:Nat) (h:k < B.length):val (B.drop k) = B[k]?.getD 0+4294967296 * val (B.drop (k+1)):=by
 rw [List.drop_eq_getElem_cons h]
 simp [val,h]
theorem mul_sign (na nb:Bool) (A B S:List Nat) (h:val S = val A * val B):sval (na != nb) S = sval na A * sval nb B:=by
 unfold sval
 rw [h]
 cases na <;> cases nb <;> simp [Int.natCast_mul,Int.neg_mul,Int.mul_neg]
theorem refMul_any (na nb:Bool) (ao bo:Option Addr) (ca cb:Nat) (A B:List Nat) (w:World) (hA:LimbsAt w ao ca A) (hB:LimbsAt w bo cb B) (la:A.length≤1048576) (lb:B.length≤1048576) :
  Calls Tryz.prog 72 #[.agg #[.bool na,.slice ao A.length ca],.agg #[.bool nb,.slice bo B.length cb]] w fun e w'=>∃ v,e = .returned v∧IsNum 0 w' v (sval na A * sval nb B)∧Below w.heap.size w w':=by
 obtain ⟨i0,hi,hz0,hz1,hz2⟩:=info_parts Tryz.info122
 have HZ:=hide (fun S=>mul_sign na nb A B S)
 generalize sval na A * sval nb B = z at *
 go_enter Tryz.func72,Tryz.ntmps72
 go_wp2
 go_loopw [5,6,7] (fun v i _ wr=>∃ (m b off cap:Nat) (S:List Nat),m≤B.length∧i = .int .i64 ((m:Int) - 1)∧v = .slice (some ⟨b,off,none⟩) S.length cap∧Hid (LimbsAt wr (some ⟨b,off,none⟩) cap S)∧Box2 wr w.heap.size (.bool na) (.slice ao A.length ca)∧Box2 wr (w.heap.size+1) (.bool nb) (.slice bo B.length cb)∧Box2 wr (w.heap.size+2) (.bool false) (.slice none 0 0)∧S.length+2 * m≤A.length+1+2 * B.length∧Hid (val S = val A * val (B.drop m))∧Below w.heap.size w wr)
  (fun _ i _ _=>(intOf i+1).toNat)
 case atStart =>
  refine ⟨B.length,w.heap.size+3,0,0,[],Nat.le_refl _,rfl,rfl,LimbsAt.nil _ _ _,(((Box2.new _ _ _).old _).old _).old _,?_,?_,by simp,by unfold Hid;simp [val],?_⟩
  ·have:=((Box2.new (w.alloc (.cells #[.bool na,.slice ao A.length ca] 39)) (.bool nb) (.slice bo B.length cb)).old (.cells #[.bool false,.slice none 0 0] 39)).old (.cells #[] 122)
   simpa using this
  ·have:=(Box2.new ((w.alloc (.cells #[.bool na,.slice ao A.length ca] 39)).alloc (.cells #[.bool nb,.slice bo B.length cb] 39)) (.bool false) (.slice none 0 0)).old (.cells #[] 122)
   simpa using this
  ·exact ((((Below.refl _ _).alloc (Nat.le_refl _) _).alloc (by simp) _).alloc (by simp;omega) _).alloc (by simp;omega) _
 case round =>
  obtain ⟨m,b,off,cap,S,hm,rfl,rfl,hS,x0,x1,x2,hlen,hv,hbel⟩:=hrel
  by_cases h0:m = 0
  ·subst h0
   have hz:=uH HZ S (by have:=hv.out;simpa using this)
   have Z:=hide hz
   have X2:=hide x2;have BEL:=hide hbel
   have p0:=x0.c0;have q0:=x1.c0
   have zlt:=x2.lt
   clear hz HZ hv x0 x1 x2 hbel hA hB
   go_wp2_with fail
   have hcall:=made_any 0 (na != nb) (some ⟨b,off,none⟩) cap S wr (uH hS) (NewAt.zero (uH hS)) (by omega)
   rw [uH Z] at hcall
   have hbool:(!na == nb) = (na != nb):=by cases na <;> cases nb <;> rfl
   rw [hbool]
   refine hcall.mono ?_
   rintro e w2 ⟨v,rfl,⟨n2,a2,c2,L2,rfl,i1⟩,hb2⟩
   have X4:=(uH X2).below hb2 (uH X2).lt
   have y0:=X4.c0;have y1:=X4.c1;have f0:=X4.free 0;have f1:=X4.free 1
   have HB2:=hide ((uH BEL).trans (hb2.mono (by omega)))
   have I1:=hide i1;have XX4:=hide X4
   clear hcall X4 hb2 i1
   go_wp2
   refine bodyPost_ret (v:=.agg #[.bool n2,.slice a2 L2.length c2]) (by simp [results,Tryz.results72,go_sem,y0,y1]) rfl ⟨.agg #[.bool n2,.slice a2 L2.length c2],rfl,?_,?_⟩
   ·have i:=uH I1
    exact ⟨n2,a2,c2,L2,rfl,i.1.box (uH XX4) _ _,i.2.1,i.2.2.1,i.2.2.2.1,i.2.2.2.2.1,by have:=i.2.2.2.2.2;omega⟩
   ·exact ((uH HB2).setCell (by simp;omega) _).setCell (by simp;omega) _
  ·obtain ⟨k,rfl⟩:∃ k,m = k+1:=⟨m - 1,by omega⟩
   rw [show (((k+1:Nat):Int) - 1) = (k:Int) by omega]
   clear h0 HZ
   obtain ⟨x,hx⟩:∃ x,B[k]?.getD 0 = x:=⟨_,rfl⟩
   have bx:x < 4294967296:=by rw [← hx];exact hB.lt _
   obtain ⟨b2,o2,hbo,hb2',hc2⟩:=hB.ne (by omega)
   have cb2:=hc2 k (by omega)
   rw [hx] at cb2
   have hstep:∀ L1 L2:List Nat,val L1 = val A * x→val L2 = val (0 :: S)+val L1→val L2 = val A * val (B.drop k):=by
    intro L1 L2 e1 e2
    have:=hv.out
    rw [e2,e1,val_drop_succ B k (by omega),hx,Nat.mul_add]
    simp only [val]
    rw [this,Nat.zero_add,← Nat.mul_assoc,← Nat.mul_assoc,Nat.mul_comm 4294967296 (val A)]
    omega
   have hnews:∀ j u,(S.map limbV)[j]? = some u→(wr.alloc (.cells #[.int .u32 0] 122)).cell? ((⟨b,off,none⟩:Addr).add j) = some u:=by
    intro j u hu
    rw [List.getElem?_map] at hu
    have hj:j < S.length:=by
     rcases Nat.lt_or_ge j S.length with e | e
     ·exact e
     ·rw [List.getElem?_eq_none e] at hu;simp at hu
    obtain ⟨b',off',e0,hb',hcl⟩:=(uH hS).ne (by omega)
    simp only [Option.some.injEq,Addr.mk.injEq,and_true] at e0
    obtain ⟨rfl,rfl⟩:=e0
    have e3:(⟨b,off,none⟩:Addr).add j = ⟨b,off+j,none⟩:=by simp [Addr.add]
    rw [e3,((Below.refl wr.heap.size wr).alloc (Nat.le_refl _) _).cell (p:=⟨b,off+j,none⟩) hb',hcl j hj]
    rw [List.getElem?_eq_getElem hj] at hu ⊢
    simpa [limbV] using hu
   have hone:∀ u ∈ S.map limbV,u.oneCell' = true:=by
    intro u hu
    obtain ⟨y,_,rfl⟩:=List.mem_map.1 hu
    rfl
   have hfit:Fits (0 :: S):=by
    intro y hy
    rcases List.mem_cons.1 hy with rfl | hy
    ·decide
    ·exact (uH hS).2.1 y hy
   have HSTEP:=hide hstep;have HNEWS:=hide hnews;have HONE:=hide hone;have HFIT:=hide hfit;have HCB:=hide cb2
   have X0:=hide x0;have X1:=hide x1;have X2:=hide x2;have BEL:=hide hbel;have HLEN:=hide hlen
   have z0:=x0.lt;have z1:=x1.lt;have z2:=x2.lt
   have ls:S.length≤4000000:=by omega
   have hk0:(0:Int)≤(k:Int):=by omega
   have hkI:(k:Int) < (B.length:Int):=by omega
   subst hbo
   have HA:=hide hA;have HB:=hide hb2'
   clear hstep hnews hone hfit cb2 x0 x1 x2 hbel hlen hv hx hc2 hA hB hS hb2'
   go_wp2_with (at_builtin;refine wpList_append_own _ rfl _ _ 37 rfl wr.heap.size 122 i0 (.int .u32 0) 1 4 Tryz.underlying37 hi hz0 hz1 hz2 rfl (by decide) _ 1 [.int .u32 0] rfl (own_zero wr) ⟨b,off,none⟩ S.length cap (S.map limbV) rfl (by simp) (uH HNEWS) (uH HONE) (by unfold maxLen;omega) (by omega) (by simp) ?_;intro v' w1 hown' hgrow _;have ho2:=hide hown';have hgr:=hide hgrow;clear hown' hgrow)
   obtain ⟨ao',cap',e1,e2,e3,e4⟩:=own_limbs (S:=0 :: S) (uH ho2) (uH HFIT)
   subst e1
   have hbl:Below wr.heap.size wr w1:=((Below.refl _ _).alloc (Nat.le_refl _) _).grown (uH hgr) (by simp) (fun g hg=>by have e:some wr.heap.size = some g:=hg;cases e;exact Nat.le_refl _)
   have x0:=(uH X0).below hbl (uH X0).lt
   have x1:=(uH X1).below hbl (uH X1).lt
   have x2:=(uH X2).below hbl (uH X2).lt
   have b1:Below w.heap.size w w1:=(uH BEL).trans (hbl.mono (uH BEL).size)
   have hcb:w1.cell? ⟨b2,o2+k,none⟩ = some (.int .u32 (x:Int)):=by rw [b1.cell (p:=⟨b2,o2+k,none⟩) (uH HB)];exact uH HCB
   have hb2w:b2 < w1.heap.size:=Nat.lt_of_lt_of_le (uH HB) b1.size
   have hlS:(0 :: S).length≤35184372088830:=by simp;omega
   have hSA:=hide ((uH HA).below b1)
   have E2:=hide e2;have B1:=hide b1;have Y0:=hide x0;have Y1:=hide x1;have Y2:=hide x2
   have hK:∀ w',Below w1.heap.size w1 w'→Below w1.heap.size w1 w'∧w'.cell? ⟨w.heap.size,1,none⟩ = some (.slice ao A.length ca)∧w'.cell? ⟨w.heap.size+1,1,none⟩ = some (.slice (some ⟨b2,o2,none⟩) B.length cb)∧w'.cell? ⟨b2,o2+k,none⟩ = some (.int .u32 (x:Int)):=fun w' h =>
    ⟨h,(x0.below h x0.lt).c1,(x1.below h x1.lt).c1,(h.cell (p:=⟨b2,o2+k,none⟩) hb2w).trans hcb⟩
   have HK:=hide hK
   clear hK x0 x1 x2 b1 hcb e2 e3 e4 ho2 hgr hbl X0 X1 X2 BEL HCB HNEWS HONE HFIT HA HB
   refine at_world (fun W=>W = w1) rfl ?_
   rintro W0 e0
   subst e0
   go_region_held3 (fun w'=>Below W0.heap.size W0 w'∧w'.cell? ⟨w.heap.size,1,none⟩ = some (.slice ao A.length ca)∧w'.cell? ⟨w.heap.size+1,1,none⟩ = some (.slice (some ⟨b2,o2,none⟩) B.length cb)∧w'.cell? ⟨b2,o2+k,none⟩ = some (.int .u32 (x:Int)))
    (first | exact uH HK _ (Below.refl _ _).drew | exact uH HK _ (by assumption))
    (first | (go_at_call 128;refine (single_any ao ca A x _ ((uH hSA).below (And.left (by assumption))) bx (by omega)).mono ?_;rintro e w3 ⟨ao3,c3,L3,rfl,g1,g2,g3,g4,hb1⟩;have hB1:Below W0.heap.size W0 w3:=Below.trans (And.left (by assumption)) (hb1.mono (Below.size (And.left (by assumption))));have G1:=hide g1;have G3:=hide g3;have G4:=hide g4;have l3:L3.length≤35184372088830:=(by omega);clear hb1 g1 g2 g3 g4) | (go_at_call 127;refine (plus_any ao' ao3 cap' c3 (0 :: S) L3 _ ((uH E2).below hB1) (uH G1) hlS l3).mono ?_;rintro e w4 ⟨ao4,c4,L4,rfl,g1,g2,g3,g4,hb1⟩;have hB2:Below W0.heap.size W0 w4:=hB1.trans (hb1.mono hB1.size);have J1:=hide g1;have J3:=hide g3;have J4:=hide g4;clear hb1 g1 g2 g3 g4))
   obtain ⟨b5,o5,e5,hb5,hc5⟩:=(uH J1).ne (by have:=uH J3;omega)
   subst e5
   have HST:=hide (uH HSTEP L3 L4 (uH G4) (uH J4))
   have hl4:L4.length+2 * k≤A.length+1+2 * B.length:=by
    have h1:=uH J3;have h2:=uH G3;have h3:=uH HLEN
    simp only [List.length_cons] at h1
    omega
   clear hc5 HSTEP
   go_wp2
   go_roundw
   case rel=>exact ⟨k,b5,o5,c4,L4,by omega,by go_num,rfl,uH J1,(uH Y0).below hB2 (uH Y0).lt,(uH Y1).below hB2 (uH Y1).lt,(uH Y2).below hB2 (uH Y2).lt,hl4,uH HST,(uH B1).trans (hB2.mono (uH B1).size)⟩
   case measure=>simp [intOf]
end Go.Proofs.YtdhmglmccafbnaaGreatDoor
namespace Go.Proofs.YtdhmglmccafbnaaGreatDoor
open Go.RowKit
def fits64 (x:Int):Bool:=decide (-9223372036854775808≤x∧x≤9223372036854775807)
def smE (neg:Bool) (L:List Nat):Int:=if rightB neg L then (if fits64 (sval neg L) then 0 else 2) else 1
def smV (neg:Bool) (L:List Nat):Int:=if rightB neg L && fits64 (sval neg L) then sval neg L else 0
theorem or_above (v x i:Nat) (hv:v < 2 ^ i):v ||| x * 2 ^ i = v+x * 2 ^ i:=by
 have:=Nat.two_pow_add_eq_or_of_lt hv x
 rw [Nat.mul_comm x,Nat.or_comm,← this];omega
theorem or_limb (v x k:Nat) (hk:k≤1) (hv:v < 4294967296 ^ k) (hx:x < 4294967296) :
  bits BinOp.or IntKind.u64 (v:Int) (IntKind.u64.wrap ((x:Int) * 2 ^ (k * 32))) = ((v+4294967296 ^ k * x:Nat):Int):=by
 rcases (show k = 0 ∨ k = 1 by omega) with rfl | rfl
 ·have e:IntKind.u64.wrap ((x:Int) * 2 ^ (0 * 32)) = ((x:Nat):Int):=by
   simp only [IntKind.wrap,IntKind.signed,IntKind.bits];simp;omega
  rw [e,u64_or_nat v x (by simp at hv;omega) (by omega)]
  have:v = 0:=by simpa using hv
  subst this;simp
 ·have e:IntKind.u64.wrap ((x:Int) * 2 ^ (1 * 32)) = ((x * 2 ^ 32:Nat):Int):=by
   simp only [IntKind.wrap,IntKind.signed,IntKind.bits];simp;omega
  rw [e,u64_or_nat v (x * 2 ^ 32) (by simp at hv;omega) (by omega),or_above v x 32 (by simpa using hv)]
  congr 1
  simp;omega
theorem wrap_back (v:Nat) (hv:v≤9223372036854775808):wrap64 (IntKind.u64.wrap (-(v:Int))) = -(v:Int):=by
 unfold wrap64
 simp only [IntKind.wrap,IntKind.signed,IntKind.bits]
 simp
 omega
theorem small_right (neg:Bool) (ao:Option Addr) (cap:Nat) (L:List Nat) (w:World) (h:LimbsAt w ao cap L) (hr:rightB neg L = true) (hl:L.length≤2) :
  Calls Tryz.prog 299 #[.agg #[.bool neg,.slice ao L.length cap]] w fun e w'=>e = .returned (.tuple #[.int .i64 (smV neg L),.int .i64 (smE neg L)])∧Below w.heap.size w w':=by
 have hck:=check_any neg ao cap L (w.alloc (.cells #[.bool neg,.slice ao L.length cap] 39)) (h.below ((Below.refl _ _).alloc (Nat.le_refl _) _)) (by omega)
 have hz:chkE neg L = 0:=by simp [chkE,hr]
 rw [hz] at hck
 have hF:(neg = true→val L≤9223372036854775808→smV neg L = -(val L:Int)∧smE neg L = 0)∧(neg = true→9223372036854775808 < val L→smV neg L = 0∧smE neg L = 2)∧(neg = false→val L < 9223372036854775808→smV neg L = (val L:Int)∧smE neg L = 0)∧(neg = false→9223372036854775808≤val L→smV neg L = 0∧smE neg L = 2):=by
  unfold smV smE
  rw [hr]
  refine ⟨?_,?_,?_,?_⟩ <;> (rintro rfl hv;simp only [sval,fits64,if_true,Bool.true_and,Bool.false_eq_true,if_false])
  ·rw [decide_eq_true (by omega)];simp
  ·rw [decide_eq_false (by omega)];simp
  ·rw [decide_eq_true (by omega)];simp
  ·rw [decide_eq_false (by omega)];simp
 have HF:=hide hF
 clear hF
 generalize smV neg L = r at *
 generalize smE neg L = e2 at *
 have HCK:=hide hck
 clear hck hz hr
 go_enter Tryz.func299,Tryz.ntmps299
 go_wp2_with fail
 refine (uH HCK).mono ?_
 rintro e w1 ⟨rfl,hb1⟩
 have x0:Box2 w1 w.heap.size (.bool neg) (.slice ao L.length cap):=(Box2.new _ _ _).below hb1 (by simp)
 have p0:=x0.c0;have p1:=x0.c1
 have bel:Below w.heap.size w w1:=((Below.refl _ _).alloc (Nat.le_refl _) _).trans (hb1.mono (by simp))
 clear x0 hb1 HCK
 go_wp2
 go_loop [5,19] (fun s i=>∃ k:Nat,k≤L.length∧i = .int .i64 k∧s = .int .u64 ((val (L.take k):Nat):Int)) (fun _ i=>L.length - (intOf i).toNat)
 case atStart=>exact ⟨0,Nat.zero_le _,rfl,by simp [val]⟩
 case round =>
  obtain ⟨k,hk,rfl,rfl⟩:=hrel
  by_cases hlt:k < L.length
  ·obtain ⟨b,off,hao,hb,hc⟩:=h.ne (by omega)
   have c1:=hc k hlt
   have d1:w1.cell? ⟨b,off+k,none⟩ = some (.int .u32 ((L[k]?.getD 0:Nat):Int)):=by rw [bel.cell (p:=⟨b,off+k,none⟩) hb];exact c1
   have hx:=h.lt k
   have hv:=val_take_lt L h.2.1 k
   have hvs:=val_take_succ L k
   have HVS:=hide hvs
   clear c1 hc hvs
   generalize L[k]?.getD 0 = x at *
   generalize hvk:val (L.take k) = v at *
   clear hvk h
   subst hao
   have hk1:k≤1:=by omega
   have hor:=or_limb v x k hk1 hv hx
   have HOR:=hide hor
   clear hor
   go_wp2
   go_round
   case rel=>exact ⟨k+1,by omega,by go_num,int_eq (by rw [uH HOR,uH HVS])⟩
   case measure=>simp [intOf];omega
  ·have hkl:k = L.length:=by omega
   rw [hkl,List.take_length]
   clear hkl hk hlt
   have hvl:=val_lt L h.2.1
   have hv64:val L < 18446744073709551616:=by
    refine Nat.lt_of_lt_of_le hvl ?_
    have:=Nat.pow_le_pow_right (n:=4294967296) (by decide) hl
    simpa using this
   generalize val L = v at *
   clear hvl h
   cases neg
   ·rcases Nat.lt_or_ge v 9223372036854775808 with hv | hv
    ·have H:=hide ((uH HF).2.2.1 rfl hv)
     have hv':(v:Int) < 9223372036854775808:=by omega
     clear HF hv hv64
     go_wp2
     go_ret2
     exact ⟨ret_int2 (uH H).1.symm (uH H).2.symm,bel⟩
    ·have H:=hide ((uH HF).2.2.2 rfl hv)
     have hv':¬ (v:Int) < 9223372036854775808:=by omega
     clear HF
     go_wp2
     go_ret2
     exact ⟨ret_int2 (uH H).1.symm (uH H).2.symm,bel⟩
   ·rcases Nat.lt_or_ge 9223372036854775808 v with hv | hv
    ·have H:=hide ((uH HF).2.1 rfl hv)
     have hv':¬ (v:Int)≤9223372036854775808:=by omega
     clear HF
     go_wp2
     go_ret2
     exact ⟨ret_int2 (uH H).1.symm (uH H).2.symm,bel⟩
    ·have H:=hide ((uH HF).1 rfl hv)
     clear HF
     go_wp2
     go_ret2
     refine ⟨ret_int2 ?_ (uH H).2.symm,bel⟩
     rw [(uH H).1]
     exact wrap_back v hv
theorem small_any (neg:Bool) (ao:Option Addr) (cap:Nat) (L:List Nat) (w:World) (h:LimbsAt w ao cap L) (hl:L.length≤35184372088830) :
  Calls Tryz.prog 299 #[.agg #[.bool neg,.slice ao L.length cap]] w fun e w'=>e = .returned (.tuple #[.int .i64 (smV neg L),.int .i64 (smE neg L)])∧Below w.heap.size w w':=by
 cases hr:rightB neg L
 ·have hck:=check_any neg ao cap L (w.alloc (.cells #[.bool neg,.slice ao L.length cap] 39)) (h.below ((Below.refl _ _).alloc (Nat.le_refl _) _)) hl
  have hz:chkE neg L = 1:=by simp [chkE,hr]
  rw [hz] at hck
  have HCK:=hide hck
  have H:=hide (show smV neg L = 0∧smE neg L = 1 by simp [smV,smE,hr])
  generalize smV neg L = r at *
  generalize smE neg L = e2 at *
  clear hck hz hr
  go_enter Tryz.func299,Tryz.ntmps299
  go_wp2_with fail
  refine (uH HCK).mono ?_
  rintro e w1 ⟨rfl,hb1⟩
  go_wp2
  go_ret2
  exact ⟨ret_int2 (uH H).1.symm (uH H).2.symm,((Below.refl _ _).alloc (Nat.le_refl _) _).trans (hb1.mono (by simp))⟩
 ·by_cases h2:L.length≤2
  ·exact small_right neg ao cap L w h hr h2
  ·have hck:=check_any neg ao cap L (w.alloc (.cells #[.bool neg,.slice ao L.length cap] 39)) (h.below ((Below.refl _ _).alloc (Nat.le_refl _) _)) hl
   have hz:chkE neg L = 0:=by simp [chkE,hr]
   rw [hz] at hck
   have HCK:=hide hck
   have hbig:18446744073709551616≤val L:=by
    rcases (right_canon hr).2.1 with e | e
    ·rw [e] at h2;simp at h2
    ·have h3:=val_ge L e
     have h4:=Nat.pow_le_pow_right (n:=4294967296) (by decide) (show 2≤L.length - 1 by omega)
     simp at h4;omega
   have hf:fits64 (sval neg L) = false:=by
    unfold fits64 sval
    rw [decide_eq_false_iff_not]
    cases neg <;> simp <;> omega
   have H:=hide (show smV neg L = 0∧smE neg L = 2 by simp [smV,smE,hr,hf])
   generalize smV neg L = r at *
   generalize smE neg L = e2 at *
   clear hck hz hr hbig hf
   go_enter Tryz.func299,Tryz.ntmps299
   go_wp2_with fail
   refine (uH HCK).mono ?_
   rintro e w1 ⟨rfl,hb1⟩
   have x0:Box2 w1 w.heap.size (.bool neg) (.slice ao L.length cap):=(Box2.new _ _ _).below hb1 (by simp)
   have p0:=x0.c0;have p1:=x0.c1
   have bel:Below w.heap.size w w1:=((Below.refl _ _).alloc (Nat.le_refl _) _).trans (hb1.mono (by simp))
   clear x0 hb1 HCK
   go_wp2
   go_ret2
   exact ⟨ret_int2 (uH H).1.symm (uH H).2.symm,bel⟩
theorem refOf_any (n:Int) (w:World) (h0:-9223372036854775808≤n) (h1:n≤9223372036854775807) :
  Calls Tryz.prog 46 #[.int .i64 n] w fun e w'=>∃ v,e = .returned v∧IsNumM 2 w.heap.size w' v n∧Below w.heap.size w w':=by
 obtain ⟨m,hm⟩:∃ m,m = n.natAbs:=⟨_,rfl⟩
 have hf:Fits [m % 4294967296,m / 4294967296]:=by intro x hx;simp at hx;omega
 have HF:=hide hf
 have HM:=hide hm
 clear hf hm
 by_cases hn:n < 0
 ·have hs:sval true [m % 4294967296,m / 4294967296] = n:=by
   have:=uH HM
   unfold sval;rw [if_pos rfl,val_two];omega
  have HS:=hide hs
  clear hs
  go_enter Tryz.func46,Tryz.ntmps46
  go_wp2_with fail
  have hm:=uH HM
  have hR:=two_row (w.alloc (.cells #[.bool false,.slice none 0 0] 39)) (w.heap.size+1) ((-(n+1)+1) % 4294967296) ((-(n+1)+1) / 4294967296) (m % 4294967296) (m / 4294967296) (by simp) (by omega) (by omega)
  refine (made_any (w.heap.size+1) true (some ⟨w.heap.size+1,0,none⟩) 2 [m % 4294967296,m / 4294967296] _ (hR.limbs (uH HF) 2 (by simp)) (.inr ⟨_,_,rfl,Nat.le_refl _⟩) (by simp)).mono ?_
  rw [uH HS]
  rintro e w1 ⟨v,rfl,⟨n2,a2,c2,L2,rfl,i1⟩,hb1⟩
  have r1:Box2 w1 w.heap.size (.bool false) (.slice none 0 0):=((Box2.new _ _ _).old _).below hb1 (by simp;omega)
  have y0:=r1.c0;have y1:=r1.c1;have f0:=r1.free 0;have f1:=r1.free 1
  have I1:=hide i1
  have HB1:=hide ((((Below.refl _ w).alloc (Nat.le_refl _) (.cells #[.bool false,.slice none 0 0] 39)).alloc (by simp) _).trans (hb1.mono (by simp;omega)))
  clear i1 hb1 r1 hR hm
  go_wp2
  refine bodyPost_ret (v:=.agg #[.bool n2,.slice a2 L2.length c2]) (by simp [results,Tryz.results46,go_sem,y0,y1]) rfl ⟨.agg #[.bool n2,.slice a2 L2.length c2],rfl,?_,?_⟩
  ·exact IsNumM.stored (uH I1) (by simp) (by simp) (by omega) _ _
  ·exact ((uH HB1).setCell (by simp) _).setCell (by simp) _
 ·have hs:sval false [m % 4294967296,m / 4294967296] = n:=by
   have:=uH HM
   unfold sval;rw [if_neg (by decide),val_two];omega
  have HS:=hide hs
  clear hs
  go_enter Tryz.func46,Tryz.ntmps46
  go_wp2_with fail
  have hm:=uH HM
  have hR:=two_row (w.alloc (.cells #[.bool false,.slice none 0 0] 39)) (w.heap.size+1) (n % 4294967296) (n / 4294967296) (m % 4294967296) (m / 4294967296) (by simp) (by omega) (by omega)
  refine (made_any (w.heap.size+1) false (some ⟨w.heap.size+1,0,none⟩) 2 [m % 4294967296,m / 4294967296] _ (hR.limbs (uH HF) 2 (by simp)) (.inr ⟨_,_,rfl,Nat.le_refl _⟩) (by simp)).mono ?_
  rw [uH HS]
  rintro e w1 ⟨v,rfl,⟨n2,a2,c2,L2,rfl,i1⟩,hb1⟩
  have r1:Box2 w1 w.heap.size (.bool false) (.slice none 0 0):=((Box2.new _ _ _).old _).below hb1 (by simp;omega)
  have y0:=r1.c0;have y1:=r1.c1;have f0:=r1.free 0;have f1:=r1.free 1
  have I1:=hide i1
  have HB1:=hide ((((Below.refl _ w).alloc (Nat.le_refl _) (.cells #[.bool false,.slice none 0 0] 39)).alloc (by simp) _).trans (hb1.mono (by simp;omega)))
  clear i1 hb1 r1 hR hm
  go_wp2
  refine bodyPost_ret (v:=.agg #[.bool n2,.slice a2 L2.length c2]) (by simp [results,Tryz.results46,go_sem,y0,y1]) rfl ⟨.agg #[.bool n2,.slice a2 L2.length c2],rfl,?_,?_⟩
  ·exact IsNumM.stored (uH I1) (by simp) (by simp) (by omega) _ _
  ·exact ((uH HB1).setCell (by simp) _).setCell (by simp) _
end Go.Proofs.YtdhmglmccafbnaaGreatDoor
namespace Go.Proofs.YtdhmglmccafbnaaGreatDoor
open Go.RowKit
def Tab (w:World):Prop:=TabAt 1 Lib.deBruijn32tab w
theorem Tab.below {w w':World} {B:Nat} (h:Tab w) (hb:Below B w w') (h0:1 < B):Tab w':=fun j hj=>by
 rw [hb.cell (p:=⟨1,j,none⟩) h0]
 exact h j hj
theorem Tab.pos {w:World} (h:Tab w):1 < w.heap.size:=World.block_lt_of_cell? w _ (h 0 (by decide))
theorem Tab.all {w w':World} (h:Tab w) (hb:Below w.heap.size w w'):Tab w':=h.below hb h.pos
theorem tz32_core (x k idx:Nat) (w:World) (hx0:((x:Int) == 0) = false)
  (key:bits BinOp.and IntKind.u32 (x:Int) (-(x:Int) % 4294967296) * 125613361 % 4294967296 / 134217728 = (idx:Int))
  (hi:idx < 32) (hk:k < 32) (hcell:w.cell? ⟨1,idx,none⟩ = some (.int .u8 k)) :
  Calls Tryz.prog 287 #[.int .u32 x] w fun e w'=>e = .returned (.int .i64 k)∧w = w':=by
 go_enter Tryz.func287,Tryz.ntmps287
 go_wp2_with (simp only [key])
 go_ret
 exact ⟨rfl,rfl⟩
theorem tz32_any (x:Nat) (w:World) (hx:x < 4294967296) (hT:Tab w) :
  Calls Tryz.prog 287 #[.int .u32 x] w fun e w'=>e = .returned (.int .i64 (Lib.ctz 32 x))∧w = w':=by
 by_cases hx0:x = 0
 ·subst hx0
  go_enter Tryz.func287,Tryz.ntmps287
  go_wp2
  go_ret
  exact ⟨rfl,rfl⟩
 ·obtain ⟨hlow,hk⟩:=Lib.lowest_bit 32 x hx0 hx
  obtain ⟨hi,htab⟩:=Lib.deBruijn32_at _ hk
  have hcell:=hT _ hi
  rw [htab] at hcell
  exact tz32_core x _ _ w (by simp;omega) (tz32_key x _ hx hx0 hlow) hi hk hcell
theorem within_any (n m:Int) (w:World) (hm:0≤m) (hm2:m≤100000) :
  Calls Tryz.prog 266 #[.int .i64 n,.int .i64 m] w fun e w'=>e = .returned (.bool (decide (-m≤n∧n≤m)))∧w = w':=by
 have hw:IntKind.i64.wrap (-m) = -m:=by
  simp only [IntKind.wrap,IntKind.signed,IntKind.bits]
  simp
  omega
 by_cases h1:-m≤n
 ·by_cases h2:n≤m
  ·go_enter Tryz.func266,Tryz.ntmps266
   go_wp2
   go_ret
   exact ⟨ret_bool (by simp [h1,h2]),rfl⟩
  ·go_enter Tryz.func266,Tryz.ntmps266
   go_wp2
   go_ret
   exact ⟨ret_bool (by simp [h2]),rfl⟩
 ·have h3:¬ (-m≤n∧n≤m):=fun h=>h1 h.1
  have H3:=hide (decide_eq_false h3)
  rw [uH H3]
  clear h3 H3
  go_enter Tryz.func266,Tryz.ntmps266
  go_wp2
  go_ret
  exact ⟨rfl,rfl⟩
theorem isZero_any (neg:Bool) (ao:Option Addr) (cap:Nat) (n:Nat) (w:World) :
  Calls Tryz.prog 267 #[.agg #[.bool neg,.slice ao n cap]] w fun e w'=>e = .returned (.bool (decide (n = 0)))∧Below w.heap.size w w':=by
 by_cases h0:n = 0
 ·subst h0
  go_enter Tryz.func267,Tryz.ntmps267
  go_wp2
  go_ret
  exact ⟨rfl,(Below.refl _ _).alloc (Nat.le_refl _) _⟩
 ·have h1:((n:Int) == 0) = false:=by simp;omega
  have H:=hide (decide_eq_false h0)
  clear h0
  go_enter Tryz.func267,Tryz.ntmps267
  go_wp2
  go_ret
  exact ⟨ret_bool (uH H).symm,(Below.refl _ _).alloc (Nat.le_refl _) _⟩
def sgnB (neg:Bool) (n:Nat):Int:=if n = 0 then 0 else if neg then -1 else 1
def lowZ (v:Nat):Int:=if v = 0 then 0 else (tz v:Int)
theorem lowZ_pos (v:Nat) (h:v ≠ 0):lowZ v = tz v:=by unfold lowZ;rw [if_neg h]
theorem lowZeros_any (neg:Bool) (ao:Option Addr) (cap:Nat) (L:List Nat) (w:World) (h:LimbsAt w ao cap L) (hl:L.length≤1073741824) (hT:Tab w) :
  Calls Tryz.prog 265 #[.agg #[.bool neg,.slice ao L.length cap]] w fun e w'=>e = .returned (.int .i64 (lowZ (val L)))∧Below w.heap.size w w':=by
 by_cases hne:L = []
 ·subst hne
  go_enter Tryz.func265,Tryz.ntmps265
  go_wp2
  refine wp_loop_rounds 1 ?_
  rw [rounds_succ]
  go_wp2
  go_ret
  exact ⟨rfl,(Below.refl _ _).alloc (Nat.le_refl _) _⟩
 obtain ⟨b,off,rfl,hb,hc⟩:=h.ne (List.length_pos_iff.2 hne)
 have hcap:=h.1
 have hb0:Below w.heap.size w (w.alloc (.cells #[.bool neg,.slice (some ⟨b,off,none⟩) L.length cap] 39)):=(Below.refl _ _).alloc (Nat.le_refl _) _
 have hc':∀ i,i < L.length→(w.alloc (.cells #[.bool neg,.slice (some ⟨b,off,none⟩) L.length cap] 39)).cell? ⟨b,off+i,none⟩ = some (.int .u32 ((L[i]?.getD 0:Nat):Int)):=fun i hi=>by
  rw [hb0.cell (p:=⟨b,off+i,none⟩) hb];exact hc i hi
 have hT':=hT.all hb0
 have HR:=hide (fun k x=>tz_limbs L k x)
 have HZ:=hide (fun h:val L = 0=>(show lowZ (val L) = 0 by rw [h];rfl))
 have HP:=hide (fun h=>lowZ_pos (val L) h)
 have HF:=hide (fun i=>h.lt i)
 have HV:=hide (fun k (hk:L.length≤k)=>val_take_all L k hk)
 have HS:=hide (fun k=>val_take_succ L k)
 have HB0:=hide hb0
 clear hT hc h hb hne hb0
 generalize lowZ (val L) = z at *
 go_enter Tryz.func265,Tryz.ntmps265
 go_wp2
 go_loop [3,9] (fun c i=>∃ k:Nat,k≤L.length∧i = .int .i64 k∧c = .int .i64 (32 * (k:Int))∧Hid (val (L.take k) = 0)) (fun _ i=>L.length - (intOf i).toNat)
 case atStart=>exact ⟨0,Nat.zero_le _,rfl,rfl,by unfold Hid;simp [val]⟩
 case round =>
  obtain ⟨k,hk,rfl,rfl,hv⟩:=hrel
  by_cases hlt:k < L.length
  ·have hc1:=hc' k hlt
   clear hc'
   have hx:=uH HF k
   have HS1:=hide (uH HS k)
   have HR1:=hide (fun h0=>uH HR k _ hv.out rfl h0 hx)
   clear HR HZ HS HF HV
   generalize L[k]?.getD 0 = x at *
   have TZ:=hide (tz32_any x _ hx hT')
   have hx32:(Lib.ctz 32 x:Int)≤32∧(0:Int)≤Lib.ctz 32 x:=by
    by_cases h0:x = 0
    ·subst h0;decide
    ·have:=(Lib.lowest_bit 32 x h0 (by omega)).2
     omega
   have HTC:=hide (fun h0=>tz_ctz x h0 hx)
   have e0:x = 0→Lib.ctz 32 x = 32:=fun h=>by subst h;rfl
   generalize Lib.ctz 32 x = c at *
   obtain ⟨c1,c2⟩:=hx32
   by_cases hx0:x = 0
   ·have ec:=e0 hx0
    subst hx0;subst ec
    have HN:Hid (val (L.take (k+1)) = 0):=by unfold Hid;rw [uH HS1,hv.out];simp
    clear HR1 HS1 hv HTC e0 HP
    go_wp2_with (go_at_call 287;refine (uH TZ).mono ?_;rintro e w' ⟨rfl,rfl⟩)
    go_round
    case rel=>exact ⟨k+1,by omega,by go_num,int_eq (by omega),HN⟩
    case measure=>simp [intOf];omega
   ·have hr:=uH HR1 hx0
    have HE:=hide (show z = 32 * (k:Int)+(c:Int) by rw [uH HP hr.1,hr.2,uH HTC hx0];omega)
    have hx1:((x:Int) != 0) = true:=by rw [bne_iff_ne];omega
    clear HR1 HS1 hv HTC e0 HP hr
    go_wp2_with (go_at_call 287;refine (uH TZ).mono ?_;rintro e w' ⟨rfl,rfl⟩)
    go_ret
    exact ⟨ret_int (uH HE).symm,uH HB0⟩
  ·have hz:=uH HZ (by rw [← uH HV k (by omega)];exact hv.out)
   subst hz
   clear HR HZ HP HF HV HS hv hc'
   go_wp2
   go_ret
   exact ⟨rfl,uH HB0⟩
end Go.Proofs.YtdhmglmccafbnaaGreatDoor
namespace Go.Proofs.YtdhmglmccafbnaaGreatDoor
open Go.RowKit
def Box3 (w:World) (b:Nat) (x y z:Value):Prop:=w.heap[b]? = some (.cells #[x,y,z] 41 (0,0))
theorem Box3.c0 {w:World} {b:Nat} {x y z:Value} (h:Box3 w b x y z):w.cell? ⟨b,0,none⟩ = some x:=by rw [cell_of_row w b 0 _ _ _ h];rfl
theorem Box3.c1 {w:World} {b:Nat} {x y z:Value} (h:Box3 w b x y z):w.cell? ⟨b,1,none⟩ = some y:=by rw [cell_of_row w b 1 _ _ _ h];rfl
theorem Box3.c2 {w:World} {b:Nat} {x y z:Value} (h:Box3 w b x y z):w.cell? ⟨b,2,none⟩ = some z:=by rw [cell_of_row w b 2 _ _ _ h];rfl
theorem Box3.free {w:World} {b:Nat} {x y z:Value} (h:Box3 w b x y z) (j:Nat):w.frozen? ⟨b,j,none⟩ = false:=frozen_of_row w b j _ _ h
theorem Box3.lt {w:World} {b:Nat} {x y z:Value} (h:Box3 w b x y z):b < w.heap.size:=(Array.getElem?_eq_some_iff.1 h).1
theorem Box3.below {w w':World} {b:Nat} {x y z:Value} (h:Box3 w b x y z) {B:Nat} (hb:Below B w w') (hlt:b < B):Box3 w' b x y z:=(hb.block b hlt).trans h
theorem Box3.new (w:World) (x y z:Value):Box3 (w.alloc (.cells #[x,y,z] 41)) w.heap.size x y z:=heap_alloc_new w _
theorem Box3.old {w:World} {b:Nat} {x y z:Value} (h:Box3 w b x y z) (o:Obj):Box3 (w.alloc o) b x y z:=by
 unfold Box3;rw [Below.heap_alloc w o b h.lt];exact h
theorem Box3.all {w w':World} {b:Nat} {x y z:Value} (h:Box3 w b x y z) (hb:Below w.heap.size w w'):Box3 w' b x y z:=h.below hb h.lt
theorem Box2.all {w w':World} {b:Nat} {x y:Value} (h:Box2 w b x y) (hb:Below w.heap.size w w'):Box2 w' b x y:=h.below hb h.lt
theorem Box3.drew {w:World} {b:Nat} {x y z:Value} (h:Box3 w b x y z):Box3 w.drew b x y z:=h
theorem Box3.other {w:World} {b:Nat} {x y z:Value} (h:Box3 w b x y z) {p:Addr} (hp:b ≠ p.block) (u:Value):Box3 (w.setCell p u) b x y z:=(Below.heap_setCell w p u b hp).trans h
theorem Box3.put {w:World} {b:Nat} {x y z:Value} (h:Box3 w b x y z) (u u' u'':Value):Box3 (((w.setCell ⟨b,0,none⟩ u).setCell ⟨b,1,none⟩ u').setCell ⟨b,2,none⟩ u'') b u u' u'':=by
 have h1:=heap_setCell_same w b 0 _ _ u h
 have h2:=heap_setCell_same (w.setCell ⟨b,0,none⟩ u) b 1 _ _ u' h1
 have h3:=heap_setCell_same ((w.setCell ⟨b,0,none⟩ u).setCell ⟨b,1,none⟩ u') b 2 _ _ u'' h2
 unfold Box3
 rw [h3]
 simp
theorem below_put3 {w w':World} {B b:Nat} (h:Below B w w') (hb:B≤b) (u u' u'':Value):Below B w (((w'.setCell ⟨b,0,none⟩ u).setCell ⟨b,1,none⟩ u').setCell ⟨b,2,none⟩ u'') :=
 ((h.setCell hb _).setCell hb _).setCell hb _
theorem LimbsAt.box3 {w:World} {ao:Option Addr} {cap g:Nat} {L:List Nat} (h:LimbsAt w ao cap L) {x:Bool} {a:Option Addr} {n c:Nat} {e:Int} (hx:Box3 w g (.bool x) (.slice a n c) (.int .i64 e)) (u u' u'':Value) :
  LimbsAt (((w.setCell ⟨g,0,none⟩ u).setCell ⟨g,1,none⟩ u').setCell ⟨g,2,none⟩ u'') ao cap L:=by
 refine ⟨h.1,h.2.1,?_⟩
 rcases h.2.2 with h0 | ⟨b,off,h1,h2,h3⟩
 ·exact .inl h0
 ·by_cases he:L = []
  ·exact .inl he
  ·have hp:0 < L.length:=List.length_pos_iff.2 he
   have hne:b ≠ g:=by
    rintro rfl
    have h4:=h3 0 hp
    rw [cell_of_row w b (off+0) _ _ _ hx] at h4
    rcases (show off = 0 ∨ off = 1 ∨ off = 2 ∨ 3≤off by omega) with e | e | e | e
    ·subst e;simp at h4
    ·subst e;simp at h4
    ·subst e;simp at h4
    ·rw [Array.getElem?_eq_none (by simp;omega)] at h4;simp at h4
   refine .inr ⟨b,off,h1,by simpa [World.setCell] using h2,fun i hi=>?_⟩
   rw [cell_setCell_other _ _ _ _ (by simpa using hne),cell_setCell_other _ _ _ _ (by simpa using hne),cell_setCell_other _ _ _ _ (by simpa using hne)]
   exact h3 i hi
def drB (neg:Bool) (L:List Nat) (e:Int):Bool:=rightB neg L && (if L.length = 0 then decide (e = 0) else (decide (val L % 2 = 1) && decide (-16384≤e∧e≤16384)))
def drE (neg:Bool) (L:List Nat) (e:Int):Int:=if drB neg L e then 0 else 1
theorem lowZ_odd (v:Nat) (h:v ≠ 0):0 < lowZ v ↔ v % 2 = 0:=by
 rw [lowZ_pos v h]
 obtain ⟨m,hm⟩:=tz_spec v (by omega)
 constructor
 ·intro h1
  obtain ⟨k,hk⟩:∃ k,tz v = k+1:=⟨tz v - 1,by omega⟩
  rw [hk,Nat.pow_succ,Nat.mul_assoc,Nat.mul_left_comm] at hm
  omega
 ·intro h1
  rcases Nat.eq_zero_or_pos (tz v) with e | e
  ·rw [e] at hm;simp at hm;omega
  ·omega
theorem lowZ_le (v:Nat) (h:v < TOP):0≤lowZ v∧lowZ v < 16384:=by
 by_cases h0:v = 0
 ·subst h0;decide
 ·rw [lowZ_pos v h0]
  have e:TOP = 2 ^ (32 * TOPN):=by
   unfold TOP
   rw [show (4294967296:Nat) = 2 ^ 32 by decide,← Nat.pow_mul]
  rw [e] at h
  have:=tz_lt v (32 * TOPN) (by omega) h
  have e2:32 * TOPN = 16384:=rfl
  omega
theorem dcheck_any (neg:Bool) (ao:Option Addr) (cap:Nat) (L:List Nat) (e:Int) (w:World) (h:LimbsAt w ao cap L) (hl:L.length≤35184372088830) (hT:Tab w) :
  Calls Tryz.prog 275 #[.agg #[.bool neg,.slice ao L.length cap,.int .i64 e]] w fun r w'=>r = .returned (.int .i64 (drE neg L e))∧Below w.heap.size w w':=by
 have HC:=hide (fun w' h'=>check_any neg ao cap L w' h' hl)
 have H1:=hide (show rightB neg L = false→drE neg L e = 1 from fun h=>by simp [drE,drB,h])
 have H2:=hide (show ¬ (-16384≤e∧e≤16384)→drE neg L e = 1 from fun h=>by
  unfold drE drB
  by_cases h0:L.length = 0
  ·rw [if_pos h0,decide_eq_false (show ¬ e = 0 by omega)];simp
  ·rw [if_neg h0,decide_eq_false h];simp)
 have H3:=hide (show L.length = 0→e ≠ 0→drE neg L e = 1 from fun h0 h=>by
  unfold drE drB
  rw [if_pos h0,decide_eq_false h];simp)
 have H4:=hide (show rightB neg L = true→L.length = 0→e = 0→drE neg L e = 0∧lowZ (val L) = 0 from fun h h0 h'=>by
  unfold drE drB
  rw [if_pos h0,decide_eq_true h',h]
  have:L = []:=List.length_eq_zero_iff.1 h0
  subst this
  exact ⟨by simp,rfl⟩)
 have H5:=hide (show rightB neg L = true→L.length ≠ 0→(-16384≤e∧e≤16384)→drE neg L e = if 0 < lowZ (val L) then 1 else 0 from fun h h0 h'=>by
  have hv:val L ≠ 0:=fun e=>h0 (by rw [(val_zero_of_canon L (right_canon h).2.1).1 e];rfl)
  unfold drE drB
  rw [if_neg h0,decide_eq_true h',h]
  have:=lowZ_odd _ hv
  by_cases h1:val L % 2 = 1
  ·rw [decide_eq_true h1,if_neg (show ¬ 0 < lowZ (val L) by omega)];simp
  ·rw [decide_eq_false h1,if_pos (show 0 < lowZ (val L) by omega)];simp)
 have HL:=hide (show rightB neg L = true→L.length≤512 from fun h=>(right_canon h).1)
 have HE:=hide (show chkE neg L = if rightB neg L then 0 else 1 from rfl)
 have HZ:=hide (fun w' h' h'' t=>lowZeros_any neg ao cap L w' h' h'' t)
 generalize drE neg L e = er at *
 generalize chkE neg L = ce at *
 generalize lowZ (val L) = lz at *
 generalize rightB neg L = rb at *
 have hb0:Below w.heap.size w (w.alloc (.cells #[.bool neg,.slice ao L.length cap,.int .i64 e] 41)):=(Below.refl _ _).alloc (Nat.le_refl _) _
 have x0:=Box3.new w (.bool neg) (.slice ao L.length cap) (.int .i64 e)
 go_enter Tryz.func275,Tryz.ntmps275
 go_wp2_with fail
 refine (uH HC _ (h.below hb0)).mono ?_
 rintro r w1 ⟨rfl,hb1⟩
 replace x0:=x0.all hb1
 have b1:=hb0.trans (hb1.mono hb0.size)
 rw [uH HE]
 clear hb1 HE HC hb0
 have p0:=x0.c0;have p1:=x0.c1;have p2:=x0.c2
 cases rb
 ·have hr:=uH H1 rfl
  subst hr
  simp only [Bool.false_eq_true,if_false]
  clear H1 H2 H3 H4 H5 HL HZ x0
  go_wp2
  go_ret
  exact ⟨rfl,b1⟩
 have HL':=uH HL rfl
 have H4':=hide (uH H4 rfl)
 have H5':=hide (uH H5 rfl)
 clear HL H4 H5 H1
 simp only [if_true]
 go_wp2_with fail
 refine (within_any e 16384 _ (by decide) (by decide)).mono ?_
 rintro r w2 ⟨rfl,rfl⟩
 by_cases hin:-16384≤e∧e≤16384
 case neg =>
  have hr:=uH H2 hin
  subst hr
  rw [decide_eq_false hin]
  clear H2 H3 H4' H5' HL' HZ x0 hin
  go_wp2
  go_ret
  exact ⟨rfl,b1⟩
 rw [decide_eq_true hin]
 go_wp2_with fail
 refine (isZero_any neg ao cap L.length _).mono ?_
 rintro r w3 ⟨rfl,hb1⟩
 replace x0:=x0.all hb1
 replace b1:=b1.trans (hb1.mono b1.size)
 clear hb1 p0 p1 p2
 have p0:=x0.c0;have p1:=x0.c1;have p2:=x0.c2
 by_cases h0:L.length = 0
 ·rw [decide_eq_true h0]
  by_cases he:e = 0
  ·obtain ⟨hr,hz⟩:=uH H4' h0 he
   subst hr
   subst hz
   subst he
   clear H2 H3 H4' H5' x0 hin h0
   go_wp2_with fail
   refine (uH HZ _ (h.below b1) (by omega) (hT.all b1)).mono ?_
   rintro r w4 ⟨rfl,hb1⟩
   go_wp2
   go_ret
   exact ⟨rfl,b1.trans (hb1.mono b1.size)⟩
  ·have hr:=uH H3 h0 he
   subst hr
   have he1:(e != 0) = true:=by simpa using he
   clear H2 H3 H4' H5' x0 hin HZ
   go_wp2
   go_ret
   exact ⟨rfl,b1⟩
 ·have hr:=uH H5' h0 hin
  rw [decide_eq_false h0]
  by_cases hz:0 < lz
  ·rw [if_pos hz] at hr
   subst hr
   clear H2 H3 H4' H5' x0 hin h0
   go_wp2_with fail
   refine (uH HZ _ (h.below b1) (by omega) (hT.all b1)).mono ?_
   rintro r w4 ⟨rfl,hb1⟩
   go_wp2
   go_ret
   exact ⟨rfl,b1.trans (hb1.mono b1.size)⟩
  ·rw [if_neg hz] at hr
   subst hr
   clear H2 H3 H4' H5' x0 hin h0
   go_wp2_with fail
   refine (uH HZ _ (h.below b1) (by omega) (hT.all b1)).mono ?_
   rintro r w4 ⟨rfl,hb1⟩
   go_wp2
   go_ret
   exact ⟨rfl,b1.trans (hb1.mono b1.size)⟩
end Go.Proofs.YtdhmglmccafbnaaGreatDoor
namespace Go.Proofs.YtdhmglmccafbnaaGreatDoor
open Go.RowKit
def IsDy (w:World) (v:Value) (m e:Int):Prop :=
 ∃ (neg:Bool) (ao:Option Addr) (cap:Nat) (L:List Nat),v = .agg #[.bool neg,.slice ao L.length cap,.int .i64 e]∧IsNum 0 w (.agg #[.bool neg,.slice ao L.length cap]) m
theorem IsDy.below {w w':World} {v:Value} {m e:Int} (h:IsDy w v m e) (hb:Below w.heap.size w w'):IsDy w' v m e:=by
 obtain ⟨neg,ao,cap,L,h1,h2⟩:=h
 exact ⟨neg,ao,cap,L,h1,h2.below hb⟩
theorem IsDy.put3 {w:World} {v:Value} {m e:Int} (h:IsDy w v m e) {g:Nat} {x:Bool} {a:Option Addr} {n c:Nat} {k:Int} (hx:Box3 w g (.bool x) (.slice a n c) (.int .i64 k)) (u u' u'':Value):IsDy (((w.setCell ⟨g,0,none⟩ u).setCell ⟨g,1,none⟩ u').setCell ⟨g,2,none⟩ u'') v m e:=by
 obtain ⟨neg,ao,cap,L,h1,n',a',c',L',e1,e2,e3⟩:=h
 exact ⟨neg,ao,cap,L,h1,n',a',c',L',e1,e2.box3 hx _ _ _,e3⟩
theorem IsDy.zero (w:World) (ao:Option Addr) (cap:Nat):IsDy w (.agg #[.bool false,.slice ao 0 cap,.int .i64 0]) 0 0 :=
 ⟨false,ao,cap,[],rfl,IsNum.zero _ _ _ _⟩
def dOk (z e:Int):Bool:=decide (-32768≤e∧e≤32768) && (decide (z = 0) || decide (-16384≤e+tz z.natAbs∧e+tz z.natAbs≤16384))
def dErr (z e:Int):Int:=if dOk z e then 0 else 2
def dM (z e:Int):Int:=if dOk z e then oM z else 0
def dX (z e:Int):Int:=if dOk z e then oE z e else 0
def drE2 (na:Bool) (A:List Nat) (x:Int) (nb:Bool) (B:List Nat) (y:Int):Int:=if drB na A x && drB nb B y then 0 else 1
theorem dcheckBoth_any (na nb:Bool) (ao bo:Option Addr) (ca cb:Nat) (A B:List Nat) (x y:Int) (w:World) (hA:LimbsAt w ao ca A) (hB:LimbsAt w bo cb B) (la:A.length≤35184372088830) (lb:B.length≤35184372088830) (hT:Tab w) :
  Calls Tryz.prog 297 #[.agg #[.bool na,.slice ao A.length ca,.int .i64 x],.agg #[.bool nb,.slice bo B.length cb,.int .i64 y]] w fun r w'=>r = .returned (.int .i64 (drE2 na A x nb B y))∧Below w.heap.size w w':=by
 have H1:=hide (show drB na A x = false→drE na A x = 1∧drE2 na A x nb B y = 1 from fun h=>by simp [drE,drE2,h])
 have H2:=hide (show drB na A x = true→drE na A x = 0∧drE2 na A x nb B y = drE nb B y from fun h=>by simp [drE,drE2,h])
 have HA:=hide (fun w' h' t=>dcheck_any na ao ca A x w' h' la t)
 have HB:=hide (fun w' h' t=>dcheck_any nb bo cb B y w' h' lb t)
 generalize drE2 na A x nb B y = er at *
 generalize drE na A x = e1 at *
 generalize drE nb B y = e2 at *
 generalize drB na A x = ra at *
 have hb0:Below w.heap.size w ((w.alloc (.cells #[.bool na,.slice ao A.length ca,.int .i64 x] 41)).alloc (.cells #[.bool nb,.slice bo B.length cb,.int .i64 y] 41)):=((Below.refl _ _).alloc (Nat.le_refl _) _).alloc (by simp) _
 have x1:Box3 ((w.alloc (.cells #[.bool na,.slice ao A.length ca,.int .i64 x] 41)).alloc (.cells #[.bool nb,.slice bo B.length cb,.int .i64 y] 41)) (w.heap.size+1) (.bool nb) (.slice bo B.length cb) (.int .i64 y):=by
  have:=Box3.new (w.alloc (.cells #[.bool na,.slice ao A.length ca,.int .i64 x] 41)) (.bool nb) (.slice bo B.length cb) (.int .i64 y)
  simpa using this
 have X1:=hide x1;have B0:=hide hb0
 clear x1 hb0
 cases ra
 ·obtain ⟨rfl,rfl⟩:=uH H1 rfl
  clear H1 H2 HB X1
  go_enter Tryz.func297,Tryz.ntmps297
  go_wp2_with fail
  refine (uH HA _ (hA.below (uH B0)) (hT.all (uH B0))).mono ?_
  rintro r w1 ⟨rfl,hb1⟩
  go_wp2
  go_ret
  exact ⟨rfl,(uH B0).trans (hb1.mono (uH B0).size)⟩
 ·obtain ⟨rfl,rfl⟩:=uH H2 rfl
  clear H1 H2
  go_enter Tryz.func297,Tryz.ntmps297
  go_wp2_with fail
  refine (uH HA _ (hA.below (uH B0)) (hT.all (uH B0))).mono ?_
  rintro r w1 ⟨rfl,hb1⟩
  have x1:=(uH X1).all hb1
  have p0:=x1.c0;have p1:=x1.c1;have p2:=x1.c2
  have B1:=hide ((uH B0).trans (hb1.mono (uH B0).size))
  clear hb1 x1 X1 B0 HA
  go_wp2_with fail
  refine (uH HB _ (hB.below (uH B1)) (hT.all (uH B1))).mono ?_
  rintro r w2 ⟨rfl,hb1⟩
  go_wp2
  go_ret
  exact ⟨rfl,(uH B1).trans (hb1.mono (uH B1).size)⟩
theorem sg_down (na:Bool) (v:Nat) (h:v ≠ 0):sg na (v / 2 ^ tz v) = oM (sg na v):=by
 obtain ⟨m,hm⟩:=tz_spec v (by omega)
 have hp:0 < 2 ^ tz v:=Nat.pow_pos (by decide)
 have hd:v / 2 ^ tz v = 2 * m+1:=by
  generalize 2 ^ tz v = P at hm hp
  rw [hm];exact Nat.mul_div_cancel_left _ hp
 have hz:OddOf (sg na v) (sg na (2 * m+1)) (tz v):=by
  constructor
  ·have e:(v:Int) = (2 * (m:Int)+1) * 2 ^ tz v:=by
    rw [Int.mul_comm]
    exact_mod_cast hm
   unfold sg
   cases na
   ·simp only [Bool.false_eq_true,if_false];rw [e];push_cast;rfl
   ·simp only [if_true];rw [e];push_cast;rw [Int.neg_mul]
  ·unfold sg;cases na <;> simp <;> omega
 rw [hd,hz.eq.2.1]
theorem TOP_pos:0 < TOP:=Nat.pow_pos (by decide)
theorem make_cases (na:Bool) (A:List Nat) (e:Int) (hr:rightB na A = true) (hf:Fits A) :
  (¬ (-32768≤e∧e≤32768)∧dErr (sval na A) e = 2∧dM (sval na A) e = 0∧dX (sval na A) e = 0) ∨
  ((-32768≤e∧e≤32768)∧A.length ≠ 0∧¬ (-16384≤e+lowZ (val A)∧e+lowZ (val A)≤16384)∧dErr (sval na A) e = 2∧dM (sval na A) e = 0∧dX (sval na A) e = 0) ∨
  ((-32768≤e∧e≤32768)∧A.length = 0∧dErr (sval na A) e = 0∧dM (sval na A) e = 0∧dX (sval na A) e = 0) ∨
  ((-32768≤e∧e≤32768)∧A.length ≠ 0∧(-16384≤e+lowZ (val A)∧e+lowZ (val A)≤16384)∧dErr (sval na A) e = 0∧dX (sval na A) e = e+lowZ (val A)∧shE na A (-lowZ (val A)) = 0∧shN na A (-lowZ (val A)) = dM (sval na A) e):=by
 obtain ⟨hl,hc,_⟩:=right_canon hr
 have hT:val A < TOP:=(val_lt_TOP A hf hc).2 hl
 have hlz:=lowZ_le (val A) hT
 by_cases h1:-32768≤e∧e≤32768
 case neg =>
  left
  have:dOk (sval na A) e = false:=by unfold dOk;rw [decide_eq_false h1,Bool.false_and]
  exact ⟨h1,by simp [dErr,this],by simp [dM,this],by simp [dX,this]⟩
 right
 by_cases h0:A.length = 0
 ·right;left
  have e0:A = []:=List.length_eq_zero_iff.1 h0
  subst e0
  have:dOk (sval na []) e = true:=by unfold dOk;rw [decide_eq_true h1,sval_nil];simp
  refine ⟨h1,rfl,by simp [dErr,this],?_,?_⟩
  ·simp [dM,sval_nil,oM]
  ·simp [dX,sval_nil,oE]
 have hv:val A ≠ 0:=fun e=>h0 (by rw [(val_zero_of_canon A hc).1 e];rfl)
 have hlp:=lowZ_pos (val A) hv
 have hz:sval na A ≠ 0:=fun e=>hv (by rw [← natAbs_sval na A,e];rfl)
 by_cases h2:-16384≤e+lowZ (val A)∧e+lowZ (val A)≤16384
 case neg =>
  left
  have:dOk (sval na A) e = false:=by
   unfold dOk
   rw [natAbs_sval,← hlp,decide_eq_false h2,decide_eq_false hz];simp
  exact ⟨h1,h0,h2,by simp [dErr,this],by simp [dM,this],by simp [dX,this]⟩
 right;right
 have hk:dOk (sval na A) e = true:=by
  unfold dOk
  rw [natAbs_sval,← hlp,decide_eq_true h1,decide_eq_true h2];simp
 have hV:shV na A (-lowZ (val A)) = oM (sval na A):=by
  rw [shV_shF,sval_sg,← sg_down na (val A) hv,hlp]
  congr 1
  unfold shF
  rcases Nat.eq_zero_or_pos (tz (val A)) with e | e
  ·rw [e];simp
  ·rw [if_neg (by omega)]
   congr 2
   omega
 have hO:=oddOf (sval na A) hz
 have hle:(oM (sval na A)).natAbs≤val A:=by
  have e1:(sval na A).natAbs = (oM (sval na A)).natAbs * 2 ^ tz (sval na A).natAbs:=by
   conv=>lhs;rw [hO.1]
   rw [Int.natAbs_mul,Int.natAbs_pow]
   rfl
  rw [natAbs_sval] at e1
  rw [e1]
  exact Nat.le_mul_of_pos_right _ (Nat.pow_pos (by decide))
 have hin:-16384≤-lowZ (val A)∧-lowZ (val A)≤16384:=by omega
 have hsk:shOk na A (-lowZ (val A)) = true:=by unfold shOk;rw [hr,decide_eq_true hin];rfl
 refine ⟨h1,h0,h2,by simp [dErr,hk],?_,?_,?_⟩
 ·unfold dX oE;rw [if_pos hk,if_neg hz,natAbs_sval,hlp]
 ·unfold shE;rw [if_pos hsk,hV,errOf_small _ (by omega)]
 ·unfold shN dM;rw [if_pos hsk,if_pos hk,hV,numOf_small _ (by omega)]
theorem make_right (na:Bool) (ao:Option Addr) (ca:Nat) (A:List Nat) (e:Int) (w:World) (hA:LimbsAt w ao ca A) (hr:rightB na A = true) (be:-9223372036854775808≤e∧e≤9223372036854775807) (hT:Tab w) :
  Calls Tryz.prog 236 #[.agg #[.bool na,.slice ao A.length ca],.int .i64 e] w fun r w'=>∃ v,r = .returned (.tuple #[v,.int .i64 (dErr (sval na A) e)])∧IsDy w' v (dM (sval na A) e) (dX (sval na A) e)∧Below w.heap.size w w':=by
 have hl:=(right_canon hr).1
 have hck:chkE na A = 0:=by simp [chkE,hr]
 have HM:=hide (make_cases na A e hr hA.2.1)
 have HCK:=hide (fun w' h'=>check_any na ao ca A w' h' (by omega))
 rw [hck] at HCK
 have HLZ:=hide (fun w' h' t=>lowZeros_any na ao ca A w' h' (by omega) t)
 have HSH:=hide (fun n w' h' bn=>shift_any na ao ca A n w' h' (by omega) bn)
 have hlz:=lowZ_le (val A) ((val_lt_TOP A hA.2.1 (right_canon hr).2.1).2 hl)
 clear hck hr
 generalize dErr (sval na A) e = er at *
 generalize dM (sval na A) e = dm at *
 generalize dX (sval na A) e = dx at *
 generalize lowZ (val A) = lz at *
 obtain ⟨lz0,lz1⟩:=hlz
 have hb0:Below w.heap.size w ((w.alloc (.cells #[.bool na,.slice ao A.length ca] 39)).alloc (.cells #[.bool false,.slice none 0 0,.int .i64 0] 41)):=((Below.refl _ _).alloc (Nat.le_refl _) _).alloc (by simp) _
 have x0:Box2 ((w.alloc (.cells #[.bool na,.slice ao A.length ca] 39)).alloc (.cells #[.bool false,.slice none 0 0,.int .i64 0] 41)) w.heap.size (.bool na) (.slice ao A.length ca):=(Box2.new _ _ _).old _
 have x1:Box3 ((w.alloc (.cells #[.bool na,.slice ao A.length ca] 39)).alloc (.cells #[.bool false,.slice none 0 0,.int .i64 0] 41)) (w.heap.size+1) (.bool false) (.slice none 0 0) (.int .i64 0):=by
  have:=Box3.new (w.alloc (.cells #[.bool na,.slice ao A.length ca] 39)) (.bool false) (.slice none 0 0) (.int .i64 0)
  simpa using this
 go_enter Tryz.func236,Tryz.ntmps236
 go_wp2_with fail
 refine (uH HCK _ (hA.below hb0)).mono ?_
 rintro r w1 ⟨rfl,hb1⟩
 replace x0:=x0.all hb1
 replace x1:=x1.all hb1
 have b1:=hb0.trans (hb1.mono hb0.size)
 clear hb1 hb0 HCK
 have p0:=x0.c0;have p1:=x0.c1
 have X0:=hide x0;have X1:=hide x1;have B1:=hide b1
 clear x0 x1 b1
 go_wp2_with fail
 refine (uH HLZ _ (hA.below (uH B1)) (hT.all (uH B1))).mono ?_
 rintro r w2 ⟨rfl,hb1⟩
 have x0:=(uH X0).all hb1
 have x1:=(uH X1).all hb1
 have b1:=(uH B1).trans (hb1.mono (uH B1).size)
 clear hb1 HLZ p0 p1 X0 X1 B1
 have p0:=x0.c0;have p1:=x0.c1
 have X0:=hide x0;have X1:=hide x1;have B1:=hide b1
 have y0:=x1.c0;have y1:=x1.c1;have y2:=x1.c2;have f0:=x1.free 0;have f1:=x1.free 1;have f2:=x1.free 2
 clear x0 x1 b1
 rcases uH HM with ⟨h1,rfl,rfl,rfl⟩ | ⟨h1,h0,h2,rfl,rfl,rfl⟩ | ⟨h1,h0,rfl,rfl,rfl⟩ | ⟨h1,h0,h2,rfl,rfl,hsE,hsN⟩
 ·clear HM HSH
  go_wp2_with fail
  refine (within_any e 32768 _ (by decide) (by decide)).mono ?_
  rw [decide_eq_false h1]
  rintro r w3 ⟨rfl,rfl⟩
  clear h1
  go_wp2
  refine bodyPost_ret (v:=.tuple #[.agg #[.bool false,.slice none 0 0,.int .i64 0],.int .i64 2]) (by simp [results,Tryz.results236,go_sem,y0,y1,y2]) rfl ⟨_,rfl,IsDy.zero _ _ _,below_put3 (uH B1) (by omega) _ _ _⟩
 ·clear HM HSH
  go_wp2_with fail
  refine (within_any e 32768 _ (by decide) (by decide)).mono ?_
  rw [decide_eq_true h1]
  rintro r w3 ⟨rfl,rfl⟩
  obtain ⟨h1a,h1b⟩:=h1
  go_wp2_with fail
  refine (isZero_any na ao ca A.length _).mono ?_
  rw [decide_eq_false h0]
  rintro r w4 ⟨rfl,hb1⟩
  have x0:=(uH X0).all hb1
  have x1:=(uH X1).all hb1
  have b1:=(uH B1).trans (hb1.mono (uH B1).size)
  clear hb1 p0 p1 X0 X1 B1 y0 y1 y2 f0 f1 f2
  have p0:=x0.c0;have p1:=x0.c1
  have X0:=hide x0;have X1:=hide x1;have B1:=hide b1
  have y0:=x1.c0;have y1:=x1.c1;have y2:=x1.c2;have f0:=x1.free 0;have f1:=x1.free 1;have f2:=x1.free 2
  clear x0 x1 b1
  go_wp2_with fail
  refine (within_any (e+lz) 16384 _ (by decide) (by decide)).mono ?_
  rw [decide_eq_false h2]
  rintro r w5 ⟨rfl,rfl⟩
  clear h2
  go_wp2
  refine bodyPost_ret (v:=.tuple #[.agg #[.bool false,.slice none 0 0,.int .i64 0],.int .i64 2]) (by simp [results,Tryz.results236,go_sem,y0,y1,y2]) rfl ⟨_,rfl,IsDy.zero _ _ _,below_put3 (uH B1) (by omega) _ _ _⟩
 ·clear HM HSH
  have H0:=hide h0
  clear h0
  go_wp2_with fail
  refine (within_any e 32768 _ (by decide) (by decide)).mono ?_
  rw [decide_eq_true h1]
  rintro r w3 ⟨rfl,rfl⟩
  obtain ⟨h1a,h1b⟩:=h1
  go_wp2_with fail
  refine (isZero_any na ao ca A.length _).mono ?_
  rw [decide_eq_true (uH H0)]
  rintro r w4 ⟨rfl,hb1⟩
  have x0:=(uH X0).all hb1
  have x1:=(uH X1).all hb1
  have b1:=(uH B1).trans (hb1.mono (uH B1).size)
  clear hb1 p0 p1 X0 X1 B1 y0 y1 y2 f0 f1 f2
  have p0:=x0.c0;have p1:=x0.c1
  have X0:=hide x0;have X1:=hide x1;have B1:=hide b1
  have y0:=x1.c0;have y1:=x1.c1;have y2:=x1.c2;have f0:=x1.free 0;have f1:=x1.free 1;have f2:=x1.free 2
  clear x0 x1 b1
  clear p1
  have p1:=(uH X0).c1
  go_wp2_with fail
  refine (isZero_any na ao ca A.length _).mono ?_
  rw [decide_eq_true (uH H0)]
  rintro r w5 ⟨rfl,hb1⟩
  have x0:=(uH X0).all hb1
  have x1:=(uH X1).all hb1
  have b1:=(uH B1).trans (hb1.mono (uH B1).size)
  clear hb1 p0 p1 X0 X1 B1 y0 y1 y2 f0 f1 f2
  have B1:=hide b1
  have y0:=x1.c0;have y1:=x1.c1;have y2:=x1.c2;have f0:=x1.free 0;have f1:=x1.free 1;have f2:=x1.free 2
  clear x0 x1 b1
  go_wp2
  refine bodyPost_ret (v:=.tuple #[.agg #[.bool false,.slice none 0 0,.int .i64 0],.int .i64 0]) (by simp [results,Tryz.results236,go_sem,y0,y1,y2]) rfl ⟨_,rfl,IsDy.zero _ _ _,below_put3 (uH B1) (by omega) _ _ _⟩
 ·clear HM
  have HN:=hide hsN
  have SH:=hide (fun w' h'=>uH HSH (-lz) w' h' (by omega))
  rw [hsE] at SH
  clear hsN hsE HSH
  go_wp2_with fail
  refine (within_any e 32768 _ (by decide) (by decide)).mono ?_
  rw [decide_eq_true h1]
  rintro r w3 ⟨rfl,rfl⟩
  obtain ⟨h1a,h1b⟩:=h1
  go_wp2_with fail
  refine (isZero_any na ao ca A.length _).mono ?_
  rw [decide_eq_false h0]
  rintro r w4 ⟨rfl,hb1⟩
  have x0:=(uH X0).all hb1
  have x1:=(uH X1).all hb1
  have b1:=(uH B1).trans (hb1.mono (uH B1).size)
  clear hb1 p0 p1 X0 X1 B1 y0 y1 y2 f0 f1 f2
  have p0:=x0.c0;have p1:=x0.c1
  have X0:=hide x0;have X1:=hide x1;have B1:=hide b1
  have y0:=x1.c0;have y1:=x1.c1;have y2:=x1.c2;have f0:=x1.free 0;have f1:=x1.free 1;have f2:=x1.free 2
  clear x0 x1 b1
  go_wp2_with fail
  refine (within_any (e+lz) 16384 _ (by decide) (by decide)).mono ?_
  rw [decide_eq_true h2]
  rintro r w5 ⟨rfl,rfl⟩
  obtain ⟨h2a,h2b⟩:=h2
  go_wp2_with fail
  refine (isZero_any na ao ca A.length _).mono ?_
  rw [decide_eq_false h0]
  rintro r w6 ⟨rfl,hb1⟩
  have x0:=(uH X0).all hb1
  have x1:=(uH X1).all hb1
  have b1:=(uH B1).trans (hb1.mono (uH B1).size)
  clear hb1 p0 p1 X0 X1 B1 y0 y1 y2 f0 f1 f2
  have p0:=x0.c0;have p1:=x0.c1
  have X0:=hide x0;have X1:=hide x1;have B1:=hide b1
  clear x0 x1 b1
  go_wp2_with fail
  refine (uH SH _ (hA.below (uH B1))).mono ?_
  rintro r w7 ⟨v,rfl,⟨n2,a2,c2,L2,rfl,i1⟩,hb1⟩
  have x1:=(uH X1).all hb1
  have b1:=(uH B1).trans (hb1.mono (uH B1).size)
  have I1:=hide i1;have B2:=hide b1;have X2:=hide x1
  clear hb1 p0 p1 X0 X1 B1 x1 b1 i1
  have x1:=(uH X2).old (.cells #[.bool n2,.slice a2 L2.length c2] 39)
  have y0:=x1.c0;have y1:=x1.c1;have y2:=x1.c2;have f0:=x1.free 0;have f1:=x1.free 1;have f2:=x1.free 2
  have X3:=hide x1
  clear x1
  go_wp2
  have j:IsNum w6.heap.size w7 (.agg #[.bool n2,.slice a2 L2.length c2]) dm:=(uH HN) ▸ (⟨n2,a2,c2,L2,rfl,uH I1⟩:IsNum w6.heap.size w7 (.agg #[.bool n2,.slice a2 L2.length c2]) (shN na A (-lz)))
  have j2:IsDy (w7.alloc (.cells #[.bool n2,.slice a2 L2.length c2] 39)) (.agg #[.bool n2,.slice a2 L2.length c2,.int .i64 (e+lz)]) dm (e+lz):=⟨n2,a2,c2,L2,rfl,(j.below ((Below.refl _ _).alloc (Nat.le_refl _) _)).mono (Nat.zero_le _)⟩
  have b3:=(uH B2).alloc (uH B2).size (.cells #[.bool n2,.slice a2 L2.length c2] 39)
  refine bodyPost_ret (v:=.tuple #[.agg #[.bool n2,.slice a2 L2.length c2,.int .i64 (e+lz)],.int .i64 0]) (by simp [results,Tryz.results236,go_sem,y0,y1,y2]) rfl ⟨_,rfl,j2.put3 (uH X3) _ _ _,below_put3 b3 (by omega) _ _ _⟩
theorem make_num {B:Nat} {w:World} {v:Value} {z:Int} (e:Int) (hv:IsNum B w v z) (hz:z.natAbs < TOP) (be:-9223372036854775808≤e∧e≤9223372036854775807) (hT:Tab w) :
  Calls Tryz.prog 236 #[v,.int .i64 e] w fun r w'=>∃ u,r = .returned (.tuple #[u,.int .i64 (dErr z e)])∧IsDy w' u (dM z e) (dX z e)∧Below w.heap.size w w':=by
 obtain ⟨na,ao,ca,A,rfl,a1,a2,a3,a4⟩:=hv.right hz
 have:=make_right na ao ca A e w a1 a2 be hT
 rwa [a3] at this
end Go.Proofs.YtdhmglmccafbnaaGreatDoor
