/- Part 43 of the texts. -/
import Derived.Test.YtnnfjeieennffaaGreatDoorPartf42
import Derived.Test.YtnnfjeieennffaaGreatDoorPartf34
import Derived.Test.YtnnfjeieennffaaGreatDoorPartf29
import Derived.Test.YtnnfjeieennffaaGreatDoorPartf35
import Derived.Test.YtnnfjeieennffaaGreatDoorPartf36
import Derived.Deep.RegionLaw
import Derived.Test.YtnnfjeieennffaaGreatDoorPartf16
import Derived.Test.YtnnfjeieennffaaGreatDoorPartf18
import Derived.Test.YtnnfjeieennffaaGreatDoorPartf19
import Derived.Deep.Cut
import Derived.BigQuiet
import Derived.Test.YtnnfjeieennffaaGreatDoorPartf37
import Derived.Deep.CutRange
import Derived.Deep.RegionWith
import Derived.Test.YtnnfjeieennffaaGreatDoorPartf28
import Derived.Deep.RegionHeld3
import Derived.Test.YtnnfjeieennffaaGreatDoorPartf05
import Derived.Maps.AppendAt
import Derived.Test.YtnnfjeieennffaaGreatDoorPartf09
import Derived.Lib.BitFns
import Derived.Test.YtnnfjeieennffaaGreatDoorPartf08
import Derived.Test.YtnnfjeieennffaaGreatDoorPartf07
import Derived.Test.YtnnfjeieennffaaGreatDoorPartf10
import Derived.Maps.Own
import Derived.Maps.OwnOps
import Derived.Maps.OwnSet
import Derived.DeepKeys4
import Derived.Test.YtnnfjeieennffaaGreatDoorPartf11
import Derived.WalkSmall
import Derived.Test.YtnnfjeieennffaaGreatDoorPartf01
import Derived.Test.YtnnfjeieennffaaGreatDoorPartf33
import Derived.Test.YtnnfjeieennffaaGreatDoorPartf38
import Derived.Test.YtnnfjeieennffaaGreatDoorPartf39
set_option maxHeartbeats 4000000
set_option maxRecDepth 20000
namespace Go.Proofs.YtnnfjeieennffaaGreatDoor
open Go.RowKit
attribute [local go_sem ↓] Go.wp_at_zero Go.wp_at_succ
theorem r11check_any (r c:Int) (ao:Option Addr) (cap:Nat) (I:List Int) (w:World) (hI:BitsAt w ao cap I) (hn:I.length≤35184372088830) :
  Calls Tryz.prog 10 #[.agg #[.int .i64 r,.int .i64 c,.slice ao I.length cap]] w fun e w'=>e = .returned (.int .i64 (ckE r c I))∧Below w.heap.size w w':=by
 have K1:=hide (fun w'=>rright_any r c ao I.length cap w')
 have K2:=hide (fun w' (h:BitsAt w' ao cap I)=>r9finite_any ao cap I w' h hn)
 have BB:=hide (below_alloc9 w (.cells #[.int .i64 r,.int .i64 c,.slice ao I.length cap] 24))
 have X0:=hide (BoxM.new w (.int .i64 r) (.int .i64 c) (.slice ao I.length cap))
 have HI:=hide hI
 unfold ckE
 generalize okB r c I.length = b at *
 generalize fnK I I.length = f at *
 generalize I.length = n at *
 clear hI
 cases b
 ·clear K2
  go_enter Tryz.func10,Tryz.ntmps10
  go_wp2_with fail
  refine (uH K1 _).mono ?_
  rintro e w1 ⟨rfl,hb1⟩
  have PB:=hide ((uH BB).trans (hb1.mono (uH BB).size))
  clear hb1 K1 X0
  go_wp2
  go_ret
  exact ⟨rfl,uH PB⟩
 ·cases f
  all_goals
   go_enter Tryz.func10,Tryz.ntmps10
   go_wp2_with fail
   refine (uH K1 _).mono ?_
   rintro e w1 ⟨rfl,hb1⟩
   replace BB:=hide ((uH BB).trans (hb1.mono (uH BB).size));replace X0:=hide ((uH X0).all hb1)
   clear hb1 K1
   have y2:=(uH X0).c2
   go_wp2_with fail
   refine (uH K2 _ ((uH HI).below (uH BB))).mono ?_
   rintro e w2 ⟨rfl,hb1⟩
   replace BB:=hide ((uH BB).trans (hb1.mono (uH BB).size))
   clear hb1 K2 y2
   go_wp2
   go_ret
   exact ⟨rfl,uH BB⟩
theorem r11tame_any (r c:Int) (ao:Option Addr) (cap:Nat) (I:List Int) (K:Int) (w:World) (hI:BitsAt w ao cap I) (hn:I.length≤35184372088830) (hK:-5000≤K∧K≤5000) :
  Calls Tryz.prog 21 #[.agg #[.int .i64 r,.int .i64 c,.slice ao I.length cap],.int .i64 K] w fun e w'=>e = .returned (.bool (okB r c I.length && tmK K I I.length))∧Below w.heap.size w w':=by
 have K1:=hide (fun w'=>rright_any r c ao I.length cap w')
 have K2:=hide (fun w' (h:BitsAt w' ao cap I)=>r9tame_any ao cap I K w' h hn hK)
 have BB:=hide (below_alloc9 w (.cells #[.int .i64 r,.int .i64 c,.slice ao I.length cap] 24))
 have X0:=hide (BoxM.new w (.int .i64 r) (.int .i64 c) (.slice ao I.length cap))
 have HI:=hide hI
 generalize okB r c I.length = b at *
 generalize tmK K I I.length = f at *
 generalize I.length = n at *
 clear hI hK
 cases b
 ·clear K2
  go_enter Tryz.func21,Tryz.ntmps21
  go_wp2_with fail
  refine (uH K1 _).mono ?_
  rintro e w1 ⟨rfl,hb1⟩
  have PB:=hide ((uH BB).trans (hb1.mono (uH BB).size))
  clear hb1 K1 X0
  go_wp2
  go_ret
  exact ⟨rfl,uH PB⟩
 ·go_enter Tryz.func21,Tryz.ntmps21
  go_wp2_with fail
  refine (uH K1 _).mono ?_
  rintro e w1 ⟨rfl,hb1⟩
  replace BB:=hide ((uH BB).trans (hb1.mono (uH BB).size));replace X0:=hide ((uH X0).all hb1)
  clear hb1 K1
  have y2:=(uH X0).c2
  go_wp2_with fail
  refine (uH K2 _ ((uH HI).below (uH BB))).mono ?_
  rintro e w2 ⟨rfl,hb1⟩
  replace BB:=hide ((uH BB).trans (hb1.mono (uH BB).size))
  clear hb1 K2 y2
  go_wp2
  go_ret
  exact ⟨rfl,uH BB⟩
theorem sqK_sm (S:List Nat):∀ k,sqK (mxL S) k = smI (fun p=>fZ (S.getD p 0) * fZ (S.getD p 0)) k
 | 0=>rfl
 | k+1=>by
  show sqK (mxL S) k+fZ (atB (mxL S) k) * fZ (atB (mxL S) k) = smI _ k+_
  rw [sqK_sm S k,mxL_at]
theorem fnK_all {I:List Int}:∀ n,fnK I n = true ↔ ∀ k,k < n→fFin (atB I k) = true
 | 0=>⟨fun _ k hk=>by omega,fun _=>rfl⟩
 | n+1=>by
  show (fnK I n && fFin (atB I n)) = true ↔ _
  rw [Bool.and_eq_true,fnK_all n]
  constructor
  ·rintro ⟨h1,h2⟩ k hk
   by_cases e:k = n
   ·subst e;exact h2
   ·exact h1 k (by omega)
  ·exact fun h=>⟨fun k hk=>h k (by omega),h n (by omega)⟩
end Go.Proofs.YtnnfjeieennffaaGreatDoor
namespace Go.Proofs.YtnnfjeieennffaaGreatDoor
open Go.RowKit
attribute [local go_sem ↓] Go.wp_at_zero Go.wp_at_succ
theorem two_bits (w:World) (a b:Nat) (ha:a < 18446744073709551616) (hb:b < 18446744073709551616):BitsAt (w.alloc (.cells #[.int .u64 (a:Nat),.int .u64 (b:Nat)] 31)) (some ⟨w.heap.size,0,none⟩) 2 [(a:Int),(b:Int)]:=by
 have h:RowB (w.alloc (.cells #[.int .u64 (a:Nat),.int .u64 (b:Nat)] 31)) w.heap.size [a,b]:=heap_alloc_new w _
 exact h.bits (fun x hx=>by simp at hx;rcases hx with rfl | rfl;exact ha;exact hb)
end Go.Proofs.YtnnfjeieennffaaGreatDoor
namespace Go.Proofs.YtnnfjeieennffaaGreatDoor
open Go.RowKit
attribute [local go_sem ↓] Go.wp_at_zero Go.wp_at_succ
theorem awake16_of (w:World)
  (C1:∀ w' ao,Below w.heap.size w w'→BitsAt w' ao 2 [((4607182418800017408:Nat):Int),((4613937818241073152:Nat):Int)]→Calls Tryz.prog 9 #[.agg #[.int .i64 1,.int .i64 2,.slice ao 2 2]] w' fun e w''=>∃ (a1 a2:Int) (qo:Option Addr) (nq qc:Nat) (ro:Option Addr) (rc:Nat) (po:Option Addr) (pc:Nat),e = .returned (.tuple #[.agg #[.int .i64 a1,.int .i64 a2,.slice qo nq qc],.agg #[.int .i64 1,.int .i64 2,.slice ro 2 rc],.slice po 2 pc,.int .i64 0])∧BitsAt w'' ro rc (mxL [4613937818241073152,4607182418800017408])∧IntsAt w'' po pc (mxL [1,0])∧Below w'.heap.size w' w'') :
  Calls Tryz.prog 14 #[] w fun e w'=>e = .returned (.bool true)∧Below w.heap.size w w':=by
 have K1:=hide C1
 have TB:=hide (two_bits w 4607182418800017408 4613937818241073152 (by decide) (by decide))
 have BB:=hide (below_alloc9 w (.cells #[.int .u64 ((4607182418800017408:Nat):Int),.int .u64 ((4613937818241073152:Nat):Int)] 31))
 clear C1
 go_enter Tryz.func14,Tryz.ntmps14
 go_wp2_with fail
 refine (uH K1 _ _ (uH BB) (uH TB)).mono ?_
 rintro e w1 ⟨a1,a2,qo,nq,qc,ro,rc,po,pc,rfl,bv,bp,hb⟩
 obtain ⟨b,off,rfl,_,hc⟩:=bv.ne (by decide)
 obtain ⟨b2,off2,rfl,_,hd⟩:=bp.ne (by decide)
 have c0:w1.cell? ⟨b,off+0,none⟩ = some (.int .u64 4613937818241073152):=hc 0 (by decide)
 have d0:w1.cell? ⟨b2,off2+0,none⟩ = some (.int .i64 1):=hd 0 (by decide)
 rw [Nat.add_zero] at c0 d0
 replace BB:=hide ((uH BB).trans (hb.mono (uH BB).size))
 clear hb K1 TB bv bp hc hd
 have ba:=below_alloc9 w1 (.cells #[.int .i64 a1,.int .i64 a2,.slice qo nq qc] 24)
 have bb:=below_alloc9 (w1.alloc (.cells #[.int .i64 a1,.int .i64 a2,.slice qo nq qc] 24)) (.cells #[.int .i64 1,.int .i64 2,.slice (some ⟨b,off,none⟩) 2 rc] 24)
 have BC:=hide ((uH BB).trans ((ba.trans (bb.mono ba.size)).mono (uH BB).size))
 clear ba bb BB
 go_wp2
 go_ret
 exact ⟨rfl,uH BC⟩
end Go.Proofs.YtnnfjeieennffaaGreatDoor
namespace Go.Proofs.YtnnfjeieennffaaGreatDoor
open Go.RowKit
theorem w16_facts:bgF 0 [4607182418800017408] = 4607182418800017408∧bgF 0 [4613937818241073152] = 4613937818241073152∧fFin 4607182418800017408 = true∧fFin 4613937818241073152 = true∧eX 4607182418800017408 = 0∧eX 4613937818241073152 = 1∧ssV 0 0 [4607182418800017408] = mV 4607182418800017408 4607182418800017408∧ssV 1 0 [4613937818241073152] = mV 4609434218613702656 4609434218613702656∧fR 4607182418800017408 = 4607182418800017408∧fR 4609434218613702656 = 4609434218613702656∧xV 4607182418800017408 0 = 4607182418800017408∧xV 4609434218613702656 1 = 4613937818241073152∧(600≤fP 4607182418800017408∧fP 4607182418800017408≤1400)∧(600≤fP 4609434218613702656∧fP 4609434218613702656≤1400)∧cO 4607182418800017408 4613937818241073152 < 0∧¬ cO 4607182418800017408 4607182418800017408 < 0:=by decide +kernel
theorem nr_one:nrV [4607182418800017408] = 4607182418800017408:=by
 obtain ⟨h1,_,h3,_,h5,_,h7,_,h9,_,h11,_,h13,_⟩:=w16_facts
 unfold nrV
 rw [h1,if_neg (by rw [h3];decide),h5,h7,squares7 _ h13.1 h13.2,h9,h11]
theorem nr_three:nrV [4613937818241073152] = 4613937818241073152:=by
 obtain ⟨_,h2,_,h4,_,h6,_,h8,_,h10,_,h12,_,h14,_⟩:=w16_facts
 unfold nrV
 rw [h2,if_neg (by rw [h4];decide),h6,h8,squares7 _ h14.1 h14.2,h10,h12]
theorem n13_0:pvN 1 2 [4607182418800017408,4613937818241073152] 0 0 = 4607182418800017408:=nr_one
theorem n13_1:pvN 1 2 [4607182418800017408,4613937818241073152] 0 1 = 4613937818241073152:=nr_three
theorem gtA_succ (r c:Nat) (S:List Nat) (j t:Nat):gtA r c S j (t+1) = if cO (pvN r c S j (gtA r c S j t)) (pvN r c S j (j+t)) < 0 then j+t else gtA r c S j t:=rfl
theorem gtA_zero (r c:Nat) (S:List Nat) (j:Nat):gtA r c S j 0 = j:=rfl
theorem gtK_succ (r c:Nat) (S:List Nat) (j t:Nat):gtK r c S j (t+1) = (gtK r c S j t && fFin (pvN r c S j (j+t))):=rfl
theorem gtK_zero (r c:Nat) (S:List Nat) (j:Nat):gtK r c S j 0 = true:=rfl
theorem a13:pvA 1 2 [4607182418800017408,4613937818241073152] 0 = 1:=by
 obtain ⟨_,_,_,_,_,_,_,_,_,_,_,_,_,_,h15,h16⟩:=w16_facts
 unfold pvA
 rw [show 2 - 0 = 1+1 from rfl,gtA_succ,gtA_succ 1 2 _ 0 0,gtA_zero,Nat.add_zero,n13_0,if_neg h16,n13_0,Nat.zero_add,n13_1,if_pos h15]
theorem f13:pvF 1 2 [4607182418800017408,4613937818241073152] 0 = true:=by
 unfold pvF
 rw [show 2 - 0 = 1+1 from rfl,gtK_succ,gtK_succ 1 2 _ 0 0,gtK_zero,Nat.add_zero,Nat.zero_add,n13_0,n13_1,w16_facts.2.2.1,w16_facts.2.2.2.1]
 rfl
theorem pvR_one (r c:Nat) (S:List Nat) (h:r≤1):pvR r c S 1 = swM r c S 0 (pvA r c S 0):=by
 show pvS r c S 0 = _
 unfold pvS
 rw [if_neg (by omega)]
 rfl
theorem pvP_one (r c:Nat) (S:List Nat):pvP r c S 1 = swL (List.range c) 0 (pvA r c S 0):=rfl
theorem r13:pfR 1 2 [4607182418800017408,4613937818241073152] = [4613937818241073152,4607182418800017408]:=by
 unfold pfR
 rw [show min 2 1 = 1 from rfl,pvR_one 1 2 _ (by decide),a13]
 rfl
theorem p13:pfP 1 2 [4607182418800017408,4613937818241073152] = [1,0]:=by
 unfold pfP
 rw [show min 2 1 = 1 from rfl,pvP_one,a13]
 rfl
theorem pvK_one (r c:Nat) (S:List Nat) (h:r≤1):pvK r c S 1 = pvF r c S 0:=by
 show (true && (pvF r c S 0 && (decide (r≤0+1) || _))) = _
 rw [decide_eq_true (show r≤0+1 by omega),Bool.true_or,Bool.and_true,Bool.true_and]
theorem pfQ_one (r c:Nat) (S:List Nat) (h:qrN r c = 0):pfQ r c S = eyM r:=by
 unfold pfQ
 rw [h]
 rfl
theorem k13:pfK 1 2 [4607182418800017408,4613937818241073152] = true:=by
 have hf:(finL (eyM 1) && finL [4613937818241073152,4607182418800017408]) = true:=by decide +kernel
 unfold pfK
 rw [show min 2 1 = 1 from rfl,pvK_one 1 2 _ (by decide),f13,r13,pfQ_one 1 2 _ rfl,hf]
 rfl
def PivErr (w:World) (er:Int) (e:Ending) (w':World):Prop:=∃ v u lo lc,e = .returned (.tuple #[v,u,.slice lo 0 lc,.int .i64 er])∧NewM w.heap.size w' 0 0 [] v∧NewM w.heap.size w' 0 0 [] u∧Below w.heap.size w w'
def PivYes (w:World) (r c:Nat) (S:List Nat) (e:Ending) (w':World):Prop:=∃ v u lo lc,e = .returned (.tuple #[v,u,.slice lo c lc,.int .i64 0])∧NewM w.heap.size w' r r (pfQ r c S) v∧NewM w.heap.size w' r c (pfR r c S) u∧NewB w.heap.size lo (mxL (pfP r c S))∧IntsAt w' lo lc (mxL (pfP r c S))∧Below w.heap.size w w'
theorem pivot_awake (w:World)
  (CY:∀ w' ao cap (r c:Nat) S,Below w.heap.size w w'→Mx w' ao cap r c S→finL S = true→pfK r c S = true→Calls Tryz.prog 9 #[.agg #[.int .i64 r,.int .i64 c,.slice ao S.length cap]] w' (PivYes w' r c S)) :
  ∀ w',Below w.heap.size w w'→Calls Tryz.prog 14 #[] w' fun e w''=>e = .returned (.bool true)∧Below w'.heap.size w' w'':=by
 intro w' hb
 refine awake16_of w' (fun w2 ao hb2 hI=>?_)
 have hM:Mx w2 ao 2 1 2 [4607182418800017408,4613937818241073152]:=⟨hI,rfl,by decide,by decide⟩
 have hf:finL [4607182418800017408,4613937818241073152] = true:=by
  show ((true && fFin 4607182418800017408) && fFin 4613937818241073152) = true
  rw [w16_facts.2.2.1,w16_facts.2.2.2.1]
  rfl
 refine (CY w2 ao 2 1 2 _ (hb.trans (hb2.mono hb.size)) hM hf k13).mono ?_
 rintro e w3 ⟨v,u,lo,lc,rfl,⟨qo,qc,rfl,_,_⟩,⟨ro,rc,rfl,_,hr⟩,_,hp,hb3⟩
 rw [r13] at hr ⊢
 rw [p13] at hp
 exact ⟨_,_,qo,_,qc,ro,rc,lo,lc,rfl,hr,hp,hb3⟩
end Go.Proofs.YtnnfjeieennffaaGreatDoor
namespace Go.Proofs.YtnnfjeieennffaaGreatDoor
open Go.RowKit
attribute [local go_sem ↓] Go.wp_at_zero Go.wp_at_succ
theorem hbelow_any (ao:Option Addr) (c:Nat) (I:List Int) (w:World) (hI:BitsAt w ao c I) (hn:I.length≤64) :
  Calls Tryz.prog 172 #[.slice ao I.length c] w fun e w'=>e = .returned (.bool (ldS (toN I)))∧Below w.heap.size w w':=by
 have HI:=hide hI
 obtain ⟨L,hL⟩:∃ L:Nat→Bool,L = fun j=>ldS ((toN I).drop j):=⟨_,rfl⟩
 have L0:ldS (toN I) = L 0:=by rw [hL];rfl
 have LE:∀ j,I.length≤j→L j = false:=fun j hj=>by
  rw [hL]
  show ldS ((toN I).drop j) = false
  rw [List.drop_eq_nil_of_le (by rw [toN_len];exact hj)]
  rfl
 have LS:∀ j,j < I.length→L j = if fK (atB I j) = 0 then L (j+1) else fS (atB I j):=fun j hj=>by
  rw [hL]
  show ldS ((toN I).drop j) = _
  rw [ldS_drop (toN I) (by rw [toN_len];exact hj),toN_getD I j hj]
 rw [L0]
 obtain ⟨v,hv⟩:∃ v,L 0 = v:=⟨_,rfl⟩
 have HE:=hide LE;have HS:=hide LS
 obtain ⟨n,hnn⟩:∃ n,I.length = n:=⟨_,rfl⟩
 rw [hnn] at hn HE HS ⊢
 rw [hv]
 have HN:=hide hnn
 have HV:=hide hv
 clear hI hL L0 LE LS hnn hv
 go_enter Tryz.func172,Tryz.ntmps172
 go_wp2_with fail
 go_loopw [7] (fun i wr=>∃ j:Nat,j≤n∧i = .int .i64 j∧Hid (L j = v)∧Hid (Below w.heap.size w wr)) (fun i _=>n - (intOf i).toNat)
 case atStart=>exact ⟨0,Nat.zero_le _,rfl,HV,Below.refl _ _⟩
 case round =>
  obtain ⟨j,hj,rfl,hL,hB⟩:=hrel
  by_cases hlt:j < n
  ·have hjI:(j:Int) < (n:Int):=by omega
   obtain ⟨b,off,hao,hb,hc⟩:=((uH HI).below hB.out).ne (by rw [uH HN];omega)
   have hck:=hide (hc j (by rw [uH HN];exact hlt))
   have C1:=hide (fun w'=>kind_any (atB I j) w' ((uH HI).lt j))
   have C2:=hide (fun w'=>ssign_any (atB I j) w' ((uH HI).lt j))
   have HJ:=hide (uH HS j hlt)
   subst hao
   clear hc
   by_cases g0:fK (atB I j) = 0
   ·have R2:=hide (show L (j+1) = v from by have:=uH HJ;rw [uH hL,if_pos g0] at this;exact this.symm)
    rw [g0] at C1
    clear HJ g0 C2
    generalize atB I j = x at *
    have hc0:=uH hck
    go_wp2_with fail
    refine (uH C1 _).mono ?_
    rintro e w2 ⟨rfl,hb2⟩
    have B2:Hid (Below w.heap.size w w2):=hB.out.trans (hb2.mono hB.out.size)
    clear C1 hb2 hck hc0 hB
    go_wp2_with fail
    go_round
    case rel=>exact ⟨j+1,by omega,by go_num,R2,B2⟩
    case measure=>simp [intOf];omega
   ·have R2:fS (atB I j) = v:=by have:=uH HJ;rw [uH hL,if_neg g0] at this;exact this.symm
    have g0':(fK (atB I j) == 0) = false:=by rw [beq_eq_false_iff_ne];exact g0
    rw [R2] at C2
    clear HJ R2
    generalize fK (atB I j) = kd at *
    generalize atB I j = x at *
    have hc0:=uH hck
    go_wp2_with fail
    refine (uH C1 _).mono ?_
    rintro e w2 ⟨rfl,hb2⟩
    have B2:Hid (Below w.heap.size w w2):=hB.out.trans (hb2.mono hB.out.size)
    clear C1 hb2 hck hc0 hB
    go_wp2_with fail
    refine (uH C2 _).mono ?_
    rintro e w3 ⟨rfl,hb2⟩
    have B3:Hid (Below w.heap.size w w3):=B2.out.trans (hb2.mono B2.out.size)
    clear C2 hb2 B2
    go_wp2_with fail
    exact bodyPost_ret (v:=.bool v) (by simp [results,Tryz.results172,go_sem]) rfl ⟨rfl,B3.out⟩
  ·have hv2:v = false:=by have:=uH HE j (by omega);rw [uH hL] at this;exact this
   subst hv2
   have hjI:(n:Int)≤(j:Int):=by omega
   go_wp2_with fail
   exact bodyPost_ret (v:=.bool false) (by simp [results,Tryz.results172,go_sem]) rfl ⟨rfl,hB.out⟩
theorem hbeta_of (ao:Option Addr) (n c m o:Nat) (s:Bool) (w:World) (h:(s = true∧o = m) ∨ (s = false∧o = fN m)) (hm:m < 18446744073709551616)
  (C1:Calls Tryz.prog 120 #[.slice ao n c] w fun e w''=>e = .returned (.tuple #[.int .u64 (m:Nat),.int .i64 0])∧Below w.heap.size w w'')
  (C2:∀ w',Below w.heap.size w w'→Calls Tryz.prog 172 #[.slice ao n c] w' fun e w''=>e = .returned (.bool s)∧Below w'.heap.size w' w'') :
  Calls Tryz.prog 148 #[.slice ao n c] w fun e w'=>e = .returned (.int .u64 (o:Nat))∧Below w.heap.size w w':=by
 have K1:=hide C1;have K2:=hide C2
 have K3:=hide (fun w'=>sminus_any m w' hm)
 clear C1 C2 hm
 rcases h with ⟨rfl,rfl⟩ | ⟨rfl,rfl⟩
 ·clear K3
  go_enter Tryz.func148,Tryz.ntmps148
  go_wp2_with fail
  refine Calls.mono (uH K1) ?_
  rintro e w1 ⟨rfl,hb1⟩
  have B1:=hide hb1
  clear K1 hb1
  go_wp2_with fail
  refine (uH K2 _ (uH B1)).mono ?_
  rintro e w2 ⟨rfl,hb2⟩
  have B2:=hide ((uH B1).trans (hb2.mono (uH B1).size))
  clear K2 hb2 B1
  go_wp2
  go_ret
  exact ⟨rfl,uH B2⟩
 ·generalize fN m = o at *
  go_enter Tryz.func148,Tryz.ntmps148
  go_wp2_with fail
  refine Calls.mono (uH K1) ?_
  rintro e w1 ⟨rfl,hb1⟩
  have B1:=hide hb1
  clear K1 hb1
  go_wp2_with fail
  refine (uH K2 _ (uH B1)).mono ?_
  rintro e w2 ⟨rfl,hb2⟩
  have B2:=hide ((uH B1).trans (hb2.mono (uH B1).size))
  clear K2 hb2 B1
  go_wp2_with fail
  refine (uH K3 _).mono ?_
  rintro e w3 ⟨rfl,rfl⟩
  clear K3
  go_wp2
  go_ret
  exact ⟨rfl,uH B2⟩
theorem hbeta_any (ao:Option Addr) (c:Nat) (I:List Int) (w:World) (hI:BitsAt w ao c I) (hn:I.length≤64) (hT:Tab w) :
  Calls Tryz.prog 148 #[.slice ao I.length c] w fun e w'=>e = .returned (.int .u64 ((if ldS (toN I) = true then nrV (toN I) else fN (nrV (toN I)):Nat):Nat))∧Below w.heap.size w w':=by
 have C1:=vNorm_ok ao c I w hI hn hT
 rw [nmV_nrV] at C1
 refine hbeta_of ao I.length c (nrV (toN I)) _ (ldS (toN I)) w ?_ (nrV_lt _) C1 (fun w' hb=>hbelow_any ao c I w' (hI.below hb) hn)
 cases ldS (toN I)
 ·exact .inr ⟨rfl,if_neg (by decide)⟩
 ·exact .inl ⟨rfl,if_pos rfl⟩
theorem hmake1_any (x:Nat) (w:World) :
  Calls Tryz.prog 147 #[.int .u64 x] w fun e w'=>e = .returned (.int .u64 (0:Nat))∧Below w.heap.size w w':=by
 go_enter Tryz.func147,Tryz.ntmps147
 go_wp2
 go_ret
 exact ⟨rfl,Below.refl _ _⟩
theorem hmake2_any (x d g:Nat) (w:World) (hx:x < 18446744073709551616) (hd:d < 18446744073709551616) (hg:w.cell? ⟨g,0,none⟩ = some (.int .u64 (d:Nat))) (hT:Tab w) :
  Calls Tryz.prog 150 #[.int .u64 x,.pointer (some ⟨g,0,none⟩)] w fun e w'=>e = .returned (.int .u64 (dV x d:Nat))∧Below w.heap.size w w':=by
 have K:=hide (pdiv_any x d w hx hd hT)
 generalize dV x d = o at *
 clear hx hd hT
 go_enter Tryz.func150,Tryz.ntmps150
 go_wp2_with fail
 refine Calls.mono (uH K) ?_
 rintro e w1 ⟨rfl,hb1⟩
 clear K
 go_wp2
 go_ret
 exact ⟨rfl,hb1⟩
def oaL (f:Nat→Nat) (k:Nat):List Nat:=4607182418800017408 :: fsL f k
theorem oaL_len (f:Nat→Nat) (k:Nat):(oaL f k).length = k+1:=by
 show (fsL f k).length+1 = _
 rw [fsL_len]
theorem oaL_succ (f:Nat→Nat) (k:Nat):oaL f (k+1) = oaL f k ++ [f k]:=by
 show 4607182418800017408 :: fsL f (k+1) = (4607182418800017408 :: fsL f k) ++ [f k]
 rw [fsL_succ]
 rfl
theorem oneAnd_any (fn:Nat) (caps:Array Value) (ao:Option Addr) (c:Nat) (J:List Int) (f:Nat→Nat) (w:World)
  (hcf:∀ args w,(callFunc fn args).run Tryz.prog w = .ok (.enter fn args) w) (hJ:BitsAt w ao c J) (hn:J.length≤64) (hf:∀ k,k < J.length→f k < 18446744073709551616)
  (hstep:∀ w' k,Below w.heap.size w w'→k < J.length→Calls Tryz.prog fn (#[.int .u64 (atB J k:Nat)] ++ caps) w' fun e w''=>e = .returned (.int .u64 (f k:Nat))∧Below w'.heap.size w' w'') :
  Calls Tryz.prog 146 #[.slice ao J.length c,.func (.func fn) #[] caps] w fun e w'=>∃ bo d,e = .returned (.slice bo (J.length+1:Nat) d)∧NewB w.heap.size bo (mxL (oaL f J.length))∧BitsAt w' bo d (mxL (oaL f J.length))∧Below w.heap.size w w':=by
 obtain ⟨i0,hi0,hz0,hz1,hz2⟩:=info_parts infoBits
 have HS:=hide hstep;have HF:=hide hf;have HJ:=hide hJ
 obtain ⟨n,hnn⟩:∃ n,J.length = n:=⟨_,rfl⟩
 rw [hnn] at hn HS HF ⊢
 have HN:=hide hnn
 obtain ⟨m,hm⟩:∃ m,n+1 = m:=⟨_,rfl⟩
 have hmI:(1:Int)+(n:Int) = (m:Int):=by omega
 obtain ⟨w1,hmk,own1,gr1⟩:=run_make_own (P:=Tryz.prog) w w.heap.size 22 31 i0 (.int .u64 0) 1 Tryz.underlying22 hi0 hz0 hz1 .i64 .i64 m (by rw [hz2];omega) (by unfold maxLen;omega) (by simp)
 have B1:Below w.heap.size w w1:=(Below.refl w.heap.size w).grown gr1 (by simp) (fun g hg=>by cases hg)
 have O1:OwnB w.heap.size w1 (.slice (some ⟨w.heap.size,0,none⟩) 0 m) []:=⟨by simpa using own1,by intro x hx;cases hx⟩
 generalize Value.slice (some ⟨w.heap.size,0,none⟩) 0 m = v1 at hmk O1
 obtain ⟨v2,w2,run2,own2,bel2,_,_⟩:=O1.push 4607182418800017408 (by decide) (by simp) B1.size 22
 have RUN:=hide (show (Builtin.append_ #[22,22] 22 #[v1,.slice (some ⟨w1.heap.size,0,none⟩) 1 1]).run Tryz.prog (w1.alloc (.cells #[.int .u64 4607182418800017408] 31)) = .ok v2 w2 from run2)
 have O2:=hide (show OwnB w.heap.size w2 v2 (oaL f 0) from own2)
 have B2:=hide (B1.trans bel2)
 clear own1 gr1 O1 B1 run2 own2 bel2 hstep hf hJ hnn
 go_enter Tryz.func146,Tryz.ntmps146
 go_wp2_with (at_builtin;refine wpList_append_ran _ rfl _ _ 22 rfl _ _ _ _ rfl rfl (uH RUN) ?_;clear RUN)
 clear hmk
 go_loopw [5,17] (fun v i wr=>∃ k:Nat,k≤n∧i = .int .i64 k∧Hid (OwnB w.heap.size wr v (oaL f k))∧Hid (Below w.heap.size w wr)) (fun _ i _=>n - (intOf i).toNat)
 case atStart=>exact ⟨0,Nat.zero_le _,rfl,O2,B2⟩
 case round =>
  clear O2 B2
  obtain ⟨k,hk,rfl,hO,hB⟩:=hrel
  by_cases hlt:k < n
  ·have hkI:(k:Int) < (n:Int):=by omega
   obtain ⟨b,off,hao,hb,hc⟩:=((uH HJ).below hB.out).ne (by rw [uH HN];omega)
   have hck:=hc k (by rw [uH HN];exact hlt)
   have C:=hide (fun w' h=>uH HS w' k h hlt)
   have ho:=hide (uH HF k hlt)
   have eo:=hide (show f k = f k from rfl)
   have hlen:=hide (show (oaL f k).length≤1000000 from by rw [oaL_len];omega)
   subst hao
   clear hc
   obtain ⟨o,eo⟩:∃ o,f k = o:=⟨_,rfl⟩
   rw [eo] at C ho
   have eV:=hide eo
   clear eo
   generalize atB J k = x at *
   go_wp2_with fail
   refine (uH C _ hB.out).mono ?_
   rintro e w2 ⟨rfl,hb2⟩
   have own2:=(uH hO).below hb2
   have B2:=hB.out.trans (hb2.mono hB.out.size)
   obtain ⟨v3,w3,run3,own3,bel3,_,_⟩:=own2.push o (uH ho) (uH hlen) B2.size 22
   have RUN:=hide run3
   have O3:=hide (show OwnB w.heap.size w3 v3 (oaL f (k+1)) from by
    rw [oaL_succ,uH eV];exact own3)
   have B3:=hide (B2.trans bel3)
   clear hb2 C hO hB own2 B2 run3 own3 bel3 ho eV hlen hck
   go_wp2_with (at_builtin;refine wpList_append_ran _ rfl _ _ 22 rfl _ _ _ _ rfl rfl (uH RUN) ?_;clear RUN)
   go_round
   case rel=>exact ⟨k+1,by omega,by go_num,O3,B3⟩
   case measure=>simp [intOf];omega
  ·have hkk:k = n:=by omega
   subst hkk
   obtain ⟨b1,d1,e1,q1⟩:=(uH hO).bits
   rw [oaL_len,hm] at e1
   subst e1
   have HNew:=hide (uH hO).newB
   have Q1:=hide q1
   clear q1 hO
   go_wp2_with fail
   exact bodyPost_ret (v:=.slice b1 m d1) (by simp [results,Tryz.results146,go_sem]) rfl ⟨b1,d1,by rw [hm],uH HNew,uH Q1,hB.out⟩
end Go.Proofs.YtnnfjeieennffaaGreatDoor
