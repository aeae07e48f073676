/- Part 33 of the texts. -/
import Derived.Test.YtenpggicmfhhdaaGreatDoorParta32
import Derived.Test.YtenpggicmfhhdaaGreatDoorParta26
import Derived.Deep.RegionHeld3
import Derived.Test.YtenpggicmfhhdaaGreatDoorParta30
import Derived.Test.YtenpggicmfhhdaaGreatDoorParta29
import Derived.Test.YtenpggicmfhhdaaGreatDoorParta23
import Derived.Test.YtenpggicmfhhdaaGreatDoorParta21
import Derived.Test.YtenpggicmfhhdaaGreatDoorParta20
import Derived.Test.YtenpggicmfhhdaaGreatDoorParta25
import Derived.Test.YtenpggicmfhhdaaGreatDoorParta24
import Derived.Test.YtenpggicmfhhdaaGreatDoorParta18
import Derived.Test.YtenpggicmfhhdaaGreatDoorParta16
import Derived.Test.YtenpggicmfhhdaaGreatDoorParta17
import Derived.Test.YtenpggicmfhhdaaGreatDoorParta27
import Derived.Test.YtenpggicmfhhdaaGreatDoorParta13
import Derived.Test.YtenpggicmfhhdaaGreatDoorParta14
import Derived.Test.YtenpggicmfhhdaaGreatDoorParta12
import Derived.Test.YtenpggicmfhhdaaGreatDoorParta11
import Derived.Deep.Cut
import Derived.BigQuiet
import Derived.Test.YtenpggicmfhhdaaGreatDoorParta05
import Derived.Test.YtenpggicmfhhdaaGreatDoorParta02
import Derived.Maps.AppendAt
import Derived.Test.YtenpggicmfhhdaaGreatDoorParta08
import Derived.Lib.BitFns
import Derived.Test.YtenpggicmfhhdaaGreatDoorParta07
import Derived.Test.YtenpggicmfhhdaaGreatDoorParta06
import Derived.Test.YtenpggicmfhhdaaGreatDoorParta01
import Derived.Maps.Own
import Derived.Maps.OwnOps
import Derived.Maps.OwnSet
import Derived.DeepKeys4
import Derived.WalkSmall
import Derived.OwnWalk
import Derived.Deep.AppendLies
import Derived.Test.YtenpggicmfhhdaaGreatDoorParta28
import Derived.Laws.CopyOwn
set_option maxHeartbeats 8000000
set_option maxRecDepth 20000
namespace Go.Proofs.YtenpggicmfhhdaaGreatDoor
open Go.RowKit
attribute [local go_sem ↓] Go.wp_at_zero Go.wp_at_succ
theorem step_append_ran {P:Program} (w:World) {ops:Array Oper} {o:Oper} {a:Act} {K:Act→World→Prop} {Q:Exit→Act→World→Prop} {E:Prop} (hgd:o.guard = none) (s x:Operand) (t:TypeId)
  (ho:o.op = .call { callee:=.builtin .append,args:=#[s,x],argTypes:=#[t,t] }) (v1 v2:Value) (F:Value→World→Prop) (hs:a.eval s = v1) (hx:a.eval x = v2)
  (hr:∃ v' w',(Builtin.append_ #[t,t] o.type #[v1,v2]).run P w = .ok v' w'∧F v' w') (h:∀ v' w',F v' w'→K (a.put o.dst v') w') :
  if Region.wanted o (yielded ops a.tmps) = true then Oper.wp P o a w K Q else E:=by
 have hw:Region.wanted o (yielded ops a.tmps) = true:=by simp [Region.wanted,hgd]
 rw [if_pos hw]
 obtain ⟨v',w',hrun,hF⟩:=hr
 unfold Oper.wp execOp
 simp only [ho,resolve,invoke,builtin,Sem.run_bind,Sem.run_pure,Result.andThen_ok,List.map_toArray,List.map_cons,List.map_nil,hs,hx,hrun]
 exact h v' w' hF
def orN (n:Nat) (t:Bool) (p:Nat):Nat:=if t = true then n - 1 - p else p
theorem orN_lt {n:Nat} (t:Bool) {p:Nat} (h:p < n):orN n t p < n:=by unfold orN;split <;> omega
theorem fl_mk (r c:Nat) (rows cols:Bool) (S:List Nat) (h:S.length = r * c):flM r c rows cols S = mkM r c (fun i k=>elM c S (orN r rows i) (orN c cols k)):=by
 cases rows <;> cases cols
 ·exact (mkM_of r c S h).symm
 ·rfl
 ·rfl
 ·show lfM r c (dnM r c S) = _
  unfold lfM
  refine mkM_congr (fun p q hp hq=>?_)
  rw [el_dn r c S hp (by omega)]
  rfl
theorem order1_any (p n bn bt:Nat) (t:Bool) (w:World) (hp:p < n) (hn:n≤6) (h1:w.cell? ⟨bt,0,none⟩ = some (.bool t)) (h2:w.cell? ⟨bn,0,none⟩ = some (.int .i64 (n:Nat))) :
  Calls Tryz.prog 30 #[.int .i64 p,.pointer (some ⟨bt,0,none⟩),.pointer (some ⟨bn,0,none⟩)] w fun e w'=>e = .returned (.int .i64 (orN n t p:Nat))∧Below w.heap.size w w':=by
 have e1:IntKind.i64.wrap ((n:Int) - 1) = (n:Int) - 1:=wrap_in _ (by omega)
 have e2:IntKind.i64.wrap ((n:Int) - 1 - (p:Int)) = (n:Int) - 1 - (p:Int):=wrap_in _ (by omega)
 cases t
 all_goals
  go_enter Tryz.func30,Tryz.ntmps30
  go_wp2
  go_ret
  refine ⟨?_,Below.refl _ _⟩
  unfold orN
  first | rfl | (simp;omega)
structure OrAt (w:World) (v:Value) (n:Nat) (t:Bool):Prop where
 ex:∃ bn bt,v = .func (.func 30) #[] #[.pointer (some ⟨bt,0,none⟩),.pointer (some ⟨bn,0,none⟩)]∧w.cell? ⟨bt,0,none⟩ = some (.bool t)∧w.cell? ⟨bn,0,none⟩ = some (.int .i64 (n:Nat))
theorem OrAt.all {w w':World} {v:Value} {n:Nat} {t:Bool} (h:OrAt w v n t) (hb:Below w.heap.size w w'):OrAt w' v n t:=by
 obtain ⟨bn,bt,e,h1,h2⟩:=h.ex
 exact ⟨bn,bt,e,cell_keep h1 hb,cell_keep h2 hb⟩
theorem order_any (n:Nat) (t:Bool) (w:World) :
  Calls Tryz.prog 20 #[.int .i64 n,.bool t] w fun e w'=>∃ v,e = .returned v∧OrAt w' v n t∧Below w.heap.size w w':=by
 have b1:=below_alloc9 w (.cells #[.int .i64 (n:Nat)] 3)
 have x1:=new_cell w (.int .i64 (n:Nat)) 3
 have s1:=size_alloc9 w (.cells #[.int .i64 (n:Nat)] 3)
 have b2:=below_alloc9 (w.alloc (.cells #[.int .i64 (n:Nat)] 3)) (.cells #[.bool t] 4)
 have x2:=new_cell (w.alloc (.cells #[.int .i64 (n:Nat)] 3)) (.bool t) 4
 have y1:=hide (cell_keep x1 b2)
 rw [s1] at x2
 have HX:=hide x2
 have HB:=hide (b1.trans (b2.mono b1.size))
 clear b1 x1 s1 b2 x2
 go_enter Tryz.func20,Tryz.ntmps20
 go_wp2
 go_ret
 exact ⟨_,rfl,⟨_,_,rfl,uH HX,uH y1⟩,uH HB⟩
theorem flip_no (r c:Int) (ao:Option Addr) (n cap:Nat) (rows cols:Bool) (w:World) (hn:n≤35184372088830) (h:okB r c n = false) :
  Calls Tryz.prog 7 #[.agg #[.int .i64 r,.int .i64 c,.slice ao n cap],.bool rows,.bool cols] w fun e w'=>∃ v,e = .returned (.tuple #[v,.int .i64 1])∧NewM w.heap.size w' 0 0 [] v∧Below w.heap.size w w':=by
 have K:=hide (mcheck_any r c ao n cap ((w.alloc (.cells #[.int .i64 r,.int .i64 c,.slice ao n cap] 24)).alloc (.cells #[.int .i64 0,.int .i64 0,.slice none 0 0] 24)) hn)
 rw [h,if_neg (by decide)] at K
 simp only [size_alloc9] at K
 have KB:=hide (boxes2 w (.int .i64 r) (.int .i64 c) (.slice ao n cap) (.int .i64 0) (.int .i64 0) (.slice none 0 0))
 clear h
 go_enter Tryz.func7,Tryz.ntmps7
 go_wp2_with fail
 refine Calls.mono (uH K) ?_
 rintro e w1 ⟨rfl,hb1⟩
 obtain ⟨hB,hA,hX⟩:=uH KB w1 hb1
 clear K KB hb1 hA
 have f0:=hX.free 0;have f1:=hX.free 1;have f2:=hX.free 2
 have s0:=hX.c0;have s1:=hX.c1;have s2:=hX.c2
 have XP:=hX.put (.int .i64 0) (.int .i64 0) (.slice none 0 0)
 have z0:=XP.c0;have z1:=XP.c1;have z2:=XP.c2
 have BP:=hide (below_putM hB (b:=w.heap.size+1) (by omega) (.int .i64 0) (.int .i64 0) (.slice none 0 0))
 clear XP hX hB
 go_wp2
 exact bodyPost_ret (v:=.tuple #[.agg #[.int .i64 0,.int .i64 0,.slice none 0 0],.int .i64 1]) (by simp [results,Tryz.results7,go_sem,z0,z1,z2]) rfl ⟨_,rfl,NewM.zero _ _,uH BP⟩
theorem flip_any (r c cap:Nat) (ao:Option Addr) (rows cols:Bool) (S:List Nat) (w:World) (h:Mx w ao cap r c S) :
  Calls Tryz.prog 7 #[.agg #[.int .i64 r,.int .i64 c,.slice ao S.length cap],.bool rows,.bool cols] w fun e w'=>∃ v,e = .returned (.tuple #[v,.int .i64 0])∧NewM w.heap.size w' r c (flM r c rows cols S) v∧Below w.heap.size w w':=by
 obtain ⟨i0,hi0,hz0,hz1,hz2⟩:=info_parts infoBits
 have r6:=h.2.2.1
 have c6:=h.2.2.2
 have hl:=h.2.1
 have h36:=h.small
 have K:=hide (mcheck_any r c ao S.length cap ((w.alloc (.cells #[.int .i64 (r:Nat),.int .i64 (c:Nat),.slice ao S.length cap] 24)).alloc (.cells #[.int .i64 0,.int .i64 0,.slice none 0 0] 24)) (by omega))
 rw [mx_ok h,if_pos (Eq.refl true)] at K
 simp only [size_alloc9] at K
 have KB:=hide (boxes2 w (.int .i64 (r:Nat)) (.int .i64 (c:Nat)) (.slice ao S.length cap) (.int .i64 0) (.int .i64 0) (.slice none 0 0))
 rw [fl_mk r c rows cols S hl]
 obtain ⟨F,hF⟩:∃ F:Nat→Nat,F = fun x=>elM c S (orN r rows (x / c)) (orN c cols (x % c)):=⟨_,rfl⟩
 have FV:=hide (show ∀ j k,k < c→F (j * c+k) = elM c S (orN r rows j) (orN c cols k) from fun j k hk=>by rw [hF];show elM c S (orN r rows ((j * c+k) / c)) (orN c cols ((j * c+k) % c)) = _;rw [place_div hk,place_mod hk])
 have FM:=hide (show mkM r c (fun i k=>elM c S (orN r rows i) (orN c cols k)) = fsL F (r * c) from by rw [hF];rfl)
 rw [uH FM]
 have HM:=hide h
 generalize hnn:S.length = n at *
 have HL:=hide hl
 clear hF FM h hnn hl
 go_enter Tryz.func7,Tryz.ntmps7
 go_wp2_with fail
 refine Calls.mono (uH K) ?_
 rintro e w1 ⟨rfl,hb1⟩
 obtain ⟨hB,hA,hX⟩:=uH KB w1 hb1
 clear K KB hb1
 have HK:=hide (fun w' (h:Below w1.heap.size w1 w')=>(show Below w1.heap.size w1 w'∧w'.cell? ⟨w.heap.size,0,none⟩ = some (.int .i64 (r:Nat))∧w'.cell? ⟨w.heap.size,1,none⟩ = some (.int .i64 (c:Nat)) from ⟨h,(hA.all h).c0,(hA.all h).c1⟩))
 have HA:=hide hA;have HX:=hide hX;have HW:=hide hB
 clear hA hX hB
 go_wp2_with fail
 go_region_held3 (fun w'=>Below w1.heap.size w1 w'∧w'.cell? ⟨w.heap.size,0,none⟩ = some (.int .i64 (r:Nat))∧w'.cell? ⟨w.heap.size,1,none⟩ = some (.int .i64 (c:Nat)))
  (first | exact uH HK _ (Below.refl _ _).drew | exact uH HK _ (by assumption) | fail "KK")
  (first | (go_at_call 20;refine (order_any r rows _).mono ?_;rintro e w2 ⟨v1,rfl,o1,hb⟩;have hB2:Below w1.heap.size w1 w2:=Below.trans (And.left (by assumption)) (hb.mono (Below.size (And.left (by assumption))));have O1:=hide o1;clear hb o1) | (go_at_call 20;refine (order_any c cols _).mono ?_;rintro e w3 ⟨v2,rfl,o2,hb⟩;have hB3:Below w1.heap.size w1 w3:=Below.trans (And.left (by assumption)) (hb.mono (Below.size (And.left (by assumption))));have O2:=hide o2;replace O1:=hide ((uH O1).all hb);clear hb o2 hB2) | fail "NO ARM")
 have B3:Below w1.heap.size w1 w3:=by assumption
 replace HA:=hide ((uH HA).all B3)
 replace HX:=hide ((uH HX).all B3)
 replace HW:=hide ((uH HW).trans (B3.mono (uH HW).size))
 replace HM:=hide ((uH HM).below (uH HW))
 obtain ⟨bn1,bt1,rfl,x1,x2⟩:=(uH O1).ex
 obtain ⟨bn2,bt2,rfl,x3,x4⟩:=(uH O2).ex
 have KA:=hide (fun w' j (hb:Below w3.heap.size w3 w') (hj:j < r)=>order1_any j r bn1 bt1 rows w' hj r6 (cell_keep x1 hb) (cell_keep x2 hb))
 have KC:=hide (fun w' k (hb:Below w3.heap.size w3 w') (hk:k < c)=>order1_any k c bn2 bt2 cols w' hk c6 (cell_keep x3 hb) (cell_keep x4 hb))
 clear HK B3 hB3 x1 x2 x3 x4 O1 O2
 obtain ⟨w4,hmk,own4,gr4⟩:=run_make_own (P:=Tryz.prog) w3 w3.heap.size 22 30 i0 (.int .u64 0) 1 Tryz.underlying22 hi0 hz0 hz1 .i64 .i64 n (by rw [hz2];omega) (by unfold maxLen;omega) (by simp)
 have B4:=hide (show Below w3.heap.size w3 w4 from (Below.refl w3.heap.size w3).grown gr4 (by simp) (fun g hg=>by cases hg))
 have O4:=hide (show OwnB w3.heap.size w4 (.slice (some ⟨w3.heap.size,0,none⟩) 0 n) (fsL F (0 * c)) from ⟨by rw [Nat.zero_mul];simpa [fsL] using own4,by rw [Nat.zero_mul];intro x hx;cases hx⟩)
 clear own4 gr4
 have HR:=hide ((uH HA).all (uH B4)).c0
 have y0:=uH HR
 have y2:=(uH HA).c2
 go_wp2_with fail
 clear hmk y0 y2 HR
 go_loopw [11,34] (fun v i wr=>∃ j:Nat,j≤r∧i = .int .i64 j∧Hid (OwnB w3.heap.size wr v (fsL F (j * c)))∧Hid (Below w3.heap.size w3 wr)) (fun _ i _=>r - (intOf i).toNat)
 case atStart=>exact ⟨0,Nat.zero_le _,rfl,O4,B4⟩
 case round =>
  clear O4 B4
  obtain ⟨j,hj,rfl,hO,hB⟩:=hrel
  by_cases hlt:j < r
  ·have hjI:(j:Int) < (r:Int):=by omega
   have hO':=hide (show OwnB w3.heap.size wr _ (fsL F (j * c+0)) from uH hO)
   have y1:=((uH HA).all (uH hB)).c1
   clear hO
   go_wp2_with fail
   clear y1
   go_loopw [11,39] (fun v i wr=>∃ k:Nat,k≤c∧i = .int .i64 k∧Hid (OwnB w3.heap.size wr v (fsL F (j * c+k)))∧Hid (Below w3.heap.size w3 wr)) (fun _ i _=>c - (intOf i).toNat)
   case atStart=>exact ⟨0,Nat.zero_le _,rfl,hO',hB⟩
   case round =>
    clear hO' hB
    obtain ⟨k,hk,rfl,hO,hB⟩:=hrel
    by_cases hkc:k < c
    ·have hkI:(k:Int) < (c:Int):=by omega
     have K1:=hide (fun w' hb=>uH KA w' j hb hlt)
     have K2:=hide (fun w' hb=>uH KC w' k hb hkc)
     have hx:=orN_lt rows hlt;have hy:=orN_lt cols hkc
     obtain ⟨b,off,hao,hbw,hcell,_⟩:=(uH HM).cells hx hy
     have hu:=(uH HM).el_lt (orN r rows j) (orN c cols k)
     have hp:=place_lt hx hy
     have eo:=uH FV j k hkc
     generalize elM c S (orN r rows j) (orN c cols k) = u at *
     generalize orN r rows j = x at *
     generalize orN c cols k = y at *
     obtain ⟨q,hq⟩:∃ q,x * c = q:=⟨_,rfl⟩
     rw [hq] at hcell hp
     obtain ⟨p,hpp⟩:∃ p,q+y = p:=⟨_,rfl⟩
     rw [hpp] at hcell hp
     have hpn:p < n:=by rw [uH HL];exact hp
     have hpI:(p:Int) < (n:Int):=by omega
     have e2:IntKind.i64.wrap ((x:Int) * (c:Int)) = (q:Int):=by
      rw [cast_mul10 x c,hq]
      exact wrap_in _ (by omega)
     have e3:IntKind.i64.wrap ((q:Int)+(y:Int)) = (p:Int):=(wrap_in _ (by omega)).trans (by omega)
     have e5:(x:Int) * (c:Int) = (q:Int):=by rw [cast_mul10 x c,hq]
     have e6:(q:Int)+(y:Int) = (p:Int):=by omega
     have e7:IntKind.i64.wrap (q:Int) = (q:Int):=wrap_in _ (by omega)
     have e8:IntKind.i64.wrap (p:Int) = (p:Int):=wrap_in _ (by omega)
     subst hao
     have HK:=hide (fun w' (h:Below w3.heap.size w3 w')=>(show w'.cell? ⟨w.heap.size,1,none⟩ = some (.int .i64 (c:Nat))∧w'.cell? ⟨w.heap.size,2,none⟩ = some (.slice (some ⟨b,off,none⟩) n cap)∧w'.cell? ⟨b,off+p,none⟩ = some (.int .u64 (u:Nat)) from ⟨((uH HA).all h).c1,((uH HA).all h).c2,cell_keep hcell h⟩))
     have KP:=hide (fun W (ho:OwnB w3.heap.size W u11 (fsL F (j * c+k))) (hs:w3.heap.size≤W.heap.size)=>(show ∃ v' w',(Builtin.append_ #[22,22] 22 #[u11,.slice (some ⟨W.heap.size,0,none⟩) 1 1]).run Tryz.prog (W.alloc (.cells #[.int .u64 (u:Int)] 30)) = .ok v' w'∧(OwnB w3.heap.size w' v' (fsL F (j * c+(k+1)))∧Below w3.heap.size W w') from by
      obtain ⟨v3,w3',run3,own3,bel3,_,_⟩:=ho.push u hu (by rw [fsL_len];have:=place_lt hlt hkc;have:=uH HL;omega) hs 22
      exact ⟨v3,w3',run3,by rw [← Nat.add_assoc,fsL_succ,eo];exact own3,bel3⟩))
     clear hq hpp hcell hu hp eo hpn hx hy hbw
     go_wp2_with fail
     refine at_world (fun W=>OwnB w3.heap.size W u11 (fsL F (j * c+k))∧Below w3.heap.size w3 W) ⟨uH hO,uH hB⟩ ?_
     clear hO hB
     rintro W ⟨hO,hB⟩
     have HO:=hide (hO.below (Below.refl W.heap.size W).drew)
     have HB:=hide (hB.trans (((Below.refl W.heap.size W).drew).mono hB.size))
     clear hO hB
     refine wp_region_held_drew (S:=(fun w'=>w'.cell? ⟨w.heap.size,1,none⟩ = some (.int .i64 (c:Nat))∧w'.cell? ⟨w.heap.size,2,none⟩ = some (.slice (some ⟨b,off,none⟩) n cap)∧w'.cell? ⟨b,off+p,none⟩ = some (.int .u64 (u:Nat)))) (by kernel_rfl) ?_ (fun hHeld=>?_)
     ·exact uH HK _ (uH HB)
     refine wpAnyH_take (i:=0) (oi:={ dst:=some 42,op:=Op.move (Operand.tmp 11),type:=22,pos := "rq.go:19",after:=#[],guard:=none }) (v:=u11) rfl (by kernel_rfl) (by kernel_rfl) (by kernel_rfl) (fun _ _ _ h=>h) (Or.inl ⟨by rfl,?_⟩) (by assumption) ?_
     ·(intro w hSw;(try dsimp only at hSw);go_simp)
     simp only [Act.put,List.setIfInBounds_toArray,List.set_cons_zero,List.set_cons_succ]
     refine wpAnyH_take (i:=1) (oi:={ dst:=some 43,op:=Op.fieldAddr 24 (Operand.tmp 3) 2,type:=0,pos := "rq.go:19",after:=#[],guard:=none }) (v:=(Value.pointer (some ⟨w.heap.size,2,none⟩))) rfl (by kernel_rfl) (by kernel_rfl) (by kernel_rfl) (fun _ _ _ h=>h) (Or.inl ⟨by rfl,?_⟩) (by assumption) ?_
     ·(intro w hSw;(try dsimp only at hSw);go_simp)
     simp only [Act.put,List.setIfInBounds_toArray,List.set_cons_zero,List.set_cons_succ]
     refine wpAnyH_take (i:=2) (oi:={ dst:=some 44,op:=Op.load 22 (Operand.tmp 43),type:=22,pos := "rq.go:19",after:=#[{ on:=1,ground:=Ground.data }],guard:=none }) (v:=(Value.slice (some ⟨b,off,none⟩) n cap)) rfl (by kernel_rfl) (by kernel_rfl) (by kernel_rfl) (fun _ _ _ h=>h) (Or.inl ⟨by rfl,?_⟩) (by assumption) ?_
     ·(intro w hSw;(try dsimp only at hSw);go_simp)
     simp only [Act.put,List.setIfInBounds_toArray,List.set_cons_zero,List.set_cons_succ]
     refine wpAnyH_take (i:=3) (oi:={ dst:=some 45,op:=Op.move (Operand.tmp 9),type:=44,pos := "rq.go:19",after:=#[],guard:=none }) (v:=(Value.func (.func 30) #[] #[.pointer (some ⟨bt1,0,none⟩),.pointer (some ⟨bn1,0,none⟩)])) rfl (by kernel_rfl) (by kernel_rfl) (by kernel_rfl) (fun _ _ _ h=>h) (Or.inl ⟨by rfl,?_⟩) (by assumption) ?_
     ·(intro w hSw;(try dsimp only at hSw);go_simp)
     simp only [Act.put,List.setIfInBounds_toArray,List.set_cons_zero,List.set_cons_succ]
     refine wpAnyH_take (i:=4) (oi:={ dst:=some 46,op:=Op.move (Operand.tmp 12),type:=3,pos := "rq.go:19",after:=#[],guard:=none }) (v:=(Value.int .i64 (j:Nat))) rfl (by kernel_rfl) (by kernel_rfl) (by kernel_rfl) (fun _ _ _ h=>h) (Or.inl ⟨by rfl,?_⟩) (by assumption) ?_
     ·(intro w hSw;(try dsimp only at hSw);go_simp)
     simp only [Act.put,List.setIfInBounds_toArray,List.set_cons_zero,List.set_cons_succ]
     refine wpAnyH_take (i:=6) (oi:={ dst:=some 48,op:=Op.fieldAddr 24 (Operand.tmp 3) 1,type:=0,pos := "rq.go:19",after:=#[],guard:=none }) (v:=(Value.pointer (some ⟨w.heap.size,1,none⟩))) rfl (by kernel_rfl) (by kernel_rfl) (by kernel_rfl) (fun _ _ _ h=>h) (Or.inl ⟨by rfl,?_⟩) (by assumption) ?_
     ·(intro w hSw;(try dsimp only at hSw);go_simp)
     simp only [Act.put,List.setIfInBounds_toArray,List.set_cons_zero,List.set_cons_succ]
     refine wpAnyH_take (i:=7) (oi:={ dst:=some 49,op:=Op.load 3 (Operand.tmp 48),type:=3,pos := "rq.go:19",after:=#[{ on:=6,ground:=Ground.data }],guard:=none }) (v:=(Value.int .i64 (c:Nat))) rfl (by kernel_rfl) (by kernel_rfl) (by kernel_rfl) (fun _ _ _ h=>h) (Or.inl ⟨by rfl,?_⟩) (by assumption) ?_
     ·(intro w hSw;(try dsimp only at hSw);go_simp)
     simp only [Act.put,List.setIfInBounds_toArray,List.set_cons_zero,List.set_cons_succ]
     refine wpAnyH_take (i:=9) (oi:={ dst:=some 51,op:=Op.move (Operand.tmp 10),type:=44,pos := "rq.go:19",after:=#[],guard:=none }) (v:=(Value.func (.func 30) #[] #[.pointer (some ⟨bt2,0,none⟩),.pointer (some ⟨bn2,0,none⟩)])) rfl (by kernel_rfl) (by kernel_rfl) (by kernel_rfl) (fun _ _ _ h=>h) (Or.inl ⟨by rfl,?_⟩) (by assumption) ?_
     ·(intro w hSw;(try dsimp only at hSw);go_simp)
     simp only [Act.put,List.setIfInBounds_toArray,List.set_cons_zero,List.set_cons_succ]
     refine wpAnyH_take (i:=10) (oi:={ dst:=some 52,op:=Op.move (Operand.tmp 13),type:=3,pos := "rq.go:19",after:=#[],guard:=none }) (v:=(Value.int .i64 (k:Nat))) rfl (by kernel_rfl) (by kernel_rfl) (by kernel_rfl) (fun _ _ _ h=>h) (Or.inl ⟨by rfl,?_⟩) (by assumption) ?_
     ·(intro w hSw;(try dsimp only at hSw);go_simp)
     simp only [Act.put,List.setIfInBounds_toArray,List.set_cons_zero,List.set_cons_succ]
     refine wpAnyH_ready (rs:=[5]) (by kernel_rfl) (by simp) ?_
     refine AllReadyH.cons (o:={ dst:=some 47,op:=Op.call { callee:=Callee.value (Operand.tmp 45),args:=#[Operand.tmp 46],argTypes:=#[3] },type:=3,pos := "rq.go:19",after:=#[{ on:=3,ground:=Ground.data },{ on:=4,ground:=Ground.data }],guard:=none }) rfl (fun K hK=>?_) AllReadyH.nil
     go_simp
     refine (uH K1 _ (uH HB)).mono ?_
     rintro e w4 ⟨rfl,hb⟩
     replace HB:=hide ((uH HB).trans (hb.mono (uH HB).size))
     replace HO:=hide ((uH HO).below hb)
     clear hb
     go_wp2_with fail
     refine hK.out _ _ ?_ (fun hHeld=>?_)
     ·exact uH HK _ (uH HB)
     clear hK K
     refine wpAnyH_take (i:=8) (oi:={ dst:=some 50,op:=Op.binOp BinOp.mul 3 (Operand.tmp 47) (Operand.tmp 49) 3,type:=3,pos := "rq.go:19",after:=#[{ on:=5,ground:=Ground.data },{ on:=7,ground:=Ground.data }],guard:=none }) (v:=(Value.int .i64 (q:Nat))) rfl (by kernel_rfl) (by kernel_rfl) (by kernel_rfl) (fun _ _ _ h=>h) (Or.inl ⟨by rfl,?_⟩) (by assumption) ?_
     ·(intro w hSw;(try dsimp only at hSw);go_simp)
     simp only [Act.put,List.setIfInBounds_toArray,List.set_cons_zero,List.set_cons_succ]
     refine wpAnyH_ready (rs:=[11]) (by kernel_rfl) (by simp) ?_
     refine AllReadyH.cons (o:={ dst:=some 53,op:=Op.call { callee:=Callee.value (Operand.tmp 51),args:=#[Operand.tmp 52],argTypes:=#[3] },type:=3,pos := "rq.go:19",after:=#[{ on:=9,ground:=Ground.data },{ on:=10,ground:=Ground.data },{ on:=5,ground:=Ground.chain }],guard:=none }) rfl (fun K hK=>?_) AllReadyH.nil
     go_simp
     refine (uH K2 _ (uH HB)).mono ?_
     rintro e w5 ⟨rfl,hb⟩
     replace HB:=hide ((uH HB).trans (hb.mono (uH HB).size))
     replace HO:=hide ((uH HO).below hb)
     clear hb
     go_wp2_with fail
     refine hK.out _ _ ?_ (fun hHeld=>?_)
     ·exact uH HK _ (uH HB)
     clear hK K
     refine wpAnyH_take (i:=12) (oi:={ dst:=some 54,op:=Op.binOp BinOp.add 3 (Operand.tmp 50) (Operand.tmp 53) 3,type:=3,pos := "rq.go:19",after:=#[{ on:=8,ground:=Ground.data },{ on:=11,ground:=Ground.data }],guard:=none }) (v:=(Value.int .i64 (p:Nat))) rfl (by kernel_rfl) (by kernel_rfl) (by kernel_rfl) (fun _ _ _ h=>h) (Or.inl ⟨by rfl,?_⟩) (by assumption) ?_
     ·(intro w hSw;(try dsimp only at hSw);go_simp)
     simp only [Act.put,List.setIfInBounds_toArray,List.set_cons_zero,List.set_cons_succ]
     refine wpAnyH_take (i:=13) (oi:={ dst:=some 55,op:=Op.indexAddr 22 (Operand.tmp 44) (Operand.tmp 54),type:=0,pos := "rq.go:19",after:=#[{ on:=2,ground:=Ground.data },{ on:=12,ground:=Ground.data }],guard:=none }) (v:=(Value.pointer (some ⟨b,off+p,none⟩))) rfl (by kernel_rfl) (by kernel_rfl) (by kernel_rfl) (fun _ _ _ h=>h) (Or.inl ⟨by rfl,?_⟩) (by assumption) ?_
     ·(intro w hSw;(try dsimp only at hSw);go_simp)
     simp only [Act.put,List.setIfInBounds_toArray,List.set_cons_zero,List.set_cons_succ]
     refine wpAnyH_take (i:=14) (oi:={ dst:=some 56,op:=Op.load 30 (Operand.tmp 55),type:=30,pos := "rq.go:19",after:=#[{ on:=13,ground:=Ground.data }],guard:=none }) (v:=(Value.int .u64 (u:Nat))) rfl (by kernel_rfl) (by kernel_rfl) (by kernel_rfl) (fun _ _ _ h=>h) (Or.inl ⟨by rfl,?_⟩) (by assumption) ?_
     ·(intro w hSw;(try dsimp only at hSw);go_simp)
     simp only [Act.put,List.setIfInBounds_toArray,List.set_cons_zero,List.set_cons_succ]
     refine wpAnyH_ready (rs:=[15]) (by kernel_rfl) (by simp) ?_
     refine AllReadyH.cons (o:={ dst:=some 57,op:=Op.buildSlice 22 1 #[(0,Operand.tmp 56)],type:=22,pos := "rq.go:19",after:=#[{ on:=14,ground:=Ground.data }],guard:=none }) rfl (fun K hK=>?_) AllReadyH.nil
     go_simp
     refine hK.out _ _ ?_ (fun hHeld=>?_)
     ·exact uH HK _ ((uH HB).trans ((below_alloc9 _ _).mono (uH HB).size))
     clear hK K
     refine wpAnyH_ready (rs:=[16]) (by kernel_rfl) (by simp) ?_
     refine AllReadyH.cons (o:={ dst:=some 58,op:=Op.call { callee:=Callee.builtin Builtin.append,args:=#[Operand.tmp 42,Operand.tmp 57],argTypes:=#[22,22] },type:=22,pos := "rq.go:19",after:=#[{ on:=0,ground:=Ground.data },{ on:=15,ground:=Ground.data },{ on:=11,ground:=Ground.chain }],guard:=none }) rfl (fun K hK=>?_) AllReadyH.nil
     have APP:=hide (uH KP _ (uH HO) (uH HB).size)
     refine step_append_ran _ (by rfl) _ _ 22 (by rfl) _ _ _ (by rfl) (by rfl) (uH APP) ?_
     clear APP
     rintro v3 w6 ⟨O3,B3⟩
     have OB:=hide O3
     replace HB:=hide ((uH HB).trans B3)
     clear O3 B3
     refine hK.out _ _ ?_ (fun hHeld=>?_)
     ·exact uH HK _ (uH HB)
     clear hK K
     refine wpAnyH_take (i:=17) (oi:={ dst:=some 11,op:=Op.assign (Operand.tmp 58),type:=22,pos := "rq.go:19",after:=#[{ on:=16,ground:=Ground.data },{ on:=16,ground:=Ground.chain },{ on:=0,ground:=Ground.phase },{ on:=1,ground:=Ground.phase },{ on:=2,ground:=Ground.phase },{ on:=3,ground:=Ground.phase },{ on:=4,ground:=Ground.phase },{ on:=5,ground:=Ground.phase },{ on:=6,ground:=Ground.phase },{ on:=7,ground:=Ground.phase },{ on:=8,ground:=Ground.phase },{ on:=9,ground:=Ground.phase },{ on:=10,ground:=Ground.phase },{ on:=11,ground:=Ground.phase },{ on:=12,ground:=Ground.phase },{ on:=13,ground:=Ground.phase },{ on:=14,ground:=Ground.phase },{ on:=15,ground:=Ground.phase },{ on:=16,ground:=Ground.phase }],guard:=none }) (v:=v3) rfl (by kernel_rfl) (by kernel_rfl) (by kernel_rfl) (fun _ _ _ h=>h) (Or.inl ⟨by rfl,?_⟩) (by assumption) ?_
     ·(intro w hSw;(try dsimp only at hSw);go_simp)
     simp only [Act.put,List.setIfInBounds_toArray,List.set_cons_zero,List.set_cons_succ]
     refine wpAnyH_done (by kernel_rfl) ?_ _
     clear HO HK KP K1 K2
     go_wp2_with fail
     go_round
     case rel=>exact ⟨k+1,by omega,by go_num,OB,HB⟩
     case measure=>simp [intOf];omega
    ·have hkk:k = c:=by omega
     subst hkk
     have hO':=hide (show OwnB w3.heap.size _ _ (fsL F ((j+1) * k)) from by rw [Nat.add_mul,Nat.one_mul];exact uH hO)
     clear hO
     go_wp2_with fail
     go_round
     case rel=>exact ⟨j+1,by omega,by go_num,hO',hB⟩
     case measure=>simp [intOf];omega
  ·have hjj:j = r:=by omega
   subst hjj
   obtain ⟨b1,d1,e1,q1⟩:=(uH hO).bits
   rw [fsL_len,← uH HL] at e1
   subst e1
   have HNew:=hide ((uH hO).newB.least (uH HW).size)
   have hX:=(uH HX).all (uH hB)
   have hBw:=(uH HW).trans ((uH hB).mono (uH HW).size)
   have y0:=((uH HA).all (uH hB)).c0;have y1:=((uH HA).all (uH hB)).c1
   have s0:=hX.c0;have s1:=hX.c1;have s2:=hX.c2
   have f0:=hX.free 0;have f1:=hX.free 1;have f2:=hX.free 2
   have XP:=hX.put (.int .i64 (j:Nat)) (.int .i64 (c:Nat)) (.slice b1 n d1)
   have z0:=XP.c0;have z1:=XP.c1;have z2:=XP.c2
   have QP:=hide (q1.putM hX (.int .i64 (j:Nat)) (.int .i64 (c:Nat)) (.slice b1 n d1))
   have BP:=hide (below_putM hBw (b:=w.heap.size+1) (by omega) (.int .i64 (j:Nat)) (.int .i64 (c:Nat)) (.slice b1 n d1))
   clear q1 hO hX hB XP hBw
   go_wp2_with fail
   exact bodyPost_ret (v:=.tuple #[.agg #[.int .i64 j,.int .i64 c,.slice b1 n d1],.int .i64 0]) (by simp [results,Tryz.results7,go_sem,z0,z1,z2]) rfl ⟨_,rfl,⟨b1,d1,by rw [fsL_len,← uH HL],uH HNew,uH QP⟩,uH BP⟩
end Go.Proofs.YtenpggicmfhhdaaGreatDoor
namespace Go.Proofs.YtenpggicmfhhdaaGreatDoor
open Go.RowKit
def Mr.pair (x:Mr):List Value:=[.slice x.ao x.V.length x.cap,.int .u64 (x.tau:Nat)]
def mtCells (R:List Mr):List Value:=R.flatMap Mr.pair
theorem mtCells_get:∀ (R:List Mr) (k:Nat),k < R.length→(mtCells R)[k * 2]? = some (.slice (mrAt R k).ao (mrAt R k).V.length (mrAt R k).cap)∧(mtCells R)[k * 2+1]? = some (.int .u64 ((mrAt R k).tau:Nat))
 | x :: R,0,_=>by simp [mtCells,mrAt,Mr.pair]
 | x :: R,k+1,h=>by
  have:=mtCells_get R k (by simpa using h)
  have e:mtCells (x :: R) = .slice x.ao x.V.length x.cap :: .int .u64 (x.tau:Nat) :: mtCells R:=rfl
  rw [e,show (k+1) * 2 = k * 2+1+1 by omega]
  simpa [mrAt] using this
def OwnMt (base:Nat) (w:World) (v:Value) (R:List Mr):Prop:=w.ownsRow base 77 2 v R.length (mtCells R)∧∀ x ∈ R,BitsAt w x.ao x.cap (mxL x.V)∧AvM v.ownBlock x
theorem OwnMt.start (w:World) (base:Nat):OwnMt base w (.slice none 0 0) []:=⟨⟨by rfl,.inl ⟨rfl,rfl⟩⟩,by simp⟩
theorem OwnMt.below {base:Nat} {w w':World} {v:Value} {R:List Mr} (h:OwnMt base w v R) (hb:Below w.heap.size w w'):OwnMt base w' v R :=
 ⟨ownsRow_grownM h.1 ⟨hb.os,hb.tape,hb.output,hb.size,fun k hk _=>hb.block k hk⟩ (fun k _=>by simp:∀ k,v.ownBlock = some k→some k ≠ none),fun x hx=>⟨((h.2 x hx).1).below hb,(h.2 x hx).2⟩⟩
theorem infoMt:(Tryz.prog.info? 77).map (fun i=>(i.zero,i.size,i.bytes)) = some (some (.agg #[.slice none 0 0,.int .u64 0]),2,32):=by kernel_rfl
theorem OwnMt.push {base:Nat} {w:World} {v:Value} {R:List Mr} (h:OwnMt base w v R) (x:Mr) (hx:BitsAt w x.ao x.cap (mxL x.V)) (ha:AvM v.ownBlock x) (hl:R.length≤1000000) (hb:base≤w.heap.size) (ty:TypeId) :
  ∃ v' w',(Builtin.append_ #[52,52] ty #[v,.slice (some ⟨w.heap.size,0,none⟩) 1 1]).run Tryz.prog (w.alloc (.cells #[.slice x.ao x.V.length x.cap,.int .u64 (x.tau:Nat)] 77)) = .ok v' w'∧OwnMt base w' v' (R ++ [x])∧Below base w w'∧(w.alloc (.cells #[.slice x.ao x.V.length x.cap,.int .u64 (x.tau:Nat)] 77)).grownBy w' v.ownBlock∧(v'.ownBlock = v.ownBlock ∨ v'.ownBlock = some (w.heap.size+1)):=by
 obtain ⟨i0,hi,hz0,hz1,hz2⟩:=info_parts infoMt
 have b1:=below_alloc9 w (.cells #[.slice x.ao x.V.length x.cap,.int .u64 (x.tau:Nat)] 77)
 have n1:=heap_alloc_new w (.cells #[.slice x.ao x.V.length x.cap,.int .u64 (x.tau:Nat)] 77)
 have s1:=size_alloc9 w (.cells #[.slice x.ao x.V.length x.cap,.int .u64 (x.tau:Nat)] 77)
 have h1:=h.below b1
 have hx1:=hx.below b1
 generalize w.alloc (.cells #[.slice x.ao x.V.length x.cap,.int .u64 (x.tau:Nat)] 77) = W at *
 obtain ⟨v',w',e1,e2,e3,e4,e5⟩:=run_append_own_at (P:=Tryz.prog) W base 52 ty 77 i0 (.agg #[.slice none 0 0,.int .u64 0]) 2 32 Tryz.underlying52 hi hz0 hz1 hz2 rfl (by decide) v R.length (mtCells R) h1.1 ⟨w.heap.size,0,none⟩ 1 1 x.pair rfl (fun j u hj=>by
   rw [show (⟨w.heap.size,0,none⟩:Addr).add j = ⟨w.heap.size,j,none⟩ from by unfold Addr.add;split <;> simp_all,cell_of_row _ w.heap.size j _ _ _ n1]
   simpa [Mr.pair] using hj) (fun u hu=>by
   simp [Mr.pair] at hu
   rcases hu with rfl | rfl <;> rfl) (by unfold maxLen;omega) (by omega) (by omega)
 ·refine ⟨v',w',e1,⟨?_,fun y hy=>?_⟩,(b1.mono hb).grown e3 (by omega) (fun g hg=>(h.1.lt g hg).1),e3,by rw [← s1];exact e5⟩
  ·rw [List.length_append,show mtCells (R ++ [x]) = mtCells R ++ x.pair by simp [mtCells]]
   exact e2
  ·have hy':BitsAt W y.ao y.cap (mxL y.V)∧AvM v.ownBlock y:=by
    rcases List.mem_append.1 hy with hy | hy
    ·exact h1.2 y hy
    ·simp at hy;subst hy;exact ⟨hx1,ha⟩
   refine ⟨bits_grownAv hy'.1 hy'.2 e3,?_⟩
   rcases e5 with e | e
   ·rw [e];exact hy'.2
   ·rw [e];exact AvM.new hy'.1 (Nat.le_refl _)
theorem OwnMt.putQ {base:Nat} {w:World} {v:Value} {R:List Mr} (h:OwnMt base w v R) {g:Nat} {x y:Int} {o:Option Addr} {n d:Nat} (hx:BoxM w g (.int .i64 x) (.int .i64 y) (.slice o n d)) (u u' u'':Value):OwnMt base (((w.setCell ⟨g,0,none⟩ u).setCell ⟨g,1,none⟩ u').setCell ⟨g,2,none⟩ u'') v R:=by
 refine ⟨⟨h.1.1,?_⟩,fun z hz=>⟨(h.2 z hz).1.putM hx u u' u'',(h.2 z hz).2⟩⟩
 rcases h.1.2 with e | ⟨k,cap,cur,hv,hk,hh,rest⟩
 ·exact .inl e
 ·have hne:k ≠ g:=by
   rintro rfl
   have e:=hh.symm.trans hx
   simp at e
  exact .inr ⟨k,cap,cur,hv,hk,(Below.heap_setCell _ ⟨g,2,none⟩ u'' k hne).trans ((Below.heap_setCell _ ⟨g,1,none⟩ u' k hne).trans ((Below.heap_setCell _ ⟨g,0,none⟩ u k hne).trans hh)),rest⟩
theorem OwnMt.grown {base:Nat} {w w':World} {v:Value} {R:List Mr} (h:OwnMt base w v R) {g:Nat} (hv:v.ownBlock ≠ some g) (ha:∀ x ∈ R,AvM (some g) x) (hg:w.grownBy w' (some g)):OwnMt base w' v R :=
 ⟨ownsRow_grownM h.1 hg (fun k hk e=>hv (by rw [hk,e])),fun x hx=>⟨bits_grownAv (h.2 x hx).1 (ha x hx) hg,(h.2 x hx).2⟩⟩
theorem OwnMt.away {base:Nat} {w:World} {v:Value} {R:List Mr} (h:OwnMt base w v R) {g:Nat} (hg:w.heap.size≤g):v.ownBlock ≠ some g∧∀ x ∈ R,AvM (some g) x :=
 ⟨fun e=>by have:=(h.1.lt g e).2;omega,fun x hx=>AvM.new (h.2 x hx).1 hg⟩
theorem OwnMt.slice {base:Nat} {w:World} {v:Value} {R:List Mr} (h:OwnMt base w v R):∃ lo lc,v = .slice lo R.length lc:=by
 rcases h.1.2 with ⟨e1,e2⟩ | ⟨g,cap,cur,hv,_⟩
 ·exact ⟨none,0,by rw [e1,e2]⟩
 ·exact ⟨_,_,hv⟩
theorem OwnMt.least {base b':Nat} {w:World} {v:Value} {R:List Mr} (h:OwnMt base w v R) (hb:b'≤base):OwnMt b' w v R:=by
 refine ⟨⟨h.1.1,?_⟩,h.2⟩
 rcases h.1.2 with e | ⟨k,cap,cur,hv,hk,rest⟩
 ·exact .inl e
 ·exact .inr ⟨k,cap,cur,hv,Nat.le_trans hb hk,rest⟩
theorem OwnMt.at {base:Nat} {w:World} {v:Value} {R:List Mr} (h:OwnMt base w v R) {k:Nat} (hk:k < R.length):∃ g cap,v = .slice (some ⟨g,0,none⟩) R.length cap∧base≤g∧g < w.heap.size∧w.cell? ⟨g,k * 2,none⟩ = some (.slice (mrAt R k).ao (mrAt R k).V.length (mrAt R k).cap)∧w.cell? ⟨g,k * 2+1,none⟩ = some (.int .u64 ((mrAt R k).tau:Nat))∧BitsAt w (mrAt R k).ao (mrAt R k).cap (mxL (mrAt R k).V):=by
 rcases h.1.2 with ⟨hv,h0⟩ | ⟨g,cap,cur,hv,hg,hh,hc,hm,hs,ht⟩
 ·omega
 ·obtain ⟨q1,q2⟩:=mtCells_get R k hk
  rw [← ht,List.getElem?_take] at q1 q2
  rw [if_pos (by omega)] at q1 q2
  simp only [Array.getElem?_toList] at q1 q2
  refine ⟨g,cap,hv,hg,(Array.getElem?_eq_some_iff.1 hh).1,?_,?_,(h.2 (mrAt R k) ?_).1⟩
  ·rw [cell_of_row w g _ _ _ _ hh];exact q1
  ·rw [cell_of_row w g _ _ _ _ hh];exact q2
  ·unfold mrAt
   rw [List.getElem?_eq_getElem hk]
   exact List.getElem_mem hk
end Go.Proofs.YtenpggicmfhhdaaGreatDoor
namespace Go.Proofs.YtenpggicmfhhdaaGreatDoor
open Go.RowKit
attribute [local go_sem ↓] Go.wp_at_zero Go.wp_at_succ
theorem grown_trans14 {a w w':World} {o:Option Nat} (h:a.grownBy w o) (k:w.grownBy w' o):a.grownBy w' o :=
 ⟨k.os.trans h.os,k.tape.trans h.tape,k.output.trans h.output,Nat.le_trans h.size k.size,fun i hi hr=>(k.block i (Nat.lt_of_lt_of_le hi h.size) hr).trans (h.block i hi hr)⟩
theorem grown_below14 {w w':World} (h:Below w.heap.size w w') (o:Option Nat):w.grownBy w' o:=⟨h.os,h.tape,h.output,h.size,fun k hk _=>h.block k hk⟩
theorem grown_set14 (w:World) (g j:Nat) (v:Value):w.grownBy (w.setCell ⟨g,j,none⟩ v) (some g):=by
 have h:=(Below.refl w.heap.size w)
 refine ⟨rfl,rfl,rfl,?_,fun k _ hr=>Below.heap_setCell w ⟨g,j,none⟩ v k (fun e=>hr (by rw [e]))⟩
 simp [World.setCell]
structure SeSt (w wr:World) (g r c n:Nat) (S:List Nat):Prop where
 bel:w.grownBy wr (some g)
 a:BoxM wr w.heap.size (.int .i64 r) (.int .i64 c) (.slice (some ⟨g,0,none⟩) n n)
 row:RowB wr g S
theorem SeSt.start {w:World} {g n:Nat} {S:List Nat} (h:RowB w g S) (r c:Nat):SeSt w (w.alloc (.cells #[.int .i64 r,.int .i64 c,.slice (some ⟨g,0,none⟩) n n] 24)) g r c n S:=by
 have b:=below_alloc9 w (.cells #[.int .i64 r,.int .i64 c,.slice (some ⟨g,0,none⟩) n n] 24)
 exact ⟨grown_below14 b _,BoxM.new w _ _ _,h.below b h.lt⟩
theorem SeSt.set {w wr:World} {g r c n:Nat} {S:List Nat} (h:SeSt w wr g r c n S) (hg:g < w.heap.size) (p x:Nat):SeSt w (wr.setCell ⟨g,p,none⟩ (.int .u64 (x:Int))) g r c n (S.set p x) :=
 ⟨grown_trans14 h.bel (grown_set14 wr g p _),h.a.other (p:=⟨g,p,none⟩) (by show w.heap.size ≠ g;omega) _,h.row.set p x⟩
theorem settle_of (r c n j beta g p0:Nat) (S:List Nat) (T:Nat→List Nat) (P:Nat→Nat) (w:World) (h36:n≤36) (hr:r≤6) (hj:j < r) (h:RowB w g S) (lS:S.length = n) (lT:∀ i,(T i).length = n)
  (h0:j * c+j = p0∧p0 < n∧S.set p0 beta = T (j+1)) (hP:∀ i,j < i→i < r→i * c+j = P i∧P i < n∧(T i).set (P i) 0 = T (i+1)) :
  Calls Tryz.prog 53 #[.agg #[.int .i64 r,.int .i64 c,.slice (some ⟨g,0,none⟩) n n],.int .i64 j,.int .u64 beta] w fun e w'=>e = .returned (.tuple #[])∧RowB w' g (T r)∧w.grownBy w' (some g):=by
 have HG:=hide h.lt
 have ST:=hide (SeSt.start (n:=n) h r c)
 obtain ⟨q0,hq0⟩:∃ q,j * c = q:=⟨_,rfl⟩
 obtain ⟨e0,l0,s0⟩:=h0
 rw [hq0] at e0
 have HP:=hide hP;have LT:=hide lT
 have e1:IntKind.i64.wrap ((j:Int) * (c:Int)) = (q0:Int):=by
  rw [cast_mul10 j c,hq0]
  exact wrap_in _ (by omega)
 have e2:IntKind.i64.wrap ((q0:Int)+(j:Int)) = (p0:Int):=(wrap_in _ (by omega)).trans (by omega)
 have e3:(j:Int) * (c:Int) = (q0:Int):=by rw [cast_mul10 j c,hq0]
 have e4:(q0:Int)+(j:Int) = (p0:Int):=by omega
 have w1:IntKind.i64.wrap (q0:Int) = (q0:Int):=wrap_in _ (by omega)
 have w2:IntKind.i64.wrap (p0:Int) = (p0:Int):=wrap_in _ (by omega)
 obtain ⟨j1,hj1⟩:∃ j1,j+1 = j1:=⟨_,rfl⟩
 have e5:IntKind.i64.wrap ((j:Int)+1) = (j1:Int):=(wrap_in _ (by omega)).trans (by omega)
 have e6:(j:Int)+1 = (j1:Int):=by omega
 have hpI:(p0:Int) < (n:Int):=by omega
 have y0:=(uH ST).a.c0;have y1:=(uH ST).a.c1;have y2:=(uH ST).a.c2
 have d1:=(uH ST).row.cell p0 (by rw [lS];exact l0)
 have f1:=(uH ST).row.free p0
 have S1:=hide ((uH ST).set (uH HG) p0 beta)
 rw [s0,hj1] at S1
 have HJ1:=hide hj1
 clear hP lT h lS s0 hq0 l0 ST hj1
 go_enter Tryz.func53,Tryz.ntmps53
 go_wp2_with fail
 clear y0 y1 y2 d1 f1 e1 e2 e3 e4 e5 e6 w1 w2 hpI
 go_loopw [6] (fun a wr=>∃ i:Nat,j < i∧i≤r∧a = .int .i64 i∧Hid (SeSt w wr g r c n (T i))) (fun a _=>r - (intOf a).toNat)
 case atStart=>exact ⟨j1,by have:=uH HJ1;omega,by have:=uH HJ1;omega,by first | rfl | go_num,S1⟩
 case round =>
  clear S1
  obtain ⟨i,hji,hir,rfl,hS⟩:=hrel
  have y0:=(uH hS).a.c0
  by_cases hlt:i < r
  ·have hiI:(i:Int) < (r:Int):=by omega
   obtain ⟨e0,l0,s0⟩:=uH HP i hji hlt
   have y1:=(uH hS).a.c1;have y2:=(uH hS).a.c2
   obtain ⟨q,hq⟩:∃ q,i * c = q:=⟨_,rfl⟩
   rw [hq] at e0
   have e1:IntKind.i64.wrap ((i:Int) * (c:Int)) = (q:Int):=by
    rw [cast_mul10 i c,hq]
    exact wrap_in _ (by omega)
   have e2:IntKind.i64.wrap ((q:Int)+(j:Int)) = (P i:Int):=(wrap_in _ (by omega)).trans (by omega)
   have e3:(i:Int) * (c:Int) = (q:Int):=by rw [cast_mul10 i c,hq]
   have e4:(q:Int)+(j:Int) = (P i:Int):=by omega
   have w1:IntKind.i64.wrap (q:Int) = (q:Int):=wrap_in _ (by omega)
   have w2:IntKind.i64.wrap (P i:Int) = (P i:Int):=wrap_in _ (by omega)
   have hpI:(P i:Int) < (n:Int):=by omega
   have d1:=(uH hS).row.cell (P i) (by rw [uH LT];exact l0)
   have f1:=(uH hS).row.free (P i)
   have S2:=hide ((uH hS).set (uH HG) (P i) 0)
   rw [s0] at S2
   generalize P i = p at *
   clear hS s0 hq l0
   go_wp2_with fail
   go_round
   case rel=>exact ⟨i+1,by omega,by omega,by go_num,S2⟩
   case measure=>simp [intOf];omega
  ·have hii:i = r:=by omega
   subst hii
   go_wp2
   first | go_end0 | refine bodyPost_ret (results_none rfl _ _ _) rfl ?_
   exact ⟨rfl,(uH hS).row,(uH hS).bel⟩
theorem settle_any (r c j beta g:Nat) (S:List Nat) (w:World) (hr:r≤6) (hc:c≤6) (hj:j < r) (hjc:j < c) (lS:S.length = r * c) (h:RowB w g S) :
  Calls Tryz.prog 53 #[.agg #[.int .i64 r,.int .i64 c,.slice (some ⟨g,0,none⟩) S.length S.length],.int .i64 j,.int .u64 beta] w fun e w'=>e = .returned (.tuple #[])∧RowB w' g (clM r c S j beta)∧w.grownBy w' (some g):=by
 have h36:S.length≤36:=by
  rw [lS]
  exact Nat.mul_le_mul hr hc
 refine settle_of r c S.length j beta g (j * c+j) S (clJ r c S j beta) (fun i=>i * c+j) w h36 hr hj h rfl (fun i=>by rw [clJ_len,lS]) ⟨rfl,by rw [lS];exact place_lt hj hjc,clJ_first r c S beta lS hj hjc⟩ (fun i hji hir=>⟨rfl,by rw [lS];exact place_lt hir hjc,clJ_set r c S beta hji hir hjc⟩)
end Go.Proofs.YtenpggicmfhhdaaGreatDoor
namespace Go.Proofs.YtenpggicmfhhdaaGreatDoor
open Go.RowKit
attribute [local go_sem ↓] Go.wp_at_zero Go.wp_at_succ
theorem psub_any (a b:Nat) (w:World) (ha:a < 18446744073709551616) (hb:b < 18446744073709551616) (hT:Tab w) :
  Calls Tryz.prog 74 #[.int .u64 a,.int .u64 b] w fun r w'=>r = .returned (.int .u64 (aV a (fN b):Nat))∧Below w.heap.size w w':=by
 have K:=hide (ssub_any a b w ha hb hT)
 clear ha hb hT
 generalize aV a (fN b) = o at *
 generalize aF a (fN b) = f at *
 go_enter Tryz.func74,Tryz.ntmps74
 go_wp2_with fail
 refine Calls.mono (uH K) ?_
 rintro e w1 ⟨rfl,hb1⟩
 clear K
 go_wp2
 go_ret
 exact ⟨rfl,hb1⟩
theorem pdiv_any (a b:Nat) (w:World) (ha:a < 18446744073709551616) (hb:b < 18446744073709551616) (hT:Tab w) :
  Calls Tryz.prog 76 #[.int .u64 a,.int .u64 b] w fun r w'=>r = .returned (.int .u64 (dV a b:Nat))∧Below w.heap.size w w':=by
 have K:=hide (tdiv_any a b w ha hb hT)
 clear ha hb hT
 generalize dV a b = o at *
 generalize dF a b = f at *
 go_enter Tryz.func76,Tryz.ntmps76
 go_wp2_with fail
 refine Calls.mono (uH K) ?_
 rintro e w1 ⟨rfl,hb1⟩
 clear K
 go_wp2
 go_ret
 exact ⟨rfl,hb1⟩
end Go.Proofs.YtenpggicmfhhdaaGreatDoor
namespace Go.Proofs.YtenpggicmfhhdaaGreatDoor
open Go.RowKit
attribute [local go_sem ↓] Go.wp_at_zero Go.wp_at_succ
theorem RowB.three {w:World} {b g:Nat} {S:List Nat} (h:RowB w b S) (hg:b ≠ g) (u u' u'':Value):RowB (((w.setCell ⟨g,0,none⟩ u).setCell ⟨g,1,none⟩ u').setCell ⟨g,2,none⟩ u'') b S:=by
 unfold RowB
 rw [Below.heap_setCell _ ⟨g,2,none⟩ u'' b hg,Below.heap_setCell _ ⟨g,1,none⟩ u' b hg,Below.heap_setCell _ ⟨g,0,none⟩ u b hg]
 exact h
theorem copy_run (W:World) (g n cap:Nat) (ao:Option Addr) (S:List Nat) (h:RowB W g (List.replicate n 0)) (hS:BitsAt W ao cap (mxL S)) (hl:S.length = n) :
  ∃ w',(∀ ty,(Builtin.copy_ #[22,22] ty #[.slice (some ⟨g,0,none⟩) n n,.slice ao n cap]).run Tryz.prog W = .ok (.int .i64 (n:Int)) w')∧RowB w' g S∧Below g W w':=by
 rcases Nat.eq_zero_or_pos n with e | e
 ·subst e
  obtain rfl:S = []:=List.eq_nil_of_length_eq_zero hl
  exact ⟨W,fun ty=>run_copy_none W _ _ ty 30 _ _ 0 0 0 cap Tryz.underlying22 (by kernel_rfl) rfl,h,Below.refl _ _⟩
 ·obtain ⟨b,off,rfl,hb,hc⟩:=hS.ne (by rw [mxL_len];omega)
  have hcs:∀ j v,(S.map bitV)[j]? = some v→W.cell? ((⟨b,off,none⟩:Addr).add j) = some v:=by
   intro j v hv
   rw [List.getElem?_map] at hv
   obtain ⟨x,hx,rfl⟩:=Option.map_eq_some_iff.1 hv
   have hj:j < S.length:=(List.getElem?_eq_some_iff.1 hx).1
   have:=hc j (by rw [mxL_len];exact hj)
   rw [mxL_at] at this
   rw [show (⟨b,off,none⟩:Addr).add j = ⟨b,off+j,none⟩ from by simp [Addr.add],this]
   rw [List.getD_eq_getElem?_getD,hx]
   rfl
  have hlen:(S.map bitV).length = n:=by rw [List.length_map,hl]
  have run:=fun ty=>run_copy_row Tryz.prog W 22 22 ty 30 g 0 n n ⟨b,off,none⟩ n cap ((List.replicate n 0).map bitV).toArray 30 (S.map bitV) Tryz.underlying22 (by kernel_rfl) h (by rw [hlen];exact (Nat.min_self n).symm) hcs (by rw [hlen];simp) (fun v hv=>by obtain ⟨x,_,rfl⟩:=List.mem_map.1 hv;rfl)
  refine ⟨_,fun ty=>(run ty).trans (by rw [hlen];rfl),?_,below_setRow (Below.refl _ _) (Nat.le_refl _) _⟩
  unfold RowB
  rw [setRow_heap W g _ _ 30 _ h]
  congr 3
  simp
end Go.Proofs.YtenpggicmfhhdaaGreatDoor
