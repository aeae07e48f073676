/- Part 22 of the texts. -/
import Derived.Test.YtnnfjeieennffaaGreatDoorParte21
import Derived.Test.YtnnfjeieennffaaGreatDoorParte20
import Derived.Deep.RegionHeld3
import Derived.Test.YtnnfjeieennffaaGreatDoorParte16
import Derived.Test.YtnnfjeieennffaaGreatDoorParte10
import Derived.Test.YtnnfjeieennffaaGreatDoorParte07
import Derived.Test.YtnnfjeieennffaaGreatDoorParte17
import Derived.Test.YtnnfjeieennffaaGreatDoorParte18
import Derived.Deep.Cut
import Derived.BigQuiet
import Derived.Test.YtnnfjeieennffaaGreatDoorParte19
import Derived.Test.YtnnfjeieennffaaGreatDoorParte13
import Derived.Test.YtnnfjeieennffaaGreatDoorParte12
import Derived.Test.YtnnfjeieennffaaGreatDoorParte09
import Derived.Laws.BitsAllLaws
set_option maxHeartbeats 8000000
set_option maxRecDepth 20000
namespace Go.Proofs.YtnnfjeieennffaaGreatDoor
open Go.RowKit
theorem sizeOf_ways (b:Nat) (z1 X1 z2 ln tp:Int) (w:World) (hln:1≤ln∧ln≤53)
  (C1:∀ w',Below w.heap.size w w'→Calls Tryz.prog 156 #[.int .u64 b] w' fun r w''=>DyR w'' r 0 z1 X1∧Below w'.heap.size w' w'')
  (C2:∀ w' n a l c,IsDy w' (.agg #[.bool n,.slice a l c,.int .i64 X1]) z1 X1→Calls Tryz.prog 189 #[.agg #[.bool false,.slice a l c]] w' fun r w''=>r = .returned (.int .i64 ln)∧Below w'.heap.size w' w'')
  (C3:∀ w' n a l c,IsDy w' (.agg #[.bool n,.slice a l c,.int .i64 X1]) z1 X1→Calls Tryz.prog 198 #[.agg #[.bool false,.slice a l c],.int .i64 (53 - ln)] w' fun r w''=>∃ v,r = .returned (.tuple #[v,.int .i64 0])∧IsNum w'.heap.size w'' v z2∧Below w'.heap.size w' w'')
  (C4:∀ B w' v,IsNum B w' v z2→Calls Tryz.prog 211 #[v] w' fun r w''=>r = .returned (.tuple #[.int .i64 z2,.int .i64 0])∧Below w'.heap.size w' w'')
  (C5:∀ w' n a l c,IsDy w' (.agg #[.bool n,.slice a l c,.int .i64 X1]) z1 X1→Calls Tryz.prog 171 #[.agg #[.bool false,.slice a l c,.int .i64 X1]] w' fun r w''=>r = .returned (.int .i64 tp)∧Below w'.heap.size w' w'') :
  Calls Tryz.prog 204 #[.int .u64 b] w fun r w'=>r = .returned (.tuple #[.int .i64 z2,.int .i64 tp])∧Below w.heap.size w w':=by
 have K1:=hide C1;have K2:=hide C2;have K3:=hide C3;have K4:=hide C4;have K5:=hide C5
 clear C1 C2 C3 C4 C5
 go_enter Tryz.func204,Tryz.ntmps204
 go_wp2_with fail
 refine (uH K1 _ (Below.refl _ _)).mono ?_
 rintro e w1 ⟨⟨v,rfl,hv⟩,hb1⟩
 obtain ⟨n1,a1,c1,L1,rfl,i1⟩:=hv
 have x:=Box3.new w1 (.bool n1) (.slice a1 L1.length c1) (.int .i64 X1)
 have y0:=x.c0;have y1:=x.c1;have y2:=x.c2;have f0:=x.free 0;have f1:=x.free 1;have f2:=x.free 2
 clear x
 generalize hl:L1.length = l1 at *
 have hd:IsDy w1 (.agg #[.bool n1,.slice a1 l1 c1,.int .i64 X1]) z1 X1:=⟨n1,a1,c1,L1,by rw [hl],by rw [hl];exact i1⟩
 clear i1 hl K1
 go_wp2_with fail
 clear y0 y1 y2 f0 f1 f2
 have hb1a:Below w1.heap.size w1 (w1.alloc (.cells #[.bool false,.slice a1 l1 c1,.int .i64 X1] 52)):=(Below.refl _ _).alloc (Nat.le_refl _) _
 have x:=Box3.new w1 (.bool false) (.slice a1 l1 c1) (.int .i64 X1)
 have HV:=hide (hd.below hb1a)
 have B1:=hide (hb1.trans (hb1a.mono hb1.size))
 clear hd hb1 hb1a
 refine at_world (fun W=>W = (w1.alloc (.cells #[.bool false,.slice a1 l1 c1,.int .i64 X1] 52))) rfl ?_
 rintro W0 e0
 rw [← e0] at x HV B1
 clear e0
 generalize w1.heap.size = g at *
 have hK:∀ w',Below W0.heap.size W0 w'→Below W0.heap.size W0 w'∧w'.cell? ⟨g,0,none⟩ = some (.bool false)∧w'.cell? ⟨g,1,none⟩ = some (.slice a1 l1 c1):=fun w' h =>
  ⟨h,(x.all h).c0,(x.all h).c1⟩
 have HK:=hide hK
 have XB:=hide x
 clear hK x
 refine wp_region_held_drew (S:=(fun w'=>Below W0.heap.size W0 w'∧w'.cell? ⟨g,0,none⟩ = some (.bool false)∧w'.cell? ⟨g,1,none⟩ = some (.slice a1 l1 c1))) (by kernel_rfl) ?_ (fun hHeld=>?_)
 ·exact uH HK _ (Below.refl _ _).drew
 refine wpAnyH_take (i:=0) (oi:={ dst:=some 16,op:=Op.fieldAddr 52 (Operand.tmp 4) 0,type:=0,pos := "quotient.go:30",after:=#[],guard:=none }) (v:=Value.pointer (some ⟨g,0,none⟩)) rfl (by kernel_rfl) (by kernel_rfl) (by kernel_rfl) (fun _ _ _ h=>h) (Or.inl ⟨by rfl,?_⟩) (by assumption) ?_
 ·(intro w hSw;(try dsimp only at hSw);go_simp)
 simp only [Act.put,List.setIfInBounds_toArray,List.set_cons_zero,List.set_cons_succ]
 refine wpAnyH_take (i:=1) (oi:={ dst:=some 17,op:=Op.load 50 (Operand.tmp 16),type:=50,pos := "quotient.go:30",after:=#[{ on:=0,ground:=Ground.data }],guard:=none }) (v:=(Value.agg #[.bool false,.slice a1 l1 c1])) rfl (by kernel_rfl) (by kernel_rfl) (by kernel_rfl) (fun _ _ _ h=>h) (Or.inl ⟨by rfl,?_⟩) (by assumption) ?_
 ·(intro w hSw;(try dsimp only at hSw);go_simp)
 simp only [Act.put,List.setIfInBounds_toArray,List.set_cons_zero,List.set_cons_succ]
 refine wpAnyH_take (i:=2) (oi:={ dst:=some 18,op:=Op.fieldAddr 52 (Operand.tmp 4) 0,type:=0,pos := "quotient.go:30",after:=#[],guard:=none }) (v:=Value.pointer (some ⟨g,0,none⟩)) rfl (by kernel_rfl) (by kernel_rfl) (by kernel_rfl) (fun _ _ _ h=>h) (Or.inl ⟨by rfl,?_⟩) (by assumption) ?_
 ·(intro w hSw;(try dsimp only at hSw);go_simp)
 simp only [Act.put,List.setIfInBounds_toArray,List.set_cons_zero,List.set_cons_succ]
 refine wpAnyH_take (i:=3) (oi:={ dst:=some 19,op:=Op.load 50 (Operand.tmp 18),type:=50,pos := "quotient.go:30",after:=#[{ on:=2,ground:=Ground.data }],guard:=none }) (v:=(Value.agg #[.bool false,.slice a1 l1 c1])) rfl (by kernel_rfl) (by kernel_rfl) (by kernel_rfl) (fun _ _ _ h=>h) (Or.inl ⟨by rfl,?_⟩) (by assumption) ?_
 ·(intro w hSw;(try dsimp only at hSw);go_simp)
 simp only [Act.put,List.setIfInBounds_toArray,List.set_cons_zero,List.set_cons_succ]
 refine wpAnyH_ready (rs:=[4,10]) (by kernel_rfl) (by simp) ?_
 refine AllReadyH.cons (o:={ dst:=some 20,op:=Op.call { callee:=Callee.value (Operand.func 189),args:=#[Operand.tmp 19],argTypes:=#[50] },type:=3,pos := "quotient.go:30",after:=#[{ on:=3,ground:=Ground.data }],guard:=none }) rfl (fun K hK=>?_) (AllReadyH.cons (o:={ dst:=some 6,op:=Op.alloc 50,type:=0,pos := "quotient.go:30",after:=#[],guard:=none }) rfl (fun K hK=>?_) AllReadyH.nil)
 ·go_simp
  refine (uH K2 _ _ _ _ _ ((uH HV).below (And.left (by assumption)))).mono ?_
  rintro e wn ⟨rfl,hb1⟩
  have hBn:Below W0.heap.size W0 wn:=Below.trans (And.left (by assumption)) (hb1.mono (Below.size (And.left (by assumption))))
  clear hb1
  go_wp2_with fail
  refine hK.out _ _ ?_ (fun hHeld=>?_)
  ·exact uH HK _ hBn
  clear hK K
  refine wpAnyH_take (i:=5) (oi:={ dst:=some 21,op:=Op.binOp BinOp.sub 3 (Operand.const (Value.int IntKind.i64 53)) (Operand.tmp 20) 3,type:=3,pos := "quotient.go:30",after:=#[{ on:=4,ground:=Ground.data }],guard:=none }) (v:=(.int .i64 (53 - ln))) rfl (by kernel_rfl) (by kernel_rfl) (by kernel_rfl) (fun _ _ _ h=>h) (Or.inl ⟨by rfl,?_⟩) (by assumption) ?_
  ·(intro w hSw;(try dsimp only at hSw);go_simp;exact wrap_small _ (by omega))
  simp only [Act.put,List.setIfInBounds_toArray,List.set_cons_zero,List.set_cons_succ]
  refine wpAnyH_ready (rs:=[6,10]) (by kernel_rfl) (by simp) ?_
  refine AllReadyH.cons (o:={ dst:=some 22,op:=Op.call { callee:=Callee.value (Operand.func 198),args:=#[Operand.tmp 17,Operand.tmp 21],argTypes:=#[50,3] },type:=187,pos := "quotient.go:30",after:=#[{ on:=1,ground:=Ground.data },{ on:=5,ground:=Ground.data },{ on:=4,ground:=Ground.chain }],guard:=none }) rfl (fun K hK=>?_) (AllReadyH.cons (o:={ dst:=some 6,op:=Op.alloc 50,type:=0,pos := "quotient.go:30",after:=#[],guard:=none }) rfl (fun K hK=>?_) AllReadyH.nil)
  ·go_simp
   refine (uH K3 _ _ _ _ _ ((uH HV).below (And.left (by assumption)))).mono ?_
   rintro e wm ⟨v,rfl,⟨n2,a2,c2,L2,rfl,i2⟩,hb1⟩
   have hBm:Below W0.heap.size W0 wm:=Below.trans (And.left (by assumption)) (hb1.mono (Below.size (And.left (by assumption))))
   have I2:=hide (show IsNum 0 wm (.agg #[.bool n2,.slice a2 L2.length c2]) z2 from IsNum.mono ⟨n2,a2,c2,L2,rfl,i2⟩ (Nat.zero_le _))
   clear i2
   generalize L2.length = l2 at *
   clear hb1
   go_wp2_with fail
   refine hK.out _ _ ?_ (fun hHeld=>?_)
   ·exact uH HK _ hBm
   clear hK K
   refine wpAnyH_take (i:=7) (oi:={ dst:=some 15,op:=Op.move (Operand.tmp 22),type:=187,pos := "quotient.go:30",after:=#[{ on:=6,ground:=Ground.data }],guard:=none }) (v:=(Value.tuple #[.agg #[.bool n2,.slice a2 l2 c2],.int .i64 0])) rfl (by kernel_rfl) (by kernel_rfl) (by kernel_rfl) (fun _ _ _ h=>h) (Or.inl ⟨by rfl,?_⟩) (by assumption) ?_
   ·(intro w hSw;(try dsimp only at hSw);go_simp)
   simp only [Act.put,List.setIfInBounds_toArray,List.set_cons_zero,List.set_cons_succ]
   refine wpAnyH_take (i:=8) (oi:={ dst:=some 23,op:=Op.extract (Operand.tmp 15) 0,type:=50,pos := "quotient.go:30",after:=#[{ on:=7,ground:=Ground.data }],guard:=none }) (v:=(Value.agg #[.bool n2,.slice a2 l2 c2])) rfl (by kernel_rfl) (by kernel_rfl) (by kernel_rfl) (fun _ _ _ h=>h) (Or.inl ⟨by rfl,?_⟩) (by assumption) ?_
   ·(intro w hSw;(try dsimp only at hSw);go_simp)
   simp only [Act.put,List.setIfInBounds_toArray,List.set_cons_zero,List.set_cons_succ]
   refine wpAnyH_take (i:=9) (oi:={ dst:=some 24,op:=Op.extract (Operand.tmp 15) 1,type:=27,pos := "quotient.go:30",after:=#[{ on:=7,ground:=Ground.data },{ on:=11,ground:=Ground.gcOnly Departure.lateStores }],guard:=none }) (v:=(.int .i64 0)) rfl (by kernel_rfl) (by kernel_rfl) (by kernel_rfl) (fun _ _ _ h=>h) (Or.inl ⟨by rfl,?_⟩) (by assumption) ?_
   ·(intro w hSw;(try dsimp only at hSw);go_simp)
   simp only [Act.put,List.setIfInBounds_toArray,List.set_cons_zero,List.set_cons_succ]
   refine wpAnyH_ready (rs:=[10]) (by kernel_rfl) (by simp) ?_
   refine AllReadyH.cons (o:={ dst:=some 6,op:=Op.alloc 50,type:=0,pos := "quotient.go:30",after:=#[],guard:=none }) rfl (fun K hK=>?_) AllReadyH.nil
   go_wp2_with fail
   refine hK.out _ _ ?_ (fun hHeld=>?_)
   ·exact uH HK _ (Below.alloc (And.left (by assumption)) (Below.size (And.left (by assumption))) _)
   clear hK K
   have bx:=Box2.new wm (.bool false) (.slice none 0 0)
   have gB:W0.heap.size≤wm.heap.size:=Below.size (B:=W0.heap.size) (w:=W0) hBm
   have I0:=I2
   have I2:=hide (show IsNum 0 (wm.alloc (.cells #[.bool false,.slice none 0 0] 50)) (.agg #[.bool n2,.slice a2 l2 c2]) z2 from (uH I2).below ((Below.refl _ _).alloc (Nat.le_refl _) _))
   have hW:=Below.alloc hBm gB (.cells #[.bool false,.slice none 0 0] 50)
   have IS:=hide (show IsNum 0 ((((wm.alloc (.cells #[.bool false,.slice none 0 0] 50)).setCell ⟨wm.heap.size,0,none⟩ (.bool n2)).setCell ⟨wm.heap.size,1,none⟩ (.slice a2 l2 c2))) (.agg #[.bool n2,.slice a2 l2 c2]) z2 from (uH I0).below ((((Below.refl _ _).alloc (Nat.le_refl _) _).setCell (Nat.le_refl _) _).setCell (Nat.le_refl _) _))
   generalize hwa:(wm.alloc (.cells #[.bool false,.slice none 0 0] 50)) = wa at *
   generalize wm.heap.size = gm at *
   refine wpAnyH_ready (rs:=[11]) (by kernel_rfl) (by simp) ?_
   refine AllReadyH.cons (o:={ dst:=none,op:=Op.store 50 (Operand.tmp 6) (Operand.tmp 23),type:=0,pos := "quotient.go:30",after:=#[{ on:=10,ground:=Ground.data },{ on:=8,ground:=Ground.data },{ on:=6,ground:=Ground.chain },{ on:=0,ground:=Ground.phase },{ on:=1,ground:=Ground.phase },{ on:=2,ground:=Ground.phase },{ on:=3,ground:=Ground.phase },{ on:=4,ground:=Ground.phase },{ on:=5,ground:=Ground.phase },{ on:=6,ground:=Ground.phase },{ on:=7,ground:=Ground.phase },{ on:=8,ground:=Ground.phase },{ on:=9,ground:=Ground.textOnly Departure.lateStores },{ on:=10,ground:=Ground.phase }],guard:=none }) rfl (fun K hK=>?_) AllReadyH.nil
   have q0:=bx.c0;have q1:=bx.c1;have f0:=bx.free 0;have f1:=bx.free 1
   go_wp2_with fail
   refine hK.out _ _ ?_ (fun hHeld=>?_)
   ·exact uH HK _ (Below.setCell (Below.setCell (And.left (by assumption)) gB _) gB _)
   clear hK K q0 q1 f0 f1
   refine wpAnyH_take (i:=12) (oi:={ dst:=some 7,op:=Op.assign (Operand.tmp 24),type:=27,pos := "quotient.go:30",after:=#[{ on:=9,ground:=Ground.data },{ on:=11,ground:=Ground.chain },{ on:=0,ground:=Ground.phase },{ on:=1,ground:=Ground.phase },{ on:=2,ground:=Ground.phase },{ on:=3,ground:=Ground.phase },{ on:=4,ground:=Ground.phase },{ on:=5,ground:=Ground.phase },{ on:=6,ground:=Ground.phase },{ on:=7,ground:=Ground.phase },{ on:=8,ground:=Ground.phase },{ on:=9,ground:=Ground.phase },{ on:=10,ground:=Ground.phase },{ on:=11,ground:=Ground.phase }],guard:=none }) (v:=(.int .i64 0)) rfl (by kernel_rfl) (by kernel_rfl) (by kernel_rfl) (fun _ _ _ h=>h) (Or.inl ⟨by rfl,?_⟩) (by assumption) ?_
   ·(intro w hSw;(try dsimp only at hSw);go_simp)
   simp only [Act.put,List.setIfInBounds_toArray,List.set_cons_zero,List.set_cons_succ]
   refine wpAnyH_done (by kernel_rfl) ?_ _
   have bz:=bx.put (.bool n2) (.slice a2 l2 c2)
   have HZ:=hide (show IsNum 0 ((wa.setCell ⟨gm,0,none⟩ (.bool n2)).setCell ⟨gm,1,none⟩ (.slice a2 l2 c2)) (.agg #[.bool n2,.slice a2 l2 c2]) z2 from uH IS)
   have BZ:=hide (show Below W0.heap.size W0 ((wa.setCell ⟨gm,0,none⟩ (.bool n2)).setCell ⟨gm,1,none⟩ (.slice a2 l2 c2)) from Below.setCell (Below.setCell hW gB _) gB _)
   have r0:=bz.c0;have r1:=bz.c1
   clear bx I2 hHeld
   generalize ((wa.setCell ⟨gm,0,none⟩ (.bool n2)).setCell ⟨gm,1,none⟩ (.slice a2 l2 c2)) = WE at *
   go_wp2_with fail
   refine (uH K4 _ _ _ (uH HZ)).mono ?_
   rintro e we ⟨rfl,hb1⟩
   have BE:=hide ((uH BZ).trans (hb1.mono (uH BZ).size))
   have HW:=hide ((uH HV).below (uH BE))
   have xe:=(uH XB).all (uH BE)
   have y0:=xe.c0;have y1:=xe.c1;have y2:=xe.c2
   clear r0 r1 bz hb1 BZ HZ xe
   go_wp2_with fail
   refine (uH K5 _ _ _ _ _ (uH HW)).mono ?_
   rintro e wf ⟨rfl,hb1⟩
   have BF:=hide ((uH B1).trans (((uH BE).trans (hb1.mono (uH BE).size)).mono (uH B1).size))
   clear hb1 BE HW y0 y1 y2
   go_wp2
   exact bodyPost_ret (v:=.tuple #[.int .i64 z2,.int .i64 tp]) (by simp [results,Tryz.results204,go_sem]) rfl ⟨rfl,uH BF⟩
  ·go_wp2_with fail
   refine hK.out _ _ ?_ (fun hHeld=>?_)
   ·exact uH HK _ (Below.alloc (And.left (by assumption)) (Below.size (And.left (by assumption))) _)
   clear hK K
   have bx:=Box2.new wn (.bool false) (.slice none 0 0)
   have gB:W0.heap.size≤wn.heap.size:=Below.size (B:=W0.heap.size) (w:=W0) hBn
   have hW:=Below.alloc hBn gB (.cells #[.bool false,.slice none 0 0] 50)
   generalize hwa:(wn.alloc (.cells #[.bool false,.slice none 0 0] 50)) = wa at *
   generalize wn.heap.size = gm at *
   refine wpAnyH_ready (rs:=[6]) (by kernel_rfl) (by simp) ?_
   refine AllReadyH.cons (o:={ dst:=some 22,op:=Op.call { callee:=Callee.value (Operand.func 198),args:=#[Operand.tmp 17,Operand.tmp 21],argTypes:=#[50,3] },type:=187,pos := "quotient.go:30",after:=#[{ on:=1,ground:=Ground.data },{ on:=5,ground:=Ground.data },{ on:=4,ground:=Ground.chain }],guard:=none }) rfl (fun K hK=>?_) AllReadyH.nil
   go_simp
   refine (uH K3 _ _ _ _ _ ((uH HV).below (And.left (by assumption)))).mono ?_
   rintro e wm ⟨v,rfl,⟨n2,a2,c2,L2,rfl,i2⟩,hb1⟩
   have hBm:Below W0.heap.size W0 wm:=Below.trans (And.left (by assumption)) (hb1.mono (Below.size (And.left (by assumption))))
   have I2:=hide (show IsNum (gm+1) wm (.agg #[.bool n2,.slice a2 L2.length c2]) z2 from IsNum.mono ⟨n2,a2,c2,L2,rfl,i2⟩ (Nat.succ_le_of_lt bx.lt))
   have bx:=bx.all hb1
   clear i2
   generalize L2.length = l2 at *
   clear hb1
   go_wp2_with fail
   refine hK.out _ _ ?_ (fun hHeld=>?_)
   ·exact uH HK _ hBm
   clear hK K
   refine wpAnyH_take (i:=7) (oi:={ dst:=some 15,op:=Op.move (Operand.tmp 22),type:=187,pos := "quotient.go:30",after:=#[{ on:=6,ground:=Ground.data }],guard:=none }) (v:=(Value.tuple #[.agg #[.bool n2,.slice a2 l2 c2],.int .i64 0])) rfl (by kernel_rfl) (by kernel_rfl) (by kernel_rfl) (fun _ _ _ h=>h) (Or.inl ⟨by rfl,?_⟩) (by assumption) ?_
   ·(intro w hSw;(try dsimp only at hSw);go_simp)
   simp only [Act.put,List.setIfInBounds_toArray,List.set_cons_zero,List.set_cons_succ]
   refine wpAnyH_take (i:=8) (oi:={ dst:=some 23,op:=Op.extract (Operand.tmp 15) 0,type:=50,pos := "quotient.go:30",after:=#[{ on:=7,ground:=Ground.data }],guard:=none }) (v:=(Value.agg #[.bool n2,.slice a2 l2 c2])) rfl (by kernel_rfl) (by kernel_rfl) (by kernel_rfl) (fun _ _ _ h=>h) (Or.inl ⟨by rfl,?_⟩) (by assumption) ?_
   ·(intro w hSw;(try dsimp only at hSw);go_simp)
   simp only [Act.put,List.setIfInBounds_toArray,List.set_cons_zero,List.set_cons_succ]
   refine wpAnyH_take (i:=9) (oi:={ dst:=some 24,op:=Op.extract (Operand.tmp 15) 1,type:=27,pos := "quotient.go:30",after:=#[{ on:=7,ground:=Ground.data },{ on:=11,ground:=Ground.gcOnly Departure.lateStores }],guard:=none }) (v:=(.int .i64 0)) rfl (by kernel_rfl) (by kernel_rfl) (by kernel_rfl) (fun _ _ _ h=>h) (Or.inl ⟨by rfl,?_⟩) (by assumption) ?_
   ·(intro w hSw;(try dsimp only at hSw);go_simp)
   simp only [Act.put,List.setIfInBounds_toArray,List.set_cons_zero,List.set_cons_succ]
   refine wpAnyH_ready (rs:=[11]) (by kernel_rfl) (by simp) ?_
   refine AllReadyH.cons (o:={ dst:=none,op:=Op.store 50 (Operand.tmp 6) (Operand.tmp 23),type:=0,pos := "quotient.go:30",after:=#[{ on:=10,ground:=Ground.data },{ on:=8,ground:=Ground.data },{ on:=6,ground:=Ground.chain },{ on:=0,ground:=Ground.phase },{ on:=1,ground:=Ground.phase },{ on:=2,ground:=Ground.phase },{ on:=3,ground:=Ground.phase },{ on:=4,ground:=Ground.phase },{ on:=5,ground:=Ground.phase },{ on:=6,ground:=Ground.phase },{ on:=7,ground:=Ground.phase },{ on:=8,ground:=Ground.phase },{ on:=9,ground:=Ground.textOnly Departure.lateStores },{ on:=10,ground:=Ground.phase }],guard:=none }) rfl (fun K hK=>?_) AllReadyH.nil
   have q0:=bx.c0;have q1:=bx.c1;have f0:=bx.free 0;have f1:=bx.free 1
   go_wp2_with fail
   refine hK.out _ _ ?_ (fun hHeld=>?_)
   ·exact uH HK _ (Below.setCell (Below.setCell (And.left (by assumption)) gB _) gB _)
   clear hK K q0 q1 f0 f1
   refine wpAnyH_take (i:=12) (oi:={ dst:=some 7,op:=Op.assign (Operand.tmp 24),type:=27,pos := "quotient.go:30",after:=#[{ on:=9,ground:=Ground.data },{ on:=11,ground:=Ground.chain },{ on:=0,ground:=Ground.phase },{ on:=1,ground:=Ground.phase },{ on:=2,ground:=Ground.phase },{ on:=3,ground:=Ground.phase },{ on:=4,ground:=Ground.phase },{ on:=5,ground:=Ground.phase },{ on:=6,ground:=Ground.phase },{ on:=7,ground:=Ground.phase },{ on:=8,ground:=Ground.phase },{ on:=9,ground:=Ground.phase },{ on:=10,ground:=Ground.phase },{ on:=11,ground:=Ground.phase }],guard:=none }) (v:=(.int .i64 0)) rfl (by kernel_rfl) (by kernel_rfl) (by kernel_rfl) (fun _ _ _ h=>h) (Or.inl ⟨by rfl,?_⟩) (by assumption) ?_
   ·(intro w hSw;(try dsimp only at hSw);go_simp)
   simp only [Act.put,List.setIfInBounds_toArray,List.set_cons_zero,List.set_cons_succ]
   refine wpAnyH_done (by kernel_rfl) ?_ _
   have bz:=bx.put (.bool n2) (.slice a2 l2 c2)
   have HZ:=hide (show IsNum 0 ((wm.setCell ⟨gm,0,none⟩ (.bool n2)).setCell ⟨gm,1,none⟩ (.slice a2 l2 c2)) (.agg #[.bool n2,.slice a2 l2 c2]) z2 from ((uH I2).put2 (p:=⟨gm,0,none⟩) (q:=⟨gm,1,none⟩) (by simp) (by simp) (.bool n2) (.slice a2 l2 c2)).mono (Nat.zero_le _))
   have BZ:=hide (show Below W0.heap.size W0 ((wm.setCell ⟨gm,0,none⟩ (.bool n2)).setCell ⟨gm,1,none⟩ (.slice a2 l2 c2)) from Below.setCell (Below.setCell hBm gB _) gB _)
   have r0:=bz.c0;have r1:=bz.c1
   clear bx I2 hHeld
   generalize ((wm.setCell ⟨gm,0,none⟩ (.bool n2)).setCell ⟨gm,1,none⟩ (.slice a2 l2 c2)) = WE at *
   go_wp2_with fail
   refine (uH K4 _ _ _ (uH HZ)).mono ?_
   rintro e we ⟨rfl,hb1⟩
   have BE:=hide ((uH BZ).trans (hb1.mono (uH BZ).size))
   have HW:=hide ((uH HV).below (uH BE))
   have xe:=(uH XB).all (uH BE)
   have y0:=xe.c0;have y1:=xe.c1;have y2:=xe.c2
   clear r0 r1 bz hb1 BZ HZ xe
   go_wp2_with fail
   refine (uH K5 _ _ _ _ _ (uH HW)).mono ?_
   rintro e wf ⟨rfl,hb1⟩
   have BF:=hide ((uH B1).trans (((uH BE).trans (hb1.mono (uH BE).size)).mono (uH B1).size))
   clear hb1 BE HW y0 y1 y2
   go_wp2
   exact bodyPost_ret (v:=.tuple #[.int .i64 z2,.int .i64 tp]) (by simp [results,Tryz.results204,go_sem]) rfl ⟨rfl,uH BF⟩
 ·go_wp2_with fail
  refine hK.out _ _ ?_ (fun hHeld=>?_)
  ·exact uH HK _ (((Below.refl W0.heap.size W0).alloc (Nat.le_refl _) _).drew)
  clear hK K
  have bx:Box2 (W0.alloc (.cells #[.bool false,.slice none 0 0] 50)).drew W0.heap.size (.bool false) (.slice none 0 0):=(Box2.new W0 (.bool false) (.slice none 0 0)).drew
  have gB:W0.heap.size≤W0.heap.size:=Nat.le_refl _
  generalize hwa:(W0.alloc (.cells #[.bool false,.slice none 0 0] 50)).drew = wa at *
  refine wpAnyH_ready (rs:=[4]) (by kernel_rfl) (by simp) ?_
  refine AllReadyH.cons (o:={ dst:=some 20,op:=Op.call { callee:=Callee.value (Operand.func 189),args:=#[Operand.tmp 19],argTypes:=#[50] },type:=3,pos := "quotient.go:30",after:=#[{ on:=3,ground:=Ground.data }],guard:=none }) rfl (fun K hK=>?_) AllReadyH.nil
  go_simp
  refine (uH K2 _ _ _ _ _ ((uH HV).below (And.left (by assumption)))).mono ?_
  rintro e wn ⟨rfl,hb1⟩
  have hBn:Below W0.heap.size W0 wn:=Below.trans (And.left (by assumption)) (hb1.mono (Below.size (And.left (by assumption))))
  have bx:=bx.all hb1
  clear hb1
  go_wp2_with fail
  refine hK.out _ _ ?_ (fun hHeld=>?_)
  ·exact uH HK _ hBn
  clear hK K
  refine wpAnyH_take (i:=5) (oi:={ dst:=some 21,op:=Op.binOp BinOp.sub 3 (Operand.const (Value.int IntKind.i64 53)) (Operand.tmp 20) 3,type:=3,pos := "quotient.go:30",after:=#[{ on:=4,ground:=Ground.data }],guard:=none }) (v:=(.int .i64 (53 - ln))) rfl (by kernel_rfl) (by kernel_rfl) (by kernel_rfl) (fun _ _ _ h=>h) (Or.inl ⟨by rfl,?_⟩) (by assumption) ?_
  ·(intro w hSw;(try dsimp only at hSw);go_simp;exact wrap_small _ (by omega))
  simp only [Act.put,List.setIfInBounds_toArray,List.set_cons_zero,List.set_cons_succ]
  refine wpAnyH_ready (rs:=[6]) (by kernel_rfl) (by simp) ?_
  refine AllReadyH.cons (o:={ dst:=some 22,op:=Op.call { callee:=Callee.value (Operand.func 198),args:=#[Operand.tmp 17,Operand.tmp 21],argTypes:=#[50,3] },type:=187,pos := "quotient.go:30",after:=#[{ on:=1,ground:=Ground.data },{ on:=5,ground:=Ground.data },{ on:=4,ground:=Ground.chain }],guard:=none }) rfl (fun K hK=>?_) AllReadyH.nil
  go_simp
  refine (uH K3 _ _ _ _ _ ((uH HV).below (And.left (by assumption)))).mono ?_
  rintro e wm ⟨v,rfl,⟨n2,a2,c2,L2,rfl,i2⟩,hb1⟩
  have hBm:Below W0.heap.size W0 wm:=Below.trans (And.left (by assumption)) (hb1.mono (Below.size (And.left (by assumption))))
  have I2:=hide (show IsNum (W0.heap.size+1) wm (.agg #[.bool n2,.slice a2 L2.length c2]) z2 from IsNum.mono ⟨n2,a2,c2,L2,rfl,i2⟩ (Nat.succ_le_of_lt bx.lt))
  have bx:=bx.all hb1
  clear i2
  generalize L2.length = l2 at *
  clear hb1
  go_wp2_with fail
  refine hK.out _ _ ?_ (fun hHeld=>?_)
  ·exact uH HK _ hBm
  clear hK K
  refine wpAnyH_take (i:=7) (oi:={ dst:=some 15,op:=Op.move (Operand.tmp 22),type:=187,pos := "quotient.go:30",after:=#[{ on:=6,ground:=Ground.data }],guard:=none }) (v:=(Value.tuple #[.agg #[.bool n2,.slice a2 l2 c2],.int .i64 0])) rfl (by kernel_rfl) (by kernel_rfl) (by kernel_rfl) (fun _ _ _ h=>h) (Or.inl ⟨by rfl,?_⟩) (by assumption) ?_
  ·(intro w hSw;(try dsimp only at hSw);go_simp)
  simp only [Act.put,List.setIfInBounds_toArray,List.set_cons_zero,List.set_cons_succ]
  refine wpAnyH_take (i:=8) (oi:={ dst:=some 23,op:=Op.extract (Operand.tmp 15) 0,type:=50,pos := "quotient.go:30",after:=#[{ on:=7,ground:=Ground.data }],guard:=none }) (v:=(Value.agg #[.bool n2,.slice a2 l2 c2])) rfl (by kernel_rfl) (by kernel_rfl) (by kernel_rfl) (fun _ _ _ h=>h) (Or.inl ⟨by rfl,?_⟩) (by assumption) ?_
  ·(intro w hSw;(try dsimp only at hSw);go_simp)
  simp only [Act.put,List.setIfInBounds_toArray,List.set_cons_zero,List.set_cons_succ]
  refine wpAnyH_take (i:=9) (oi:={ dst:=some 24,op:=Op.extract (Operand.tmp 15) 1,type:=27,pos := "quotient.go:30",after:=#[{ on:=7,ground:=Ground.data },{ on:=11,ground:=Ground.gcOnly Departure.lateStores }],guard:=none }) (v:=(.int .i64 0)) rfl (by kernel_rfl) (by kernel_rfl) (by kernel_rfl) (fun _ _ _ h=>h) (Or.inl ⟨by rfl,?_⟩) (by assumption) ?_
  ·(intro w hSw;(try dsimp only at hSw);go_simp)
  simp only [Act.put,List.setIfInBounds_toArray,List.set_cons_zero,List.set_cons_succ]
  refine wpAnyH_ready (rs:=[11]) (by kernel_rfl) (by simp) ?_
  refine AllReadyH.cons (o:={ dst:=none,op:=Op.store 50 (Operand.tmp 6) (Operand.tmp 23),type:=0,pos := "quotient.go:30",after:=#[{ on:=10,ground:=Ground.data },{ on:=8,ground:=Ground.data },{ on:=6,ground:=Ground.chain },{ on:=0,ground:=Ground.phase },{ on:=1,ground:=Ground.phase },{ on:=2,ground:=Ground.phase },{ on:=3,ground:=Ground.phase },{ on:=4,ground:=Ground.phase },{ on:=5,ground:=Ground.phase },{ on:=6,ground:=Ground.phase },{ on:=7,ground:=Ground.phase },{ on:=8,ground:=Ground.phase },{ on:=9,ground:=Ground.textOnly Departure.lateStores },{ on:=10,ground:=Ground.phase }],guard:=none }) rfl (fun K hK=>?_) AllReadyH.nil
  have q0:=bx.c0;have q1:=bx.c1;have f0:=bx.free 0;have f1:=bx.free 1
  go_wp2_with fail
  refine hK.out _ _ ?_ (fun hHeld=>?_)
  ·exact uH HK _ (Below.setCell (Below.setCell (And.left (by assumption)) gB _) gB _)
  clear hK K q0 q1 f0 f1
  refine wpAnyH_take (i:=12) (oi:={ dst:=some 7,op:=Op.assign (Operand.tmp 24),type:=27,pos := "quotient.go:30",after:=#[{ on:=9,ground:=Ground.data },{ on:=11,ground:=Ground.chain },{ on:=0,ground:=Ground.phase },{ on:=1,ground:=Ground.phase },{ on:=2,ground:=Ground.phase },{ on:=3,ground:=Ground.phase },{ on:=4,ground:=Ground.phase },{ on:=5,ground:=Ground.phase },{ on:=6,ground:=Ground.phase },{ on:=7,ground:=Ground.phase },{ on:=8,ground:=Ground.phase },{ on:=9,ground:=Ground.phase },{ on:=10,ground:=Ground.phase },{ on:=11,ground:=Ground.phase }],guard:=none }) (v:=(.int .i64 0)) rfl (by kernel_rfl) (by kernel_rfl) (by kernel_rfl) (fun _ _ _ h=>h) (Or.inl ⟨by rfl,?_⟩) (by assumption) ?_
  ·(intro w hSw;(try dsimp only at hSw);go_simp)
  simp only [Act.put,List.setIfInBounds_toArray,List.set_cons_zero,List.set_cons_succ]
  refine wpAnyH_done (by kernel_rfl) ?_ _
  have bz:=bx.put (.bool n2) (.slice a2 l2 c2)
  have HZ:=hide (show IsNum 0 ((wm.setCell ⟨W0.heap.size,0,none⟩ (.bool n2)).setCell ⟨W0.heap.size,1,none⟩ (.slice a2 l2 c2)) (.agg #[.bool n2,.slice a2 l2 c2]) z2 from ((uH I2).put2 (p:=⟨W0.heap.size,0,none⟩) (q:=⟨W0.heap.size,1,none⟩) (by simp) (by simp) (.bool n2) (.slice a2 l2 c2)).mono (Nat.zero_le _))
  have BZ:=hide (show Below W0.heap.size W0 ((wm.setCell ⟨W0.heap.size,0,none⟩ (.bool n2)).setCell ⟨W0.heap.size,1,none⟩ (.slice a2 l2 c2)) from Below.setCell (Below.setCell hBm gB _) gB _)
  have r0:=bz.c0;have r1:=bz.c1
  clear bx I2 hHeld
  generalize ((wm.setCell ⟨W0.heap.size,0,none⟩ (.bool n2)).setCell ⟨W0.heap.size,1,none⟩ (.slice a2 l2 c2)) = WE at *
  go_wp2_with fail
  refine (uH K4 _ _ _ (uH HZ)).mono ?_
  rintro e we ⟨rfl,hb1⟩
  have BE:=hide ((uH BZ).trans (hb1.mono (uH BZ).size))
  have HW:=hide ((uH HV).below (uH BE))
  have xe:=(uH XB).all (uH BE)
  have y0:=xe.c0;have y1:=xe.c1;have y2:=xe.c2
  clear r0 r1 bz hb1 BZ HZ xe
  go_wp2_with fail
  refine (uH K5 _ _ _ _ _ (uH HW)).mono ?_
  rintro e wf ⟨rfl,hb1⟩
  have BF:=hide ((uH B1).trans (((uH BE).trans (hb1.mono (uH BE).size)).mono (uH B1).size))
  clear hb1 BE HW y0 y1 y2
  go_wp2
  exact bodyPost_ret (v:=.tuple #[.int .i64 z2,.int .i64 tp]) (by simp [results,Tryz.results204,go_sem]) rfl ⟨rfl,uH BF⟩
end Go.Proofs.YtnnfjeieennffaaGreatDoor
namespace Go.Proofs.YtnnfjeieennffaaGreatDoor
open Go.RowKit
theorem IsDy.limbs {w:World} {n:Bool} {a:Option Addr} {l c:Nat} {X m Y:Int} (h:IsDy w (.agg #[.bool n,.slice a l c,.int .i64 X]) m Y) (hm:m.natAbs < TOP) :
  ∃ L,l = L.length∧LimbsAt w a c L∧rightB false L = true∧val L = m.natAbs∧L.length≤512:=by
 obtain ⟨n',a',c',L,e1,h1,h2,h3,h4,h5⟩:=h.right hm
 simp only [Value.agg.injEq,Array.mk.injEq,List.cons.injEq,Value.bool.injEq,Value.slice.injEq,and_true] at e1
 obtain ⟨rfl,⟨rfl,e2,rfl⟩,_⟩:=e1
 have hr:rightB false L = true:=by
  simp only [rightB,Bool.and_eq_true,decide_eq_true_eq,Bool.not_eq_true',Bool.and_eq_false_iff,decide_eq_false_iff_not,Bool.or_eq_true] at h2 ⊢
  exact ⟨⟨h2.1.1,Or.inr trivial⟩,h2.2⟩
 exact ⟨L,e2,h1,hr,by rw [← h3,natAbs_sval],h4⟩
theorem small6 {B:Nat} {w:World} {v:Value} {x:Int} (hv:IsNum B w v x) (h0:-9223372036854775808≤x) (h1:x≤9223372036854775807) :
  Calls Tryz.prog 211 #[v] w fun e w'=>e = .returned (.tuple #[.int .i64 x,.int .i64 0])∧Below w.heap.size w w':=by
 obtain ⟨na,ao,ca,A,rfl,a1,a2,a3,a4⟩:=hv.right (small_TOP _ (by omega))
 have:=small_any na ao ca A w a1 (by omega)
 have hf:fits64 x = true:=by unfold fits64;rw [decide_eq_true (by omega)]
 rwa [show smV na A = x by unfold smV;rw [a2,a3,hf];rfl,show smE na A = 0 by unfold smE;rw [a2,a3,hf];rfl] at this
theorem sizeOf_any (b:Nat) (w:World) (hb:b < 18446744073709551616) (hf:fFin b = true) (h0:fK b ≠ 0) (hT:Tab w) :
  Calls Tryz.prog 204 #[.int .u64 b] w fun r w'=>r = .returned (.tuple #[.int .i64 (dS b:Nat),.int .i64 (dT b)])∧Below w.heap.size w w':=by
 obtain ⟨x1,x2,x3,x4,x5,x6,x7,x8⟩:=dS_facts b hb hf h0
 have hm:(fD b).natAbs < TOP:=small_TOP _ (by omega)
 have hS:(dS b:Int) = ((fD b).natAbs * 2 ^ (53 - (bl (fD b).natAbs:Int)).toNat:Nat):=by
  unfold dS
  rw [show (53 - (bl (fD b).natAbs:Int)).toNat = 53 - bl (fD b).natAbs by omega]
 refine sizeOf_ways b (fD b) (fX b) (dS b:Nat) (bl (fD b).natAbs:Nat) (dT b) w (by omega) (fun w' h=>value_some b w' hb hf (hT.all h)) ?_ ?_ ?_ ?_
 ·intro w' n a l c h
  obtain ⟨L,rfl,h1,h2,h3,h4⟩:=h.limbs hm
  have:=len_any false a c L w' h1 (by omega)
  rwa [lenL_bl h1.2.1 h2,h3] at this
 ·intro w' n a l c h
  obtain ⟨L,rfl,h1,h2,h3,h4⟩:=h.limbs hm
  have:=shift_any false a c L (53 - (bl (fD b).natAbs:Int)) w' h1 (by omega) (by omega)
  have hV:shV false L (53 - (bl (fD b).natAbs:Int)) = (dS b:Int):=by
   unfold shV
   rw [if_pos (by omega),h3,hS];rfl
  have hok:shOk false L (53 - (bl (fD b).natAbs:Int)) = true:=by unfold shOk;rw [h2,decide_eq_true (by omega)];rfl
  have hz:((dS b:Nat):Int).natAbs < TOP:=small_TOP _ (by omega)
  rwa [show shE false L (53 - (bl (fD b).natAbs:Int)) = 0 by unfold shE;rw [hok,if_pos rfl,hV,errOf_small _ hz],show shN false L (53 - (bl (fD b).natAbs:Int)) = (dS b:Nat) by unfold shN;rw [hok,if_pos rfl,hV,numOf_small _ hz]] at this
 ·intro B w' v h
  exact small6 h (by omega) (by omega)
 ·intro w' n a l c h
  obtain ⟨L,rfl,h1,h2,h3,h4⟩:=h.limbs hm
  have:=dtop_any false a c L (fX b) w' h1 (by omega)
  rwa [lenL_bl h1.2.1 h2,h3,wrap_small _ (by omega)] at this
theorem divFinite_n (a b:Nat) (x y tx ty q E M X fl:Int) (w:World) (r o:Nat) (ht:-3000≤tx∧tx≤3000∧-3000≤ty∧ty≤3000) (hE:E = tx - ty - 55)
  (C1:∀ w',Below w.heap.size w w'→Calls Tryz.prog 204 #[.int .u64 a] w' fun r w''=>r = .returned (.tuple #[.int .i64 x,.int .i64 tx])∧Below w'.heap.size w' w'')
  (C2:∀ w',Below w.heap.size w w'→Calls Tryz.prog 204 #[.int .u64 b] w' fun r w''=>r = .returned (.tuple #[.int .i64 y,.int .i64 ty])∧Below w'.heap.size w' w'')
  (C3:∀ w',Calls Tryz.prog 205 #[.int .i64 x,.int .i64 y] w' fun r w''=>r = .returned (.int .i64 q)∧w' = w'')
  (C4:∀ w',Calls Tryz.prog 181 #[.int .i64 q] w' fun r w''=>∃ v,r = .returned v∧IsNum w'.heap.size w'' v q∧Below w'.heap.size w' w'')
  (C5:∀ B w' v,Below w.heap.size w w'→IsNum B w' v q→Calls Tryz.prog 180 #[v,.int .i64 E] w' fun r w''=>DyR w'' r 0 M X∧Below w'.heap.size w' w'')
  (C6:∀ w' v,Below w.heap.size w w'→IsDy w' v M X→Calls Tryz.prog 158 #[v] w' fun s w''=>s = .returned (.tuple #[.int .u64 (r:Nat),.int .u8 fl,.int .i64 0])∧Below w'.heap.size w' w'')
  (C7:∀ w',Calls Tryz.prog 191 #[.int .u64 (r:Nat),.int .u64 a,.int .u64 b] w' fun s w''=>s = .returned (.int .u64 (o:Nat))∧Below w'.heap.size w' w'') :
  Calls Tryz.prog 192 #[.int .u64 a,.int .u64 b] w fun s w'=>s = .returned (.tuple #[.int .u64 (o:Nat),.int .u8 fl])∧Below w.heap.size w w':=by
 have K1:=hide C1;have K2:=hide C2;have K3:=hide C3;have K4:=hide C4;have K5:=hide C5;have K6:=hide C6;have K7:=hide C7
 clear C1 C2 C3 C4 C5 C6 C7
 have e1:=wrap_small (tx - ty) (by omega)
 have e2:=wrap_small (tx - ty - 55) (by omega)
 rw [← hE] at e2
 go_enter Tryz.func192,Tryz.ntmps192
 go_wp2_with fail
 refine (uH K1 _ (Below.refl _ _)).mono ?_
 rintro e w1 ⟨rfl,hb1⟩
 have B1:=hide hb1
 clear hb1 K1
 go_wp2_with fail
 refine (uH K2 _ (uH B1)).mono ?_
 rintro e w2 ⟨rfl,hb1⟩
 have B2:=hide ((uH B1).trans (hb1.mono (uH B1).size))
 clear hb1 K2 B1
 go_wp2_with fail
 refine (uH K3 _).mono ?_
 rintro e wk ⟨rfl,rfl⟩
 go_wp2_with fail
 refine (uH K4 _).mono ?_
 rintro e w3 ⟨v,rfl,⟨n3,a3,c3,L3,rfl,i3⟩,hb1⟩
 have B3:=hide ((uH B2).trans (hb1.mono (uH B2).size))
 have I3:=hide (show IsNum w2.heap.size w3 (.agg #[.bool n3,.slice a3 L3.length c3]) q from ⟨n3,a3,c3,L3,rfl,i3⟩)
 clear hb1 K3 K4 B2 i3
 generalize L3.length = l3 at *
 subst hE
 go_wp2_with fail
 refine (uH K5 _ _ _ (uH B3) (uH I3)).mono ?_
 rintro e w4 ⟨⟨v,rfl,hv⟩,hb1⟩
 obtain ⟨n1,a1,c1,L1,rfl,i1⟩:=hv
 have hb1a:Below w4.heap.size w4 (w4.alloc (.cells #[.bool n1,.slice a1 L1.length c1,.int .i64 X] 52)):=(Below.refl _ _).alloc (Nat.le_refl _) _
 have HX:=hide ((show IsDy w4 (.agg #[.bool n1,.slice a1 L1.length c1,.int .i64 X]) M X from ⟨n1,a1,c1,L1,rfl,i1⟩).below hb1a)
 have B4:=hide ((uH B3).trans ((hb1.trans (hb1a.mono hb1.size)).mono (uH B3).size))
 have x3:=Box3.new w4 (.bool n1) (.slice a1 L1.length c1) (.int .i64 X)
 have y0:=x3.c0;have y1:=x3.c1;have y2:=x3.c2
 clear i1 hb1 hb1a K5 B3 x3 I3
 generalize L1.length = l1 at *
 go_wp2_with fail
 refine (uH K6 _ _ (uH B4) (uH HX)).mono ?_
 rintro e w5 ⟨rfl,hb1⟩
 have B5:=hide ((uH B4).trans (hb1.mono (uH B4).size))
 clear hb1 K6 B4 y0 y1 y2 HX
 go_wp2_with fail
 refine (uH K7 _).mono ?_
 rintro e w6 ⟨rfl,hb1⟩
 have B6:=hide ((uH B5).trans (hb1.mono (uH B5).size))
 clear hb1 K7 B5
 go_wp2
 exact bodyPost_ret (v:=.tuple #[.int .u64 o,.int .u8 fl]) (by simp [results,Tryz.results192,go_sem]) rfl ⟨rfl,uH B6⟩
theorem lt57 {S:Nat} (h:S < 144115188075855872):S < 2 ^ 57:=by
 have:(2:Nat) ^ 57 = 144115188075855872:=by decide
 omega
theorem divFinite_of (a b S sx sy r:Nat) (tx ty fl:Int) (w:World) (ha:a < 18446744073709551616) (hb:b < 18446744073709551616) (hr:r≤9218868437227405312)
  (ht:-1100≤tx∧tx≤1100∧-1100≤ty∧ty≤1100) (s1:S ≠ 0) (s2:S < 144115188075855872)
  (q1:rnd S (tx - ty - 55) = r) (q2:rflag (oM (S:Nat)).natAbs (oE (S:Nat) (tx - ty - 55)) = fl) (hT:Tab w)
  (C1:∀ w',Below w.heap.size w w'→Calls Tryz.prog 204 #[.int .u64 a] w' fun r w''=>r = .returned (.tuple #[.int .i64 (sx:Nat),.int .i64 tx])∧Below w'.heap.size w' w'')
  (C2:∀ w',Below w.heap.size w w'→Calls Tryz.prog 204 #[.int .u64 b] w' fun r w''=>r = .returned (.tuple #[.int .i64 (sy:Nat),.int .i64 ty])∧Below w'.heap.size w' w'')
  (C3:∀ w',Calls Tryz.prog 205 #[.int .i64 (sx:Nat),.int .i64 (sy:Nat)] w' fun r w''=>r = .returned (.int .i64 (S:Nat))∧w' = w'') :
  Calls Tryz.prog 192 #[.int .u64 a,.int .u64 b] w fun s w'=>s = .returned (.tuple #[.int .u64 (wrd (fS a ^^ fS b) r:Nat),.int .u8 fl])∧Below w.heap.size w w':=by
 have hz:((S:Nat):Int).natAbs < TOP:=small_TOP _ (by omega)
 have hz0:((S:Nat):Int) ≠ 0:=by omega
 have htz:tz ((S:Nat):Int).natAbs < 57:=tz_lt _ 57 (by omega) (by rw [Int.natAbs_natCast];exact lt57 s2)
 obtain ⟨E,hE⟩:∃ E,E = tx - ty - 55:=⟨_,rfl⟩
 rw [← hE] at q1 q2
 have hE2:-2300≤E∧E≤2300:=by omega
 have hok:dOk (S:Nat) E = true:=by
  unfold dOk
  rw [decide_eq_true (show -32768≤E∧E≤32768 by omega),decide_eq_true (show -16384≤E+(tz ((S:Nat):Int).natAbs:Int)∧E+(tz ((S:Nat):Int).natAbs:Int)≤16384 by omega),Bool.or_true]
  rfl
 have hRt:dRt (oM (S:Nat)) (oE (S:Nat) E) = true:=by
  unfold dRt
  rw [if_neg (oM_ne _ hz0).1,oE_ne _ _ hz0,decide_eq_true (oM_ne _ hz0).2,decide_eq_true (by omega)]
  rfl
 have hle:(oM (S:Nat)).natAbs < TOP:=Nat.lt_of_le_of_lt (oM_le _) hz
 have C6:∀ w' v,Below w.heap.size w w'→IsDy w' v (oM (S:Nat)) (oE (S:Nat) E)→_:=fun w' v h hv=>round_dy hv hle hRt (hT.all h)
 rw [(rnd_odd ((S:Nat):Int) E).1,oM_sign,decide_eq_false (show ¬ ((S:Nat):Int) < 0 by omega),wrd_false,Int.natAbs_natCast,q1,q2] at C6
 refine divFinite_n a b (sx:Nat) (sy:Nat) tx ty (S:Nat) E _ _ _ w _ _ (by omega) hE C1 C2 C3
  (fun w'=>of_any _ w' (by omega) (by omega)) (fun B w' v h hv=>?_) C6 (fun w'=>tsigned_any r a b w' ha hb (by omega))
 have:=make_num E hv hz (by omega) (hT.all h)
 unfold dErr dM dX at this
 rw [hok] at this
 exact this.mono fun r w'' ⟨u,g1,g2,g3⟩=>⟨⟨u,g1,g2⟩,g3⟩
theorem pS_def (a b:Nat):stk (dS a * 2 ^ 54) (dS b) = pS a b:=by unfold pS;rfl
theorem dT_in (b:Nat) (hb:b < 18446744073709551616) (hf:fFin b = true) (h0:fK b ≠ 0):-1100≤dT b∧dT b≤1100:=by
 obtain ⟨x1,x2,x3,x4,x5,x6,x7,x8⟩:=dS_facts b hb hf h0
 unfold dT
 omega
theorem divFinite_any (a b:Nat) (w:World) (ha:a < 18446744073709551616) (hb:b < 18446744073709551616) (fa:fFin a = true) (fb:fFin b = true) (a0:fK a ≠ 0) (b0:fK b ≠ 0) (hT:Tab w) :
  Calls Tryz.prog 192 #[.int .u64 a,.int .u64 b] w fun r w'=>r = .returned (.tuple #[.int .u64 (dV a b:Nat),.int .u8 (dF a b)])∧Below w.heap.size w w':=by
 obtain ⟨y1,y2,y3,y4,y5,y6,y7,y8⟩:=dS_facts b hb fb b0
 obtain ⟨s1,s2,s3⟩:=pS_facts a b ha hb fa fb a0 b0
 obtain ⟨q1,q2⟩:=quo_prog a b ha hb fa fb a0 b0
 have hr:qV a b≤9218868437227405312:=rnd_le _ _
 have C3:=fun w'=>quotient_any (dS a) (dS b) w' y4 s3
 have t1:=dT_in a ha fa a0
 have t2:=dT_in b hb fb b0
 have e1:=(dV_fin a b fa fb a0 b0).1
 have e2:=(dV_fin a b fa fb a0 b0).2
 rw [pS_def] at C3
 rw [e1,e2]
 exact divFinite_of a b (pS a b) (dS a) (dS b) (qV a b) (dT a) (dT b) (qF a b) w ha hb hr ⟨t1.1,t1.2,t2.1,t2.2⟩ s1 s2 q1 q2 hT (fun w' h=>sizeOf_any a w' ha fa a0 (hT.all h)) (fun w' h=>sizeOf_any b w' hb fb b0 (hT.all h)) C3
end Go.Proofs.YtnnfjeieennffaaGreatDoor
namespace Go.Proofs.YtnnfjeieennffaaGreatDoor
open Go.RowKit
theorem tdiv_n1 (a b:Nat) (kb:Int) (w:World) 
  (C1:∀ w',Calls Tryz.prog 113 #[.int .u64 a] w' fun r w''=>r = .returned (.int .i64 4)∧Below w'.heap.size w' w'')
  (C2:∀ w',Calls Tryz.prog 113 #[.int .u64 b] w' fun r w''=>r = .returned (.int .i64 kb)∧Below w'.heap.size w' w'') :
  Calls Tryz.prog 174 #[.int .u64 a,.int .u64 b] w fun r w'=>r = .returned (.tuple #[.int .u64 9221120237041090560,.int .u8 0])∧Below w.heap.size w w':=by
 have K1:=hide C1;have K2:=hide C2
 clear C1 C2
 go_enter Tryz.func174,Tryz.ntmps174
 go_wp2_with fail
 refine (uH K1 _).mono ?_
 rintro e w1 ⟨rfl,hb1⟩
 go_wp2_with fail
 refine (uH K2 _).mono ?_
 rintro e w2 ⟨rfl,hb2⟩
 have B:=hide (hb1.trans (hb2.mono hb1.size))
 clear hb1 hb2 K1 K2
 go_wp2
 exact bodyPost_ret (v:=.tuple #[.int .u64 9221120237041090560,.int .u8 0]) (by simp [results,Tryz.results174,go_sem]) rfl ⟨rfl,uH B⟩
theorem tdiv_n2 (a b:Nat) (ka:Int) (w:World) (h0:(ka == 4) = false)
  (C1:∀ w',Calls Tryz.prog 113 #[.int .u64 a] w' fun r w''=>r = .returned (.int .i64 ka)∧Below w'.heap.size w' w'')
  (C2:∀ w',Calls Tryz.prog 113 #[.int .u64 b] w' fun r w''=>r = .returned (.int .i64 4)∧Below w'.heap.size w' w'') :
  Calls Tryz.prog 174 #[.int .u64 a,.int .u64 b] w fun r w'=>r = .returned (.tuple #[.int .u64 9221120237041090560,.int .u8 0])∧Below w.heap.size w w':=by
 have K1:=hide C1;have K2:=hide C2
 clear C1 C2
 go_enter Tryz.func174,Tryz.ntmps174
 go_wp2_with fail
 refine (uH K1 _).mono ?_
 rintro e w1 ⟨rfl,hb1⟩
 go_wp2_with fail
 refine (uH K2 _).mono ?_
 rintro e w2 ⟨rfl,hb2⟩
 have B:=hide (hb1.trans (hb2.mono hb1.size))
 clear hb1 hb2 K1 K2
 go_wp2
 exact bodyPost_ret (v:=.tuple #[.int .u64 9221120237041090560,.int .u8 0]) (by simp [results,Tryz.results174,go_sem]) rfl ⟨rfl,uH B⟩
theorem tdiv_ii (a b:Nat) (w:World) 
  (C1:∀ w',Calls Tryz.prog 113 #[.int .u64 a] w' fun r w''=>r = .returned (.int .i64 3)∧Below w'.heap.size w' w'')
  (C2:∀ w',Calls Tryz.prog 113 #[.int .u64 b] w' fun r w''=>r = .returned (.int .i64 3)∧Below w'.heap.size w' w'') :
  Calls Tryz.prog 174 #[.int .u64 a,.int .u64 b] w fun r w'=>r = .returned (.tuple #[.int .u64 9221120237041090560,.int .u8 16])∧Below w.heap.size w w':=by
 have K1:=hide C1;have K2:=hide C2
 clear C1 C2
 go_enter Tryz.func174,Tryz.ntmps174
 go_wp2_with fail
 refine (uH K1 _).mono ?_
 rintro e w1 ⟨rfl,hb1⟩
 go_wp2_with fail
 refine (uH K2 _).mono ?_
 rintro e w2 ⟨rfl,hb2⟩
 have B:=hide (hb1.trans (hb2.mono hb1.size))
 clear hb1 hb2 K1 K2
 go_wp2
 exact bodyPost_ret (v:=.tuple #[.int .u64 9221120237041090560,.int .u8 16]) (by simp [results,Tryz.results174,go_sem]) rfl ⟨rfl,uH B⟩
theorem tdiv_zz (a b:Nat) (w:World) 
  (C1:∀ w',Calls Tryz.prog 113 #[.int .u64 a] w' fun r w''=>r = .returned (.int .i64 0)∧Below w'.heap.size w' w'')
  (C2:∀ w',Calls Tryz.prog 113 #[.int .u64 b] w' fun r w''=>r = .returned (.int .i64 0)∧Below w'.heap.size w' w'') :
  Calls Tryz.prog 174 #[.int .u64 a,.int .u64 b] w fun r w'=>r = .returned (.tuple #[.int .u64 9221120237041090560,.int .u8 16])∧Below w.heap.size w w':=by
 have K1:=hide C1;have K2:=hide C2
 clear C1 C2
 go_enter Tryz.func174,Tryz.ntmps174
 go_wp2_with fail
 refine (uH K1 _).mono ?_
 rintro e w1 ⟨rfl,hb1⟩
 go_wp2_with fail
 refine (uH K2 _).mono ?_
 rintro e w2 ⟨rfl,hb2⟩
 have B:=hide (hb1.trans (hb2.mono hb1.size))
 clear hb1 hb2 K1 K2
 go_wp2
 exact bodyPost_ret (v:=.tuple #[.int .u64 9221120237041090560,.int .u8 16]) (by simp [results,Tryz.results174,go_sem]) rfl ⟨rfl,uH B⟩
theorem tdiv_i (a b:Nat) (kb:Int) (o:Nat) (w:World) (h0:(kb == 4) = false) (h1:(kb == 3) = false)
  (C1:∀ w',Calls Tryz.prog 113 #[.int .u64 a] w' fun r w''=>r = .returned (.int .i64 3)∧Below w'.heap.size w' w'')
  (C2:∀ w',Calls Tryz.prog 113 #[.int .u64 b] w' fun r w''=>r = .returned (.int .i64 kb)∧Below w'.heap.size w' w'')
  (C3:∀ w',Calls Tryz.prog 191 #[.int .u64 9218868437227405312,.int .u64 a,.int .u64 b] w' fun r w''=>r = .returned (.int .u64 (o:Nat))∧Below w'.heap.size w' w'') :
  Calls Tryz.prog 174 #[.int .u64 a,.int .u64 b] w fun r w'=>r = .returned (.tuple #[.int .u64 (o:Nat),.int .u8 0])∧Below w.heap.size w w':=by
 have K1:=hide C1;have K2:=hide C2
 clear C1 C2
 go_enter Tryz.func174,Tryz.ntmps174
 go_wp2_with fail
 refine (uH K1 _).mono ?_
 rintro e w1 ⟨rfl,hb1⟩
 go_wp2_with fail
 refine (uH K2 _).mono ?_
 rintro e w2 ⟨rfl,hb2⟩
 have B:=hide (hb1.trans (hb2.mono hb1.size))
 clear hb1 hb2 K1 K2
 have K3:=hide C3
 clear C3
 go_wp2_with fail
 refine (uH K3 _).mono ?_
 rintro e w3 ⟨rfl,hb3⟩
 have B:=hide ((uH B).trans (hb3.mono (uH B).size))
 clear hb3 K3
 go_wp2
 exact bodyPost_ret (v:=.tuple #[.int .u64 (o:Nat),.int .u8 0]) (by simp [results,Tryz.results174,go_sem]) rfl ⟨rfl,uH B⟩
theorem tdiv_z (a b:Nat) (kb:Int) (o:Nat) (w:World) (h0:(kb == 4) = false) (h1:(kb == 0) = false)
  (C1:∀ w',Calls Tryz.prog 113 #[.int .u64 a] w' fun r w''=>r = .returned (.int .i64 0)∧Below w'.heap.size w' w'')
  (C2:∀ w',Calls Tryz.prog 113 #[.int .u64 b] w' fun r w''=>r = .returned (.int .i64 kb)∧Below w'.heap.size w' w'')
  (C3:∀ w',Calls Tryz.prog 191 #[.int .u64 0,.int .u64 a,.int .u64 b] w' fun r w''=>r = .returned (.int .u64 (o:Nat))∧Below w'.heap.size w' w'') :
  Calls Tryz.prog 174 #[.int .u64 a,.int .u64 b] w fun r w'=>r = .returned (.tuple #[.int .u64 (o:Nat),.int .u8 0])∧Below w.heap.size w w':=by
 have K1:=hide C1;have K2:=hide C2
 clear C1 C2
 go_enter Tryz.func174,Tryz.ntmps174
 go_wp2_with fail
 refine (uH K1 _).mono ?_
 rintro e w1 ⟨rfl,hb1⟩
 go_wp2_with fail
 refine (uH K2 _).mono ?_
 rintro e w2 ⟨rfl,hb2⟩
 have B:=hide (hb1.trans (hb2.mono hb1.size))
 clear hb1 hb2 K1 K2
 have K3:=hide C3
 clear C3
 go_wp2_with fail
 refine (uH K3 _).mono ?_
 rintro e w3 ⟨rfl,hb3⟩
 have B:=hide ((uH B).trans (hb3.mono (uH B).size))
 clear hb3 K3
 go_wp2
 exact bodyPost_ret (v:=.tuple #[.int .u64 (o:Nat),.int .u8 0]) (by simp [results,Tryz.results174,go_sem]) rfl ⟨rfl,uH B⟩
theorem tdiv_j (a b:Nat) (ka:Int) (o:Nat) (w:World) (h0:(ka == 4) = false) (h1:(ka == 3) = false) (h2:(ka == 0) = false)
  (C1:∀ w',Calls Tryz.prog 113 #[.int .u64 a] w' fun r w''=>r = .returned (.int .i64 ka)∧Below w'.heap.size w' w'')
  (C2:∀ w',Calls Tryz.prog 113 #[.int .u64 b] w' fun r w''=>r = .returned (.int .i64 3)∧Below w'.heap.size w' w'')
  (C3:∀ w',Calls Tryz.prog 191 #[.int .u64 0,.int .u64 a,.int .u64 b] w' fun r w''=>r = .returned (.int .u64 (o:Nat))∧Below w'.heap.size w' w'') :
  Calls Tryz.prog 174 #[.int .u64 a,.int .u64 b] w fun r w'=>r = .returned (.tuple #[.int .u64 (o:Nat),.int .u8 0])∧Below w.heap.size w w':=by
 have K1:=hide C1;have K2:=hide C2
 clear C1 C2
 go_enter Tryz.func174,Tryz.ntmps174
 go_wp2_with fail
 refine (uH K1 _).mono ?_
 rintro e w1 ⟨rfl,hb1⟩
 go_wp2_with fail
 refine (uH K2 _).mono ?_
 rintro e w2 ⟨rfl,hb2⟩
 have B:=hide (hb1.trans (hb2.mono hb1.size))
 clear hb1 hb2 K1 K2
 have K3:=hide C3
 clear C3
 go_wp2_with fail
 refine (uH K3 _).mono ?_
 rintro e w3 ⟨rfl,hb3⟩
 have B:=hide ((uH B).trans (hb3.mono (uH B).size))
 clear hb3 K3
 go_wp2
 exact bodyPost_ret (v:=.tuple #[.int .u64 (o:Nat),.int .u8 0]) (by simp [results,Tryz.results174,go_sem]) rfl ⟨rfl,uH B⟩
theorem tdiv_y (a b:Nat) (ka:Int) (o:Nat) (w:World) (h0:(ka == 4) = false) (h1:(ka == 3) = false) (h2:(ka == 0) = false)
  (C1:∀ w',Calls Tryz.prog 113 #[.int .u64 a] w' fun r w''=>r = .returned (.int .i64 ka)∧Below w'.heap.size w' w'')
  (C2:∀ w',Calls Tryz.prog 113 #[.int .u64 b] w' fun r w''=>r = .returned (.int .i64 0)∧Below w'.heap.size w' w'')
  (C3:∀ w',Calls Tryz.prog 191 #[.int .u64 9218868437227405312,.int .u64 a,.int .u64 b] w' fun r w''=>r = .returned (.int .u64 (o:Nat))∧Below w'.heap.size w' w'') :
  Calls Tryz.prog 174 #[.int .u64 a,.int .u64 b] w fun r w'=>r = .returned (.tuple #[.int .u64 (o:Nat),.int .u8 8])∧Below w.heap.size w w':=by
 have K1:=hide C1;have K2:=hide C2
 clear C1 C2
 go_enter Tryz.func174,Tryz.ntmps174
 go_wp2_with fail
 refine (uH K1 _).mono ?_
 rintro e w1 ⟨rfl,hb1⟩
 go_wp2_with fail
 refine (uH K2 _).mono ?_
 rintro e w2 ⟨rfl,hb2⟩
 have B:=hide (hb1.trans (hb2.mono hb1.size))
 clear hb1 hb2 K1 K2
 have K3:=hide C3
 clear C3
 go_wp2_with fail
 refine (uH K3 _).mono ?_
 rintro e w3 ⟨rfl,hb3⟩
 have B:=hide ((uH B).trans (hb3.mono (uH B).size))
 clear hb3 K3
 go_wp2
 exact bodyPost_ret (v:=.tuple #[.int .u64 (o:Nat),.int .u8 8]) (by simp [results,Tryz.results174,go_sem]) rfl ⟨rfl,uH B⟩
theorem tdiv_f (a b:Nat) (ka kb:Int) (fl:Int) (o:Nat) (w:World) (h0:(ka == 4) = false) (h1:(ka == 3) = false) (h2:(ka == 0) = false) (h3:(kb == 4) = false) (h4:(kb == 3) = false) (h5:(kb == 0) = false) (hT:Tab w)
  (C1:∀ w',Calls Tryz.prog 113 #[.int .u64 a] w' fun r w''=>r = .returned (.int .i64 ka)∧Below w'.heap.size w' w'')
  (C2:∀ w',Calls Tryz.prog 113 #[.int .u64 b] w' fun r w''=>r = .returned (.int .i64 kb)∧Below w'.heap.size w' w'')
  (C3:∀ w',Tab w'→Calls Tryz.prog 192 #[.int .u64 a,.int .u64 b] w' fun r w''=>r = .returned (.tuple #[.int .u64 (o:Nat),.int .u8 fl])∧Below w'.heap.size w' w'') :
  Calls Tryz.prog 174 #[.int .u64 a,.int .u64 b] w fun r w'=>r = .returned (.tuple #[.int .u64 (o:Nat),.int .u8 fl])∧Below w.heap.size w w':=by
 have K1:=hide C1;have K2:=hide C2
 clear C1 C2
 go_enter Tryz.func174,Tryz.ntmps174
 go_wp2_with fail
 refine (uH K1 _).mono ?_
 rintro e w1 ⟨rfl,hb1⟩
 go_wp2_with fail
 refine (uH K2 _).mono ?_
 rintro e w2 ⟨rfl,hb2⟩
 have B:=hide (hb1.trans (hb2.mono hb1.size))
 clear hb1 hb2 K1 K2
 have K3:=hide C3;have HT:=hide (hT.all (uH B))
 clear C3 hT
 go_wp2_with fail
 refine (uH K3 _ (uH HT)).mono ?_
 rintro e w3 ⟨rfl,hb3⟩
 have B:=hide ((uH B).trans (hb3.mono (uH B).size))
 clear hb3 K3 HT
 go_wp2
 exact bodyPost_ret (v:=.tuple #[.int .u64 (o:Nat),.int .u8 fl]) (by simp [results,Tryz.results174,go_sem]) rfl ⟨rfl,uH B⟩
theorem tdiv_any (a b:Nat) (w:World) (ha:a < 18446744073709551616) (hb:b < 18446744073709551616) (hT:Tab w) :
  Calls Tryz.prog 174 #[.int .u64 a,.int .u64 b] w fun r w'=>r = .returned (.tuple #[.int .u64 (dV a b:Nat),.int .u8 (dF a b)])∧Below w.heap.size w w':=by
 have C1:=fun w'=>kind_any a w' ha
 have C2:=fun w'=>kind_any b w' hb
 have CI:=fun w'=>tsigned_any 9218868437227405312 a b w' ha hb (by decide)
 have CZ:=fun w'=>tsigned_any 0 a b w' ha hb (by decide)
 by_cases a4:fK a = 4
 ·rw [show dV a b = 9221120237041090560 by unfold dV;rw [if_pos (Or.inl a4)],show dF a b = 0 by unfold dF;rw [if_pos (Or.inl a4)]]
  rw [a4] at C1
  exact tdiv_n1 a b _ w C1 C2
 by_cases b4:fK b = 4
 ·rw [show dV a b = 9221120237041090560 by unfold dV;rw [if_pos (Or.inr b4)],show dF a b = 0 by unfold dF;rw [if_pos (Or.inr b4)]]
  rw [b4] at C2
  exact tdiv_n2 a b _ w (by simp [a4]) C1 C2
 have n4:¬ (fK a = 4 ∨ fK b = 4):=by omega
 by_cases hs:fK a = fK b∧(fK a = 3 ∨ fK a = 0)
 ·rw [show dV a b = 9221120237041090560 by unfold dV;rw [if_neg n4,if_pos hs],show dF a b = 16 by unfold dF;rw [if_neg n4,if_pos hs]]
  rcases hs with ⟨h1,h3 | h0⟩
  ·rw [h3] at C1
   rw [← h1,h3] at C2
   exact tdiv_ii a b w C1 C2
  ·rw [h0] at C1
   rw [← h1,h0] at C2
   exact tdiv_zz a b w C1 C2
 by_cases a3:fK a = 3
 ·rw [show dV a b = wrd (fS a ^^ fS b) 9218868437227405312 by unfold dV;rw [if_neg n4,if_neg hs,if_pos a3],show dF a b = 0 by unfold dF;rw [if_neg n4,if_neg hs,if_pos a3]]
  rw [a3] at C1
  exact tdiv_i a b _ _ w (by simp [b4]) (by simp;omega) C1 C2 CI
 by_cases h3:fK b = 3 ∨ fK a = 0
 ·rw [show dV a b = wrd (fS a ^^ fS b) 0 by unfold dV;rw [if_neg n4,if_neg hs,if_neg a3,if_pos h3],show dF a b = 0 by unfold dF;rw [if_neg n4,if_neg hs,if_neg a3,if_pos h3]]
  by_cases a0:fK a = 0
  ·rw [a0] at C1
   exact tdiv_z a b _ _ w (by simp [b4]) (by simp;omega) C1 C2 CZ
  ·have b3:fK b = 3:=by omega
   rw [b3] at C2
   exact tdiv_j a b _ _ w (by simp [a4]) (by simp [a3]) (by simp [a0]) C1 C2 CZ
 by_cases b0:fK b = 0
 ·rw [show dV a b = wrd (fS a ^^ fS b) 9218868437227405312 by unfold dV;rw [if_neg n4,if_neg hs,if_neg a3,if_neg h3,if_pos b0],show dF a b = 8 by unfold dF;rw [if_neg n4,if_neg hs,if_neg a3,if_neg h3,if_pos b0]]
  rw [b0] at C2
  exact tdiv_y a b _ _ w (by simp [a4]) (by simp [a3]) (by simp;omega) C1 C2 CI
 ·exact tdiv_f a b _ _ _ _ w (by simp [a4]) (by simp [a3]) (by simp;omega) (by simp [b4]) (by simp;omega) (by simp [b0]) hT C1 C2 (fun w' t=>divFinite_any a b w' ha hb (fin_of a a3 a4) (fin_of b (by omega) b4) (by omega) b0 t)
end Go.Proofs.YtnnfjeieennffaaGreatDoor
namespace Go.Proofs.YtnnfjeieennffaaGreatDoor
open Go.RowKit
theorem fmul_run (t:TypeId) (x y:Nat) (w:World):(binOp .mul t (.float .f64 x) (.float .f64 y)).run Tryz.prog w = .ok (.float .f64 (fres (Ieee.double.mul x y) x y w)) (fwld (Ieee.double.mul x y) w):=by
 have hf:FloatKind.f64.format = Ieee.double:=rfl
 cases h:Ieee.double.mul x y with
 | some r=>exact run_float_arith w .mul t .f64 x y r (by unfold floatBits;rw [hf];exact h)
 | none =>
  simp only [binOp,Op.floatArith,hf,h]
  rfl
theorem wrd_kind (n:Bool) (r:Nat) (h:r≤9218868437227405312):fK (wrd n r) ≠ 4:=fun h4=>by
 have:=(fK_rungs _).1.1 h4
 have e:fR (wrd n r) = r:=by unfold fR;exact (wrd_parts n r (by omega)).2
 omega
end Go.Proofs.YtnnfjeieennffaaGreatDoor
namespace Go.Proofs.YtnnfjeieennffaaGreatDoor
open Go.RowKit
theorem andNot_top (b:Nat) (h:b < 18446744073709551616):bits .andNot .u64 (b:Int) 9223372036854775808 = (fR b:Int):=by
 have h1:=u64_andNot_nat b 9223372036854775808 h (by decide)
 refine h1.trans ?_
 rw [show 18446744073709551615 - 9223372036854775808 = 2 ^ 63 - 1 by decide,Nat.and_two_pow_sub_one_eq_mod]
 rfl
theorem and_2048 (x:Nat) (h:x < 4096):x &&& 2048 = x / 2048 * 2048:=by
 have h2:(x &&& 2 ^ 11) % 2 ^ 11 = 0:=by rw [Nat.and_mod_two_pow];simp
 have h3:(x &&& 2 ^ 11) / 2 ^ 11 = (x / 2 ^ 11) &&& 1:=by rw [Nat.and_div_two_pow]
 rw [Nat.and_one_is_mod] at h3
 have h4:=Nat.div_add_mod (x &&& 2 ^ 11) (2 ^ 11)
 rw [h2,h3] at h4
 rw [show (2048:Nat) = 2 ^ 11 by decide]
 omega
theorem and_clear (b:Nat) (h:b < 18446744073709551616):b &&& 9227875636482146303 = b / 9223372036854775808 * 9223372036854775808+b % 4503599627370496:=by
 have e1:(b &&& 9227875636482146303) % 2 ^ 52 = b % 4503599627370496:=by
  rw [Nat.and_mod_two_pow,show 9227875636482146303 % 2 ^ 52 = 2 ^ 52 - 1 by decide,Nat.and_two_pow_sub_one_eq_mod,Nat.mod_mod]
 have e2:(b &&& 9227875636482146303) / 2 ^ 52 = b / 4503599627370496 / 2048 * 2048:=by
  rw [Nat.and_div_two_pow,show 9227875636482146303 / 2 ^ 52 = 2048 by decide]
  exact and_2048 _ (by omega)
 have:=Nat.div_add_mod (b &&& 9227875636482146303) (2 ^ 52)
 rw [e1,e2] at this
 omega
theorem andNot_mid (s:Bool) (q:Nat) (h:q < 9223372036854775808):bits .andNot .u64 (wrd s q:Nat) 9218868437227405312 = (wrd s (q % 4503599627370496):Nat):=by
 have h1:=u64_andNot_nat (wrd s q) 9218868437227405312 (wrd_lt s q h) (by decide)
 refine h1.trans ?_
 rw [show 18446744073709551615 - 9218868437227405312 = 9227875636482146303 by decide,and_clear _ (wrd_lt s q h)]
 congr 1
 cases s
 ·rw [wrd_false,wrd_false];omega
 ·rw [wrd_true,wrd_true];omega
theorem or_mid (s:Bool) (f p:Nat) (hf:f < 4503599627370496) (hp:p < 2048):bits .or .u64 (wrd s f:Nat) ((p * 4503599627370496:Nat):Int) = (wrd s (f+p * 4503599627370496):Nat):=by
 have h1:=bits_or_u64_nat (wrd s f) (p * 4503599627370496) (wrd_lt s f (by omega)) (by omega)
 refine h1.trans ?_
 congr 1
 obtain ⟨t,ht⟩:∃ t,wrd s f = t * 2048 * 4503599627370496+f∧t≤1:=by
  cases s
  ·exact ⟨0,by rw [wrd_false];omega,by omega⟩
  ·exact ⟨1,by rw [wrd_true];omega,by omega⟩
 have e1:(wrd s f ||| p * 4503599627370496) % 2 ^ 52 = f:=by
  rw [Nat.or_mod_two_pow,show p * 4503599627370496 % 2 ^ 52 = 0 by omega,Nat.or_zero]
  omega
 have e2:(wrd s f ||| p * 4503599627370496) / 2 ^ 52 = p+t * 2 ^ 11:=by
  rw [Nat.or_div_two_pow,show p * 4503599627370496 / 2 ^ 52 = p by omega,show wrd s f / 2 ^ 52 = t * 2 ^ 11 by omega,Nat.or_comm]
  exact or_above p t 11 (by omega)
 have:=Nat.div_add_mod (wrd s f ||| p * 4503599627370496) (2 ^ 52)
 rw [e1,e2] at this
 cases s
 ·rw [wrd_false] at *;rw [wrd_false];omega
 ·rw [wrd_true] at *;rw [wrd_true];omega
theorem and_2047 (k:Nat) (h:k < 4096):bits .and .i64 (k:Int) 2047 = ((k % 2048:Nat):Int):=by
 have h1:=Go.bits_nat .i64 62 (by decide) (fun x h0 h1=>by rw [IntKind.wrap_i64];simp at h1;omega) k 2047 (by simp;omega) (by decide)
 refine h1.1.trans ?_
 rw [show (2047:Nat) = 2 ^ 11 - 1 by decide,Nat.and_two_pow_sub_one_eq_mod]
theorem mabs_any (b:Nat) (w:World) (h:b < 18446744073709551616) :
  Calls Tryz.prog 185 #[.float .f64 b] w fun r w'=>r = .returned (.float .f64 (fR b))∧w = w':=by
 have hB:=fun W=>tobits5 b W
 have k:=andNot_top b h
 generalize fR b = q at *
 have hF:=fun W=>frombits5 q W
 go_enter Tryz.func185,Tryz.ntmps185
 go_wp2_with (simp only [k])
 go_ret
 exact ⟨rfl,rfl⟩
theorem isInf_of (b q:Nat) (o:Option Ordering) (i:Bool) (w:World) (hO:FloatKind.f64.format.order q 9218868437227405311 = o)
  (hw:(o = none∧i = false) ∨ (o = some .lt∧i = false) ∨ (o = some .eq∧i = false) ∨ (o = some .gt∧i = true))
  (C1:∀ w',Calls Tryz.prog 185 #[.float .f64 b] w' fun r w''=>r = .returned (.float .f64 q)∧w' = w'') :
  Calls Tryz.prog 159 #[.float .f64 b,.int .i64 0] w fun r w'=>r = .returned (.bool i)∧w = w':=by
 have K1:=hide C1
 clear C1
 rcases hw with ⟨rfl,rfl⟩ | ⟨rfl,rfl⟩ | ⟨rfl,rfl⟩ | ⟨rfl,rfl⟩
 all_goals
  go_enter Tryz.func159,Tryz.ntmps159
  go_wp2_with fail
  refine (uH K1 _).mono ?_
  rintro e w1 ⟨rfl,rfl⟩
  clear K1
  go_wp2
  go_ret
  exact ⟨rfl,rfl⟩
theorem isNaN_of (b:Nat) (o:Option Ordering) (i:Bool) (w:World) (hO:FloatKind.f64.format.order b b = o)
  (hw:(o = none∧i = true) ∨ (o = some .eq∧i = false)) :
  Calls Tryz.prog 160 #[.float .f64 b] w fun r w'=>r = .returned (.bool i)∧w = w':=by
 rcases hw with ⟨rfl,rfl⟩ | ⟨rfl,rfl⟩
 all_goals
  go_enter Tryz.func160,Tryz.ntmps160
  go_wp2
  go_ret
  exact ⟨rfl,rfl⟩
theorem copysign0_any (b:Nat) (w:World) (h:b < 18446744073709551616) :
  Calls Tryz.prog 162 #[.float .f64 0,.float .f64 b] w fun r w'=>r = .returned (.float .f64 (wrd (fS b) 0))∧w = w':=by
 have hB1:∀ W,(callFunc 64 #[.float .f64 0]).run Tryz.prog W = .ok (.value (.int .u64 0)) W:=fun W=>tobits5 0 W
 have hB2:=fun W=>tobits5 b W
 have a1:bits .andNot .u64 0 9223372036854775808 = 0:=by decide +kernel
 have a2:=and_top b h
 cases hs:fS b
 ·rw [hs] at a2
  simp only [Bool.false_eq_true,if_false] at a2
  rw [wrd_false]
  have hF:∀ W,(callFunc 136 #[.int .u64 0]).run Tryz.prog W = .ok (.value (.float .f64 0)) W:=fun W=>frombits5 0 W
  have a3:bits .or .u64 0 0 = 0:=by decide +kernel
  go_enter Tryz.func162,Tryz.ntmps162
  go_wp2_with (simp only [a1,a2,a3])
  go_ret
  exact ⟨rfl,rfl⟩
 ·rw [hs] at a2
  simp only [if_true] at a2
  rw [wrd_true]
  have hF:∀ W,(callFunc 136 #[.int .u64 9223372036854775808]).run Tryz.prog W = .ok (.value (.float .f64 9223372036854775808)) W:=fun W=>frombits5 9223372036854775808 W
  have a3:bits .or .u64 0 9223372036854775808 = 9223372036854775808:=by decide +kernel
  go_enter Tryz.func162,Tryz.ntmps162
  go_wp2_with (simp only [a1,a2,a3])
  go_ret
  exact ⟨rfl,rfl⟩
theorem inf8_any (s:Int) (o:Nat) (w:World) (hw:(s = 1∧o = 9218868437227405312) ∨ (s = -1∧o = 18442240474082181120)) :
  Calls Tryz.prog 163 #[.int .i64 s] w fun e w'=>e = .returned (.float .f64 o)∧w = w':=by
 have hF1:∀ W,(callFunc 136 #[.int .u64 9218868437227405312]).run Tryz.prog W = .ok (.value (.float .f64 9218868437227405312)) W:=fun W=>frombits5 9218868437227405312 W
 have hF2:∀ W,(callFunc 136 #[.int .u64 18442240474082181120]).run Tryz.prog W = .ok (.value (.float .f64 18442240474082181120)) W:=fun W=>frombits5 18442240474082181120 W
 rcases hw with ⟨rfl,rfl⟩ | ⟨rfl,rfl⟩
 all_goals
  go_enter Tryz.func163,Tryz.ntmps163
  go_wp2
  go_ret
  exact ⟨rfl,rfl⟩
theorem normalize_of (b q r:Nat) (e:Int) (o:Option Ordering) (w:World) (hO:FloatKind.f64.format.order q 4503599627370496 = o)
  (hw:(o = some .lt∧e = -52∧∀ i w',(binOp .mul i (.float .f64 b) (.float .f64 4841369599423283200)).run Tryz.prog w' = .ok (.float .f64 r) w') ∨ (o = some .eq∧e = 0∧r = b) ∨ (o = some .gt∧e = 0∧r = b))
  (C1:∀ w',Calls Tryz.prog 185 #[.float .f64 b] w' fun r w''=>r = .returned (.float .f64 q)∧w' = w'') :
  Calls Tryz.prog 161 #[.float .f64 b] w fun s w'=>s = .returned (.tuple #[.float .f64 r,.int .i64 e])∧w = w':=by
 have K1:=hide C1
 clear C1
 rcases hw with ⟨rfl,rfl,hm⟩ | ⟨rfl,rfl,rfl⟩ | ⟨rfl,rfl,rfl⟩
 all_goals
  go_enter Tryz.func161,Tryz.ntmps161
  go_wp2_with fail
  refine (uH K1 _).mono ?_
  rintro e w1 ⟨rfl,rfl⟩
  clear K1
  go_wp2
  exact bodyPost_ret (v:=.tuple #[.float .f64 r,.int .i64 _]) (by simp [results,Tryz.results161,go_sem];try rfl) rfl ⟨rfl,rfl⟩
end Go.Proofs.YtnnfjeieennffaaGreatDoor
