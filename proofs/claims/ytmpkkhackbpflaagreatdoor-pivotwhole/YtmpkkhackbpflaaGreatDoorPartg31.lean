/- Part 31 of the texts. -/
import Derived.Test.YtmpkkhackbpflaaGreatDoorPartg30
set_option maxHeartbeats 8000000
set_option maxRecDepth 20000
namespace Go.Proofs.YtmpkkhackbpflaaGreatDoor
open Go.RowKit
theorem vI(b:Nat)(z1 X z2 ln tp:Int)(w:World)(ai:1≤ln∧ln≤53)
  (C1:∀F,Below w.heap.size w F→Calls Tryz.prog 193 #[.int .u64 b] F fun r N=>ow N r 0 z1 X∧Below F.heap.size F N)
  (C2:∀F n a l c,bc F (.agg #[.bool n,.slice a l c,.int .i64 X]) z1 X→Calls Tryz.prog 233 #[.agg #[.bool false,.slice a l c]] F fun r N=>r=.returned (.int .i64 ln)∧Below F.heap.size F N)
  (C3:∀F n a l c,bc F (.agg #[.bool n,.slice a l c,.int .i64 X]) z1 X→Calls Tryz.prog 237 #[.agg #[.bool false,.slice a l c],.int .i64 (53-ln)] F fun r N=>∃v,r=.returned (.tuple #[v,.int .i64 0])∧ar F.heap.size N v z2∧Below F.heap.size F N)
  (C4:∀B F v,ar B F v z2→Calls Tryz.prog 251 #[v] F fun r N=>r=.returned (.tuple #[.int .i64 z2,.int .i64 0])∧Below F.heap.size F N)
  (C5:∀F n a l c,bc F (.agg #[.bool n,.slice a l c,.int .i64 X]) z1 X→Calls Tryz.prog 214 #[.agg #[.bool false,.slice a l c,.int .i64 X]] F fun r N=>r=.returned (.int .i64 tp)∧Below F.heap.size F N):
  Calls Tryz.prog 242 #[.int .u64 b] w fun r F=>r=.returned (.tuple #[.int .i64 z2,.int .i64 tp])∧Below w.heap.size w F:=by
 have K1:=ac C1;have K2:=ac C2;have K3:=ac C3;have K4:=ac C4;have K5:=ac C5
 clear C1 C2 C3 C4 C5
 go_enter Tryz.func242,Tryz.ntmps242
 go_wp2_with fail
 refine(uH K1 _ (Below.refl _ _)).mono ?_
 rintro e w1 ⟨⟨v,rfl,hv⟩,d⟩
 obtain⟨n1,a1,c1,L1,rfl,i1⟩:=hv
 have x:=a8.new w1 (.bool n1) (.slice a1 L1.length c1) (.int .i64 X)
 have y0:=x.c0;have y1:=x.c1;have y2:=x.c2;have f0:=x.free 0;have f1:=x.free 1;have f2:=x.free 2
 clear x
 generalize hl:L1.length=l1 at*
 have hd:bc w1 (.agg #[.bool n1,.slice a1 l1 c1,.int .i64 X]) z1 X:=⟨n1,a1,c1,L1,by rw[hl],by rw[hl];exact i1⟩
 clear i1 hl K1
 go_wp2_with fail
 clear y0 y1 y2 f0 f1 f2
 have aa:Below w1.heap.size w1 (w1.alloc (.cells #[.bool false,.slice a1 l1 c1,.int .i64 X] 57)):=(Below.refl _ _).alloc (Nat.le_refl _) _
 have x:=a8.new w1 (.bool false) (.slice a1 l1 c1) (.int .i64 X)
 have HV:=ac (hd.below aa)
 have B1:=ac (d.trans (aa.mono d.size))
 clear hd d aa
 refine aG (fun W=>W=(w1.alloc (.cells #[.bool false,.slice a1 l1 c1,.int .i64 X] 57))) rfl ?_
 rintro D e0
 rw[←e0]at x HV B1
 clear e0
 generalize w1.heap.size=g at*
 have G:∀F,Below D.heap.size D F→Below D.heap.size D F∧F.cell? ⟨g,0,none⟩=some (.bool false)∧F.cell? ⟨g,1,none⟩=some (.slice a1 l1 c1):=fun F h=>
  ⟨h,(x.all h).c0,(x.all h).c1⟩
 have Z:=ac G
 have XB:=ac x
 clear G x
 refine wp_region_held_drew (S:=(fun F=>Below D.heap.size D F∧F.cell? ⟨g,0,none⟩=some (.bool false)∧F.cell? ⟨g,1,none⟩=some (.slice a1 l1 c1))) (by kernel_rfl) ?_ (fun z=>?_)
 ·exact uH Z _ (Below.refl _ _).drew
 refine wpAnyH_take (i:=0) (oi:={dst:=some 16,op:=Op.fieldAddr 57 (Operand.tmp 4) 0,type:=0,pos:= "quotient.go:30",after:=#[],guard:=none}) (v:=Value.pointer (some ⟨g,0,none⟩)) rfl (by kernel_rfl) (by kernel_rfl) (by kernel_rfl) (fun _ _ _ h=>h) (Or.inl ⟨by rfl,?_⟩) (by assumption) ?_
 ·(intro w t;(try dsimp only at t);go_simp)
 simp only[Act.put,List.setIfInBounds_toArray,List.set_cons_zero,List.set_cons_succ]
 refine wpAnyH_take (i:=1) (oi:={dst:=some 17,op:=Op.load 55 (Operand.tmp 16),type:=55,pos:= "quotient.go:30",after:=#[{on:=0,ground:=Ground.data}],guard:=none}) (v:=(Value.agg #[.bool false,.slice a1 l1 c1])) rfl (by kernel_rfl) (by kernel_rfl) (by kernel_rfl) (fun _ _ _ h=>h) (Or.inl ⟨by rfl,?_⟩) (by assumption) ?_
 ·(intro w t;(try dsimp only at t);go_simp)
 simp only[Act.put,List.setIfInBounds_toArray,List.set_cons_zero,List.set_cons_succ]
 refine wpAnyH_take (i:=2) (oi:={dst:=some 18,op:=Op.fieldAddr 57 (Operand.tmp 4) 0,type:=0,pos:= "quotient.go:30",after:=#[],guard:=none}) (v:=Value.pointer (some ⟨g,0,none⟩)) rfl (by kernel_rfl) (by kernel_rfl) (by kernel_rfl) (fun _ _ _ h=>h) (Or.inl ⟨by rfl,?_⟩) (by assumption) ?_
 ·(intro w t;(try dsimp only at t);go_simp)
 simp only[Act.put,List.setIfInBounds_toArray,List.set_cons_zero,List.set_cons_succ]
 refine wpAnyH_take (i:=3) (oi:={dst:=some 19,op:=Op.load 55 (Operand.tmp 18),type:=55,pos:= "quotient.go:30",after:=#[{on:=2,ground:=Ground.data}],guard:=none}) (v:=(Value.agg #[.bool false,.slice a1 l1 c1])) rfl (by kernel_rfl) (by kernel_rfl) (by kernel_rfl) (fun _ _ _ h=>h) (Or.inl ⟨by rfl,?_⟩) (by assumption) ?_
 ·(intro w t;(try dsimp only at t);go_simp)
 simp only[Act.put,List.setIfInBounds_toArray,List.set_cons_zero,List.set_cons_succ]
 refine wpAnyH_ready (rs:=[4,10]) (by kernel_rfl) (by simp) ?_
 refine AllReadyH.cons (o:={dst:=some 20,op:=Op.call {callee:=Callee.value (Operand.func 233),args:=#[Operand.tmp 19],argTypes:=#[55]},type:=3,pos:= "quotient.go:30",after:=#[{on:=3,ground:=Ground.data}],guard:=none}) rfl (fun K G=>?_) (AllReadyH.cons (o:={dst:=some 6,op:=Op.alloc 55,type:=0,pos:= "quotient.go:30",after:=#[],guard:=none}) rfl (fun K G=>?_) AllReadyH.nil)
 ·go_simp
  refine(uH K2 _ _ _ _ _ ((uH HV).below (And.left (by assumption)))).mono ?_
  rintro e wn ⟨rfl,d⟩
  have ad:Below D.heap.size D wn:=Below.trans (And.left (by assumption)) (d.mono (Below.size (And.left (by assumption))))
  clear d
  go_wp2_with fail
  refine G.out _ _ ?_ (fun z=>?_)
  ·exact uH Z _ ad
  clear G K
  refine wpAnyH_take (i:=5) (oi:={dst:=some 21,op:=Op.binOp BinOp.sub 3 (Operand.const (Value.int IntKind.i64 53)) (Operand.tmp 20) 3,type:=3,pos:= "quotient.go:30",after:=#[{on:=4,ground:=Ground.data}],guard:=none}) (v:=(.int .i64 (53-ln))) rfl (by kernel_rfl) (by kernel_rfl) (by kernel_rfl) (fun _ _ _ h=>h) (Or.inl ⟨by rfl,?_⟩) (by assumption) ?_
  ·(intro w t;(try dsimp only at t);go_simp;exact bF _ (by omega))
  simp only[Act.put,List.setIfInBounds_toArray,List.set_cons_zero,List.set_cons_succ]
  refine wpAnyH_ready (rs:=[6,10]) (by kernel_rfl) (by simp) ?_
  refine AllReadyH.cons (o:={dst:=some 22,op:=Op.call {callee:=Callee.value (Operand.func 237),args:=#[Operand.tmp 17,Operand.tmp 21],argTypes:=#[55,3]},type:=210,pos:= "quotient.go:30",after:=#[{on:=1,ground:=Ground.data},{on:=5,ground:=Ground.data},{on:=4,ground:=Ground.chain}],guard:=none}) rfl (fun K G=>?_) (AllReadyH.cons (o:={dst:=some 6,op:=Op.alloc 55,type:=0,pos:= "quotient.go:30",after:=#[],guard:=none}) rfl (fun K G=>?_) AllReadyH.nil)
  ·go_simp
   refine(uH K3 _ _ _ _ _ ((uH HV).below (And.left (by assumption)))).mono ?_
   rintro e O ⟨v,rfl,⟨H,I,J,L2,rfl,i2⟩,d⟩
   have Q:Below D.heap.size D O:=Below.trans (And.left (by assumption)) (d.mono (Below.size (And.left (by assumption))))
   have I2:=ac (show ar 0 O (.agg #[.bool H,.slice I L2.length J]) z2 from ar.mono ⟨H,I,J,L2,rfl,i2⟩ (Nat.zero_le _))
   clear i2
   generalize L2.length=M at*
   clear d
   go_wp2_with fail
   refine G.out _ _ ?_ (fun z=>?_)
   ·exact uH Z _ Q
   clear G K
   refine wpAnyH_take (i:=7) (oi:={dst:=some 15,op:=Op.move (Operand.tmp 22),type:=210,pos:= "quotient.go:30",after:=#[{on:=6,ground:=Ground.data}],guard:=none}) (v:=(Value.tuple #[.agg #[.bool H,.slice I M J],.int .i64 0])) rfl (by kernel_rfl) (by kernel_rfl) (by kernel_rfl) (fun _ _ _ h=>h) (Or.inl ⟨by rfl,?_⟩) (by assumption) ?_
   ·(intro w t;(try dsimp only at t);go_simp)
   simp only[Act.put,List.setIfInBounds_toArray,List.set_cons_zero,List.set_cons_succ]
   refine wpAnyH_take (i:=8) (oi:={dst:=some 23,op:=Op.extract (Operand.tmp 15) 0,type:=55,pos:= "quotient.go:30",after:=#[{on:=7,ground:=Ground.data}],guard:=none}) (v:=(Value.agg #[.bool H,.slice I M J])) rfl (by kernel_rfl) (by kernel_rfl) (by kernel_rfl) (fun _ _ _ h=>h) (Or.inl ⟨by rfl,?_⟩) (by assumption) ?_
   ·(intro w t;(try dsimp only at t);go_simp)
   simp only[Act.put,List.setIfInBounds_toArray,List.set_cons_zero,List.set_cons_succ]
   refine wpAnyH_take (i:=9) (oi:={dst:=some 24,op:=Op.extract (Operand.tmp 15) 1,type:=33,pos:= "quotient.go:30",after:=#[{on:=7,ground:=Ground.data},{on:=11,ground:=Ground.gcOnly Departure.lateStores}],guard:=none}) (v:=(.int .i64 0)) rfl (by kernel_rfl) (by kernel_rfl) (by kernel_rfl) (fun _ _ _ h=>h) (Or.inl ⟨by rfl,?_⟩) (by assumption) ?_
   ·(intro w t;(try dsimp only at t);go_simp)
   simp only[Act.put,List.setIfInBounds_toArray,List.set_cons_zero,List.set_cons_succ]
   refine wpAnyH_ready (rs:=[10]) (by kernel_rfl) (by simp) ?_
   refine AllReadyH.cons (o:={dst:=some 6,op:=Op.alloc 55,type:=0,pos:= "quotient.go:30",after:=#[],guard:=none}) rfl (fun K G=>?_) AllReadyH.nil
   go_wp2_with fail
   refine G.out _ _ ?_ (fun z=>?_)
   ·exact uH Z _ (Below.alloc (And.left (by assumption)) (Below.size (And.left (by assumption))) _)
   clear G K
   have L:=aC.new O (.bool false) (.slice none 0 0)
   have U:D.heap.size≤O.heap.size:=Below.size (B:=D.heap.size) (w:=D) Q
   have I0:=I2
   have I2:=ac (show ar 0 (O.alloc (.cells #[.bool false,.slice none 0 0] 55)) (.agg #[.bool H,.slice I M J]) z2 from(uH I2).below ((Below.refl _ _).alloc (Nat.le_refl _) _))
   have hW:=Below.alloc Q U (.cells #[.bool false,.slice none 0 0] 55)
   have IS:=ac (show ar 0 ((((O.alloc (.cells #[.bool false,.slice none 0 0] 55)).setCell ⟨O.heap.size,0,none⟩ (.bool H)).setCell ⟨O.heap.size,1,none⟩ (.slice I M J))) (.agg #[.bool H,.slice I M J]) z2 from(uH I0).below ((((Below.refl _ _).alloc (Nat.le_refl _) _).setCell (Nat.le_refl _) _).setCell (Nat.le_refl _) _))
   generalize ae:(O.alloc (.cells #[.bool false,.slice none 0 0] 55))=wa at*
   generalize O.heap.size=V at*
   refine wpAnyH_ready (rs:=[11]) (by kernel_rfl) (by simp) ?_
   refine AllReadyH.cons (o:={dst:=none,op:=Op.store 55 (Operand.tmp 6) (Operand.tmp 23),type:=0,pos:= "quotient.go:30",after:=#[{on:=10,ground:=Ground.data},{on:=8,ground:=Ground.data},{on:=6,ground:=Ground.chain},{on:=0,ground:=Ground.phase},{on:=1,ground:=Ground.phase},{on:=2,ground:=Ground.phase},{on:=3,ground:=Ground.phase},{on:=4,ground:=Ground.phase},{on:=5,ground:=Ground.phase},{on:=6,ground:=Ground.phase},{on:=7,ground:=Ground.phase},{on:=8,ground:=Ground.phase},{on:=9,ground:=Ground.textOnly Departure.lateStores},{on:=10,ground:=Ground.phase}],guard:=none}) rfl (fun K G=>?_) AllReadyH.nil
   have q0:=L.c0;have q1:=L.c1;have f0:=L.free 0;have f1:=L.free 1
   go_wp2_with fail
   refine G.out _ _ ?_ (fun z=>?_)
   ·exact uH Z _ (Below.setCell (Below.setCell (And.left (by assumption)) U _) U _)
   clear G K q0 q1 f0 f1
   refine wpAnyH_take (i:=12) (oi:={dst:=some 7,op:=Op.assign (Operand.tmp 24),type:=33,pos:= "quotient.go:30",after:=#[{on:=9,ground:=Ground.data},{on:=11,ground:=Ground.chain},{on:=0,ground:=Ground.phase},{on:=1,ground:=Ground.phase},{on:=2,ground:=Ground.phase},{on:=3,ground:=Ground.phase},{on:=4,ground:=Ground.phase},{on:=5,ground:=Ground.phase},{on:=6,ground:=Ground.phase},{on:=7,ground:=Ground.phase},{on:=8,ground:=Ground.phase},{on:=9,ground:=Ground.phase},{on:=10,ground:=Ground.phase},{on:=11,ground:=Ground.phase}],guard:=none}) (v:=(.int .i64 0)) rfl (by kernel_rfl) (by kernel_rfl) (by kernel_rfl) (fun _ _ _ h=>h) (Or.inl ⟨by rfl,?_⟩) (by assumption) ?_
   ·(intro w t;(try dsimp only at t);go_simp)
   simp only[Act.put,List.setIfInBounds_toArray,List.set_cons_zero,List.set_cons_succ]
   refine wpAnyH_done (by kernel_rfl) ?_ _
   have bz:=L.put (.bool H) (.slice I M J)
   have HZ:=ac (show ar 0 ((wa.setCell ⟨V,0,none⟩ (.bool H)).setCell ⟨V,1,none⟩ (.slice I M J)) (.agg #[.bool H,.slice I M J]) z2 from uH IS)
   have BZ:=ac (show Below D.heap.size D ((wa.setCell ⟨V,0,none⟩ (.bool H)).setCell ⟨V,1,none⟩ (.slice I M J))from Below.setCell (Below.setCell hW U _) U _)
   have r0:=bz.c0;have r1:=bz.c1
   clear L I2 z
   generalize ((wa.setCell ⟨V,0,none⟩ (.bool H)).setCell ⟨V,1,none⟩ (.slice I M J))=WE at*
   go_wp2_with fail
   refine(uH K4 _ _ _ (uH HZ)).mono ?_
   rintro e we ⟨rfl,d⟩
   have T:=ac ((uH BZ).trans (d.mono (uH BZ).size))
   have HW:=ac ((uH HV).below (uH T))
   have Y:=(uH XB).all (uH T)
   have y0:=Y.c0;have y1:=Y.c1;have y2:=Y.c2
   clear r0 r1 bz d BZ HZ Y
   go_wp2_with fail
   refine(uH K5 _ _ _ _ _ (uH HW)).mono ?_
   rintro e wf ⟨rfl,d⟩
   have BF:=ac ((uH B1).trans (((uH T).trans (d.mono (uH T).size)).mono (uH B1).size))
   clear d T HW y0 y1 y2
   go_wp2
   exact bodyPost_ret (v:=.tuple #[.int .i64 z2,.int .i64 tp]) (by simp[results,Tryz.results242,go_sem]) rfl ⟨rfl,uH BF⟩
  ·go_wp2_with fail
   refine G.out _ _ ?_ (fun z=>?_)
   ·exact uH Z _ (Below.alloc (And.left (by assumption)) (Below.size (And.left (by assumption))) _)
   clear G K
   have L:=aC.new wn (.bool false) (.slice none 0 0)
   have U:D.heap.size≤wn.heap.size:=Below.size (B:=D.heap.size) (w:=D) ad
   have hW:=Below.alloc ad U (.cells #[.bool false,.slice none 0 0] 55)
   generalize ae:(wn.alloc (.cells #[.bool false,.slice none 0 0] 55))=wa at*
   generalize wn.heap.size=V at*
   refine wpAnyH_ready (rs:=[6]) (by kernel_rfl) (by simp) ?_
   refine AllReadyH.cons (o:={dst:=some 22,op:=Op.call {callee:=Callee.value (Operand.func 237),args:=#[Operand.tmp 17,Operand.tmp 21],argTypes:=#[55,3]},type:=210,pos:= "quotient.go:30",after:=#[{on:=1,ground:=Ground.data},{on:=5,ground:=Ground.data},{on:=4,ground:=Ground.chain}],guard:=none}) rfl (fun K G=>?_) AllReadyH.nil
   go_simp
   refine(uH K3 _ _ _ _ _ ((uH HV).below (And.left (by assumption)))).mono ?_
   rintro e O ⟨v,rfl,⟨H,I,J,L2,rfl,i2⟩,d⟩
   have Q:Below D.heap.size D O:=Below.trans (And.left (by assumption)) (d.mono (Below.size (And.left (by assumption))))
   have I2:=ac (show ar (V+1) O (.agg #[.bool H,.slice I L2.length J]) z2 from ar.mono ⟨H,I,J,L2,rfl,i2⟩ (Nat.succ_le_of_lt L.lt))
   have L:=L.all d
   clear i2
   generalize L2.length=M at*
   clear d
   go_wp2_with fail
   refine G.out _ _ ?_ (fun z=>?_)
   ·exact uH Z _ Q
   clear G K
   refine wpAnyH_take (i:=7) (oi:={dst:=some 15,op:=Op.move (Operand.tmp 22),type:=210,pos:= "quotient.go:30",after:=#[{on:=6,ground:=Ground.data}],guard:=none}) (v:=(Value.tuple #[.agg #[.bool H,.slice I M J],.int .i64 0])) rfl (by kernel_rfl) (by kernel_rfl) (by kernel_rfl) (fun _ _ _ h=>h) (Or.inl ⟨by rfl,?_⟩) (by assumption) ?_
   ·(intro w t;(try dsimp only at t);go_simp)
   simp only[Act.put,List.setIfInBounds_toArray,List.set_cons_zero,List.set_cons_succ]
   refine wpAnyH_take (i:=8) (oi:={dst:=some 23,op:=Op.extract (Operand.tmp 15) 0,type:=55,pos:= "quotient.go:30",after:=#[{on:=7,ground:=Ground.data}],guard:=none}) (v:=(Value.agg #[.bool H,.slice I M J])) rfl (by kernel_rfl) (by kernel_rfl) (by kernel_rfl) (fun _ _ _ h=>h) (Or.inl ⟨by rfl,?_⟩) (by assumption) ?_
   ·(intro w t;(try dsimp only at t);go_simp)
   simp only[Act.put,List.setIfInBounds_toArray,List.set_cons_zero,List.set_cons_succ]
   refine wpAnyH_take (i:=9) (oi:={dst:=some 24,op:=Op.extract (Operand.tmp 15) 1,type:=33,pos:= "quotient.go:30",after:=#[{on:=7,ground:=Ground.data},{on:=11,ground:=Ground.gcOnly Departure.lateStores}],guard:=none}) (v:=(.int .i64 0)) rfl (by kernel_rfl) (by kernel_rfl) (by kernel_rfl) (fun _ _ _ h=>h) (Or.inl ⟨by rfl,?_⟩) (by assumption) ?_
   ·(intro w t;(try dsimp only at t);go_simp)
   simp only[Act.put,List.setIfInBounds_toArray,List.set_cons_zero,List.set_cons_succ]
   refine wpAnyH_ready (rs:=[11]) (by kernel_rfl) (by simp) ?_
   refine AllReadyH.cons (o:={dst:=none,op:=Op.store 55 (Operand.tmp 6) (Operand.tmp 23),type:=0,pos:= "quotient.go:30",after:=#[{on:=10,ground:=Ground.data},{on:=8,ground:=Ground.data},{on:=6,ground:=Ground.chain},{on:=0,ground:=Ground.phase},{on:=1,ground:=Ground.phase},{on:=2,ground:=Ground.phase},{on:=3,ground:=Ground.phase},{on:=4,ground:=Ground.phase},{on:=5,ground:=Ground.phase},{on:=6,ground:=Ground.phase},{on:=7,ground:=Ground.phase},{on:=8,ground:=Ground.phase},{on:=9,ground:=Ground.textOnly Departure.lateStores},{on:=10,ground:=Ground.phase}],guard:=none}) rfl (fun K G=>?_) AllReadyH.nil
   have q0:=L.c0;have q1:=L.c1;have f0:=L.free 0;have f1:=L.free 1
   go_wp2_with fail
   refine G.out _ _ ?_ (fun z=>?_)
   ·exact uH Z _ (Below.setCell (Below.setCell (And.left (by assumption)) U _) U _)
   clear G K q0 q1 f0 f1
   refine wpAnyH_take (i:=12) (oi:={dst:=some 7,op:=Op.assign (Operand.tmp 24),type:=33,pos:= "quotient.go:30",after:=#[{on:=9,ground:=Ground.data},{on:=11,ground:=Ground.chain},{on:=0,ground:=Ground.phase},{on:=1,ground:=Ground.phase},{on:=2,ground:=Ground.phase},{on:=3,ground:=Ground.phase},{on:=4,ground:=Ground.phase},{on:=5,ground:=Ground.phase},{on:=6,ground:=Ground.phase},{on:=7,ground:=Ground.phase},{on:=8,ground:=Ground.phase},{on:=9,ground:=Ground.phase},{on:=10,ground:=Ground.phase},{on:=11,ground:=Ground.phase}],guard:=none}) (v:=(.int .i64 0)) rfl (by kernel_rfl) (by kernel_rfl) (by kernel_rfl) (fun _ _ _ h=>h) (Or.inl ⟨by rfl,?_⟩) (by assumption) ?_
   ·(intro w t;(try dsimp only at t);go_simp)
   simp only[Act.put,List.setIfInBounds_toArray,List.set_cons_zero,List.set_cons_succ]
   refine wpAnyH_done (by kernel_rfl) ?_ _
   have bz:=L.put (.bool H) (.slice I M J)
   have HZ:=ac (show ar 0 ((O.setCell ⟨V,0,none⟩ (.bool H)).setCell ⟨V,1,none⟩ (.slice I M J)) (.agg #[.bool H,.slice I M J]) z2 from((uH I2).put2 (p:=⟨V,0,none⟩) (q:=⟨V,1,none⟩) (by simp) (by simp) (.bool H) (.slice I M J)).mono (Nat.zero_le _))
   have BZ:=ac (show Below D.heap.size D ((O.setCell ⟨V,0,none⟩ (.bool H)).setCell ⟨V,1,none⟩ (.slice I M J))from Below.setCell (Below.setCell Q U _) U _)
   have r0:=bz.c0;have r1:=bz.c1
   clear L I2 z
   generalize ((O.setCell ⟨V,0,none⟩ (.bool H)).setCell ⟨V,1,none⟩ (.slice I M J))=WE at*
   go_wp2_with fail
   refine(uH K4 _ _ _ (uH HZ)).mono ?_
   rintro e we ⟨rfl,d⟩
   have T:=ac ((uH BZ).trans (d.mono (uH BZ).size))
   have HW:=ac ((uH HV).below (uH T))
   have Y:=(uH XB).all (uH T)
   have y0:=Y.c0;have y1:=Y.c1;have y2:=Y.c2
   clear r0 r1 bz d BZ HZ Y
   go_wp2_with fail
   refine(uH K5 _ _ _ _ _ (uH HW)).mono ?_
   rintro e wf ⟨rfl,d⟩
   have BF:=ac ((uH B1).trans (((uH T).trans (d.mono (uH T).size)).mono (uH B1).size))
   clear d T HW y0 y1 y2
   go_wp2
   exact bodyPost_ret (v:=.tuple #[.int .i64 z2,.int .i64 tp]) (by simp[results,Tryz.results242,go_sem]) rfl ⟨rfl,uH BF⟩
 ·go_wp2_with fail
  refine G.out _ _ ?_ (fun z=>?_)
  ·exact uH Z _ (((Below.refl D.heap.size D).alloc (Nat.le_refl _) _).drew)
  clear G K
  have L:aC (D.alloc (.cells #[.bool false,.slice none 0 0] 55)).drew D.heap.size (.bool false) (.slice none 0 0):=(aC.new D (.bool false) (.slice none 0 0)).drew
  have U:D.heap.size≤D.heap.size:=Nat.le_refl _
  generalize ae:(D.alloc (.cells #[.bool false,.slice none 0 0] 55)).drew=wa at*
  refine wpAnyH_ready (rs:=[4]) (by kernel_rfl) (by simp) ?_
  refine AllReadyH.cons (o:={dst:=some 20,op:=Op.call {callee:=Callee.value (Operand.func 233),args:=#[Operand.tmp 19],argTypes:=#[55]},type:=3,pos:= "quotient.go:30",after:=#[{on:=3,ground:=Ground.data}],guard:=none}) rfl (fun K G=>?_) AllReadyH.nil
  go_simp
  refine(uH K2 _ _ _ _ _ ((uH HV).below (And.left (by assumption)))).mono ?_
  rintro e wn ⟨rfl,d⟩
  have ad:Below D.heap.size D wn:=Below.trans (And.left (by assumption)) (d.mono (Below.size (And.left (by assumption))))
  have L:=L.all d
  clear d
  go_wp2_with fail
  refine G.out _ _ ?_ (fun z=>?_)
  ·exact uH Z _ ad
  clear G K
  refine wpAnyH_take (i:=5) (oi:={dst:=some 21,op:=Op.binOp BinOp.sub 3 (Operand.const (Value.int IntKind.i64 53)) (Operand.tmp 20) 3,type:=3,pos:= "quotient.go:30",after:=#[{on:=4,ground:=Ground.data}],guard:=none}) (v:=(.int .i64 (53-ln))) rfl (by kernel_rfl) (by kernel_rfl) (by kernel_rfl) (fun _ _ _ h=>h) (Or.inl ⟨by rfl,?_⟩) (by assumption) ?_
  ·(intro w t;(try dsimp only at t);go_simp;exact bF _ (by omega))
  simp only[Act.put,List.setIfInBounds_toArray,List.set_cons_zero,List.set_cons_succ]
  refine wpAnyH_ready (rs:=[6]) (by kernel_rfl) (by simp) ?_
  refine AllReadyH.cons (o:={dst:=some 22,op:=Op.call {callee:=Callee.value (Operand.func 237),args:=#[Operand.tmp 17,Operand.tmp 21],argTypes:=#[55,3]},type:=210,pos:= "quotient.go:30",after:=#[{on:=1,ground:=Ground.data},{on:=5,ground:=Ground.data},{on:=4,ground:=Ground.chain}],guard:=none}) rfl (fun K G=>?_) AllReadyH.nil
  go_simp
  refine(uH K3 _ _ _ _ _ ((uH HV).below (And.left (by assumption)))).mono ?_
  rintro e O ⟨v,rfl,⟨H,I,J,L2,rfl,i2⟩,d⟩
  have Q:Below D.heap.size D O:=Below.trans (And.left (by assumption)) (d.mono (Below.size (And.left (by assumption))))
  have I2:=ac (show ar (D.heap.size+1) O (.agg #[.bool H,.slice I L2.length J]) z2 from ar.mono ⟨H,I,J,L2,rfl,i2⟩ (Nat.succ_le_of_lt L.lt))
  have L:=L.all d
  clear i2
  generalize L2.length=M at*
  clear d
  go_wp2_with fail
  refine G.out _ _ ?_ (fun z=>?_)
  ·exact uH Z _ Q
  clear G K
  refine wpAnyH_take (i:=7) (oi:={dst:=some 15,op:=Op.move (Operand.tmp 22),type:=210,pos:= "quotient.go:30",after:=#[{on:=6,ground:=Ground.data}],guard:=none}) (v:=(Value.tuple #[.agg #[.bool H,.slice I M J],.int .i64 0])) rfl (by kernel_rfl) (by kernel_rfl) (by kernel_rfl) (fun _ _ _ h=>h) (Or.inl ⟨by rfl,?_⟩) (by assumption) ?_
  ·(intro w t;(try dsimp only at t);go_simp)
  simp only[Act.put,List.setIfInBounds_toArray,List.set_cons_zero,List.set_cons_succ]
  refine wpAnyH_take (i:=8) (oi:={dst:=some 23,op:=Op.extract (Operand.tmp 15) 0,type:=55,pos:= "quotient.go:30",after:=#[{on:=7,ground:=Ground.data}],guard:=none}) (v:=(Value.agg #[.bool H,.slice I M J])) rfl (by kernel_rfl) (by kernel_rfl) (by kernel_rfl) (fun _ _ _ h=>h) (Or.inl ⟨by rfl,?_⟩) (by assumption) ?_
  ·(intro w t;(try dsimp only at t);go_simp)
  simp only[Act.put,List.setIfInBounds_toArray,List.set_cons_zero,List.set_cons_succ]
  refine wpAnyH_take (i:=9) (oi:={dst:=some 24,op:=Op.extract (Operand.tmp 15) 1,type:=33,pos:= "quotient.go:30",after:=#[{on:=7,ground:=Ground.data},{on:=11,ground:=Ground.gcOnly Departure.lateStores}],guard:=none}) (v:=(.int .i64 0)) rfl (by kernel_rfl) (by kernel_rfl) (by kernel_rfl) (fun _ _ _ h=>h) (Or.inl ⟨by rfl,?_⟩) (by assumption) ?_
  ·(intro w t;(try dsimp only at t);go_simp)
  simp only[Act.put,List.setIfInBounds_toArray,List.set_cons_zero,List.set_cons_succ]
  refine wpAnyH_ready (rs:=[11]) (by kernel_rfl) (by simp) ?_
  refine AllReadyH.cons (o:={dst:=none,op:=Op.store 55 (Operand.tmp 6) (Operand.tmp 23),type:=0,pos:= "quotient.go:30",after:=#[{on:=10,ground:=Ground.data},{on:=8,ground:=Ground.data},{on:=6,ground:=Ground.chain},{on:=0,ground:=Ground.phase},{on:=1,ground:=Ground.phase},{on:=2,ground:=Ground.phase},{on:=3,ground:=Ground.phase},{on:=4,ground:=Ground.phase},{on:=5,ground:=Ground.phase},{on:=6,ground:=Ground.phase},{on:=7,ground:=Ground.phase},{on:=8,ground:=Ground.phase},{on:=9,ground:=Ground.textOnly Departure.lateStores},{on:=10,ground:=Ground.phase}],guard:=none}) rfl (fun K G=>?_) AllReadyH.nil
  have q0:=L.c0;have q1:=L.c1;have f0:=L.free 0;have f1:=L.free 1
  go_wp2_with fail
  refine G.out _ _ ?_ (fun z=>?_)
  ·exact uH Z _ (Below.setCell (Below.setCell (And.left (by assumption)) U _) U _)
  clear G K q0 q1 f0 f1
  refine wpAnyH_take (i:=12) (oi:={dst:=some 7,op:=Op.assign (Operand.tmp 24),type:=33,pos:= "quotient.go:30",after:=#[{on:=9,ground:=Ground.data},{on:=11,ground:=Ground.chain},{on:=0,ground:=Ground.phase},{on:=1,ground:=Ground.phase},{on:=2,ground:=Ground.phase},{on:=3,ground:=Ground.phase},{on:=4,ground:=Ground.phase},{on:=5,ground:=Ground.phase},{on:=6,ground:=Ground.phase},{on:=7,ground:=Ground.phase},{on:=8,ground:=Ground.phase},{on:=9,ground:=Ground.phase},{on:=10,ground:=Ground.phase},{on:=11,ground:=Ground.phase}],guard:=none}) (v:=(.int .i64 0)) rfl (by kernel_rfl) (by kernel_rfl) (by kernel_rfl) (fun _ _ _ h=>h) (Or.inl ⟨by rfl,?_⟩) (by assumption) ?_
  ·(intro w t;(try dsimp only at t);go_simp)
  simp only[Act.put,List.setIfInBounds_toArray,List.set_cons_zero,List.set_cons_succ]
  refine wpAnyH_done (by kernel_rfl) ?_ _
  have bz:=L.put (.bool H) (.slice I M J)
  have HZ:=ac (show ar 0 ((O.setCell ⟨D.heap.size,0,none⟩ (.bool H)).setCell ⟨D.heap.size,1,none⟩ (.slice I M J)) (.agg #[.bool H,.slice I M J]) z2 from((uH I2).put2 (p:=⟨D.heap.size,0,none⟩) (q:=⟨D.heap.size,1,none⟩) (by simp) (by simp) (.bool H) (.slice I M J)).mono (Nat.zero_le _))
  have BZ:=ac (show Below D.heap.size D ((O.setCell ⟨D.heap.size,0,none⟩ (.bool H)).setCell ⟨D.heap.size,1,none⟩ (.slice I M J))from Below.setCell (Below.setCell Q U _) U _)
  have r0:=bz.c0;have r1:=bz.c1
  clear L I2 z
  generalize ((O.setCell ⟨D.heap.size,0,none⟩ (.bool H)).setCell ⟨D.heap.size,1,none⟩ (.slice I M J))=WE at*
  go_wp2_with fail
  refine(uH K4 _ _ _ (uH HZ)).mono ?_
  rintro e we ⟨rfl,d⟩
  have T:=ac ((uH BZ).trans (d.mono (uH BZ).size))
  have HW:=ac ((uH HV).below (uH T))
  have Y:=(uH XB).all (uH T)
  have y0:=Y.c0;have y1:=Y.c1;have y2:=Y.c2
  clear r0 r1 bz d BZ HZ Y
  go_wp2_with fail
  refine(uH K5 _ _ _ _ _ (uH HW)).mono ?_
  rintro e wf ⟨rfl,d⟩
  have BF:=ac ((uH B1).trans (((uH T).trans (d.mono (uH T).size)).mono (uH B1).size))
  clear d T HW y0 y1 y2
  go_wp2
  exact bodyPost_ret (v:=.tuple #[.int .i64 z2,.int .i64 tp]) (by simp[results,Tryz.results242,go_sem]) rfl ⟨rfl,uH BF⟩
theorem bc.limbs{w:World}{n:Bool}{a:Option Addr}{l c:Nat}{X m Y:Int}(h:bc w (.agg #[.bool n,.slice a l c,.int .i64 X]) m Y)(z:m.natAbs<eN):
  ∃L,l=L.length∧af w a c L∧aE false L=true∧val L=m.natAbs∧L.length≤512:=by
 obtain⟨J,a',M,L,t,F,d,G,H,N⟩:=h.right z
 simp only[Value.agg.injEq,Array.mk.injEq,List.cons.injEq,Value.bool.injEq,Value.slice.injEq,and_true]at t
 obtain⟨rfl,⟨rfl,I,rfl⟩,_⟩:=t
 have D:aE false L=true:=by
  simp only[aE,Bool.and_eq_true,decide_eq_true_eq,Bool.not_eq_true',Bool.and_eq_false_iff,decide_eq_false_iff_not,Bool.or_eq_true]at d⊢
  exact⟨⟨d.1.1,Or.inr trivial⟩,d.2⟩
 exact⟨L,I,F,D,by rw[←G,bh],H⟩
theorem Ek{B:Nat}{w:World}{v:Value}{x:Int}(z:ar B w v x)(I:-9223372036854775808≤x)(J:x≤9223372036854775807):
  Calls Tryz.prog 251 #[v] w fun e D=>e=.returned (.tuple #[.int .i64 x,.int .i64 0])∧Below w.heap.size w D:=by
 obtain⟨d,F,G,A,rfl,H,l,t,L⟩:=z.right (dK _ (by omega))
 have:=rH d F G A w H (by omega)
 have h:jm x=true:=by unfold jm;rw[decide_eq_true (by omega)]
 rwa[show tT d A=x by unfold tT;rw[l,t,h];rfl,show tR d A=0 by unfold tR;rw[l,t,h];rfl]at this
theorem pV(b:Nat)(w:World)(H:b<18446744073709551616)(I:ah b=true)(O:fK b≠0)(Q:c8 w):
  Calls Tryz.prog 242 #[.int .u64 b] w fun r d=>r=.returned (.tuple #[.int .i64 (dS b:Nat),.int .i64 (dT b)])∧Below w.heap.size w d:=by
 obtain⟨U,V,X,Y,Z,x6,x7,x8⟩:=dk b H I O
 have G:(fD b).natAbs<eN:=dK _ (by omega)
 have T:(dS b:Int)=((fD b).natAbs*2^(53-(bl (fD b).natAbs:Int)).toNat:Nat):=by
  unfold dS
  rw[show(53-(bl (fD b).natAbs:Int)).toNat=53-bl (fD b).natAbs by omega]
 refine vI b (fD b) (fX b) (dS b:Nat) (bl (fD b).natAbs:Nat) (dT b) w (by omega) (fun d h=>ef b d H I (Q.all h)) ?_ ?_ ?_ ?_
 ·intro d n a l c h
  obtain⟨L,rfl,t,D,F,N⟩:=h.limbs G
  have:=sJ false a c L d t (by omega)
  rwa[jq t.2.1 D,F]at this
 ·intro d n a l c h
  obtain⟨L,rfl,t,D,F,N⟩:=h.limbs G
  have:=iR false a c L (53-(bl (fD b).natAbs:Int)) d t (by omega) (by omega)
  have J:qJ false L (53-(bl (fD b).natAbs:Int))=(dS b:Int):=by
   unfold qJ
   rw[if_pos (by omega),F,T];rfl
  have z:nr false L (53-(bl (fD b).natAbs:Int))=true:=by unfold nr;rw[D,decide_eq_true (by omega)];rfl
  have M:((dS b:Nat):Int).natAbs<eN:=dK _ (by omega)
  rwa[show wI false L (53-(bl (fD b).natAbs:Int))=0 by unfold wI;rw[z,if_pos rfl,J,gE _ M],show uf false L (53-(bl (fD b).natAbs:Int))=(dS b:Nat) by unfold uf;rw[z,if_pos rfl,J,gF _ M]]at this
 ·intro B d v h
  exact Ek h (by omega) (by omega)
 ·intro d n a l c h
  obtain⟨L,rfl,t,D,F,N⟩:=h.limbs G
  have:=mj false a c L (fX b) d t (by omega)
  rwa[jq t.2.1 D,F,bF _ (by omega)]at this
theorem vJ(a b:Nat)(x y z D q E M X T:Int)(w:World)(r o:Nat)(ht:-3000≤z∧z≤3000∧-3000≤D∧D≤3000)(Z:E=z-D-55)
  (C1:∀h,Below w.heap.size w h→Calls Tryz.prog 242 #[.int .u64 a] h fun r l=>r=.returned (.tuple #[.int .i64 x,.int .i64 z])∧Below h.heap.size h l)
  (C2:∀h,Below w.heap.size w h→Calls Tryz.prog 242 #[.int .u64 b] h fun r l=>r=.returned (.tuple #[.int .i64 y,.int .i64 D])∧Below h.heap.size h l)
  (C3:∀h,Calls Tryz.prog 243 #[.int .i64 x,.int .i64 y] h fun r l=>r=.returned (.int .i64 q)∧h=l)
  (C4:∀h,Calls Tryz.prog 219 #[.int .i64 q] h fun r l=>∃v,r=.returned v∧ar h.heap.size l v q∧Below h.heap.size h l)
  (C5:∀B h v,Below w.heap.size w h→ar B h v q→Calls Tryz.prog 218 #[v,.int .i64 E] h fun r l=>ow l r 0 M X∧Below h.heap.size h l)
  (C6:∀h v,Below w.heap.size w h→bc h v M X→Calls Tryz.prog 195 #[v] h fun s l=>s=.returned (.tuple #[.int .u64 (r:Nat),.int .u8 T,.int .i64 0])∧Below h.heap.size h l)
  (C7:∀h,Calls Tryz.prog 224 #[.int .u64 (r:Nat),.int .u64 a,.int .u64 b] h fun s l=>s=.returned (.int .u64 (o:Nat))∧Below h.heap.size h l):
  Calls Tryz.prog 226 #[.int .u64 a,.int .u64 b] w fun s h=>s=.returned (.tuple #[.int .u64 (o:Nat),.int .u8 T])∧Below w.heap.size w h:=by
 have K1:=ac C1;have K2:=ac C2;have K3:=ac C3;have K4:=ac C4;have K5:=ac C5;have K6:=ac C6;have K7:=ac C7
 clear C1 C2 C3 C4 C5 C6 C7
 have e1:=bF (z-D) (by omega)
 have e2:=bF (z-D-55) (by omega)
 rw[←Z]at e2
 go_enter Tryz.func226,Tryz.ntmps226
 go_wp2_with fail
 refine(uH K1 _ (Below.refl _ _)).mono ?_
 rintro e w1 ⟨rfl,d⟩
 have H:=ac d
 clear d K1
 go_wp2_with fail
 refine(uH K2 _ (uH H)).mono ?_
 rintro e w2 ⟨rfl,d⟩
 have U:=ac ((uH H).trans (d.mono (uH H).size))
 clear d K2 H
 go_wp2_with fail
 refine(uH K3 _).mono ?_
 rintro e wk ⟨rfl,rfl⟩
 go_wp2_with fail
 refine(uH K4 _).mono ?_
 rintro e w3 ⟨v,rfl,⟨n3,a3,c3,Y,rfl,i3⟩,d⟩
 have I:=ac ((uH U).trans (d.mono (uH U).size))
 have I3:=ac (show ar w2.heap.size w3 (.agg #[.bool n3,.slice a3 Y.length c3]) q from⟨n3,a3,c3,Y,rfl,i3⟩)
 clear d K3 K4 U i3
 generalize Y.length=l3 at*
 subst Z
 go_wp2_with fail
 refine(uH K5 _ _ _ (uH I) (uH I3)).mono ?_
 rintro e G ⟨⟨v,rfl,hv⟩,d⟩
 obtain⟨N,O,Q,F,rfl,i1⟩:=hv
 have t:Below G.heap.size G (G.alloc (.cells #[.bool N,.slice O F.length Q,.int .i64 X] 57)):=(Below.refl _ _).alloc (Nat.le_refl _) _
 have HX:=ac ((show bc G (.agg #[.bool N,.slice O F.length Q,.int .i64 X]) M X from⟨N,O,Q,F,rfl,i1⟩).below t)
 have J:=ac ((uH I).trans ((d.trans (t.mono d.size)).mono (uH I).size))
 have L:=a8.new G (.bool N) (.slice O F.length Q) (.int .i64 X)
 have y0:=L.c0;have y1:=L.c1;have y2:=L.c2
 clear i1 d t K5 I L I3
 generalize F.length=l1 at*
 go_wp2_with fail
 refine(uH K6 _ _ (uH J) (uH HX)).mono ?_
 rintro e w5 ⟨rfl,d⟩
 have V:=ac ((uH J).trans (d.mono (uH J).size))
 clear d K6 J y0 y1 y2 HX
 go_wp2_with fail
 refine(uH K7 _).mono ?_
 rintro e w6 ⟨rfl,d⟩
 have B6:=ac ((uH V).trans (d.mono (uH V).size))
 clear d K7 V
 go_wp2
 exact bodyPost_ret (v:=.tuple #[.int .u64 o,.int .u8 T]) (by simp[results,Tryz.results226,go_sem]) rfl ⟨rfl,uH B6⟩
theorem Na{S:Nat}(h:S<144115188075855872):S<2^57:=by
 have:(2:Nat)^57=144115188075855872:=by decide
 omega
theorem tu(a b S F G r:Nat)(t z M:Int)(w:World)(X:a<18446744073709551616)(Y:b<18446744073709551616)(hr:r≤9218868437227405312)
  (ht:-1100≤t∧t≤1100∧-1100≤z∧z≤1100) (s1:S≠0) (Z:S<144115188075855872)
  (N:cC S (t-z-55)=r) (O:bX (oM (S:Nat)).natAbs (oE (S:Nat) (t-z-55))=M) (Q:c8 w)
  (C1:∀d,Below w.heap.size w d→Calls Tryz.prog 242 #[.int .u64 a] d fun r l=>r=.returned (.tuple #[.int .i64 (F:Nat),.int .i64 t])∧Below d.heap.size d l)
  (C2:∀d,Below w.heap.size w d→Calls Tryz.prog 242 #[.int .u64 b] d fun r l=>r=.returned (.tuple #[.int .i64 (G:Nat),.int .i64 z])∧Below d.heap.size d l)
  (C3:∀d,Calls Tryz.prog 243 #[.int .i64 (F:Nat),.int .i64 (G:Nat)] d fun r l=>r=.returned (.int .i64 (S:Nat))∧d=l):
  Calls Tryz.prog 226 #[.int .u64 a,.int .u64 b] w fun s d=>s=.returned (.tuple #[.int .u64 (gc (fS a^^fS b) r:Nat),.int .u8 M])∧Below w.heap.size w d:=by
 have T:((S:Nat):Int).natAbs<eN:=dK _ (by omega)
 have D:((S:Nat):Int)≠0:=by omega
 have aa:tz ((S:Nat):Int).natAbs<57:=kK _ 57 (by omega) (by rw[Int.natAbs_natCast];exact Na Z)
 obtain⟨E,V⟩:∃E,E=t-z-55:=⟨_,rfl⟩
 rw[←V]at N O
 have ad:-2300≤E∧E≤2300:=by omega
 have I:nE (S:Nat) E=true:=by
  unfold nE
  rw[decide_eq_true (show-32768≤E∧E≤32768 by omega),decide_eq_true (show-16384≤E+(tz ((S:Nat):Int).natAbs:Int)∧E+(tz ((S:Nat):Int).natAbs:Int)≤16384 by omega),Bool.or_true]
  rfl
 have J:sM (oM (S:Nat)) (oE (S:Nat) E)=true:=by
  unfold sM
  rw[if_neg (iB _ D).1,d9 _ _ D,decide_eq_true (iB _ D).2,decide_eq_true (by omega)]
  rfl
 have L:(oM (S:Nat)).natAbs<eN:=Nat.lt_of_le_of_lt (rI _) T
 have U:∀d v,Below w.heap.size w d→bc d v (oM (S:Nat)) (oE (S:Nat) E)→_:=fun d v h H=>jQ H L J (Q.all h)
 rw[(jr ((S:Nat):Int) E).1,km,decide_eq_false (show¬((S:Nat):Int)<0 by omega),cn,Int.natAbs_natCast,N,O]at U
 refine vJ a b (F:Nat) (G:Nat) t z (S:Nat) E _ _ _ w _ _ (by omega) V C1 C2 C3
  (fun d=>wQ _ d (by omega) (by omega)) (fun B d v h H=>?_) U (fun d=>gK r a b d X Y (by omega))
 have:=jO E H T (by omega) (Q.all h)
 unfold dz dM dX at this
 rw[I]at this
 exact this.mono fun r l ⟨u,g1,g2,g3⟩=>⟨⟨u,g1,g2⟩,g3⟩
theorem Lg(a b:Nat):db (dS a*2^54) (dS b)=pS a b:=by unfold pS;rfl
theorem Jr(b:Nat)(d:b<18446744073709551616)(h:ah b=true)(l:fK b≠0):-1100≤dT b∧dT b≤1100:=by
 obtain⟨t,z,D,F,G,H,I,J⟩:=dk b d h l
 unfold dT
 omega
theorem qX(a b:Nat)(w:World)(G:a<18446744073709551616)(z:b<18446744073709551616)(D:ah a=true)(d:ah b=true)(F:fK a≠0)(l:fK b≠0)(H:c8 w):
  Calls Tryz.prog 226 #[.int .u64 a,.int .u64 b] w fun r t=>r=.returned (.tuple #[.int .u64 (dV a b:Nat),.int .u8 (dF a b)])∧Below w.heap.size w t:=by
 obtain⟨Z,y2,y3,Q,y5,y6,y7,y8⟩:=dk b z d l
 obtain⟨T,U,V⟩:=DR a b G z D d F l
 obtain⟨X,Y⟩:=DQ a b G z D d F l
 have M:qV a b≤9218868437227405312:=di _ _
 have I:=fun t=>tr (dS a) (dS b) t Q V
 have J:=Jr a G D F
 have L:=Jr b z d l
 have N:=(px a b D d F l).1
 have O:=(px a b D d F l).2
 rw[Lg]at I
 rw[N,O]
 exact tu a b (pS a b) (dS a) (dS b) (qV a b) (dT a) (dT b) (qF a b) w G z M ⟨J.1,J.2,L.1,L.2⟩ T U X Y H (fun t h=>pV a t G D F (H.all h)) (fun t h=>pV b t z d l (H.all h)) I
theorem He(a b:Nat)(H:Int)(w:World)
  (z:∀d,Calls Tryz.prog 122 #[.int .u64 a] d fun r h=>r=.returned (.int .i64 4)∧Below d.heap.size d h)
  (D:∀d,Calls Tryz.prog 122 #[.int .u64 b] d fun r h=>r=.returned (.int .i64 H)∧Below d.heap.size d h):
  Calls Tryz.prog 199 #[.int .u64 a,.int .u64 b] w fun r d=>r=.returned (.tuple #[.int .u64 9221120237041090560,.int .u8 0])∧Below w.heap.size w d:=by
 have F:=ac z;have G:=ac D
 clear z D
 go_enter Tryz.func199,Tryz.ntmps199
 go_wp2_with fail
 refine(uH F _).mono ?_
 rintro e I ⟨rfl,l⟩
 go_wp2_with fail
 refine(uH G _).mono ?_
 rintro e J ⟨rfl,t⟩
 have B:=ac (l.trans (t.mono l.size))
 clear l t F G
 go_wp2
 exact bodyPost_ret (v:=.tuple #[.int .u64 9221120237041090560,.int .u8 0]) (by simp[results,Tryz.results199,go_sem]) rfl ⟨rfl,uH B⟩
theorem Hf(a b:Nat)(z:Int)(w:World)(I:(z==4)=false)
  (D:∀d,Calls Tryz.prog 122 #[.int .u64 a] d fun r h=>r=.returned (.int .i64 z)∧Below d.heap.size d h)
  (F:∀d,Calls Tryz.prog 122 #[.int .u64 b] d fun r h=>r=.returned (.int .i64 4)∧Below d.heap.size d h):
  Calls Tryz.prog 199 #[.int .u64 a,.int .u64 b] w fun r d=>r=.returned (.tuple #[.int .u64 9221120237041090560,.int .u8 0])∧Below w.heap.size w d:=by
 have G:=ac D;have H:=ac F
 clear D F
 go_enter Tryz.func199,Tryz.ntmps199
 go_wp2_with fail
 refine(uH G _).mono ?_
 rintro e J ⟨rfl,l⟩
 go_wp2_with fail
 refine(uH H _).mono ?_
 rintro e L ⟨rfl,t⟩
 have B:=ac (l.trans (t.mono l.size))
 clear l t G H
 go_wp2
 exact bodyPost_ret (v:=.tuple #[.int .u64 9221120237041090560,.int .u8 0]) (by simp[results,Tryz.results199,go_sem]) rfl ⟨rfl,uH B⟩
theorem Hg(a b:Nat)(w:World)
  (z:∀d,Calls Tryz.prog 122 #[.int .u64 a] d fun r h=>r=.returned (.int .i64 3)∧Below d.heap.size d h)
  (D:∀d,Calls Tryz.prog 122 #[.int .u64 b] d fun r h=>r=.returned (.int .i64 3)∧Below d.heap.size d h):
  Calls Tryz.prog 199 #[.int .u64 a,.int .u64 b] w fun r d=>r=.returned (.tuple #[.int .u64 9221120237041090560,.int .u8 16])∧Below w.heap.size w d:=by
 have F:=ac z;have G:=ac D
 clear z D
 go_enter Tryz.func199,Tryz.ntmps199
 go_wp2_with fail
 refine(uH F _).mono ?_
 rintro e H ⟨rfl,l⟩
 go_wp2_with fail
 refine(uH G _).mono ?_
 rintro e I ⟨rfl,t⟩
 have B:=ac (l.trans (t.mono l.size))
 clear l t F G
 go_wp2
 exact bodyPost_ret (v:=.tuple #[.int .u64 9221120237041090560,.int .u8 16]) (by simp[results,Tryz.results199,go_sem]) rfl ⟨rfl,uH B⟩
theorem Hh(a b:Nat)(w:World)
  (z:∀d,Calls Tryz.prog 122 #[.int .u64 a] d fun r h=>r=.returned (.int .i64 0)∧Below d.heap.size d h)
  (D:∀d,Calls Tryz.prog 122 #[.int .u64 b] d fun r h=>r=.returned (.int .i64 0)∧Below d.heap.size d h):
  Calls Tryz.prog 199 #[.int .u64 a,.int .u64 b] w fun r d=>r=.returned (.tuple #[.int .u64 9221120237041090560,.int .u8 16])∧Below w.heap.size w d:=by
 have F:=ac z;have G:=ac D
 clear z D
 go_enter Tryz.func199,Tryz.ntmps199
 go_wp2_with fail
 refine(uH F _).mono ?_
 rintro e H ⟨rfl,l⟩
 go_wp2_with fail
 refine(uH G _).mono ?_
 rintro e I ⟨rfl,t⟩
 have B:=ac (l.trans (t.mono l.size))
 clear l t F G
 go_wp2
 exact bodyPost_ret (v:=.tuple #[.int .u64 9221120237041090560,.int .u8 16]) (by simp[results,Tryz.results199,go_sem]) rfl ⟨rfl,uH B⟩
theorem Lh(a b:Nat)(D:Int)(o:Nat)(w:World)(M:(D==4)=false)(N:(D==3)=false)
  (F:∀d,Calls Tryz.prog 122 #[.int .u64 a] d fun r h=>r=.returned (.int .i64 3)∧Below d.heap.size d h)
  (G:∀d,Calls Tryz.prog 122 #[.int .u64 b] d fun r h=>r=.returned (.int .i64 D)∧Below d.heap.size d h)
  (H:∀d,Calls Tryz.prog 224 #[.int .u64 9218868437227405312,.int .u64 a,.int .u64 b] d fun r h=>r=.returned (.int .u64 (o:Nat))∧Below d.heap.size d h):
  Calls Tryz.prog 199 #[.int .u64 a,.int .u64 b] w fun r d=>r=.returned (.tuple #[.int .u64 (o:Nat),.int .u8 0])∧Below w.heap.size w d:=by
 have I:=ac F;have J:=ac G
 clear F G
 go_enter Tryz.func199,Tryz.ntmps199
 go_wp2_with fail
 refine(uH I _).mono ?_
 rintro e O ⟨rfl,l⟩
 go_wp2_with fail
 refine(uH J _).mono ?_
 rintro e Q ⟨rfl,t⟩
 have B:=ac (l.trans (t.mono l.size))
 clear l t I J
 have L:=ac H
 clear H
 go_wp2_with fail
 refine(uH L _).mono ?_
 rintro e T ⟨rfl,z⟩
 have B:=ac ((uH B).trans (z.mono (uH B).size))
 clear z L
 go_wp2
 exact bodyPost_ret (v:=.tuple #[.int .u64 (o:Nat),.int .u8 0]) (by simp[results,Tryz.results199,go_sem]) rfl ⟨rfl,uH B⟩
theorem Lj(a b:Nat)(D:Int)(o:Nat)(w:World)(M:(D==4)=false)(N:(D==0)=false)
  (F:∀d,Calls Tryz.prog 122 #[.int .u64 a] d fun r h=>r=.returned (.int .i64 0)∧Below d.heap.size d h)
  (G:∀d,Calls Tryz.prog 122 #[.int .u64 b] d fun r h=>r=.returned (.int .i64 D)∧Below d.heap.size d h)
  (H:∀d,Calls Tryz.prog 224 #[.int .u64 0,.int .u64 a,.int .u64 b] d fun r h=>r=.returned (.int .u64 (o:Nat))∧Below d.heap.size d h):
  Calls Tryz.prog 199 #[.int .u64 a,.int .u64 b] w fun r d=>r=.returned (.tuple #[.int .u64 (o:Nat),.int .u8 0])∧Below w.heap.size w d:=by
 have I:=ac F;have J:=ac G
 clear F G
 go_enter Tryz.func199,Tryz.ntmps199
 go_wp2_with fail
 refine(uH I _).mono ?_
 rintro e O ⟨rfl,l⟩
 go_wp2_with fail
 refine(uH J _).mono ?_
 rintro e Q ⟨rfl,t⟩
 have B:=ac (l.trans (t.mono l.size))
 clear l t I J
 have L:=ac H
 clear H
 go_wp2_with fail
 refine(uH L _).mono ?_
 rintro e T ⟨rfl,z⟩
 have B:=ac ((uH B).trans (z.mono (uH B).size))
 clear z L
 go_wp2
 exact bodyPost_ret (v:=.tuple #[.int .u64 (o:Nat),.int .u8 0]) (by simp[results,Tryz.results199,go_sem]) rfl ⟨rfl,uH B⟩
theorem Lk(a b:Nat)(D:Int)(o:Nat)(w:World)(M:(D==4)=false)(N:(D==3)=false)(O:(D==0)=false)
  (F:∀d,Calls Tryz.prog 122 #[.int .u64 a] d fun r h=>r=.returned (.int .i64 D)∧Below d.heap.size d h)
  (G:∀d,Calls Tryz.prog 122 #[.int .u64 b] d fun r h=>r=.returned (.int .i64 3)∧Below d.heap.size d h)
  (H:∀d,Calls Tryz.prog 224 #[.int .u64 0,.int .u64 a,.int .u64 b] d fun r h=>r=.returned (.int .u64 (o:Nat))∧Below d.heap.size d h):
  Calls Tryz.prog 199 #[.int .u64 a,.int .u64 b] w fun r d=>r=.returned (.tuple #[.int .u64 (o:Nat),.int .u8 0])∧Below w.heap.size w d:=by
 have I:=ac F;have J:=ac G
 clear F G
 go_enter Tryz.func199,Tryz.ntmps199
 go_wp2_with fail
 refine(uH I _).mono ?_
 rintro e Q ⟨rfl,l⟩
 go_wp2_with fail
 refine(uH J _).mono ?_
 rintro e T ⟨rfl,t⟩
 have B:=ac (l.trans (t.mono l.size))
 clear l t I J
 have L:=ac H
 clear H
 go_wp2_with fail
 refine(uH L _).mono ?_
 rintro e U ⟨rfl,z⟩
 have B:=ac ((uH B).trans (z.mono (uH B).size))
 clear z L
 go_wp2
 exact bodyPost_ret (v:=.tuple #[.int .u64 (o:Nat),.int .u8 0]) (by simp[results,Tryz.results199,go_sem]) rfl ⟨rfl,uH B⟩
theorem Ll(a b:Nat)(D:Int)(o:Nat)(w:World)(M:(D==4)=false)(N:(D==3)=false)(O:(D==0)=false)
  (F:∀d,Calls Tryz.prog 122 #[.int .u64 a] d fun r h=>r=.returned (.int .i64 D)∧Below d.heap.size d h)
  (G:∀d,Calls Tryz.prog 122 #[.int .u64 b] d fun r h=>r=.returned (.int .i64 0)∧Below d.heap.size d h)
  (H:∀d,Calls Tryz.prog 224 #[.int .u64 9218868437227405312,.int .u64 a,.int .u64 b] d fun r h=>r=.returned (.int .u64 (o:Nat))∧Below d.heap.size d h):
  Calls Tryz.prog 199 #[.int .u64 a,.int .u64 b] w fun r d=>r=.returned (.tuple #[.int .u64 (o:Nat),.int .u8 8])∧Below w.heap.size w d:=by
 have I:=ac F;have J:=ac G
 clear F G
 go_enter Tryz.func199,Tryz.ntmps199
 go_wp2_with fail
 refine(uH I _).mono ?_
 rintro e Q ⟨rfl,l⟩
 go_wp2_with fail
 refine(uH J _).mono ?_
 rintro e T ⟨rfl,t⟩
 have B:=ac (l.trans (t.mono l.size))
 clear l t I J
 have L:=ac H
 clear H
 go_wp2_with fail
 refine(uH L _).mono ?_
 rintro e U ⟨rfl,z⟩
 have B:=ac ((uH B).trans (z.mono (uH B).size))
 clear z L
 go_wp2
 exact bodyPost_ret (v:=.tuple #[.int .u64 (o:Nat),.int .u8 8]) (by simp[results,Tryz.results199,go_sem]) rfl ⟨rfl,uH B⟩
theorem Lm(a b:Nat)(D F:Int)(G:Int)(o:Nat)(w:World)(T:(D==4)=false)(U:(D==3)=false)(V:(D==0)=false)(X:(F==4)=false)(Y:(F==3)=false)(Z:(F==0)=false)(H:c8 w)
  (I:∀d,Calls Tryz.prog 122 #[.int .u64 a] d fun r h=>r=.returned (.int .i64 D)∧Below d.heap.size d h)
  (J:∀d,Calls Tryz.prog 122 #[.int .u64 b] d fun r h=>r=.returned (.int .i64 F)∧Below d.heap.size d h)
  (L:∀d,c8 d→Calls Tryz.prog 226 #[.int .u64 a,.int .u64 b] d fun r h=>r=.returned (.tuple #[.int .u64 (o:Nat),.int .u8 G])∧Below d.heap.size d h):
  Calls Tryz.prog 199 #[.int .u64 a,.int .u64 b] w fun r d=>r=.returned (.tuple #[.int .u64 (o:Nat),.int .u8 G])∧Below w.heap.size w d:=by
 have M:=ac I;have N:=ac J
 clear I J
 go_enter Tryz.func199,Tryz.ntmps199
 go_wp2_with fail
 refine(uH M _).mono ?_
 rintro e w1 ⟨rfl,l⟩
 go_wp2_with fail
 refine(uH N _).mono ?_
 rintro e w2 ⟨rfl,t⟩
 have B:=ac (l.trans (t.mono l.size))
 clear l t M N
 have O:=ac L;have Q:=ac (H.all (uH B))
 clear L H
 go_wp2_with fail
 refine(uH O _ (uH Q)).mono ?_
 rintro e w3 ⟨rfl,z⟩
 have B:=ac ((uH B).trans (z.mono (uH B).size))
 clear z O Q
 go_wp2
 exact bodyPost_ret (v:=.tuple #[.int .u64 (o:Nat),.int .u8 G]) (by simp[results,Tryz.results199,go_sem]) rfl ⟨rfl,uH B⟩
theorem El(a b:Nat)(w:World)(L:a<18446744073709551616)(M:b<18446744073709551616)(V:c8 w):
  Calls Tryz.prog 199 #[.int .u64 a,.int .u64 b] w fun r l=>r=.returned (.tuple #[.int .u64 (dV a b:Nat),.int .u8 (dF a b)])∧Below w.heap.size w l:=by
 have d:=fun l=>dj a l L
 have h:=fun l=>dj b l M
 have N:=fun l=>gK 9218868437227405312 a b l L M (by decide)
 have O:=fun l=>gK 0 a b l L M (by decide)
 by_cases F:fK a=4
 ·rw[show dV a b=9221120237041090560 by unfold dV;rw[if_pos (Or.inl F)],show dF a b=0 by unfold dF;rw[if_pos (Or.inl F)]]
  rw[F]at d
  exact He a b _ w d h
 by_cases H:fK b=4
 ·rw[show dV a b=9221120237041090560 by unfold dV;rw[if_pos (Or.inr H)],show dF a b=0 by unfold dF;rw[if_pos (Or.inr H)]]
  rw[H]at h
  exact Hf a b _ w (by simp[F]) d h
 have G:¬(fK a=4∨fK b=4):=by omega
 by_cases D:fK a=fK b∧(fK a=3∨fK a=0)
 ·rw[show dV a b=9221120237041090560 by unfold dV;rw[if_neg G,if_pos D],show dF a b=16 by unfold dF;rw[if_neg G,if_pos D]]
  rcases D with⟨T,I|U⟩
  ·rw[I]at d
   rw[←T,I]at h
   exact Hg a b w d h
  ·rw[U]at d
   rw[←T,U]at h
   exact Hh a b w d h
 by_cases z:fK a=3
 ·rw[show dV a b=gc (fS a^^fS b) 9218868437227405312 by unfold dV;rw[if_neg G,if_neg D,if_pos z],show dF a b=0 by unfold dF;rw[if_neg G,if_neg D,if_pos z]]
  rw[z]at d
  exact Lh a b _ _ w (by simp[H]) (by simp;omega) d h N
 by_cases I:fK b=3∨fK a=0
 ·rw[show dV a b=gc (fS a^^fS b) 0 by unfold dV;rw[if_neg G,if_neg D,if_neg z,if_pos I],show dF a b=0 by unfold dF;rw[if_neg G,if_neg D,if_neg z,if_pos I]]
  by_cases Q:fK a=0
  ·rw[Q]at d
   exact Lj a b _ _ w (by simp[H]) (by simp;omega) d h O
  ·have X:fK b=3:=by omega
   rw[X]at h
   exact Lk a b _ _ w (by simp[F]) (by simp[z]) (by simp[Q]) d h O
 by_cases J:fK b=0
 ·rw[show dV a b=gc (fS a^^fS b) 9218868437227405312 by unfold dV;rw[if_neg G,if_neg D,if_neg z,if_neg I,if_pos J],show dF a b=8 by unfold dF;rw[if_neg G,if_neg D,if_neg z,if_neg I,if_pos J]]
  rw[J]at h
  exact Ll a b _ _ w (by simp[F]) (by simp[z]) (by simp;omega) d h N
 ·exact Lm a b _ _ _ _ w (by simp[F]) (by simp[z]) (by simp;omega) (by simp[H]) (by simp;omega) (by simp[J]) V d h (fun l t=>qX a b l L M (gt a z F) (gt b (by omega) H) (by omega) J t)
def lV(a:Nat)(n:Int):Nat:=if fK a=4 then a else xV a n
theorem Em(v u:Nat):2*(dq v u*2^u)≤2*v+2^u∧2*v≤2*(dq v u*2^u)+2^u∧(v%2^u=0→dq v u*2^u=v):=by
 have d:0<2^u:=Nat.two_pow_pos _
 have h:=Nat.div_add_mod v (2^u)
 have l:=Nat.mod_lt v d
 rw[Nat.mul_comm]at h
 unfold dq
 generalize v/2^u=q at*
 generalize v%2^u=r at*
 generalize (2:Nat)^u=p at*
 split
 ·rw[Nat.add_mul,Nat.one_mul]
  exact⟨by omega,by omega,by omega⟩
 ·rw[Nat.add_zero]
  exact⟨by omega,by omega,by omega⟩
theorem vK(T M c d:Nat)(z:c=2*d)(O:0<d)(G:(2*M-1)*(2*M-1)<4*T)(H:4*T<(2*M+1)*(2*M+1)):
  (2*M-1)*c<rS (T*(c*c))∧rS (T*(c*c))<(2*M+1)*c:=by
 obtain⟨Y,Z⟩:=cL (T*(c*c))
 have l:0<c*c:=Nat.mul_pos (by omega) (by omega)
 have D:(2*M-1)*(2*M-1)*(c*c)<4*T*(c*c):=(Nat.mul_lt_mul_right l).2 G
 have F:4*T*(c*c)<(2*M+1)*(2*M+1)*(c*c):=(Nat.mul_lt_mul_right l).2 H
 have I:4*T*(c*c)=4*(T*(c*c)):=Nat.mul_assoc _ _ _
 rw[I]at D F
 rw[←jU]at D F
 have J:(2*M-1)*c=2*((2*M-1)*d):=by rw[z];ac_rfl
 have L:(2*M+1)*c=2*((2*M+1)*d):=by rw[z];ac_rfl
 unfold rS
 generalize T*(c*c)=N at*
 generalize bH N=Q at*
 have t:∀x:Nat,2*x*(2*x)=4*(x*x):=fun x=>by rw[show(4:Nat)=2*2 by decide];ac_rfl
 have U:(2*M-1)*c<2*(Q+1):=cX.1 (by rw[t (Q+1)];omega)
 have V:2*Q<(2*M+1)*c:=cX.1 (by rw[t Q];omega)
 split
 ·rename_i h
  have X:(2*M-1)*c<2*Q:=cX.1 (by rw[t Q];omega)
  exact⟨by omega,by omega⟩
 ·exact⟨by omega,by omega⟩
theorem Bf(T M:Nat)(e:Nat)(F:4503599627370496≤M)(G:M<9007199254740992)(L:1≤e)(H:e≤1900)
  (h:(2*M-1)*(2*M-1)<4*T) (l:4*T<(2*M+1)*(2*M+1)) (t:M=4503599627370496→rS (T*(1024*1024))=9223372036854775808):
  cC (rS (T*(1024*1024))) ((e:Int)-1085)=M+e*4503599627370496:=by
 obtain⟨Q,U⟩:=vK T M 1024 512 rfl (by decide) h l
 have N:9223372036854775808≤rS (T*(1024*1024)):=by
  by_cases I:M=4503599627370496
  ·rw[t I];exact Nat.le_refl _
  ·omega
 generalize rS (T*(1024*1024))=W at*
 clear h l t
 have z:bl W=64:=oc (by decide) (by have:(2:Nat)^(64-1)=9223372036854775808:=(by decide);omega) (by have:(2:Nat)^64=18446744073709551616:=(by decide);omega)
 have D:aB W ((e:Int)-1085)=(e:Int)-1074:=by unfold aB;rw[z];omega
 rw[cY W _ (by omega) (by rw[z];omega),D]
 unfold dY
 rw[D,show(e:Int)-1085-((e:Int)-1074)= -((11:Nat):Int) by omega,dO _ _ (by decide)]
 have J:dq W 11=M:=by
  unfold dq
  rw[show(2:Nat)^11=2048 by decide]
  by_cases O:M*2048≤W
  ·have d:W/2048=M:=by omega
   rw[d,if_neg (by omega),Nat.add_zero]
  ·have d:W/2048=M-1:=by omega
   rw[d,if_pos (by omega)]
   omega
 rw[J,show((e:Int)-1074+1074).toNat=e by omega]
theorem Nb{N q:Nat}(h:q*q=N):rS N=2*q:=by
 have d:bH N=q:=ij (Nat.le_of_eq h) (by have:=dR q;omega)
 unfold rS
 rw[d,if_pos h,Nat.add_zero]
theorem Ln{T:Nat}(h:T=4503599627370496*4503599627370496):rS (T*(1024*1024))=9223372036854775808:=
 (Nb (q:=4611686018427387904) (by rw[h])).trans (by decide)
theorem Lo{M:Nat}(h:4503599627370496≤M):20282409603651670423947251286016≤M*M:=Nat.le_trans (by decide) (zn h)
theorem Hi{T:Nat}(h:81129638414606681695789005144064≤T*1048576):9007199254740992≤bH (T*2^20):=by
 refine xu ?_
 have d:(2:Nat)^106=81129638414606681695789005144064:=by decide
 have l:(2:Nat)^20=1048576:=by decide
 rw[d,l]
 exact h
theorem ND{T v p:Nat}(d:20282409603651670423947251286016≤v)(h:2*v≤2*T+p)(l:p≤9007199254740992):81129638414606681695789005144064≤T*1048576:=by omega
theorem Lr(M:Nat)(d:4503599627370496≤M)(l:M<9007199254740992):bl (M*M)=105∨(bl (M*M)=106∧M≠4503599627370496):=by
 have t:=zn d
 have z:=DB l
 have D:(4503599627370496:Nat)*4503599627370496=2^104:=by decide
 have G:(9007199254740992:Nat)*9007199254740992=2^106:=by decide
 rw[D]at t
 rw[G]at z
 rcases Nat.lt_or_ge (M*M) (2^105)with h|h
 ·exact .inl (oc (by decide) t h)
 ·refine .inr ⟨oc (by decide) h z,fun F=>?_⟩
  rw[F,D]at h
  exact absurd h (by decide)
theorem vL(a:Nat)(h1:600≤fP a)(h2:fP a≤1400):sV (mV a a)=fR a:=by
 have hP:fP a=fR a/4503599627370496:=rfl
 have hF:=Nat.div_add_mod (fR a) 4503599627370496
 have ae:=Nat.mod_lt (fR a) (show 0<4503599627370496 by decide)
 obtain⟨M,hM⟩:∃M,M=4503599627370496+fR a%4503599627370496:=⟨_,rfl⟩
 obtain⟨e,he⟩:∃e,fP a=e+1:=⟨fP a-1,by omega⟩
 have hr:fR a=M+e*4503599627370496:=by omega
 have O:rv (fR a)=M*2^e:=by rw[hr];exact mf M e (by omega) (fun _=>by omega)
 have Q:ah a=true:=(cF a).2.2.2 (by omega)
 have k3:fK a≠3∧fK a≠4:=bY Q
 have k0:fK a≠0:=fun h=>by have:=(cP a).1 h;omega
 --the square,rounded
 have hv:mV a a=cC (M*M) (2*(e:Int)-2148):=by
  rw[(xq a a Q Q k0 k0).1,Bool.xor_self,cn,O,show M*2^e*(M*2^e)=M*M*2^(e+e) by rw[Nat.pow_add];ac_rfl,nC]
  congr 1
  omega
 have ai:=Lr M (by omega) (by omega)
 have F:M*M≠0:=Nat.mul_ne_zero (by omega) (by omega)
 obtain⟨u,hu⟩:∃u,bl (M*M)=u+53:=⟨bl (M*M)-53,by omega⟩
 have U:aB (M*M) (2*(e:Int)-2148)=(u:Int)+2*e-2148:=by unfold aB;rw[hu];omega
 have l:=cE (M*M) (2*(e:Int)-2148) F
 have G:dY (M*M) (2*(e:Int)-2148)=dq (M*M) u:=by
  unfold dY
  rw[U,show 2*(e:Int)-2148-((u:Int)+2*e-2148)= -((u:Nat):Int) by omega,dO _ _ (by omega)]
 have V:mV a a=dq (M*M) u+(u+2*e-1074)*4503599627370496:=by
  rw[hv,cY _ _ F (by rw[hu];omega),U,G,show((u:Int)+2*e-2148+1074).toNat=u+2*e-1074 by omega]
 rw[G]at l
 have H:=l.2.1 (by rw[U];omega)
 have X:rv (mV a a)=dq (M*M) u*2^(u+2*e-1074):=by rw[V];exact mf _ _ l.1 (fun _=>H)
 have ad:mV a a<9218868437227405312:=by rw[V];have:=l.1;omega
 have I:fR (mV a a)=mV a a:=by unfold fR;omega
 have s0:fK (mV a a)≠0:=fun h=>by
  have:=(cP _).1 h
  rw[I,V]at this
  omega
 have s4:fK (mV a a)≠4:=fun h=>by
  have:=(cF _).1.1 h
  omega
 have sS:fS (mV a a)=false:=decide_eq_false (by omega)
 have Y:sV (mV a a)=tV (mV a a):=by
  unfold sV
  rw[if_neg s4,if_neg (by rintro(h|h);exact s0 h;omega),if_neg (by rw[sS];decide)]
 obtain⟨c1,L,c3⟩:=Em (M*M) u
 have D:(u=52∧bl (M*M)=105)∨(u=53∧M≠4503599627370496):=by omega
 have t:=Je
 have z:=Df
 obtain⟨T,hT⟩:∃T,T=dq (M*M) u*2^u:=⟨_,rfl⟩
 rw[←hT]at c1 L c3
 have t3:M=4503599627370496→rS (T*(1024*1024))=9223372036854775808:=fun N=>by
  rcases D with⟨q,_⟩|⟨_,q⟩
  ·have Z:T=4503599627370496*4503599627370496:=by
    rw[c3 (by rw[q,N]),N]
   exact Ln Z
  ·exact absurd N q
 have am:(2*M-1)*(2*M-1)+4*M=4*(M*M)+1:=by
  obtain⟨x,hx⟩:∃x,M=x+1:=⟨M-1,by omega⟩
  rw[hx,show 2*(x+1)-1=2*x+1 by omega,dR,dR]
  have:2*x*(2*x)=4*(x*x):=by rw[show(4:Nat)=2*2 by decide];ac_rfl
  omega
 have ao:(2*M+1)*(2*M+1)=4*(M*M)+4*M+1:=by
  rw[dR]
  have:2*M*(2*M)=4*(M*M):=by rw[show(4:Nat)=2*2 by decide];ac_rfl
  omega
 have J:(2*M-1)*(2*M-1)<4*T∧4*T<(2*M+1)*(2*M+1):=by
  rcases D with⟨q,_⟩|⟨q,q2⟩
  ·rw[q,t]at c1 L
   omega
  ·rw[q,z]at c1 L
   omega
 have d:=Bf T M e (by omega) (by omega) (by omega) (by omega) J.1 J.2 t3
 --as the root of that number
 have hk:T*2^(2*e-1074)=rv (fR (mV a a)):=by
  rw[I,X,hT,Nat.mul_assoc,←Nat.pow_add,show u+(2*e-1074)=u+2*e-1074 by omega]
 have aa:9007199254740992≤bH (T*2^20):=by
  refine Hi (ND (Lo (show 4503599627370496≤M by omega)) L ?_)
  rcases D with⟨q,_⟩|⟨q,_⟩
  ·rw[q,t];decide
  ·rw[q,z];exact Nat.le_refl _
 rw[show(1024:Nat)*1024=2^20 by decide]at d
 have:=(va (mV a a) T (2*e-1074) 20 ((e:Int)-1084) s0 hk (by omega) aa).1
 rw[Y,←this,show(e:Int)-1084-1=(e:Int)-1085 by omega,d,hr]
end Go.Proofs.YtmpkkhackbpflaaGreatDoor
