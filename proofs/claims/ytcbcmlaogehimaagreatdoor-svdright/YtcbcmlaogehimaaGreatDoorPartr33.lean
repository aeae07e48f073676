/- Part 33 of the texts. -/
import Derived.Test.YtcbcmlaogehimaaGreatDoorPartr32
set_option maxHeartbeats 8000000
set_option maxRecDepth 20000
namespace Go.Proofs.YtcbcmlaogehimaaGreatDoor
open Go.RowKit
attribute [local go_sem ↓] Go.wp_at_zero Go.wp_at_succ
theorem zJ(r c N h F wc G H:Nat)(K I J:Option Addr)(w:World)
  (Z:∀u,Below w.heap.size w u→Calls Tryz.prog 16 #[.agg #[.int .i64 (r:Nat),.int .i64 (c:Nat),.slice I F wc]] u fun e D=>e=.returned (.int .i64 0)∧Below u.heap.size u D)
  (C2:∀u,Below w.heap.size w u→Calls Tryz.prog 16 #[.agg #[.int .i64 (c:Nat),.int .i64 (c:Nat),.slice J G H]] u fun e D=>e=.returned (.int .i64 0)∧Below u.heap.size u D):
  Calls Tryz.prog 24 #[.agg #[.int .i64 (r:Nat),.int .i64 (c:Nat),.slice K N h],.agg #[.int .i64 (r:Nat),.int .i64 (c:Nat),.slice I F wc],.agg #[.int .i64 (c:Nat),.int .i64 (c:Nat),.slice J G H]] w fun e u=>e=.returned (.bool true)∧Below w.heap.size w u:=by
 have b3:=oP w (.int .i64 (r:Nat)) (.int .i64 (c:Nat)) (.slice K N h) (.int .i64 (r:Nat)) (.int .i64 (c:Nat)) (.slice I F wc) (.int .i64 (c:Nat)) (.int .i64 (c:Nat)) (.slice J G H) (((w.alloc (.cells #[.int .i64 (r:Nat),.int .i64 (c:Nat),.slice K N h] 24)).alloc (.cells #[.int .i64 (r:Nat),.int .i64 (c:Nat),.slice I F wc] 24)).alloc (.cells #[.int .i64 (c:Nat),.int .i64 (c:Nat),.slice J G H] 24)) (by have:=Below.refl (((w.alloc (.cells #[.int .i64 (r:Nat),.int .i64 (c:Nat),.slice K N h] 24)).alloc (.cells #[.int .i64 (r:Nat),.int .i64 (c:Nat),.slice I F wc] 24)).alloc (.cells #[.int .i64 (c:Nat),.int .i64 (c:Nat),.slice J G H] 24)).heap.size (((w.alloc (.cells #[.int .i64 (r:Nat),.int .i64 (c:Nat),.slice K N h] 24)).alloc (.cells #[.int .i64 (r:Nat),.int .i64 (c:Nat),.slice I F wc] 24)).alloc (.cells #[.int .i64 (c:Nat),.int .i64 (c:Nat),.slice J G H] 24));simpa only[aq]using this)
 obtain⟨b0,x0,x1,x2⟩:=b3
 have A:=ac b0;have d:=ac (And.intro x0 (And.intro x1 x2))
 have K1:=ac Z;have K2:=ac C2
 clear Z C2 b0 x0 x1 x2
 go_enter Tryz.func24,Tryz.ntmps24
 have L:=(uH d).1.c0;have O:=(uH d).1.c1;have Q:=(uH d).1.c2;have u0:=(uH d).2.1.c0;have u1:=(uH d).2.1.c1;have u2:=(uH d).2.1.c2;have U:=(uH d).2.2.c0;have X:=(uH d).2.2.c1;have Y:=(uH d).2.2.c2
 go_wp2_with fail
 clear L O Q u0 u1 u2 U X Y
 refine(uH K1 _ (uH A)).mono ?_
 rintro e w1 ⟨rfl,z⟩
 replace d:=ac (And.intro ((uH d).1.all z) (And.intro ((uH d).2.1.all z) ((uH d).2.2.all z)))
 replace A:=ac ((uH A).trans (z.mono (uH A).size))
 clear z
 have L:=(uH d).1.c0;have O:=(uH d).1.c1;have Q:=(uH d).1.c2;have u0:=(uH d).2.1.c0;have u1:=(uH d).2.1.c1;have u2:=(uH d).2.1.c2;have U:=(uH d).2.2.c0;have X:=(uH d).2.2.c1;have Y:=(uH d).2.2.c2
 go_wp2_with fail
 clear L O Q u0 u1 u2 U X Y
 refine(uH K2 _ (uH A)).mono ?_
 rintro e w2 ⟨rfl,z⟩
 replace d:=ac (And.intro ((uH d).1.all z) (And.intro ((uH d).2.1.all z) ((uH d).2.2.all z)))
 replace A:=ac ((uH A).trans (z.mono (uH A).size))
 clear z
 have L:=(uH d).1.c0;have O:=(uH d).1.c1;have Q:=(uH d).1.c2;have u0:=(uH d).2.1.c0;have u1:=(uH d).2.1.c1;have u2:=(uH d).2.1.c2;have U:=(uH d).2.2.c0;have X:=(uH d).2.2.c1;have Y:=(uH d).2.2.c2
 have aa:((c:Int)==(c:Int))=true:=by simp
 have ae:((r:Int)==(r:Int))=true:=by simp
 go_wp2_with fail
 go_ret
 exact⟨rfl,uH A⟩
theorem rx(r c:Int)(N u:Nat)(F:Option Addr)(w:World)
  (L:∀d,Below w.heap.size w d→Calls Tryz.prog 13 #[.agg #[.int .i64 r,.int .i64 c,.slice F N u],.int .i64 100] d fun e A=>e=.returned (.bool false)∧Below d.heap.size d A)
  (O:∀d,Below w.heap.size w d→Calls Tryz.prog 22 #[] d fun e A=>e=.returned (.bool true)∧Below d.heap.size d A):
  Calls Tryz.prog 4 #[.agg #[.int .i64 r,.int .i64 c,.slice F N u]] w fun e d=>e=.returned (.bool true)∧Below w.heap.size w d:=by
 have Q:=ad w (.cells #[.int .i64 r,.int .i64 c,.slice F N u] 24)
 have h:=ac (aL.new w (.int .i64 r) (.int .i64 c) (.slice F N u))
 have z:=ac Q
 have G:=ac L
 have H:=ac O
 clear Q L O
 go_enter Tryz.func4,Tryz.ntmps4
 have I:=(uH h).c0;have J:=(uH h).c1;have K:=(uH h).c2
 go_wp2_with fail
 clear I J K
 refine(uH G _ (uH z)).mono ?_
 rintro e U ⟨rfl,D⟩
 replace h:=ac ((uH h).all D)
 replace z:=ac ((uH z).trans (D.mono (uH z).size))
 clear D
 have I:=(uH h).c0;have J:=(uH h).c1;have K:=(uH h).c2
 go_wp2_with fail
 clear I J K
 refine(uH H _ (uH z)).mono ?_
 rintro e U ⟨rfl,D⟩
 replace h:=ac ((uH h).all D)
 replace z:=ac ((uH z).trans (D.mono (uH z).size))
 clear D
 go_wp2_with fail
 go_ret
 exact⟨rfl,uH z⟩
theorem ry(r c:Int)(N u:Nat)(F:Option Addr)(w:World)
  (O:∀h,Below w.heap.size w h→Calls Tryz.prog 13 #[.agg #[.int .i64 r,.int .i64 c,.slice F N u],.int .i64 100] h fun e z=>e=.returned (.bool true)∧Below h.heap.size h z)
  (Q:∀h,Below w.heap.size w h→Calls Tryz.prog 23 #[.agg #[.int .i64 r,.int .i64 c,.slice F N u]] h fun e z=>e=.returned (.tuple #[.agg #[.int .i64 0,.int .i64 0,.slice none 0 0],.agg #[.int .i64 0,.int .i64 0,.slice none 0 0],.slice none 0 0,.int .i64 6])∧Below h.heap.size h z)
  (U:∀h,Below w.heap.size w h→Calls Tryz.prog 22 #[] h fun e z=>e=.returned (.bool true)∧Below h.heap.size h z):
  Calls Tryz.prog 4 #[.agg #[.int .i64 r,.int .i64 c,.slice F N u]] w fun e h=>e=.returned (.bool true)∧Below w.heap.size w h:=by
 have X:=ad w (.cells #[.int .i64 r,.int .i64 c,.slice F N u] 24)
 have A:=ac (aL.new w (.int .i64 r) (.int .i64 c) (.slice F N u))
 have d:=ac X
 have G:=ac O
 have H:=ac Q
 have I:=ac U
 clear X O Q U
 go_enter Tryz.func4,Tryz.ntmps4
 have J:=(uH A).c0;have K:=(uH A).c1;have L:=(uH A).c2
 go_wp2_with fail
 clear J K L
 refine(uH G _ (uH d)).mono ?_
 rintro e wn ⟨rfl,D⟩
 replace A:=ac ((uH A).all D)
 replace d:=ac ((uH d).trans (D.mono (uH d).size))
 clear D
 have J:=(uH A).c0;have K:=(uH A).c1;have L:=(uH A).c2
 go_wp2_with fail
 clear J K L
 refine(uH H _ (uH d)).mono ?_
 rintro e w3 ⟨rfl,D⟩
 replace d:=ac ((uH d).trans (D.mono (uH d).size))
 have Y:=ad w3 (.cells #[.int .i64 0,.int .i64 0,.slice none 0 0] 24)
 have Z:=ad (w3.alloc (.cells #[.int .i64 0,.int .i64 0,.slice none 0 0] 24)) (.cells #[.int .i64 0,.int .i64 0,.slice none 0 0] 24)
 replace d:=ac ((uH d).trans (Y.mono (uH d).size))
 replace d:=ac ((uH d).trans (Z.mono (uH d).size))
 clear D Y Z A
 go_wp2_with fail
 refine(uH I _ (uH d)).mono ?_
 rintro e w4 ⟨rfl,D⟩
 replace d:=ac ((uH d).trans (D.mono (uH d).size))
 clear D
 go_wp2_with fail
 go_ret
 exact⟨rfl,uH d⟩
theorem us(r c N J nW nV:Nat)(ao:Option Addr)(WL VL:List Int)(lo lp z1 z2:Int)(w:World)
  (C1:∀d,Below w.heap.size w d→Calls Tryz.prog 13 #[.agg #[.int .i64 (r:Nat),.int .i64 (c:Nat),.slice ao N J],.int .i64 100] d fun e G=>e=.returned (.bool true)∧Below d.heap.size d G)
  (C2:∀d,Below w.heap.size w d→Calls Tryz.prog 23 #[.agg #[.int .i64 (r:Nat),.int .i64 (c:Nat),.slice ao N J]] d fun e G=>(∃Q wc U X so sn sd,e=.returned (.tuple #[.agg #[.int .i64 (r:Nat),.int .i64 (c:Nat),.slice Q nW wc],.agg #[.int .i64 (c:Nat),.int .i64 (c:Nat),.slice U nV X],.slice so sn sd,.int .i64 0])∧ap G Q wc WL∧ap G U X VL)∧Below d.heap.size d G)
  (CF:∀d Q wc U X,Below w.heap.size w d→ap d Q wc WL→ap d U X VL→Calls Tryz.prog 24 #[.agg #[.int .i64 (r:Nat),.int .i64 (c:Nat),.slice ao N J],.agg #[.int .i64 (r:Nat),.int .i64 (c:Nat),.slice Q nW wc],.agg #[.int .i64 (c:Nat),.int .i64 (c:Nat),.slice U nV X]] d fun e G=>e=.returned (.bool true)∧Below d.heap.size d G)
  (CR:∀d Q wc U X,Below w.heap.size w d→ap d Q wc WL→ap d U X VL→Calls Tryz.prog 25 #[.agg #[.int .i64 (r:Nat),.int .i64 (c:Nat),.slice Q nW wc],.agg #[.int .i64 (r:Nat),.int .i64 (c:Nat),.slice ao N J],.agg #[.int .i64 (c:Nat),.int .i64 (c:Nat),.slice U nV X]] d fun e G=>∃t,e=.returned t∧bc G t lo z1∧Below d.heap.size d G)
  (CS:∀d,Below w.heap.size w d→Calls Tryz.prog 17 #[.agg #[.int .i64 (r:Nat),.int .i64 (c:Nat),.slice ao N J]] d fun e G=>∃t,e=.returned t∧bc G t lp z2∧Below d.heap.size d G)
  (CW:∀d v u,bc d v lo z1→bc d u lp z2→Calls Tryz.prog 20 #[v,u,.int .i64 35] d fun e G=>e=.returned (.bool true)∧Below d.heap.size d G)
  (CA:∀d,Below w.heap.size w d→Calls Tryz.prog 22 #[] d fun e G=>e=.returned (.bool true)∧Below d.heap.size d G):
  Calls Tryz.prog 4 #[.agg #[.int .i64 (r:Nat),.int .i64 (c:Nat),.slice ao N J]] w fun e d=>e=.returned (.bool true)∧Below w.heap.size w d:=by
 have b0:=ad w (.cells #[.int .i64 (r:Nat),.int .i64 (c:Nat),.slice ao N J] 24)
 have D:=ac (aL.new w (.int .i64 (r:Nat)) (.int .i64 (c:Nat)) (.slice ao N J))
 have F:=ac b0
 have aa:=ac C1
 have ae:=ac C2
 have ah:=ac CF
 have am:=ac CR
 have an:=ac CS
 have ar:=ac CW
 have ax:=ac CA
 clear b0 C1 C2 CF CR CS CW CA
 go_enter Tryz.func4,Tryz.ntmps4
 have y0:=(uH D).c0;have y1:=(uH D).c1;have y2:=(uH D).c2
 go_wp2_with fail
 clear y0 y1 y2
 refine(uH aa _ (uH F)).mono ?_
 rintro e wn ⟨rfl,z⟩
 replace D:=ac ((uH D).all z)
 replace F:=ac ((uH F).trans (z.mono (uH F).size))
 clear z
 have y0:=(uH D).c0;have y1:=(uH D).c1;have y2:=(uH D).c2
 go_wp2_with fail
 clear y0 y1 y2
 refine(uH ae _ (uH F)).mono ?_
 rintro e w3 ⟨⟨Q,wc,U,X,so,sn,sd,rfl,hw,hv⟩,z⟩
 replace D:=ac ((uH D).all z)
 replace F:=ac ((uH F).trans (z.mono (uH F).size))
 have ba:=ad w3 (.cells #[.int .i64 (r:Nat),.int .i64 (c:Nat),.slice Q nW wc] 24)
 have za:=aq w3 (.cells #[.int .i64 (r:Nat),.int .i64 (c:Nat),.slice Q nW wc] 24)
 have bb:=ad (w3.alloc (.cells #[.int .i64 (r:Nat),.int .i64 (c:Nat),.slice Q nW wc] 24)) (.cells #[.int .i64 (c:Nat),.int .i64 (c:Nat),.slice U nV X] 24)
 have I:=ac ((aL.new w3 (.int .i64 (r:Nat)) (.int .i64 (c:Nat)) (.slice Q nW wc)).all bb)
 have H:=aL.new (w3.alloc (.cells #[.int .i64 (r:Nat),.int .i64 (c:Nat),.slice Q nW wc] 24)) (.int .i64 (c:Nat)) (.int .i64 (c:Nat)) (.slice U nV X)
 rw[za]at H
 replace H:=ac H
 have Z:=ac ((hw.below ba).below bb)
 have LV:=ac ((hv.below ba).below bb)
 replace D:=ac (((uH D).all ba).all bb)
 replace F:=ac ((uH F).trans (ba.mono (uH F).size))
 replace F:=ac ((uH F).trans (bb.mono (uH F).size))
 clear z ba bb hw hv za
 go_wp2_with fail
 generalize az:w3.heap.size+1=g4 at*
 generalize aI:w3.heap.size=g3 at*
 generalize a0:(w3.alloc (.cells #[.int .i64 (r:Nat),.int .i64 (c:Nat),.slice Q nW wc] 24)).alloc (.cells #[.int .i64 (c:Nat),.int .i64 (c:Nat),.slice U nV X] 24)=w4 at*
 clear az aI a0
 have hd:=(Below.refl w4.heap.size w4).drew
 replace D:=ac ((uH D).all hd);replace I:=ac ((uH I).all hd);replace H:=ac ((uH H).all hd);replace Z:=ac ((uH Z).below hd);replace LV:=ac ((uH LV).below hd)
 replace F:=ac ((uH F).trans (hd.mono (uH F).size))
 clear hd
 refine wp_region_held_drew (S:=(fun d=>(d.cell? ⟨w.heap.size,0,none⟩=some (.int .i64 (r:Nat))∧d.cell? ⟨w.heap.size,1,none⟩=some (.int .i64 (c:Nat))∧d.cell? ⟨w.heap.size,2,none⟩=some (.slice ao N J))∧(d.cell? ⟨g3,0,none⟩=some (.int .i64 (r:Nat))∧d.cell? ⟨g3,1,none⟩=some (.int .i64 (c:Nat))∧d.cell? ⟨g3,2,none⟩=some (.slice Q nW wc))∧d.cell? ⟨g4,0,none⟩=some (.int .i64 (c:Nat))∧d.cell? ⟨g4,1,none⟩=some (.int .i64 (c:Nat))∧d.cell? ⟨g4,2,none⟩=some (.slice U nV X))) (by kernel_rfl) ?_ (fun O=>?_)
 ·exact⟨⟨(uH D).c0,(uH D).c1,(uH D).c2⟩,⟨(uH I).c0,(uH I).c1,(uH I).c2⟩,(uH H).c0,(uH H).c1,(uH H).c2⟩
 refine wpAnyH_take (i:=0) (oi:={dst:=some 25,op:=Op.load 24 (Operand.tmp 1),type:=24,pos:= "law.go:60",after:=#[],guard:=none}) (v:=(Value.agg #[.int .i64 (r:Nat),.int .i64 (c:Nat),.slice ao N J])) rfl (by kernel_rfl) (by kernel_rfl) (by kernel_rfl) (fun _ _ _ h=>h) (Or.inl ⟨by rfl,?_⟩) (by assumption) ?_
 ·(intro w A;(try dsimp only at A);go_simp)
 simp only[Act.put,List.setIfInBounds_toArray,List.set_cons_zero,List.set_cons_succ]
 refine wpAnyH_take (i:=1) (oi:={dst:=some 26,op:=Op.load 24 (Operand.tmp 3),type:=24,pos:= "law.go:60",after:=#[],guard:=none}) (v:=(Value.agg #[.int .i64 (r:Nat),.int .i64 (c:Nat),.slice Q nW wc])) rfl (by kernel_rfl) (by kernel_rfl) (by kernel_rfl) (fun _ _ _ h=>h) (Or.inl ⟨by rfl,?_⟩) (by assumption) ?_
 ·(intro w A;(try dsimp only at A);go_simp)
 simp only[Act.put,List.setIfInBounds_toArray,List.set_cons_zero,List.set_cons_succ]
 refine wpAnyH_take (i:=2) (oi:={dst:=some 27,op:=Op.load 24 (Operand.tmp 4),type:=24,pos:= "law.go:60",after:=#[],guard:=none}) (v:=(Value.agg #[.int .i64 (c:Nat),.int .i64 (c:Nat),.slice U nV X])) rfl (by kernel_rfl) (by kernel_rfl) (by kernel_rfl) (fun _ _ _ h=>h) (Or.inl ⟨by rfl,?_⟩) (by assumption) ?_
 ·(intro w A;(try dsimp only at A);go_simp)
 simp only[Act.put,List.setIfInBounds_toArray,List.set_cons_zero,List.set_cons_succ]
 refine wpAnyH_ready (rs:=[3]) (by kernel_rfl) (by simp) ?_
 refine AllReadyH.cons (o:={dst:=some 28,op:=Op.call {callee:=Callee.value (Operand.func 24),args:=#[Operand.tmp 25,Operand.tmp 26,Operand.tmp 27],argTypes:=#[24,24,24]},type:=4,pos:= "law.go:60",after:=#[{on:=0,ground:=Ground.data},{on:=1,ground:=Ground.data},{on:=2,ground:=Ground.data}],guard:=none}) rfl (fun K Y=>?_) AllReadyH.nil
 go_simp
 refine(uH ah _ _ _ _ _ (uH F) (uH Z) (uH LV)).mono ?_
 rintro e w5 ⟨rfl,z⟩
 replace D:=ac ((uH D).all z);replace I:=ac ((uH I).all z);replace H:=ac ((uH H).all z);replace Z:=ac ((uH Z).below z);replace LV:=ac ((uH LV).below z)
 replace F:=ac ((uH F).trans (z.mono (uH F).size))
 clear z
 go_wp2_with fail
 refine Y.out _ _ ?_ (fun O=>?_)
 ·exact⟨⟨(uH D).c0,(uH D).c1,(uH D).c2⟩,⟨(uH I).c0,(uH I).c1,(uH I).c2⟩,(uH H).c0,(uH H).c1,(uH H).c2⟩
 clear Y K
 refine wpAnyH_take (i:=4) (oi:={dst:=some 29,op:=Op.move (Operand.tmp 28),type:=4,pos:= "law.go:60",after:=#[{on:=3,ground:=Ground.data},{on:=3,ground:=Ground.chain}],guard:=none}) (v:=(Value.bool true)) rfl (by kernel_rfl) (by kernel_rfl) (by kernel_rfl) (fun _ _ _ h=>h) (Or.inl ⟨by rfl,?_⟩) (by assumption) ?_
 ·(intro w A;(try dsimp only at A);go_simp)
 simp only[Act.put,List.setIfInBounds_toArray,List.set_cons_zero,List.set_cons_succ]
 refine wpAnyH_take (i:=5) (oi:={dst:=some 30,op:=Op.load 24 (Operand.tmp 3),type:=24,pos:= "law.go:60",after:=#[{on:=4,ground:=Ground.guard}],guard:=some (4,true)}) (v:=(Value.agg #[.int .i64 (r:Nat),.int .i64 (c:Nat),.slice Q nW wc])) rfl (by kernel_rfl) (by kernel_rfl) (by kernel_rfl) (fun _ _ _ h=>h) (Or.inl ⟨by rfl,?_⟩) (by assumption) ?_
 ·(intro w A;(try dsimp only at A);go_simp)
 simp only[Act.put,List.setIfInBounds_toArray,List.set_cons_zero,List.set_cons_succ]
 refine wpAnyH_take (i:=6) (oi:={dst:=some 31,op:=Op.load 24 (Operand.tmp 1),type:=24,pos:= "law.go:60",after:=#[{on:=4,ground:=Ground.guard}],guard:=some (4,true)}) (v:=(Value.agg #[.int .i64 (r:Nat),.int .i64 (c:Nat),.slice ao N J])) rfl (by kernel_rfl) (by kernel_rfl) (by kernel_rfl) (fun _ _ _ h=>h) (Or.inl ⟨by rfl,?_⟩) (by assumption) ?_
 ·(intro w A;(try dsimp only at A);go_simp)
 simp only[Act.put,List.setIfInBounds_toArray,List.set_cons_zero,List.set_cons_succ]
 refine wpAnyH_take (i:=7) (oi:={dst:=some 32,op:=Op.load 24 (Operand.tmp 4),type:=24,pos:= "law.go:60",after:=#[{on:=4,ground:=Ground.guard}],guard:=some (4,true)}) (v:=(Value.agg #[.int .i64 (c:Nat),.int .i64 (c:Nat),.slice U nV X])) rfl (by kernel_rfl) (by kernel_rfl) (by kernel_rfl) (fun _ _ _ h=>h) (Or.inl ⟨by rfl,?_⟩) (by assumption) ?_
 ·(intro w A;(try dsimp only at A);go_simp)
 simp only[Act.put,List.setIfInBounds_toArray,List.set_cons_zero,List.set_cons_succ]
 refine wpAnyH_take (i:=9) (oi:={dst:=some 34,op:=Op.load 24 (Operand.tmp 1),type:=24,pos:= "law.go:60",after:=#[{on:=4,ground:=Ground.guard}],guard:=some (4,true)}) (v:=(Value.agg #[.int .i64 (r:Nat),.int .i64 (c:Nat),.slice ao N J])) rfl (by kernel_rfl) (by kernel_rfl) (by kernel_rfl) (fun _ _ _ h=>h) (Or.inl ⟨by rfl,?_⟩) (by assumption) ?_
 ·(intro w A;(try dsimp only at A);go_simp)
 simp only[Act.put,List.setIfInBounds_toArray,List.set_cons_zero,List.set_cons_succ]
 refine wpAnyH_ready (rs:=[8]) (by kernel_rfl) (by simp) ?_
 refine AllReadyH.cons (o:={dst:=some 33,op:=Op.call {callee:=Callee.value (Operand.func 25),args:=#[Operand.tmp 30,Operand.tmp 31,Operand.tmp 32],argTypes:=#[24,24,24]},type:=35,pos:= "law.go:60",after:=#[{on:=5,ground:=Ground.data},{on:=6,ground:=Ground.data},{on:=7,ground:=Ground.data},{on:=4,ground:=Ground.chain},{on:=4,ground:=Ground.guard}],guard:=some (4,true)}) rfl (fun K Y=>?_) AllReadyH.nil
 go_simp
 refine(uH am _ _ _ _ _ (uH F) (uH Z) (uH LV)).mono ?_
 rintro e w6 ⟨t1,rfl,lv,z⟩
 obtain⟨n1,a1,l1,c1,E1,rfl,L⟩:=lv.ex17
 have L1:=ac L
 clear lv L
 replace D:=ac ((uH D).all z);replace I:=ac ((uH I).all z);replace H:=ac ((uH H).all z);replace Z:=ac ((uH Z).below z);replace LV:=ac ((uH LV).below z)
 replace F:=ac ((uH F).trans (z.mono (uH F).size))
 clear z
 go_wp2_with fail
 refine Y.out _ _ ?_ (fun O=>?_)
 ·exact⟨⟨(uH D).c0,(uH D).c1,(uH D).c2⟩,⟨(uH I).c0,(uH I).c1,(uH I).c2⟩,(uH H).c0,(uH H).c1,(uH H).c2⟩
 clear Y K
 refine wpAnyH_ready (rs:=[10]) (by kernel_rfl) (by simp) ?_
 refine AllReadyH.cons (o:={dst:=some 35,op:=Op.call {callee:=Callee.value (Operand.func 17),args:=#[Operand.tmp 34],argTypes:=#[24]},type:=35,pos:= "law.go:60",after:=#[{on:=9,ground:=Ground.data},{on:=8,ground:=Ground.chain},{on:=4,ground:=Ground.guard}],guard:=some (4,true)}) rfl (fun K Y=>?_) AllReadyH.nil
 go_simp
 refine(uH an _ (uH F)).mono ?_
 rintro e w7 ⟨t2,rfl,lv,z⟩
 obtain⟨n2,a2,l2,c2,E2,rfl,L⟩:=lv.ex17
 have L2:=ac L
 clear lv L
 replace D:=ac ((uH D).all z);replace I:=ac ((uH I).all z);replace H:=ac ((uH H).all z);replace Z:=ac ((uH Z).below z);replace LV:=ac ((uH LV).below z)
 replace F:=ac ((uH F).trans (z.mono (uH F).size))
 replace L1:=ac ((uH L1).below z)
 clear z
 go_wp2_with fail
 refine Y.out _ _ ?_ (fun O=>?_)
 ·exact⟨⟨(uH D).c0,(uH D).c1,(uH D).c2⟩,⟨(uH I).c0,(uH I).c1,(uH I).c2⟩,(uH H).c0,(uH H).c1,(uH H).c2⟩
 clear Y K
 refine wpAnyH_ready (rs:=[11]) (by kernel_rfl) (by simp) ?_
 refine AllReadyH.cons (o:={dst:=some 36,op:=Op.call {callee:=Callee.value (Operand.func 20),args:=#[Operand.tmp 33,Operand.tmp 35,Operand.const (Value.int IntKind.i64 35)],argTypes:=#[35,35,3]},type:=4,pos:= "law.go:60",after:=#[{on:=8,ground:=Ground.data},{on:=10,ground:=Ground.data},{on:=10,ground:=Ground.chain},{on:=4,ground:=Ground.guard}],guard:=some (4,true)}) rfl (fun K Y=>?_) AllReadyH.nil
 go_simp
 refine(uH ar _ _ _ (uH L1) (uH L2)).mono ?_
 rintro e w8 ⟨rfl,z⟩
 replace D:=ac ((uH D).all z);replace I:=ac ((uH I).all z);replace H:=ac ((uH H).all z);replace Z:=ac ((uH Z).below z);replace LV:=ac ((uH LV).below z)
 replace F:=ac ((uH F).trans (z.mono (uH F).size))
 clear z L1 L2
 go_wp2_with fail
 refine Y.out _ _ ?_ (fun O=>?_)
 ·exact⟨⟨(uH D).c0,(uH D).c1,(uH D).c2⟩,⟨(uH I).c0,(uH I).c1,(uH I).c2⟩,(uH H).c0,(uH H).c1,(uH H).c2⟩
 clear Y K
 refine wpAnyH_take (i:=12) (oi:={dst:=some 37,op:=Op.pick (Operand.tmp 29) (Operand.tmp 36) (Operand.const (Value.bool false)),type:=4,pos:= "law.go:60",after:=#[{on:=4,ground:=Ground.data},{on:=11,ground:=Ground.data}],guard:=none}) (v:=(Value.bool true)) rfl (by kernel_rfl) (by kernel_rfl) (by kernel_rfl) (fun _ _ _ h=>h) (Or.inl ⟨by rfl,?_⟩) (by assumption) ?_
 ·(intro w A;(try dsimp only at A);go_simp)
 simp only[Act.put,List.setIfInBounds_toArray,List.set_cons_zero,List.set_cons_succ]
 refine wpAnyH_take (i:=13) (oi:={dst:=some 38,op:=Op.move (Operand.tmp 37),type:=4,pos:= "law.go:60",after:=#[{on:=12,ground:=Ground.data},{on:=11,ground:=Ground.chain}],guard:=none}) (v:=(Value.bool true)) rfl (by kernel_rfl) (by kernel_rfl) (by kernel_rfl) (fun _ _ _ h=>h) (Or.inl ⟨by rfl,?_⟩) (by assumption) ?_
 ·(intro w A;(try dsimp only at A);go_simp)
 simp only[Act.put,List.setIfInBounds_toArray,List.set_cons_zero,List.set_cons_succ]
 refine wpAnyH_ready (rs:=[14]) (by kernel_rfl) (by simp) ?_
 refine AllReadyH.cons (o:={dst:=some 39,op:=Op.call {callee:=Callee.value (Operand.func 22),args:=#[],argTypes:=#[]},type:=4,pos:= "law.go:60",after:=#[{on:=13,ground:=Ground.chain},{on:=13,ground:=Ground.guard}],guard:=some (13,true)}) rfl (fun K Y=>?_) AllReadyH.nil
 go_simp
 refine(uH ax _ (uH F)).mono ?_
 rintro e w9 ⟨rfl,z⟩
 replace D:=ac ((uH D).all z);replace I:=ac ((uH I).all z);replace H:=ac ((uH H).all z);replace Z:=ac ((uH Z).below z);replace LV:=ac ((uH LV).below z)
 replace F:=ac ((uH F).trans (z.mono (uH F).size))
 clear z
 go_wp2_with fail
 refine Y.out _ _ ?_ (fun O=>?_)
 ·exact⟨⟨(uH D).c0,(uH D).c1,(uH D).c2⟩,⟨(uH I).c0,(uH I).c1,(uH I).c2⟩,(uH H).c0,(uH H).c1,(uH H).c2⟩
 clear Y K
 refine wpAnyH_take (i:=15) (oi:={dst:=some 40,op:=Op.pick (Operand.tmp 38) (Operand.tmp 39) (Operand.const (Value.bool false)),type:=4,pos:= "law.go:60",after:=#[{on:=13,ground:=Ground.data},{on:=14,ground:=Ground.data}],guard:=none}) (v:=(Value.bool true)) rfl (by kernel_rfl) (by kernel_rfl) (by kernel_rfl) (fun _ _ _ h=>h) (Or.inl ⟨by rfl,?_⟩) (by assumption) ?_
 ·(intro w A;(try dsimp only at A);go_simp)
 simp only[Act.put,List.setIfInBounds_toArray,List.set_cons_zero,List.set_cons_succ]
 refine wpAnyH_take (i:=16) (oi:={dst:=some 2,op:=Op.assign (Operand.tmp 40),type:=4,pos:= "law.go:60",after:=#[{on:=15,ground:=Ground.data},{on:=14,ground:=Ground.chain},{on:=0,ground:=Ground.phase},{on:=1,ground:=Ground.phase},{on:=2,ground:=Ground.phase},{on:=3,ground:=Ground.phase},{on:=4,ground:=Ground.phase},{on:=5,ground:=Ground.phase},{on:=6,ground:=Ground.phase},{on:=7,ground:=Ground.phase},{on:=8,ground:=Ground.phase},{on:=9,ground:=Ground.phase},{on:=10,ground:=Ground.phase},{on:=11,ground:=Ground.phase},{on:=12,ground:=Ground.phase},{on:=13,ground:=Ground.phase},{on:=14,ground:=Ground.phase},{on:=15,ground:=Ground.phase}],guard:=none}) (v:=(Value.bool true)) rfl (by kernel_rfl) (by kernel_rfl) (by kernel_rfl) (fun _ _ _ h=>h) (Or.inl ⟨by rfl,?_⟩) (by assumption) ?_
 ·(intro w A;(try dsimp only at A);go_simp)
 simp only[Act.put,List.setIfInBounds_toArray,List.set_cons_zero,List.set_cons_succ]
 refine wpAnyH_done (by kernel_rfl) ?_ _
 go_wp2_with fail
 go_ret
 exact⟨rfl,uH F⟩
end Go.Proofs.YtcbcmlaogehimaaGreatDoor
namespace Go.Proofs.YtcbcmlaogehimaaGreatDoor
open Go.RowKit
theorem DQ(a b:Nat)(K:a<18446744073709551616)(G:b<18446744073709551616)(H:aj a=true)(d:aj b=true)(I:fK a≠0)(u:fK b≠0)(h:ab (fQ a)≤p2 1000*ab (fQ b)):aj (dV a b)=true:=by
 obtain⟨q1,Z⟩:=tq a b K G H d I u
 have z:=gl b G d u
 have L:=aE (eX b)
 have D:xE (qS a b) (fX a-fX b-181)<p2 1023:=by
  have N:16*p2 1000≤p2 1023∧0<p2 1000:=by
   have O:=aR (show(1000+1+1+1+1:Int)≤1023 by decide)
   simp only[cT]at O
   exact⟨by grind,aE _⟩
  generalize xE (qS a b) (fX a-fX b-181)=X at*
  rcases Rat.le_total (a:=X) (b:=2*p2 1000)with g|g
  ·grind
  ·exfalso
   have J:0<ab (fQ b):=by grind
   have Q:=Rat.mul_le_mul_of_nonneg_left g (Rat.le_of_lt J)
   have hp:=Rat.mul_pos N.2 J
   have U:ab (fQ b)*X=X*ab (fQ b):=Rat.mul_comm _ _
   have F:ab (fQ b)*(2*p2 1000)=2*(p2 1000*ab (fQ b)):=by grind
   rw[U,F]at Q
   generalize X*ab (fQ b)=XB at*
   generalize p2 1000*ab (fQ b)=PB at*
   generalize ab (fQ a)=A at*
   clear z Z
   grind
 have:=iV _ _ D
 have Y:qV a b≤9218868437227405312:=dK _ _
 exact(bZ _).2.2.2 (by rw[(qO a b H d I u).1,iU _ _ (by omega)];exact this)
theorem o6(a b:Nat)(A:a<18446744073709551616)(D:b<18446744073709551616)(F:aj a=true)(u:aj b=true)(G:fK b≠0)(h:ab (fQ a)≤p2 1000*ab (fQ b)):
  aj (dV a b)=true∧9007199254740992*ab (fQ (dV a b)*fQ b-fQ a)≤2*ab (fQ a)+9007199254740992*(p2 (-1075)*ab (fQ b)):=by
 have K:=Rat.mul_nonneg (Rat.le_of_lt (aE (-1075))) (cL (fQ b))
 have L:=cL (fQ a)
 by_cases d:fK a=0
 ·have q:=bm a d
  obtain⟨O,J⟩:=bP u
  have e:dV a b=gA (fS a^^fS b) 0:=by
   unfold dV
   rw[if_neg (by rintro(k|k);omega;exact J k),if_neg (by rintro⟨k,_⟩;omega),if_neg (by omega),if_pos (.inr d)]
  have H:aj (dV a b)=true∧fQ (dV a b)=0:=by
   rw[e]
   cases fS a^^fS b
   ·rw[bN];exact⟨by decide,LK⟩
   ·rw[eM];exact⟨by decide,bm _ (by decide)⟩
  refine⟨H.1,?_⟩
  rw[H.2,q,show(0:Rat)*fQ b-0=0 by grind,show ab (0:Rat)=0 by unfold ab;grind]
  grind
 ·have I:=DQ a b A D F u d G h
  refine⟨I,?_⟩
  have N:=cL (fQ (dV a b)*fQ b-fQ a)
  rcases Fq a b A D F u d G I with e|e
  ·grind
  ·have:=e.2
   generalize p2 (-1075)*ab (fQ b)=z at*
   grind
end Go.Proofs.YtcbcmlaogehimaaGreatDoor
namespace Go.Proofs.YtcbcmlaogehimaaGreatDoor
theorem cD(x:Rat):ab x*ab x=x*x:=by rw[←bJ];exact aX (aw _)
theorem zK(t m a r c s:Rat)(O:9007199254740992*ab (m-t*t)≤t*t+1/1000)(G:9007199254740992*ab (a-(1+m))≤ab (1+m))
  (Q:9007199254740992*(r*r)≤9007199254740992*a+3*a) (U:9007199254740992*a≤9007199254740992*(r*r)+3*a) (hc:9007199254740992*ab (c*r-1)≤2+1/100)
  (H:9007199254740992*ab (s-c*t)≤ab (c*t)+1/1000):562949953421312*ab (c*c+s*s-1)≤1:=by
 have t0:=aw t
 have I:=aw c
 --the sum under the root
 have J:9007199254740992*(a-(1+t*t))≤201/100*(1+t*t)∧9007199254740992*((1+t*t)-a)≤201/100*(1+t*t):=by
  have l1:=br (m-t*t);have K:=br (a-(1+m))
  have L:ab (1+m)=1+m:=aX (by grind)
  rw[L]at G
  generalize t*t=q at*
  constructor<;>grind
 have u:9007199254740992*(r*r-(1+t*t))≤502/100*(1+t*t)∧9007199254740992*((1+t*t)-r*r)≤502/100*(1+t*t):=by
  obtain⟨e1,e2⟩:=J
  generalize t*t=q at*
  generalize r*r=p at*
  constructor<;>grind
 --c times r
 have D:9007199254740992*((c*r)*(c*r)-1)≤403/100∧9007199254740992*(1-(c*r)*(c*r))≤403/100:=by
  have l1:=br (c*r-1)
  have a0:=cL (c*r-1)
  have K:ab (c*r-1)≤1/1000000:=by grind
  have L:=Rat.mul_le_mul_of_nonneg_left K a0
  have l4:(c*r-1)*(c*r-1)=ab (c*r-1)*ab (c*r-1):=(cD _).symm
  have l5:=aw (c*r-1)
  have l6:(c*r)*(c*r)-1=2*(c*r-1)+(c*r-1)*(c*r-1):=by grind
  rw[l4]at l6 l5
  generalize (c*r)*(c*r)=z at*
  generalize c*r=d at*
  generalize ab (d-1)*ab (d-1)=y at*
  generalize ab (d-1)=x at*
  constructor<;>grind
 have X:c*c*(r*r)=(c*r)*(c*r):=by grind
 have Y:=Rat.mul_le_mul_of_nonneg_left u.1 I
 have Z:=Rat.mul_le_mul_of_nonneg_left u.2 I
 have P:c*c*(1+t*t)=c*c+(c*t)*(c*t):=by grind
 have p0:=aw (c*t)
 have Y2:9007199254740992*((c*r)*(c*r)-(c*c+(c*t)*(c*t)))≤502/100*(c*c+(c*t)*(c*t)):=by rw[←P,←X];grind
 have Z2:9007199254740992*((c*c+(c*t)*(c*t))-(c*r)*(c*r))≤502/100*(c*c+(c*t)*(c*t)):=by rw[←P,←X];grind
 clear Y Z X P J u Q U G O hc
 have XX:c*c+(c*t)*(c*t)≤1001/1000:=by
  obtain⟨d1,d2⟩:=D
  generalize (c*r)*(c*r)=z at*
  generalize (c*t)*(c*t)=y at*
  generalize c*c=x at*
  grind
 --s
 have S:9007199254740992*(s*s-(c*t)*(c*t))≤22/10∧9007199254740992*((c*t)*(c*t)-s*s)≤22/10:=by
  have A:=cL (s-c*t)
  have N:=cL (c*t)
  have F:ab (c*t)*ab (c*t)=(c*t)*(c*t):=cD _
  have g1:ab (c*t)≤11/10:=by
   rcases Rat.le_total (a:=ab (c*t)) (b:=11/10)with h|h
   ·exact h
   ·have:=Rat.mul_le_mul_of_nonneg_left h N
    rw[F]at this
    grind
  have hq:=Rat.mul_le_mul_of_nonneg_left H N
  have aa:=Rat.mul_le_mul_of_nonneg_left (show ab (s-c*t)≤1/1000000 by grind) A
  have e:s*s-(c*t)*(c*t)=2*((c*t)*(s-c*t))+(s-c*t)*(s-c*t):=by grind
  have k1:=br ((c*t)*(s-c*t))
  rw[bJ]at k1
  have k2:(s-c*t)*(s-c*t)=ab (s-c*t)*ab (s-c*t):=(cD _).symm
  have k3:9007199254740992*(ab (c*t)*ab (s-c*t))≤(c*t)*(c*t)+1/1000*ab (c*t):=by rw[←F];grind
  rw[k2]at e
  have k9:=Rat.mul_nonneg A A
  have c1:=aw c
  generalize ab (c*t)*ab (s-c*t)=w1 at*
  generalize ab (s-c*t)*ab (s-c*t)=w2 at*
  generalize (c*t)*(s-c*t)=w3 at*
  generalize ab (s-c*t)=w4 at*
  generalize (c*t)*(c*t)=w5 at*
  generalize ab (c*t)=w6 at*
  generalize s*s=w7 at*
  generalize c*c=w8 at*
  clear F hq k2
  constructor<;>grind
 clear H
 obtain⟨d1,d2⟩:=D
 obtain⟨s1,s2⟩:=S
 generalize (c*r)*(c*r)=z at*
 generalize (c*t)*(c*t)=y at*
 generalize s*s=v at*
 generalize c*c=x at*
 have:=mE (x:=x+v-1) (y:=1/562949953421312) (by grind) (by grind)
 grind
theorem o7(a:Nat)(h:0<fQ a):fS a=false∧fK a≠0:=by
 refine⟨?_,fun d=>?_⟩
 ·cases e:fS a with
  |false=>rfl
  |true=>
   rw[dj,if_pos e]at h
   have:=oA (fR a)
   grind
 ·rw[bm a d]at h
  grind
theorem dz:9007199254740992*p2 (-1075)≤1/1000∧0<p2 (-1075)∧1000000000000*p2 (-1075)≤1/9007199254740992:=by
 obtain⟨h,d,u⟩:=iq
 generalize p2 (-1075)=z at*
 refine⟨by grind,d,by grind⟩
theorem kq(t:Nat)(H:aj t=true)(ht:fQ t*fQ t≤4):
  aj (rm t)=true∧aj (pL t)=true∧562949953421312*ab (fQ (rm t)*fQ (rm t)+fQ (pL t)*fQ (pL t)-1)≤1:=by
 obtain⟨n1,n2,n3⟩:=dz
 have B:=mf
 have t0:=aw (fQ t)
 have d:aj 4607182418800017408=true:=jI
 have F:=gM
 obtain⟨m,Z⟩:∃m,m=mV t t:=⟨_,rfl⟩
 obtain⟨a,G⟩:∃a,a=aV 4607182418800017408 m:=⟨_,rfl⟩
 obtain⟨r,hr⟩:∃r,r=sV a:=⟨_,rfl⟩
 obtain⟨c,L⟩:∃c,c=dV 4607182418800017408 r:=⟨_,rfl⟩
 have Q:rm t=c:=by unfold rm;rw[←Z,←G,←hr,←L]
 have es:pL t=mV c t:=by unfold pL;rw[Q]
 rw[es,Q]
 have U:ab (fQ t*fQ t)=fQ t*fQ t:=aX t0
 obtain⟨N,e1⟩:=ir t t H H (by rw[U];grind)
 rw[←Z]at N e1
 rw[U]at e1
 have k1:=br (fQ m-fQ t*fQ t)
 have m1:0≤1+fQ m:=by generalize fQ t*fQ t=q at*;grind
 have m2:1+fQ m≤6:=by generalize fQ t*fQ t=q at*;grind
 have X:ab (1+fQ m)=1+fQ m:=aX m1
 have Y:aj a=true:=by rw[G];exact gV _ _ d N (by rw[F,X];grind)
 have I:=gT _ _ d N (by rw[←G];exact Y)
 rw[←G,F]at I
 have k2:=br (fQ a-(1+fQ m))
 have a1:99/100≤fQ a∧fQ a≤7:=by
  rw[X]at I
  generalize fQ t*fQ t=q at*
  constructor<;>grind
 obtain⟨a2,a3⟩:=o7 a (by grind)
 obtain⟨f3,s3,l3,p3,D,e3,e4⟩:=gI a Y a3 a2
 rw[←hr]at f3 s3 l3 p3 D e3 e4
 have r1:9/10≤fQ r:=by
  rcases Rat.le_total (a:=fQ r) (b:=9/10)with h|h
  ·have:=Rat.mul_le_mul_of_nonneg_left h D
   generalize fQ r*fQ r=z at*
   grind
  ·exact h
 have r2:fQ r≤3:=by
  rcases Rat.le_total (a:=3) (b:=fQ r)with h|h
  ·have:=Rat.mul_le_mul_of_nonneg_left h D
   generalize fQ r*fQ r=z at*
   grind
  ·exact h
 have J:ab (fQ r)=fQ r:=aX D
 have A:ab (1:Rat)=1:=aX (by grind)
 have kr:fK r≠0:=fun h=>by have:=(cj r).1 h;omega
 have P1:=aR (show(1:Int)≤1000 by decide)
 have P2:p2 1=2:=by rw[show(1:Int)=((1:Nat):Int) by rfl,bu];rfl
 have P3:=Rat.mul_le_mul_of_nonneg_right (show 2≤p2 1000 by grind) D
 obtain⟨O,e5⟩:=o6 4607182418800017408 r (by decide) l3 d f3 kr (by rw[F,J,A];grind)
 rw[←L,F,J,A]at e5
 rw[←L]at O
 have P4:=Rat.mul_le_mul_of_nonneg_left r2 (show 0≤p2 (-1075) by grind)
 have K:9007199254740992*ab (fQ c*fQ r-1)≤2+1/100:=by
  generalize p2 (-1075)*fQ r=z at*
  grind
 have c1:ab (fQ c)≤2:=by
  have k:=br (fQ c*fQ r-1)
  have c0:=cL (fQ c)
  have e:ab (fQ c)*fQ r=ab (fQ c*fQ r):=by rw[bJ,J]
  have e':=mE (x:=fQ c*fQ r) (y:=101/100) (by grind) (by grind)
  have:=Rat.mul_le_mul_of_nonneg_left r1 c0
  rw[e]at this
  grind
 have t1:ab (fQ t)≤2:=by
  rcases Rat.le_total (a:=ab (fQ t)) (b:=2)with h|h
  ·exact h
  ·have u:=Rat.mul_le_mul_of_nonneg_left h (cL (fQ t))
   rw[cD]at u
   rcases Rat.le_total (a:=ab (fQ t)) (b:=2)with h'|h'
   ·exact h'
   ·grind
 have ct:ab (fQ c*fQ t)≤4:=by
  rw[bJ]
  have u:=Rat.mul_le_mul_of_nonneg_left t1 (cL (fQ c))
  grind
 obtain⟨f5,e6⟩:=ir c t O H (by grind)
 exact⟨O,f5,zK (fQ t) (fQ m) (fQ a) (fQ r) (fQ c) (fQ (mV c t)) (by grind) I e3 e4 K (by grind)⟩
theorem lj(c x:Nat)(fc:aj c=true)(d:aj x=true)(h:ab (fQ c)≤101/100)(F:ab (fQ x)≤64):
  aj (mV c x)=true∧9007199254740992*ab (fQ (mV c x)-fQ c*fQ x)≤101/100*ab (fQ x)+9007199254740992*p2 (-1075)∧ab (fQ (mV c x))≤102/100*ab (fQ x)+2*p2 (-1075):=by
 obtain⟨G,H,I⟩:=dz
 have B:=mf
 have u:=cL (fQ x)
 have t:=Rat.mul_le_mul_of_nonneg_left h u
 have e:ab (fQ c*fQ x)=ab (fQ x)*ab (fQ c):=by rw[bJ,Rat.mul_comm]
 obtain⟨A,D⟩:=ir c x fc d (by rw[e];grind)
 rw[e]at D
 have k:=dO (fQ (mV c x)-fQ c*fQ x) (fQ c*fQ x)
 rw[show fQ (mV c x)-fQ c*fQ x+fQ c*fQ x=fQ (mV c x) by grind,e]at k
 generalize ab (fQ x)*ab (fQ c)=z at*
 generalize ab (fQ (mV c x)-fQ c*fQ x)=y at*
 exact⟨A,by grind,by grind⟩
theorem xT(p q:Nat)(P Q X Y:Rat)(d:aj p=true)(h:aj q=true)(D:0≤X∧X≤64)(F:0≤Y∧Y≤64)
  (G:9007199254740992*ab (fQ p-P)≤101/100*X+9007199254740992*p2 (-1075)) (H:9007199254740992*ab (fQ q-Q)≤101/100*Y+9007199254740992*p2 (-1075))
  (u:ab (fQ p)≤102/100*X+2*p2 (-1075)) (z:ab (fQ q)≤102/100*Y+2*p2 (-1075)):
  aj (aV p q)=true∧9007199254740992*ab (fQ (aV p q)-(P+Q))≤203/100*(X+Y)+9007199254740992*(3*p2 (-1075)):=by
 obtain⟨I,J,K⟩:=dz
 have B:=mf
 have k:=dO (fQ p) (fQ q)
 have f:=gV p q d h (by grind)
 have e:=gT p q d h f
 have A:=dO (fQ (aV p q)-(fQ p+fQ q)) ((fQ p-P)+(fQ q-Q))
 have k2:=dO (fQ p-P) (fQ q-Q)
 rw[show fQ (aV p q)-(fQ p+fQ q)+((fQ p-P)+(fQ q-Q))=fQ (aV p q)-(P+Q) by grind]at A
 refine⟨f,?_⟩
 generalize ab (fQ (aV p q)-(P+Q))=z1 at*
 generalize ab (fQ (aV p q)-(fQ p+fQ q))=z2 at*
 generalize ab (fQ p-P+(fQ q-Q))=L at*
 generalize ab (fQ p-P)=N at*
 generalize ab (fQ q-Q)=O at*
 generalize ab (fQ p+fQ q)=U at*
 grind
theorem lk(c s x y:Nat)(fc:aj c=true)(u:aj s=true)(z:aj x=true)(A:aj y=true)(D:ab (fQ c)≤101/100)(F:ab (fQ s)≤101/100)(d:ab (fQ x)≤64)(h:ab (fQ y)≤64):
  aj (aV (mV c x) (mV s y))=true∧aj (aV (mV c y) (fN (mV s x)))=true∧
  9007199254740992*ab (fQ (aV (mV c x) (mV s y))-(fQ c*fQ x+fQ s*fQ y))≤203/100*(ab (fQ x)+ab (fQ y))+9007199254740992*(3*p2 (-1075))∧
  9007199254740992*ab (fQ (aV (mV c y) (fN (mV s x)))-(fQ c*fQ y-fQ s*fQ x))≤203/100*(ab (fQ x)+ab (fQ y))+9007199254740992*(3*p2 (-1075)):=by
 have G:=cL (fQ x);have H:=cL (fQ y)
 obtain⟨K,L,N⟩:=lj c x fc z D d
 obtain⟨O,Q,U⟩:=lj s y u A F h
 obtain⟨X,Y,Z⟩:=lj c y fc A D h
 obtain⟨e1,e2,e3⟩:=lj s x u z F d
 have J:aj (fN (mV s x))=true:=by rw[jF _ (cY _ _)];exact e1
 have I:fQ (fN (mV s x))= -fQ (mV s x):=nw _ (cY _ _)
 obtain⟨r1,r2⟩:=xT _ _ _ _ _ _ K O ⟨G,d⟩ ⟨H,h⟩ L Q N U
 obtain⟨s1,s2⟩:=xT (mV c y) (fN (mV s x)) (fQ c*fQ y) (-(fQ s*fQ x)) (ab (fQ y)) (ab (fQ x)) X J ⟨H,h⟩ ⟨G,d⟩ Y (by rw[I,show-fQ (mV s x)- -(fQ s*fQ x)= -(fQ (mV s x)-fQ s*fQ x) by grind,kf];exact e2) Z (by rw[I,kf];exact e3)
 refine⟨r1,s1,r2,?_⟩
 rw[show fQ c*fQ y-fQ s*fQ x=fQ c*fQ y+-(fQ s*fQ x) by grind]
 grind
theorem lm{c s:Rat}(h:562949953421312*ab (c*c+s*s-1)≤1):ab c≤101/100∧ab s≤101/100:=by
 have k:=br (c*c+s*s-1)
 have d:∀x y:Rat,562949953421312*(x*x+y*y-1)≤1→ab x≤101/100:=by
  intro x y h
  have z:=aw y
  rcases Rat.le_total (a:=ab x) (b:=101/100)with g|g
  ·exact g
  ·have u:=Rat.mul_le_mul_of_nonneg_left g (cL x)
   rw[cD]at u
   generalize x*x=a at*
   generalize y*y=b at*
   grind
 exact⟨d c s (by grind),d s c (by grind)⟩
theorem zL(c s x y X Y η:Rat)(D:562949953421312*ab (c*c+s*s-1)≤1)(h:0≤η)(I:1000000000000*η≤1/9007199254740992)(hx:ab x≤64)(hy:ab y≤64)
  (z:9007199254740992*ab (X-(c*x+s*y))≤203/100*(ab x+ab y)+9007199254740992*(3*η))
  (A:9007199254740992*ab (Y-(c*y-s*x))≤203/100*(ab x+ab y)+9007199254740992*(3*η)):
  9007199254740992*(X*X+Y*Y-(x*x+y*y))≤40*(x*x+y*y)+9007199254740992*(4000*η):=by
 obtain⟨c1,s1⟩:=lm D
 obtain⟨E,hE⟩:∃E,E=X-(c*x+s*y):=⟨_,rfl⟩
 obtain⟨F,hF⟩:∃F,F=Y-(c*y-s*x):=⟨_,rfl⟩
 rw[←hE]at z;rw[←hF]at A
 obtain⟨m,hm⟩:∃m,m=ab x+ab y:=⟨_,rfl⟩
 rw[←hm]at z A
 have J:=cL x;have K:=cL y
 have m0:0≤m:=by grind
 have m1:m≤128:=by grind
 have mm:m*m≤2*(x*x+y*y):=by
  have u:=aw (ab x-ab y)
  have p1:=cD x;have p2:=cD y
  rw[hm]
  grind
 --the turned pair
 have L:ab (c*x+s*y)≤101/100*m:=by
  have H:=dO (c*x) (s*y)
  rw[bJ,bJ]at H
  have u1:=Rat.mul_le_mul_of_nonneg_left c1 J
  have u2:=Rat.mul_le_mul_of_nonneg_left s1 K
  grind
 have N:ab (c*y-s*x)≤101/100*m:=by
  have H:=dO (c*y) (-(s*x))
  rw[kf,bJ,bJ,show c*y+-(s*x)=c*y-s*x by grind]at H
  have u1:=Rat.mul_le_mul_of_nonneg_left c1 K
  have u2:=Rat.mul_le_mul_of_nonneg_left s1 J
  grind
 have d:∀U G:Rat,ab U≤101/100*m→9007199254740992*ab G≤203/100*m+9007199254740992*(3*η)→9007199254740992*(2*(U*G)+G*G)≤411/100*(m*m)+9007199254740992*(1000*η):=by
  intro U G hU hG
  have O:=cL G
  have k:=br (U*G)
  rw[bJ]at k
  have q1:=Rat.mul_le_mul_of_nonneg_right hU O
  have q2:=Rat.mul_le_mul_of_nonneg_left hG m0
  have q3:=Rat.mul_le_mul_of_nonneg_right m1 h
  have Q:ab G≤1/1000*m+4*η:=by grind
  have Z:=Rat.mul_le_mul_of_nonneg_left Q O
  rw[cD]at Z
  have q5:=Rat.mul_le_mul_of_nonneg_right (show ab G≤1 by grind) h
  have e1:m*(203/100*m+9007199254740992*(3*η))=203/100*(m*m)+9007199254740992*(3*(m*η)):=by grind
  have e2:m*(9007199254740992*ab G)=9007199254740992*(m*ab G):=by grind
  have e3:ab G*(1/1000*m+4*η)=1/1000*(m*ab G)+4*(ab G*η):=by grind
  have e4:101/100*m*ab G=101/100*(m*ab G):=by grind
  rw[e1,e2]at q2;rw[e3]at Z;rw[e4]at q1
  generalize ab U*ab G=v1 at*
  generalize U*G=v2 at*
  generalize G*G=v3 at*
  generalize m*ab G=v4 at*
  generalize m*m=v5 at*
  generalize m*η=v6 at*
  generalize ab G*η=v7 at*
  clear e1 e2 e3 e4 Q hG hU mm
  grind
 have o1:=d _ E L z
 have o2:=d _ F N A
 have k:=br (c*c+s*s-1)
 have z0:0≤x*x+y*y:=by have:=aw x;have:=aw y;grind
 have q:=Rat.mul_le_mul_of_nonneg_right (show 562949953421312*(c*c+s*s-1)≤1 by grind) z0
 have e:X*X+Y*Y-(x*x+y*y)=(c*c+s*s-1)*(x*x+y*y)+(2*((c*x+s*y)*E)+E*E)+(2*((c*y-s*x)*F)+F*F):=by
  have:X=E+(c*x+s*y):=by grind
  have:Y=F+(c*y-s*x):=by grind
  subst X Y
  grind
 rw[e]
 have e5:562949953421312*(c*c+s*s-1)*(x*x+y*y)=562949953421312*((c*c+s*s-1)*(x*x+y*y)):=by grind
 rw[e5]at q
 generalize (c*c+s*s-1)*(x*x+y*y)=v1 at*
 generalize 2*((c*x+s*y)*E)+E*E=v2 at*
 generalize 2*((c*y-s*x)*F)+F*F=v3 at*
 generalize x*x+y*y=v4 at*
 generalize m*m=v5 at*
 clear d e e5 z A L N hE hF
 grind
def dU(f:Nat→Rat):Nat→Rat
 |0=>0
 |n+1=>dU f n+f n
theorem o8{f g:Nat→Rat}:∀n,(∀j,j<n→f j=g j)→dU f n=dU g n
 |0,_=>rfl
 |n+1,h=>by
  show dU f n+f n=dU g n+g n
  rw[o8 n (fun j d=>h j (by omega)),h n (by omega)]
theorem gf{f g:Nat→Rat}{p q:Nat}(z:p≠q):∀n,(∀j,j<n→j≠p→j≠q→f j=g j)→
  dU f n=dU g n+(if p<n then f p-g p else 0)+(if q<n then f q-g q else 0)
 |0,_=>by
  show(0:Rat)=0+(if p<0 then f p-g p else 0)+(if q<0 then f q-g q else 0)
  rw[if_neg (by omega),if_neg (by omega)]
  grind
 |n+1,h=>by
  have F:=gf (f:=f) (g:=g) z n (fun j H=>h j (by omega))
  show dU f n+f n=dU g n+g n+(if p<n+1 then f p-g p else 0)+(if q<n+1 then f q-g q else 0)
  rw[F]
  by_cases A:n=p
  ·subst A
   rw[if_neg (by omega),if_pos (show n<n+1 by omega)]
   by_cases d:q<n
   ·rw[if_pos d,if_pos (show q<n+1 by omega)];grind
   ·rw[if_neg d,if_neg (show¬q<n+1 by omega)];grind
  ·by_cases d:n=q
   ·subst d
    rw[if_neg (show¬n<n by omega),if_pos (show n<n+1 by omega)]
    by_cases D:p<n
    ·rw[if_pos D,if_pos (show p<n+1 by omega)];grind
    ·rw[if_neg D,if_neg (show¬p<n+1 by omega)];grind
   ·have G:(if p<n+1 then f p-g p else 0)=(if p<n then f p-g p else 0):=by
     by_cases u:p<n
     ·rw[if_pos u,if_pos (by omega)]
     ·rw[if_neg u,if_neg (by omega)]
    have k2:(if q<n+1 then f q-g q else 0)=(if q<n then f q-g q else 0):=by
     by_cases u:q<n
     ·rw[if_pos u,if_pos (by omega)]
     ·rw[if_neg u,if_neg (by omega)]
    rw[G,k2,h n (by omega) A d]
    grind
theorem wF{f:Nat→Rat}:∀n,(∀j,j<n→0≤f j)→0≤dU f n
 |0,_=>Rat.le_refl
 |n+1,h=>by
  have u:=wF n (fun j d=>h j (by omega))
  have:=h n (by omega)
  show 0≤dU f n+f n
  grind
theorem xU{f:Nat→Rat}{j:Nat}:∀n,(∀j,j<n→0≤f j)→j<n→f j≤dU f n
 |0,_,d=>absurd d (Nat.not_lt_zero _)
 |n+1,h,d=>by
  show f j≤dU f n+f n
  have u:=wF n (fun j d=>h j (by omega))
  have z:=h n (by omega)
  by_cases e:j=n
  ·subst e;grind
  ·have:=xU (j:=j) n (fun j d=>h j (by omega)) (by omega)
   grind
theorem xW{f g:Nat→Rat}:∀n,(∀j,j<n→f j≤g j)→dU f n≤dU g n
 |0,_=>Rat.le_refl
 |n+1,h=>by
  have u:=xW n (fun j d=>h j (by omega))
  have:=h n (by omega)
  show dU f n+f n≤dU g n+g n
  grind
theorem bT(r c:Nat)(S:List Nat)(p q C s:Nat)(z:p<c)(A:q<c){i j:Nat}(d:i<r)(h:j<c):aS c (gd r c S p q C s) i j=
  if j=p then aV (mV C (aS c S i p)) (mV s (aS c S i q))else if j=q then aV (mV C (aS c S i q)) (fN (mV s (aS c S i p)))else aS c S i j:=by
 unfold gd
 have e:∀M:List Nat,aS c (Em c r M) i j=aS r M j i:=fun M=>kY r c _ d h
 rw[e,Hm c r _ p q C s h d]
 have u:∀k,k<c→aS r (Em r c S) k i=aS c S i k:=fun k D=>kY c r _ D d
 rw[u p z,u q A,u j h]
structure cg (r c:Nat) (S:List Nat) (B:Rat):Prop where
 fin:∀i j,i<r→j<c→aj (aS c S i j)=true
 lt:∀i j,i<r→j<c→aS c S i j<18446744073709551616
 sq:∀i,i<r→dU (fun j=>fQ (aS c S i j)*fQ (aS c S i j)) c≤B
theorem cg.small{r c:Nat}{S:List Nat}{B:Rat}(h:cg r c S B)(d:B≤100){i j:Nat}(z:i<r)(A:j<c):ab (fQ (aS c S i j))≤10:=by
 have k:=xU (f:=fun j=>fQ (aS c S i j)*fQ (aS c S i j)) (j:=j) c (fun _ _=>aw _) A
 have k2:=h.sq i z
 have D:fQ (aS c S i j)*fQ (aS c S i j)≤100:=Rat.le_trans k (Rat.le_trans k2 d)
 rcases Rat.le_total (a:=ab (fQ (aS c S i j))) (b:=10)with g|g
 ·exact g
 ·have u:=Rat.mul_le_mul_of_nonneg_left g (cL (fQ (aS c S i j)))
  rw[cD]at u
  grind
theorem cg.turn{r c:Nat}{S:List Nat}{B:Rat}(h:cg r c S B)(F:B≤100){p q C s:Nat}(u:p<c)(z:q<c)(G:p≠q)(fc:aj C=true)(N:aj s=true)
  (A:562949953421312*ab (fQ C*fQ C+fQ s*fQ s-1)≤1):cg r c (gd r c S p q C s) (B+1/1099511627776):=by
 obtain⟨I,J⟩:=lm A
 obtain⟨n1,n2,n3⟩:=dz
 have H:=fun i (d:i<r)=>lk C s (aS c S i p) (aS c S i q) fc N (h.fin i p d u) (h.fin i q d z) I J (by have:=h.small F d u;grind) (by have:=h.small F d z;grind)
 refine⟨fun i j d D=>?_,fun i j d D=>?_,fun i d=>?_⟩
 ·rw[bT r c S p q C s u z d D]
  obtain⟨a1,a2,_⟩:=H i d
  split
  ·exact a1
  ·split
   ·exact a2
   ·exact h.fin i j d D
 ·rw[bT r c S p q C s u z d D]
  split
  ·exact gS _ _ (cY _ _) (cY _ _)
  ·split
   ·exact gS _ _ (cY _ _) (nC _ (cY _ _))
   ·exact h.lt i j d D
 ·obtain⟨_,_,K,L⟩:=H i d
  have g:=zL _ _ _ _ _ _ (p2 (-1075)) A (Rat.le_of_lt n2) n3 (by have:=h.small F d u;grind) (by have:=h.small F d z;grind) K L
  have e:=gf (f:=fun j=>fQ (aS c (gd r c S p q C s) i j)*fQ (aS c (gd r c S p q C s) i j)) (g:=fun j=>fQ (aS c S i j)*fQ (aS c S i j)) G c (fun j D O Q=>by
   show fQ (aS c (gd r c S p q C s) i j)*fQ (aS c (gd r c S p q C s) i j)=_
   rw[bT r c S p q C s u z d D,if_neg O,if_neg Q])
  rw[e,if_pos u,if_pos z]
  show _+(fQ (aS c (gd r c S p q C s) i p)*fQ (aS c (gd r c S p q C s) i p)-fQ (aS c S i p)*fQ (aS c S i p))+(fQ (aS c (gd r c S p q C s) i q)*fQ (aS c (gd r c S p q C s) i q)-fQ (aS c S i q)*fQ (aS c S i q))≤_
  rw[bT r c S p q C s u z d u,bT r c S p q C s u z d z,if_pos rfl,if_neg (fun h=>G h.symm),if_pos rfl]
  have b1:=h.sq i d
  have U:=h.small F d u;have X:=h.small F d z
  have Y:=Rat.mul_le_mul_of_nonneg_left U (cL (fQ (aS c S i p)))
  have Z:=Rat.mul_le_mul_of_nonneg_left X (cL (fQ (aS c S i q)))
  rw[cD]at Y Z
  generalize dU (fun j=>fQ (aS c S i j)*fQ (aS c S i j)) c=v0 at*
  generalize fQ (aV (mV C (aS c S i p)) (mV s (aS c S i q)))*fQ (aV (mV C (aS c S i p)) (mV s (aS c S i q)))=v1 at*
  generalize fQ (aV (mV C (aS c S i q)) (fN (mV s (aS c S i p))))*fQ (aV (mV C (aS c S i q)) (fN (mV s (aS c S i p))))=v2 at*
  generalize fQ (aS c S i p)*fQ (aS c S i p)=v3 at*
  generalize fQ (aS c S i q)*fQ (aS c S i q)=v4 at*
  generalize ab (fQ (aS c S i p))=v5 at*
  generalize ab (fQ (aS c S i q))=v6 at*
  clear e K L H A I J
  grind
def ut(r c:Nat)(B D:Rat)(s:Sd)(n:Nat):Prop:=cg r c s.W (B+(n:Rat)*(1/1099511627776))∧cg c c s.V (D+(n:Rat)*(1/1099511627776))
theorem cg.mono{r c:Nat}{S:List Nat}{B D:Rat}(h:cg r c S B)(d:B≤D):cg r c S D:=⟨h.fin,h.lt,fun i u=>Rat.le_trans (h.sq i u) d⟩
theorem rz{m n:Nat}(h:m≤n):(m:Rat)*(1/1099511627776)≤(n:Rat)*(1/1099511627776):=Rat.mul_le_mul_of_nonneg_right (Rat.natCast_le_natCast.2 h) (by grind)
theorem ut.mono{r c:Nat}{B D:Rat}{s:Sd}{m n:Nat}(h:ut r c B D s m)(d:m≤n):ut r c B D s n:=by
 have:=rz d
 exact⟨h.1.mono (by grind),h.2.mono (by grind)⟩
theorem ms{n:Nat}(h:n≤4000):(n:Rat)*(1/1099511627776)≤1:=by
 have:=rz h
 have e:((4000:Nat):Rat)=4000:=rfl
 rw[e]at this
 grind
def g8(r c low:Nat):Prop:=∀(S:List Nat) (p q:Nat),cg r c S 100→p<c→q<c→ug r c low S p q=false→aj (iE r c S p q)=true∧fQ (iE r c S p q)*fQ (iE r c S p q)≤4
theorem rA{c s:Nat}(d:s<18446744073709551616)(h:562949953421312*ab (fQ c*fQ c+fQ s*fQ s-1)≤1):562949953421312*ab (fQ c*fQ c+fQ (fN s)*fQ (fN s)-1)≤1:=by
 rw[nw s d]
 rw[show-fQ s* -fQ s=fQ s*fQ s by grind]
 exact h
theorem ut.step{r c low p q n:Nat}{B D:Rat}{s:Sd}(T:g8 r c low)(h:ut r c B D s n)(H:n≤4000)(U:B≤99)(X:D≤99)(Y:p<q)(d:q<c):ut r c B D (qq r c low p q s) (n+1):=by
 unfold qq
 split
 ·exact h.mono (by omega)
 next e=>
  have k:=ms H
  have u:B+(n:Rat)*(1/1099511627776)≤100:=by grind
  have k2:D+(n:Rat)*(1/1099511627776)≤100:=by grind
  obtain⟨L,N⟩:=T s.W p q (h.1.mono u) (by omega) d (by cases h2:ug r c low s.W p q with|false=>rfl|true=>exact absurd h2 e)
  obtain⟨G,O,Q⟩:=kq _ L N
  have z:pL (iE r c s.W p q)<18446744073709551616:=cY _ _
  have A:aj (fN (pL (iE r c s.W p q)))=true:=by rw[jF _ z];exact O
  have F:=rA z Q
  have I:((n+1:Nat):Rat)=(n:Rat)+1:=by rw[Rat.natCast_add];rfl
  have J:=h.1.turn u (p:=p) (q:=q) (by omega) d (by omega) G A F
  have K:=h.2.turn k2 (p:=p) (q:=q) (by omega) d (by omega) G A F
  unfold ut
  rw[I]
  exact⟨J.mono (by grind),K.mono (by grind)⟩
def DR(c:Nat):Nat→Nat
 |0=>0
 |k+1=>DR c k+(c-1-k)
theorem DS{c:Nat}(d:c≤6):DR c c≤15:=by
 have:∀c,c<7→DR c c≤15:=by decide
 exact this c (by omega)
open Go.RowKit
theorem ks(K:Int)(d:List Nat)(hl:d.length≤64)(h:qY K d)(J:bB 0 d≠0)(hk:eX (bB 0 d)≤900):
  ∃s,qX (eX (bB 0 d)) 0 d=s∧de d=xV (sV s) (eX (bB 0 d))∧aj s=true∧fS s=false∧fK s≠0∧1≤gC (eX (bB 0 d)) d∧gC (eX (bB 0 d)) d≤256∧aj (de d)=true∧
  (fQ (de d)=fQ (sV s)*p2 (eX (bB 0 d))∨2*ab (fQ (de d)-fQ (sV s)*p2 (eX (bB 0 d)))≤p2 (-1074)):=by
 obtain⟨k,U⟩:∃k,eX (bB 0 d)=k:=⟨_,rfl⟩
 obtain⟨s,D⟩:∃s,qX k 0 d=s:=⟨_,rfl⟩
 obtain⟨b1,b2,b3,b4,b5,b6,b7,F,y,hy,b9,G⟩:=gr K d h J
 rw[U]at F G hk⊢
 have z:de d=xV (sV s) k:=by
  unfold de
  rw[if_neg (by rw[b2];simp[J]),U,D]
 have L:1≤gC k d:=by have:=xy k d y hy;grind
 have aa:(d.length:Rat)≤64:=Rat.natCast_le_natCast.2 hl
 have N:gC k d≤256:=by have:=BC k d F;grind
 have ae:=Rat.mul_nonneg (show 0≤64-(d.length:Rat) by grind) (show 0≤gC k d by grind)
 have z0:fQ 0=0:=bm 0 (by decide)
 obtain⟨H,I,X⟩:=Bz k (gC k d) L N d 0 0 0 (fun x u=>⟨(h.1 x u).1,(h.1 x u).2,F x u⟩) (by decide) (by decide) (by grind) (by grind) (by rw[z0];unfold ab;grind)
 rw[D]at H I X
 have e4:9007199254740992*ab (fQ s-gC k d)≤130*gC k d:=by
  have:(0:Rat)+gC k d=gC k d:=Rat.zero_add _
  rw[this]at X
  grind
 have l:=br (fQ s-gC k d)
 have s1:1≤2*fQ s:=by grind
 have O:fK s≠0:=fun e=>by
  have:=bm s e
  grind
 obtain⟨Y,r2,Z,r4,r5,r6,r7⟩:=gI s H O I
 have r8:1≤2*fQ (sV s):=by
  rcases Rat.le_total (a:=1) (b:=2*fQ (sV s))with g|g
  ·exact g
  ·have:=Rat.mul_nonneg (show 0≤1-2*fQ (sV s) by grind) (show 0≤1+2*fQ (sV s) by grind)
   grind
 have r9:fQ (sV s)≤17:=by
  rcases Rat.le_total (a:=fQ (sV s)) (b:=17)with g|g
  ·exact g
  ·have:=Rat.mul_nonneg (show 0≤fQ (sV s)-17 by grind) (show 0≤fQ (sV s)+17 by grind)
   grind
 have A:=aE k
 have x1:ab (fQ (sV s))*p2 k<p2 1023:=by
  rw[aX r5]
  have m1:=Rat.mul_le_mul_of_nonneg_left r9 (Rat.le_of_lt A)
  have m2:=aR (show k+1+1+1+1+1≤1023 by omega)
  simp only[cT]at m2
  grind
 have Q:=jG (sV s) k Z Y x1
 refine⟨s,D,z,H,I,O,L,N,by rw[z];exact Q,?_⟩
 rw[z]
 rcases jH (sV s) k Z Y Q with e|⟨_,_,e⟩
 ·exact .inl e
 ·exact .inr e
theorem DT(K:Int)(u:List Nat)(L:u.length≤64)(h:qY K u)(O:bB 0 u≠0)(X:eX (bB 0 u)≤900):1125899906842624*(fQ (bB 0 u)-fQ (de u))≤3*fQ (bB 0 u):=by
 obtain⟨s,es,hn,n2,n3,n4,n5,T2,hf,H⟩:=ks K u L h O X
 obtain⟨b1,b2,b3,b4,b5,b6,b7,I,y,z,b9,J⟩:=gr K u h O
 obtain⟨r1,r2,r3,r4,r5,r6,r7⟩:=gI _ n2 n4 n3
 clear hn
 have Y:(u.length:Rat)≤64:=Rat.natCast_le_natCast.2 L
 have Z:=Rat.mul_nonneg (show 0≤64-(u.length:Rat) by grind) (show 0≤gC (eX (bB 0 u)) u by grind)
 have z0:fQ 0=0:=bm 0 (by decide)
 obtain⟨g1,U⟩:=Kz (eX (bB 0 u)) _ n5 T2 u 0 0 0 (fun x F=>⟨(h.1 x F).1,(h.1 x F).2,I x F⟩) (by decide) (by decide) (by decide) (by grind) (by grind) (by rw[z0];unfold ab;grind)
 have g3:=U y z
 obtain⟨p1,aa,p3⟩:=vF _ y (h.1 y z).1 (h.1 y z).2 (I y z)
 obtain⟨t1,t2,t3⟩:=iq
 have hp:=aE (eX (bB 0 u))
 have G:=qP (eX (bB 0 u))
 have eB:fQ (bB 0 u)=ab (dQ (eX (bB 0 u)) y)*p2 (eX (bB 0 u)):=by
  unfold dQ
  rw[bJ,aX (Rat.le_of_lt (aE _)),b9,Rat.mul_assoc,G,Rat.mul_one]
 have eD:dQ (eX (bB 0 u)) y*dQ (eX (bB 0 u)) y=ab (dQ (eX (bB 0 u)) y)*ab (dQ (eX (bB 0 u)) y):=by
  rw[←bJ];exact(aX (aw _)).symm
 have m0:=cL (dQ (eX (bB 0 u)) y)
 have l:=br (fQ (mV (xV y (-eX (bB 0 u))) (xV y (-eX (bB 0 u))))-dQ (eX (bB 0 u)) y*dQ (eX (bB 0 u)) y)
 rw[eD]at p3 l J
 generalize fQ (mV (xV y (-eX (bB 0 u))) (xV y (-eX (bB 0 u))))=P at*
 rw[es]at g3
 generalize fQ s=S at*
 generalize fQ (sV s)=R at*
 generalize ab (dQ (eX (bB 0 u)) y)=d at*
 clear g1 U b7 I
 generalize p2 (-1075)=η at*
 --R^2 is at least d^2 but for five parts in 2^53
 have e1:9007199254740992*(d*d)≤9007199254740992*(R*R)+6*(d*d):=by
  generalize ab (P-d*d)=A at*
  generalize d*d=D at*
  generalize R*R=RR at*
  grind
 have e2:1125899906842624*(d-R)≤d:=by
  rcases Rat.le_total (a:=1125899906842624*(d-R)) (b:=d)with g|g
  ·exact g
  ·have c1:=Rat.mul_nonneg (show 0≤1125899906842624*(d-R)-d by grind) m0
   have c2:=Rat.mul_nonneg (show 0≤1125899906842624*(d-R)-d by grind) r5
   grind
 have e3:=Rat.mul_le_mul_of_nonneg_left e2 (Rat.le_of_lt hp)
 have e4:1125899906842624*(fQ (bB 0 u)-R*p2 (eX (bB 0 u)))≤fQ (bB 0 u):=by rw[eB];grind
 have B0:=gj _ b4
 rcases H with e|e
 ·rw[e]
  grind
 ·have q:=aE (-1074)
  have l2:=br (fQ (de u)-R*p2 (eX (bB 0 u)))
  have e5:1125899906842624*(fQ (bB 0 u)-fQ (de u))≤fQ (bB 0 u)+562949953421312*p2 (-1074):=by grind
  clear e4 e3 e l2
  unfold fQ at e5 B0⊢
  generalize fZ (bB 0 u)=M at*
  generalize fZ (de u)=N at*
  have k1:1125899906842624*((M:Rat)-(N:Rat))≤(M:Rat)+562949953421312:=by
   refine Rat.le_of_mul_le_mul_right (c:=p2 (-1074)) ?_ q
   grind
  have k2:(((1125899906842624*(M-N):Int)):Rat)≤((M+562949953421312:Int):Rat):=by
   rw[Rat.intCast_mul,Rat.intCast_sub,Rat.intCast_add]
   exact k1
  have k3:=Rat.intCast_le_intCast.1 k2
  have M0:0≤M:=by
   rcases Int.lt_or_le M 0 with g|g
   ·exfalso
    have k:((M:Int):Rat)<0:=Rat.intCast_lt_intCast.2 g
    have:=Rat.mul_pos (show 0< -((M:Int):Rat) by grind) q
    grind
   ·exact g
  have k4:1125899906842624*(M-N)≤3*M:=by
   rcases Int.lt_or_le 281474976710656 M with g|g
   ·omega
   ·have:M-N≤0:=by omega
    omega
  have Q:(((1125899906842624*(M-N):Int)):Rat)≤((3*M:Int):Rat):=Rat.intCast_le_intCast.2 k4
  rw[Rat.intCast_mul,Rat.intCast_sub,Rat.intCast_mul]at Q
  have k6:1125899906842624*((M:Rat)-(N:Rat))≤3*(M:Rat):=Q
  have m:=Rat.mul_le_mul_of_nonneg_right k6 (Rat.le_of_lt q)
  grind
end Go.Proofs.YtcbcmlaogehimaaGreatDoor
