/- Part 33 of the texts. -/
import Derived.Test.YtcbcmlaogehimaaGreatDoorPartp32
set_option maxHeartbeats 8000000
set_option maxRecDepth 20000
namespace Go.Proofs.YtcbcmlaogehimaaGreatDoor
open Go.RowKit
attribute [local go_sem ↓] Go.wp_at_zero Go.wp_at_succ
theorem aY.ex17{w:World}{v:Value}{lo z:Int}(h:aY w v lo z):∃(n:Bool) (a:Option Addr) (l c:Nat) (E:Int),v=.agg #[.bool n,.slice a l c,.int .i64 E]∧aY w (.agg #[.bool n,.slice a l c,.int .i64 E]) lo z:=by
 obtain⟨n,a,c,L,rfl,d⟩:=h
 exact⟨n,a,L.length,c,oE z lo,rfl,n,a,c,L,rfl,d⟩
theorem Bc(r c N h F wc G H:Nat)(K I J:Option Addr)(w:World)
  (Z:∀u,Below w.heap.size w u→Calls Tryz.prog 16 #[.agg #[.int .i64 (r:Nat),.int .i64 (c:Nat),.slice I F wc]] u fun e D=>e=.returned (.int .i64 0)∧Below u.heap.size u D)
  (C2:∀u,Below w.heap.size w u→Calls Tryz.prog 16 #[.agg #[.int .i64 (c:Nat),.int .i64 (c:Nat),.slice J G H]] u fun e D=>e=.returned (.int .i64 0)∧Below u.heap.size u D):
  Calls Tryz.prog 24 #[.agg #[.int .i64 (r:Nat),.int .i64 (c:Nat),.slice K N h],.agg #[.int .i64 (r:Nat),.int .i64 (c:Nat),.slice I F wc],.agg #[.int .i64 (c:Nat),.int .i64 (c:Nat),.slice J G H]] w fun e u=>e=.returned (.bool true)∧Below w.heap.size w u:=by
 have b3:=pB w (.int .i64 (r:Nat)) (.int .i64 (c:Nat)) (.slice K N h) (.int .i64 (r:Nat)) (.int .i64 (c:Nat)) (.slice I F wc) (.int .i64 (c:Nat)) (.int .i64 (c:Nat)) (.slice J G H) (((w.alloc (.cells #[.int .i64 (r:Nat),.int .i64 (c:Nat),.slice K N h] 24)).alloc (.cells #[.int .i64 (r:Nat),.int .i64 (c:Nat),.slice I F wc] 24)).alloc (.cells #[.int .i64 (c:Nat),.int .i64 (c:Nat),.slice J G H] 24)) (by have:=Below.refl (((w.alloc (.cells #[.int .i64 (r:Nat),.int .i64 (c:Nat),.slice K N h] 24)).alloc (.cells #[.int .i64 (r:Nat),.int .i64 (c:Nat),.slice I F wc] 24)).alloc (.cells #[.int .i64 (c:Nat),.int .i64 (c:Nat),.slice J G H] 24)).heap.size (((w.alloc (.cells #[.int .i64 (r:Nat),.int .i64 (c:Nat),.slice K N h] 24)).alloc (.cells #[.int .i64 (r:Nat),.int .i64 (c:Nat),.slice I F wc] 24)).alloc (.cells #[.int .i64 (c:Nat),.int .i64 (c:Nat),.slice J G H] 24));simpa only[aq]using this)
 obtain⟨b0,x0,x1,x2⟩:=b3
 have A:=ac b0;have d:=ac (And.intro x0 (And.intro x1 x2))
 have K1:=ac Z;have K2:=ac C2
 clear Z C2 b0 x0 x1 x2
 go_enter Tryz.func24,Tryz.ntmps24
 have L:=(uH d).1.c0;have O:=(uH d).1.c1;have Q:=(uH d).1.c2;have u0:=(uH d).2.1.c0;have u1:=(uH d).2.1.c1;have u2:=(uH d).2.1.c2;have U:=(uH d).2.2.c0;have X:=(uH d).2.2.c1;have Y:=(uH d).2.2.c2
 go_wp2_with fail
 clear L O Q u0 u1 u2 U X Y
 refine(uH K1 _ (uH A)).mono ?_
 rintro e w1 ⟨rfl,z⟩
 replace d:=ac (And.intro ((uH d).1.all z) (And.intro ((uH d).2.1.all z) ((uH d).2.2.all z)))
 replace A:=ac ((uH A).trans (z.mono (uH A).size))
 clear z
 have L:=(uH d).1.c0;have O:=(uH d).1.c1;have Q:=(uH d).1.c2;have u0:=(uH d).2.1.c0;have u1:=(uH d).2.1.c1;have u2:=(uH d).2.1.c2;have U:=(uH d).2.2.c0;have X:=(uH d).2.2.c1;have Y:=(uH d).2.2.c2
 go_wp2_with fail
 clear L O Q u0 u1 u2 U X Y
 refine(uH K2 _ (uH A)).mono ?_
 rintro e w2 ⟨rfl,z⟩
 replace d:=ac (And.intro ((uH d).1.all z) (And.intro ((uH d).2.1.all z) ((uH d).2.2.all z)))
 replace A:=ac ((uH A).trans (z.mono (uH A).size))
 clear z
 have L:=(uH d).1.c0;have O:=(uH d).1.c1;have Q:=(uH d).1.c2;have u0:=(uH d).2.1.c0;have u1:=(uH d).2.1.c1;have u2:=(uH d).2.1.c2;have U:=(uH d).2.2.c0;have X:=(uH d).2.2.c1;have Y:=(uH d).2.2.c2
 have aa:((c:Int)==(c:Int))=true:=by simp
 have ae:((r:Int)==(r:Int))=true:=by simp
 go_wp2_with fail
 go_ret
 exact⟨rfl,uH A⟩
theorem sH(r c:Int)(N u:Nat)(F:Option Addr)(w:World)
  (L:∀d,Below w.heap.size w d→Calls Tryz.prog 13 #[.agg #[.int .i64 r,.int .i64 c,.slice F N u],.int .i64 100] d fun e A=>e=.returned (.bool false)∧Below d.heap.size d A)
  (O:∀d,Below w.heap.size w d→Calls Tryz.prog 22 #[] d fun e A=>e=.returned (.bool true)∧Below d.heap.size d A):
  Calls Tryz.prog 4 #[.agg #[.int .i64 r,.int .i64 c,.slice F N u]] w fun e d=>e=.returned (.bool true)∧Below w.heap.size w d:=by
 have Q:=ad w (.cells #[.int .i64 r,.int .i64 c,.slice F N u] 24)
 have h:=ac (aM.new w (.int .i64 r) (.int .i64 c) (.slice F N u))
 have z:=ac Q
 have G:=ac L
 have H:=ac O
 clear Q L O
 go_enter Tryz.func4,Tryz.ntmps4
 have I:=(uH h).c0;have J:=(uH h).c1;have K:=(uH h).c2
 go_wp2_with fail
 clear I J K
 refine(uH G _ (uH z)).mono ?_
 rintro e U ⟨rfl,D⟩
 replace h:=ac ((uH h).all D)
 replace z:=ac ((uH z).trans (D.mono (uH z).size))
 clear D
 have I:=(uH h).c0;have J:=(uH h).c1;have K:=(uH h).c2
 go_wp2_with fail
 clear I J K
 refine(uH H _ (uH z)).mono ?_
 rintro e U ⟨rfl,D⟩
 replace h:=ac ((uH h).all D)
 replace z:=ac ((uH z).trans (D.mono (uH z).size))
 clear D
 go_wp2_with fail
 go_ret
 exact⟨rfl,uH z⟩
theorem sI(r c:Int)(N u:Nat)(F:Option Addr)(w:World)
  (O:∀h,Below w.heap.size w h→Calls Tryz.prog 13 #[.agg #[.int .i64 r,.int .i64 c,.slice F N u],.int .i64 100] h fun e z=>e=.returned (.bool true)∧Below h.heap.size h z)
  (Q:∀h,Below w.heap.size w h→Calls Tryz.prog 23 #[.agg #[.int .i64 r,.int .i64 c,.slice F N u]] h fun e z=>e=.returned (.tuple #[.agg #[.int .i64 0,.int .i64 0,.slice none 0 0],.agg #[.int .i64 0,.int .i64 0,.slice none 0 0],.slice none 0 0,.int .i64 6])∧Below h.heap.size h z)
  (U:∀h,Below w.heap.size w h→Calls Tryz.prog 22 #[] h fun e z=>e=.returned (.bool true)∧Below h.heap.size h z):
  Calls Tryz.prog 4 #[.agg #[.int .i64 r,.int .i64 c,.slice F N u]] w fun e h=>e=.returned (.bool true)∧Below w.heap.size w h:=by
 have X:=ad w (.cells #[.int .i64 r,.int .i64 c,.slice F N u] 24)
 have A:=ac (aM.new w (.int .i64 r) (.int .i64 c) (.slice F N u))
 have d:=ac X
 have G:=ac O
 have H:=ac Q
 have I:=ac U
 clear X O Q U
 go_enter Tryz.func4,Tryz.ntmps4
 have J:=(uH A).c0;have K:=(uH A).c1;have L:=(uH A).c2
 go_wp2_with fail
 clear J K L
 refine(uH G _ (uH d)).mono ?_
 rintro e wn ⟨rfl,D⟩
 replace A:=ac ((uH A).all D)
 replace d:=ac ((uH d).trans (D.mono (uH d).size))
 clear D
 have J:=(uH A).c0;have K:=(uH A).c1;have L:=(uH A).c2
 go_wp2_with fail
 clear J K L
 refine(uH H _ (uH d)).mono ?_
 rintro e w3 ⟨rfl,D⟩
 replace d:=ac ((uH d).trans (D.mono (uH d).size))
 have Y:=ad w3 (.cells #[.int .i64 0,.int .i64 0,.slice none 0 0] 24)
 have Z:=ad (w3.alloc (.cells #[.int .i64 0,.int .i64 0,.slice none 0 0] 24)) (.cells #[.int .i64 0,.int .i64 0,.slice none 0 0] 24)
 replace d:=ac ((uH d).trans (Y.mono (uH d).size))
 replace d:=ac ((uH d).trans (Z.mono (uH d).size))
 clear D Y Z A
 go_wp2_with fail
 refine(uH I _ (uH d)).mono ?_
 rintro e w4 ⟨rfl,D⟩
 replace d:=ac ((uH d).trans (D.mono (uH d).size))
 clear D
 go_wp2_with fail
 go_ret
 exact⟨rfl,uH d⟩
theorem vk(r c N J nW nV:Nat)(ao:Option Addr)(WL VL:List Int)(lo lp z1 z2:Int)(w:World)
  (C1:∀d,Below w.heap.size w d→Calls Tryz.prog 13 #[.agg #[.int .i64 (r:Nat),.int .i64 (c:Nat),.slice ao N J],.int .i64 100] d fun e G=>e=.returned (.bool true)∧Below d.heap.size d G)
  (C2:∀d,Below w.heap.size w d→Calls Tryz.prog 23 #[.agg #[.int .i64 (r:Nat),.int .i64 (c:Nat),.slice ao N J]] d fun e G=>(∃Q wc U X so sn sd,e=.returned (.tuple #[.agg #[.int .i64 (r:Nat),.int .i64 (c:Nat),.slice Q nW wc],.agg #[.int .i64 (c:Nat),.int .i64 (c:Nat),.slice U nV X],.slice so sn sd,.int .i64 0])∧ak G Q wc WL∧ak G U X VL)∧Below d.heap.size d G)
  (CF:∀d Q wc U X,Below w.heap.size w d→ak d Q wc WL→ak d U X VL→Calls Tryz.prog 24 #[.agg #[.int .i64 (r:Nat),.int .i64 (c:Nat),.slice ao N J],.agg #[.int .i64 (r:Nat),.int .i64 (c:Nat),.slice Q nW wc],.agg #[.int .i64 (c:Nat),.int .i64 (c:Nat),.slice U nV X]] d fun e G=>e=.returned (.bool true)∧Below d.heap.size d G)
  (CR:∀d Q wc U X,Below w.heap.size w d→ak d Q wc WL→ak d U X VL→Calls Tryz.prog 25 #[.agg #[.int .i64 (r:Nat),.int .i64 (c:Nat),.slice Q nW wc],.agg #[.int .i64 (r:Nat),.int .i64 (c:Nat),.slice ao N J],.agg #[.int .i64 (c:Nat),.int .i64 (c:Nat),.slice U nV X]] d fun e G=>∃t,e=.returned t∧aY G t lo z1∧Below d.heap.size d G)
  (CS:∀d,Below w.heap.size w d→Calls Tryz.prog 17 #[.agg #[.int .i64 (r:Nat),.int .i64 (c:Nat),.slice ao N J]] d fun e G=>∃t,e=.returned t∧aY G t lp z2∧Below d.heap.size d G)
  (CW:∀d v u,aY d v lo z1→aY d u lp z2→Calls Tryz.prog 20 #[v,u,.int .i64 35] d fun e G=>e=.returned (.bool true)∧Below d.heap.size d G)
  (CA:∀d,Below w.heap.size w d→Calls Tryz.prog 22 #[] d fun e G=>e=.returned (.bool true)∧Below d.heap.size d G):
  Calls Tryz.prog 4 #[.agg #[.int .i64 (r:Nat),.int .i64 (c:Nat),.slice ao N J]] w fun e d=>e=.returned (.bool true)∧Below w.heap.size w d:=by
 have b0:=ad w (.cells #[.int .i64 (r:Nat),.int .i64 (c:Nat),.slice ao N J] 24)
 have D:=ac (aM.new w (.int .i64 (r:Nat)) (.int .i64 (c:Nat)) (.slice ao N J))
 have F:=ac b0
 have aa:=ac C1
 have ae:=ac C2
 have ah:=ac CF
 have am:=ac CR
 have an:=ac CS
 have ar:=ac CW
 have ax:=ac CA
 clear b0 C1 C2 CF CR CS CW CA
 go_enter Tryz.func4,Tryz.ntmps4
 have y0:=(uH D).c0;have y1:=(uH D).c1;have y2:=(uH D).c2
 go_wp2_with fail
 clear y0 y1 y2
 refine(uH aa _ (uH F)).mono ?_
 rintro e wn ⟨rfl,z⟩
 replace D:=ac ((uH D).all z)
 replace F:=ac ((uH F).trans (z.mono (uH F).size))
 clear z
 have y0:=(uH D).c0;have y1:=(uH D).c1;have y2:=(uH D).c2
 go_wp2_with fail
 clear y0 y1 y2
 refine(uH ae _ (uH F)).mono ?_
 rintro e w3 ⟨⟨Q,wc,U,X,so,sn,sd,rfl,hw,hv⟩,z⟩
 replace D:=ac ((uH D).all z)
 replace F:=ac ((uH F).trans (z.mono (uH F).size))
 have ba:=ad w3 (.cells #[.int .i64 (r:Nat),.int .i64 (c:Nat),.slice Q nW wc] 24)
 have za:=aq w3 (.cells #[.int .i64 (r:Nat),.int .i64 (c:Nat),.slice Q nW wc] 24)
 have bb:=ad (w3.alloc (.cells #[.int .i64 (r:Nat),.int .i64 (c:Nat),.slice Q nW wc] 24)) (.cells #[.int .i64 (c:Nat),.int .i64 (c:Nat),.slice U nV X] 24)
 have I:=ac ((aM.new w3 (.int .i64 (r:Nat)) (.int .i64 (c:Nat)) (.slice Q nW wc)).all bb)
 have H:=aM.new (w3.alloc (.cells #[.int .i64 (r:Nat),.int .i64 (c:Nat),.slice Q nW wc] 24)) (.int .i64 (c:Nat)) (.int .i64 (c:Nat)) (.slice U nV X)
 rw[za]at H
 replace H:=ac H
 have Z:=ac ((hw.below ba).below bb)
 have LV:=ac ((hv.below ba).below bb)
 replace D:=ac (((uH D).all ba).all bb)
 replace F:=ac ((uH F).trans (ba.mono (uH F).size))
 replace F:=ac ((uH F).trans (bb.mono (uH F).size))
 clear z ba bb hw hv za
 go_wp2_with fail
 generalize az:w3.heap.size+1=g4 at*
 generalize aI:w3.heap.size=g3 at*
 generalize a0:(w3.alloc (.cells #[.int .i64 (r:Nat),.int .i64 (c:Nat),.slice Q nW wc] 24)).alloc (.cells #[.int .i64 (c:Nat),.int .i64 (c:Nat),.slice U nV X] 24)=w4 at*
 clear az aI a0
 have hd:=(Below.refl w4.heap.size w4).drew
 replace D:=ac ((uH D).all hd);replace I:=ac ((uH I).all hd);replace H:=ac ((uH H).all hd);replace Z:=ac ((uH Z).below hd);replace LV:=ac ((uH LV).below hd)
 replace F:=ac ((uH F).trans (hd.mono (uH F).size))
 clear hd
 refine wp_region_held_drew (S:=(fun d=>(d.cell? ⟨w.heap.size,0,none⟩=some (.int .i64 (r:Nat))∧d.cell? ⟨w.heap.size,1,none⟩=some (.int .i64 (c:Nat))∧d.cell? ⟨w.heap.size,2,none⟩=some (.slice ao N J))∧(d.cell? ⟨g3,0,none⟩=some (.int .i64 (r:Nat))∧d.cell? ⟨g3,1,none⟩=some (.int .i64 (c:Nat))∧d.cell? ⟨g3,2,none⟩=some (.slice Q nW wc))∧d.cell? ⟨g4,0,none⟩=some (.int .i64 (c:Nat))∧d.cell? ⟨g4,1,none⟩=some (.int .i64 (c:Nat))∧d.cell? ⟨g4,2,none⟩=some (.slice U nV X))) (by kernel_rfl) ?_ (fun O=>?_)
 ·exact⟨⟨(uH D).c0,(uH D).c1,(uH D).c2⟩,⟨(uH I).c0,(uH I).c1,(uH I).c2⟩,(uH H).c0,(uH H).c1,(uH H).c2⟩
 refine wpAnyH_take (i:=0) (oi:={dst:=some 25,op:=Op.load 24 (Operand.tmp 1),type:=24,pos:= "law.go:60",after:=#[],guard:=none}) (v:=(Value.agg #[.int .i64 (r:Nat),.int .i64 (c:Nat),.slice ao N J])) rfl (by kernel_rfl) (by kernel_rfl) (by kernel_rfl) (fun _ _ _ h=>h) (Or.inl ⟨by rfl,?_⟩) (by assumption) ?_
 ·(intro w A;(try dsimp only at A);go_simp)
 simp only[Act.put,List.setIfInBounds_toArray,List.set_cons_zero,List.set_cons_succ]
 refine wpAnyH_take (i:=1) (oi:={dst:=some 26,op:=Op.load 24 (Operand.tmp 3),type:=24,pos:= "law.go:60",after:=#[],guard:=none}) (v:=(Value.agg #[.int .i64 (r:Nat),.int .i64 (c:Nat),.slice Q nW wc])) rfl (by kernel_rfl) (by kernel_rfl) (by kernel_rfl) (fun _ _ _ h=>h) (Or.inl ⟨by rfl,?_⟩) (by assumption) ?_
 ·(intro w A;(try dsimp only at A);go_simp)
 simp only[Act.put,List.setIfInBounds_toArray,List.set_cons_zero,List.set_cons_succ]
 refine wpAnyH_take (i:=2) (oi:={dst:=some 27,op:=Op.load 24 (Operand.tmp 4),type:=24,pos:= "law.go:60",after:=#[],guard:=none}) (v:=(Value.agg #[.int .i64 (c:Nat),.int .i64 (c:Nat),.slice U nV X])) rfl (by kernel_rfl) (by kernel_rfl) (by kernel_rfl) (fun _ _ _ h=>h) (Or.inl ⟨by rfl,?_⟩) (by assumption) ?_
 ·(intro w A;(try dsimp only at A);go_simp)
 simp only[Act.put,List.setIfInBounds_toArray,List.set_cons_zero,List.set_cons_succ]
 refine wpAnyH_ready (rs:=[3]) (by kernel_rfl) (by simp) ?_
 refine AllReadyH.cons (o:={dst:=some 28,op:=Op.call {callee:=Callee.value (Operand.func 24),args:=#[Operand.tmp 25,Operand.tmp 26,Operand.tmp 27],argTypes:=#[24,24,24]},type:=4,pos:= "law.go:60",after:=#[{on:=0,ground:=Ground.data},{on:=1,ground:=Ground.data},{on:=2,ground:=Ground.data}],guard:=none}) rfl (fun K Y=>?_) AllReadyH.nil
 go_simp
 refine(uH ah _ _ _ _ _ (uH F) (uH Z) (uH LV)).mono ?_
 rintro e w5 ⟨rfl,z⟩
 replace D:=ac ((uH D).all z);replace I:=ac ((uH I).all z);replace H:=ac ((uH H).all z);replace Z:=ac ((uH Z).below z);replace LV:=ac ((uH LV).below z)
 replace F:=ac ((uH F).trans (z.mono (uH F).size))
 clear z
 go_wp2_with fail
 refine Y.out _ _ ?_ (fun O=>?_)
 ·exact⟨⟨(uH D).c0,(uH D).c1,(uH D).c2⟩,⟨(uH I).c0,(uH I).c1,(uH I).c2⟩,(uH H).c0,(uH H).c1,(uH H).c2⟩
 clear Y K
 refine wpAnyH_take (i:=4) (oi:={dst:=some 29,op:=Op.move (Operand.tmp 28),type:=4,pos:= "law.go:60",after:=#[{on:=3,ground:=Ground.data},{on:=3,ground:=Ground.chain}],guard:=none}) (v:=(Value.bool true)) rfl (by kernel_rfl) (by kernel_rfl) (by kernel_rfl) (fun _ _ _ h=>h) (Or.inl ⟨by rfl,?_⟩) (by assumption) ?_
 ·(intro w A;(try dsimp only at A);go_simp)
 simp only[Act.put,List.setIfInBounds_toArray,List.set_cons_zero,List.set_cons_succ]
 refine wpAnyH_take (i:=5) (oi:={dst:=some 30,op:=Op.load 24 (Operand.tmp 3),type:=24,pos:= "law.go:60",after:=#[{on:=4,ground:=Ground.guard}],guard:=some (4,true)}) (v:=(Value.agg #[.int .i64 (r:Nat),.int .i64 (c:Nat),.slice Q nW wc])) rfl (by kernel_rfl) (by kernel_rfl) (by kernel_rfl) (fun _ _ _ h=>h) (Or.inl ⟨by rfl,?_⟩) (by assumption) ?_
 ·(intro w A;(try dsimp only at A);go_simp)
 simp only[Act.put,List.setIfInBounds_toArray,List.set_cons_zero,List.set_cons_succ]
 refine wpAnyH_take (i:=6) (oi:={dst:=some 31,op:=Op.load 24 (Operand.tmp 1),type:=24,pos:= "law.go:60",after:=#[{on:=4,ground:=Ground.guard}],guard:=some (4,true)}) (v:=(Value.agg #[.int .i64 (r:Nat),.int .i64 (c:Nat),.slice ao N J])) rfl (by kernel_rfl) (by kernel_rfl) (by kernel_rfl) (fun _ _ _ h=>h) (Or.inl ⟨by rfl,?_⟩) (by assumption) ?_
 ·(intro w A;(try dsimp only at A);go_simp)
 simp only[Act.put,List.setIfInBounds_toArray,List.set_cons_zero,List.set_cons_succ]
 refine wpAnyH_take (i:=7) (oi:={dst:=some 32,op:=Op.load 24 (Operand.tmp 4),type:=24,pos:= "law.go:60",after:=#[{on:=4,ground:=Ground.guard}],guard:=some (4,true)}) (v:=(Value.agg #[.int .i64 (c:Nat),.int .i64 (c:Nat),.slice U nV X])) rfl (by kernel_rfl) (by kernel_rfl) (by kernel_rfl) (fun _ _ _ h=>h) (Or.inl ⟨by rfl,?_⟩) (by assumption) ?_
 ·(intro w A;(try dsimp only at A);go_simp)
 simp only[Act.put,List.setIfInBounds_toArray,List.set_cons_zero,List.set_cons_succ]
 refine wpAnyH_take (i:=9) (oi:={dst:=some 34,op:=Op.load 24 (Operand.tmp 1),type:=24,pos:= "law.go:60",after:=#[{on:=4,ground:=Ground.guard}],guard:=some (4,true)}) (v:=(Value.agg #[.int .i64 (r:Nat),.int .i64 (c:Nat),.slice ao N J])) rfl (by kernel_rfl) (by kernel_rfl) (by kernel_rfl) (fun _ _ _ h=>h) (Or.inl ⟨by rfl,?_⟩) (by assumption) ?_
 ·(intro w A;(try dsimp only at A);go_simp)
 simp only[Act.put,List.setIfInBounds_toArray,List.set_cons_zero,List.set_cons_succ]
 refine wpAnyH_ready (rs:=[8]) (by kernel_rfl) (by simp) ?_
 refine AllReadyH.cons (o:={dst:=some 33,op:=Op.call {callee:=Callee.value (Operand.func 25),args:=#[Operand.tmp 30,Operand.tmp 31,Operand.tmp 32],argTypes:=#[24,24,24]},type:=35,pos:= "law.go:60",after:=#[{on:=5,ground:=Ground.data},{on:=6,ground:=Ground.data},{on:=7,ground:=Ground.data},{on:=4,ground:=Ground.chain},{on:=4,ground:=Ground.guard}],guard:=some (4,true)}) rfl (fun K Y=>?_) AllReadyH.nil
 go_simp
 refine(uH am _ _ _ _ _ (uH F) (uH Z) (uH LV)).mono ?_
 rintro e w6 ⟨t1,rfl,lv,z⟩
 obtain⟨n1,a1,l1,c1,E1,rfl,L⟩:=lv.ex17
 have L1:=ac L
 clear lv L
 replace D:=ac ((uH D).all z);replace I:=ac ((uH I).all z);replace H:=ac ((uH H).all z);replace Z:=ac ((uH Z).below z);replace LV:=ac ((uH LV).below z)
 replace F:=ac ((uH F).trans (z.mono (uH F).size))
 clear z
 go_wp2_with fail
 refine Y.out _ _ ?_ (fun O=>?_)
 ·exact⟨⟨(uH D).c0,(uH D).c1,(uH D).c2⟩,⟨(uH I).c0,(uH I).c1,(uH I).c2⟩,(uH H).c0,(uH H).c1,(uH H).c2⟩
 clear Y K
 refine wpAnyH_ready (rs:=[10]) (by kernel_rfl) (by simp) ?_
 refine AllReadyH.cons (o:={dst:=some 35,op:=Op.call {callee:=Callee.value (Operand.func 17),args:=#[Operand.tmp 34],argTypes:=#[24]},type:=35,pos:= "law.go:60",after:=#[{on:=9,ground:=Ground.data},{on:=8,ground:=Ground.chain},{on:=4,ground:=Ground.guard}],guard:=some (4,true)}) rfl (fun K Y=>?_) AllReadyH.nil
 go_simp
 refine(uH an _ (uH F)).mono ?_
 rintro e w7 ⟨t2,rfl,lv,z⟩
 obtain⟨n2,a2,l2,c2,E2,rfl,L⟩:=lv.ex17
 have L2:=ac L
 clear lv L
 replace D:=ac ((uH D).all z);replace I:=ac ((uH I).all z);replace H:=ac ((uH H).all z);replace Z:=ac ((uH Z).below z);replace LV:=ac ((uH LV).below z)
 replace F:=ac ((uH F).trans (z.mono (uH F).size))
 replace L1:=ac ((uH L1).below z)
 clear z
 go_wp2_with fail
 refine Y.out _ _ ?_ (fun O=>?_)
 ·exact⟨⟨(uH D).c0,(uH D).c1,(uH D).c2⟩,⟨(uH I).c0,(uH I).c1,(uH I).c2⟩,(uH H).c0,(uH H).c1,(uH H).c2⟩
 clear Y K
 refine wpAnyH_ready (rs:=[11]) (by kernel_rfl) (by simp) ?_
 refine AllReadyH.cons (o:={dst:=some 36,op:=Op.call {callee:=Callee.value (Operand.func 20),args:=#[Operand.tmp 33,Operand.tmp 35,Operand.const (Value.int IntKind.i64 35)],argTypes:=#[35,35,3]},type:=4,pos:= "law.go:60",after:=#[{on:=8,ground:=Ground.data},{on:=10,ground:=Ground.data},{on:=10,ground:=Ground.chain},{on:=4,ground:=Ground.guard}],guard:=some (4,true)}) rfl (fun K Y=>?_) AllReadyH.nil
 go_simp
 refine(uH ar _ _ _ (uH L1) (uH L2)).mono ?_
 rintro e w8 ⟨rfl,z⟩
 replace D:=ac ((uH D).all z);replace I:=ac ((uH I).all z);replace H:=ac ((uH H).all z);replace Z:=ac ((uH Z).below z);replace LV:=ac ((uH LV).below z)
 replace F:=ac ((uH F).trans (z.mono (uH F).size))
 clear z L1 L2
 go_wp2_with fail
 refine Y.out _ _ ?_ (fun O=>?_)
 ·exact⟨⟨(uH D).c0,(uH D).c1,(uH D).c2⟩,⟨(uH I).c0,(uH I).c1,(uH I).c2⟩,(uH H).c0,(uH H).c1,(uH H).c2⟩
 clear Y K
 refine wpAnyH_take (i:=12) (oi:={dst:=some 37,op:=Op.pick (Operand.tmp 29) (Operand.tmp 36) (Operand.const (Value.bool false)),type:=4,pos:= "law.go:60",after:=#[{on:=4,ground:=Ground.data},{on:=11,ground:=Ground.data}],guard:=none}) (v:=(Value.bool true)) rfl (by kernel_rfl) (by kernel_rfl) (by kernel_rfl) (fun _ _ _ h=>h) (Or.inl ⟨by rfl,?_⟩) (by assumption) ?_
 ·(intro w A;(try dsimp only at A);go_simp)
 simp only[Act.put,List.setIfInBounds_toArray,List.set_cons_zero,List.set_cons_succ]
 refine wpAnyH_take (i:=13) (oi:={dst:=some 38,op:=Op.move (Operand.tmp 37),type:=4,pos:= "law.go:60",after:=#[{on:=12,ground:=Ground.data},{on:=11,ground:=Ground.chain}],guard:=none}) (v:=(Value.bool true)) rfl (by kernel_rfl) (by kernel_rfl) (by kernel_rfl) (fun _ _ _ h=>h) (Or.inl ⟨by rfl,?_⟩) (by assumption) ?_
 ·(intro w A;(try dsimp only at A);go_simp)
 simp only[Act.put,List.setIfInBounds_toArray,List.set_cons_zero,List.set_cons_succ]
 refine wpAnyH_ready (rs:=[14]) (by kernel_rfl) (by simp) ?_
 refine AllReadyH.cons (o:={dst:=some 39,op:=Op.call {callee:=Callee.value (Operand.func 22),args:=#[],argTypes:=#[]},type:=4,pos:= "law.go:60",after:=#[{on:=13,ground:=Ground.chain},{on:=13,ground:=Ground.guard}],guard:=some (13,true)}) rfl (fun K Y=>?_) AllReadyH.nil
 go_simp
 refine(uH ax _ (uH F)).mono ?_
 rintro e w9 ⟨rfl,z⟩
 replace D:=ac ((uH D).all z);replace I:=ac ((uH I).all z);replace H:=ac ((uH H).all z);replace Z:=ac ((uH Z).below z);replace LV:=ac ((uH LV).below z)
 replace F:=ac ((uH F).trans (z.mono (uH F).size))
 clear z
 go_wp2_with fail
 refine Y.out _ _ ?_ (fun O=>?_)
 ·exact⟨⟨(uH D).c0,(uH D).c1,(uH D).c2⟩,⟨(uH I).c0,(uH I).c1,(uH I).c2⟩,(uH H).c0,(uH H).c1,(uH H).c2⟩
 clear Y K
 refine wpAnyH_take (i:=15) (oi:={dst:=some 40,op:=Op.pick (Operand.tmp 38) (Operand.tmp 39) (Operand.const (Value.bool false)),type:=4,pos:= "law.go:60",after:=#[{on:=13,ground:=Ground.data},{on:=14,ground:=Ground.data}],guard:=none}) (v:=(Value.bool true)) rfl (by kernel_rfl) (by kernel_rfl) (by kernel_rfl) (fun _ _ _ h=>h) (Or.inl ⟨by rfl,?_⟩) (by assumption) ?_
 ·(intro w A;(try dsimp only at A);go_simp)
 simp only[Act.put,List.setIfInBounds_toArray,List.set_cons_zero,List.set_cons_succ]
 refine wpAnyH_take (i:=16) (oi:={dst:=some 2,op:=Op.assign (Operand.tmp 40),type:=4,pos:= "law.go:60",after:=#[{on:=15,ground:=Ground.data},{on:=14,ground:=Ground.chain},{on:=0,ground:=Ground.phase},{on:=1,ground:=Ground.phase},{on:=2,ground:=Ground.phase},{on:=3,ground:=Ground.phase},{on:=4,ground:=Ground.phase},{on:=5,ground:=Ground.phase},{on:=6,ground:=Ground.phase},{on:=7,ground:=Ground.phase},{on:=8,ground:=Ground.phase},{on:=9,ground:=Ground.phase},{on:=10,ground:=Ground.phase},{on:=11,ground:=Ground.phase},{on:=12,ground:=Ground.phase},{on:=13,ground:=Ground.phase},{on:=14,ground:=Ground.phase},{on:=15,ground:=Ground.phase}],guard:=none}) (v:=(Value.bool true)) rfl (by kernel_rfl) (by kernel_rfl) (by kernel_rfl) (fun _ _ _ h=>h) (Or.inl ⟨by rfl,?_⟩) (by assumption) ?_
 ·(intro w A;(try dsimp only at A);go_simp)
 simp only[Act.put,List.setIfInBounds_toArray,List.set_cons_zero,List.set_cons_succ]
 refine wpAnyH_done (by kernel_rfl) ?_ _
 go_wp2_with fail
 go_ret
 exact⟨rfl,uH F⟩
structure Be (w W:World) (r c N cap nW wc g3 g7:Nat) (ao wo:Option Addr) (WL:List Int) (n0:Bool) (a0:Option Addr) (l0 c0:Nat) (E0 lp zl:Int):Prop where
 hx:aM W w.heap.size (.int .i64 (r:Nat)) (.int .i64 (c:Nat)) (.slice ao N cap)
 hw:aM W g3 (.int .i64 (r:Nat)) (.int .i64 (c:Nat)) (.slice wo nW wc)
 lw:ak W wo wc WL
 hl:al W g7 (.bool n0) (.slice a0 l0 c0) (.int .i64 E0)
 il:aY W (.agg #[.bool n0,.slice a0 l0 c0,.int .i64 E0]) lp zl
 hb:Below w.heap.size w W
theorem Be.all{w W z:World}{r c N u A wc D F:Nat}{G H:Option Addr}{I:List Int}{J:Bool}{K:Option Addr}{L O:Nat}{Q U X:Int}(h:Be w W r c N u A wc D F G H I J K L O Q U X)(d:Below W.heap.size W z):Be w z r c N u A wc D F G H I J K L O Q U X:=
 ⟨h.hx.all d,h.hw.all d,h.lw.below d,h.hl.all d,h.il.below d,h.hb.trans (d.mono h.hb.size)⟩
theorem sJ(r c:Int)(N u:Nat)(F:Option Addr)(w:World)
  (L:∀d,Below w.heap.size w d→Calls Tryz.prog 13 #[.agg #[.int .i64 r,.int .i64 c,.slice F N u],.int .i64 100] d fun e A=>e=.returned (.bool false)∧Below d.heap.size d A)
  (O:∀d,Below w.heap.size w d→Calls Tryz.prog 22 #[] d fun e A=>e=.returned (.bool true)∧Below d.heap.size d A):
  Calls Tryz.prog 6 #[.agg #[.int .i64 r,.int .i64 c,.slice F N u]] w fun e d=>e=.returned (.bool true)∧Below w.heap.size w d:=by
 have Q:=ad w (.cells #[.int .i64 r,.int .i64 c,.slice F N u] 24)
 have h:=ac (aM.new w (.int .i64 r) (.int .i64 c) (.slice F N u))
 have z:=ac Q
 have G:=ac L
 have H:=ac O
 clear Q L O
 go_enter Tryz.func6,Tryz.ntmps6
 have I:=(uH h).c0;have J:=(uH h).c1;have K:=(uH h).c2
 go_wp2_with fail
 clear I J K
 refine(uH G _ (uH z)).mono ?_
 rintro e U ⟨rfl,D⟩
 replace h:=ac ((uH h).all D)
 replace z:=ac ((uH z).trans (D.mono (uH z).size))
 clear D
 have I:=(uH h).c0;have J:=(uH h).c1;have K:=(uH h).c2
 go_wp2_with fail
 clear I J K
 refine(uH H _ (uH z)).mono ?_
 rintro e U ⟨rfl,D⟩
 replace h:=ac ((uH h).all D)
 replace z:=ac ((uH z).trans (D.mono (uH z).size))
 clear D
 go_wp2_with fail
 go_ret
 exact⟨rfl,uH z⟩
theorem sK(r c:Int)(N u:Nat)(F:Option Addr)(w:World)
  (O:∀h,Below w.heap.size w h→Calls Tryz.prog 13 #[.agg #[.int .i64 r,.int .i64 c,.slice F N u],.int .i64 100] h fun e z=>e=.returned (.bool true)∧Below h.heap.size h z)
  (Q:∀h,Below w.heap.size w h→Calls Tryz.prog 23 #[.agg #[.int .i64 r,.int .i64 c,.slice F N u]] h fun e z=>e=.returned (.tuple #[.agg #[.int .i64 0,.int .i64 0,.slice none 0 0],.agg #[.int .i64 0,.int .i64 0,.slice none 0 0],.slice none 0 0,.int .i64 6])∧Below h.heap.size h z)
  (U:∀h,Below w.heap.size w h→Calls Tryz.prog 22 #[] h fun e z=>e=.returned (.bool true)∧Below h.heap.size h z):
  Calls Tryz.prog 6 #[.agg #[.int .i64 r,.int .i64 c,.slice F N u]] w fun e h=>e=.returned (.bool true)∧Below w.heap.size w h:=by
 have X:=ad w (.cells #[.int .i64 r,.int .i64 c,.slice F N u] 24)
 have A:=ac (aM.new w (.int .i64 r) (.int .i64 c) (.slice F N u))
 have d:=ac X
 have G:=ac O
 have H:=ac Q
 have I:=ac U
 clear X O Q U
 go_enter Tryz.func6,Tryz.ntmps6
 have J:=(uH A).c0;have K:=(uH A).c1;have L:=(uH A).c2
 go_wp2_with fail
 clear J K L
 refine(uH G _ (uH d)).mono ?_
 rintro e wn ⟨rfl,D⟩
 replace A:=ac ((uH A).all D)
 replace d:=ac ((uH d).trans (D.mono (uH d).size))
 clear D
 have J:=(uH A).c0;have K:=(uH A).c1;have L:=(uH A).c2
 go_wp2_with fail
 clear J K L
 refine(uH H _ (uH d)).mono ?_
 rintro e w3 ⟨rfl,D⟩
 replace d:=ac ((uH d).trans (D.mono (uH d).size))
 have Y:=ad w3 (.cells #[.int .i64 0,.int .i64 0,.slice none 0 0] 24)
 have Z:=ad (w3.alloc (.cells #[.int .i64 0,.int .i64 0,.slice none 0 0] 24)) (.cells #[.int .i64 0,.int .i64 0,.slice none 0 0] 24)
 replace d:=ac ((uH d).trans (Y.mono (uH d).size))
 replace d:=ac ((uH d).trans (Z.mono (uH d).size))
 clear D Y Z A
 go_wp2_with fail
 refine(uH I _ (uH d)).mono ?_
 rintro e w4 ⟨rfl,D⟩
 replace d:=ac ((uH d).trans (D.mono (uH d).size))
 clear D
 go_wp2_with fail
 go_ret
 exact⟨rfl,uH d⟩
theorem vl(r c N aa nW nV:Nat)(ao:Option Addr)(WL VL:List Int)(cl:Nat→List Int)(lo lp lq z1:Int)(g:Nat→Nat→Int)(s o:Nat→Int)(w:World)(b2:c≤6)
  (C1:∀D,Below w.heap.size w D→Calls Tryz.prog 13 #[.agg #[.int .i64 (r:Nat),.int .i64 (c:Nat),.slice ao N aa],.int .i64 100] D fun e G=>e=.returned (.bool true)∧Below D.heap.size D G)
  (C2:∀D,Below w.heap.size w D→Calls Tryz.prog 23 #[.agg #[.int .i64 (r:Nat),.int .i64 (c:Nat),.slice ao N aa]] D fun e G=>(∃wo wc vo vc so sn sd,e=.returned (.tuple #[.agg #[.int .i64 (r:Nat),.int .i64 (c:Nat),.slice wo nW wc],.agg #[.int .i64 (c:Nat),.int .i64 (c:Nat),.slice vo nV vc],.slice so sn sd,.int .i64 0])∧ak G wo wc WL∧ak G vo vc VL)∧Below D.heap.size D G)
  (CF:∀D wo wc vo vc,Below w.heap.size w D→ak D wo wc WL→ak D vo vc VL→Calls Tryz.prog 24 #[.agg #[.int .i64 (r:Nat),.int .i64 (c:Nat),.slice ao N aa],.agg #[.int .i64 (r:Nat),.int .i64 (c:Nat),.slice wo nW wc],.agg #[.int .i64 (c:Nat),.int .i64 (c:Nat),.slice vo nV vc]] D fun e G=>e=.returned (.bool true)∧Below D.heap.size D G)
  (CS:∀D,Below w.heap.size w D→Calls Tryz.prog 17 #[.agg #[.int .i64 (r:Nat),.int .i64 (c:Nat),.slice ao N aa]] D fun e G=>∃t,e=.returned t∧aY G t lo z1∧Below D.heap.size D G)
  (CL:∀D v,aY D v lo z1→Calls Tryz.prog 29 #[v,.int .i64 (-80)] D fun e G=>∃t,e=.returned t∧aY G t lp z1∧Below D.heap.size D G)
  (CC:∀D wo wc k,Below w.heap.size w D→ak D wo wc WL→k<c→Calls Tryz.prog 30 #[.agg #[.int .i64 (r:Nat),.int .i64 (c:Nat),.slice wo nW wc],.int .i64 (k:Nat),.int .i64 0] D fun e G=>(∃bo d,e=.returned (.slice bo r d)∧ak G bo d (cl k))∧Below D.heap.size D G)
  (CD:∀D p q xo xd yo yd,p<c→q<c→ak D xo xd (cl p)→ak D yo yd (cl q)→Calls Tryz.prog 31 #[.slice xo r xd,.slice yo r yd] D fun e G=>∃t,e=.returned t∧aY G t lo (g p q)∧Below D.heap.size D G)
  (CQ:∀D p xo xd,p<c→ak D xo xd (cl p)→Calls Tryz.prog 32 #[.slice xo r xd] D fun e G=>∃t,e=.returned t∧aY G t lo (s p)∧Below D.heap.size D G)
  (CO:∀D v u p,p<c→aY D v lo (s p)→aY D u lp z1→Calls Tryz.prog 33 #[v,u] D fun e G=>e=.returned (.int .i64 (o p))∧Below D.heap.size D G)
  (M1:∀D v p q,p<c→q<c→aY D v lo (g p q)→Calls Tryz.prog 18 #[v,v] D fun e G=>∃t,e=.returned t∧aY G t lq (g p q*g p q)∧Below D.heap.size D G)
  (M2:∀D v u p q,p<c→q<c→aY D v lo (s p)→aY D u lo (s q)→Calls Tryz.prog 18 #[v,u] D fun e G=>∃t,e=.returned t∧aY G t lq (s p*s q)∧Below D.heap.size D G)
  (WN:∀D v u p q,p<q→q<c→0<o p→0<o q→aY D v lq (g p q*g p q)→aY D u lq (s p*s q)→Calls Tryz.prog 20 #[v,u,.int .i64 38] D fun e G=>e=.returned (.bool true)∧Below D.heap.size D G)
  (CA:∀D,Below w.heap.size w D→Calls Tryz.prog 22 #[] D fun e G=>e=.returned (.bool true)∧Below D.heap.size D G):
  Calls Tryz.prog 6 #[.agg #[.int .i64 (r:Nat),.int .i64 (c:Nat),.slice ao N aa]] w fun e D=>e=.returned (.bool true)∧Below w.heap.size w D:=by
 have b0:=ad w (.cells #[.int .i64 (r:Nat),.int .i64 (c:Nat),.slice ao N aa] 24)
 have Z:=ac (aM.new w (.int .i64 (r:Nat)) (.int .i64 (c:Nat)) (.slice ao N aa))
 have Y:=ac b0
 have bi:=ac C1
 have bn:=ac C2
 have bp:=ac CF
 have bq:=ac CS
 have bs:=ac CL
 have aI:=ac CC
 have bv:=ac CD
 have a7:=ac CQ
 have ax:=ac CO
 have bw:=ac M1
 have bz:=ac M2
 have bA:=ac WN
 have bE:=ac CA
 clear b0 C1 C2 CF CS CL CC CD CQ CO M1 M2 WN CA
 go_enter Tryz.func6,Tryz.ntmps6
 have y0:=(uH Z).c0;have y1:=(uH Z).c1;have y2:=(uH Z).c2
 go_wp2_with fail
 clear y0 y1 y2
 refine(uH bi _ (uH Y)).mono ?_
 rintro e wn ⟨rfl,z⟩
 replace Z:=ac ((uH Z).all z)
 replace Y:=ac ((uH Y).trans (z.mono (uH Y).size))
 clear z
 have y0:=(uH Z).c0;have y1:=(uH Z).c1;have y2:=(uH Z).c2
 go_wp2_with fail
 clear y0 y1 y2
 refine(uH bn _ (uH Y)).mono ?_
 rintro e w3 ⟨⟨wo,wc,vo,vc,so,sn,sd,rfl,hw,hv⟩,z⟩
 replace Z:=ac ((uH Z).all z)
 replace Y:=ac ((uH Y).trans (z.mono (uH Y).size))
 have Q:=ad w3 (.cells #[.int .i64 (r:Nat),.int .i64 (c:Nat),.slice wo nW wc] 24)
 have za:=aq w3 (.cells #[.int .i64 (r:Nat),.int .i64 (c:Nat),.slice wo nW wc] 24)
 have bb:=ad (w3.alloc (.cells #[.int .i64 (r:Nat),.int .i64 (c:Nat),.slice wo nW wc] 24)) (.cells #[.int .i64 (c:Nat),.int .i64 (c:Nat),.slice vo nV vc] 24)
 have HW:=ac ((aM.new w3 (.int .i64 (r:Nat)) (.int .i64 (c:Nat)) (.slice wo nW wc)).all bb)
 have HV:=aM.new (w3.alloc (.cells #[.int .i64 (r:Nat),.int .i64 (c:Nat),.slice wo nW wc] 24)) (.int .i64 (c:Nat)) (.int .i64 (c:Nat)) (.slice vo nV vc)
 rw[za]at HV
 replace HV:=ac HV
 have LW:=ac ((hw.below Q).below bb)
 have LV:=ac ((hv.below Q).below bb)
 replace Z:=ac (((uH Z).all Q).all bb)
 replace Y:=ac ((uH Y).trans (Q.mono (uH Y).size))
 replace Y:=ac ((uH Y).trans (bb.mono (uH Y).size))
 clear z Q bb hw hv za
 have y0:=(uH Z).c0;have y1:=(uH Z).c1;have y2:=(uH Z).c2;have v0:=(uH HW).c0;have v1:=(uH HW).c1;have v2:=(uH HW).c2;have u0:=(uH HV).c0;have u1:=(uH HV).c1;have u2:=(uH HV).c2
 go_wp2_with fail
 clear y0 y1 y2 v0 v1 v2 u0 u1 u2
 refine(uH bp _ _ _ _ _ (uH Y) (uH LW) (uH LV)).mono ?_
 rintro e w5 ⟨rfl,z⟩
 replace Z:=ac ((uH Z).all z);replace HW:=ac ((uH HW).all z);replace HV:=ac ((uH HV).all z);replace LW:=ac ((uH LW).below z);replace LV:=ac ((uH LV).below z)
 replace Y:=ac ((uH Y).trans (z.mono (uH Y).size))
 clear z
 have y0:=(uH Z).c0;have y1:=(uH Z).c1;have y2:=(uH Z).c2
 go_wp2_with fail
 clear y0 y1 y2
 refine(uH bq _ (uH Y)).mono ?_
 rintro e w6 ⟨t1,rfl,lv,z⟩
 obtain⟨n1,a1,l1,c1,E1,rfl,L⟩:=lv.ex17
 have L1:=ac L
 clear lv L
 replace Z:=ac ((uH Z).all z);replace HW:=ac ((uH HW).all z);replace HV:=ac ((uH HV).all z);replace LW:=ac ((uH LW).below z);replace LV:=ac ((uH LV).below z)
 replace Y:=ac ((uH Y).trans (z.mono (uH Y).size))
 clear z
 go_wp2_with fail
 refine(uH bs _ _ (uH L1)).mono ?_
 rintro e w7 ⟨t0,rfl,lv,z⟩
 obtain⟨n0,a0,l0,c0,E0,rfl,L⟩:=lv.ex17
 have L0:=ac L
 clear lv L
 replace Z:=ac ((uH Z).all z);replace HW:=ac ((uH HW).all z);replace HV:=ac ((uH HV).all z);replace LW:=ac ((uH LW).below z);replace LV:=ac ((uH LV).below z)
 replace Y:=ac ((uH Y).trans (z.mono (uH Y).size))
 clear z L1
 have Q:=ad w7 (.cells #[.bool n0,.slice a0 l0 c0,.int .i64 E0] 35)
 have HL:=ac (al.new w7 (.bool n0) (.slice a0 l0 c0) (.int .i64 E0))
 replace L0:=ac ((uH L0).below Q)
 replace Z:=ac ((uH Z).all Q);replace HW:=ac ((uH HW).all Q);replace HV:=ac ((uH HV).all Q);replace LW:=ac ((uH LW).below Q);replace LV:=ac ((uH LV).below Q)
 replace Y:=ac ((uH Y).trans (Q.mono (uH Y).size))
 clear Q
 go_wp2_with fail
 generalize w7.heap.size=g7 at*
 generalize w7.alloc (.cells #[.bool n0,.slice a0 l0 c0,.int .i64 E0] 35)=w8 at*
 generalize w3.heap.size=g3 at*
 have F:=ac (show Be w w8 r c N aa nW wc g3 g7 ao wo WL n0 a0 l0 c0 E0 lp z1 from⟨uH Z,uH HW,uH LW,uH HL,uH L0,uH Y⟩)
 clear Z HW HV LW LV HL L0 Y
 go_loopw[8] (fun a wr=>∃p:Nat,p≤c∧a=.int .i64 p∧Hid (Be w wr r c N aa nW wc g3 g7 ao wo WL n0 a0 l0 c0 E0 lp z1)) (fun a _=>c-(intOf a).toNat)
 case atStart=>exact⟨0,Nat.zero_le _,rfl,F⟩
 case round=>
  clear F
  obtain⟨p,hp,rfl,F⟩:=hrel
  have v0:=(uH F).hw.c0;have v1:=(uH F).hw.c1;have v2:=(uH F).hw.c2
  by_cases an:p<c
  ·have b3:(p:Int)<(c:Int):=by omega
   go_wp2_with fail
   clear v0 v1 v2
   go_loopw[9] (fun a wr=>∃q:Nat,p<q∧q≤c∧a=.int .i64 q∧Hid (Be w wr r c N aa nW wc g3 g7 ao wo WL n0 a0 l0 c0 E0 lp z1)) (fun a _=>c-(intOf a).toNat)
   case atStart=>exact⟨p+1,by omega,by omega,by go_num,F⟩
   case round=>
    clear F
    obtain⟨q,b1,hq,rfl,F⟩:=hrel
    have v0:=(uH F).hw.c0;have v1:=(uH F).hw.c1;have v2:=(uH F).hw.c2
    by_cases ar:q<c
    ·have b4:(q:Int)<(c:Int):=by omega
     go_wp2_with fail
     clear v0 v1 v2
     refine(uH aI _ _ _ p (uH F).hb (uH F).lw an).mono ?_
     rintro e wa ⟨⟨xo,xd,rfl,bx⟩,z⟩
     replace F:=ac ((uH F).all z)
     have BX:=ac bx
     clear z bx
     have v0:=(uH F).hw.c0;have v1:=(uH F).hw.c1;have v2:=(uH F).hw.c2
     go_wp2_with fail
     clear v0 v1 v2
     refine(uH aI _ _ _ q (uH F).hb (uH F).lw ar).mono ?_
     rintro e wb ⟨⟨yo,yd,rfl,a9⟩,z⟩
     replace F:=ac ((uH F).all z)
     replace BX:=ac ((uH BX).below z)
     have BY:=ac a9
     clear z a9
     go_wp2_with fail
     refine(uH bv _ p q _ _ _ _ an ar (uH BX) (uH BY)).mono ?_
     rintro e az ⟨t2,rfl,lv,z⟩
     obtain⟨n2,a2,l2,c2,E2,rfl,L⟩:=lv.ex17
     have U:=ac L
     clear lv L
     replace F:=ac ((uH F).all z)
     replace BX:=ac ((uH BX).below z)
     replace BY:=ac ((uH BY).below z)
     clear z
     have Q:=ad az (.cells #[.bool n2,.slice a2 l2 c2,.int .i64 E2] 35)
     have H:=ac (al.new az (.bool n2) (.slice a2 l2 c2) (.int .i64 E2))
     replace U:=ac ((uH U).below Q)
     replace F:=ac ((uH F).all Q)
     replace BX:=ac ((uH BX).below Q)
     replace BY:=ac ((uH BY).below Q)
     clear Q
     go_wp2_with fail
     generalize bd:az.heap.size=ae at*
     generalize az.alloc (.cells #[.bool n2,.slice a2 l2 c2,.int .i64 E2] 35)=wd at*
     clear bd
     refine(uH a7 _ p _ _ an (uH BX)).mono ?_
     rintro e we ⟨t3,rfl,lv,z⟩
     obtain⟨n3,a3,l3,c3,E3,rfl,L⟩:=lv.ex17
     have X:=ac L
     clear lv L
     replace F:=ac ((uH F).all z)
     replace H:=ac ((uH H).all z)
     replace U:=ac ((uH U).below z)
     replace BY:=ac ((uH BY).below z)
     clear z
     have Q:=ad we (.cells #[.bool n3,.slice a3 l3 c3,.int .i64 E3] 35)
     have I:=ac (al.new we (.bool n3) (.slice a3 l3 c3) (.int .i64 E3))
     replace X:=ac ((uH X).below Q)
     replace F:=ac ((uH F).all Q)
     replace H:=ac ((uH H).all Q)
     replace U:=ac ((uH U).below Q)
     replace BY:=ac ((uH BY).below Q)
     clear Q
     go_wp2_with fail
     generalize be:we.heap.size=ah at*
     generalize we.alloc (.cells #[.bool n3,.slice a3 l3 c3,.int .i64 E3] 35)=wf at*
     clear be
     clear BX
     refine(uH a7 _ q _ _ ar (uH BY)).mono ?_
     rintro e wg ⟨t4,rfl,lv,z⟩
     obtain⟨n4,a4,l4,c4,E4,rfl,L⟩:=lv.ex17
     have L4:=ac L
     clear lv L
     replace F:=ac ((uH F).all z)
     replace H:=ac ((uH H).all z)
     replace I:=ac ((uH I).all z)
     replace U:=ac ((uH U).below z)
     replace X:=ac ((uH X).below z)
     clear z
     have Q:=ad wg (.cells #[.bool n4,.slice a4 l4 c4,.int .i64 E4] 35)
     have J:=ac (al.new wg (.bool n4) (.slice a4 l4 c4) (.int .i64 E4))
     replace L4:=ac ((uH L4).below Q)
     replace F:=ac ((uH F).all Q)
     replace H:=ac ((uH H).all Q)
     replace I:=ac ((uH I).all Q)
     replace U:=ac ((uH U).below Q)
     replace X:=ac ((uH X).below Q)
     clear Q
     go_wp2_with fail
     generalize bg:wg.heap.size=am at*
     generalize wg.alloc (.cells #[.bool n4,.slice a4 l4 c4,.int .i64 E4] 35)=wh at*
     clear bg
     clear BY
     have hd:=(Below.refl wh.heap.size wh).drew
     replace F:=ac ((uH F).all hd)
     replace H:=ac ((uH H).all hd)
     replace I:=ac ((uH I).all hd)
     replace J:=ac ((uH J).all hd)
     replace U:=ac ((uH U).below hd)
     replace X:=ac ((uH X).below hd)
     replace L4:=ac ((uH L4).below hd)
     clear hd
     rcases Int.lt_or_le 0 (o p)with o1|o1
     ·rcases Int.lt_or_le 0 (o q)with o2|o2
      ·have d1:decide (o p>0)=true:=decide_eq_true o1
       have d2:decide (o q>0)=true:=decide_eq_true o2
       refine wp_region_held_drew (S:=(fun D=>(D.cell? ⟨ae,0,none⟩=some (.bool n2)∧D.cell? ⟨ae,1,none⟩=some (.slice a2 l2 c2)∧D.cell? ⟨ae,2,none⟩=some (.int .i64 E2))∧(D.cell? ⟨ah,0,none⟩=some (.bool n3)∧D.cell? ⟨ah,1,none⟩=some (.slice a3 l3 c3)∧D.cell? ⟨ah,2,none⟩=some (.int .i64 E3))∧(D.cell? ⟨am,0,none⟩=some (.bool n4)∧D.cell? ⟨am,1,none⟩=some (.slice a4 l4 c4)∧D.cell? ⟨am,2,none⟩=some (.int .i64 E4))∧D.cell? ⟨g7,0,none⟩=some (.bool n0)∧D.cell? ⟨g7,1,none⟩=some (.slice a0 l0 c0)∧D.cell? ⟨g7,2,none⟩=some (.int .i64 E0))) (by kernel_rfl) ?_ (fun O=>?_)
       ·exact⟨⟨(uH H).c0,(uH H).c1,(uH H).c2⟩,⟨(uH I).c0,(uH I).c1,(uH I).c2⟩,⟨(uH J).c0,(uH J).c1,(uH J).c2⟩,(uH F).hl.c0,(uH F).hl.c1,(uH F).hl.c2⟩
       refine wpAnyH_take (i:=0) (oi:={dst:=some 68,op:=Op.load 35 (Operand.tmp 13),type:=35,pos:= "law.go:95",after:=#[],guard:=none}) (v:=(Value.agg #[.bool n3,.slice a3 l3 c3,.int .i64 E3])) rfl (by kernel_rfl) (by kernel_rfl) (by kernel_rfl) (fun _ _ _ h=>h) (Or.inl ⟨by rfl,?_⟩) (by assumption) ?_
       ·(intro w A;(try dsimp only at A);go_simp)
       simp only[Act.put,List.setIfInBounds_toArray,List.set_cons_zero,List.set_cons_succ]
       refine wpAnyH_take (i:=1) (oi:={dst:=some 69,op:=Op.load 35 (Operand.tmp 7),type:=35,pos:= "law.go:95",after:=#[],guard:=none}) (v:=(Value.agg #[.bool n0,.slice a0 l0 c0,.int .i64 E0])) rfl (by kernel_rfl) (by kernel_rfl) (by kernel_rfl) (fun _ _ _ h=>h) (Or.inl ⟨by rfl,?_⟩) (by assumption) ?_
       ·(intro w A;(try dsimp only at A);go_simp)
       simp only[Act.put,List.setIfInBounds_toArray,List.set_cons_zero,List.set_cons_succ]
       refine wpAnyH_ready (rs:=[2]) (by kernel_rfl) (by simp) ?_
       refine AllReadyH.cons (o:={dst:=some 70,op:=Op.call {callee:=Callee.value (Operand.func 33),args:=#[Operand.tmp 68,Operand.tmp 69],argTypes:=#[35,35]},type:=3,pos:= "law.go:95",after:=#[{on:=0,ground:=Ground.data},{on:=1,ground:=Ground.data}],guard:=none}) rfl (fun K hK=>?_) AllReadyH.nil
       go_simp
       refine(uH ax _ _ _ p an (uH X) (uH F).il).mono ?_
       rintro e wi ⟨rfl,z⟩
       replace F:=ac ((uH F).all z)
       replace H:=ac ((uH H).all z)
       replace I:=ac ((uH I).all z)
       replace J:=ac ((uH J).all z)
       replace U:=ac ((uH U).below z)
       replace X:=ac ((uH X).below z)
       replace L4:=ac ((uH L4).below z)
       clear z
       go_wp2_with fail
       refine hK.out _ _ ?_ (fun O=>?_)
       ·exact⟨⟨(uH H).c0,(uH H).c1,(uH H).c2⟩,⟨(uH I).c0,(uH I).c1,(uH I).c2⟩,⟨(uH J).c0,(uH J).c1,(uH J).c2⟩,(uH F).hl.c0,(uH F).hl.c1,(uH F).hl.c2⟩
       clear hK K
       refine wpAnyH_take (i:=3) (oi:={dst:=some 71,op:=Op.binOp BinOp.gtr 3 (Operand.tmp 70) (Operand.const (Value.int IntKind.i64 0)) 3,type:=4,pos:= "law.go:95",after:=#[{on:=2,ground:=Ground.data}],guard:=none}) (v:=(Value.bool true)) rfl (by kernel_rfl) (by kernel_rfl) (by kernel_rfl) (fun _ _ _ h=>h) (Or.inl ⟨by rfl,?_⟩) (by assumption) ?_
       ·(intro w A;(try dsimp only at A);go_simp)
       simp only[Act.put,List.setIfInBounds_toArray,List.set_cons_zero,List.set_cons_succ]
       refine wpAnyH_take (i:=4) (oi:={dst:=some 72,op:=Op.move (Operand.tmp 71),type:=4,pos:= "law.go:95",after:=#[{on:=3,ground:=Ground.data},{on:=2,ground:=Ground.chain}],guard:=none}) (v:=(Value.bool true)) rfl (by kernel_rfl) (by kernel_rfl) (by kernel_rfl) (fun _ _ _ h=>h) (Or.inl ⟨by rfl,?_⟩) (by assumption) ?_
       ·(intro w A;(try dsimp only at A);go_simp)
       simp only[Act.put,List.setIfInBounds_toArray,List.set_cons_zero,List.set_cons_succ]
       refine wpAnyH_take (i:=5) (oi:={dst:=some 73,op:=Op.load 35 (Operand.tmp 14),type:=35,pos:= "law.go:95",after:=#[{on:=4,ground:=Ground.guard}],guard:=some (4,true)}) (v:=(Value.agg #[.bool n4,.slice a4 l4 c4,.int .i64 E4])) rfl (by kernel_rfl) (by kernel_rfl) (by kernel_rfl) (fun _ _ _ h=>h) (Or.inl ⟨by rfl,?_⟩) (by assumption) ?_
       ·(intro w A;(try dsimp only at A);go_simp)
       simp only[Act.put,List.setIfInBounds_toArray,List.set_cons_zero,List.set_cons_succ]
       refine wpAnyH_take (i:=6) (oi:={dst:=some 74,op:=Op.load 35 (Operand.tmp 7),type:=35,pos:= "law.go:95",after:=#[{on:=4,ground:=Ground.guard}],guard:=some (4,true)}) (v:=(Value.agg #[.bool n0,.slice a0 l0 c0,.int .i64 E0])) rfl (by kernel_rfl) (by kernel_rfl) (by kernel_rfl) (fun _ _ _ h=>h) (Or.inl ⟨by rfl,?_⟩) (by assumption) ?_
       ·(intro w A;(try dsimp only at A);go_simp)
       simp only[Act.put,List.setIfInBounds_toArray,List.set_cons_zero,List.set_cons_succ]
       refine wpAnyH_ready (rs:=[7]) (by kernel_rfl) (by simp) ?_
       refine AllReadyH.cons (o:={dst:=some 75,op:=Op.call {callee:=Callee.value (Operand.func 33),args:=#[Operand.tmp 73,Operand.tmp 74],argTypes:=#[35,35]},type:=3,pos:= "law.go:95",after:=#[{on:=5,ground:=Ground.data},{on:=6,ground:=Ground.data},{on:=4,ground:=Ground.chain},{on:=4,ground:=Ground.guard}],guard:=some (4,true)}) rfl (fun K hK=>?_) AllReadyH.nil
       go_simp
       refine(uH ax _ _ _ q ar (uH L4) (uH F).il).mono ?_
       rintro e wj ⟨rfl,z⟩
       replace F:=ac ((uH F).all z)
       replace H:=ac ((uH H).all z)
       replace I:=ac ((uH I).all z)
       replace J:=ac ((uH J).all z)
       replace U:=ac ((uH U).below z)
       replace X:=ac ((uH X).below z)
       replace L4:=ac ((uH L4).below z)
       clear z
       go_wp2_with fail
       refine hK.out _ _ ?_ (fun O=>?_)
       ·exact⟨⟨(uH H).c0,(uH H).c1,(uH H).c2⟩,⟨(uH I).c0,(uH I).c1,(uH I).c2⟩,⟨(uH J).c0,(uH J).c1,(uH J).c2⟩,(uH F).hl.c0,(uH F).hl.c1,(uH F).hl.c2⟩
       clear hK K
       refine wpAnyH_take (i:=8) (oi:={dst:=some 76,op:=Op.binOp BinOp.gtr 3 (Operand.tmp 75) (Operand.const (Value.int IntKind.i64 0)) 3,type:=4,pos:= "law.go:95",after:=#[{on:=7,ground:=Ground.data},{on:=4,ground:=Ground.guard}],guard:=some (4,true)}) (v:=(Value.bool true)) rfl (by kernel_rfl) (by kernel_rfl) (by kernel_rfl) (fun _ _ _ h=>h) (Or.inl ⟨by rfl,?_⟩) (by assumption) ?_
       ·(intro w A;(try dsimp only at A);go_simp)
       simp only[Act.put,List.setIfInBounds_toArray,List.set_cons_zero,List.set_cons_succ]
       refine wpAnyH_take (i:=9) (oi:={dst:=some 77,op:=Op.pick (Operand.tmp 72) (Operand.tmp 76) (Operand.const (Value.bool false)),type:=4,pos:= "law.go:95",after:=#[{on:=4,ground:=Ground.data},{on:=8,ground:=Ground.data}],guard:=none}) (v:=(Value.bool true)) rfl (by kernel_rfl) (by kernel_rfl) (by kernel_rfl) (fun _ _ _ h=>h) (Or.inl ⟨by rfl,?_⟩) (by assumption) ?_
       ·(intro w A;(try dsimp only at A);go_simp)
       simp only[Act.put,List.setIfInBounds_toArray,List.set_cons_zero,List.set_cons_succ]
       refine wpAnyH_take (i:=10) (oi:={dst:=some 78,op:=Op.move (Operand.tmp 77),type:=4,pos:= "law.go:95",after:=#[{on:=9,ground:=Ground.data},{on:=7,ground:=Ground.chain}],guard:=none}) (v:=(Value.bool true)) rfl (by kernel_rfl) (by kernel_rfl) (by kernel_rfl) (fun _ _ _ h=>h) (Or.inl ⟨by rfl,?_⟩) (by assumption) ?_
       ·(intro w A;(try dsimp only at A);go_simp)
       simp only[Act.put,List.setIfInBounds_toArray,List.set_cons_zero,List.set_cons_succ]
       refine wpAnyH_take (i:=11) (oi:={dst:=some 79,op:=Op.load 35 (Operand.tmp 12),type:=35,pos:= "law.go:95",after:=#[{on:=10,ground:=Ground.guard}],guard:=some (10,true)}) (v:=(Value.agg #[.bool n2,.slice a2 l2 c2,.int .i64 E2])) rfl (by kernel_rfl) (by kernel_rfl) (by kernel_rfl) (fun _ _ _ h=>h) (Or.inl ⟨by rfl,?_⟩) (by assumption) ?_
       ·(intro w A;(try dsimp only at A);go_simp)
       simp only[Act.put,List.setIfInBounds_toArray,List.set_cons_zero,List.set_cons_succ]
       refine wpAnyH_take (i:=12) (oi:={dst:=some 80,op:=Op.load 35 (Operand.tmp 12),type:=35,pos:= "law.go:95",after:=#[{on:=10,ground:=Ground.guard}],guard:=some (10,true)}) (v:=(Value.agg #[.bool n2,.slice a2 l2 c2,.int .i64 E2])) rfl (by kernel_rfl) (by kernel_rfl) (by kernel_rfl) (fun _ _ _ h=>h) (Or.inl ⟨by rfl,?_⟩) (by assumption) ?_
       ·(intro w A;(try dsimp only at A);go_simp)
       simp only[Act.put,List.setIfInBounds_toArray,List.set_cons_zero,List.set_cons_succ]
       refine wpAnyH_take (i:=14) (oi:={dst:=some 82,op:=Op.load 35 (Operand.tmp 13),type:=35,pos:= "law.go:95",after:=#[{on:=10,ground:=Ground.guard}],guard:=some (10,true)}) (v:=(Value.agg #[.bool n3,.slice a3 l3 c3,.int .i64 E3])) rfl (by kernel_rfl) (by kernel_rfl) (by kernel_rfl) (fun _ _ _ h=>h) (Or.inl ⟨by rfl,?_⟩) (by assumption) ?_
       ·(intro w A;(try dsimp only at A);go_simp)
       simp only[Act.put,List.setIfInBounds_toArray,List.set_cons_zero,List.set_cons_succ]
       refine wpAnyH_take (i:=15) (oi:={dst:=some 83,op:=Op.load 35 (Operand.tmp 14),type:=35,pos:= "law.go:95",after:=#[{on:=10,ground:=Ground.guard}],guard:=some (10,true)}) (v:=(Value.agg #[.bool n4,.slice a4 l4 c4,.int .i64 E4])) rfl (by kernel_rfl) (by kernel_rfl) (by kernel_rfl) (fun _ _ _ h=>h) (Or.inl ⟨by rfl,?_⟩) (by assumption) ?_
       ·(intro w A;(try dsimp only at A);go_simp)
       simp only[Act.put,List.setIfInBounds_toArray,List.set_cons_zero,List.set_cons_succ]
       refine wpAnyH_ready (rs:=[13]) (by kernel_rfl) (by simp) ?_
       refine AllReadyH.cons (o:={dst:=some 81,op:=Op.call {callee:=Callee.value (Operand.func 18),args:=#[Operand.tmp 79,Operand.tmp 80],argTypes:=#[35,35]},type:=35,pos:= "law.go:95",after:=#[{on:=11,ground:=Ground.data},{on:=12,ground:=Ground.data},{on:=10,ground:=Ground.chain},{on:=10,ground:=Ground.guard}],guard:=some (10,true)}) rfl (fun K hK=>?_) AllReadyH.nil
       go_simp
       refine(uH bw _ _ p q an ar (uH U)).mono ?_
       rintro e wk ⟨t5,rfl,lv,z⟩
       obtain⟨n5,a5,l5,c5,E5,rfl,L⟩:=lv.ex17
       have L5:=ac L
       clear lv L
       replace F:=ac ((uH F).all z)
       replace H:=ac ((uH H).all z)
       replace I:=ac ((uH I).all z)
       replace J:=ac ((uH J).all z)
       replace U:=ac ((uH U).below z)
       replace X:=ac ((uH X).below z)
       replace L4:=ac ((uH L4).below z)
       clear z
       go_wp2_with fail
       refine hK.out _ _ ?_ (fun O=>?_)
       ·exact⟨⟨(uH H).c0,(uH H).c1,(uH H).c2⟩,⟨(uH I).c0,(uH I).c1,(uH I).c2⟩,⟨(uH J).c0,(uH J).c1,(uH J).c2⟩,(uH F).hl.c0,(uH F).hl.c1,(uH F).hl.c2⟩
       clear hK K
       refine wpAnyH_ready (rs:=[16]) (by kernel_rfl) (by simp) ?_
       refine AllReadyH.cons (o:={dst:=some 84,op:=Op.call {callee:=Callee.value (Operand.func 18),args:=#[Operand.tmp 82,Operand.tmp 83],argTypes:=#[35,35]},type:=35,pos:= "law.go:95",after:=#[{on:=14,ground:=Ground.data},{on:=15,ground:=Ground.data},{on:=13,ground:=Ground.chain},{on:=10,ground:=Ground.guard}],guard:=some (10,true)}) rfl (fun K hK=>?_) AllReadyH.nil
       go_simp
       refine(uH bz _ _ _ p q an ar (uH X) (uH L4)).mono ?_
       rintro e wl ⟨t6,rfl,lv,z⟩
       obtain⟨n6,a6,l6,c6,E6,rfl,L⟩:=lv.ex17
       have L6:=ac L
       clear lv L
       replace F:=ac ((uH F).all z)
       replace H:=ac ((uH H).all z)
       replace I:=ac ((uH I).all z)
       replace J:=ac ((uH J).all z)
       replace U:=ac ((uH U).below z)
       replace X:=ac ((uH X).below z)
       replace L4:=ac ((uH L4).below z)
       replace L5:=ac ((uH L5).below z)
       clear z
       go_wp2_with fail
       refine hK.out _ _ ?_ (fun O=>?_)
       ·exact⟨⟨(uH H).c0,(uH H).c1,(uH H).c2⟩,⟨(uH I).c0,(uH I).c1,(uH I).c2⟩,⟨(uH J).c0,(uH J).c1,(uH J).c2⟩,(uH F).hl.c0,(uH F).hl.c1,(uH F).hl.c2⟩
       clear hK K
       refine wpAnyH_ready (rs:=[17]) (by kernel_rfl) (by simp) ?_
       refine AllReadyH.cons (o:={dst:=some 85,op:=Op.call {callee:=Callee.value (Operand.func 20),args:=#[Operand.tmp 81,Operand.tmp 84,Operand.const (Value.int IntKind.i64 38)],argTypes:=#[35,35,3]},type:=4,pos:= "law.go:95",after:=#[{on:=13,ground:=Ground.data},{on:=16,ground:=Ground.data},{on:=16,ground:=Ground.chain},{on:=10,ground:=Ground.guard}],guard:=some (10,true)}) rfl (fun K hK=>?_) AllReadyH.nil
       go_simp
       refine(uH bA _ _ _ p q b1 ar o1 o2 (uH L5) (uH L6)).mono ?_
       rintro e wm ⟨rfl,z⟩
       replace F:=ac ((uH F).all z)
       replace H:=ac ((uH H).all z)
       replace I:=ac ((uH I).all z)
       replace J:=ac ((uH J).all z)
       replace U:=ac ((uH U).below z)
       replace X:=ac ((uH X).below z)
       replace L4:=ac ((uH L4).below z)
       replace L5:=ac ((uH L5).below z)
       replace L6:=ac ((uH L6).below z)
       clear z
       go_wp2_with fail
       refine hK.out _ _ ?_ (fun O=>?_)
       ·exact⟨⟨(uH H).c0,(uH H).c1,(uH H).c2⟩,⟨(uH I).c0,(uH I).c1,(uH I).c2⟩,⟨(uH J).c0,(uH J).c1,(uH J).c2⟩,(uH F).hl.c0,(uH F).hl.c1,(uH F).hl.c2⟩
       clear hK K
       refine wpAnyH_take (i:=18) (oi:={dst:=some 86,op:=Op.unOp UnOp.not 4 (Operand.tmp 85),type:=4,pos:= "law.go:95",after:=#[{on:=17,ground:=Ground.data},{on:=10,ground:=Ground.guard}],guard:=some (10,true)}) (v:=(Value.bool false)) rfl (by kernel_rfl) (by kernel_rfl) (by kernel_rfl) (fun _ _ _ h=>h) (Or.inl ⟨by rfl,?_⟩) (by assumption) ?_
       ·(intro w A;(try dsimp only at A);go_simp)
       simp only[Act.put,List.setIfInBounds_toArray,List.set_cons_zero,List.set_cons_succ]
       refine wpAnyH_take (i:=19) (oi:={dst:=some 87,op:=Op.pick (Operand.tmp 78) (Operand.tmp 86) (Operand.const (Value.bool false)),type:=4,pos:= "law.go:95",after:=#[{on:=10,ground:=Ground.data},{on:=18,ground:=Ground.data}],guard:=none}) (v:=(Value.bool false)) rfl (by kernel_rfl) (by kernel_rfl) (by kernel_rfl) (fun _ _ _ h=>h) (Or.inl ⟨by rfl,?_⟩) (by assumption) ?_
       ·(intro w A;(try dsimp only at A);go_simp)
       simp only[Act.put,List.setIfInBounds_toArray,List.set_cons_zero,List.set_cons_succ]
       refine wpAnyH_done (by kernel_rfl) ?_ _
       clear H I J U X L4 L5 L6
       go_wp2_with fail
       go_round
       case rel=>exact⟨q+1,by omega,by omega,by go_num,F⟩
       case measure=>simp[intOf];omega
      ·have d1:decide (o p>0)=true:=decide_eq_true o1
       have d2:decide (o q>0)=false:=decide_eq_false (by omega)
       refine wp_region_held_drew (S:=(fun D=>(D.cell? ⟨ae,0,none⟩=some (.bool n2)∧D.cell? ⟨ae,1,none⟩=some (.slice a2 l2 c2)∧D.cell? ⟨ae,2,none⟩=some (.int .i64 E2))∧(D.cell? ⟨ah,0,none⟩=some (.bool n3)∧D.cell? ⟨ah,1,none⟩=some (.slice a3 l3 c3)∧D.cell? ⟨ah,2,none⟩=some (.int .i64 E3))∧(D.cell? ⟨am,0,none⟩=some (.bool n4)∧D.cell? ⟨am,1,none⟩=some (.slice a4 l4 c4)∧D.cell? ⟨am,2,none⟩=some (.int .i64 E4))∧D.cell? ⟨g7,0,none⟩=some (.bool n0)∧D.cell? ⟨g7,1,none⟩=some (.slice a0 l0 c0)∧D.cell? ⟨g7,2,none⟩=some (.int .i64 E0))) (by kernel_rfl) ?_ (fun O=>?_)
       ·exact⟨⟨(uH H).c0,(uH H).c1,(uH H).c2⟩,⟨(uH I).c0,(uH I).c1,(uH I).c2⟩,⟨(uH J).c0,(uH J).c1,(uH J).c2⟩,(uH F).hl.c0,(uH F).hl.c1,(uH F).hl.c2⟩
       refine wpAnyH_take (i:=0) (oi:={dst:=some 68,op:=Op.load 35 (Operand.tmp 13),type:=35,pos:= "law.go:95",after:=#[],guard:=none}) (v:=(Value.agg #[.bool n3,.slice a3 l3 c3,.int .i64 E3])) rfl (by kernel_rfl) (by kernel_rfl) (by kernel_rfl) (fun _ _ _ h=>h) (Or.inl ⟨by rfl,?_⟩) (by assumption) ?_
       ·(intro w A;(try dsimp only at A);go_simp)
       simp only[Act.put,List.setIfInBounds_toArray,List.set_cons_zero,List.set_cons_succ]
       refine wpAnyH_take (i:=1) (oi:={dst:=some 69,op:=Op.load 35 (Operand.tmp 7),type:=35,pos:= "law.go:95",after:=#[],guard:=none}) (v:=(Value.agg #[.bool n0,.slice a0 l0 c0,.int .i64 E0])) rfl (by kernel_rfl) (by kernel_rfl) (by kernel_rfl) (fun _ _ _ h=>h) (Or.inl ⟨by rfl,?_⟩) (by assumption) ?_
       ·(intro w A;(try dsimp only at A);go_simp)
       simp only[Act.put,List.setIfInBounds_toArray,List.set_cons_zero,List.set_cons_succ]
       refine wpAnyH_ready (rs:=[2]) (by kernel_rfl) (by simp) ?_
       refine AllReadyH.cons (o:={dst:=some 70,op:=Op.call {callee:=Callee.value (Operand.func 33),args:=#[Operand.tmp 68,Operand.tmp 69],argTypes:=#[35,35]},type:=3,pos:= "law.go:95",after:=#[{on:=0,ground:=Ground.data},{on:=1,ground:=Ground.data}],guard:=none}) rfl (fun K hK=>?_) AllReadyH.nil
       go_simp
       refine(uH ax _ _ _ p an (uH X) (uH F).il).mono ?_
       rintro e wi ⟨rfl,z⟩
       replace F:=ac ((uH F).all z)
       replace H:=ac ((uH H).all z)
       replace I:=ac ((uH I).all z)
       replace J:=ac ((uH J).all z)
       replace U:=ac ((uH U).below z)
       replace X:=ac ((uH X).below z)
       replace L4:=ac ((uH L4).below z)
       clear z
       go_wp2_with fail
       refine hK.out _ _ ?_ (fun O=>?_)
       ·exact⟨⟨(uH H).c0,(uH H).c1,(uH H).c2⟩,⟨(uH I).c0,(uH I).c1,(uH I).c2⟩,⟨(uH J).c0,(uH J).c1,(uH J).c2⟩,(uH F).hl.c0,(uH F).hl.c1,(uH F).hl.c2⟩
       clear hK K
       refine wpAnyH_take (i:=3) (oi:={dst:=some 71,op:=Op.binOp BinOp.gtr 3 (Operand.tmp 70) (Operand.const (Value.int IntKind.i64 0)) 3,type:=4,pos:= "law.go:95",after:=#[{on:=2,ground:=Ground.data}],guard:=none}) (v:=(Value.bool true)) rfl (by kernel_rfl) (by kernel_rfl) (by kernel_rfl) (fun _ _ _ h=>h) (Or.inl ⟨by rfl,?_⟩) (by assumption) ?_
       ·(intro w A;(try dsimp only at A);go_simp)
       simp only[Act.put,List.setIfInBounds_toArray,List.set_cons_zero,List.set_cons_succ]
       refine wpAnyH_take (i:=4) (oi:={dst:=some 72,op:=Op.move (Operand.tmp 71),type:=4,pos:= "law.go:95",after:=#[{on:=3,ground:=Ground.data},{on:=2,ground:=Ground.chain}],guard:=none}) (v:=(Value.bool true)) rfl (by kernel_rfl) (by kernel_rfl) (by kernel_rfl) (fun _ _ _ h=>h) (Or.inl ⟨by rfl,?_⟩) (by assumption) ?_
       ·(intro w A;(try dsimp only at A);go_simp)
       simp only[Act.put,List.setIfInBounds_toArray,List.set_cons_zero,List.set_cons_succ]
       refine wpAnyH_take (i:=5) (oi:={dst:=some 73,op:=Op.load 35 (Operand.tmp 14),type:=35,pos:= "law.go:95",after:=#[{on:=4,ground:=Ground.guard}],guard:=some (4,true)}) (v:=(Value.agg #[.bool n4,.slice a4 l4 c4,.int .i64 E4])) rfl (by kernel_rfl) (by kernel_rfl) (by kernel_rfl) (fun _ _ _ h=>h) (Or.inl ⟨by rfl,?_⟩) (by assumption) ?_
       ·(intro w A;(try dsimp only at A);go_simp)
       simp only[Act.put,List.setIfInBounds_toArray,List.set_cons_zero,List.set_cons_succ]
       refine wpAnyH_take (i:=6) (oi:={dst:=some 74,op:=Op.load 35 (Operand.tmp 7),type:=35,pos:= "law.go:95",after:=#[{on:=4,ground:=Ground.guard}],guard:=some (4,true)}) (v:=(Value.agg #[.bool n0,.slice a0 l0 c0,.int .i64 E0])) rfl (by kernel_rfl) (by kernel_rfl) (by kernel_rfl) (fun _ _ _ h=>h) (Or.inl ⟨by rfl,?_⟩) (by assumption) ?_
       ·(intro w A;(try dsimp only at A);go_simp)
       simp only[Act.put,List.setIfInBounds_toArray,List.set_cons_zero,List.set_cons_succ]
       refine wpAnyH_ready (rs:=[7]) (by kernel_rfl) (by simp) ?_
       refine AllReadyH.cons (o:={dst:=some 75,op:=Op.call {callee:=Callee.value (Operand.func 33),args:=#[Operand.tmp 73,Operand.tmp 74],argTypes:=#[35,35]},type:=3,pos:= "law.go:95",after:=#[{on:=5,ground:=Ground.data},{on:=6,ground:=Ground.data},{on:=4,ground:=Ground.chain},{on:=4,ground:=Ground.guard}],guard:=some (4,true)}) rfl (fun K hK=>?_) AllReadyH.nil
       go_simp
       refine(uH ax _ _ _ q ar (uH L4) (uH F).il).mono ?_
       rintro e wj ⟨rfl,z⟩
       replace F:=ac ((uH F).all z)
       replace H:=ac ((uH H).all z)
       replace I:=ac ((uH I).all z)
       replace J:=ac ((uH J).all z)
       replace U:=ac ((uH U).below z)
       replace X:=ac ((uH X).below z)
       replace L4:=ac ((uH L4).below z)
       clear z
       go_wp2_with fail
       refine hK.out _ _ ?_ (fun O=>?_)
       ·exact⟨⟨(uH H).c0,(uH H).c1,(uH H).c2⟩,⟨(uH I).c0,(uH I).c1,(uH I).c2⟩,⟨(uH J).c0,(uH J).c1,(uH J).c2⟩,(uH F).hl.c0,(uH F).hl.c1,(uH F).hl.c2⟩
       clear hK K
       refine wpAnyH_take (i:=8) (oi:={dst:=some 76,op:=Op.binOp BinOp.gtr 3 (Operand.tmp 75) (Operand.const (Value.int IntKind.i64 0)) 3,type:=4,pos:= "law.go:95",after:=#[{on:=7,ground:=Ground.data},{on:=4,ground:=Ground.guard}],guard:=some (4,true)}) (v:=(Value.bool false)) rfl (by kernel_rfl) (by kernel_rfl) (by kernel_rfl) (fun _ _ _ h=>h) (Or.inl ⟨by rfl,?_⟩) (by assumption) ?_
       ·(intro w A;(try dsimp only at A);go_simp)
       simp only[Act.put,List.setIfInBounds_toArray,List.set_cons_zero,List.set_cons_succ]
       refine wpAnyH_take (i:=9) (oi:={dst:=some 77,op:=Op.pick (Operand.tmp 72) (Operand.tmp 76) (Operand.const (Value.bool false)),type:=4,pos:= "law.go:95",after:=#[{on:=4,ground:=Ground.data},{on:=8,ground:=Ground.data}],guard:=none}) (v:=(Value.bool false)) rfl (by kernel_rfl) (by kernel_rfl) (by kernel_rfl) (fun _ _ _ h=>h) (Or.inl ⟨by rfl,?_⟩) (by assumption) ?_
       ·(intro w A;(try dsimp only at A);go_simp)
       simp only[Act.put,List.setIfInBounds_toArray,List.set_cons_zero,List.set_cons_succ]
       refine wpAnyH_take (i:=10) (oi:={dst:=some 78,op:=Op.move (Operand.tmp 77),type:=4,pos:= "law.go:95",after:=#[{on:=9,ground:=Ground.data},{on:=7,ground:=Ground.chain}],guard:=none}) (v:=(Value.bool false)) rfl (by kernel_rfl) (by kernel_rfl) (by kernel_rfl) (fun _ _ _ h=>h) (Or.inl ⟨by rfl,?_⟩) (by assumption) ?_
       ·(intro w A;(try dsimp only at A);go_simp)
       simp only[Act.put,List.setIfInBounds_toArray,List.set_cons_zero,List.set_cons_succ]
       refine wpAnyH_take (i:=11) (oi:={dst:=some 79,op:=Op.load 35 (Operand.tmp 12),type:=35,pos:= "law.go:95",after:=#[{on:=10,ground:=Ground.guard}],guard:=some (10,true)}) (v:=undef) rfl (by kernel_rfl) (by kernel_rfl) (by kernel_rfl) (fun _ _ _ h=>h) (Or.inr ⟨by rfl,rfl⟩) (by assumption) ?_
       simp only[Act.put,List.setIfInBounds_toArray,List.set_cons_zero,List.set_cons_succ]
       refine wpAnyH_take (i:=12) (oi:={dst:=some 80,op:=Op.load 35 (Operand.tmp 12),type:=35,pos:= "law.go:95",after:=#[{on:=10,ground:=Ground.guard}],guard:=some (10,true)}) (v:=undef) rfl (by kernel_rfl) (by kernel_rfl) (by kernel_rfl) (fun _ _ _ h=>h) (Or.inr ⟨by rfl,rfl⟩) (by assumption) ?_
       simp only[Act.put,List.setIfInBounds_toArray,List.set_cons_zero,List.set_cons_succ]
       refine wpAnyH_take (i:=13) (oi:={dst:=some 81,op:=Op.call {callee:=Callee.value (Operand.func 18),args:=#[Operand.tmp 79,Operand.tmp 80],argTypes:=#[35,35]},type:=35,pos:= "law.go:95",after:=#[{on:=11,ground:=Ground.data},{on:=12,ground:=Ground.data},{on:=10,ground:=Ground.chain},{on:=10,ground:=Ground.guard}],guard:=some (10,true)}) (v:=undef) rfl (by kernel_rfl) (by kernel_rfl) (by kernel_rfl) (fun _ _ _ h=>h) (Or.inr ⟨by rfl,rfl⟩) (by assumption) ?_
       simp only[Act.put,List.setIfInBounds_toArray,List.set_cons_zero,List.set_cons_succ]
       refine wpAnyH_take (i:=14) (oi:={dst:=some 82,op:=Op.load 35 (Operand.tmp 13),type:=35,pos:= "law.go:95",after:=#[{on:=10,ground:=Ground.guard}],guard:=some (10,true)}) (v:=undef) rfl (by kernel_rfl) (by kernel_rfl) (by kernel_rfl) (fun _ _ _ h=>h) (Or.inr ⟨by rfl,rfl⟩) (by assumption) ?_
       simp only[Act.put,List.setIfInBounds_toArray,List.set_cons_zero,List.set_cons_succ]
       refine wpAnyH_take (i:=15) (oi:={dst:=some 83,op:=Op.load 35 (Operand.tmp 14),type:=35,pos:= "law.go:95",after:=#[{on:=10,ground:=Ground.guard}],guard:=some (10,true)}) (v:=undef) rfl (by kernel_rfl) (by kernel_rfl) (by kernel_rfl) (fun _ _ _ h=>h) (Or.inr ⟨by rfl,rfl⟩) (by assumption) ?_
       simp only[Act.put,List.setIfInBounds_toArray,List.set_cons_zero,List.set_cons_succ]
       refine wpAnyH_take (i:=16) (oi:={dst:=some 84,op:=Op.call {callee:=Callee.value (Operand.func 18),args:=#[Operand.tmp 82,Operand.tmp 83],argTypes:=#[35,35]},type:=35,pos:= "law.go:95",after:=#[{on:=14,ground:=Ground.data},{on:=15,ground:=Ground.data},{on:=13,ground:=Ground.chain},{on:=10,ground:=Ground.guard}],guard:=some (10,true)}) (v:=undef) rfl (by kernel_rfl) (by kernel_rfl) (by kernel_rfl) (fun _ _ _ h=>h) (Or.inr ⟨by rfl,rfl⟩) (by assumption) ?_
       simp only[Act.put,List.setIfInBounds_toArray,List.set_cons_zero,List.set_cons_succ]
       refine wpAnyH_take (i:=17) (oi:={dst:=some 85,op:=Op.call {callee:=Callee.value (Operand.func 20),args:=#[Operand.tmp 81,Operand.tmp 84,Operand.const (Value.int IntKind.i64 38)],argTypes:=#[35,35,3]},type:=4,pos:= "law.go:95",after:=#[{on:=13,ground:=Ground.data},{on:=16,ground:=Ground.data},{on:=16,ground:=Ground.chain},{on:=10,ground:=Ground.guard}],guard:=some (10,true)}) (v:=undef) rfl (by kernel_rfl) (by kernel_rfl) (by kernel_rfl) (fun _ _ _ h=>h) (Or.inr ⟨by rfl,rfl⟩) (by assumption) ?_
       simp only[Act.put,List.setIfInBounds_toArray,List.set_cons_zero,List.set_cons_succ]
       refine wpAnyH_take (i:=18) (oi:={dst:=some 86,op:=Op.unOp UnOp.not 4 (Operand.tmp 85),type:=4,pos:= "law.go:95",after:=#[{on:=17,ground:=Ground.data},{on:=10,ground:=Ground.guard}],guard:=some (10,true)}) (v:=undef) rfl (by kernel_rfl) (by kernel_rfl) (by kernel_rfl) (fun _ _ _ h=>h) (Or.inr ⟨by rfl,rfl⟩) (by assumption) ?_
       simp only[Act.put,List.setIfInBounds_toArray,List.set_cons_zero,List.set_cons_succ]
       refine wpAnyH_take (i:=19) (oi:={dst:=some 87,op:=Op.pick (Operand.tmp 78) (Operand.tmp 86) (Operand.const (Value.bool false)),type:=4,pos:= "law.go:95",after:=#[{on:=10,ground:=Ground.data},{on:=18,ground:=Ground.data}],guard:=none}) (v:=(Value.bool false)) rfl (by kernel_rfl) (by kernel_rfl) (by kernel_rfl) (fun _ _ _ h=>h) (Or.inl ⟨by rfl,?_⟩) (by assumption) ?_
       ·(intro w A;(try dsimp only at A);go_simp)
       simp only[Act.put,List.setIfInBounds_toArray,List.set_cons_zero,List.set_cons_succ]
       refine wpAnyH_done (by kernel_rfl) ?_ _
       clear H I J U X L4
       go_wp2_with fail
       go_round
       case rel=>exact⟨q+1,by omega,by omega,by go_num,F⟩
       case measure=>simp[intOf];omega
     ·have d1:decide (o p>0)=false:=decide_eq_false (by omega)
      refine wp_region_held_drew (S:=(fun D=>(D.cell? ⟨ae,0,none⟩=some (.bool n2)∧D.cell? ⟨ae,1,none⟩=some (.slice a2 l2 c2)∧D.cell? ⟨ae,2,none⟩=some (.int .i64 E2))∧(D.cell? ⟨ah,0,none⟩=some (.bool n3)∧D.cell? ⟨ah,1,none⟩=some (.slice a3 l3 c3)∧D.cell? ⟨ah,2,none⟩=some (.int .i64 E3))∧(D.cell? ⟨am,0,none⟩=some (.bool n4)∧D.cell? ⟨am,1,none⟩=some (.slice a4 l4 c4)∧D.cell? ⟨am,2,none⟩=some (.int .i64 E4))∧D.cell? ⟨g7,0,none⟩=some (.bool n0)∧D.cell? ⟨g7,1,none⟩=some (.slice a0 l0 c0)∧D.cell? ⟨g7,2,none⟩=some (.int .i64 E0))) (by kernel_rfl) ?_ (fun O=>?_)
      ·exact⟨⟨(uH H).c0,(uH H).c1,(uH H).c2⟩,⟨(uH I).c0,(uH I).c1,(uH I).c2⟩,⟨(uH J).c0,(uH J).c1,(uH J).c2⟩,(uH F).hl.c0,(uH F).hl.c1,(uH F).hl.c2⟩
      refine wpAnyH_take (i:=0) (oi:={dst:=some 68,op:=Op.load 35 (Operand.tmp 13),type:=35,pos:= "law.go:95",after:=#[],guard:=none}) (v:=(Value.agg #[.bool n3,.slice a3 l3 c3,.int .i64 E3])) rfl (by kernel_rfl) (by kernel_rfl) (by kernel_rfl) (fun _ _ _ h=>h) (Or.inl ⟨by rfl,?_⟩) (by assumption) ?_
      ·(intro w A;(try dsimp only at A);go_simp)
      simp only[Act.put,List.setIfInBounds_toArray,List.set_cons_zero,List.set_cons_succ]
      refine wpAnyH_take (i:=1) (oi:={dst:=some 69,op:=Op.load 35 (Operand.tmp 7),type:=35,pos:= "law.go:95",after:=#[],guard:=none}) (v:=(Value.agg #[.bool n0,.slice a0 l0 c0,.int .i64 E0])) rfl (by kernel_rfl) (by kernel_rfl) (by kernel_rfl) (fun _ _ _ h=>h) (Or.inl ⟨by rfl,?_⟩) (by assumption) ?_
      ·(intro w A;(try dsimp only at A);go_simp)
      simp only[Act.put,List.setIfInBounds_toArray,List.set_cons_zero,List.set_cons_succ]
      refine wpAnyH_ready (rs:=[2]) (by kernel_rfl) (by simp) ?_
      refine AllReadyH.cons (o:={dst:=some 70,op:=Op.call {callee:=Callee.value (Operand.func 33),args:=#[Operand.tmp 68,Operand.tmp 69],argTypes:=#[35,35]},type:=3,pos:= "law.go:95",after:=#[{on:=0,ground:=Ground.data},{on:=1,ground:=Ground.data}],guard:=none}) rfl (fun K hK=>?_) AllReadyH.nil
      go_simp
      refine(uH ax _ _ _ p an (uH X) (uH F).il).mono ?_
      rintro e wi ⟨rfl,z⟩
      replace F:=ac ((uH F).all z)
      replace H:=ac ((uH H).all z)
      replace I:=ac ((uH I).all z)
      replace J:=ac ((uH J).all z)
      replace U:=ac ((uH U).below z)
      replace X:=ac ((uH X).below z)
      replace L4:=ac ((uH L4).below z)
      clear z
      go_wp2_with fail
      refine hK.out _ _ ?_ (fun O=>?_)
      ·exact⟨⟨(uH H).c0,(uH H).c1,(uH H).c2⟩,⟨(uH I).c0,(uH I).c1,(uH I).c2⟩,⟨(uH J).c0,(uH J).c1,(uH J).c2⟩,(uH F).hl.c0,(uH F).hl.c1,(uH F).hl.c2⟩
      clear hK K
      refine wpAnyH_take (i:=3) (oi:={dst:=some 71,op:=Op.binOp BinOp.gtr 3 (Operand.tmp 70) (Operand.const (Value.int IntKind.i64 0)) 3,type:=4,pos:= "law.go:95",after:=#[{on:=2,ground:=Ground.data}],guard:=none}) (v:=(Value.bool false)) rfl (by kernel_rfl) (by kernel_rfl) (by kernel_rfl) (fun _ _ _ h=>h) (Or.inl ⟨by rfl,?_⟩) (by assumption) ?_
      ·(intro w A;(try dsimp only at A);go_simp)
      simp only[Act.put,List.setIfInBounds_toArray,List.set_cons_zero,List.set_cons_succ]
      refine wpAnyH_take (i:=4) (oi:={dst:=some 72,op:=Op.move (Operand.tmp 71),type:=4,pos:= "law.go:95",after:=#[{on:=3,ground:=Ground.data},{on:=2,ground:=Ground.chain}],guard:=none}) (v:=(Value.bool false)) rfl (by kernel_rfl) (by kernel_rfl) (by kernel_rfl) (fun _ _ _ h=>h) (Or.inl ⟨by rfl,?_⟩) (by assumption) ?_
      ·(intro w A;(try dsimp only at A);go_simp)
      simp only[Act.put,List.setIfInBounds_toArray,List.set_cons_zero,List.set_cons_succ]
      refine wpAnyH_take (i:=5) (oi:={dst:=some 73,op:=Op.load 35 (Operand.tmp 14),type:=35,pos:= "law.go:95",after:=#[{on:=4,ground:=Ground.guard}],guard:=some (4,true)}) (v:=undef) rfl (by kernel_rfl) (by kernel_rfl) (by kernel_rfl) (fun _ _ _ h=>h) (Or.inr ⟨by rfl,rfl⟩) (by assumption) ?_
      simp only[Act.put,List.setIfInBounds_toArray,List.set_cons_zero,List.set_cons_succ]
      refine wpAnyH_take (i:=6) (oi:={dst:=some 74,op:=Op.load 35 (Operand.tmp 7),type:=35,pos:= "law.go:95",after:=#[{on:=4,ground:=Ground.guard}],guard:=some (4,true)}) (v:=undef) rfl (by kernel_rfl) (by kernel_rfl) (by kernel_rfl) (fun _ _ _ h=>h) (Or.inr ⟨by rfl,rfl⟩) (by assumption) ?_
      simp only[Act.put,List.setIfInBounds_toArray,List.set_cons_zero,List.set_cons_succ]
      refine wpAnyH_take (i:=7) (oi:={dst:=some 75,op:=Op.call {callee:=Callee.value (Operand.func 33),args:=#[Operand.tmp 73,Operand.tmp 74],argTypes:=#[35,35]},type:=3,pos:= "law.go:95",after:=#[{on:=5,ground:=Ground.data},{on:=6,ground:=Ground.data},{on:=4,ground:=Ground.chain},{on:=4,ground:=Ground.guard}],guard:=some (4,true)}) (v:=undef) rfl (by kernel_rfl) (by kernel_rfl) (by kernel_rfl) (fun _ _ _ h=>h) (Or.inr ⟨by rfl,rfl⟩) (by assumption) ?_
      simp only[Act.put,List.setIfInBounds_toArray,List.set_cons_zero,List.set_cons_succ]
      refine wpAnyH_take (i:=8) (oi:={dst:=some 76,op:=Op.binOp BinOp.gtr 3 (Operand.tmp 75) (Operand.const (Value.int IntKind.i64 0)) 3,type:=4,pos:= "law.go:95",after:=#[{on:=7,ground:=Ground.data},{on:=4,ground:=Ground.guard}],guard:=some (4,true)}) (v:=undef) rfl (by kernel_rfl) (by kernel_rfl) (by kernel_rfl) (fun _ _ _ h=>h) (Or.inr ⟨by rfl,rfl⟩) (by assumption) ?_
      simp only[Act.put,List.setIfInBounds_toArray,List.set_cons_zero,List.set_cons_succ]
      refine wpAnyH_take (i:=9) (oi:={dst:=some 77,op:=Op.pick (Operand.tmp 72) (Operand.tmp 76) (Operand.const (Value.bool false)),type:=4,pos:= "law.go:95",after:=#[{on:=4,ground:=Ground.data},{on:=8,ground:=Ground.data}],guard:=none}) (v:=(Value.bool false)) rfl (by kernel_rfl) (by kernel_rfl) (by kernel_rfl) (fun _ _ _ h=>h) (Or.inl ⟨by rfl,?_⟩) (by assumption) ?_
      ·(intro w A;(try dsimp only at A);go_simp)
      simp only[Act.put,List.setIfInBounds_toArray,List.set_cons_zero,List.set_cons_succ]
      refine wpAnyH_take (i:=10) (oi:={dst:=some 78,op:=Op.move (Operand.tmp 77),type:=4,pos:= "law.go:95",after:=#[{on:=9,ground:=Ground.data},{on:=7,ground:=Ground.chain}],guard:=none}) (v:=(Value.bool false)) rfl (by kernel_rfl) (by kernel_rfl) (by kernel_rfl) (fun _ _ _ h=>h) (Or.inl ⟨by rfl,?_⟩) (by assumption) ?_
      ·(intro w A;(try dsimp only at A);go_simp)
      simp only[Act.put,List.setIfInBounds_toArray,List.set_cons_zero,List.set_cons_succ]
      refine wpAnyH_take (i:=11) (oi:={dst:=some 79,op:=Op.load 35 (Operand.tmp 12),type:=35,pos:= "law.go:95",after:=#[{on:=10,ground:=Ground.guard}],guard:=some (10,true)}) (v:=undef) rfl (by kernel_rfl) (by kernel_rfl) (by kernel_rfl) (fun _ _ _ h=>h) (Or.inr ⟨by rfl,rfl⟩) (by assumption) ?_
      simp only[Act.put,List.setIfInBounds_toArray,List.set_cons_zero,List.set_cons_succ]
      refine wpAnyH_take (i:=12) (oi:={dst:=some 80,op:=Op.load 35 (Operand.tmp 12),type:=35,pos:= "law.go:95",after:=#[{on:=10,ground:=Ground.guard}],guard:=some (10,true)}) (v:=undef) rfl (by kernel_rfl) (by kernel_rfl) (by kernel_rfl) (fun _ _ _ h=>h) (Or.inr ⟨by rfl,rfl⟩) (by assumption) ?_
      simp only[Act.put,List.setIfInBounds_toArray,List.set_cons_zero,List.set_cons_succ]
      refine wpAnyH_take (i:=13) (oi:={dst:=some 81,op:=Op.call {callee:=Callee.value (Operand.func 18),args:=#[Operand.tmp 79,Operand.tmp 80],argTypes:=#[35,35]},type:=35,pos:= "law.go:95",after:=#[{on:=11,ground:=Ground.data},{on:=12,ground:=Ground.data},{on:=10,ground:=Ground.chain},{on:=10,ground:=Ground.guard}],guard:=some (10,true)}) (v:=undef) rfl (by kernel_rfl) (by kernel_rfl) (by kernel_rfl) (fun _ _ _ h=>h) (Or.inr ⟨by rfl,rfl⟩) (by assumption) ?_
      simp only[Act.put,List.setIfInBounds_toArray,List.set_cons_zero,List.set_cons_succ]
      refine wpAnyH_take (i:=14) (oi:={dst:=some 82,op:=Op.load 35 (Operand.tmp 13),type:=35,pos:= "law.go:95",after:=#[{on:=10,ground:=Ground.guard}],guard:=some (10,true)}) (v:=undef) rfl (by kernel_rfl) (by kernel_rfl) (by kernel_rfl) (fun _ _ _ h=>h) (Or.inr ⟨by rfl,rfl⟩) (by assumption) ?_
      simp only[Act.put,List.setIfInBounds_toArray,List.set_cons_zero,List.set_cons_succ]
      refine wpAnyH_take (i:=15) (oi:={dst:=some 83,op:=Op.load 35 (Operand.tmp 14),type:=35,pos:= "law.go:95",after:=#[{on:=10,ground:=Ground.guard}],guard:=some (10,true)}) (v:=undef) rfl (by kernel_rfl) (by kernel_rfl) (by kernel_rfl) (fun _ _ _ h=>h) (Or.inr ⟨by rfl,rfl⟩) (by assumption) ?_
      simp only[Act.put,List.setIfInBounds_toArray,List.set_cons_zero,List.set_cons_succ]
      refine wpAnyH_take (i:=16) (oi:={dst:=some 84,op:=Op.call {callee:=Callee.value (Operand.func 18),args:=#[Operand.tmp 82,Operand.tmp 83],argTypes:=#[35,35]},type:=35,pos:= "law.go:95",after:=#[{on:=14,ground:=Ground.data},{on:=15,ground:=Ground.data},{on:=13,ground:=Ground.chain},{on:=10,ground:=Ground.guard}],guard:=some (10,true)}) (v:=undef) rfl (by kernel_rfl) (by kernel_rfl) (by kernel_rfl) (fun _ _ _ h=>h) (Or.inr ⟨by rfl,rfl⟩) (by assumption) ?_
      simp only[Act.put,List.setIfInBounds_toArray,List.set_cons_zero,List.set_cons_succ]
      refine wpAnyH_take (i:=17) (oi:={dst:=some 85,op:=Op.call {callee:=Callee.value (Operand.func 20),args:=#[Operand.tmp 81,Operand.tmp 84,Operand.const (Value.int IntKind.i64 38)],argTypes:=#[35,35,3]},type:=4,pos:= "law.go:95",after:=#[{on:=13,ground:=Ground.data},{on:=16,ground:=Ground.data},{on:=16,ground:=Ground.chain},{on:=10,ground:=Ground.guard}],guard:=some (10,true)}) (v:=undef) rfl (by kernel_rfl) (by kernel_rfl) (by kernel_rfl) (fun _ _ _ h=>h) (Or.inr ⟨by rfl,rfl⟩) (by assumption) ?_
      simp only[Act.put,List.setIfInBounds_toArray,List.set_cons_zero,List.set_cons_succ]
      refine wpAnyH_take (i:=18) (oi:={dst:=some 86,op:=Op.unOp UnOp.not 4 (Operand.tmp 85),type:=4,pos:= "law.go:95",after:=#[{on:=17,ground:=Ground.data},{on:=10,ground:=Ground.guard}],guard:=some (10,true)}) (v:=undef) rfl (by kernel_rfl) (by kernel_rfl) (by kernel_rfl) (fun _ _ _ h=>h) (Or.inr ⟨by rfl,rfl⟩) (by assumption) ?_
      simp only[Act.put,List.setIfInBounds_toArray,List.set_cons_zero,List.set_cons_succ]
      refine wpAnyH_take (i:=19) (oi:={dst:=some 87,op:=Op.pick (Operand.tmp 78) (Operand.tmp 86) (Operand.const (Value.bool false)),type:=4,pos:= "law.go:95",after:=#[{on:=10,ground:=Ground.data},{on:=18,ground:=Ground.data}],guard:=none}) (v:=(Value.bool false)) rfl (by kernel_rfl) (by kernel_rfl) (by kernel_rfl) (fun _ _ _ h=>h) (Or.inl ⟨by rfl,?_⟩) (by assumption) ?_
      ·(intro w A;(try dsimp only at A);go_simp)
      simp only[Act.put,List.setIfInBounds_toArray,List.set_cons_zero,List.set_cons_succ]
      refine wpAnyH_done (by kernel_rfl) ?_ _
      clear H I J U X L4
      go_wp2_with fail
      go_round
      case rel=>exact⟨q+1,by omega,by omega,by go_num,F⟩
      case measure=>simp[intOf];omega
    ·have bG:q=c:=by omega
     subst bG
     go_wp2_with fail
     go_round
     case rel=>exact⟨p+1,by omega,by go_num,F⟩
     case measure=>simp[intOf];omega
  ·have bR:p=c:=by omega
   subst bR
   go_wp2_with fail
   clear v0 v1 v2
   refine(uH bE _ (uH F).hb).mono ?_
   rintro e w9 ⟨rfl,z⟩
   replace F:=ac ((uH F).all z)
   clear z
   go_wp2_with fail
   go_ret
   exact⟨rfl,(uH F).hb⟩
end Go.Proofs.YtcbcmlaogehimaaGreatDoor
namespace Go.Proofs.YtcbcmlaogehimaaGreatDoor
open Go.RowKit
theorem E7(a b:Nat)(K:a<18446744073709551616)(G:b<18446744073709551616)(H:ai a=true)(d:ai b=true)(I:fK a≠0)(u:fK b≠0)(h:ab (fQ a)≤p2 1000*ab (fQ b)):ai (dV a b)=true:=by
 obtain⟨q1,q2⟩:=ux a b K G H d I u
 have z:=gb b G d u
 have L:=aA (eX b)
 have D:xE (qS a b) (fX a-fX b-181)<p2 1023:=by
  have O:16*p2 1000≤p2 1023∧0<p2 1000:=by
   have Q:=aK (show(1000+1+1+1+1:Int)≤1023 by decide)
   simp only[cW]at Q
   exact⟨by grind,aA _⟩
  generalize xE (qS a b) (fX a-fX b-181)=X at*
  rcases Rat.le_total (a:=X) (b:=2*p2 1000)with g|g
  ·grind
  ·exfalso
   have J:0<ab (fQ b):=by grind
   have U:=Rat.mul_le_mul_of_nonneg_left g (Rat.le_of_lt J)
   have hp:=Rat.mul_pos O.2 J
   have Y:ab (fQ b)*X=X*ab (fQ b):=Rat.mul_comm _ _
   have F:ab (fQ b)*(2*p2 1000)=2*(p2 1000*ab (fQ b)):=by grind
   rw[Y,F]at U
   generalize X*ab (fQ b)=XB at*
   generalize p2 1000*ab (fQ b)=PB at*
   generalize ab (fQ a)=A at*
   clear z q2
   grind
 have:=jb _ _ D
 have Z:qV a b≤9218868437227405312:=dR _ _
 exact(ch _).2.2.2 (by rw[(rK a b H d I u).1,ja _ _ (by omega)];exact this)
theorem pO(a b:Nat)(A:a<18446744073709551616)(D:b<18446744073709551616)(F:ai a=true)(u:ai b=true)(G:fK b≠0)(h:ab (fQ a)≤p2 1000*ab (fQ b)):
  ai (dV a b)=true∧9007199254740992*ab (fQ (dV a b)*fQ b-fQ a)≤2*ab (fQ a)+9007199254740992*(p2 (-1075)*ab (fQ b)):=by
 have K:=Rat.mul_nonneg (Rat.le_of_lt (aA (-1075))) (cE (fQ b))
 have L:=cE (fQ a)
 by_cases d:fK a=0
 ·have q:=bu a d
  obtain⟨Q,J⟩:=bU u
  have e:dV a b=gJ (fS a^^fS b) 0:=by
   unfold dV
   rw[if_neg (by rintro(k|k);omega;exact J k),if_neg (by rintro⟨k,_⟩;omega),if_neg (by omega),if_pos (.inr d)]
  have H:ai (dV a b)=true∧fQ (dV a b)=0:=by
   rw[e]
   cases fS a^^fS b
   ·rw[bQ];exact⟨by decide,MZ⟩
   ·rw[fg];exact⟨by decide,bu _ (by decide)⟩
  refine⟨H.1,?_⟩
  rw[H.2,q,show(0:Rat)*fQ b-0=0 by grind,show ab (0:Rat)=0 by unfold ab;grind]
  grind
 ·have I:=E7 a b A D F u d G h
  refine⟨I,?_⟩
  have O:=cE (fQ (dV a b)*fQ b-fQ a)
  rcases GC a b A D F u d G I with e|e
  ·grind
  ·have:=e.2
   generalize p2 (-1075)*ab (fQ b)=z at*
   grind
end Go.Proofs.YtcbcmlaogehimaaGreatDoor
namespace Go.Proofs.YtcbcmlaogehimaaGreatDoor
theorem cq(x:Rat):ab x*ab x=x*x:=by rw[←bC];exact aU (av _)
theorem Bf(t m a r c s:Rat)(Q:9007199254740992*ab (m-t*t)≤t*t+1/1000)(G:9007199254740992*ab (a-(1+m))≤ab (1+m))
  (U:9007199254740992*(r*r)≤9007199254740992*a+3*a) (h2:9007199254740992*a≤9007199254740992*(r*r)+3*a) (hc:9007199254740992*ab (c*r-1)≤2+1/100)
  (H:9007199254740992*ab (s-c*t)≤ab (c*t)+1/1000):562949953421312*ab (c*c+s*s-1)≤1:=by
 have t0:=av t
 have I:=av c
 --the sum under the root
 have J:9007199254740992*(a-(1+t*t))≤201/100*(1+t*t)∧9007199254740992*((1+t*t)-a)≤201/100*(1+t*t):=by
  have l1:=bh (m-t*t);have K:=bh (a-(1+m))
  have L:ab (1+m)=1+m:=aU (by grind)
  rw[L]at G
  generalize t*t=q at*
  constructor<;>grind
 have u:9007199254740992*(r*r-(1+t*t))≤502/100*(1+t*t)∧9007199254740992*((1+t*t)-r*r)≤502/100*(1+t*t):=by
  obtain⟨e1,e2⟩:=J
  generalize t*t=q at*
  generalize r*r=p at*
  constructor<;>grind
 --c times r
 have D:9007199254740992*((c*r)*(c*r)-1)≤403/100∧9007199254740992*(1-(c*r)*(c*r))≤403/100:=by
  have l1:=bh (c*r-1)
  have a0:=cE (c*r-1)
  have K:ab (c*r-1)≤1/1000000:=by grind
  have L:=Rat.mul_le_mul_of_nonneg_left K a0
  have l4:(c*r-1)*(c*r-1)=ab (c*r-1)*ab (c*r-1):=(cq _).symm
  have l5:=av (c*r-1)
  have l6:(c*r)*(c*r)-1=2*(c*r-1)+(c*r-1)*(c*r-1):=by grind
  rw[l4]at l6 l5
  generalize (c*r)*(c*r)=z at*
  generalize c*r=d at*
  generalize ab (d-1)*ab (d-1)=y at*
  generalize ab (d-1)=x at*
  constructor<;>grind
 have X:c*c*(r*r)=(c*r)*(c*r):=by grind
 have Y:=Rat.mul_le_mul_of_nonneg_left u.1 I
 have Z:=Rat.mul_le_mul_of_nonneg_left u.2 I
 have P:c*c*(1+t*t)=c*c+(c*t)*(c*t):=by grind
 have p0:=av (c*t)
 have Y2:9007199254740992*((c*r)*(c*r)-(c*c+(c*t)*(c*t)))≤502/100*(c*c+(c*t)*(c*t)):=by rw[←P,←X];grind
 have Z2:9007199254740992*((c*c+(c*t)*(c*t))-(c*r)*(c*r))≤502/100*(c*c+(c*t)*(c*t)):=by rw[←P,←X];grind
 clear Y Z X P J u U h2 G Q hc
 have XX:c*c+(c*t)*(c*t)≤1001/1000:=by
  obtain⟨d1,d2⟩:=D
  generalize (c*r)*(c*r)=z at*
  generalize (c*t)*(c*t)=y at*
  generalize c*c=x at*
  grind
 --s
 have S:9007199254740992*(s*s-(c*t)*(c*t))≤22/10∧9007199254740992*((c*t)*(c*t)-s*s)≤22/10:=by
  have A:=cE (s-c*t)
  have O:=cE (c*t)
  have F:ab (c*t)*ab (c*t)=(c*t)*(c*t):=cq _
  have g1:ab (c*t)≤11/10:=by
   rcases Rat.le_total (a:=ab (c*t)) (b:=11/10)with h|h
   ·exact h
   ·have:=Rat.mul_le_mul_of_nonneg_left h O
    rw[F]at this
    grind
  have hq:=Rat.mul_le_mul_of_nonneg_left H O
  have aa:=Rat.mul_le_mul_of_nonneg_left (show ab (s-c*t)≤1/1000000 by grind) A
  have e:s*s-(c*t)*(c*t)=2*((c*t)*(s-c*t))+(s-c*t)*(s-c*t):=by grind
  have k1:=bh ((c*t)*(s-c*t))
  rw[bC]at k1
  have k2:(s-c*t)*(s-c*t)=ab (s-c*t)*ab (s-c*t):=(cq _).symm
  have k3:9007199254740992*(ab (c*t)*ab (s-c*t))≤(c*t)*(c*t)+1/1000*ab (c*t):=by rw[←F];grind
  rw[k2]at e
  have k9:=Rat.mul_nonneg A A
  have c1:=av c
  generalize ab (c*t)*ab (s-c*t)=w1 at*
  generalize ab (s-c*t)*ab (s-c*t)=w2 at*
  generalize (c*t)*(s-c*t)=w3 at*
  generalize ab (s-c*t)=w4 at*
  generalize (c*t)*(c*t)=w5 at*
  generalize ab (c*t)=w6 at*
  generalize s*s=w7 at*
  generalize c*c=w8 at*
  clear F hq k2
  constructor<;>grind
 clear H
 obtain⟨d1,d2⟩:=D
 obtain⟨s1,s2⟩:=S
 generalize (c*r)*(c*r)=z at*
 generalize (c*t)*(c*t)=y at*
 generalize s*s=v at*
 generalize c*c=x at*
 have:=nr (x:=x+v-1) (y:=1/562949953421312) (by grind) (by grind)
 grind
theorem pP(a:Nat)(h:0<fQ a):fS a=false∧fK a≠0:=by
 refine⟨?_,fun d=>?_⟩
 ·cases e:fS a with
  |false=>rfl
  |true=>
   rw[dq,if_pos e]at h
   have:=pi (fR a)
   grind
 ·rw[bu a d]at h
  grind
theorem dI:9007199254740992*p2 (-1075)≤1/1000∧0<p2 (-1075)∧1000000000000*p2 (-1075)≤1/9007199254740992:=by
 obtain⟨h,d,u⟩:=iH
 generalize p2 (-1075)=z at*
 refine⟨by grind,d,by grind⟩
theorem kP(t:Nat)(H:ai t=true)(ht:fQ t*fQ t≤4):
  ai (sv t)=true∧ai (qu t)=true∧562949953421312*ab (fQ (sv t)*fQ (sv t)+fQ (qu t)*fQ (qu t)-1)≤1:=by
 obtain⟨n1,n2,n3⟩:=dI
 have B:=mM
 have t0:=av (fQ t)
 have d:ai 4607182418800017408=true:=j0
 have F:=gW
 obtain⟨m,hm⟩:∃m,m=mV t t:=⟨_,rfl⟩
 obtain⟨a,G⟩:∃a,a=aV 4607182418800017408 m:=⟨_,rfl⟩
 obtain⟨r,hr⟩:∃r,r=sV a:=⟨_,rfl⟩
 obtain⟨c,L⟩:∃c,c=dV 4607182418800017408 r:=⟨_,rfl⟩
 have U:sv t=c:=by unfold sv;rw[←hm,←G,←hr,←L]
 have es:qu t=mV c t:=by unfold qu;rw[U]
 rw[es,U]
 have X:ab (fQ t*fQ t)=fQ t*fQ t:=aU t0
 obtain⟨O,e1⟩:=iI t t H H (by rw[X];grind)
 rw[←hm]at O e1
 rw[X]at e1
 have k1:=bh (fQ m-fQ t*fQ t)
 have m1:0≤1+fQ m:=by generalize fQ t*fQ t=q at*;grind
 have m2:1+fQ m≤6:=by generalize fQ t*fQ t=q at*;grind
 have Y:ab (1+fQ m)=1+fQ m:=aU m1
 have Z:ai a=true:=by rw[G];exact ic _ _ d O (by rw[F,Y];grind)
 have I:=ia _ _ d O (by rw[←G];exact Z)
 rw[←G,F]at I
 have k2:=bh (fQ a-(1+fQ m))
 have a1:99/100≤fQ a∧fQ a≤7:=by
  rw[Y]at I
  generalize fQ t*fQ t=q at*
  constructor<;>grind
 obtain⟨a2,a3⟩:=pP a (by grind)
 obtain⟨f3,s3,l3,p3,D,e3,e4⟩:=gS a Z a3 a2
 rw[←hr]at f3 s3 l3 p3 D e3 e4
 have r1:9/10≤fQ r:=by
  rcases Rat.le_total (a:=fQ r) (b:=9/10)with h|h
  ·have:=Rat.mul_le_mul_of_nonneg_left h D
   generalize fQ r*fQ r=z at*
   grind
  ·exact h
 have r2:fQ r≤3:=by
  rcases Rat.le_total (a:=3) (b:=fQ r)with h|h
  ·have:=Rat.mul_le_mul_of_nonneg_left h D
   generalize fQ r*fQ r=z at*
   grind
  ·exact h
 have J:ab (fQ r)=fQ r:=aU D
 have A:ab (1:Rat)=1:=aU (by grind)
 have kr:fK r≠0:=fun h=>by have:=(cs r).1 h;omega
 have P1:=aK (show(1:Int)≤1000 by decide)
 have P2:p2 1=2:=by rw[show(1:Int)=((1:Nat):Int) by rfl,br];rfl
 have P3:=Rat.mul_le_mul_of_nonneg_right (show 2≤p2 1000 by grind) D
 obtain⟨Q,e5⟩:=pO 4607182418800017408 r (by decide) l3 d f3 kr (by rw[F,J,A];grind)
 rw[←L,F,J,A]at e5
 rw[←L]at Q
 have P4:=Rat.mul_le_mul_of_nonneg_left r2 (show 0≤p2 (-1075) by grind)
 have K:9007199254740992*ab (fQ c*fQ r-1)≤2+1/100:=by
  generalize p2 (-1075)*fQ r=z at*
  grind
 have c1:ab (fQ c)≤2:=by
  have k:=bh (fQ c*fQ r-1)
  have c0:=cE (fQ c)
  have e:ab (fQ c)*fQ r=ab (fQ c*fQ r):=by rw[bC,J]
  have e':=nr (x:=fQ c*fQ r) (y:=101/100) (by grind) (by grind)
  have:=Rat.mul_le_mul_of_nonneg_left r1 c0
  rw[e]at this
  grind
 have t1:ab (fQ t)≤2:=by
  rcases Rat.le_total (a:=ab (fQ t)) (b:=2)with h|h
  ·exact h
  ·have u:=Rat.mul_le_mul_of_nonneg_left h (cE (fQ t))
   rw[cq]at u
   rcases Rat.le_total (a:=ab (fQ t)) (b:=2)with h'|h'
   ·exact h'
   ·grind
 have ct:ab (fQ c*fQ t)≤4:=by
  rw[bC]
  have u:=Rat.mul_le_mul_of_nonneg_left t1 (cE (fQ c))
  grind
 obtain⟨f5,e6⟩:=iI c t Q H (by grind)
 exact⟨Q,f5,Bf (fQ t) (fQ m) (fQ a) (fQ r) (fQ c) (fQ (mV c t)) (by grind) I e3 e4 K (by grind)⟩
theorem mc(c x:Nat)(fc:ai c=true)(d:ai x=true)(h:ab (fQ c)≤101/100)(F:ab (fQ x)≤64):
  ai (mV c x)=true∧9007199254740992*ab (fQ (mV c x)-fQ c*fQ x)≤101/100*ab (fQ x)+9007199254740992*p2 (-1075)∧ab (fQ (mV c x))≤102/100*ab (fQ x)+2*p2 (-1075):=by
 obtain⟨G,H,I⟩:=dI
 have B:=mM
 have u:=cE (fQ x)
 have t:=Rat.mul_le_mul_of_nonneg_left h u
 have e:ab (fQ c*fQ x)=ab (fQ x)*ab (fQ c):=by rw[bC,Rat.mul_comm]
 obtain⟨A,D⟩:=iI c x fc d (by rw[e];grind)
 rw[e]at D
 have k:=cF (fQ (mV c x)-fQ c*fQ x) (fQ c*fQ x)
 rw[show fQ (mV c x)-fQ c*fQ x+fQ c*fQ x=fQ (mV c x) by grind,e]at k
 generalize ab (fQ x)*ab (fQ c)=z at*
 generalize ab (fQ (mV c x)-fQ c*fQ x)=y at*
 exact⟨A,by grind,by grind⟩
theorem ze(p q:Nat)(P Q X Y:Rat)(d:ai p=true)(h:ai q=true)(D:0≤X∧X≤64)(F:0≤Y∧Y≤64)
  (G:9007199254740992*ab (fQ p-P)≤101/100*X+9007199254740992*p2 (-1075)) (H:9007199254740992*ab (fQ q-Q)≤101/100*Y+9007199254740992*p2 (-1075))
  (u:ab (fQ p)≤102/100*X+2*p2 (-1075)) (z:ab (fQ q)≤102/100*Y+2*p2 (-1075)):
  ai (aV p q)=true∧9007199254740992*ab (fQ (aV p q)-(P+Q))≤203/100*(X+Y)+9007199254740992*(3*p2 (-1075)):=by
 obtain⟨I,J,K⟩:=dI
 have B:=mM
 have k:=cF (fQ p) (fQ q)
 have f:=ic p q d h (by grind)
 have e:=ia p q d h f
 have A:=cF (fQ (aV p q)-(fQ p+fQ q)) ((fQ p-P)+(fQ q-Q))
 have k2:=cF (fQ p-P) (fQ q-Q)
 rw[show fQ (aV p q)-(fQ p+fQ q)+((fQ p-P)+(fQ q-Q))=fQ (aV p q)-(P+Q) by grind]at A
 refine⟨f,?_⟩
 generalize ab (fQ (aV p q)-(P+Q))=z1 at*
 generalize ab (fQ (aV p q)-(fQ p+fQ q))=z2 at*
 generalize ab (fQ p-P+(fQ q-Q))=L at*
 generalize ab (fQ p-P)=O at*
 generalize ab (fQ q-Q)=U at*
 generalize ab (fQ p+fQ q)=Z at*
 grind
theorem me(c s x y:Nat)(fc:ai c=true)(u:ai s=true)(z:ai x=true)(A:ai y=true)(D:ab (fQ c)≤101/100)(F:ab (fQ s)≤101/100)(d:ab (fQ x)≤64)(h:ab (fQ y)≤64):
  ai (aV (mV c x) (mV s y))=true∧ai (aV (mV c y) (fN (mV s x)))=true∧
  9007199254740992*ab (fQ (aV (mV c x) (mV s y))-(fQ c*fQ x+fQ s*fQ y))≤203/100*(ab (fQ x)+ab (fQ y))+9007199254740992*(3*p2 (-1075))∧
  9007199254740992*ab (fQ (aV (mV c y) (fN (mV s x)))-(fQ c*fQ y-fQ s*fQ x))≤203/100*(ab (fQ x)+ab (fQ y))+9007199254740992*(3*p2 (-1075)):=by
 have G:=cE (fQ x);have H:=cE (fQ y)
 obtain⟨K,L,O⟩:=mc c x fc z D d
 obtain⟨Q,U,X⟩:=mc s y u A F h
 obtain⟨Y,Z,d3⟩:=mc c y fc A D h
 obtain⟨e1,e2,e3⟩:=mc s x u z F d
 have J:ai (fN (mV s x))=true:=by rw[jW _ (df _ _)];exact e1
 have I:fQ (fN (mV s x))= -fQ (mV s x):=oj _ (df _ _)
 obtain⟨r1,r2⟩:=ze _ _ _ _ _ _ K Q ⟨G,d⟩ ⟨H,h⟩ L U O X
 obtain⟨s1,s2⟩:=ze (mV c y) (fN (mV s x)) (fQ c*fQ y) (-(fQ s*fQ x)) (ab (fQ y)) (ab (fQ x)) Y J ⟨H,h⟩ ⟨G,d⟩ Z (by rw[I,show-fQ (mV s x)- -(fQ s*fQ x)= -(fQ (mV s x)-fQ s*fQ x) by grind,kF];exact e2) d3 (by rw[I,kF];exact e3)
 refine⟨r1,s1,r2,?_⟩
 rw[show fQ c*fQ y-fQ s*fQ x=fQ c*fQ y+-(fQ s*fQ x) by grind]
 grind
theorem mf{c s:Rat}(h:562949953421312*ab (c*c+s*s-1)≤1):ab c≤101/100∧ab s≤101/100:=by
 have k:=bh (c*c+s*s-1)
 have d:∀x y:Rat,562949953421312*(x*x+y*y-1)≤1→ab x≤101/100:=by
  intro x y h
  have z:=av y
  rcases Rat.le_total (a:=ab x) (b:=101/100)with g|g
  ·exact g
  ·have u:=Rat.mul_le_mul_of_nonneg_left g (cE x)
   rw[cq]at u
   generalize x*x=a at*
   generalize y*y=b at*
   grind
 exact⟨d c s (by grind),d s c (by grind)⟩
theorem Bg(c s x y X Y η:Rat)(D:562949953421312*ab (c*c+s*s-1)≤1)(h:0≤η)(I:1000000000000*η≤1/9007199254740992)(hx:ab x≤64)(hy:ab y≤64)
  (z:9007199254740992*ab (X-(c*x+s*y))≤203/100*(ab x+ab y)+9007199254740992*(3*η))
  (A:9007199254740992*ab (Y-(c*y-s*x))≤203/100*(ab x+ab y)+9007199254740992*(3*η)):
  9007199254740992*(X*X+Y*Y-(x*x+y*y))≤40*(x*x+y*y)+9007199254740992*(4000*η):=by
 obtain⟨c1,s1⟩:=mf D
 obtain⟨E,hE⟩:∃E,E=X-(c*x+s*y):=⟨_,rfl⟩
 obtain⟨F,hF⟩:∃F,F=Y-(c*y-s*x):=⟨_,rfl⟩
 rw[←hE]at z;rw[←hF]at A
 obtain⟨m,hm⟩:∃m,m=ab x+ab y:=⟨_,rfl⟩
 rw[←hm]at z A
 have J:=cE x;have K:=cE y
 have m0:0≤m:=by grind
 have m1:m≤128:=by grind
 have mm:m*m≤2*(x*x+y*y):=by
  have u:=av (ab x-ab y)
  have p1:=cq x;have p2:=cq y
  rw[hm]
  grind
 --the turned pair
 have L:ab (c*x+s*y)≤101/100*m:=by
  have H:=cF (c*x) (s*y)
  rw[bC,bC]at H
  have u1:=Rat.mul_le_mul_of_nonneg_left c1 J
  have u2:=Rat.mul_le_mul_of_nonneg_left s1 K
  grind
 have O:ab (c*y-s*x)≤101/100*m:=by
  have H:=cF (c*y) (-(s*x))
  rw[kF,bC,bC,show c*y+-(s*x)=c*y-s*x by grind]at H
  have u1:=Rat.mul_le_mul_of_nonneg_left c1 K
  have u2:=Rat.mul_le_mul_of_nonneg_left s1 J
  grind
 have d:∀U G:Rat,ab U≤101/100*m→9007199254740992*ab G≤203/100*m+9007199254740992*(3*η)→9007199254740992*(2*(U*G)+G*G)≤411/100*(m*m)+9007199254740992*(1000*η):=by
  intro U G hU hG
  have Q:=cE G
  have k:=bh (U*G)
  rw[bC]at k
  have q1:=Rat.mul_le_mul_of_nonneg_right hU Q
  have q2:=Rat.mul_le_mul_of_nonneg_left hG m0
  have q3:=Rat.mul_le_mul_of_nonneg_right m1 h
  have Z:ab G≤1/1000*m+4*η:=by grind
  have q4:=Rat.mul_le_mul_of_nonneg_left Z Q
  rw[cq]at q4
  have q5:=Rat.mul_le_mul_of_nonneg_right (show ab G≤1 by grind) h
  have e1:m*(203/100*m+9007199254740992*(3*η))=203/100*(m*m)+9007199254740992*(3*(m*η)):=by grind
  have e2:m*(9007199254740992*ab G)=9007199254740992*(m*ab G):=by grind
  have e3:ab G*(1/1000*m+4*η)=1/1000*(m*ab G)+4*(ab G*η):=by grind
  have e4:101/100*m*ab G=101/100*(m*ab G):=by grind
  rw[e1,e2]at q2;rw[e3]at q4;rw[e4]at q1
  generalize ab U*ab G=v1 at*
  generalize U*G=v2 at*
  generalize G*G=v3 at*
  generalize m*ab G=v4 at*
  generalize m*m=v5 at*
  generalize m*η=v6 at*
  generalize ab G*η=v7 at*
  clear e1 e2 e3 e4 Z hG hU mm
  grind
 have o1:=d _ E L z
 have o2:=d _ F O A
 have k:=bh (c*c+s*s-1)
 have z0:0≤x*x+y*y:=by have:=av x;have:=av y;grind
 have q:=Rat.mul_le_mul_of_nonneg_right (show 562949953421312*(c*c+s*s-1)≤1 by grind) z0
 have e:X*X+Y*Y-(x*x+y*y)=(c*c+s*s-1)*(x*x+y*y)+(2*((c*x+s*y)*E)+E*E)+(2*((c*y-s*x)*F)+F*F):=by
  have:X=E+(c*x+s*y):=by grind
  have:Y=F+(c*y-s*x):=by grind
  subst X Y
  grind
 rw[e]
 have e5:562949953421312*(c*c+s*s-1)*(x*x+y*y)=562949953421312*((c*c+s*s-1)*(x*x+y*y)):=by grind
 rw[e5]at q
 generalize (c*c+s*s-1)*(x*x+y*y)=v1 at*
 generalize 2*((c*x+s*y)*E)+E*E=v2 at*
 generalize 2*((c*y-s*x)*F)+F*F=v3 at*
 generalize x*x+y*y=v4 at*
 generalize m*m=v5 at*
 clear d e e5 z A L O hE hF
 grind
def d6(f:Nat→Rat):Nat→Rat
 |0=>0
 |n+1=>d6 f n+f n
theorem pQ{f g:Nat→Rat}:∀n,(∀j,j<n→f j=g j)→d6 f n=d6 g n
 |0,_=>rfl
 |n+1,h=>by
  show d6 f n+f n=d6 g n+g n
  rw[pQ n (fun j d=>h j (by omega)),h n (by omega)]
theorem gE{f g:Nat→Rat}{p q:Nat}(z:p≠q):∀n,(∀j,j<n→j≠p→j≠q→f j=g j)→
  d6 f n=d6 g n+(if p<n then f p-g p else 0)+(if q<n then f q-g q else 0)
 |0,_=>by
  show(0:Rat)=0+(if p<0 then f p-g p else 0)+(if q<0 then f q-g q else 0)
  rw[if_neg (by omega),if_neg (by omega)]
  grind
 |n+1,h=>by
  have F:=gE (f:=f) (g:=g) z n (fun j H=>h j (by omega))
  show d6 f n+f n=d6 g n+g n+(if p<n+1 then f p-g p else 0)+(if q<n+1 then f q-g q else 0)
  rw[F]
  by_cases A:n=p
  ·subst A
   rw[if_neg (by omega),if_pos (show n<n+1 by omega)]
   by_cases d:q<n
   ·rw[if_pos d,if_pos (show q<n+1 by omega)];grind
   ·rw[if_neg d,if_neg (show¬q<n+1 by omega)];grind
  ·by_cases d:n=q
   ·subst d
    rw[if_neg (show¬n<n by omega),if_pos (show n<n+1 by omega)]
    by_cases D:p<n
    ·rw[if_pos D,if_pos (show p<n+1 by omega)];grind
    ·rw[if_neg D,if_neg (show¬p<n+1 by omega)];grind
   ·have G:(if p<n+1 then f p-g p else 0)=(if p<n then f p-g p else 0):=by
     by_cases u:p<n
     ·rw[if_pos u,if_pos (by omega)]
     ·rw[if_neg u,if_neg (by omega)]
    have k2:(if q<n+1 then f q-g q else 0)=(if q<n then f q-g q else 0):=by
     by_cases u:q<n
     ·rw[if_pos u,if_pos (by omega)]
     ·rw[if_neg u,if_neg (by omega)]
    rw[G,k2,h n (by omega) A d]
    grind
theorem xT{f:Nat→Rat}:∀n,(∀j,j<n→0≤f j)→0≤d6 f n
 |0,_=>Rat.le_refl
 |n+1,h=>by
  have u:=xT n (fun j d=>h j (by omega))
  have:=h n (by omega)
  show 0≤d6 f n+f n
  grind
theorem zf{f:Nat→Rat}{j:Nat}:∀n,(∀j,j<n→0≤f j)→j<n→f j≤d6 f n
 |0,_,d=>absurd d (Nat.not_lt_zero _)
 |n+1,h,d=>by
  show f j≤d6 f n+f n
  have u:=xT n (fun j d=>h j (by omega))
  have z:=h n (by omega)
  by_cases e:j=n
  ·subst e;grind
  ·have:=zf (j:=j) n (fun j d=>h j (by omega)) (by omega)
   grind
theorem zg{f g:Nat→Rat}:∀n,(∀j,j<n→f j≤g j)→d6 f n≤d6 g n
 |0,_=>Rat.le_refl
 |n+1,h=>by
  have u:=zg n (fun j d=>h j (by omega))
  have:=h n (by omega)
  show d6 f n+f n≤d6 g n+g n
  grind
theorem bY(r c:Nat)(S:List Nat)(p q C s:Nat)(z:p<c)(A:q<c){i j:Nat}(d:i<r)(h:j<c):aP c (gD r c S p q C s) i j=
  if j=p then aV (mV C (aP c S i p)) (mV s (aP c S i q))else if j=q then aV (mV C (aP c S i q)) (fN (mV s (aP c S i p)))else aP c S i j:=by
 unfold gD
 have e:∀M:List Nat,aP c (Fy c r M) i j=aP r M j i:=fun M=>lP r c _ d h
 rw[e,Je c r _ p q C s h d]
 have u:∀k,k<c→aP r (Fy r c S) k i=aP c S i k:=fun k D=>lP c r _ D d
 rw[u p z,u q A,u j h]
structure bO (r c:Nat) (S:List Nat) (B:Rat):Prop where
 fin:∀i j,i<r→j<c→ai (aP c S i j)=true
 lt:∀i j,i<r→j<c→aP c S i j<18446744073709551616
 sq:∀i,i<r→d6 (fun j=>fQ (aP c S i j)*fQ (aP c S i j)) c≤B
theorem bO.small{r c:Nat}{S:List Nat}{B:Rat}(h:bO r c S B)(d:B≤100){i j:Nat}(z:i<r)(A:j<c):ab (fQ (aP c S i j))≤10:=by
 have k:=zf (f:=fun j=>fQ (aP c S i j)*fQ (aP c S i j)) (j:=j) c (fun _ _=>av _) A
 have k2:=h.sq i z
 have D:fQ (aP c S i j)*fQ (aP c S i j)≤100:=Rat.le_trans k (Rat.le_trans k2 d)
 rcases Rat.le_total (a:=ab (fQ (aP c S i j))) (b:=10)with g|g
 ·exact g
 ·have u:=Rat.mul_le_mul_of_nonneg_left g (cE (fQ (aP c S i j)))
  rw[cq]at u
  grind
theorem bO.turn{r c:Nat}{S:List Nat}{B:Rat}(h:bO r c S B)(F:B≤100){p q C s:Nat}(u:p<c)(z:q<c)(G:p≠q)(fc:ai C=true)(O:ai s=true)
  (A:562949953421312*ab (fQ C*fQ C+fQ s*fQ s-1)≤1):bO r c (gD r c S p q C s) (B+1/1099511627776):=by
 obtain⟨I,J⟩:=mf A
 obtain⟨n1,n2,n3⟩:=dI
 have H:=fun i (d:i<r)=>me C s (aP c S i p) (aP c S i q) fc O (h.fin i p d u) (h.fin i q d z) I J (by have:=h.small F d u;grind) (by have:=h.small F d z;grind)
 refine⟨fun i j d D=>?_,fun i j d D=>?_,fun i d=>?_⟩
 ·rw[bY r c S p q C s u z d D]
  obtain⟨a1,a2,_⟩:=H i d
  split
  ·exact a1
  ·split
   ·exact a2
   ·exact h.fin i j d D
 ·rw[bY r c S p q C s u z d D]
  split
  ·exact h9 _ _ (df _ _) (df _ _)
  ·split
   ·exact h9 _ _ (df _ _) (oD _ (df _ _))
   ·exact h.lt i j d D
 ·obtain⟨_,_,K,L⟩:=H i d
  have g:=Bg _ _ _ _ _ _ (p2 (-1075)) A (Rat.le_of_lt n2) n3 (by have:=h.small F d u;grind) (by have:=h.small F d z;grind) K L
  have e:=gE (f:=fun j=>fQ (aP c (gD r c S p q C s) i j)*fQ (aP c (gD r c S p q C s) i j)) (g:=fun j=>fQ (aP c S i j)*fQ (aP c S i j)) G c (fun j D Q U=>by
   show fQ (aP c (gD r c S p q C s) i j)*fQ (aP c (gD r c S p q C s) i j)=_
   rw[bY r c S p q C s u z d D,if_neg Q,if_neg U])
  rw[e,if_pos u,if_pos z]
  show _+(fQ (aP c (gD r c S p q C s) i p)*fQ (aP c (gD r c S p q C s) i p)-fQ (aP c S i p)*fQ (aP c S i p))+(fQ (aP c (gD r c S p q C s) i q)*fQ (aP c (gD r c S p q C s) i q)-fQ (aP c S i q)*fQ (aP c S i q))≤_
  rw[bY r c S p q C s u z d u,bY r c S p q C s u z d z,if_pos rfl,if_neg (fun h=>G h.symm),if_pos rfl]
  have b1:=h.sq i d
  have X:=h.small F d u;have Y:=h.small F d z
  have Z:=Rat.mul_le_mul_of_nonneg_left X (cE (fQ (aP c S i p)))
  have y2:=Rat.mul_le_mul_of_nonneg_left Y (cE (fQ (aP c S i q)))
  rw[cq]at Z y2
  generalize d6 (fun j=>fQ (aP c S i j)*fQ (aP c S i j)) c=v0 at*
  generalize fQ (aV (mV C (aP c S i p)) (mV s (aP c S i q)))*fQ (aV (mV C (aP c S i p)) (mV s (aP c S i q)))=v1 at*
  generalize fQ (aV (mV C (aP c S i q)) (fN (mV s (aP c S i p))))*fQ (aV (mV C (aP c S i q)) (fN (mV s (aP c S i p))))=v2 at*
  generalize fQ (aP c S i p)*fQ (aP c S i p)=v3 at*
  generalize fQ (aP c S i q)*fQ (aP c S i q)=v4 at*
  generalize ab (fQ (aP c S i p))=v5 at*
  generalize ab (fQ (aP c S i q))=v6 at*
  clear e K L H A I J
  grind
end Go.Proofs.YtcbcmlaogehimaaGreatDoor
