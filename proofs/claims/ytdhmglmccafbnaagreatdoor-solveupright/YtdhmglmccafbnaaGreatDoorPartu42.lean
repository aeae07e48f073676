/- SolveUpright is true for any two matrices: what Least tells of numbers that are neither very great nor very small nearly stands upright. -/
import Derived.Test.YtdhmglmccafbnaaGreatDoorPartu41
import Derived.Deep.Strs
import Derived.Test.YtdhmglmccafbnaaGreatDoorCards
import Derived.Test.YtdhmglmccafbnaaGreatDoorTie
set_option maxRecDepth 20000
namespace Go.Proofs.YtdhmglmccafbnaaGreatDoor
open Go.ChangeShapes Go.WideShapes Go.ChangeAt Go.RowKit Go.Joins Go.Deep
theorem Tryz.cellsMx:Tryz.prog.cellsOf 25 = 3:=by kernel_rfl
theorem open_matrix {H:Type} {enc:TypeId × Value→H} {W:World} {base:Nat} {v:Value} {d:DataW H} {p:List MemPlace} (hval:Value.okWide Tryz.prog W .any base 25 v) (h:DataW.Trod enc Tryz.prog W 0 (fun _=>true) true 25 v d p)
  (hs:∀ n ∈ d.weights Tryz.prog 25,n≤reachBytes) :
  ∃ (r c:Int) (ao:Option Addr) (cap:Nat) (I:List Int),v = .agg #[.int .i64 r,.int .i64 c,.slice ao I.length cap]∧BitsAt W ao cap I∧I.length≤17592186043904∧(-9223372036854775808≤r∧r≤9223372036854775807)∧(-9223372036854775808≤c∧c≤9223372036854775807):=by
 obtain ⟨c0,c1,c2,y0,y1,y2,m,rfl,rfl,rfl,hy0,hy1,hy2⟩:=open_agg3 Tryz.underlying25 (by kernel_rfl) Tryz.cellsMx hval h
 obtain ⟨r,e0,_,w0⟩:=DataW.trod_int Tryz.underlying3 hy0
 simp at e0
 subst e0
 obtain ⟨c,e1,_,w1⟩:=DataW.trod_int Tryz.underlying3 hy1
 simp at e1
 subst e1
 have b0:=bounds_of_i64 w0
 have b1:=bounds_of_i64 w1
 rcases open_ints Tryz.underlying23 Tryz.underlying28 Tryz.cellsBits hy2 with ⟨hcs,_⟩ | ⟨a,len0,cap0,zs,hcs,_,hl,hm,hz,hx,hcell,hwz⟩
 ·simp at hcs
  subst hcs
  exact ⟨r,c,none,0,[],rfl,⟨by simp,by simp,.inl rfl⟩,by simp,b0,b1⟩
 ·simp at hcs
  subst hcs
  have hzc:zs.length = cap0:=by simpa using hz
  have hlen:(zs.take len0).length = len0:=by simp;omega
  refine ⟨r,c,some a,cap0,zs.take len0,by rw [hlen],⟨by omega,fun x hx=>bounds_of_u64 (hwz x (List.mem_of_mem_take hx)),?_⟩,?_,b0,b1⟩
  ·rcases Nat.eq_zero_or_pos len0 with rfl | hp
   ·left;simp
   ·right
    obtain ⟨b,off,spot⟩:=a
    obtain ⟨e1,e2⟩:=cellOf_plain (hcell 0 (by omega))
    have hspot:spot = none:=by simpa [Addr.add] using e1
    subst hspot
    refine ⟨b,off,rfl,by simpa [Addr.add] using e2,fun i hi=>?_⟩
    have h1:=hcell i (by omega)
    rw [addOf_plain] at h1
    rw [h1,List.getElem?_take,if_pos (by omega),List.getD_eq_getElem?_getD]
  ·rw [hx] at hs
   have hk:=hs ((zs.length) * 8) (by
    simp only [DataW.weights,Tryz.underlying25,DataW.weightsEach,List.map,Tryz.underlying23,List.append_nil,List.mem_cons,List.mem_append,Tryz.bytesBits,lits,List.length_map,List.length_take,List.length_drop]
    refine .inr (.inr (.inl ?_))
    omega)
   simp only [reachBytes] at hk
   omega
end Go.Proofs.YtdhmglmccafbnaaGreatDoor
namespace Go.Proofs.YtdhmglmccafbnaaGreatDoor
open Go.ChangeShapes Go.WideShapes Go.ChangeAt Go.RowKit
set_option maxRecDepth 100000 in
theorem solveUpright_contract (H:Type) (enc:TypeId × Value→H) (W:World) (base:Nat) (args:Array Value) (ds gs:List (DataW H)) (before:List MemPlace)
  (hval:∀ (j:Nat) t v,Tryz.f4.params[j]? = some t→args[j]? = some v→Value.okWide Tryz.prog W .any base t v)
  (hW:DataW.Whole enc Tryz.prog Tryz.f4.params.toList Rows.solveUprightSpec.vars false W args.toList ds gs before)
  (hsz0:(DataW.weightsEach Tryz.prog (Tryz.f4.params.toList ++ (OpenSpec.ofChange Rows.solveUprightSpec).bare.plain.varTypes Tryz.prog) (ds ++ gs)).all (·≤reachBytes) = true) (hLd:laidMetH Tryz.prog Rows.solveUprightRow.laid W) :
  Calls Tryz.prog 4 args W fun e W'=>∃ v,e = .returned v∧Rows.solveUprightSpec.post enc Tryz.prog Tryz.f4 false true false false W args v W':=by
 have hT:Tab W:=tab_of_laid hLd
 have hsz:(DataW.weightsEach Tryz.prog (Tryz.f4.params.toList ++ (OpenSpec.ofChange Rows.solveUprightSpec).bare.plain.varTypes Tryz.prog) (ds ++ gs)).all (·≤reachBytes) = true:=hsz0
 have hW':=hW
 obtain ⟨p,q,hA0,hV,rfl,hfz,hnd⟩:=hW
 have hA:DataW.TrodAll enc Tryz.prog W 0 (fun _=>true) true Tryz.f4.params.toList args.toList ds p:=hA0
 rw [Tryz.params4] at hA hval hsz
 obtain ⟨v0,vs0,d0,ds0,p0,q0,hargs,rfl,rfl,h0,r0⟩:=trodAll_cons hA
 obtain ⟨v1,vs1,d1,ds1,p1,q1,rfl,rfl,rfl,h1,r1⟩:=trodAll_cons r0
 obtain ⟨rfl,rfl,rfl⟩:=trodAll_nil r1
 obtain rfl:args = #[v0,v1]:=by cases args;simp_all
 obtain ⟨rfl,rfl⟩:=trodVars_none hV
 have k0:=h0
 have lt0:∀ x ∈ p0,x.block < W.heap.size:=by obtain ⟨m,hm⟩:=k0;exact DataW.trod_lt m _ _ _ hm
 obtain ⟨x0,z0,a0,c0,L0,rfl,hL0,hl0,wr0,wc0⟩:=open_matrix (hval 0 25 v0 rfl rfl) h0 (fun n hn=>of_decide_eq_true (List.all_eq_true.1 hsz n (DataW.weights_mem_each (j:=0) rfl rfl n hn)))
 have k1:=h1
 have lt1:∀ x ∈ p1,x.block < W.heap.size:=by obtain ⟨m,hm⟩:=k1;exact DataW.trod_lt m _ _ _ hm
 obtain ⟨x1,z1,a1,c1,L1,rfl,hL1,hl1,wr1,wc1⟩:=open_matrix (hval 1 25 v1 rfl rfl) h1 (fun n hn=>of_decide_eq_true (List.all_eq_true.1 hsz n (DataW.weights_mem_each (j:=1) rfl rfl n hn)))
 clear hA0
 refine (solveUpright_walk x0 z0 a0 c0 L0 x1 z1 a1 c1 L1 W hL0 hl0 wr0 wc0 hL1 hl1 wr1 wc1 hT).mono fun e W' ⟨he,bel⟩=>?_
 subst he
 exact ⟨_,rfl,_,_,_,[],_,[],hW',trodAll_mk1 (shut_bool Tryz.underlying4 _),trodAll_cons_mk (Below.trod Tryz.laidOut (by kernel_rfl) (of_decide_eq_true (by kernel_rfl)) k0 bel lt0) (trodAll_cons_mk (Below.trod Tryz.laidOut (by kernel_rfl) (of_decide_eq_true (by kernel_rfl)) k1 bel lt1) (trodAll_mk0)),rfl,bel.frame _,fun h=>by cases h⟩
noncomputable def solveUpright_world (os:Os):World :=
 { World.holding Tryz.prog os ⟨#[],#[],[]⟩ with heap:=(World.holding Tryz.prog os ⟨#[],#[],[]⟩).heap.modify 1 fun
   | .cells _ t frozen=>.cells (Lib.deBruijn32tab.map fun z:Nat=>Value.int .u8 (z:Int)).toArray t frozen
   | o=>o }
theorem solveUpright_met (os:Os):laidMet Tryz.prog Rows.solveUprightRow.laid ((solveUpright_world os).forCall (fun _ _=>0) ⟨#[],#[.agg #[.int .i64 0,.int .i64 0,.slice none 0 0],.agg #[.int .i64 0,.int .i64 0,.slice none 0 0]],[]⟩).memory :=
 laidMet_of_run' 8 (by kernel_rfl) (by kernel_rfl)
theorem solveUpright_reads (os:Os) {H:Type} (enc:TypeId × Value→H):∃ places,DataW.whole enc Tryz.prog ((solveUpright_world os).forCall (fun _ _=>0) ⟨#[],#[.agg #[.int .i64 0,.int .i64 0,.slice none 0 0],.agg #[.int .i64 0,.int .i64 0,.slice none 0 0]],[]⟩).memory Tryz.f4.params.toList Rows.solveUprightSpec.vars false #[.agg #[.int .i64 0,.int .i64 0,.slice none 0 0],.agg #[.int .i64 0,.int .i64 0,.slice none 0 0]].toList 8 = some ([.agg [.lit (.int .i64 0),.lit (.int .i64 0),.nil],.agg [.lit (.int .i64 0),.lit (.int .i64 0),.nil]],[],places) :=
 ⟨[],by kernel_rfl⟩
set_option maxRecDepth 100000 in
theorem solveUpright_lifted (os:Os) (started:os.Started) (H:Type) (enc:TypeId × Value→H) (F:Stop.Interp) :
  ReturnsInHanded {} Tryz.checked os 4 .any ((OpenSpec.ofChange Rows.solveUprightSpec).preRow enc Tryz.prog Tryz.f4 Rows.solveUprightRow.domain false Rows.solveUprightRow.laid) (((OpenSpec.ofChange Rows.solveUprightSpec).at F).post enc Tryz.prog Tryz.f4 false true false false):=by
 obtain ⟨places,hx⟩:=solveUpright_reads os enc
 refine returnsInHanded_of_row (C:=Tryz.checked) (s:=OpenSpec.ofChange Rows.solveUprightSpec) Tryz.own started (by kernel_rfl) Tryz.func4
  (witness_row_at (enc:=enc) (C:=Tryz.checked) false (solveUpright_world os) #[.agg #[.int .i64 0,.int .i64 0,.slice none 0 0],.agg #[.int .i64 0,.int .i64 0,.slice none 0 0]] rfl (by kernel_rfl) (by kernel_rfl) (by kernel_rfl)
   (OpenSpec.preRow_of_cond 8 hx (by kernel_rfl) (fun k hk=>by cases hk) (by kernel_rfl) (solveUpright_met os))) ?_
 intro W base args ds gs before hval hW _ _ hsz hL _ _
 exact solveUpright_contract H enc W base args ds gs before hval hW hsz hL
theorem solveUpright_f1:(Rows.solveUprightRow.inPlace == Tryz.pinned.checked.prog.inPlace 4) = true:=by kernel_rfl
theorem solveUpright_f2:(Rows.solveUprightRow.unfollowed == Tryz.pinned.checked.prog.unfollowed 4) = true:=by kernel_rfl
theorem solveUpright_f3:(Rows.solveUprightRow.recurses == Tryz.pinned.checked.prog.recurses 4) = true:=by kernel_rfl
theorem solveUpright_f4:(Rows.solveUprightRow.named == Tryz.pinned.checked.prog.varsNamed 4) = true:=by kernel_rfl
theorem solveUpright_f5:(Rows.solveUprightRow.lifted == Tryz.pinned.checked.prog.liftsFinal) = true:=by kernel_rfl
theorem solveUpright_f6:(Tryz.pinned.checked.prog.stops == []) = true:=by kernel_rfl
theorem solveUpright_f7:(Tryz.pinned.checked.prog.stopKnobs == []) = true:=by kernel_rfl
theorem solveUpright_f8:Tryz.pinned.checked.prog.stopsHeard = true:=by kernel_rfl
theorem solveUpright_f9:Tryz.pinned.checked.prog.mayEnter = true:=by kernel_rfl
theorem solveUpright_f10:(Rows.solveUprightRow.plainKeys == Tryz.pinned.checked.prog.plainKeys) = true:=by kernel_rfl
theorem solveUpright_f11:(Tryz.pinned.checked.prog.make == some Rows.solveUprightRow.make) = true:=by kernel_rfl
theorem solveUpright_closed:joinedFacts Tryz.pinned.checked.prog 4 Tryz.f4 (OpenSpec.ofChange Rows.solveUprightSpec).bare Rows.solveUprightRow = true:=by
 simp only [joinedFacts,Bool.and_eq_true]
 repeat' apply And.intro
 all_goals first
  | with_reducible exact solveUpright_f1
  | with_reducible exact solveUpright_f2
  | with_reducible exact solveUpright_f3
  | with_reducible exact solveUpright_f4
  | with_reducible exact solveUpright_f5
  | with_reducible exact solveUpright_f6
  | with_reducible exact solveUpright_f7
  | with_reducible exact solveUpright_f8
  | with_reducible exact solveUpright_f9
  | with_reducible exact solveUpright_f10
  | with_reducible exact solveUpright_f11
  | kernel_rfl
theorem solveUpright_said:Rows.SolveUprightSaid :=
 OpenClaim.holds_of_cond 4 Tryz.f4 rfl rfl rfl rfl rfl rfl rfl ⟨rfl,rfl,rfl,rfl,rfl⟩ rfl rfl rfl rfl rfl (by kernel_rfl) Tryz.func4 solveUpright_closed
  (of_decide_eq_true (by kernel_rfl)) (by unfold Func.isWrapper;first | (rw [if_pos (by decide +kernel)];kernel_rfl) | (rw [if_neg (by decide +kernel)];exact ⟨rfl,rfl⟩))
  (fun os started H enc _ F=>by rw [OpenClaim.pre_eq_preRow];exact solveUpright_lifted os started H enc F)
theorem solveUpright_plain (f:FuncId) (fn:Func) (hf:Tryz.pinned.checked.prog.funcNamed "dioptra/dioptralaw17.SolveUpright" = some f) (hfn:Tryz.pinned.checked.prog.funcs[f]? = some fn) :
  false = Tryz.pinned.checked.prog.looks []∧∀ (j:Nat) t,fn.params[j]? = some t→Tryz.pinned.checked.prog.wantsStandIn t = false:=by
 obtain rfl:f = 4:=Option.some.inj ((show Tryz.prog.funcNamed "dioptra/dioptralaw17.SolveUpright" = some 4 by kernel_rfl).symm.trans hf) |>.symm
 obtain rfl:fn = Tryz.f4:=(Option.some.inj (Tryz.func4.symm.trans hfn)).symm
 refine ⟨by kernel_rfl,fun j t ht=>?_⟩
 rw [Tryz.params4] at ht
 have hm:t ∈ [25,25]:=by simpa using Array.mem_of_getElem? ht
 have hall:([25,25].all fun u=>!Tryz.prog.wantsStandIn u) = true:=by kernel_rfl
 exact (show Tryz.prog.wantsStandIn t = false by simpa using List.all_eq_true.1 hall t hm)
theorem solveUpright_card:Rows.SolveUprightCardSaid :=
 Claim7.holds_tied_plain_at .later [] _ _ _ _ solveUpright_said (fun _ h=>by cases h) (by kernel_rfl) (fun _ h=>by cases h) solveUpright_row_tie rfl ⟨rfl,rfl⟩ (by kernel_rfl) rfl solveUpright_plain (by kernel_rfl)
#print axioms solveUpright_card
end Go.Proofs.YtdhmglmccafbnaaGreatDoor
