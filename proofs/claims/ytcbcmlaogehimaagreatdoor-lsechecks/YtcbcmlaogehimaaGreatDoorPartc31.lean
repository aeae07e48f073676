/- LseChecks is true for any task: the program's Check tells the first error of the four parts, or that their sizes do not go together, just as the reference does. -/
import Derived.Test.YtcbcmlaogehimaaGreatDoorCards
import Derived.Test.YtcbcmlaogehimaaGreatDoorTie
import Derived.Test.YtcbcmlaogehimaaGreatDoorPartc30
set_option maxRecDepth 20000
namespace Go.Proofs.YtcbcmlaogehimaaGreatDoor
open Go.ChangeShapes Go.WideShapes Go.ChangeAt Go.RowKit
set_option maxRecDepth 100000 in
theorem lseChecks_contract (H:Type) (enc:TypeId × Value→H) (W:World) (base:Nat) (args:Array Value) (ds gs:List (DataW H)) (before:List MemPlace)
  (hval:∀ (j:Nat) t v,Tryz.f7.params[j]? = some t→args[j]? = some v→Value.okWide Tryz.prog W .any base t v)
  (hW:DataW.Whole enc Tryz.prog Tryz.f7.params.toList Rows.lseChecksSpec.vars false W args.toList ds gs before)
  (hsz0:(DataW.weightsEach Tryz.prog (Tryz.f7.params.toList ++ (OpenSpec.ofChange Rows.lseChecksSpec).bare.plain.varTypes Tryz.prog) (ds ++ gs)).all (·≤reachBytes) = true) (hLd:laidMetH Tryz.prog Rows.lseChecksRow.laid W) :
  Calls Tryz.prog 7 args W fun e W'=>∃ v,e = .returned v∧Rows.lseChecksSpec.post enc Tryz.prog Tryz.f7 false true false false W args v W':=by
 have hT:Tab W:=tab_of_laid hLd
 have hsz:(DataW.weightsEach Tryz.prog (Tryz.f7.params.toList ++ (OpenSpec.ofChange Rows.lseChecksSpec).bare.plain.varTypes Tryz.prog) (ds ++ gs)).all (·≤reachBytes) = true:=hsz0
 have hW':=hW
 obtain ⟨p,q,hA0,hV,rfl,hfz,hnd⟩:=hW
 have hA:DataW.TrodAll enc Tryz.prog W 0 (fun _=>true) true Tryz.f7.params.toList args.toList ds p:=hA0
 rw [Tryz.params7] at hA hval hsz
 obtain ⟨v0,vs0,d0,ds0,p0,q0,hargs,rfl,rfl,h0,r0⟩:=trodAll_cons hA
 obtain ⟨rfl,rfl,rfl⟩:=trodAll_nil r0
 obtain rfl:args = #[v0]:=by cases args;simp_all
 obtain ⟨rfl,rfl⟩:=trodVars_none hV
 have k0:=h0
 have lt0:∀ x ∈ p0,x.block < W.heap.size:=by obtain ⟨m,hm⟩:=k0;exact DataW.trod_lt m _ _ _ hm
 obtain ⟨a0,b0,c0,e0,I0,J0,K0,L0,rfl,hO0⟩:=open_task (hval 0 53 v0 rfl rfl) h0 (fun n hn=>of_decide_eq_true (List.all_eq_true.1 hsz n (DataW.weights_mem_each (j:=0) rfl rfl n hn)))
 clear hA0
 refine (lseChecks_walk a0 b0 c0 e0 I0 J0 K0 L0 W hO0 hT).mono fun e W' ⟨he,bel⟩=>?_
 subst he
 exact ⟨_,rfl,_,_,_,[],_,[],hW',trodAll_mk1 (shut_bool Tryz.underlying4 _),trodAll_cons_mk (Below.trod Tryz.laidOut (by kernel_rfl) (of_decide_eq_true (by kernel_rfl)) k0 bel lt0) (trodAll_mk0),rfl,bel.frame _,fun h=>by cases h⟩
noncomputable def lseChecks_world (os:Os):World :=
 { World.holding Tryz.prog os ⟨#[],#[],[]⟩ with heap:=(World.holding Tryz.prog os ⟨#[],#[],[]⟩).heap.modify 1 fun
   | .cells _ t frozen=>.cells (Lib.deBruijn32tab.map fun z:Nat=>Value.int .u8 (z:Int)).toArray t frozen
   | o=>o }
theorem lseChecks_met (os:Os):laidMet Tryz.prog Rows.lseChecksRow.laid ((lseChecks_world os).forCall (fun _ _=>0) ⟨#[],#[.agg #[.int .i64 0,.int .i64 0,.slice none 0 0,.int .i64 0,.int .i64 0,.slice none 0 0,.int .i64 0,.int .i64 0,.slice none 0 0,.int .i64 0,.int .i64 0,.slice none 0 0]],[]⟩).memory :=
 laidMet_of_run' 8 (by kernel_rfl) (by kernel_rfl)
theorem lseChecks_reads (os:Os) {H:Type} (enc:TypeId × Value→H):∃ places,DataW.whole enc Tryz.prog ((lseChecks_world os).forCall (fun _ _=>0) ⟨#[],#[.agg #[.int .i64 0,.int .i64 0,.slice none 0 0,.int .i64 0,.int .i64 0,.slice none 0 0,.int .i64 0,.int .i64 0,.slice none 0 0,.int .i64 0,.int .i64 0,.slice none 0 0]],[]⟩).memory Tryz.f7.params.toList Rows.lseChecksSpec.vars false #[.agg #[.int .i64 0,.int .i64 0,.slice none 0 0,.int .i64 0,.int .i64 0,.slice none 0 0,.int .i64 0,.int .i64 0,.slice none 0 0,.int .i64 0,.int .i64 0,.slice none 0 0]].toList 8 = some ([.agg [.agg [.lit (.int .i64 0),.lit (.int .i64 0),.nil],.agg [.lit (.int .i64 0),.lit (.int .i64 0),.nil],.agg [.lit (.int .i64 0),.lit (.int .i64 0),.nil],.agg [.lit (.int .i64 0),.lit (.int .i64 0),.nil]]],[],places) :=
 ⟨[],by kernel_rfl⟩
set_option maxRecDepth 100000 in
theorem lseChecks_lifted (os:Os) (started:os.Started) (H:Type) (enc:TypeId × Value→H) (F:Stop.Interp) :
  ReturnsInHanded {} Tryz.checked os 7 .any ((OpenSpec.ofChange Rows.lseChecksSpec).preRow enc Tryz.prog Tryz.f7 Rows.lseChecksRow.domain false Rows.lseChecksRow.laid) (((OpenSpec.ofChange Rows.lseChecksSpec).at F).post enc Tryz.prog Tryz.f7 false true false false):=by
 obtain ⟨places,hx⟩:=lseChecks_reads os enc
 refine returnsInHanded_of_row (C:=Tryz.checked) (s:=OpenSpec.ofChange Rows.lseChecksSpec) Tryz.own started (by kernel_rfl) Tryz.func7
  (witness_row_at (enc:=enc) (C:=Tryz.checked) false (lseChecks_world os) #[.agg #[.int .i64 0,.int .i64 0,.slice none 0 0,.int .i64 0,.int .i64 0,.slice none 0 0,.int .i64 0,.int .i64 0,.slice none 0 0,.int .i64 0,.int .i64 0,.slice none 0 0]] rfl (by kernel_rfl) (by kernel_rfl) (by kernel_rfl)
   (OpenSpec.preRow_of_cond 8 hx (by kernel_rfl) (fun k hk=>by cases hk) (by kernel_rfl) (lseChecks_met os))) ?_
 intro W base args ds gs before hval hW _ _ hsz hL _ _
 exact lseChecks_contract H enc W base args ds gs before hval hW hsz hL
theorem lseChecks_f1:(Rows.lseChecksRow.inPlace == Tryz.pinned.checked.prog.inPlace 7) = true:=by kernel_rfl
theorem lseChecks_f2:(Rows.lseChecksRow.unfollowed == Tryz.pinned.checked.prog.unfollowed 7) = true:=by kernel_rfl
theorem lseChecks_f3:(Rows.lseChecksRow.recurses == Tryz.pinned.checked.prog.recurses 7) = true:=by kernel_rfl
theorem lseChecks_f4:(Rows.lseChecksRow.named == Tryz.pinned.checked.prog.varsNamed 7) = true:=by kernel_rfl
theorem lseChecks_f5:(Rows.lseChecksRow.lifted == Tryz.pinned.checked.prog.liftsFinal) = true:=by kernel_rfl
theorem lseChecks_f6:(Tryz.pinned.checked.prog.stops == []) = true:=by kernel_rfl
theorem lseChecks_f7:(Tryz.pinned.checked.prog.stopKnobs == []) = true:=by kernel_rfl
theorem lseChecks_f8:Tryz.pinned.checked.prog.stopsHeard = true:=by kernel_rfl
theorem lseChecks_f9:Tryz.pinned.checked.prog.mayEnter = true:=by kernel_rfl
theorem lseChecks_f10:(Rows.lseChecksRow.plainKeys == Tryz.pinned.checked.prog.plainKeys) = true:=by kernel_rfl
theorem lseChecks_f11:(Tryz.pinned.checked.prog.make == some Rows.lseChecksRow.make) = true:=by kernel_rfl
theorem lseChecks_closed:joinedFacts Tryz.pinned.checked.prog 7 Tryz.f7 (OpenSpec.ofChange Rows.lseChecksSpec).bare Rows.lseChecksRow = true:=by
 simp only [joinedFacts,Bool.and_eq_true]
 repeat' apply And.intro
 all_goals first
  | with_reducible exact lseChecks_f1
  | with_reducible exact lseChecks_f2
  | with_reducible exact lseChecks_f3
  | with_reducible exact lseChecks_f4
  | with_reducible exact lseChecks_f5
  | with_reducible exact lseChecks_f6
  | with_reducible exact lseChecks_f7
  | with_reducible exact lseChecks_f8
  | with_reducible exact lseChecks_f9
  | with_reducible exact lseChecks_f10
  | with_reducible exact lseChecks_f11
  | kernel_rfl
theorem lseChecks_said:Rows.LseChecksSaid :=
 OpenClaim.holds_of_cond 7 Tryz.f7 rfl rfl rfl rfl rfl rfl rfl ⟨rfl,rfl,rfl,rfl,rfl⟩ rfl rfl rfl rfl rfl (by kernel_rfl) Tryz.func7 lseChecks_closed
  (of_decide_eq_true (by kernel_rfl)) (by unfold Func.isWrapper;first | (rw [if_pos (by decide +kernel)];kernel_rfl) | (rw [if_neg (by decide +kernel)];exact ⟨rfl,rfl⟩))
  (fun os started H enc _ F=>by rw [OpenClaim.pre_eq_preRow];exact lseChecks_lifted os started H enc F)
theorem lseChecks_plain (f:FuncId) (fn:Func) (hf:Tryz.pinned.checked.prog.funcNamed "dioptra/dioptralaw20.LseChecks" = some f) (hfn:Tryz.pinned.checked.prog.funcs[f]? = some fn) :
  false = Tryz.pinned.checked.prog.looks []∧∀ (j:Nat) t,fn.params[j]? = some t→Tryz.pinned.checked.prog.wantsStandIn t = false:=by
 obtain rfl:f = 7:=Option.some.inj ((show Tryz.prog.funcNamed "dioptra/dioptralaw20.LseChecks" = some 7 by kernel_rfl).symm.trans hf) |>.symm
 obtain rfl:fn = Tryz.f7:=(Option.some.inj (Tryz.func7.symm.trans hfn)).symm
 refine ⟨by kernel_rfl,fun j t ht=>?_⟩
 rw [Tryz.params7] at ht
 have hm:t ∈ [53]:=by simpa using Array.mem_of_getElem? ht
 have hall:([53].all fun u=>!Tryz.prog.wantsStandIn u) = true:=by kernel_rfl
 exact (show Tryz.prog.wantsStandIn t = false by simpa using List.all_eq_true.1 hall t hm)
theorem lseChecks_card:Rows.LseChecksCardSaid :=
 Claim7.holds_tied_plain_at .later [] _ _ _ _ lseChecks_said (fun _ h=>by cases h) (by kernel_rfl) (fun _ h=>by cases h) lseChecks_row_tie rfl ⟨rfl,rfl⟩ (by kernel_rfl) rfl lseChecks_plain (by kernel_rfl)
#print axioms lseChecks_card
end Go.Proofs.YtcbcmlaogehimaaGreatDoor
