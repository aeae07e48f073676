/- SvdRanks is true for any list of numbers: Rank answers how many sizes count, as the reference does. -/
import Derived.Test.YtdhmglmccafbnaaGreatDoorPartv26
import Derived.Test.YtdhmglmccafbnaaGreatDoorCards
import Derived.Test.YtdhmglmccafbnaaGreatDoorTie
set_option maxRecDepth 20000
namespace Go.Proofs.YtdhmglmccafbnaaGreatDoor
open Go.ChangeShapes Go.WideShapes Go.ChangeAt Go.RowKit Go.Joins Go.Deep
theorem open_bits8 {H:Type} {enc:TypeId × Value→H} {W:World} {base:Nat} {v:Value} {d:DataW H} {p:List MemPlace} (hval:Value.okWide Tryz.prog W .any base 23 v) (h:DataW.Trod enc Tryz.prog W 0 (fun _=>true) true 23 v d p)
  (hs:∀ n ∈ d.weights Tryz.prog 23,n≤reachBytes):∃ ao cap I,v = .slice ao I.length cap∧BitsAt W ao cap I∧I.length≤17592186043904:=by
 obtain ⟨a0,len0,cap0,rfl⟩:=okWide_slice Tryz.underlying23 hval
 obtain ⟨fuel,hf⟩:=h
 rcases open_ints Tryz.underlying23 Tryz.underlying28 Tryz.cellsBits hf with ⟨hcs,_⟩ | ⟨a,len,cap,zs,hcs,_,hl,hm,hz,hx,hcell,hwz⟩
 ·simp [Value.cells] at hcs
  obtain ⟨rfl,rfl,rfl⟩:=hcs
  exact ⟨none,0,[],rfl,⟨by simp,by simp,.inl rfl⟩,by simp⟩
 ·simp [Value.cells] at hcs
  obtain ⟨rfl,rfl,rfl⟩:=hcs
  simp only [Prod.mk.injEq] at hx
  obtain ⟨rfl,-⟩:=hx
  have hzc:zs.length = cap0:=by simpa using hz
  have hk:=hs ((zs.length) * 8) (by
   simp only [DataW.weights,Tryz.underlying23,List.mem_cons,Tryz.bytesBits,lits,List.length_map,List.length_take,List.length_drop]
   left
   omega)
  simp only [reachBytes] at hk
  have hlen:(zs.take len0).length = len0:=by simp;omega
  refine ⟨some a,cap0,zs.take len0,by rw [hlen],⟨by omega,fun x hx=>bounds_of_u64 (hwz x (List.mem_of_mem_take hx)),?_⟩,by omega⟩
  rcases Nat.eq_zero_or_pos len0 with rfl | hp
  ·left;simp
  ·right
   obtain ⟨b,off,spot⟩:=a
   obtain ⟨e1,e2⟩:=cellOf_plain (hcell 0 (by omega))
   have hspot:spot = none:=by simpa [Addr.add] using e1
   subst hspot
   refine ⟨b,off,rfl,by simpa [Addr.add] using e2,fun i hi=>?_⟩
   have h1:=hcell i (by omega)
   rw [addOf_plain] at h1
   rw [h1,List.getElem?_take,if_pos (by omega),List.getD_eq_getElem?_getD]
end Go.Proofs.YtdhmglmccafbnaaGreatDoor
namespace Go.Proofs.YtdhmglmccafbnaaGreatDoor
open Go.ChangeShapes Go.WideShapes Go.ChangeAt Go.RowKit
set_option maxRecDepth 100000 in
theorem svdRanks_contract (H:Type) (enc:TypeId × Value→H) (W:World) (base:Nat) (args:Array Value) (ds gs:List (DataW H)) (before:List MemPlace)
  (hval:∀ (j:Nat) t v,Tryz.f8.params[j]? = some t→args[j]? = some v→Value.okWide Tryz.prog W .any base t v)
  (hW:DataW.Whole enc Tryz.prog Tryz.f8.params.toList Rows.svdRanksSpec.vars false W args.toList ds gs before)
  (hsz0:(DataW.weightsEach Tryz.prog (Tryz.f8.params.toList ++ (OpenSpec.ofChange Rows.svdRanksSpec).bare.plain.varTypes Tryz.prog) (ds ++ gs)).all (·≤reachBytes) = true) (hLd:laidMetH Tryz.prog Rows.svdRanksRow.laid W) :
  Calls Tryz.prog 8 args W fun e W'=>∃ v,e = .returned v∧Rows.svdRanksSpec.post enc Tryz.prog Tryz.f8 false true false false W args v W':=by
 have hT:Tab W:=tab_of_laid hLd
 have hsz:(DataW.weightsEach Tryz.prog (Tryz.f8.params.toList ++ (OpenSpec.ofChange Rows.svdRanksSpec).bare.plain.varTypes Tryz.prog) (ds ++ gs)).all (·≤reachBytes) = true:=hsz0
 have hW':=hW
 obtain ⟨p,q,hA0,hV,rfl,hfz,hnd⟩:=hW
 have hA:DataW.TrodAll enc Tryz.prog W 0 (fun _=>true) true Tryz.f8.params.toList args.toList ds p:=hA0
 rw [Tryz.params8] at hA hval hsz
 obtain ⟨v0,vs0,d0,ds0,p0,q0,hargs,rfl,rfl,h0,r0⟩:=trodAll_cons hA
 obtain ⟨rfl,rfl,rfl⟩:=trodAll_nil r0
 obtain rfl:args = #[v0]:=by cases args;simp_all
 obtain ⟨rfl,rfl⟩:=trodVars_none hV
 have k0:=h0
 have lt0:∀ x ∈ p0,x.block < W.heap.size:=by obtain ⟨m,hm⟩:=k0;exact DataW.trod_lt m _ _ _ hm
 obtain ⟨a0,c0,L0,rfl,hL0,hl0⟩:=open_bits8 (hval 0 23 v0 rfl rfl) h0 (fun n hn=>of_decide_eq_true (List.all_eq_true.1 hsz n (DataW.weights_mem_each (j:=0) rfl rfl n hn)))
 clear hA0
 refine (svdRanks_walk a0 c0 L0 W hL0 hl0 hT).mono fun e W' ⟨he,bel⟩=>?_
 subst he
 exact ⟨_,rfl,_,_,_,[],_,[],hW',trodAll_mk1 (shut_bool Tryz.underlying4 _),trodAll_cons_mk (Below.trod Tryz.laidOut (by kernel_rfl) (of_decide_eq_true (by kernel_rfl)) k0 bel lt0) (trodAll_mk0),rfl,bel.frame _,fun h=>by cases h⟩
noncomputable def svdRanks_world (os:Os):World :=
 { World.holding Tryz.prog os ⟨#[],#[],[]⟩ with heap:=(World.holding Tryz.prog os ⟨#[],#[],[]⟩).heap.modify 1 fun
   | .cells _ t frozen=>.cells (Lib.deBruijn32tab.map fun z:Nat=>Value.int .u8 (z:Int)).toArray t frozen
   | o=>o }
theorem svdRanks_met (os:Os):laidMet Tryz.prog Rows.svdRanksRow.laid ((svdRanks_world os).forCall (fun _ _=>0) ⟨#[],#[.slice none 0 0],[]⟩).memory :=
 laidMet_of_run' 8 (by kernel_rfl) (by kernel_rfl)
theorem svdRanks_reads (os:Os) {H:Type} (enc:TypeId × Value→H):∃ places,DataW.whole enc Tryz.prog ((svdRanks_world os).forCall (fun _ _=>0) ⟨#[],#[.slice none 0 0],[]⟩).memory Tryz.f8.params.toList Rows.svdRanksSpec.vars false #[.slice none 0 0].toList 8 = some ([.nil],[],places) :=
 ⟨[],by kernel_rfl⟩
set_option maxRecDepth 100000 in
theorem svdRanks_lifted (os:Os) (started:os.Started) (H:Type) (enc:TypeId × Value→H) (F:Stop.Interp) :
  ReturnsInHanded {} Tryz.checked os 8 .any ((OpenSpec.ofChange Rows.svdRanksSpec).preRow enc Tryz.prog Tryz.f8 Rows.svdRanksRow.domain false Rows.svdRanksRow.laid) (((OpenSpec.ofChange Rows.svdRanksSpec).at F).post enc Tryz.prog Tryz.f8 false true false false):=by
 obtain ⟨places,hx⟩:=svdRanks_reads os enc
 refine returnsInHanded_of_row (C:=Tryz.checked) (s:=OpenSpec.ofChange Rows.svdRanksSpec) Tryz.own started (by kernel_rfl) Tryz.func8
  (witness_row_at (enc:=enc) (C:=Tryz.checked) false (svdRanks_world os) #[.slice none 0 0] rfl (by kernel_rfl) (by kernel_rfl) (by kernel_rfl)
   (OpenSpec.preRow_of_cond 8 hx (by kernel_rfl) (fun k hk=>by cases hk) (by kernel_rfl) (svdRanks_met os))) ?_
 intro W base args ds gs before hval hW _ _ hsz hL _ _
 exact svdRanks_contract H enc W base args ds gs before hval hW hsz hL
theorem svdRanks_f1:(Rows.svdRanksRow.inPlace == Tryz.pinned.checked.prog.inPlace 8) = true:=by kernel_rfl
theorem svdRanks_f2:(Rows.svdRanksRow.unfollowed == Tryz.pinned.checked.prog.unfollowed 8) = true:=by kernel_rfl
theorem svdRanks_f3:(Rows.svdRanksRow.recurses == Tryz.pinned.checked.prog.recurses 8) = true:=by kernel_rfl
theorem svdRanks_f4:(Rows.svdRanksRow.named == Tryz.pinned.checked.prog.varsNamed 8) = true:=by kernel_rfl
theorem svdRanks_f5:(Rows.svdRanksRow.lifted == Tryz.pinned.checked.prog.liftsFinal) = true:=by kernel_rfl
theorem svdRanks_f6:(Tryz.pinned.checked.prog.stops == []) = true:=by kernel_rfl
theorem svdRanks_f7:(Tryz.pinned.checked.prog.stopKnobs == []) = true:=by kernel_rfl
theorem svdRanks_f8:Tryz.pinned.checked.prog.stopsHeard = true:=by kernel_rfl
theorem svdRanks_f9:Tryz.pinned.checked.prog.mayEnter = true:=by kernel_rfl
theorem svdRanks_f10:(Rows.svdRanksRow.plainKeys == Tryz.pinned.checked.prog.plainKeys) = true:=by kernel_rfl
theorem svdRanks_f11:(Tryz.pinned.checked.prog.make == some Rows.svdRanksRow.make) = true:=by kernel_rfl
theorem svdRanks_closed:joinedFacts Tryz.pinned.checked.prog 8 Tryz.f8 (OpenSpec.ofChange Rows.svdRanksSpec).bare Rows.svdRanksRow = true:=by
 simp only [joinedFacts,Bool.and_eq_true]
 repeat' apply And.intro
 all_goals first
  | with_reducible exact svdRanks_f1
  | with_reducible exact svdRanks_f2
  | with_reducible exact svdRanks_f3
  | with_reducible exact svdRanks_f4
  | with_reducible exact svdRanks_f5
  | with_reducible exact svdRanks_f6
  | with_reducible exact svdRanks_f7
  | with_reducible exact svdRanks_f8
  | with_reducible exact svdRanks_f9
  | with_reducible exact svdRanks_f10
  | with_reducible exact svdRanks_f11
  | kernel_rfl
theorem svdRanks_said:Rows.SvdRanksSaid :=
 OpenClaim.holds_of_cond 8 Tryz.f8 rfl rfl rfl rfl rfl rfl rfl ⟨rfl,rfl,rfl,rfl,rfl⟩ rfl rfl rfl rfl rfl (by kernel_rfl) Tryz.func8 svdRanks_closed
  (of_decide_eq_true (by kernel_rfl)) (by unfold Func.isWrapper;first | (rw [if_pos (by decide +kernel)];kernel_rfl) | (rw [if_neg (by decide +kernel)];exact ⟨rfl,rfl⟩))
  (fun os started H enc _ F=>by rw [OpenClaim.pre_eq_preRow];exact svdRanks_lifted os started H enc F)
theorem svdRanks_plain (f:FuncId) (fn:Func) (hf:Tryz.pinned.checked.prog.funcNamed "dioptra/dioptralaw19.SvdRanks" = some f) (hfn:Tryz.pinned.checked.prog.funcs[f]? = some fn) :
  false = Tryz.pinned.checked.prog.looks []∧∀ (j:Nat) t,fn.params[j]? = some t→Tryz.pinned.checked.prog.wantsStandIn t = false:=by
 obtain rfl:f = 8:=Option.some.inj ((show Tryz.prog.funcNamed "dioptra/dioptralaw19.SvdRanks" = some 8 by kernel_rfl).symm.trans hf) |>.symm
 obtain rfl:fn = Tryz.f8:=(Option.some.inj (Tryz.func8.symm.trans hfn)).symm
 refine ⟨by kernel_rfl,fun j t ht=>?_⟩
 rw [Tryz.params8] at ht
 have hm:t ∈ [23]:=by simpa using Array.mem_of_getElem? ht
 have hall:([23].all fun u=>!Tryz.prog.wantsStandIn u) = true:=by kernel_rfl
 exact (show Tryz.prog.wantsStandIn t = false by simpa using List.all_eq_true.1 hall t hm)
theorem svdRanks_card:Rows.SvdRanksCardSaid :=
 Claim7.holds_tied_plain_at .later [] _ _ _ _ svdRanks_said (fun _ h=>by cases h) (by kernel_rfl) (fun _ h=>by cases h) svdRanks_row_tie rfl ⟨rfl,rfl⟩ (by kernel_rfl) rfl svdRanks_plain (by kernel_rfl)
#print axioms svdRanks_card
end Go.Proofs.YtdhmglmccafbnaaGreatDoor
