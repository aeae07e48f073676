/- Part 30 of the texts. -/
import Derived.Test.YtenpggicmfhhdaaGreatDoorParta29
import Derived.Test.YtenpggicmfhhdaaGreatDoorParta28
import Derived.Test.YtenpggicmfhhdaaGreatDoorParta25
import Derived.Maps.AppendAt
import Derived.Test.YtenpggicmfhhdaaGreatDoorParta27
import Derived.Test.YtenpggicmfhhdaaGreatDoorParta23
import Derived.Test.YtenpggicmfhhdaaGreatDoorParta24
import Derived.Test.YtenpggicmfhhdaaGreatDoorParta08
import Derived.Lib.BitFns
import Derived.Test.YtenpggicmfhhdaaGreatDoorParta07
import Derived.Test.YtenpggicmfhhdaaGreatDoorParta05
import Derived.Test.YtenpggicmfhhdaaGreatDoorParta02
import Derived.Test.YtenpggicmfhhdaaGreatDoorParta06
import Derived.Test.YtenpggicmfhhdaaGreatDoorParta01
import Derived.OwnWalk
import Derived.Deep.AppendLies
import Derived.Maps.Own
import Derived.Maps.OwnOps
import Derived.Maps.OwnSet
import Derived.DeepKeys4
import Derived.WalkSmall
import Derived.Deep.RegionHeld3
set_option maxHeartbeats 8000000
set_option maxRecDepth 20000
namespace Go.Proofs.YtenpggicmfhhdaaGreatDoor
open Go.RowKit
attribute [local go_sem ↓] Go.wp_at_zero Go.wp_at_succ
theorem mkM_snoc (t c:Nat) (f:Nat→Nat→Nat):mkM (t+1) c f = mkM t c f ++ (List.range c).map (f t):=by
 unfold mkM
 rw [show (t+1) * c = t * c+c by rw [Nat.add_mul,Nat.one_mul],List.range_add,List.map_append,List.map_map]
 congr 1
 refine List.map_congr_left (fun k hk=>?_)
 have hk:=List.mem_range.1 hk
 show f ((t * c+k) / c) ((t * c+k) % c) = f t k
 rw [place_div hk,place_mod hk]
def dnJ (r c:Nat) (S:List Nat) (t:Nat):List Nat:=mkM t c (fun p q=>elM c S (r - 1 - p) q)
theorem dnJ_len (r c:Nat) (S:List Nat) (t:Nat):(dnJ r c S t).length = t * c:=mkM_len _ _ _
theorem dnJ_0 (r c:Nat) (S:List Nat):dnJ r c S 0 = []:=by unfold dnJ mkM;rw [Nat.zero_mul];rfl
theorem dnJ_step (r c:Nat) (S:List Nat) (t:Nat):dnJ r c S (t+1) = dnJ r c S t ++ rwL c S (r - 1 - t):=mkM_snoc t c _
theorem dnJ_all (r c:Nat) (S:List Nat):dnJ r c S r = dnM r c S:=rfl
theorem OwnB.off {base:Nat} {w:World} {v:Value} {S:List Nat} (h:OwnB base w v S) {b:Nat} {x y z:Value} (hx:BoxM w b x y z):v.ownBlock ≠ some b:=by
 rcases h.1.2 with ⟨e,_⟩ | ⟨g,cap,cur,hv,hg,hh,_⟩
 ·rw [e];intro q;cases q
 ·rw [hv]
  intro q
  have e:g = b:=by
   have q':some g = some b:=q
   simpa using q'
  subst e
  unfold BoxM at hx
  rw [hh] at hx
  simp at hx
theorem OwnB.other {base:Nat} {w:World} {v:Value} {S:List Nat} (h:OwnB base w v S) {b:Nat} {x y z:Value} (hx:BoxM w b x y z) (j:Nat) (u:Value):OwnB base (w.setCell ⟨b,j,none⟩ u) v S:=by
 have hne:=h.off hx
 refine ⟨⟨h.1.1,?_⟩,h.2⟩
 rcases h.1.2 with e | ⟨g,cap,cur,hv,hg,hh,rest⟩
 ·exact .inl e
 ·refine .inr ⟨g,cap,cur,hv,hg,?_,rest⟩
  have ne:g ≠ b:=by
   rintro rfl
   rw [hv] at hne
   exact hne rfl
  rw [Below.heap_setCell _ ⟨b,j,none⟩ u g ne]
  exact hh
theorem BoxM.put2 {w:World} {b:Nat} {x y z:Value} (h:BoxM w b x y z) (u:Value):BoxM (w.setCell ⟨b,2,none⟩ u) b x y u:=by
 have h1:=heap_setCell_same w b 2 _ _ u h
 unfold BoxM
 rw [h1]
 simp
structure DnSt (w wr:World) (g r c n cap:Nat) (ao:Option Addr) (v:Value) (T:List Nat):Prop where
 bel:Below w.heap.size w wr
 m:BoxM wr w.heap.size (.int .i64 r) (.int .i64 c) (.slice ao n cap)
 res:BoxM wr (w.heap.size+1) (.int .i64 0) (.int .i64 0) (.slice none 0 0)
 out:BoxM wr g (.int .i64 r) (.int .i64 c) v
 own:OwnB (w.heap.size+1+1) wr v T
 lo:w.heap.size+1 < g
theorem DnSt.all {w wr w':World} {g r c n cap:Nat} {ao:Option Addr} {v:Value} {T:List Nat} (h:DnSt w wr g r c n cap ao v T) (hb:Below wr.heap.size wr w'):DnSt w w' g r c n cap ao v T :=
 ⟨h.bel.trans (hb.mono h.bel.size),h.m.all hb,h.res.all hb,h.out.all hb,h.own.below hb,h.lo⟩
theorem DnSt.held {w wr:World} {g r c n cap:Nat} {ao:Option Addr} {v:Value} {T:List Nat} (h:DnSt w wr g r c n cap ao v T):wr.cell? ⟨w.heap.size,0,none⟩ = some (.int .i64 (r:Nat))∧wr.cell? ⟨w.heap.size,1,none⟩ = some (.int .i64 (c:Nat))∧wr.cell? ⟨w.heap.size,2,none⟩ = some (.slice ao n cap):=⟨h.m.c0,h.m.c1,h.m.c2⟩
theorem DnSt.app {w wr:World} {g r c n cap:Nat} {ao:Option Addr} {v:Value} {T:List Nat} (h:DnSt w wr g r c n cap ao v T) {bo:Option Addr} {d:Nat} {U:List Nat} (hU:BitsAt wr bo d (mxL U)) (hl:T.length+U.length≤1000000) :
  ∃ po pc w',(Builtin.append_ #[22,22] 22 #[v,.slice bo U.length d]).run Tryz.prog wr = .ok (.slice po (T.length+U.length) pc) w'∧(BoxM w' w.heap.size (.int .i64 r) (.int .i64 c) (.slice ao n cap)∧BoxM w' g (.int .i64 r) (.int .i64 c) v∧DnSt w (w'.setCell ⟨g,2,none⟩ (.slice po (T.length+U.length) pc)) g r c n cap ao (.slice po (T.length+U.length) pc) (T ++ U)):=by
 have hlo:=h.lo
 have hlt:=h.out.lt
 obtain ⟨po,pc,w',e1,e2,e3⟩:=append_bits wr (w.heap.size+1+1) 22 v T bo d U h.own hU hl (by omega)
 have m5:=h.m.grown e3 (h.own.off h.m)
 have r5:=h.res.grown e3 (h.own.off h.res)
 have o5:=h.out.grown e3 (h.own.off h.out)
 have b5:Below w.heap.size w w':=h.bel.grown e3 h.bel.size (fun g hg=>by have:=(h.own.1.lt g hg).1;omega)
 exact ⟨po,pc,w',e1,m5,o5,b5.setCell (p:=⟨g,2,none⟩) (by show w.heap.size≤g;omega) _,m5.other (p:=⟨g,2,none⟩) (by show w.heap.size ≠ g;omega) _,r5.other (p:=⟨g,2,none⟩) (by show w.heap.size+1 ≠ g;omega) _,o5.put2 _,e2.other o5 2 _,hlo⟩
theorem DnSt.start (w:World) (r c n cap:Nat) (ao:Option Addr):DnSt w ((((w.alloc (.cells #[.int .i64 r,.int .i64 c,.slice ao n cap] 24)).alloc (.cells #[.int .i64 0,.int .i64 0,.slice none 0 0] 24)).alloc (.cells #[] 30)).alloc (.cells #[.int .i64 r,.int .i64 c,.slice (some ⟨w.heap.size+1+1,0,none⟩) 0 0] 24)) (w.heap.size+1+1+1) r c n cap ao (.slice (some ⟨w.heap.size+1+1,0,none⟩) 0 0) []:=by
 have b0:=below_alloc9 w (.cells #[.int .i64 r,.int .i64 c,.slice ao n cap] 24)
 have s0:=size_alloc9 w (.cells #[.int .i64 r,.int .i64 c,.slice ao n cap] 24)
 have y0:=BoxM.new w (.int .i64 r) (.int .i64 c) (.slice ao n cap)
 generalize w.alloc (.cells #[.int .i64 r,.int .i64 c,.slice ao n cap] 24) = w0 at *
 have b1:=below_alloc9 w0 (.cells #[.int .i64 0,.int .i64 0,.slice none 0 0] 24)
 have s1:=size_alloc9 w0 (.cells #[.int .i64 0,.int .i64 0,.slice none 0 0] 24)
 have y1:=BoxM.new w0 (.int .i64 0) (.int .i64 0) (.slice none 0 0)
 generalize w0.alloc (.cells #[.int .i64 0,.int .i64 0,.slice none 0 0] 24) = w1 at *
 rw [s0] at y1 s1
 have b2:=below_alloc9 w1 (.cells #[] 30)
 have s2:=size_alloc9 w1 (.cells #[] 30)
 have y2:=OwnB.nil w1 (w.heap.size+1+1) (by omega)
 generalize w1.alloc (.cells #[] 30) = w2 at *
 rw [s1] at y2 s2
 have b3:=below_alloc9 w2 (.cells #[.int .i64 r,.int .i64 c,.slice (some ⟨w.heap.size+1+1,0,none⟩) 0 0] 24)
 have y3:=BoxM.new w2 (.int .i64 r) (.int .i64 c) (.slice (some ⟨w.heap.size+1+1,0,none⟩) 0 0)
 rw [s2] at y3
 have b01:=b0.trans (b1.mono b0.size)
 have b012:=b01.trans (b2.mono b01.size)
 exact ⟨b012.trans (b3.mono b012.size),((y0.all b1).all b2).all b3,(y1.all b2).all b3,y3,y2.below b3,by omega⟩
theorem rdown_any (r c cap:Nat) (ao:Option Addr) (S:List Nat) (w:World) (h:Mx w ao cap r c S) :
  Calls Tryz.prog 22 #[.agg #[.int .i64 r,.int .i64 c,.slice ao S.length cap]] w fun e w'=>∃ v,e = .returned v∧NewM 0 w' r c (dnM r c S) v∧Below w.heap.size w w':=by
 have hr6:=h.2.2.1;have hc6:=h.2.2.2
 have KW:=hide (fun i (hi:i < r) w' (hb:Below w.heap.size w w')=>rrow_any r c cap i ao S w' (h.below hb) hi)
 have hw1:IntKind.i64.wrap ((r:Int) - 1) = (r:Int) - 1:=wrap_in _ (by omega)
 clear h
 generalize hn:S.length = n at *
 clear hn
 have ST:=hide (DnSt.start w r c n cap ao)
 go_enter Tryz.func22,Tryz.ntmps22
 go_wp2_with fail
 obtain ⟨g,hg⟩:∃ g,w.heap.size+1+1+1 = g:=⟨_,rfl⟩
 rw [hg] at ST ⊢
 clear hg
 rw [← dnJ_0 r c S] at ST
 go_loopw [4] (fun a wr=>∃ (t:Nat) (v:Value),t≤r∧a = .int .i64 ((r:Int) - 1 - (t:Int))∧Hid (DnSt w wr g r c n cap ao v (dnJ r c S t))) (fun a _=>(intOf a+1).toNat)
 case atStart=>exact ⟨0,_,Nat.zero_le _,by simp,ST⟩
 case round =>
  clear ST
  obtain ⟨t,v,ht,rfl,hS⟩:=hrel
  by_cases hlt:t < r
  ·obtain ⟨m,hm⟩:∃ m,r - 1 - t = m:=⟨_,rfl⟩
   have hmI:(r:Int) - 1 - (t:Int) = (m:Int):=by omega
   rw [hmI]
   have hw2:IntKind.i64.wrap ((m:Int) - 1) = (m:Int) - 1:=wrap_in _ (by omega)
   have KR:=hide (uH KW m (by omega))
   have KP:=hide (fun (wr:World) bo d (st:DnSt w wr g r c n cap ao v (dnJ r c S t)) (hU:BitsAt wr bo d (mxL (rwL c S m)))=>st.app hU (by rw [dnJ_len,rwL_len];have:=Nat.mul_le_mul (show t≤6 by omega) hc6;omega))
   rw [rwL_len,← hm,← dnJ_step,hm] at KP
   generalize hL:(dnJ r c S t).length+c = nl at *
   have HM:=hide hm
   clear hL hm
   go_wp2_with fail
   refine at_world (fun W=>DnSt w W g r c n cap ao v (dnJ r c S t)) (uH hS) ?_
   clear hS
   intro W st
   have ST:=hide (st.all (Below.refl W.heap.size W).drew)
   clear st
   have y2:=(uH ST).out.c2
   refine wp_region_held_drew (S:=(fun w'=>w'.cell? ⟨w.heap.size,0,none⟩ = some (.int .i64 (r:Nat))∧w'.cell? ⟨w.heap.size,1,none⟩ = some (.int .i64 (c:Nat))∧w'.cell? ⟨w.heap.size,2,none⟩ = some (.slice ao n cap))) (by kernel_rfl) ?_ (fun hHeld=>?_)
   ·exact (uH ST).held
   refine wpAnyH_take (i:=0) (oi:={ dst:=some 18,op:=Op.fieldAddr 24 (Operand.tmp 3) 2,type:=0,pos := "ref.go:14",after:=#[],guard:=none }) (v:=(Value.pointer (some ⟨g,2,none⟩))) rfl (by kernel_rfl) (by kernel_rfl) (by kernel_rfl) (fun _ _ _ h=>h) (Or.inl ⟨by rfl,?_⟩) (by assumption) ?_
   ·(intro w hSw;(try dsimp only at hSw);go_simp)
   simp only [Act.put,List.setIfInBounds_toArray,List.set_cons_zero,List.set_cons_succ]
   refine wpAnyH_take (i:=2) (oi:={ dst:=some 20,op:=Op.load 24 (Operand.tmp 1),type:=24,pos := "ref.go:14",after:=#[],guard:=none }) (v:=(Value.agg #[.int .i64 (r:Nat),.int .i64 (c:Nat),.slice ao n cap])) rfl (by kernel_rfl) (by kernel_rfl) (by kernel_rfl) (fun _ _ _ h=>h) (Or.inl ⟨by rfl,?_⟩) (by assumption) ?_
   ·(intro w hSw;(try dsimp only at hSw);go_simp)
   simp only [Act.put,List.setIfInBounds_toArray,List.set_cons_zero,List.set_cons_succ]
   refine wpAnyH_take (i:=3) (oi:={ dst:=some 21,op:=Op.move (Operand.tmp 4),type:=3,pos := "ref.go:14",after:=#[],guard:=none }) (v:=(Value.int .i64 (m:Nat))) rfl (by kernel_rfl) (by kernel_rfl) (by kernel_rfl) (fun _ _ _ h=>h) (Or.inl ⟨by rfl,?_⟩) (by assumption) ?_
   ·(intro w hSw;(try dsimp only at hSw);go_simp)
   simp only [Act.put,List.setIfInBounds_toArray,List.set_cons_zero,List.set_cons_succ]
   refine wpAnyH_ready (rs:=[1,4]) (by kernel_rfl) (by simp) ?_
   refine AllReadyH.cons (o:={ dst:=some 19,op:=Op.load 22 (Operand.tmp 18),type:=22,pos := "ref.go:14",after:=#[{ on:=0,ground:=Ground.data }],guard:=none }) rfl (fun K hK=>?_) (AllReadyH.cons (o:={ dst:=some 22,op:=Op.call { callee:=Callee.value (Operand.func 31),args:=#[Operand.tmp 20,Operand.tmp 21],argTypes:=#[24,3] },type:=22,pos := "ref.go:14",after:=#[{ on:=2,ground:=Ground.data },{ on:=3,ground:=Ground.data }],guard:=none }) rfl (fun K hK=>?_) AllReadyH.nil)
   ·go_simp
    refine hK.out _ _ ?_ (fun hHeld=>?_)
    ·exact (uH ST).held
    clear hK K
    refine wpAnyH_ready (rs:=[4]) (by kernel_rfl) (by simp) ?_
    refine AllReadyH.cons (o:={ dst:=some 22,op:=Op.call { callee:=Callee.value (Operand.func 31),args:=#[Operand.tmp 20,Operand.tmp 21],argTypes:=#[24,3] },type:=22,pos := "ref.go:14",after:=#[{ on:=2,ground:=Ground.data },{ on:=3,ground:=Ground.data }],guard:=none }) rfl (fun K hK=>?_) AllReadyH.nil
    go_simp
    refine (uH KR _ (uH ST).bel).mono ?_
    rintro e w4 ⟨bo,d,rfl,hq,hb⟩
    clear y2
    replace ST:=hide ((uH ST).all hb)
    have y2:=(uH ST).out.c2
    have HQ:=hide hq
    clear hb hq
    go_wp2_with fail
    refine hK.out _ _ ?_ (fun hHeld=>?_)
    ·exact (uH ST).held
    clear hK K
    refine wpAnyH_ready (rs:=[5]) (by kernel_rfl) (by simp) ?_
    refine AllReadyH.cons (o:={ dst:=some 23,op:=Op.call { callee:=Callee.builtin Builtin.append,args:=#[Operand.tmp 19,Operand.tmp 22],argTypes:=#[22,22] },type:=22,pos := "ref.go:14",after:=#[{ on:=1,ground:=Ground.data },{ on:=4,ground:=Ground.data },{ on:=4,ground:=Ground.chain }],guard:=none }) rfl (fun K hK=>?_) AllReadyH.nil
    have APP:=hide (uH KP _ _ _ (uH ST) (uH HQ))
    refine step_append_ex _ (by rfl) _ _ 22 (by rfl) _ _ _ _ (by rfl) (by rfl) (uH APP) ?_
    clear APP y2
    rintro po pc w5 ⟨b5,x5,s5⟩
    have HS5:=hide (show w5.cell? ⟨w.heap.size,0,none⟩ = some (.int .i64 (r:Nat))∧w5.cell? ⟨w.heap.size,1,none⟩ = some (.int .i64 (c:Nat))∧w5.cell? ⟨w.heap.size,2,none⟩ = some (.slice ao n cap) from ⟨b5.c0,b5.c1,b5.c2⟩)
    have HS6:=hide (DnSt.held s5)
    have y2:=x5.c2;have f2:=x5.free 2
    have S5:=hide s5
    clear b5 x5 s5 ST HQ
    refine hK.out _ _ ?_ (fun hHeld=>?_)
    ·exact uH HS5
    clear hK K
    refine wpAnyH_take (i:=6) (oi:={ dst:=some 24,op:=Op.fieldAddr 24 (Operand.tmp 3) 2,type:=0,pos := "ref.go:14",after:=#[{ on:=0,ground:=Ground.phase },{ on:=1,ground:=Ground.phase },{ on:=2,ground:=Ground.phase },{ on:=3,ground:=Ground.phase },{ on:=4,ground:=Ground.phase },{ on:=5,ground:=Ground.phase }],guard:=none }) (v:=(Value.pointer (some ⟨g,2,none⟩))) rfl (by kernel_rfl) (by kernel_rfl) (by kernel_rfl) (fun _ _ _ h=>h) (Or.inl ⟨by rfl,?_⟩) (by assumption) ?_
    ·(intro w hSw;(try dsimp only at hSw);go_simp)
    simp only [Act.put,List.setIfInBounds_toArray,List.set_cons_zero,List.set_cons_succ]
    refine wpAnyH_ready (rs:=[7]) (by kernel_rfl) (by simp) ?_
    refine AllReadyH.cons (o:={ dst:=none,op:=Op.store 22 (Operand.tmp 24) (Operand.tmp 23),type:=0,pos := "ref.go:14",after:=#[{ on:=6,ground:=Ground.data },{ on:=5,ground:=Ground.data },{ on:=5,ground:=Ground.chain },{ on:=0,ground:=Ground.phase },{ on:=1,ground:=Ground.phase },{ on:=2,ground:=Ground.phase },{ on:=3,ground:=Ground.phase },{ on:=4,ground:=Ground.phase },{ on:=5,ground:=Ground.phase }],guard:=none }) rfl (fun K hK=>?_) AllReadyH.nil
    go_simp
    refine hK.out _ _ ?_ (fun hHeld=>?_)
    ·exact uH HS6
    clear hK K
    refine wpAnyH_done (by kernel_rfl) ?_ _
    clear y2 f2 HS5 HS6
    go_wp2_with fail
    go_round
    case rel=>exact ⟨t+1,_,by omega,by first | go_num | (simp;omega),S5⟩
    case measure=>first | (simp [intOf];done) | (simp [intOf];omega)
   ·go_simp
    refine (uH KR _ (uH ST).bel).mono ?_
    rintro e w4 ⟨bo,d,rfl,hq,hb⟩
    clear y2
    replace ST:=hide ((uH ST).all hb)
    have y2:=(uH ST).out.c2
    have HQ:=hide hq
    clear hb hq
    go_wp2_with fail
    refine hK.out _ _ ?_ (fun hHeld=>?_)
    ·exact (uH ST).held
    clear hK K
    refine wpAnyH_ready (rs:=[1]) (by kernel_rfl) (by simp) ?_
    refine AllReadyH.cons (o:={ dst:=some 19,op:=Op.load 22 (Operand.tmp 18),type:=22,pos := "ref.go:14",after:=#[{ on:=0,ground:=Ground.data }],guard:=none }) rfl (fun K hK=>?_) AllReadyH.nil
    go_simp
    refine hK.out _ _ ?_ (fun hHeld=>?_)
    ·exact (uH ST).held
    clear hK K
    refine wpAnyH_ready (rs:=[5]) (by kernel_rfl) (by simp) ?_
    refine AllReadyH.cons (o:={ dst:=some 23,op:=Op.call { callee:=Callee.builtin Builtin.append,args:=#[Operand.tmp 19,Operand.tmp 22],argTypes:=#[22,22] },type:=22,pos := "ref.go:14",after:=#[{ on:=1,ground:=Ground.data },{ on:=4,ground:=Ground.data },{ on:=4,ground:=Ground.chain }],guard:=none }) rfl (fun K hK=>?_) AllReadyH.nil
    have APP:=hide (uH KP _ _ _ (uH ST) (uH HQ))
    refine step_append_ex _ (by rfl) _ _ 22 (by rfl) _ _ _ _ (by rfl) (by rfl) (uH APP) ?_
    clear APP y2
    rintro po pc w5 ⟨b5,x5,s5⟩
    have HS5:=hide (show w5.cell? ⟨w.heap.size,0,none⟩ = some (.int .i64 (r:Nat))∧w5.cell? ⟨w.heap.size,1,none⟩ = some (.int .i64 (c:Nat))∧w5.cell? ⟨w.heap.size,2,none⟩ = some (.slice ao n cap) from ⟨b5.c0,b5.c1,b5.c2⟩)
    have HS6:=hide (DnSt.held s5)
    have y2:=x5.c2;have f2:=x5.free 2
    have S5:=hide s5
    clear b5 x5 s5 ST HQ
    refine hK.out _ _ ?_ (fun hHeld=>?_)
    ·exact uH HS5
    clear hK K
    refine wpAnyH_take (i:=6) (oi:={ dst:=some 24,op:=Op.fieldAddr 24 (Operand.tmp 3) 2,type:=0,pos := "ref.go:14",after:=#[{ on:=0,ground:=Ground.phase },{ on:=1,ground:=Ground.phase },{ on:=2,ground:=Ground.phase },{ on:=3,ground:=Ground.phase },{ on:=4,ground:=Ground.phase },{ on:=5,ground:=Ground.phase }],guard:=none }) (v:=(Value.pointer (some ⟨g,2,none⟩))) rfl (by kernel_rfl) (by kernel_rfl) (by kernel_rfl) (fun _ _ _ h=>h) (Or.inl ⟨by rfl,?_⟩) (by assumption) ?_
    ·(intro w hSw;(try dsimp only at hSw);go_simp)
    simp only [Act.put,List.setIfInBounds_toArray,List.set_cons_zero,List.set_cons_succ]
    refine wpAnyH_ready (rs:=[7]) (by kernel_rfl) (by simp) ?_
    refine AllReadyH.cons (o:={ dst:=none,op:=Op.store 22 (Operand.tmp 24) (Operand.tmp 23),type:=0,pos := "ref.go:14",after:=#[{ on:=6,ground:=Ground.data },{ on:=5,ground:=Ground.data },{ on:=5,ground:=Ground.chain },{ on:=0,ground:=Ground.phase },{ on:=1,ground:=Ground.phase },{ on:=2,ground:=Ground.phase },{ on:=3,ground:=Ground.phase },{ on:=4,ground:=Ground.phase },{ on:=5,ground:=Ground.phase }],guard:=none }) rfl (fun K hK=>?_) AllReadyH.nil
    go_simp
    refine hK.out _ _ ?_ (fun hHeld=>?_)
    ·exact uH HS6
    clear hK K
    refine wpAnyH_done (by kernel_rfl) ?_ _
    clear y2 f2 HS5 HS6
    go_wp2_with fail
    go_round
    case rel=>exact ⟨t+1,_,by omega,by first | go_num | (simp;omega),S5⟩
    case measure=>first | (simp [intOf];done) | (simp [intOf];omega)
  ·have htt:t = r:=by omega
   subst htt
   have hz:(t:Int) - 1 - (t:Int) = -1:=by omega
   rw [hz]
   rw [dnJ_all] at hS
   obtain ⟨po,pc,rfl,hq⟩:=(uH hS).own.bits
   have y0:=(uH hS).out.c0;have y1:=(uH hS).out.c1;have y2:=(uH hS).out.c2
   have r0:=(uH hS).res.c0;have r1:=(uH hS).res.c1;have r2:=(uH hS).res.c2
   have f0:=(uH hS).res.free 0;have f1:=(uH hS).res.free 1;have f2:=(uH hS).res.free 2
   have XP:=(uH hS).res.put (.int .i64 t) (.int .i64 c) (.slice po (dnM t c S).length pc)
   have z0:=XP.c0;have z1:=XP.c1;have z2:=XP.c2
   have Q:=hide (BitsAt.putM hq (uH hS).res (.int .i64 t) (.int .i64 c) (.slice po (dnM t c S).length pc))
   have BP:=hide (below_putM (uH hS).bel (b:=w.heap.size+1) (by omega) (.int .i64 t) (.int .i64 c) (.slice po (dnM t c S).length pc))
   clear XP hS hq
   go_wp2_with fail
   exact bodyPost_ret (v:=.agg #[.int .i64 t,.int .i64 c,.slice po (dnM t c S).length pc]) (by simp [results,Tryz.results22,go_sem,z0,z1,z2]) rfl ⟨_,rfl,NewM.any (uH Q),uH BP⟩
theorem rleft_of (r c n n1 n2:Nat) (cap:Nat) (ao:Option Addr) (T1 T2 T3:List Nat) (w:World) (h1:T1.length = n1) (h2:T2.length = n2)
  (C1:∀ w',Below w.heap.size w w'→Calls Tryz.prog 28 #[.agg #[.int .i64 r,.int .i64 c,.slice ao n cap]] w' fun e w''=>∃ v,e = .returned v∧NewM 0 w'' c r T1 v∧Below w'.heap.size w' w'')
  (C2:∀ w' po pc,BitsAt w' po pc (mxL T1)→Calls Tryz.prog 22 #[.agg #[.int .i64 c,.int .i64 r,.slice po n1 pc]] w' fun e w''=>∃ v,e = .returned v∧NewM 0 w'' c r T2 v∧Below w'.heap.size w' w'')
  (C3:∀ w' po pc,BitsAt w' po pc (mxL T2)→Calls Tryz.prog 28 #[.agg #[.int .i64 c,.int .i64 r,.slice po n2 pc]] w' fun e w''=>∃ v,e = .returned v∧NewM 0 w'' r c T3 v∧Below w'.heap.size w' w'') :
  Calls Tryz.prog 23 #[.agg #[.int .i64 r,.int .i64 c,.slice ao n cap]] w fun e w'=>∃ v,e = .returned v∧NewM 0 w' r c T3 v∧Below w.heap.size w w':=by
 have K1:=hide C1;have K2:=hide C2;have K3:=hide C3;have H1:=hide h1;have H2:=hide h2
 have KB:=hide (fun w1=>boxes2 w (.int .i64 r) (.int .i64 c) (.slice ao n cap) (.int .i64 0) (.int .i64 0) (.slice none 0 0) w1)
 have s0:=size_alloc9 w (.cells #[.int .i64 r,.int .i64 c,.slice ao n cap] 24)
 have s1:=size_alloc9 (w.alloc (.cells #[.int .i64 r,.int .i64 c,.slice ao n cap] 24)) (.cells #[.int .i64 0,.int .i64 0,.slice none 0 0] 24)
 rw [s0] at s1
 have HZ:=hide s1
 obtain ⟨hB,hA,hR⟩:=uH KB _ (Below.refl _ _)
 have HB:=hide hB;have HR:=hide hR
 clear C1 C2 C3 h1 h2 s0 s1 hB hA hR KB
 go_enter Tryz.func23,Tryz.ntmps23
 go_wp2_with fail
 refine (uH K1 _ (uH HB)).mono ?_
 rintro e w1 ⟨v,rfl,⟨po,pc,rfl,_,q1⟩,hb⟩
 replace HB:=hide ((uH HB).trans (hb.mono (uH HB).size))
 replace HR:=hide ((uH HR).all hb)
 have G:=hide (uH K2 _ _ _ q1)
 rw [uH H1]
 clear hb q1 K1 K2 HZ H1
 go_wp2_with fail
 refine (uH G).mono ?_
 rintro e w2 ⟨v,rfl,⟨po2,pc2,rfl,_,q2⟩,hb⟩
 replace HB:=hide ((uH HB).trans (hb.mono (uH HB).size))
 replace HR:=hide ((uH HR).all hb)
 have G3:=hide (uH K3 _ _ _ q2)
 rw [uH H2]
 clear hb q2 K3 G H2
 go_wp2_with fail
 refine (uH G3).mono ?_
 rintro e w3 ⟨v,rfl,⟨po3,pc3,rfl,_,q3⟩,hb⟩
 replace HB:=hide ((uH HB).trans (hb.mono (uH HB).size))
 have X:=(uH HR).all hb
 generalize hn3:T3.length = n3 at *
 have r0:=X.c0;have r1:=X.c1;have r2:=X.c2
 have f0:=X.free 0;have f1:=X.free 1;have f2:=X.free 2
 have XP:=X.put (.int .i64 r) (.int .i64 c) (.slice po3 n3 pc3)
 have z0:=XP.c0;have z1:=XP.c1;have z2:=XP.c2
 have Q:=hide (BitsAt.putM q3 X (.int .i64 r) (.int .i64 c) (.slice po3 n3 pc3))
 have BP:=hide (below_putM (uH HB) (b:=w.heap.size+1) (by omega) (.int .i64 r) (.int .i64 c) (.slice po3 n3 pc3))
 have HN3:=hide hn3
 clear XP X hb q3 HR HB G3 hn3
 go_wp2_with fail
 refine bodyPost_ret (v:=.agg #[.int .i64 r,.int .i64 c,.slice po3 n3 pc3]) (by simp [results,Tryz.results23,go_sem,z0,z1,z2]) rfl ⟨_,rfl,?_,uH BP⟩
 have:=NewM.any (r:=r) (c:=c) (uH Q)
 rw [uH HN3] at this
 exact this
theorem rleft_any (r c cap:Nat) (ao:Option Addr) (S:List Nat) (w:World) (h:Mx w ao cap r c S) :
  Calls Tryz.prog 23 #[.agg #[.int .i64 r,.int .i64 c,.slice ao S.length cap]] w fun e w'=>∃ v,e = .returned v∧NewM 0 w' r c (lfM r c S) v∧Below w.heap.size w w':=by
 have hr:=h.2.2.1;have hc:=h.2.2.2
 refine rleft_of r c S.length (c * r) (c * r) cap ao (tuM r c S) (dnM c r (tuM r c S)) (lfM r c S) w (tu_len _ _ _) (dn_len _ _ _) (fun w' hb=>rturn_any r c cap ao S w' (h.below hb)) ?_ ?_
 ·intro w' po pc hq
  have:=rdown_any c r pc po (tuM r c S) w' ⟨hq,tu_len _ _ _,hc,hr⟩
  rw [tu_len] at this
  exact this
 ·intro w' po pc hq
  have:=rturn_any c r pc po (dnM c r (tuM r c S)) w' ⟨hq,dn_len _ _ _,hc,hr⟩
  rw [dn_len] at this
  rw [← lf_tu r c S]
  exact this
end Go.Proofs.YtenpggicmfhhdaaGreatDoor
namespace Go.Proofs.YtenpggicmfhhdaaGreatDoor
open Go.RowKit
structure Mr where
 ao:Option Addr
 cap:Nat
 V:List Nat
 tau:Nat
 beta:Nat
def mrAt (R:List Mr) (k:Nat):Mr:=R[k]?.getD ⟨none,0,[],0,0⟩
def AvM (g:Option Nat) (x:Mr):Prop:=x.V = [] ∨ ∃ b off,x.ao = some ⟨b,off,none⟩∧some b ≠ g
theorem AvM.new {w:World} {x:Mr} (h:BitsAt w x.ao x.cap (mxL x.V)) {g:Nat} (hg:w.heap.size≤g):AvM (some g) x:=by
 rcases h.2.2 with e | ⟨b,off,e,hb,_⟩
 ·exact .inl (by cases hV:x.V with
   | nil=>rfl
   | cons y ys=>rw [hV] at e;cases e)
 ·exact .inr ⟨b,off,e,by intro e;cases e;omega⟩
theorem bits_grownAv {w w':World} {x:Mr} {g:Option Nat} (h:BitsAt w x.ao x.cap (mxL x.V)) (ha:AvM g x) (hg:w.grownBy w' g):BitsAt w' x.ao x.cap (mxL x.V):=by
 refine ⟨h.1,h.2.1,?_⟩
 rcases h.2.2 with e | ⟨b,off,e,hb,hc⟩
 ·exact .inl e
 ·rcases ha with e' | ⟨b',off',e',hne⟩
  ·exact .inl (by rw [e'];rfl)
  ·rw [e] at e'
   simp only [Option.some.injEq,Addr.mk.injEq] at e'
   obtain ⟨rfl,rfl,_⟩:=e'
   refine .inr ⟨b,off,e,Nat.lt_of_lt_of_le hb hg.size,fun i hi=>?_⟩
   rw [World.cell?_of_block (a:=⟨b,off+i,none⟩) (hg.block b hb hne)]
   exact hc i hi
theorem ownsRow_grownM {w w':World} {base e size n:Nat} {v:Value} {xs:List Value} {g:Option Nat} (h:w.ownsRow base e size v n xs) (hg:w.grownBy w' g) (hne:∀ k,v.ownBlock = some k→some k ≠ g):w'.ownsRow base e size v n xs:=by
 refine ⟨h.1,?_⟩
 rcases h.2 with h | ⟨k,cap,cur,hv,hb,hh,hr⟩
 ·exact .inl h
 ·have hk:k < w.heap.size:=(Array.getElem?_eq_some_iff.1 hh).1
  exact .inr ⟨k,cap,cur,hv,hb,(hg.block k hk (hne k (by rw [hv];rfl))).trans hh,hr⟩
end Go.Proofs.YtenpggicmfhhdaaGreatDoor
namespace Go.Proofs.YtenpggicmfhhdaaGreatDoor
open Go.RowKit
attribute [local go_sem ↓] Go.wp_at_zero Go.wp_at_succ
def OffB (g:Option Nat) (ao:Option Addr) (I:List Int):Prop:=I = [] ∨ ∃ b off,ao = some ⟨b,off,none⟩∧some b ≠ g
theorem OffB.new {H:Nat} {ao:Option Addr} {I:List Int} (h:NewB H ao I) {g:Option Nat} (hg:∀ k,g = some k→k < H):OffB g ao I:=by
 rcases h with e | ⟨b,off,e1,e2⟩
 ·exact .inl e
 ·exact .inr ⟨b,off,e1,fun e=>by have:=hg b e.symm;omega⟩
theorem OffB.old {w:World} {ao:Option Addr} {c:Nat} {I:List Int} (h:BitsAt w ao c I) {g:Option Nat} (hg:∀ k,g = some k→w.heap.size≤k):OffB g ao I:=by
 rcases h.2.2 with e | ⟨b,off,e1,e2,_⟩
 ·exact .inl e
 ·exact .inr ⟨b,off,e1,fun e=>by have:=hg b e.symm;omega⟩
theorem bits_grownOff {w w':World} {ao:Option Addr} {c:Nat} {I:List Int} {g:Option Nat} (h:BitsAt w ao c I) (ha:OffB g ao I) (hg:w.grownBy w' g):BitsAt w' ao c I:=by
 refine ⟨h.1,h.2.1,?_⟩
 rcases h.2.2 with e | ⟨b,off,e,hb,hc⟩
 ·exact .inl e
 ·rcases ha with e' | ⟨b',off',e',hne⟩
  ·exact .inl e'
  ·rw [e] at e'
   simp only [Option.some.injEq,Addr.mk.injEq] at e'
   obtain ⟨rfl,rfl,_⟩:=e'
   refine .inr ⟨b,off,e,Nat.lt_of_lt_of_le hb hg.size,fun i hi=>?_⟩
   rw [World.cell?_of_block (a:=⟨b,off+i,none⟩) (hg.block b hb hne)]
   exact hc i hi
end Go.Proofs.YtenpggicmfhhdaaGreatDoor
namespace Go.Proofs.YtenpggicmfhhdaaGreatDoor
open Go.RowKit
attribute [local go_sem ↓] Go.wp_at_zero Go.wp_at_succ
def nilAt (N:List Rw) (i c:Nat):Prop:=(nmAt (rwAt N i).R c).L.length = 0
end Go.Proofs.YtenpggicmfhhdaaGreatDoor
namespace Go.Proofs.YtenpggicmfhhdaaGreatDoor
open Go.RowKit
def KK:Nat→Nat
 | 0=>2098
 | c+1=>2 * KK c+1
end Go.Proofs.YtenpggicmfhhdaaGreatDoor
