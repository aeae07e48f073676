/- Part 46 of the texts. -/
import Derived.Test.YtlnphkioddknfaaGreatDoorPartq44
import Derived.Test.YtlnphkioddknfaaGreatDoorPartq29
import Derived.Test.YtlnphkioddknfaaGreatDoorPartq28
import Derived.Test.YtlnphkioddknfaaGreatDoorPartq23
import Derived.Test.YtlnphkioddknfaaGreatDoorPartq34
import Derived.Test.YtlnphkioddknfaaGreatDoorPartq41
import Derived.Test.YtlnphkioddknfaaGreatDoorPartq32
import Derived.Test.YtlnphkioddknfaaGreatDoorPartq35
set_option maxHeartbeats 16000000
set_option maxRecDepth 20000
namespace Go.Proofs.YtlnphkioddknfaaGreatDoor
open Go.RowKit
attribute [local go_sem ↓] Go.wp_at_zero Go.wp_at_succ
theorem rflat17_of (r c n cap m s:Nat) (ao:Option Addr) (D A G:Nat→Nat) (O:Nat→Int) (o:Bool) (w:World) (hr:r≤6) (_hc:c≤6) (hm:min r c = m) (hG0:G 0 = 0)
  (C1:∀ w' k,Below w.heap.size w w'→k < m→Calls Tryz.prog 42 #[.agg #[.int .i64 r,.int .i64 c,.slice ao n cap],.int .i64 (k:Nat),.int .i64 (k:Nat)] w' fun e w''=>e = .returned (.int .u64 (D k:Nat))∧Below w'.heap.size w' w'')
  (C2:∀ w' k,k < m→Calls Tryz.prog 67 #[.int .u64 (D k:Nat)] w' fun e w''=>e = .returned (.int .u64 (A k:Nat))∧Below w'.heap.size w' w'')
  (C3:∀ w' k,k < m→Calls Tryz.prog 66 #[.int .u64 (G k:Nat),.int .u64 (A k:Nat)] w' fun e w''=>e = .returned (.int .u64 (G (k+1):Nat))∧Below w'.heap.size w' w'')
  (C4:∀ w',Calls Tryz.prog 69 #[.int .u64 (G m:Nat),.int .i64 (-40)] w' fun e w''=>e = .returned (.int .u64 (s:Nat))∧Below w'.heap.size w' w'')
  (C5:∀ w' k,k < m→Calls Tryz.prog 68 #[.int .u64 s,.int .u64 (A k:Nat)] w' fun e w''=>(∃ b:Bool,e = .returned (.tuple #[.int .i64 (O k),.bool b]))∧Below w'.heap.size w' w'')
  (hy:∀ k,k < m→0≤O k→o = true) (hn:(∀ k,k < m→O k < 0)→o = false) :
  Calls Tryz.prog 20 #[.agg #[.int .i64 r,.int .i64 c,.slice ao n cap]] w fun e w'=>e = .returned (.bool o)∧Below w.heap.size w w':=by
 have HB:=hide (below_alloc9 w (.cells #[.int .i64 r,.int .i64 c,.slice ao n cap] 24))
 have HX:=hide (BoxM.new w (.int .i64 r) (.int .i64 c) (.slice ao n cap))
 have K1:=hide C1;have K2:=hide C2;have K3:=hide C3;have K4:=hide C4;have K5:=hide C5;have HY:=hide hy;have HN:=hide hn
 have HM:=hide hm
 have G0:=hide hG0
 have hG0':((G 0:Nat):Int) = 0:=by rw [hG0];rfl
 clear C1 C2 C3 C4 C5 hy hn hm hG0
 go_enter Tryz.func20,Tryz.ntmps20
 go_wp2_with fail
 go_loopw [3,4] (fun g a wr=>∃ k:Nat,k≤m∧g = .int .u64 (G k:Nat)∧a = .int .i64 k∧Hid (BoxM wr w.heap.size (.int .i64 r) (.int .i64 c) (.slice ao n cap))∧Hid (Below w.heap.size w wr)) (fun _ a _=>m - (intOf a).toNat)
 case atStart=>exact ⟨0,Nat.zero_le _,by rw [hG0'],rfl,HX,HB⟩
 case round =>
  clear HX HB hG0'
  obtain ⟨k,hk,rfl,rfl,hX,hB⟩:=hrel
  by_cases hlt:k < m
  ·have hkr:(k:Int) < (r:Int):=by have:=uH HM;omega
   have hkc:(k:Int) < (c:Int):=by have:=uH HM;omega
   have D1:=hide (fun w' hb=>uH K1 w' k hb hlt);have D2:=hide (fun w'=>uH K2 w' k hlt);have D3:=hide (fun w'=>uH K3 w' k hlt)
   generalize D k = dk at *
   generalize A k = ak at *
   generalize hgk:G k = gk at *
   generalize hg1:G (k+1) = g1 at *
   have HG1:=hide hg1
   clear hgk hg1
   have hw1:IntKind.i64.wrap ((k:Int)+1) = (k:Int)+1:=wrap_in _ (by omega)
   have y0:=(uH hX).c0;have y1:=(uH hX).c1;have y2:=(uH hX).c2
   go_wp2_with fail
   clear y0 y1 y2
   refine (uH D1 _ (uH hB)).mono ?_
   rintro e w1 ⟨rfl,hb⟩
   replace hX:=hide ((uH hX).all hb)
   replace hB:=hide ((uH hB).trans (hb.mono (uH hB).size))
   clear hb D1
   go_wp2_with fail
   refine (uH D2 _).mono ?_
   rintro e w2 ⟨rfl,hb⟩
   replace hX:=hide ((uH hX).all hb)
   replace hB:=hide ((uH hB).trans (hb.mono (uH hB).size))
   clear hb D2
   go_wp2_with fail
   refine (uH D3 _).mono ?_
   rintro e w3 ⟨rfl,hb⟩
   replace hX:=hide ((uH hX).all hb)
   replace hB:=hide ((uH hB).trans (hb.mono (uH hB).size))
   clear hb D3
   go_wp2_with fail
   go_round
   case rel=>exact ⟨k+1,by omega,by rw [uH HG1],by go_num,hX,hB⟩
   case measure=>first | (simp [intOf];done) | (simp [intOf];omega)
  ·have hkm:k = m:=by omega
   rw [hkm]
   have hex:(¬ (m:Int) < (r:Int)) ∨ ((m:Int) < (r:Int)∧¬ (m:Int) < (c:Int)):=by have:=uH HM;omega
   clear hlt hk hkm
   generalize hgm:G m = gm at *
   have y0:=(uH hX).c0;have y1:=(uH hX).c1
   rcases hex with hex | ⟨hex,hex2⟩
   all_goals
    go_wp2_with fail
    clear y0 y1
    go_loopw [5] (fun a wr=>∃ k:Nat,k≤m∧a = .int .i64 k∧Hid (∀ j,j < k→O j < 0)∧Hid (BoxM wr w.heap.size (.int .i64 r) (.int .i64 c) (.slice ao n cap))∧Hid (Below w.heap.size w wr)) (fun a _=>m - (intOf a).toNat)
    case atStart=>exact ⟨0,Nat.zero_le _,rfl,fun j hj=>absurd hj (Nat.not_lt_zero j),hX,hB⟩
    case round =>
     clear hX hB
     obtain ⟨k,hk,rfl,hF,hX,hB⟩:=hrel
     by_cases hlt:k < m
     ·have hkr:(k:Int) < (r:Int):=by have:=uH HM;omega
      have hkc:(k:Int) < (c:Int):=by have:=uH HM;omega
      have D1:=hide (fun w' (hb:Below wr.heap.size wr w')=>uH K1 w' k ((uH hB).trans (hb.mono (uH hB).size)) hlt)
      have D2:=hide (fun w' (_:Below wr.heap.size wr w')=>uH K2 w' k hlt)
      have D4:=hide (fun w' (_:Below wr.heap.size wr w')=>uH K4 w')
      have D5:=hide (fun w' (_:Below wr.heap.size wr w')=>uH K5 w' k hlt)
      have YY:=hide (uH HY k hlt)
      have GF:=hide (fun (e:O k < 0)=>(show ∀ j,j < k+1→O j < 0 from fun j hj=>by
       rcases Nat.lt_or_ge j k with g | g
       ·exact uH hF j g
       ·rw [show j = k by omega];exact e))
      generalize D k = dk at *
      generalize A k = ak at *
      generalize O k = ok at *
      have hw1:IntKind.i64.wrap ((k:Int)+1) = (k:Int)+1:=wrap_in _ (by omega)
      have y0:=(uH hX).c0;have y1:=(uH hX).c1;have y2:=(uH hX).c2
      have HK:=hide (fun w' (h':Below wr.heap.size wr w')=>(show Below wr.heap.size wr w'∧w'.cell? ⟨w.heap.size,0,none⟩ = some (.int .i64 (r:Nat))∧w'.cell? ⟨w.heap.size,1,none⟩ = some (.int .i64 (c:Nat))∧w'.cell? ⟨w.heap.size,2,none⟩ = some (.slice ao n cap) from ⟨h',cell_keep y0 h',cell_keep y1 h',cell_keep y2 h'⟩))
      clear y2
      go_wp2_with fail
      clear y0 y1
      go_region_held3 (fun w'=>Below wr.heap.size wr w'∧w'.cell? ⟨w.heap.size,0,none⟩ = some (.int .i64 (r:Nat))∧w'.cell? ⟨w.heap.size,1,none⟩ = some (.int .i64 (c:Nat))∧w'.cell? ⟨w.heap.size,2,none⟩ = some (.slice ao n cap))
       (first | exact uH HK _ (Below.refl _ _).drew | exact uH HK _ (by assumption) | fail "KK")
       (first | (go_at_call 42;with_reducible refine Calls.mono (uH D1 _ (And.left (by assumption))) ?_;rintro e w4 ⟨rfl,hb1⟩;have hB1:Below wr.heap.size wr w4:=Below.trans (And.left (by assumption)) (hb1.mono (Below.size (And.left (by assumption))));clear hb1) | (go_at_call 67;with_reducible refine Calls.mono (uH D2 _ (And.left (by assumption))) ?_;rintro e w4 ⟨rfl,hb1⟩;have hB1:Below wr.heap.size wr w4:=Below.trans (And.left (by assumption)) (hb1.mono (Below.size (And.left (by assumption))));clear hb1) | (go_at_call 69;with_reducible refine Calls.mono (uH D4 _ (And.left (by assumption))) ?_;rintro e w4 ⟨rfl,hb1⟩;have hB1:Below wr.heap.size wr w4:=Below.trans (And.left (by assumption)) (hb1.mono (Below.size (And.left (by assumption))));clear hb1) | (go_at_call 68;with_reducible refine Calls.mono (uH D5 _ (And.left (by assumption))) ?_;rintro e w4 ⟨⟨b,rfl⟩,hb1⟩;have hB1:Below wr.heap.size wr w4:=Below.trans (And.left (by assumption)) (hb1.mono (Below.size (And.left (by assumption))));clear hb1) | fail "NO ARM")
      all_goals
       by_cases hok:0≤ok
       ·have hy:=hide (uH YY hok)
        go_wp2_with fail
        exact bodyPost_ret (v:=.bool true) (by simp [results,Tryz.results20,go_sem]) rfl ⟨by rw [uH hy],(uH hB).trans (Below.mono (And.left (by assumption)) (uH hB).size)⟩
       ·have hF2:=hide (uH GF (by omega))
        go_wp2_with fail
        go_round
        case rel=>exact ⟨k+1,by omega,by go_num,hF2,hide ((uH hX).all (And.left (by assumption))),hide ((uH hB).trans (Below.mono (And.left (by assumption)) (uH hB).size))⟩
        case measure=>first | (simp [intOf];done) | (simp [intOf];omega)
     ·have hkm:k = m:=by omega
      have hno:=hide (uH HN (fun j hj=>uH hF j (by omega)))
      have y0:=(uH hX).c0;have y1:=(uH hX).c1
      rw [hkm]
      clear hlt hk hkm
      go_wp2_with fail
      exact bodyPost_ret (v:=.bool false) (by simp [results,Tryz.results20,go_sem]) rfl ⟨by rw [uH hno],uH hB⟩
theorem rflat17_any (r c cap:Nat) (ao:Option Addr) (S:List Nat) (w:World) (h:Mx w ao cap r c S) :
  Calls Tryz.prog 20 #[.agg #[.int .i64 r,.int .i64 c,.slice ao S.length cap]] w fun e w'=>e = .returned (.bool (ftB r c S))∧Below w.heap.size w w':=by
 have hl:=dgL_len r c S
 have hD:∀ k,elM c S k k < 18446744073709551616:=fun k=>h.el_lt k k
 have hA:∀ a,fR a < 18446744073709551616:=fun a=>by unfold fR;omega
 have hGl:∀ xs:List Nat,bgF 0 xs < 18446744073709551616:=fun xs=>by
  have e:=bgK_all (mxL xs)
  rw [toN_mxL] at e
  rw [← e]
  exact bgK_lt _ _
 have tk:∀ k,k < min r c→(dgL r c S).take (k+1) = (dgL r c S).take k ++ [elM c S k k]:=fun k hk=>by
  rw [List.take_add_one]
  congr 1
  unfold dgL
  rw [List.getElem?_map,List.getElem?_range hk]
  rfl
 have tf:(dgL r c S).take (min r c) = dgL r c S:=List.take_of_length_le (by rw [hl];exact Nat.le_refl _)
 refine rflat17_of r c S.length cap (min r c) (xV (bgF 0 (dgL r c S)) (-40)) ao (fun k=>elM c S k k) (fun k=>fR (elM c S k k)) (fun k=>bgF 0 ((dgL r c S).take k)) (fun k=>cO (xV (bgF 0 (dgL r c S)) (-40)) (fR (elM c S k k))) (ftB r c S) w h.2.2.1 h.2.2.2 rfl rfl (fun w' k hb hk=>rat_any r c cap k k ao S w' (h.below hb) (by omega) (by omega)) (fun w' k hk=>(r8abs_any _ w' (hD k)).mono ?_) (fun w' k hk=>?_) (fun w'=>?_) (fun w' k hk=>(rorder_any _ _ w' (xV_lt _ _ (hGl _)) (hA _)).mono ?_) (fun k hk h0=>?_) (fun h0=>?_)
 ·rintro e w'' ⟨rfl,rfl⟩
  exact ⟨rfl,Below.refl _ _⟩
 ·have:=r8max_any (bgF 0 ((dgL r c S).take k)) (fR (elM c S k k)) w' (hGl _) (hA _)
  rwa [← bgF_snoc,← tk k hk] at this
 ·have:=r9shift_any (bgF 0 (dgL r c S)) (-40) w' (hGl _) (by omega)
  show Calls _ _ #[.int .u64 (bgF 0 ((dgL r c S).take (min r c)):Nat),_] _ _
  rwa [tf]
 ·rintro e w'' ⟨rfl,hb⟩
  exact ⟨⟨_,rfl⟩,hb⟩
 ·unfold ftB
  rw [List.any_eq_true]
  refine ⟨elM c S k k,List.mem_map.2 ⟨k,List.mem_range.2 hk,rfl⟩,?_⟩
  unfold ltB
  rw [decide_eq_false (by omega)]
  rfl
 ·unfold ftB
  rw [List.any_eq_false]
  intro x hx
  obtain ⟨k,hk,rfl⟩:=List.mem_map.1 hx
  have:=h0 k (List.mem_range.1 hk)
  unfold ltB
  rw [decide_eq_true (by omega)]
  decide
end Go.Proofs.YtlnphkioddknfaaGreatDoor
namespace Go.Proofs.YtlnphkioddknfaaGreatDoor
open Go.RowKit
attribute [local go_sem ↓] Go.wp_at_zero Go.wp_at_succ
structure AnsAt (wr:World) (H g:Nat) (p q:Nat) (so:Option Addr) (sd:Nat) (S:List Nat):Prop where
 box:BoxM wr g (.int .i64 p) (.int .i64 q) (.slice so S.length sd)
 bits:BitsAt wr so sd (mxL S)
 new:NewB H so (mxL S)
theorem AnsAt.all {wr w':World} {H g p q:Nat} {so:Option Addr} {sd:Nat} {S:List Nat} (h:AnsAt wr H g p q so sd S) (hb:Below wr.heap.size wr w'):AnsAt w' H g p q so sd S:=⟨h.box.all hb,h.bits.below hb,h.new⟩
theorem AnsAt.put {wr:World} {H g p q:Nat} {so:Option Addr} {sd:Nat} {S:List Nat} (h:AnsAt wr H g p q so sd S) {b k:Nat} {z0:Int} (hc:wr.cell? ⟨b,k,none⟩ = some (.int .u64 z0)) (hb:b < H) (z:Int):AnsAt (wr.setCell ⟨b,k,none⟩ (.int .u64 z)) H g p q so sd S :=
 ⟨h.box.other (p:=⟨b,k,none⟩) (h.box.away hc) _,h.bits.far h.new hb k _,h.new⟩
end Go.Proofs.YtlnphkioddknfaaGreatDoor
namespace Go.Proofs.YtlnphkioddknfaaGreatDoor
open Go.RowKit
attribute [local go_sem ↓] Go.wp_at_zero Go.wp_at_succ
def ThAns (w':World) (ok:Bool) (r k c:Nat) (Q R:List Nat) (e:Ending):Prop :=
 (ok = true∧∃ qo qc ro rc,e = .returned (.agg #[.int .i64 r,.int .i64 k,.slice qo Q.length qc,.int .i64 k,.int .i64 c,.slice ro R.length rc,.bool true])∧BitsAt w' qo qc (mxL Q)∧BitsAt w' ro rc (mxL R)) ∨
 (ok = false∧e = .returned (.agg #[.int .i64 0,.int .i64 0,.slice none 0 0,.int .i64 0,.int .i64 0,.slice none 0 0,.bool false]))
structure ThSt (w wr:World) (g:Nat) (r c n cap:Nat) (ao:Option Addr) (x0 x1:Int) (x2:Value) (x3 x4:Int) (x5:Value) (ok:Bool):Prop where
 bel:Below w.heap.size w wr
 a:BoxM wr w.heap.size (.int .i64 r) (.int .i64 c) (.slice ao n cap)
 res:BoxW wr (w.heap.size+1) (.int .i64 0) (.int .i64 0) (.slice none 0 0) (.int .i64 0) (.int .i64 0) (.slice none 0 0) (.bool false)
 t:BoxW wr g (.int .i64 x0) (.int .i64 x1) x2 (.int .i64 x3) (.int .i64 x4) x5 (.bool ok)
theorem ThSt.all {w wr w':World} {g r c n cap:Nat} {ao:Option Addr} {x0 x1:Int} {x2:Value} {x3 x4:Int} {x5:Value} {ok:Bool} (h:ThSt w wr g r c n cap ao x0 x1 x2 x3 x4 x5 ok) (hb:Below wr.heap.size wr w'):ThSt w w' g r c n cap ao x0 x1 x2 x3 x4 x5 ok :=
 ⟨h.bel.trans (hb.mono h.bel.size),h.a.all hb,h.res.all hb,h.t.all hb⟩
theorem thin_boxes (w:World) (r c n cap:Nat) (ao:Option Addr):Below w.heap.size w ((w.alloc (.cells #[.int .i64 r,.int .i64 c,.slice ao n cap] 24)).alloc (.cells #[.int .i64 0,.int .i64 0,.slice none 0 0,.int .i64 0,.int .i64 0,.slice none 0 0,.bool false] 89))∧BoxM ((w.alloc (.cells #[.int .i64 r,.int .i64 c,.slice ao n cap] 24)).alloc (.cells #[.int .i64 0,.int .i64 0,.slice none 0 0,.int .i64 0,.int .i64 0,.slice none 0 0,.bool false] 89)) w.heap.size (.int .i64 r) (.int .i64 c) (.slice ao n cap)∧BoxW ((w.alloc (.cells #[.int .i64 r,.int .i64 c,.slice ao n cap] 24)).alloc (.cells #[.int .i64 0,.int .i64 0,.slice none 0 0,.int .i64 0,.int .i64 0,.slice none 0 0,.bool false] 89)) (w.heap.size+1) (.int .i64 0) (.int .i64 0) (.slice none 0 0) (.int .i64 0) (.int .i64 0) (.slice none 0 0) (.bool false):=by
 have b0:=below_alloc9 w (.cells #[.int .i64 r,.int .i64 c,.slice ao n cap] 24)
 have s0:=size_alloc9 w (.cells #[.int .i64 r,.int .i64 c,.slice ao n cap] 24)
 have x0:=BoxM.new w (.int .i64 r) (.int .i64 c) (.slice ao n cap)
 generalize w.alloc (.cells #[.int .i64 r,.int .i64 c,.slice ao n cap] 24) = w0 at *
 have b1:=below_alloc9 w0 (.cells #[.int .i64 0,.int .i64 0,.slice none 0 0,.int .i64 0,.int .i64 0,.slice none 0 0,.bool false] 89)
 have x1:=BoxW.new w0 (.int .i64 0) (.int .i64 0) (.slice none 0 0) (.int .i64 0) (.int .i64 0) (.slice none 0 0) (.bool false)
 rw [s0] at x1
 exact ⟨b0.trans (b1.mono b0.size),x0.all b1,x1⟩
theorem ThSt.held {w wr:World} {g r c n cap:Nat} {ao:Option Addr} {x0 x1:Int} {x2:Value} {x3 x4:Int} {x5:Value} {ok:Bool} (h:ThSt w wr g r c n cap ao x0 x1 x2 x3 x4 x5 ok):(wr.cell? ⟨w.heap.size,0,none⟩ = some (.int .i64 (r:Nat))∧wr.cell? ⟨w.heap.size,1,none⟩ = some (.int .i64 (c:Nat)))∧(wr.cell? ⟨g,0,none⟩ = some (.int .i64 x0)∧wr.cell? ⟨g,1,none⟩ = some (.int .i64 x1)∧wr.cell? ⟨g,2,none⟩ = some x2∧wr.cell? ⟨g,3,none⟩ = some (.int .i64 x3)∧wr.cell? ⟨g,4,none⟩ = some (.int .i64 x4)∧wr.cell? ⟨g,5,none⟩ = some x5):=⟨⟨h.a.c0,h.a.c1⟩,h.t.c0,h.t.c1,h.t.c2,h.t.c3,h.t.c4,h.t.c5⟩
theorem ThSt.put {w wr:World} {g r c n cap:Nat} {ao:Option Addr} {x0 x1:Int} {x2:Value} {x3 x4:Int} {x5:Value} {ok:Bool} (h:ThSt w wr g r c n cap ao x0 x1 x2 x3 x4 x5 ok) (hg:w.heap.size+1 < g) (u0 u1 u2 u3 u4 u5 u6:Value):((((((((wr.setCell ⟨w.heap.size+1,0,none⟩ u0).setCell ⟨w.heap.size+1,1,none⟩ u1).setCell ⟨w.heap.size+1,2,none⟩ u2).setCell ⟨w.heap.size+1,3,none⟩ u3).setCell ⟨w.heap.size+1,4,none⟩ u4).setCell ⟨w.heap.size+1,5,none⟩ u5).setCell ⟨w.heap.size+1,6,none⟩ u6).cell? ⟨w.heap.size,0,none⟩ = some (.int .i64 (r:Nat))∧(((((((wr.setCell ⟨w.heap.size+1,0,none⟩ u0).setCell ⟨w.heap.size+1,1,none⟩ u1).setCell ⟨w.heap.size+1,2,none⟩ u2).setCell ⟨w.heap.size+1,3,none⟩ u3).setCell ⟨w.heap.size+1,4,none⟩ u4).setCell ⟨w.heap.size+1,5,none⟩ u5).setCell ⟨w.heap.size+1,6,none⟩ u6).cell? ⟨w.heap.size,1,none⟩ = some (.int .i64 (c:Nat)))∧((((((((wr.setCell ⟨w.heap.size+1,0,none⟩ u0).setCell ⟨w.heap.size+1,1,none⟩ u1).setCell ⟨w.heap.size+1,2,none⟩ u2).setCell ⟨w.heap.size+1,3,none⟩ u3).setCell ⟨w.heap.size+1,4,none⟩ u4).setCell ⟨w.heap.size+1,5,none⟩ u5).setCell ⟨w.heap.size+1,6,none⟩ u6).cell? ⟨g,0,none⟩ = some (.int .i64 x0)∧(((((((wr.setCell ⟨w.heap.size+1,0,none⟩ u0).setCell ⟨w.heap.size+1,1,none⟩ u1).setCell ⟨w.heap.size+1,2,none⟩ u2).setCell ⟨w.heap.size+1,3,none⟩ u3).setCell ⟨w.heap.size+1,4,none⟩ u4).setCell ⟨w.heap.size+1,5,none⟩ u5).setCell ⟨w.heap.size+1,6,none⟩ u6).cell? ⟨g,1,none⟩ = some (.int .i64 x1)∧(((((((wr.setCell ⟨w.heap.size+1,0,none⟩ u0).setCell ⟨w.heap.size+1,1,none⟩ u1).setCell ⟨w.heap.size+1,2,none⟩ u2).setCell ⟨w.heap.size+1,3,none⟩ u3).setCell ⟨w.heap.size+1,4,none⟩ u4).setCell ⟨w.heap.size+1,5,none⟩ u5).setCell ⟨w.heap.size+1,6,none⟩ u6).cell? ⟨g,2,none⟩ = some x2∧(((((((wr.setCell ⟨w.heap.size+1,0,none⟩ u0).setCell ⟨w.heap.size+1,1,none⟩ u1).setCell ⟨w.heap.size+1,2,none⟩ u2).setCell ⟨w.heap.size+1,3,none⟩ u3).setCell ⟨w.heap.size+1,4,none⟩ u4).setCell ⟨w.heap.size+1,5,none⟩ u5).setCell ⟨w.heap.size+1,6,none⟩ u6).cell? ⟨g,3,none⟩ = some (.int .i64 x3)∧(((((((wr.setCell ⟨w.heap.size+1,0,none⟩ u0).setCell ⟨w.heap.size+1,1,none⟩ u1).setCell ⟨w.heap.size+1,2,none⟩ u2).setCell ⟨w.heap.size+1,3,none⟩ u3).setCell ⟨w.heap.size+1,4,none⟩ u4).setCell ⟨w.heap.size+1,5,none⟩ u5).setCell ⟨w.heap.size+1,6,none⟩ u6).cell? ⟨g,4,none⟩ = some (.int .i64 x4)∧(((((((wr.setCell ⟨w.heap.size+1,0,none⟩ u0).setCell ⟨w.heap.size+1,1,none⟩ u1).setCell ⟨w.heap.size+1,2,none⟩ u2).setCell ⟨w.heap.size+1,3,none⟩ u3).setCell ⟨w.heap.size+1,4,none⟩ u4).setCell ⟨w.heap.size+1,5,none⟩ u5).setCell ⟨w.heap.size+1,6,none⟩ u6).cell? ⟨g,5,none⟩ = some x5):=by
 have n0:w.heap.size ≠ w.heap.size+1:=by omega
 have n1:g ≠ w.heap.size+1:=by omega
 have A:=(((((((h.a.other (p:=⟨w.heap.size+1,0,none⟩) n0 u0).other (p:=⟨w.heap.size+1,1,none⟩) n0 u1).other (p:=⟨w.heap.size+1,2,none⟩) n0 u2).other (p:=⟨w.heap.size+1,3,none⟩) n0 u3).other (p:=⟨w.heap.size+1,4,none⟩) n0 u4).other (p:=⟨w.heap.size+1,5,none⟩) n0 u5).other (p:=⟨w.heap.size+1,6,none⟩) n0 u6)
 have T:=(((((((h.t.other (p:=⟨w.heap.size+1,0,none⟩) n1 u0).other (p:=⟨w.heap.size+1,1,none⟩) n1 u1).other (p:=⟨w.heap.size+1,2,none⟩) n1 u2).other (p:=⟨w.heap.size+1,3,none⟩) n1 u3).other (p:=⟨w.heap.size+1,4,none⟩) n1 u4).other (p:=⟨w.heap.size+1,5,none⟩) n1 u5).other (p:=⟨w.heap.size+1,6,none⟩) n1 u6)
 exact ⟨⟨A.c0,A.c1⟩,T.c0,T.c1,T.c2,T.c3,T.c4,T.c5⟩
theorem rthin_of (r c n nq k cap:Nat) (ao:Option Addr) (Q R TQ TR:List Nat) (ok:Bool) (w:World) (hk:k = min r c) (hr:r≤6) (hc:c≤6)
  (C1:∀ w',Below w.heap.size w w'→Calls Tryz.prog 99 #[.agg #[.int .i64 r,.int .i64 c,.slice ao n cap]] w' fun e w''=>FacAns w'' ok r c nq n Q R e∧Below w'.heap.size w' w'')
  (C2:∀ w' qo qc,BitsAt w' qo qc (mxL Q)→Calls Tryz.prog 128 #[.agg #[.int .i64 r,.int .i64 r,.slice qo nq qc],.int .i64 0,.int .i64 0,.int .i64 r,.int .i64 k] w' fun e w''=>∃ po pc,e = .returned (.agg #[.int .i64 r,.int .i64 k,.slice po TQ.length pc])∧BitsAt w'' po pc (mxL TQ)∧Below w'.heap.size w' w'')
  (C3:∀ w' ro rc,BitsAt w' ro rc (mxL R)→Calls Tryz.prog 128 #[.agg #[.int .i64 r,.int .i64 c,.slice ro n rc],.int .i64 0,.int .i64 0,.int .i64 k,.int .i64 c] w' fun e w''=>∃ po pc,e = .returned (.agg #[.int .i64 k,.int .i64 c,.slice po TR.length pc])∧BitsAt w'' po pc (mxL TR)∧Below w'.heap.size w' w'') :
  Calls Tryz.prog 74 #[.agg #[.int .i64 r,.int .i64 c,.slice ao n cap]] w fun e w'=>ThAns w' ok r k c TQ TR e∧Below w.heap.size w w':=by
 obtain ⟨hB,hA,hX⟩:=thin_boxes w r c n cap ao
 have HB:=hide hB;have HA:=hide hA;have HX:=hide hX
 have K1:=hide C1;have K2:=hide C2;have K3:=hide C3
 clear hB hA hX C1 C2 C3
 go_enter Tryz.func74,Tryz.ntmps74
 go_wp2_with fail
 refine (uH K1 _ (uH HB)).mono ?_
 rintro e w1 ⟨ans,hb⟩
 have hB1:=(uH HB).trans (hb.mono (uH HB).size)
 have hA1:=(uH HA).all hb
 have hX1:=(uH HX).all hb
 clear K1 HB HA HX hb
 rcases ans with ⟨rfl,qo,qc,ro,rc,rfl,bq,br⟩ | ⟨rfl,rfl⟩
 ·have ba:=below_alloc9 w1 (.cells #[.int .i64 r,.int .i64 r,.slice qo nq qc,.int .i64 r,.int .i64 c,.slice ro n rc,.bool true] 89)
  have ST:=hide (show ThSt w (w1.alloc (.cells #[.int .i64 r,.int .i64 r,.slice qo nq qc,.int .i64 r,.int .i64 c,.slice ro n rc,.bool true] 89)) w1.heap.size r c n cap ao r r (.slice qo nq qc) r c (.slice ro n rc) true from ⟨hB1.trans (ba.mono hB1.size),hA1.all ba,hX1.all ba,BoxW.new w1 _ _ _ _ _ _ _⟩)
  have BQ:=hide (bq.below ba);have BR:=hide (br.below ba)
  have HG:=hide (show w.heap.size+1 < w1.heap.size from hX1.lt)
  clear ba hB1 hA1 hX1 bq br
  have t6:=(uH ST).t.c6
  have a0:=(uH ST).a.c0;have a1:=(uH ST).a.c1
  rcases (show ((r:Int)≤(c:Int)∧k = r) ∨ ((c:Int) < (r:Int)∧k = c) by omega) with ⟨hrc,rfl⟩ | ⟨hrc,rfl⟩
  ·clear hk
   go_wp2_with fail
   clear t6 a0 a1
   generalize w1.heap.size = g at *
   refine at_world (fun W=>ThSt w W g k c n cap ao k k (.slice qo nq qc) k c (.slice ro n rc) true∧BitsAt W qo qc (mxL Q)∧BitsAt W ro rc (mxL R)) ⟨uH ST,uH BQ,uH BR⟩ ?_
   clear ST BQ BR
   rintro W ⟨st,bq,br⟩
   have hd:=(Below.refl W.heap.size W).drew
   have ST:=hide (st.all hd);have BQ:=hide (bq.below hd);have BR:=hide (br.below hd)
   clear st bq br hd
   refine wp_region_held_drew (S:=(fun w'=>(w'.cell? ⟨w.heap.size,0,none⟩ = some (.int .i64 (k:Nat))∧w'.cell? ⟨w.heap.size,1,none⟩ = some (.int .i64 (c:Nat)))∧(w'.cell? ⟨g,0,none⟩ = some (.int .i64 (k:Nat))∧w'.cell? ⟨g,1,none⟩ = some (.int .i64 (k:Nat))∧w'.cell? ⟨g,2,none⟩ = some (.slice qo nq qc)∧w'.cell? ⟨g,3,none⟩ = some (.int .i64 (k:Nat))∧w'.cell? ⟨g,4,none⟩ = some (.int .i64 (c:Nat))∧w'.cell? ⟨g,5,none⟩ = some (.slice ro n rc)))) (by kernel_rfl) ?_ (fun hHeld=>?_)
   ·exact (uH ST).held
   refine wpAnyH_take (i:=0) (oi:={ dst:=some 16,op:=Op.fieldAddr 89 (Operand.tmp 3) 0,type:=0,pos := "ref.go:59",after:=#[],guard:=none }) (v:=(Value.pointer (some ⟨g,0,none⟩))) rfl (by kernel_rfl) (by kernel_rfl) (by kernel_rfl) (fun _ _ _ h=>h) (Or.inl ⟨by rfl,?_⟩) (by assumption) ?_
   ·(intro w hSw;(try dsimp only at hSw);go_simp)
   simp only [Act.put,List.setIfInBounds_toArray,List.set_cons_zero,List.set_cons_succ]
   refine wpAnyH_take (i:=1) (oi:={ dst:=some 17,op:=Op.load 24 (Operand.tmp 16),type:=24,pos := "ref.go:59",after:=#[{ on:=0,ground:=Ground.data }],guard:=none }) (v:=(Value.agg #[.int .i64 (k:Nat),.int .i64 (k:Nat),.slice qo nq qc])) rfl (by kernel_rfl) (by kernel_rfl) (by kernel_rfl) (fun _ _ _ h=>h) (Or.inl ⟨by rfl,?_⟩) (by assumption) ?_
   ·(intro w hSw;(try dsimp only at hSw);go_simp)
   simp only [Act.put,List.setIfInBounds_toArray,List.set_cons_zero,List.set_cons_succ]
   refine wpAnyH_take (i:=2) (oi:={ dst:=some 18,op:=Op.fieldAddr 24 (Operand.tmp 1) 0,type:=0,pos := "ref.go:59",after:=#[],guard:=none }) (v:=(Value.pointer (some ⟨w.heap.size,0,none⟩))) rfl (by kernel_rfl) (by kernel_rfl) (by kernel_rfl) (fun _ _ _ h=>h) (Or.inl ⟨by rfl,?_⟩) (by assumption) ?_
   ·(intro w hSw;(try dsimp only at hSw);go_simp)
   simp only [Act.put,List.setIfInBounds_toArray,List.set_cons_zero,List.set_cons_succ]
   refine wpAnyH_take (i:=3) (oi:={ dst:=some 19,op:=Op.load 3 (Operand.tmp 18),type:=3,pos := "ref.go:59",after:=#[{ on:=2,ground:=Ground.data }],guard:=none }) (v:=(Value.int .i64 (k:Nat))) rfl (by kernel_rfl) (by kernel_rfl) (by kernel_rfl) (fun _ _ _ h=>h) (Or.inl ⟨by rfl,?_⟩) (by assumption) ?_
   ·(intro w hSw;(try dsimp only at hSw);go_simp)
   simp only [Act.put,List.setIfInBounds_toArray,List.set_cons_zero,List.set_cons_succ]
   refine wpAnyH_take (i:=4) (oi:={ dst:=some 20,op:=Op.move (Operand.tmp 4),type:=3,pos := "ref.go:59",after:=#[],guard:=none }) (v:=(Value.int .i64 (k:Nat))) rfl (by kernel_rfl) (by kernel_rfl) (by kernel_rfl) (fun _ _ _ h=>h) (Or.inl ⟨by rfl,?_⟩) (by assumption) ?_
   ·(intro w hSw;(try dsimp only at hSw);go_simp)
   simp only [Act.put,List.setIfInBounds_toArray,List.set_cons_zero,List.set_cons_succ]
   refine wpAnyH_take (i:=6) (oi:={ dst:=some 22,op:=Op.fieldAddr 89 (Operand.tmp 3) 1,type:=0,pos := "ref.go:59",after:=#[],guard:=none }) (v:=(Value.pointer (some ⟨g,3,none⟩))) rfl (by kernel_rfl) (by kernel_rfl) (by kernel_rfl) (fun _ _ _ h=>h) (Or.inl ⟨by rfl,?_⟩) (by assumption) ?_
   ·(intro w hSw;(try dsimp only at hSw);go_simp)
   simp only [Act.put,List.setIfInBounds_toArray,List.set_cons_zero,List.set_cons_succ]
   refine wpAnyH_take (i:=7) (oi:={ dst:=some 23,op:=Op.load 24 (Operand.tmp 22),type:=24,pos := "ref.go:59",after:=#[{ on:=6,ground:=Ground.data }],guard:=none }) (v:=(Value.agg #[.int .i64 (k:Nat),.int .i64 (c:Nat),.slice ro n rc])) rfl (by kernel_rfl) (by kernel_rfl) (by kernel_rfl) (fun _ _ _ h=>h) (Or.inl ⟨by rfl,?_⟩) (by assumption) ?_
   ·(intro w hSw;(try dsimp only at hSw);go_simp)
   simp only [Act.put,List.setIfInBounds_toArray,List.set_cons_zero,List.set_cons_succ]
   refine wpAnyH_take (i:=8) (oi:={ dst:=some 24,op:=Op.move (Operand.tmp 4),type:=3,pos := "ref.go:59",after:=#[],guard:=none }) (v:=(Value.int .i64 (k:Nat))) rfl (by kernel_rfl) (by kernel_rfl) (by kernel_rfl) (fun _ _ _ h=>h) (Or.inl ⟨by rfl,?_⟩) (by assumption) ?_
   ·(intro w hSw;(try dsimp only at hSw);go_simp)
   simp only [Act.put,List.setIfInBounds_toArray,List.set_cons_zero,List.set_cons_succ]
   refine wpAnyH_take (i:=9) (oi:={ dst:=some 25,op:=Op.fieldAddr 24 (Operand.tmp 1) 1,type:=0,pos := "ref.go:59",after:=#[],guard:=none }) (v:=(Value.pointer (some ⟨w.heap.size,1,none⟩))) rfl (by kernel_rfl) (by kernel_rfl) (by kernel_rfl) (fun _ _ _ h=>h) (Or.inl ⟨by rfl,?_⟩) (by assumption) ?_
   ·(intro w hSw;(try dsimp only at hSw);go_simp)
   simp only [Act.put,List.setIfInBounds_toArray,List.set_cons_zero,List.set_cons_succ]
   refine wpAnyH_take (i:=10) (oi:={ dst:=some 26,op:=Op.load 3 (Operand.tmp 25),type:=3,pos := "ref.go:59",after:=#[{ on:=9,ground:=Ground.data }],guard:=none }) (v:=(Value.int .i64 (c:Nat))) rfl (by kernel_rfl) (by kernel_rfl) (by kernel_rfl) (fun _ _ _ h=>h) (Or.inl ⟨by rfl,?_⟩) (by assumption) ?_
   ·(intro w hSw;(try dsimp only at hSw);go_simp)
   simp only [Act.put,List.setIfInBounds_toArray,List.set_cons_zero,List.set_cons_succ]
   refine wpAnyH_ready (rs:=[5]) (by kernel_rfl) (by simp) ?_
   refine AllReadyH.cons (o:={ dst:=some 21,op:=Op.call { callee:=Callee.value (Operand.func 128),args:=#[Operand.tmp 17,Operand.const (Value.int IntKind.i64 0),Operand.const (Value.int IntKind.i64 0),Operand.tmp 19,Operand.tmp 20],argTypes:=#[24,3,3,3,3] },type:=24,pos := "ref.go:59",after:=#[{ on:=1,ground:=Ground.data },{ on:=3,ground:=Ground.data },{ on:=4,ground:=Ground.data }],guard:=none }) rfl (fun K hK=>?_) AllReadyH.nil
   go_simp
   refine (uH K2 _ _ _ (uH BQ)).mono ?_
   rintro e w5 ⟨po5,pc5,rfl,hq,hb⟩
   have HQ5:=hide hq
   replace ST:=hide ((uH ST).all hb)
   replace BQ:=hide ((uH BQ).below hb)
   replace BR:=hide ((uH BR).below hb)
   clear hb hq
   go_wp2_with fail
   refine hK.out _ _ ?_ (fun hHeld=>?_)
   ·exact (uH ST).held
   clear hK K
   refine wpAnyH_ready (rs:=[11]) (by kernel_rfl) (by simp) ?_
   refine AllReadyH.cons (o:={ dst:=some 27,op:=Op.call { callee:=Callee.value (Operand.func 128),args:=#[Operand.tmp 23,Operand.const (Value.int IntKind.i64 0),Operand.const (Value.int IntKind.i64 0),Operand.tmp 24,Operand.tmp 26],argTypes:=#[24,3,3,3,3] },type:=24,pos := "ref.go:59",after:=#[{ on:=7,ground:=Ground.data },{ on:=8,ground:=Ground.data },{ on:=10,ground:=Ground.data },{ on:=5,ground:=Ground.chain }],guard:=none }) rfl (fun K hK=>?_) AllReadyH.nil
   go_simp
   refine (uH K3 _ _ _ (uH BR)).mono ?_
   rintro e w11 ⟨po11,pc11,rfl,hq,hb⟩
   have HQ11:=hide hq
   replace HQ5:=hide ((uH HQ5).below hb)
   replace ST:=hide ((uH ST).all hb)
   replace BQ:=hide ((uH BQ).below hb)
   replace BR:=hide ((uH BR).below hb)
   clear hb hq
   have X1:=(uH ST).res
   have r0:=X1.c0;have r1:=X1.c1;have r2:=X1.c2;have r3:=X1.c3;have r4:=X1.c4;have r5:=X1.c5;have r6:=X1.c6
   have f0:=X1.free 0;have f1:=X1.free 1;have f2:=X1.free 2;have f3:=X1.free 3;have f4:=X1.free 4;have f5:=X1.free 5;have f6:=X1.free 6
   have XP:=X1.put (.int .i64 (k:Nat)) (.int .i64 (k:Nat)) (.slice po5 TQ.length pc5) (.int .i64 (k:Nat)) (.int .i64 (c:Nat)) (.slice po11 TR.length pc11) (.bool true)
   have z0:=XP.c0;have z1:=XP.c1;have z2:=XP.c2;have z3:=XP.c3;have z4:=XP.c4;have z5:=XP.c5;have z6:=XP.c6
   have BP:=hide (below_putW (uH ST).bel (g:=w.heap.size+1) (by omega) (.int .i64 (k:Nat)) (.int .i64 (k:Nat)) (.slice po5 TQ.length pc5) (.int .i64 (k:Nat)) (.int .i64 (c:Nat)) (.slice po11 TR.length pc11) (.bool true))
   have PQ:=hide (bits_putW (uH HQ5) X1 (.int .i64 (k:Nat)) (.int .i64 (k:Nat)) (.slice po5 TQ.length pc5) (.int .i64 (k:Nat)) (.int .i64 (c:Nat)) (.slice po11 TR.length pc11) (.bool true))
   have PR:=hide (bits_putW (uH HQ11) X1 (.int .i64 (k:Nat)) (.int .i64 (k:Nat)) (.slice po5 TQ.length pc5) (.int .i64 (k:Nat)) (.int .i64 (c:Nat)) (.slice po11 TR.length pc11) (.bool true))
   have HS5:=hide (uH ST).held
   have HS6:=hide ((uH ST).put (uH HG) (.int .i64 (k:Nat)) (.int .i64 (k:Nat)) (.slice po5 TQ.length pc5) (.int .i64 (k:Nat)) (.int .i64 (c:Nat)) (.slice po11 TR.length pc11) (.bool true))
   clear X1 XP ST HQ5 HQ11
   go_wp2_with fail
   refine hK.out _ _ ?_ (fun hHeld=>?_)
   ·exact uH HS5
   clear hK K
   refine wpAnyH_ready (rs:=[12]) (by kernel_rfl) (by simp) ?_
   refine AllReadyH.cons (o:={ dst:=some 28,op:=Op.build 89 #[(0,Operand.tmp 21),(1,Operand.tmp 27),(2,Operand.const (Value.bool true))],type:=89,pos := "ref.go:59",after:=#[{ on:=5,ground:=Ground.data },{ on:=11,ground:=Ground.data }],guard:=none }) rfl (fun K hK=>?_) AllReadyH.nil
   go_simp
   refine hK.out _ _ ?_ (fun hHeld=>?_)
   ·exact uH HS5
   clear hK K
   refine wpAnyH_ready (rs:=[13]) (by kernel_rfl) (by simp) ?_
   refine AllReadyH.cons (o:={ dst:=none,op:=Op.store 89 (Operand.tmp 2) (Operand.tmp 28),type:=0,pos := "ref.go:59",after:=#[{ on:=12,ground:=Ground.data },{ on:=11,ground:=Ground.chain },{ on:=0,ground:=Ground.phase },{ on:=1,ground:=Ground.phase },{ on:=2,ground:=Ground.phase },{ on:=3,ground:=Ground.phase },{ on:=4,ground:=Ground.phase },{ on:=5,ground:=Ground.phase },{ on:=6,ground:=Ground.phase },{ on:=7,ground:=Ground.phase },{ on:=8,ground:=Ground.phase },{ on:=9,ground:=Ground.phase },{ on:=10,ground:=Ground.phase },{ on:=11,ground:=Ground.phase },{ on:=12,ground:=Ground.phase }],guard:=none }) rfl (fun K hK=>?_) AllReadyH.nil
   go_simp
   refine hK.out _ _ ?_ (fun hHeld=>?_)
   ·exact uH HS6
   clear hK K
   refine wpAnyH_done (by kernel_rfl) ?_ _
   clear r0 r1 r2 r3 r4 r5 r6 f0 f1 f2 f3 f4 f5 f6 HS5 HS6
   go_wp2_with fail
   exact bodyPost_ret (v:=.agg #[.int .i64 (k:Nat),.int .i64 (k:Nat),.slice po5 TQ.length pc5,.int .i64 (k:Nat),.int .i64 (c:Nat),.slice po11 TR.length pc11,.bool true]) (by simp [results,Tryz.results74,go_sem,z0,z1,z2,z3,z4,z5,z6]) rfl ⟨.inl ⟨rfl,po5,pc5,po11,pc11,rfl,uH PQ,uH PR⟩,uH BP⟩
  ·clear hk
   go_wp2_with fail
   clear t6 a0 a1
   generalize w1.heap.size = g at *
   refine at_world (fun W=>ThSt w W g r k n cap ao r r (.slice qo nq qc) r k (.slice ro n rc) true∧BitsAt W qo qc (mxL Q)∧BitsAt W ro rc (mxL R)) ⟨uH ST,uH BQ,uH BR⟩ ?_
   clear ST BQ BR
   rintro W ⟨st,bq,br⟩
   have hd:=(Below.refl W.heap.size W).drew
   have ST:=hide (st.all hd);have BQ:=hide (bq.below hd);have BR:=hide (br.below hd)
   clear st bq br hd
   refine wp_region_held_drew (S:=(fun w'=>(w'.cell? ⟨w.heap.size,0,none⟩ = some (.int .i64 (r:Nat))∧w'.cell? ⟨w.heap.size,1,none⟩ = some (.int .i64 (k:Nat)))∧(w'.cell? ⟨g,0,none⟩ = some (.int .i64 (r:Nat))∧w'.cell? ⟨g,1,none⟩ = some (.int .i64 (r:Nat))∧w'.cell? ⟨g,2,none⟩ = some (.slice qo nq qc)∧w'.cell? ⟨g,3,none⟩ = some (.int .i64 (r:Nat))∧w'.cell? ⟨g,4,none⟩ = some (.int .i64 (k:Nat))∧w'.cell? ⟨g,5,none⟩ = some (.slice ro n rc)))) (by kernel_rfl) ?_ (fun hHeld=>?_)
   ·exact (uH ST).held
   refine wpAnyH_take (i:=0) (oi:={ dst:=some 16,op:=Op.fieldAddr 89 (Operand.tmp 3) 0,type:=0,pos := "ref.go:59",after:=#[],guard:=none }) (v:=(Value.pointer (some ⟨g,0,none⟩))) rfl (by kernel_rfl) (by kernel_rfl) (by kernel_rfl) (fun _ _ _ h=>h) (Or.inl ⟨by rfl,?_⟩) (by assumption) ?_
   ·(intro w hSw;(try dsimp only at hSw);go_simp)
   simp only [Act.put,List.setIfInBounds_toArray,List.set_cons_zero,List.set_cons_succ]
   refine wpAnyH_take (i:=1) (oi:={ dst:=some 17,op:=Op.load 24 (Operand.tmp 16),type:=24,pos := "ref.go:59",after:=#[{ on:=0,ground:=Ground.data }],guard:=none }) (v:=(Value.agg #[.int .i64 (r:Nat),.int .i64 (r:Nat),.slice qo nq qc])) rfl (by kernel_rfl) (by kernel_rfl) (by kernel_rfl) (fun _ _ _ h=>h) (Or.inl ⟨by rfl,?_⟩) (by assumption) ?_
   ·(intro w hSw;(try dsimp only at hSw);go_simp)
   simp only [Act.put,List.setIfInBounds_toArray,List.set_cons_zero,List.set_cons_succ]
   refine wpAnyH_take (i:=2) (oi:={ dst:=some 18,op:=Op.fieldAddr 24 (Operand.tmp 1) 0,type:=0,pos := "ref.go:59",after:=#[],guard:=none }) (v:=(Value.pointer (some ⟨w.heap.size,0,none⟩))) rfl (by kernel_rfl) (by kernel_rfl) (by kernel_rfl) (fun _ _ _ h=>h) (Or.inl ⟨by rfl,?_⟩) (by assumption) ?_
   ·(intro w hSw;(try dsimp only at hSw);go_simp)
   simp only [Act.put,List.setIfInBounds_toArray,List.set_cons_zero,List.set_cons_succ]
   refine wpAnyH_take (i:=3) (oi:={ dst:=some 19,op:=Op.load 3 (Operand.tmp 18),type:=3,pos := "ref.go:59",after:=#[{ on:=2,ground:=Ground.data }],guard:=none }) (v:=(Value.int .i64 (r:Nat))) rfl (by kernel_rfl) (by kernel_rfl) (by kernel_rfl) (fun _ _ _ h=>h) (Or.inl ⟨by rfl,?_⟩) (by assumption) ?_
   ·(intro w hSw;(try dsimp only at hSw);go_simp)
   simp only [Act.put,List.setIfInBounds_toArray,List.set_cons_zero,List.set_cons_succ]
   refine wpAnyH_take (i:=4) (oi:={ dst:=some 20,op:=Op.move (Operand.tmp 4),type:=3,pos := "ref.go:59",after:=#[],guard:=none }) (v:=(Value.int .i64 (k:Nat))) rfl (by kernel_rfl) (by kernel_rfl) (by kernel_rfl) (fun _ _ _ h=>h) (Or.inl ⟨by rfl,?_⟩) (by assumption) ?_
   ·(intro w hSw;(try dsimp only at hSw);go_simp)
   simp only [Act.put,List.setIfInBounds_toArray,List.set_cons_zero,List.set_cons_succ]
   refine wpAnyH_take (i:=6) (oi:={ dst:=some 22,op:=Op.fieldAddr 89 (Operand.tmp 3) 1,type:=0,pos := "ref.go:59",after:=#[],guard:=none }) (v:=(Value.pointer (some ⟨g,3,none⟩))) rfl (by kernel_rfl) (by kernel_rfl) (by kernel_rfl) (fun _ _ _ h=>h) (Or.inl ⟨by rfl,?_⟩) (by assumption) ?_
   ·(intro w hSw;(try dsimp only at hSw);go_simp)
   simp only [Act.put,List.setIfInBounds_toArray,List.set_cons_zero,List.set_cons_succ]
   refine wpAnyH_take (i:=7) (oi:={ dst:=some 23,op:=Op.load 24 (Operand.tmp 22),type:=24,pos := "ref.go:59",after:=#[{ on:=6,ground:=Ground.data }],guard:=none }) (v:=(Value.agg #[.int .i64 (r:Nat),.int .i64 (k:Nat),.slice ro n rc])) rfl (by kernel_rfl) (by kernel_rfl) (by kernel_rfl) (fun _ _ _ h=>h) (Or.inl ⟨by rfl,?_⟩) (by assumption) ?_
   ·(intro w hSw;(try dsimp only at hSw);go_simp)
   simp only [Act.put,List.setIfInBounds_toArray,List.set_cons_zero,List.set_cons_succ]
   refine wpAnyH_take (i:=8) (oi:={ dst:=some 24,op:=Op.move (Operand.tmp 4),type:=3,pos := "ref.go:59",after:=#[],guard:=none }) (v:=(Value.int .i64 (k:Nat))) rfl (by kernel_rfl) (by kernel_rfl) (by kernel_rfl) (fun _ _ _ h=>h) (Or.inl ⟨by rfl,?_⟩) (by assumption) ?_
   ·(intro w hSw;(try dsimp only at hSw);go_simp)
   simp only [Act.put,List.setIfInBounds_toArray,List.set_cons_zero,List.set_cons_succ]
   refine wpAnyH_take (i:=9) (oi:={ dst:=some 25,op:=Op.fieldAddr 24 (Operand.tmp 1) 1,type:=0,pos := "ref.go:59",after:=#[],guard:=none }) (v:=(Value.pointer (some ⟨w.heap.size,1,none⟩))) rfl (by kernel_rfl) (by kernel_rfl) (by kernel_rfl) (fun _ _ _ h=>h) (Or.inl ⟨by rfl,?_⟩) (by assumption) ?_
   ·(intro w hSw;(try dsimp only at hSw);go_simp)
   simp only [Act.put,List.setIfInBounds_toArray,List.set_cons_zero,List.set_cons_succ]
   refine wpAnyH_take (i:=10) (oi:={ dst:=some 26,op:=Op.load 3 (Operand.tmp 25),type:=3,pos := "ref.go:59",after:=#[{ on:=9,ground:=Ground.data }],guard:=none }) (v:=(Value.int .i64 (k:Nat))) rfl (by kernel_rfl) (by kernel_rfl) (by kernel_rfl) (fun _ _ _ h=>h) (Or.inl ⟨by rfl,?_⟩) (by assumption) ?_
   ·(intro w hSw;(try dsimp only at hSw);go_simp)
   simp only [Act.put,List.setIfInBounds_toArray,List.set_cons_zero,List.set_cons_succ]
   refine wpAnyH_ready (rs:=[5]) (by kernel_rfl) (by simp) ?_
   refine AllReadyH.cons (o:={ dst:=some 21,op:=Op.call { callee:=Callee.value (Operand.func 128),args:=#[Operand.tmp 17,Operand.const (Value.int IntKind.i64 0),Operand.const (Value.int IntKind.i64 0),Operand.tmp 19,Operand.tmp 20],argTypes:=#[24,3,3,3,3] },type:=24,pos := "ref.go:59",after:=#[{ on:=1,ground:=Ground.data },{ on:=3,ground:=Ground.data },{ on:=4,ground:=Ground.data }],guard:=none }) rfl (fun K hK=>?_) AllReadyH.nil
   go_simp
   refine (uH K2 _ _ _ (uH BQ)).mono ?_
   rintro e w5 ⟨po5,pc5,rfl,hq,hb⟩
   have HQ5:=hide hq
   replace ST:=hide ((uH ST).all hb)
   replace BQ:=hide ((uH BQ).below hb)
   replace BR:=hide ((uH BR).below hb)
   clear hb hq
   go_wp2_with fail
   refine hK.out _ _ ?_ (fun hHeld=>?_)
   ·exact (uH ST).held
   clear hK K
   refine wpAnyH_ready (rs:=[11]) (by kernel_rfl) (by simp) ?_
   refine AllReadyH.cons (o:={ dst:=some 27,op:=Op.call { callee:=Callee.value (Operand.func 128),args:=#[Operand.tmp 23,Operand.const (Value.int IntKind.i64 0),Operand.const (Value.int IntKind.i64 0),Operand.tmp 24,Operand.tmp 26],argTypes:=#[24,3,3,3,3] },type:=24,pos := "ref.go:59",after:=#[{ on:=7,ground:=Ground.data },{ on:=8,ground:=Ground.data },{ on:=10,ground:=Ground.data },{ on:=5,ground:=Ground.chain }],guard:=none }) rfl (fun K hK=>?_) AllReadyH.nil
   go_simp
   refine (uH K3 _ _ _ (uH BR)).mono ?_
   rintro e w11 ⟨po11,pc11,rfl,hq,hb⟩
   have HQ11:=hide hq
   replace HQ5:=hide ((uH HQ5).below hb)
   replace ST:=hide ((uH ST).all hb)
   replace BQ:=hide ((uH BQ).below hb)
   replace BR:=hide ((uH BR).below hb)
   clear hb hq
   have X1:=(uH ST).res
   have r0:=X1.c0;have r1:=X1.c1;have r2:=X1.c2;have r3:=X1.c3;have r4:=X1.c4;have r5:=X1.c5;have r6:=X1.c6
   have f0:=X1.free 0;have f1:=X1.free 1;have f2:=X1.free 2;have f3:=X1.free 3;have f4:=X1.free 4;have f5:=X1.free 5;have f6:=X1.free 6
   have XP:=X1.put (.int .i64 (r:Nat)) (.int .i64 (k:Nat)) (.slice po5 TQ.length pc5) (.int .i64 (k:Nat)) (.int .i64 (k:Nat)) (.slice po11 TR.length pc11) (.bool true)
   have z0:=XP.c0;have z1:=XP.c1;have z2:=XP.c2;have z3:=XP.c3;have z4:=XP.c4;have z5:=XP.c5;have z6:=XP.c6
   have BP:=hide (below_putW (uH ST).bel (g:=w.heap.size+1) (by omega) (.int .i64 (r:Nat)) (.int .i64 (k:Nat)) (.slice po5 TQ.length pc5) (.int .i64 (k:Nat)) (.int .i64 (k:Nat)) (.slice po11 TR.length pc11) (.bool true))
   have PQ:=hide (bits_putW (uH HQ5) X1 (.int .i64 (r:Nat)) (.int .i64 (k:Nat)) (.slice po5 TQ.length pc5) (.int .i64 (k:Nat)) (.int .i64 (k:Nat)) (.slice po11 TR.length pc11) (.bool true))
   have PR:=hide (bits_putW (uH HQ11) X1 (.int .i64 (r:Nat)) (.int .i64 (k:Nat)) (.slice po5 TQ.length pc5) (.int .i64 (k:Nat)) (.int .i64 (k:Nat)) (.slice po11 TR.length pc11) (.bool true))
   have HS5:=hide (uH ST).held
   have HS6:=hide ((uH ST).put (uH HG) (.int .i64 (r:Nat)) (.int .i64 (k:Nat)) (.slice po5 TQ.length pc5) (.int .i64 (k:Nat)) (.int .i64 (k:Nat)) (.slice po11 TR.length pc11) (.bool true))
   clear X1 XP ST HQ5 HQ11
   go_wp2_with fail
   refine hK.out _ _ ?_ (fun hHeld=>?_)
   ·exact uH HS5
   clear hK K
   refine wpAnyH_ready (rs:=[12]) (by kernel_rfl) (by simp) ?_
   refine AllReadyH.cons (o:={ dst:=some 28,op:=Op.build 89 #[(0,Operand.tmp 21),(1,Operand.tmp 27),(2,Operand.const (Value.bool true))],type:=89,pos := "ref.go:59",after:=#[{ on:=5,ground:=Ground.data },{ on:=11,ground:=Ground.data }],guard:=none }) rfl (fun K hK=>?_) AllReadyH.nil
   go_simp
   refine hK.out _ _ ?_ (fun hHeld=>?_)
   ·exact uH HS5
   clear hK K
   refine wpAnyH_ready (rs:=[13]) (by kernel_rfl) (by simp) ?_
   refine AllReadyH.cons (o:={ dst:=none,op:=Op.store 89 (Operand.tmp 2) (Operand.tmp 28),type:=0,pos := "ref.go:59",after:=#[{ on:=12,ground:=Ground.data },{ on:=11,ground:=Ground.chain },{ on:=0,ground:=Ground.phase },{ on:=1,ground:=Ground.phase },{ on:=2,ground:=Ground.phase },{ on:=3,ground:=Ground.phase },{ on:=4,ground:=Ground.phase },{ on:=5,ground:=Ground.phase },{ on:=6,ground:=Ground.phase },{ on:=7,ground:=Ground.phase },{ on:=8,ground:=Ground.phase },{ on:=9,ground:=Ground.phase },{ on:=10,ground:=Ground.phase },{ on:=11,ground:=Ground.phase },{ on:=12,ground:=Ground.phase }],guard:=none }) rfl (fun K hK=>?_) AllReadyH.nil
   go_simp
   refine hK.out _ _ ?_ (fun hHeld=>?_)
   ·exact uH HS6
   clear hK K
   refine wpAnyH_done (by kernel_rfl) ?_ _
   clear r0 r1 r2 r3 r4 r5 r6 f0 f1 f2 f3 f4 f5 f6 HS5 HS6
   go_wp2_with fail
   exact bodyPost_ret (v:=.agg #[.int .i64 (r:Nat),.int .i64 (k:Nat),.slice po5 TQ.length pc5,.int .i64 (k:Nat),.int .i64 (k:Nat),.slice po11 TR.length pc11,.bool true]) (by simp [results,Tryz.results74,go_sem,z0,z1,z2,z3,z4,z5,z6]) rfl ⟨.inl ⟨rfl,po5,pc5,po11,pc11,rfl,uH PQ,uH PR⟩,uH BP⟩
 ·have ba:=below_alloc9 w1 (.cells #[.int .i64 0,.int .i64 0,.slice none 0 0,.int .i64 0,.int .i64 0,.slice none 0 0,.bool false] 89)
  have ST:=hide (show ThSt w (w1.alloc (.cells #[.int .i64 0,.int .i64 0,.slice none 0 0,.int .i64 0,.int .i64 0,.slice none 0 0,.bool false] 89)) w1.heap.size r c n cap ao 0 0 (.slice none 0 0) 0 0 (.slice none 0 0) false from ⟨hB1.trans (ba.mono hB1.size),hA1.all ba,hX1.all ba,BoxW.new w1 _ _ _ _ _ _ _⟩)
  clear ba hB1 hA1 hX1
  have X2:=(uH ST).t
  have t0:=X2.c0;have t1:=X2.c1;have t2:=X2.c2;have t3:=X2.c3;have t4:=X2.c4;have t5:=X2.c5;have t6:=X2.c6
  have X1:=(uH ST).res
  have r0:=X1.c0;have r1:=X1.c1;have r2:=X1.c2;have r3:=X1.c3;have r4:=X1.c4;have r5:=X1.c5;have r6:=X1.c6
  have f0:=X1.free 0;have f1:=X1.free 1;have f2:=X1.free 2;have f3:=X1.free 3;have f4:=X1.free 4;have f5:=X1.free 5;have f6:=X1.free 6
  have XP:=X1.put (.int .i64 0) (.int .i64 0) (.slice none 0 0) (.int .i64 0) (.int .i64 0) (.slice none 0 0) (.bool false)
  have z0:=XP.c0;have z1:=XP.c1;have z2:=XP.c2;have z3:=XP.c3;have z4:=XP.c4;have z5:=XP.c5;have z6:=XP.c6
  have BP:=hide (below_putW (uH ST).bel (g:=w.heap.size+1) (by omega) (.int .i64 0) (.int .i64 0) (.slice none 0 0) (.int .i64 0) (.int .i64 0) (.slice none 0 0) (.bool false))
  clear X1 X2 XP ST
  go_wp2_with fail
  exact bodyPost_ret (v:=.agg #[.int .i64 0,.int .i64 0,.slice none 0 0,.int .i64 0,.int .i64 0,.slice none 0 0,.bool false]) (by simp [results,Tryz.results74,go_sem,z0,z1,z2,z3,z4,z5,z6]) rfl ⟨.inr ⟨rfl,rfl⟩,uH BP⟩
end Go.Proofs.YtlnphkioddknfaaGreatDoor
namespace Go.Proofs.YtlnphkioddknfaaGreatDoor
open Go.RowKit
attribute [local go_sem ↓] Go.wp_at_zero Go.wp_at_succ
def thQ (r c:Nat) (S:List Nat):List Nat:=paM r (facQ r c S) 0 0 r (min r c)
def thR (r c:Nat) (S:List Nat):List Nat:=paM c (facR r c S) 0 0 (min r c) c
theorem rthin14_any (r c cap:Nat) (ao:Option Addr) (S:List Nat) (w:World) (h:Mx w ao cap r c S) :
  Calls Tryz.prog 74 #[.agg #[.int .i64 r,.int .i64 c,.slice ao S.length cap]] w fun e w'=>ThAns w' (facK r c S) r (min r c) c (thQ r c S) (thR r c S) e∧Below w.heap.size w w':=by
 have hl:=h.2.1
 have r6:=h.2.2.1
 have c6:=h.2.2.2
 have lq:(facQ r c S).length = r * r:=qrQ_len _ _ _ _ _
 have lr:(facR r c S).length = r * c:=qrR_len r c S hl _
 refine rthin_of r c S.length (r * r) (min r c) cap ao (facQ r c S) (facR r c S) (thQ r c S) (thR r c S) (facK r c S) w rfl r6 c6 (fun w' hb=>rfactor14_any r c cap ao S w' (h.below hb)) (fun w' qo qc hq=>?_) (fun w' ro rc hr=>?_)
 ·have:=rpart_any r r qc 0 0 r (min r c) qo (facQ r c S) w' ⟨hq,lq,r6,r6⟩ (by omega) (by omega)
  rw [lq] at this
  refine this.mono ?_
  rintro e w'' ⟨v,rfl,⟨po,pc,rfl,_,hb⟩,hb2⟩
  exact ⟨po,pc,rfl,hb,hb2⟩
 ·have:=rpart_any r c rc 0 0 (min r c) c ro (facR r c S) w' ⟨hr,lr,r6,c6⟩ (by omega) (by omega)
  rw [lr,← hl] at this
  refine this.mono ?_
  rintro e w'' ⟨v,rfl,⟨po,pc,rfl,_,hb⟩,hb2⟩
  exact ⟨po,pc,rfl,hb,hb2⟩
end Go.Proofs.YtlnphkioddknfaaGreatDoor
namespace Go.Proofs.YtlnphkioddknfaaGreatDoor
open Go.RowKit
attribute [local go_sem ↓] Go.wp_at_zero Go.wp_at_succ
theorem cl_at (r c:Nat) (S:List Nat) (k j:Nat) (h:j < r):(clL r c S k).getD j 0 = elM c S j k:=by simp [clL,fsL,List.getD_eq_getElem?_getD,h]
theorem dot_rc (c q:Nat) (S T:List Nat) (i k:Nat):dtK (mxL (rwL c S i)) (mxL (clL c q T k)) c = dtf c (fun j=>elM c S i j) (fun j=>elM q T j k):=by
 rw [dtK_dtf]
 refine dtf_congr c (fun j hj=>?_) (fun j hj=>?_)
 ·rw [mxL_at,rwL_at c S i j hj]
 ·rw [mxL_at,cl_at c q T k j hj]
theorem rmul10_any (r c q cap d:Nat) (ao bo:Option Addr) (S T:List Nat) (w:World) (h:Mx w ao cap r c S) (h2:Mx w bo d c q T) :
  Calls Tryz.prog 36 #[.agg #[.int .i64 r,.int .i64 c,.slice ao S.length cap],.agg #[.int .i64 c,.int .i64 q,.slice bo T.length d]] w fun e w'=>∃ v,e = .returned v∧NewM 0 w' r q (muM r c q S T) v∧Below w.heap.size w w':=by
 have HH:=hide h;have HG:=hide h2
 have hr6:=h.2.2.1;have hc6:=h.2.2.2;have hq6:=h2.2.2.2
 have K1:=hide (fun w'=>rzeros_any r q w' hr6 hq6)
 have KB:=hide (boxes3 w (.int .i64 r) (.int .i64 c) (.slice ao S.length cap) (.int .i64 c) (.int .i64 q) (.slice bo T.length d) (.int .i64 0) (.int .i64 0) (.slice none 0 0))
 have SZ:=hide (show (((w.alloc (.cells #[.int .i64 r,.int .i64 c,.slice ao S.length cap] 24)).alloc (.cells #[.int .i64 c,.int .i64 q,.slice bo T.length d] 24)).alloc (.cells #[.int .i64 0,.int .i64 0,.slice none 0 0] 24)).heap.size = w.heap.size+1+1+1 by simp)
 obtain ⟨l,hl⟩:∃ l,S.length = l:=⟨_,rfl⟩
 obtain ⟨m,hm⟩:∃ m,T.length = m:=⟨_,rfl⟩
 rw [hl,hm] at KB SZ
 rw [hl,hm]
 have HLL:=hide hl;have HMM:=hide hm
 obtain ⟨f,hf⟩:∃ f:Nat→Nat→Nat,f = fun i k=>dtf c (fun j=>elM c S i j) (fun j=>elM q T j k):=⟨_,rfl⟩
 have hmu:muM r c q S T = mkM r q f:=by rw [hf];rfl
 rw [hmu]
 have HF:=hide (show ∀ i k,dtK (mxL (rwL c S i)) (mxL (clL c q T k)) c = f i k from fun i k=>by rw [dot_rc,hf])
 clear h h2 hl hm hmu hf
 go_enter Tryz.func36,Tryz.ntmps36
 go_wp2_with fail
 refine (uH K1 _).mono ?_
 rintro e w1 ⟨v,rfl,⟨mo,mc,rfl,nw,qs⟩,hb1⟩
 rw [uH SZ] at hb1
 obtain ⟨B0,A0,A1,X0⟩:=uH KB w1 hb1
 have ba:=below_alloc9 w1 (.cells #[.int .i64 r,.int .i64 q,.slice mo (List.replicate (r * q) 0).length mc] 24)
 have z3:=hb1.size
 have L0:=hide (show LpSt w (w1.alloc (.cells #[.int .i64 r,.int .i64 q,.slice mo (mkM r q (fiR f 0 0)).length mc] 24)) w1.heap.size (w.heap.size+1+1) r q mo mc (mkM r q (fiR f 0 0)) from by
  rw [fiR_0]
  exact ⟨B0.trans (ba.mono B0.size),BoxM.new w1 _ _ _,X0.all ba,qs.below ba,by have:=X0.lt;omega,B0.size⟩)
 have HA:=hide (show BoxM (w1.alloc (.cells #[.int .i64 r,.int .i64 q,.slice mo (mkM r q (fiR f 0 0)).length mc] 24)) w.heap.size (.int .i64 r) (.int .i64 c) (.slice ao l cap) from by rw [fiR_0];exact A0.all ba)
 have HA2:=hide (show BoxM (w1.alloc (.cells #[.int .i64 r,.int .i64 q,.slice mo (mkM r q (fiR f 0 0)).length mc] 24)) (w.heap.size+1) (.int .i64 c) (.int .i64 q) (.slice bo m d) from by rw [fiR_0];exact A1.all ba)
 have NE:=hide (show w.heap.size ≠ w1.heap.size from by have:=A0.lt;omega);have NE2:=hide (show w.heap.size+1 ≠ w1.heap.size from by have:=A1.lt;omega)
 rw [← fiR_0 r q f]
 clear K1 KB SZ hb1 B0 A0 A1 X0 ba nw qs z3
 have t0:=(uH HA).c0;have t1:=(uH HA).c1;have t2:=(uH HA).c2
 go_wp2_with fail
 generalize w1.heap.size = g at *
 go_loopw [6] (fun i wr=>∃ (j:Nat) (no:Option Addr) (nc:Nat),j≤r∧i = .int .i64 j∧Hid (LpSt w wr g (w.heap.size+1+1) r q no nc (mkM r q (fiR f j 0)))∧Hid (BoxM wr w.heap.size (.int .i64 r) (.int .i64 c) (.slice ao l cap))∧Hid (BoxM wr (w.heap.size+1) (.int .i64 c) (.int .i64 q) (.slice bo m d))) (fun i _=>r - (intOf i).toNat)
 case atStart=>exact ⟨0,mo,mc,Nat.zero_le _,rfl,L0,HA,HA2⟩
 case round =>
  clear L0 HA HA2 t0 t1 t2
  obtain ⟨j,no,nc,hj,rfl,hL,hA,hA2⟩:=hrel
  have t0:=(uH hA).c0;have t1:=(uH hA).c1;have t2:=(uH hA).c2
  have v0:=(uH hA2).c0;have v1:=(uH hA2).c1;have v2:=(uH hA2).c2
  by_cases hlt:j < r
  ·have hjI:(j:Int) < (r:Int):=by omega
   go_wp2_with fail
   go_loopw [7] (fun i wr=>∃ (k:Nat) (no:Option Addr) (nc:Nat),k≤q∧i = .int .i64 k∧Hid (LpSt w wr g (w.heap.size+1+1) r q no nc (mkM r q (fiR f j k)))∧Hid (BoxM wr w.heap.size (.int .i64 r) (.int .i64 c) (.slice ao l cap))∧Hid (BoxM wr (w.heap.size+1) (.int .i64 c) (.int .i64 q) (.slice bo m d))) (fun i _=>q - (intOf i).toNat)
   case atStart=>exact ⟨0,no,nc,Nat.zero_le _,rfl,hL,hA,hA2⟩
   case round =>
    clear hL hA hA2 t0 t1 t2 v0 v1 v2 no nc
    obtain ⟨k,no,nc,hk,rfl,hL,hA,hA2⟩:=hrel
    have t0:=(uH hA).c0;have t1:=(uH hA).c1;have t2:=(uH hA).c2
    have v0:=(uH hA2).c0;have v1:=(uH hA2).c1;have v2:=(uH hA2).c2
    by_cases hkc:k < q
    ·have hkI:(k:Int) < (q:Int):=by omega
     have y0:=(uH hL).box.c0;have y1:=(uH hL).box.c1;have y2:=(uH hL).box.c2
     have C1:=hide (fun w' (x:Mx w' ao cap r c S)=>rrow_any r c cap j ao S w' x hlt)
     have C2:=hide (fun w' (x:Mx w' bo d c q T)=>rcol_any c q d k bo T w' x hkc)
     have C3:=hide (fun w' uo ud vo vd (x:BitsAt w' uo ud (mxL (rwL c S j))) (y:BitsAt w' vo vd (mxL (clL c q T k)))=>r9dot_any uo vo ud vd _ _ w' x y (by rw [mxL_len,mxL_len,rwL_len,clL,fsL_len]) (by rw [mxL_len,rwL_len];omega))
     rw [mxL_len,mxL_len,rwL_len,show (clL c q T k).length = c from fsL_len _ _,uH HF j k] at C3
     have C4:=hide (fun w' no nc (x:Mx w' no nc r q (mkM r q (fiR f j k)))=>rwith_any r q nc j k (f j k) no (mkM r q (fiR f j k)) w' x hlt hkc (by rw [← uH HF j k];exact dtK_lt _ _ _))
     rw [fiR_step r q f hlt hkc] at C4
     rw [uH HLL] at C1
     rw [uH HMM] at C2
     have HMA:=hide ((uH HH).below (uH hL).bel);have HMB:=hide ((uH HG).below (uH hL).bel)
     have HP:=hide (show (mkM r q (fiR f j k)).length = r * q from mkM_len _ _ _)
     generalize f j k = x at *
     generalize mkM r q (fiR f j k) = U at *
     generalize hT2:mkM r q (fiR f j (k+1)) = T2 at *
     have HT2:=hide hT2
     clear hT2
     generalize mxL (rwL c S j) = RW at *
     generalize mxL (clL c q T k) = CL at *
     go_wp2_with fail
     go_region_with (first | (go_at_call 79;refine (uH C1 _ (by exact uH HMA)).mono ?_;rintro e w4 ⟨uo,ud,rfl,qu,hb3⟩;(first | (have hb4:=Below.trans ((Below.refl _ _).drew) hb3) | (have hb4:=hb3));replace hL:=hide ((uH hL).all hb4);replace hA:=hide ((uH hA).all hb4);replace hA2:=hide ((uH hA2).all hb4);(first | (replace HMB:=hide ((uH HMB).below hb4)) | skip);(first | (replace HV:=hide ((uH HV).below hb4)) | skip);have HU:=hide qu;clear HMA t0 t1 t2 v0 v1 v2 y0 y1 y2;have t0:=(uH hA).c0;have t1:=(uH hA).c1;have t2:=(uH hA).c2;have v0:=(uH hA2).c0;have v1:=(uH hA2).c1;have v2:=(uH hA2).c2;have y0:=(uH hL).box.c0;have y1:=(uH hL).box.c1;have y2:=(uH hL).box.c2;clear hb3 hb4 qu C1) | (go_at_call 80;refine (uH C2 _ (by exact uH HMB)).mono ?_;rintro e w5 ⟨vo,vd,rfl,qv,hb3⟩;(first | (have hb4:=Below.trans ((Below.refl _ _).drew) hb3) | (have hb4:=hb3));replace hL:=hide ((uH hL).all hb4);replace hA:=hide ((uH hA).all hb4);replace hA2:=hide ((uH hA2).all hb4);(first | (replace HMA:=hide ((uH HMA).below hb4)) | skip);(first | (replace HU:=hide ((uH HU).below hb4)) | skip);have HV:=hide qv;clear HMB t0 t1 t2 v0 v1 v2 y0 y1 y2;have t0:=(uH hA).c0;have t1:=(uH hA).c1;have t2:=(uH hA).c2;have v0:=(uH hA2).c0;have v1:=(uH hA2).c1;have v2:=(uH hA2).c2;have y0:=(uH hL).box.c0;have y1:=(uH hL).box.c1;have y2:=(uH hL).box.c2;clear hb3 hb4 qv C2) | (go_at_call 92;refine (uH C3 _ _ _ _ _ (uH HU) (uH HV)).mono ?_;rintro e w6 ⟨rfl,hb4⟩;replace hL:=hide ((uH hL).all hb4);replace hA:=hide ((uH hA).all hb4);replace hA2:=hide ((uH hA2).all hb4);clear t0 t1 t2 v0 v1 v2 y0 y1 y2;have y0:=(uH hL).box.c0;have y1:=(uH hL).box.c1;have y2:=(uH hL).box.c2;clear hb4 HU HV) | (go_at_call 51;refine (uH C4 _ _ _ ⟨(uH hL).bits,uH HP,hr6,hq6⟩).mono ?_;rintro e w7 ⟨v,rfl,⟨no5,nc5,rfl,_,q5⟩,hb5⟩;clear y0 y1 y2;have L5:=(uH hL).all hb5;have A5:=(uH hA).all hb5;have A6:=(uH hA2).all hb5;have y0:=L5.box.c0;have y1:=L5.box.c1;have y2:=L5.box.c2;have f0:=L5.box.free 0;have f1:=L5.box.free 1;have f2:=L5.box.free 2;have L6:=hide (L5.put q5);have HA6:=hide (((A5.other (p:=⟨g,0,none⟩) (uH NE) (.int .i64 r)).other (p:=⟨g,1,none⟩) (uH NE) (.int .i64 q)).other (p:=⟨g,2,none⟩) (uH NE) (.slice no5 T2.length nc5));have HA7:=hide (((A6.other (p:=⟨g,0,none⟩) (uH NE2) (.int .i64 r)).other (p:=⟨g,1,none⟩) (uH NE2) (.int .i64 q)).other (p:=⟨g,2,none⟩) (uH NE2) (.slice no5 T2.length nc5));clear hb5 L5 A5 A6 q5 hL hA hA2) | fail "NO ARM")
     all_goals
      clear C3 C4 y0 y1 y2 f0 f1 f2
      go_wp2_with fail
      go_round
      case rel=>exact ⟨k+1,no5,nc5,by omega,by go_num,by rw [uH HT2];exact L6,HA6,HA7⟩
      case measure=>simp [intOf];omega
    ·have hkk:q = k:=by omega
     subst hkk
     have hL':=hide (show LpSt w _ g (w.heap.size+1+1) r q no nc (mkM r q (fiR f (j+1) 0)) from by rw [← fiR_row r q f j];exact uH hL)
     clear hL
     go_wp2_with fail
     go_round
     case rel=>exact ⟨j+1,no,nc,by omega,by go_num,hL',hA,hA2⟩
     case measure=>simp [intOf];omega
  ·have hjj:r = j:=by omega
   subst hjj
   rw [fiR_all] at hL
   have y0:=(uH hL).box.c0;have y1:=(uH hL).box.c1;have y2:=(uH hL).box.c2
   have r0:=(uH hL).res.c0;have r1:=(uH hL).res.c1;have r2:=(uH hL).res.c2
   have f0:=(uH hL).res.free 0;have f1:=(uH hL).res.free 1;have f2:=(uH hL).res.free 2
   have XP:=(uH hL).res.put (.int .i64 r) (.int .i64 q) (.slice no (mkM r q f).length nc)
   have z0:=XP.c0;have z1:=XP.c1;have z2:=XP.c2
   have Q:=hide (BitsAt.putM (uH hL).bits (uH hL).res (.int .i64 r) (.int .i64 q) (.slice no (mkM r q f).length nc))
   have BP:=hide (below_putM (uH hL).bel (b:=w.heap.size+1+1) (by omega) (.int .i64 r) (.int .i64 q) (.slice no (mkM r q f).length nc))
   clear XP hL
   go_wp2
   exact bodyPost_ret (v:=.agg #[.int .i64 r,.int .i64 q,.slice no (mkM r q f).length nc]) (by simp [results,Tryz.results36,go_sem,z0,z1,z2]) rfl ⟨_,rfl,NewM.any (uH Q),uH BP⟩
end Go.Proofs.YtlnphkioddknfaaGreatDoor
