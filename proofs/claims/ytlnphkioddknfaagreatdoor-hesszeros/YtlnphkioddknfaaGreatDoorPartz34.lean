/- Part 34 of the texts. -/
import Derived.Test.YtlnphkioddknfaaGreatDoorPartz33
import Derived.Test.YtlnphkioddknfaaGreatDoorPartz08
import Derived.Lib.BitFns
import Derived.Test.YtlnphkioddknfaaGreatDoorPartz27
import Derived.Test.YtlnphkioddknfaaGreatDoorPartz07
import Derived.Test.YtlnphkioddknfaaGreatDoorPartz05
import Derived.Test.YtlnphkioddknfaaGreatDoorPartz02
import Derived.Maps.AppendAt
import Derived.Test.YtlnphkioddknfaaGreatDoorPartz28
import Derived.OwnWalk
import Derived.Test.YtlnphkioddknfaaGreatDoorPartz09
import Derived.Test.YtlnphkioddknfaaGreatDoorPartz06
import Derived.Deep.AppendLies
import Derived.Maps.Own
import Derived.Maps.OwnOps
import Derived.Maps.OwnSet
import Derived.DeepKeys4
import Derived.WalkSmall
import Derived.Deep.RegionHeld3
import Derived.Test.YtlnphkioddknfaaGreatDoorPartz01
import Derived.Test.YtlnphkioddknfaaGreatDoorPartz32
import Derived.Test.YtlnphkioddknfaaGreatDoorPartz25
import Derived.Test.YtlnphkioddknfaaGreatDoorPartz13
import Derived.Test.YtlnphkioddknfaaGreatDoorPartz14
import Derived.Test.YtlnphkioddknfaaGreatDoorPartz12
import Derived.Test.YtlnphkioddknfaaGreatDoorPartz11
import Derived.Deep.Cut
import Derived.BigQuiet
import Derived.Test.YtlnphkioddknfaaGreatDoorPartz26
set_option maxHeartbeats 32000000
set_option maxRecDepth 20000
namespace Go.Proofs.YtlnphkioddknfaaGreatDoor
open Go.RowKit
attribute [local go_sem ↓] Go.wp_at_zero Go.wp_at_succ
theorem step_append16 {P:Program} (w:World) {ops:Array Oper} {o:Oper} {a:Act} {K:Act→World→Prop} {Q:Exit→Act→World→Prop} {E:Prop} (hgd:o.guard = none) (s x:Operand) (t:TypeId)
  (ho:o.op = .call { callee:=.builtin .append,args:=#[s,x],argTypes:=#[t,t] }) (v1 v2:Value) (F:Value→World→Prop) (hs:a.eval s = v1) (hx:a.eval x = v2)
  (hr:∃ v' w',(Builtin.append_ #[t,t] o.type #[v1,v2]).run P w = .ok v' w'∧F v' w') (h:∀ v' w',F v' w'→K (a.put o.dst v') w') :
  if Region.wanted o (yielded ops a.tmps) = true then Oper.wp P o a w K Q else E:=by
 have hw:Region.wanted o (yielded ops a.tmps) = true:=by simp [Region.wanted,hgd]
 rw [if_pos hw]
 obtain ⟨v',w',hrun,hF⟩:=hr
 unfold Oper.wp execOp
 simp only [ho,resolve,invoke,builtin,Sem.run_bind,Sem.run_pure,Result.andThen_ok,List.map_toArray,List.map_cons,List.map_nil,hs,hx,hrun]
 exact h v' w' hF
theorem avM_off {x:Mr} {g:Option Nat} (h:OffB g x.ao (mxL x.V)):AvM g x:=by
 rcases h with e | e
 ·exact .inl (by cases hV:x.V with
   | nil=>rfl
   | cons y ys=>rw [hV] at e;cases e)
 ·exact .inr e
theorem OwnMt.apartM {base:Nat} {w:World} {v:Value} {R:List Mr} (h:OwnMt base w v R) {g:Nat} {x y z:Value} (hx:BoxM w g x y z):v.ownBlock ≠ some g:=by
 intro e
 rcases h.1.2 with ⟨e1,_⟩ | ⟨k,cap,cur,hv,hk,hh,rest⟩
 ·rw [e1] at e;simp [Value.ownBlock] at e
 ·rw [hv] at e
  simp [Value.ownBlock] at e
  subst e
  have e:=hh.symm.trans hx
  simp at e
theorem cell_three16 {w:World} {b g j:Nat} {u u' u'' v:Value} (hne:b ≠ g) (h:w.cell? ⟨b,j,none⟩ = some v):(((w.setCell ⟨g,0,none⟩ u).setCell ⟨g,1,none⟩ u').setCell ⟨g,2,none⟩ u'').cell? ⟨b,j,none⟩ = some v:=by
 rw [cell_setCell_other _ _ _ _ hne,cell_setCell_other _ _ _ _ hne,cell_setCell_other _ _ _ _ hne]
 exact h
theorem TrSt.pushed {w wr:World} {h r c n cap:Nat} {ao:Option Addr} {S U:List Nat} {ro:Option Addr} {rc:Nat} {v:Value} {R:List Mr} (t:TrSt w wr h r c n cap ao S ro rc v R) (x:Mr) (hx:BitsAt wr x.ao x.cap (mxL x.V)) (ha:OffB v.ownBlock x.ao (mxL x.V)) (hl:R.length≤1000000) {g nb mb:Nat} (hg:RowB wr g U) (hgv:v.ownBlock ≠ some g) (hg2:w.heap.size+1+1≤g) (hf:∀ x ∈ U,x < 18446744073709551616) (hlU:U.length = n) {y1 y2 y3 y4 y5:Value} (hN:BoxM wr nb y1 y2 y3) (hM:BoxR wr mb y4 y5) (hMv:v.ownBlock ≠ some mb) (ty:TypeId) :
  ∃ v' w',(Builtin.append_ #[168,168] ty #[v,.slice (some ⟨wr.heap.size,0,none⟩) 1 1]).run Tryz.prog (wr.alloc (.cells #[.slice x.ao x.V.length x.cap,.int .u64 (x.tau:Nat)] 201)) = .ok v' w'∧BoxM w' h (.int .i64 r) (.int .i64 c) (.slice ro n rc)∧(TrSt w (((w'.setCell ⟨h,0,none⟩ (.int .i64 r)).setCell ⟨h,1,none⟩ (.int .i64 c)).setCell ⟨h,2,none⟩ (.slice (some ⟨g,0,none⟩) n n)) h r c n cap ao U (some ⟨g,0,none⟩) n v' (R ++ [x])∧RowB (((w'.setCell ⟨h,0,none⟩ (.int .i64 r)).setCell ⟨h,1,none⟩ (.int .i64 c)).setCell ⟨h,2,none⟩ (.slice (some ⟨g,0,none⟩) n n)) g U)∧BoxM w' nb y1 y2 y3∧BoxR w' mb y4 y5:=by
 have hlt:=t.rb.lt
 have hh:=t.hh
 have hv:=t.l.apartM t.rb
 obtain ⟨v',w',e1,e2,e3,e4,e5⟩:=t.l.push x hx (avM_off ha) hl (by omega) ty
 have b1:=below_alloc9 wr (.cells #[.slice x.ao x.V.length x.cap,.int .u64 (x.tau:Nat)] 201)
 have t1:=t.all b1
 have X1:=t1.rb.grown e4 hv
 have G1:RowB w' g U:=(e4.block g (hg.below b1 hg.lt).lt (fun e=>hgv e.symm)).trans (hg.below b1 hg.lt)
 have n0:w.heap.size ≠ h:=by omega
 have n1:w.heap.size+1 ≠ h:=by omega
 have hbits:=G1.bits hf
 rw [hlU] at hbits
 have q:BitsAt w' (some ⟨g,0,none⟩) n (mxL U):=hbits
 have hgl:=hg.lt
 refine ⟨v',w',e1,X1,⟨⟨below_putM (t.bel.trans (e3.mono (by omega))) (by omega) _ _ _,hh,(t.a.below e3 (by omega)).three14 n0 _ _ _,(t.res.below e3 (by omega)).three14 n1 _ _ _,X1.put _ _ _,q.putM X1 _ _ _,.inr ⟨g,0,rfl,by omega⟩,hlU,e2.putQ X1 _ _ _,.inr ⟨g,0,rfl,fun e=>?_⟩⟩,G1.three (rowB_neM G1 X1) _ _ _⟩,(hN.all b1).grown e4 (t.l.apartM hN),(hM.all b1).grown e4 hMv⟩
 rcases e5 with z | z
 ·rw [z] at e;exact hgv e.symm
 ·rw [z] at e;cases e;omega
theorem qtri_of (r c n cap K:Nat) (m:Int) (ao:Option Addr) (RJ V:Nat→List Nat) (tau:Nat→Nat) (o:Nat→Bool) (ok:Bool) (w:World) (hr:r≤6) (hc:c≤6) (hm:m = min (c:Int) ((r:Int) - 1)) (hK:∀ j:Nat,j < K ↔ (j:Int) < m)
  (lR:∀ j,(RJ j).length = n) (lV:∀ j,(V j).length = r - j) (hf:∀ j,j < K→∀ x ∈ RJ (j+1),x < 18446744073709551616)
  (hok:ok = true ↔ ∀ j,j < K→o j = true)
  (C1:∀ w',Below w.heap.size w w'→Calls Tryz.prog 125 #[.agg #[.int .i64 r,.int .i64 c,.slice ao n cap],.int .i64 0,.int .i64 0,.int .i64 r,.int .i64 c] w' fun e w''=>∃ po pc,e = .returned (.tuple #[.agg #[.int .i64 r,.int .i64 c,.slice po n pc],.int .i64 0])∧NewB w'.heap.size po (mxL (RJ 0))∧BitsAt w'' po pc (mxL (RJ 0))∧Below w'.heap.size w' w'')
  (C5:∀ w' j po pc,j < K→Below w.heap.size w w'→BitsAt w' po pc (mxL (RJ j))→Calls Tryz.prog 212 #[.agg #[.int .i64 r,.int .i64 c,.slice po n pc],.int .i64 (j:Nat)] w' fun e w''=>DnAns w' w'' (o j) r c n (r - j) (RJ (j+1)) (V j) (tau j) e∧Below w'.heap.size w' w'') :
  Calls Tryz.prog 174 #[.agg #[.int .i64 r,.int .i64 c,.slice ao n cap]] w fun e w'=>TriAns w w' ok r c n K (RJ K) V tau e∧Below w.heap.size w w':=by
 have hmin:∀ (W:World) ts t,(Builtin.min_ ts t #[.int .i64 (c:Int),.int .i64 ((r:Int) - 1)]).run Tryz.prog W = .ok (.int .i64 m) W:=fun W ts t=>by rw [hm];exact min2_run _ W ts t _ _
 have hw1:IntKind.i64.wrap ((r:Int) - 1) = (r:Int) - 1:=wrap_in _ (by omega)
 have hK6:K≤6:=by
  rcases Nat.lt_or_ge 6 K with g | g
  ·have:=(hK 6).1 g
   omega
  ·exact g
 have HKR:=hide (show ∀ j,j < K→j < r from fun j hj=>by have:=(hK j).1 hj;omega)
 have HK:=hide hK;have LR:=hide lR;have LV:=hide lV;have HF:=hide hf;have HOK:=hide hok
 have K1:=hide (C1 ((w.alloc (.cells #[.int .i64 r,.int .i64 c,.slice ao n cap] 24)).alloc (.cells #[.int .i64 0,.int .i64 0,.slice none 0 0] 24)) (by
  have b1:=below_alloc9 w (.cells #[.int .i64 r,.int .i64 c,.slice ao n cap] 24)
  have b2:=below_alloc9 (w.alloc (.cells #[.int .i64 r,.int .i64 c,.slice ao n cap] 24)) (.cells #[.int .i64 0,.int .i64 0,.slice none 0 0] 24)
  exact b1.trans (b2.mono b1.size)))
 simp only [size_alloc9] at K1
 have KB:=hide (boxes2 w (.int .i64 r) (.int .i64 c) (.slice ao n cap) (.int .i64 0) (.int .i64 0) (.slice none 0 0))
 have K5:=hide C5
 clear hm hK lR lV hf hok C1 C5
 go_enter Tryz.func174,Tryz.ntmps174
 go_wp2_with fail
 refine (uH K1).mono ?_
 rintro e w1 ⟨po,pc,rfl,hn,hq,hb1⟩
 obtain ⟨hB,hA,hX⟩:=uH KB w1 hb1
 have ST:=hide (TrSt.start hB hA hX hq (hn.least (by omega)) (uH LR 0))
 have y0:=(uH ST).a.c0;have y1:=(uH ST).a.c1
 clear K1 KB hb1 hB hA hX hn hq
 go_wp2_with fail
 clear y0 y1 hmin hw1
 generalize w1.heap.size = h at *
 go_loopw [7,27] (fun v a wr=>∃ (j:Nat) (ro:Option Addr) (rc:Nat) (R:List Mr),j≤K∧a = .int .i64 j∧Hid (R.length = j)∧Hid (∀ k,k < j→(mrAt R k).V = V k∧(mrAt R k).tau = tau k)∧Hid (∀ k,k < j→o k = true)∧Hid (TrSt w wr h r c n cap ao (RJ j) ro rc v R)∧Hid (RowIf j n wr ro rc (RJ j))) (fun _ a _=>K - (intOf a).toNat)
 case atStart=>exact ⟨0,po,pc,[],Nat.zero_le _,rfl,rfl,fun k hk=>absurd hk (Nat.not_lt_zero k),fun k hk=>absurd hk (Nat.not_lt_zero k),ST,fun hk=>absurd hk (Nat.lt_irrefl 0)⟩
 case round =>
  clear ST
  obtain ⟨j,ro,rc,R,hjK,rfl,hRl,hRm,hO,hS,hRW⟩:=hrel
  by_cases hlt:j < K
  ·have hjm:=(uH HK j).1 hlt
   clear hRW
   have hjr:=uH HKR j hlt
   obtain ⟨L,hL⟩:∃ L,r - j = L:=⟨_,rfl⟩
   have G5:=hide (fun w' po pc=>uH K5 w' j po pc hlt)
   have LV1:=hide (uH LV j);have LR1:=hide (uH LR (j+1));have HF1:=hide (uH HF j hlt)
   rw [hL] at G5 LV1
   generalize hTJ:tau j = tj at *
   generalize hVJ:V j = vj at *
   generalize hNJ:RJ (j+1) = nj at *
   generalize hRJ:RJ j = rj at *
   have q0:=(uH hS).rb.c0;have q1:=(uH hS).rb.c1;have q2:=(uH hS).rb.c2
   clear hL
   go_wp2_with fail
   clear q0 q1 q2
   refine (uH G5 _ ro rc (uH hS).bel (uH hS).bits).mono ?_
   rintro e w5 ⟨hans,hb⟩
   have HOWN:=hide (fun k hk=>((uH hS).l.lt k hk).2)
   have HHS:=hide (show w.heap.size+1+1≤_ from Nat.le_trans (uH hS).hh (Nat.le_of_lt (uH hS).rb.lt))
   have HSZ:=hide hb.size
   have HHL:=hide (uH hS).rb.lt
   have P4:=hide ((uH hS).all hb)
   clear hb G5 hS
   rcases hans with ⟨ho,g2,vo,vc,rfl,hg2,hrow,hn,hv,hof⟩ | ⟨ho,rfl⟩
   ·have ba1:=below_alloc9 w5 (.cells #[.int .i64 r,.int .i64 c,.slice (some ⟨g2,0,none⟩) n n] 24)
    have sa1:=size_alloc9 w5 (.cells #[.int .i64 r,.int .i64 c,.slice (some ⟨g2,0,none⟩) n n] 24)
    have nb1:=BoxM.new w5 (.int .i64 r) (.int .i64 c) (.slice (some ⟨g2,0,none⟩) n n)
    have ba2:=below_alloc9 (w5.alloc (.cells #[.int .i64 r,.int .i64 c,.slice (some ⟨g2,0,none⟩) n n] 24)) (.cells #[.slice vo L vc,.int .u64 (tj:Nat)] 201)
    have mb1:=BoxR.new (w5.alloc (.cells #[.int .i64 r,.int .i64 c,.slice (some ⟨g2,0,none⟩) n n] 24)) (.slice vo L vc) (.int .u64 (tj:Nat))
    rw [sa1] at mb1
    have ST6:=hide (show TrSt _ _ _ _ _ _ _ _ _ _ _ _ _∧BoxM _ _ _ _ _∧BoxR _ _ _ _∧RowB _ _ _∧BitsAt _ _ _ _ from ⟨((uH P4).all ba1).all ba2,nb1.all ba2,mb1,(hrow.below ba1 hrow.lt).below ba2 (hrow.below ba1 hrow.lt).lt,(hv.below ba1).below ba2⟩)
    have HO:=hide ho
    have HG2:=hide hg2;have HN:=hide hn
    have HNB:=hide (show _≤w5.heap.size from uH HSZ)
    clear ba1 sa1 nb1 ba2 mb1 hrow hv hg2 hn hof ho P4
    go_wp2_with fail
    refine at_world (fun W=>TrSt w W h r c n cap ao rj ro rc u7 R∧BoxM W w5.heap.size (.int .i64 r) (.int .i64 c) (.slice (some ⟨g2,0,none⟩) n n)∧BoxR W (w5.heap.size+1) (.slice vo L vc) (.int .u64 (tj:Nat))∧RowB W g2 nj∧BitsAt W vo vc (mxL vj)) (uH ST6) ?_
    clear ST6
    rintro W6 ⟨p6,n6,m6,row6,v6⟩
    have OWN9:∀ q,(∀ k,u7.ownBlock = some k→k < q)→u7.ownBlock ≠ some q:=fun q hq e=>Nat.lt_irrefl q (hq q e)
    have hd:=(Below.refl W6.heap.size W6).drew
    have APP:=TrSt.pushed (p6.all hd) ⟨vo,vc,vj,tj,0⟩ (v6.below hd) (OffB.new (uH HN) (fun k hk=>uH HOWN k hk)) (by rw [uH hRl];omega) (row6.below hd row6.lt) (OWN9 _ (fun k hk=>Nat.lt_of_lt_of_le (uH HOWN k hk) (uH HG2))) (Nat.le_trans (uH HHS) (uH HG2)) (uH HF1) (uH LR1) (n6.all hd) (m6.all hd) (OWN9 _ (fun k hk=>Nat.lt_of_lt_of_le (uH HOWN k hk) (Nat.le_trans (uH HNB) (Nat.le_succ _)))) 168
    dsimp only at APP
    rw [uH LV1] at APP
    obtain ⟨v9,w9,a1,a2,a3,a4,a5⟩:=APP
    have APP:=hide (show ∃ v' w',_ = _∧(BoxM w' h (.int .i64 r) (.int .i64 c) (.slice ro n rc)∧(TrSt w (((w'.setCell ⟨h,0,none⟩ (.int .i64 r)).setCell ⟨h,1,none⟩ (.int .i64 c)).setCell ⟨h,2,none⟩ (.slice (some ⟨g2,0,none⟩) n n)) h r c n cap ao nj (some ⟨g2,0,none⟩) n v' (R ++ [⟨vo,vc,vj,tj,0⟩])∧RowB (((w'.setCell ⟨h,0,none⟩ (.int .i64 r)).setCell ⟨h,1,none⟩ (.int .i64 c)).setCell ⟨h,2,none⟩ (.slice (some ⟨g2,0,none⟩) n n)) g2 nj)∧(w'.cell? ⟨w5.heap.size,0,none⟩ = some (.int .i64 (r:Nat))∧w'.cell? ⟨w5.heap.size,1,none⟩ = some (.int .i64 (c:Nat))∧w'.cell? ⟨w5.heap.size,2,none⟩ = some (.slice (some ⟨g2,0,none⟩) n n))∧w'.cell? ⟨w5.heap.size+1,0,none⟩ = some (.slice vo L vc)∧w'.cell? ⟨w5.heap.size+1,1,none⟩ = some (.int .u64 (tj:Nat))) from ⟨v9,w9,a1,a2,a3,⟨a4.c0,a4.c1,a4.c2⟩,a5.c0,a5.c1⟩)
    clear a1 a2 a3 a4 a5
    have KEEP:=hide (fun W' (hb:Below W6.drew.heap.size W6.drew W')=>(show (W'.cell? ⟨w5.heap.size,0,none⟩ = some (.int .i64 (r:Nat))∧W'.cell? ⟨w5.heap.size,1,none⟩ = some (.int .i64 (c:Nat))∧W'.cell? ⟨w5.heap.size,2,none⟩ = some (.slice (some ⟨g2,0,none⟩) n n))∧W'.cell? ⟨w5.heap.size+1,0,none⟩ = some (.slice vo L vc)∧W'.cell? ⟨w5.heap.size+1,1,none⟩ = some (.int .u64 (tj:Nat)) from
     have x:=(n6.all hd).all hb;have y:=(m6.all hd).all hb;⟨⟨x.c0,x.c1,x.c2⟩,y.c0,y.c1⟩))
    have hhl:w5.heap.size ≠ h:=fun e=>by have:=uH HHL;have:=uH HNB;omega
    have hhm:w5.heap.size+1 ≠ h:=fun e=>by have:=uH HHL;have:=uH HNB;omega
    have KEEP3:=hide (fun (W':World) (k:(W'.cell? ⟨w5.heap.size,0,none⟩ = some (.int .i64 (r:Nat))∧W'.cell? ⟨w5.heap.size,1,none⟩ = some (.int .i64 (c:Nat))∧W'.cell? ⟨w5.heap.size,2,none⟩ = some (.slice (some ⟨g2,0,none⟩) n n))∧W'.cell? ⟨w5.heap.size+1,0,none⟩ = some (.slice vo L vc)∧W'.cell? ⟨w5.heap.size+1,1,none⟩ = some (.int .u64 (tj:Nat)))=>(show ((((W'.setCell ⟨h,0,none⟩ (.int .i64 r)).setCell ⟨h,1,none⟩ (.int .i64 c)).setCell ⟨h,2,none⟩ (.slice (some ⟨g2,0,none⟩) n n)).cell? ⟨w5.heap.size,0,none⟩ = some (.int .i64 (r:Nat))∧(((W'.setCell ⟨h,0,none⟩ (.int .i64 r)).setCell ⟨h,1,none⟩ (.int .i64 c)).setCell ⟨h,2,none⟩ (.slice (some ⟨g2,0,none⟩) n n)).cell? ⟨w5.heap.size,1,none⟩ = some (.int .i64 (c:Nat))∧(((W'.setCell ⟨h,0,none⟩ (.int .i64 r)).setCell ⟨h,1,none⟩ (.int .i64 c)).setCell ⟨h,2,none⟩ (.slice (some ⟨g2,0,none⟩) n n)).cell? ⟨w5.heap.size,2,none⟩ = some (.slice (some ⟨g2,0,none⟩) n n))∧(((W'.setCell ⟨h,0,none⟩ (.int .i64 r)).setCell ⟨h,1,none⟩ (.int .i64 c)).setCell ⟨h,2,none⟩ (.slice (some ⟨g2,0,none⟩) n n)).cell? ⟨w5.heap.size+1,0,none⟩ = some (.slice vo L vc)∧(((W'.setCell ⟨h,0,none⟩ (.int .i64 r)).setCell ⟨h,1,none⟩ (.int .i64 c)).setCell ⟨h,2,none⟩ (.slice (some ⟨g2,0,none⟩) n n)).cell? ⟨w5.heap.size+1,1,none⟩ = some (.int .u64 (tj:Nat)) from
     ⟨⟨cell_three16 (u:=.int .i64 r) (u':=.int .i64 c) (u'':=.slice (some ⟨g2,0,none⟩) n n) hhl k.1.1,cell_three16 hhl k.1.2.1,cell_three16 hhl k.1.2.2⟩,cell_three16 hhm k.2.1,cell_three16 hhm k.2.2⟩))
    have NB:=hide (n6.all hd);have MB:=hide (m6.all hd)
    generalize w5.heap.size = nb at *
    clear p6 n6 m6 row6 v6 hd hhl hhm OWN9 HHL HNB HG2 HOWN HHS HSZ HN
    refine wp_region_held_drew (S:=fun w'=>(w'.cell? ⟨nb,0,none⟩ = some (.int .i64 (r:Nat))∧w'.cell? ⟨nb,1,none⟩ = some (.int .i64 (c:Nat))∧w'.cell? ⟨nb,2,none⟩ = some (.slice (some ⟨g2,0,none⟩) n n))∧w'.cell? ⟨nb+1,0,none⟩ = some (.slice vo L vc)∧w'.cell? ⟨nb+1,1,none⟩ = some (.int .u64 (tj:Nat))) (by kernel_rfl) ?_ (fun hHeld=>?_)
    ·exact ⟨⟨(uH NB).c0,(uH NB).c1,(uH NB).c2⟩,(uH MB).c0,(uH MB).c1⟩
    refine wpAnyH_take (i:=0) (oi:={ dst:=some 41,op:=Op.load 24 (Operand.tmp 9),type:=24,pos := "qr.go:37",after:=#[],guard:=none }) (v:=Value.agg #[.int .i64 r,.int .i64 c,.slice (some ⟨g2,0,none⟩) n n]) rfl (by kernel_rfl) (by kernel_rfl) (by kernel_rfl) (fun _ _ _ h=>h) (Or.inl ⟨by rfl,?_⟩) (by assumption) ?_
    ·(intro w hSw;(try dsimp only at hSw);go_simp)
    simp only [Act.put,List.setIfInBounds_toArray,List.set_cons_zero,List.set_cons_succ]
    refine wpAnyH_take (i:=1) (oi:={ dst:=some 42,op:=Op.move (Operand.tmp 7),type:=168,pos := "qr.go:37",after:=#[],guard:=none }) (v:=u7) rfl (by kernel_rfl) (by kernel_rfl) (by kernel_rfl) (fun _ _ _ h=>h) (Or.inl ⟨by rfl,?_⟩) (by assumption) ?_
    ·(intro w hSw;(try dsimp only at hSw);go_simp)
    simp only [Act.put,List.setIfInBounds_toArray,List.set_cons_zero,List.set_cons_succ]
    refine wpAnyH_take (i:=2) (oi:={ dst:=some 43,op:=Op.load 201 (Operand.tmp 10),type:=201,pos := "qr.go:37",after:=#[],guard:=none }) (v:=Value.agg #[.slice vo L vc,.int .u64 (tj:Nat)]) rfl (by kernel_rfl) (by kernel_rfl) (by kernel_rfl) (fun _ _ _ h=>h) (Or.inl ⟨by rfl,?_⟩) (by assumption) ?_
    ·(intro w hSw;(try dsimp only at hSw);go_simp)
    simp only [Act.put,List.setIfInBounds_toArray,List.set_cons_zero,List.set_cons_succ]
    refine wpAnyH_ready (rs:=[3]) (by kernel_rfl) (by simp) ?_
    refine AllReadyH.cons (o:={ dst:=some 44,op:=Op.buildSlice 168 1 #[(0,Operand.tmp 43)],type:=168,pos := "qr.go:37",after:=#[{ on:=2,ground:=Ground.data }],guard:=none }) rfl (fun K0 hK0=>?_) AllReadyH.nil
    go_simp
    refine hK0.out _ _ ?_ (fun hHeld=>?_)
    ·exact uH KEEP _ (below_alloc9 _ _)
    clear hK0 K0
    refine wpAnyH_ready (rs:=[4]) (by kernel_rfl) (by simp) ?_
    refine AllReadyH.cons (o:={ dst:=some 45,op:=Op.call { callee:=Callee.builtin Builtin.append,args:=#[Operand.tmp 42,Operand.tmp 44],argTypes:=#[168,168] },type:=168,pos := "qr.go:37",after:=#[{ on:=1,ground:=Ground.data },{ on:=3,ground:=Ground.data }],guard:=none }) rfl (fun K0 hK0=>?_) AllReadyH.nil
    refine step_append16 _ (by rfl) _ _ 168 (by rfl) _ _ _ (by rfl) (by rfl) (uH APP) ?_
    clear APP
    rintro v9 w9 ⟨hbx,hst,hkp⟩
    have BX:=hide hbx;have P9:=hide hst
    clear hbx hst
    refine hK0.out _ _ ?_ (fun hHeld=>?_)
    ·exact hkp
    have KP9:=hide hkp
    clear hK0 K0 hkp
    refine wpAnyH_ready (rs:=[5]) (by kernel_rfl) (by simp) ?_
    refine AllReadyH.cons (o:={ dst:=none,op:=Op.store 24 (Operand.tmp 5) (Operand.tmp 41),type:=0,pos := "qr.go:37",after:=#[{ on:=0,ground:=Ground.data },{ on:=4,ground:=Ground.chain },{ on:=0,ground:=Ground.phase },{ on:=1,ground:=Ground.textOnly Departure.lateStores },{ on:=2,ground:=Ground.textOnly Departure.lateStores },{ on:=3,ground:=Ground.textOnly Departure.lateStores },{ on:=4,ground:=Ground.textOnly Departure.lateStoresUnsure }],guard:=none }) rfl (fun K0 hK0=>?_) AllReadyH.nil
    have q0:=(uH BX).c0;have q1:=(uH BX).c1;have q2:=(uH BX).c2
    have f0:=(uH BX).free 0;have f1:=(uH BX).free 1;have f2:=(uH BX).free 2
    go_simp
    clear q0 q1 q2 f0 f1 f2
    refine hK0.out _ _ ?_ (fun hHeld=>?_)
    ·exact uH KEEP3 _ (uH KP9)
    clear hK0 K0
    refine wpAnyH_take (i:=6) (oi:={ dst:=some 7,op:=Op.assign (Operand.tmp 45),type:=168,pos := "qr.go:37",after:=#[{ on:=4,ground:=Ground.data },{ on:=5,ground:=Ground.chain },{ on:=0,ground:=Ground.phase },{ on:=1,ground:=Ground.phase },{ on:=2,ground:=Ground.phase },{ on:=3,ground:=Ground.phase },{ on:=4,ground:=Ground.phase },{ on:=5,ground:=Ground.phase }],guard:=none }) (v:=v9) rfl (by kernel_rfl) (by kernel_rfl) (by kernel_rfl) (fun _ _ _ h=>h) (Or.inl ⟨by rfl,?_⟩) (by assumption) ?_
    ·(intro w hSw;(try dsimp only at hSw);go_simp)
    simp only [Act.put,List.setIfInBounds_toArray,List.set_cons_zero,List.set_cons_succ]
    refine wpAnyH_done (by kernel_rfl) ?_ _
    clear KEEP KEEP3 BX KP9 NB MB
    go_wp2_with fail
    go_round
    case rel =>
     refine ⟨j+1,some ⟨g2,0,none⟩,n,R ++ [⟨vo,vc,vj,tj,0⟩],by omega,by go_num,?_,?_,?_,by rw [hNJ];exact hide (uH P9).1,hide (fun _=>⟨g2,rfl,rfl,by rw [hNJ];exact (uH P9).2⟩)⟩
     ·show (R ++ [_]).length = j+1
      rw [List.length_append,uH hRl];rfl
     ·show ∀ k,k < j+1→_
      intro k hk
      rw [mrAt_snoc2 R _ k (by rw [uH hRl];exact hk)]
      by_cases g:k < R.length
      ·rw [if_pos g];exact uH hRm k (by rw [← uH hRl];exact g)
      ·rw [if_neg g,show k = j by have:=uH hRl;omega,hVJ,hTJ];exact ⟨rfl,rfl⟩
     ·show ∀ k,k < j+1→_
      intro k hk
      by_cases g:k < j
      ·exact uH hO k g
      ·rw [show k = j by omega];exact uH HO
    case measure=>first | (simp [intOf];done) | (simp [intOf];omega)
   ·have hno:Hid (ok = false):=hide (by
     cases hk:ok with
     | false=>rfl
     | true=>exact absurd ((uH HOK).1 hk j hlt) (by rw [ho];decide))
    have ba1:=below_alloc9 w5 (.cells #[.int .i64 0,.int .i64 0,.slice none 0 0] 24)
    have ba2:=below_alloc9 (w5.alloc (.cells #[.int .i64 0,.int .i64 0,.slice none 0 0] 24)) (.cells #[.slice none 0 0,.int .u64 0] 201)
    have X3:=((uH P4).all ba1).all ba2
    have s0:=X3.res.c0;have s1:=X3.res.c1;have s2:=X3.res.c2
    have f0:=X3.res.free 0;have f1:=X3.res.free 1;have f2:=X3.res.free 2
    have XP:=X3.res.put (.int .i64 0) (.int .i64 0) (.slice none 0 0)
    have z0:=XP.c0;have z1:=XP.c1;have z2:=XP.c2
    have BP:=hide (below_putM X3.bel (b:=w.heap.size+1) (by omega) (.int .i64 0) (.int .i64 0) (.slice none 0 0))
    clear ba1 ba2 ho XP X3 P4
    go_wp2_with fail
    exact bodyPost_ret (v:=.tuple #[.agg #[.int .i64 0,.int .i64 0,.slice none 0 0],.slice none 0 0,.int .i64 2]) (by simp [results,Tryz.results174,go_sem,z0,z1,z2]) rfl ⟨.inr ⟨uH hno,rfl⟩,uH BP⟩
  ·have hjj:j = K:=by omega
   subst hjj
   have hjm:¬ ((j:Int) < m):=fun q=>hlt ((uH HK j).2 q)
   have hyes:Hid (ok = true):=hide ((uH HOK).2 (uH hO))
   have S3:=uH hS
   have q0:=S3.rb.c0;have q1:=S3.rb.c1;have q2:=S3.rb.c2
   have s0:=S3.res.c0;have s1:=S3.res.c1;have s2:=S3.res.c2
   have f0:=S3.res.free 0;have f1:=S3.res.free 1;have f2:=S3.res.free 2
   have XP:=S3.res.put (.int .i64 r) (.int .i64 c) (.slice ro n rc)
   have z0:=XP.c0;have z1:=XP.c1;have z2:=XP.c2
   have BP:=hide (below_putM S3.bel (b:=w.heap.size+1) (by omega) (.int .i64 r) (.int .i64 c) (.slice ro n rc))
   have QB:=hide (S3.bits.putM S3.res (.int .i64 r) (.int .i64 c) (.slice ro n rc))
   have QL:=hide (S3.l.putQ S3.res (.int .i64 r) (.int .i64 c) (.slice ro n rc))
   have HN:=hide S3.new
   have HRW:=hide ((uH hRW).putM S3.res (.int .i64 r) (.int .i64 c) (.slice ro n rc))
   clear XP S3 hS hRW
   go_wp2_with fail
   exact bodyPost_ret (v:=.tuple #[.agg #[.int .i64 r,.int .i64 c,.slice ro n rc],_,.int .i64 0]) (by simp [results,Tryz.results174,go_sem,z0,z1,z2]) rfl ⟨.inl ⟨uH hyes,_,_,_,R,rfl,uH HN,uH QB,uH QL,uH hRl,uH hRm,uH HRW⟩,uH BP⟩
end Go.Proofs.YtlnphkioddknfaaGreatDoor
namespace Go.Proofs.YtlnphkioddknfaaGreatDoor
open Go.RowKit
attribute [local go_sem ↓] Go.wp_at_zero Go.wp_at_succ
def nilAt (N:List Rw) (i c:Nat):Prop:=(nmAt (rwAt N i).R c).L.length = 0
end Go.Proofs.YtlnphkioddknfaaGreatDoor
namespace Go.Proofs.YtlnphkioddknfaaGreatDoor
open Go.RowKit
def KK:Nat→Nat
 | 0=>2098
 | c+1=>2 * KK c+1
end Go.Proofs.YtlnphkioddknfaaGreatDoor
namespace Go.Proofs.YtlnphkioddknfaaGreatDoor
open Go.RowKit
attribute [local go_sem ↓] Go.wp_at_zero Go.wp_at_succ
def mkJ (g:Nat→Nat) (j:Nat):List Nat:=4607182418800017408 :: fsL g (j - 1)
end Go.Proofs.YtlnphkioddknfaaGreatDoor
namespace Go.Proofs.YtlnphkioddknfaaGreatDoor
open Go.RowKit
theorem toN_cons {I:List Int} (h:1≤I.length):toN I = atB I 0 :: (toN I).drop 1:=by
 have h1:0 < (toN I).length:=by rw [toN_len];omega
 have:=List.drop_eq_getElem_cons h1
 rw [List.drop_zero] at this
 rw [this]
 congr 1
 have e:=toN_at I 0 (by omega)
 rw [List.getElem?_eq_getElem h1] at e
 exact Option.some.inj e
theorem drop_getD (I:List Int) {j:Nat} (h:j+1 < I.length):((toN I).drop 1).getD j 0 = atB I (j+1):=by
 rw [List.getD_eq_getElem?_getD,List.getElem?_drop,Nat.add_comm 1 j,toN_at I (j+1) h]
 rfl
theorem mr_mkJ {I:List Int} (h:1≤I.length) (k:Nat→Nat) (hk:∀ x,(if ngt ((toN I).drop 1) = true then 0 else dV x (hmD (atB I 0) ((toN I).drop 1))) = k x):mrV (toN I) = mkJ (fun j=>k (atB I (j+1))) I.length:=by
 have hl:((toN I).drop 1).length = I.length - 1:=by rw [List.length_drop,toN_len]
 rw [toN_cons h]
 show 4607182418800017408 :: ((toN I).drop 1).map (fun x=>if ngt ((toN I).drop 1) = true then 0 else dV x (hmD (atB I 0) ((toN I).drop 1))) = 4607182418800017408 :: fsL (fun j=>k (atB I (j+1))) (I.length - 1)
 congr 1
 rw [List.map_congr_left (g:=k) (fun x _=>hk x),list_range ((toN I).drop 1),List.map_map,hl]
 unfold fsL
 refine List.map_congr_left (fun j hj=>?_)
 show k (((toN I).drop 1).getD j 0) = _
 rw [drop_getD I (by have:=List.mem_range.1 hj;omega)]
theorem mk_facts {I:List Int} (h:1≤I.length):mrB (toN I) = (if ngt ((toN I).drop 1) = true then atB I 0 else hmB (atB I 0) ((toN I).drop 1))∧mrT (toN I) = (if ngt ((toN I).drop 1) = true then 0 else dV (aV (hmB (atB I 0) ((toN I).drop 1)) (fN (atB I 0))) (hmB (atB I 0) ((toN I).drop 1)))∧mrK (toN I) = (ngt ((toN I).drop 1) || (fFin (hmB (atB I 0) ((toN I).drop 1)) && fFin (hmD (atB I 0) ((toN I).drop 1)))):=by
 have e:=toN_cons h
 refine ⟨?_,?_,?_⟩
 ·conv=>lhs;rw [e]
  rfl
 ·conv=>lhs;rw [e]
  rfl
 ·conv=>lhs;rw [e]
  rfl
end Go.Proofs.YtlnphkioddknfaaGreatDoor
