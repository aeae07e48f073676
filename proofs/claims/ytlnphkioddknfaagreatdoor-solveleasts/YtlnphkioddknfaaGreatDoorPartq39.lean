/- Part 39 of the texts. -/
import Derived.Test.YtlnphkioddknfaaGreatDoorPartq38
import Derived.Test.YtlnphkioddknfaaGreatDoorPartq37
import Derived.Test.YtlnphkioddknfaaGreatDoorPartq09
import Derived.Lib.BitFns
import Derived.Test.YtlnphkioddknfaaGreatDoorPartq33
import Derived.Test.YtlnphkioddknfaaGreatDoorPartq08
import Derived.Test.YtlnphkioddknfaaGreatDoorPartq05
import Derived.Maps.AppendAt
import Derived.OwnWalk
import Derived.Test.YtlnphkioddknfaaGreatDoorPartq10
import Derived.Test.YtlnphkioddknfaaGreatDoorPartq02
import Derived.Test.YtlnphkioddknfaaGreatDoorPartq07
import Derived.Maps.Own
import Derived.Maps.OwnOps
import Derived.Maps.OwnSet
import Derived.DeepKeys4
import Derived.WalkSmall
import Derived.Deep.RegionHeld3
import Derived.Deep.AppendLies
import Derived.Test.YtlnphkioddknfaaGreatDoorPartq01
set_option maxHeartbeats 32000000
set_option maxRecDepth 20000
namespace Go.Proofs.YtlnphkioddknfaaGreatDoor
open Go.RowKit
attribute [local go_sem ↓] Go.wp_at_zero Go.wp_at_succ
theorem step_append16 {P:Program} (w:World) {ops:Array Oper} {o:Oper} {a:Act} {K:Act→World→Prop} {Q:Exit→Act→World→Prop} {E:Prop} (hgd:o.guard = none) (s x:Operand) (t:TypeId)
  (ho:o.op = .call { callee:=.builtin .append,args:=#[s,x],argTypes:=#[t,t] }) (v1 v2:Value) (F:Value→World→Prop) (hs:a.eval s = v1) (hx:a.eval x = v2)
  (hr:∃ v' w',(Builtin.append_ #[t,t] o.type #[v1,v2]).run P w = .ok v' w'∧F v' w') (h:∀ v' w',F v' w'→K (a.put o.dst v') w') :
  if Region.wanted o (yielded ops a.tmps) = true then Oper.wp P o a w K Q else E:=by
 have hw:Region.wanted o (yielded ops a.tmps) = true:=by simp [Region.wanted,hgd]
 rw [if_pos hw]
 obtain ⟨v',w',hrun,hF⟩:=hr
 unfold Oper.wp execOp
 simp only [ho,resolve,invoke,builtin,Sem.run_bind,Sem.run_pure,Result.andThen_ok,List.map_toArray,List.map_cons,List.map_nil,hs,hx,hrun]
 exact h v' w' hF
theorem avM_off {x:Mr} {g:Option Nat} (h:OffB g x.ao (mxL x.V)):AvM g x:=by
 rcases h with e | e
 ·exact .inl (by cases hV:x.V with
   | nil=>rfl
   | cons y ys=>rw [hV] at e;cases e)
 ·exact .inr e
theorem OwnMt.apartM {base:Nat} {w:World} {v:Value} {R:List Mr} (h:OwnMt base w v R) {g:Nat} {x y z:Value} (hx:BoxM w g x y z):v.ownBlock ≠ some g:=by
 intro e
 rcases h.1.2 with ⟨e1,_⟩ | ⟨k,cap,cur,hv,hk,hh,rest⟩
 ·rw [e1] at e;simp [Value.ownBlock] at e
 ·rw [hv] at e
  simp [Value.ownBlock] at e
  subst e
  have e:=hh.symm.trans hx
  simp at e
theorem cell_three16 {w:World} {b g j:Nat} {u u' u'' v:Value} (hne:b ≠ g) (h:w.cell? ⟨b,j,none⟩ = some v):(((w.setCell ⟨g,0,none⟩ u).setCell ⟨g,1,none⟩ u').setCell ⟨g,2,none⟩ u'').cell? ⟨b,j,none⟩ = some v:=by
 rw [cell_setCell_other _ _ _ _ hne,cell_setCell_other _ _ _ _ hne,cell_setCell_other _ _ _ _ hne]
 exact h
theorem TrSt.pushed {w wr:World} {h r c n cap:Nat} {ao:Option Addr} {S U:List Nat} {ro:Option Addr} {rc:Nat} {v:Value} {R:List Mr} (t:TrSt w wr h r c n cap ao S ro rc v R) (x:Mr) (hx:BitsAt wr x.ao x.cap (mxL x.V)) (ha:OffB v.ownBlock x.ao (mxL x.V)) (hl:R.length≤1000000) {g nb mb:Nat} (hg:RowB wr g U) (hgv:v.ownBlock ≠ some g) (hg2:w.heap.size+1+1≤g) (hf:∀ x ∈ U,x < 18446744073709551616) (hlU:U.length = n) {y1 y2 y3 y4 y5:Value} (hN:BoxM wr nb y1 y2 y3) (hM:BoxR wr mb y4 y5) (hMv:v.ownBlock ≠ some mb) (ty:TypeId) :
  ∃ v' w',(Builtin.append_ #[168,168] ty #[v,.slice (some ⟨wr.heap.size,0,none⟩) 1 1]).run Tryz.prog (wr.alloc (.cells #[.slice x.ao x.V.length x.cap,.int .u64 (x.tau:Nat)] 201)) = .ok v' w'∧BoxM w' h (.int .i64 r) (.int .i64 c) (.slice ro n rc)∧(TrSt w (((w'.setCell ⟨h,0,none⟩ (.int .i64 r)).setCell ⟨h,1,none⟩ (.int .i64 c)).setCell ⟨h,2,none⟩ (.slice (some ⟨g,0,none⟩) n n)) h r c n cap ao U (some ⟨g,0,none⟩) n v' (R ++ [x])∧RowB (((w'.setCell ⟨h,0,none⟩ (.int .i64 r)).setCell ⟨h,1,none⟩ (.int .i64 c)).setCell ⟨h,2,none⟩ (.slice (some ⟨g,0,none⟩) n n)) g U)∧BoxM w' nb y1 y2 y3∧BoxR w' mb y4 y5:=by
 have hlt:=t.rb.lt
 have hh:=t.hh
 have hv:=t.l.apartM t.rb
 obtain ⟨v',w',e1,e2,e3,e4,e5⟩:=t.l.push x hx (avM_off ha) hl (by omega) ty
 have b1:=below_alloc9 wr (.cells #[.slice x.ao x.V.length x.cap,.int .u64 (x.tau:Nat)] 201)
 have t1:=t.all b1
 have X1:=t1.rb.grown e4 hv
 have G1:RowB w' g U:=(e4.block g (hg.below b1 hg.lt).lt (fun e=>hgv e.symm)).trans (hg.below b1 hg.lt)
 have n0:w.heap.size ≠ h:=by omega
 have n1:w.heap.size+1 ≠ h:=by omega
 have hbits:=G1.bits hf
 rw [hlU] at hbits
 have q:BitsAt w' (some ⟨g,0,none⟩) n (mxL U):=hbits
 have hgl:=hg.lt
 refine ⟨v',w',e1,X1,⟨⟨below_putM (t.bel.trans (e3.mono (by omega))) (by omega) _ _ _,hh,(t.a.below e3 (by omega)).three14 n0 _ _ _,(t.res.below e3 (by omega)).three14 n1 _ _ _,X1.put _ _ _,q.putM X1 _ _ _,.inr ⟨g,0,rfl,by omega⟩,hlU,e2.putQ X1 _ _ _,.inr ⟨g,0,rfl,fun e=>?_⟩⟩,G1.three (rowB_neM G1 X1) _ _ _⟩,(hN.all b1).grown e4 (t.l.apartM hN),(hM.all b1).grown e4 hMv⟩
 rcases e5 with z | z
 ·rw [z] at e;exact hgv e.symm
 ·rw [z] at e;cases e;omega
theorem qtri_of (r c n cap K:Nat) (m:Int) (ao:Option Addr) (RJ V:Nat→List Nat) (tau:Nat→Nat) (o:Nat→Bool) (ok:Bool) (w:World) (hr:r≤6) (hc:c≤6) (hm:m = min (c:Int) ((r:Int) - 1)) (hK:∀ j:Nat,j < K ↔ (j:Int) < m)
  (lR:∀ j,(RJ j).length = n) (lV:∀ j,(V j).length = r - j) (hf:∀ j,j < K→∀ x ∈ RJ (j+1),x < 18446744073709551616)
  (hok:ok = true ↔ ∀ j,j < K→o j = true)
  (C1:∀ w',Below w.heap.size w w'→Calls Tryz.prog 125 #[.agg #[.int .i64 r,.int .i64 c,.slice ao n cap],.int .i64 0,.int .i64 0,.int .i64 r,.int .i64 c] w' fun e w''=>∃ po pc,e = .returned (.tuple #[.agg #[.int .i64 r,.int .i64 c,.slice po n pc],.int .i64 0])∧NewB w'.heap.size po (mxL (RJ 0))∧BitsAt w'' po pc (mxL (RJ 0))∧Below w'.heap.size w' w'')
  (C5:∀ w' j po pc,j < K→Below w.heap.size w w'→BitsAt w' po pc (mxL (RJ j))→Calls Tryz.prog 212 #[.agg #[.int .i64 r,.int .i64 c,.slice po n pc],.int .i64 (j:Nat)] w' fun e w''=>DnAns w' w'' (o j) r c n (r - j) (RJ (j+1)) (V j) (tau j) e∧Below w'.heap.size w' w'') :
  Calls Tryz.prog 174 #[.agg #[.int .i64 r,.int .i64 c,.slice ao n cap]] w fun e w'=>TriAns w w' ok r c n K (RJ K) V tau e∧Below w.heap.size w w':=by
 have hmin:∀ (W:World) ts t,(Builtin.min_ ts t #[.int .i64 (c:Int),.int .i64 ((r:Int) - 1)]).run Tryz.prog W = .ok (.int .i64 m) W:=fun W ts t=>by rw [hm];exact min2_run _ W ts t _ _
 have hw1:IntKind.i64.wrap ((r:Int) - 1) = (r:Int) - 1:=wrap_in _ (by omega)
 have hK6:K≤6:=by
  rcases Nat.lt_or_ge 6 K with g | g
  ·have:=(hK 6).1 g
   omega
  ·exact g
 have HKR:=hide (show ∀ j,j < K→j < r from fun j hj=>by have:=(hK j).1 hj;omega)
 have HK:=hide hK;have LR:=hide lR;have LV:=hide lV;have HF:=hide hf;have HOK:=hide hok
 have K1:=hide (C1 ((w.alloc (.cells #[.int .i64 r,.int .i64 c,.slice ao n cap] 24)).alloc (.cells #[.int .i64 0,.int .i64 0,.slice none 0 0] 24)) (by
  have b1:=below_alloc9 w (.cells #[.int .i64 r,.int .i64 c,.slice ao n cap] 24)
  have b2:=below_alloc9 (w.alloc (.cells #[.int .i64 r,.int .i64 c,.slice ao n cap] 24)) (.cells #[.int .i64 0,.int .i64 0,.slice none 0 0] 24)
  exact b1.trans (b2.mono b1.size)))
 simp only [size_alloc9] at K1
 have KB:=hide (boxes2 w (.int .i64 r) (.int .i64 c) (.slice ao n cap) (.int .i64 0) (.int .i64 0) (.slice none 0 0))
 have K5:=hide C5
 clear hm hK lR lV hf hok C1 C5
 go_enter Tryz.func174,Tryz.ntmps174
 go_wp2_with fail
 refine (uH K1).mono ?_
 rintro e w1 ⟨po,pc,rfl,hn,hq,hb1⟩
 obtain ⟨hB,hA,hX⟩:=uH KB w1 hb1
 have ST:=hide (TrSt.start hB hA hX hq (hn.least (by omega)) (uH LR 0))
 have y0:=(uH ST).a.c0;have y1:=(uH ST).a.c1
 clear K1 KB hb1 hB hA hX hn hq
 go_wp2_with fail
 clear y0 y1 hmin hw1
 generalize w1.heap.size = h at *
 go_loopw [7,27] (fun v a wr=>∃ (j:Nat) (ro:Option Addr) (rc:Nat) (R:List Mr),j≤K∧a = .int .i64 j∧Hid (R.length = j)∧Hid (∀ k,k < j→(mrAt R k).V = V k∧(mrAt R k).tau = tau k)∧Hid (∀ k,k < j→o k = true)∧Hid (TrSt w wr h r c n cap ao (RJ j) ro rc v R)∧Hid (RowIf j n wr ro rc (RJ j))) (fun _ a _=>K - (intOf a).toNat)
 case atStart=>exact ⟨0,po,pc,[],Nat.zero_le _,rfl,rfl,fun k hk=>absurd hk (Nat.not_lt_zero k),fun k hk=>absurd hk (Nat.not_lt_zero k),ST,fun hk=>absurd hk (Nat.lt_irrefl 0)⟩
 case round =>
  clear ST
  obtain ⟨j,ro,rc,R,hjK,rfl,hRl,hRm,hO,hS,hRW⟩:=hrel
  by_cases hlt:j < K
  ·have hjm:=(uH HK j).1 hlt
   clear hRW
   have hjr:=uH HKR j hlt
   obtain ⟨L,hL⟩:∃ L,r - j = L:=⟨_,rfl⟩
   have G5:=hide (fun w' po pc=>uH K5 w' j po pc hlt)
   have LV1:=hide (uH LV j);have LR1:=hide (uH LR (j+1));have HF1:=hide (uH HF j hlt)
   rw [hL] at G5 LV1
   generalize hTJ:tau j = tj at *
   generalize hVJ:V j = vj at *
   generalize hNJ:RJ (j+1) = nj at *
   generalize hRJ:RJ j = rj at *
   have q0:=(uH hS).rb.c0;have q1:=(uH hS).rb.c1;have q2:=(uH hS).rb.c2
   clear hL
   go_wp2_with fail
   clear q0 q1 q2
   refine (uH G5 _ ro rc (uH hS).bel (uH hS).bits).mono ?_
   rintro e w5 ⟨hans,hb⟩
   have HOWN:=hide (fun k hk=>((uH hS).l.lt k hk).2)
   have HHS:=hide (show w.heap.size+1+1≤_ from Nat.le_trans (uH hS).hh (Nat.le_of_lt (uH hS).rb.lt))
   have HSZ:=hide hb.size
   have HHL:=hide (uH hS).rb.lt
   have P4:=hide ((uH hS).all hb)
   clear hb G5 hS
   rcases hans with ⟨ho,g2,vo,vc,rfl,hg2,hrow,hn,hv,hof⟩ | ⟨ho,rfl⟩
   ·have ba1:=below_alloc9 w5 (.cells #[.int .i64 r,.int .i64 c,.slice (some ⟨g2,0,none⟩) n n] 24)
    have sa1:=size_alloc9 w5 (.cells #[.int .i64 r,.int .i64 c,.slice (some ⟨g2,0,none⟩) n n] 24)
    have nb1:=BoxM.new w5 (.int .i64 r) (.int .i64 c) (.slice (some ⟨g2,0,none⟩) n n)
    have ba2:=below_alloc9 (w5.alloc (.cells #[.int .i64 r,.int .i64 c,.slice (some ⟨g2,0,none⟩) n n] 24)) (.cells #[.slice vo L vc,.int .u64 (tj:Nat)] 201)
    have mb1:=BoxR.new (w5.alloc (.cells #[.int .i64 r,.int .i64 c,.slice (some ⟨g2,0,none⟩) n n] 24)) (.slice vo L vc) (.int .u64 (tj:Nat))
    rw [sa1] at mb1
    have ST6:=hide (show TrSt _ _ _ _ _ _ _ _ _ _ _ _ _∧BoxM _ _ _ _ _∧BoxR _ _ _ _∧RowB _ _ _∧BitsAt _ _ _ _ from ⟨((uH P4).all ba1).all ba2,nb1.all ba2,mb1,(hrow.below ba1 hrow.lt).below ba2 (hrow.below ba1 hrow.lt).lt,(hv.below ba1).below ba2⟩)
    have HO:=hide ho
    have HG2:=hide hg2;have HN:=hide hn
    have HNB:=hide (show _≤w5.heap.size from uH HSZ)
    clear ba1 sa1 nb1 ba2 mb1 hrow hv hg2 hn hof ho P4
    go_wp2_with fail
    refine at_world (fun W=>TrSt w W h r c n cap ao rj ro rc u7 R∧BoxM W w5.heap.size (.int .i64 r) (.int .i64 c) (.slice (some ⟨g2,0,none⟩) n n)∧BoxR W (w5.heap.size+1) (.slice vo L vc) (.int .u64 (tj:Nat))∧RowB W g2 nj∧BitsAt W vo vc (mxL vj)) (uH ST6) ?_
    clear ST6
    rintro W6 ⟨p6,n6,m6,row6,v6⟩
    have OWN9:∀ q,(∀ k,u7.ownBlock = some k→k < q)→u7.ownBlock ≠ some q:=fun q hq e=>Nat.lt_irrefl q (hq q e)
    have hd:=(Below.refl W6.heap.size W6).drew
    have APP:=TrSt.pushed (p6.all hd) ⟨vo,vc,vj,tj,0⟩ (v6.below hd) (OffB.new (uH HN) (fun k hk=>uH HOWN k hk)) (by rw [uH hRl];omega) (row6.below hd row6.lt) (OWN9 _ (fun k hk=>Nat.lt_of_lt_of_le (uH HOWN k hk) (uH HG2))) (Nat.le_trans (uH HHS) (uH HG2)) (uH HF1) (uH LR1) (n6.all hd) (m6.all hd) (OWN9 _ (fun k hk=>Nat.lt_of_lt_of_le (uH HOWN k hk) (Nat.le_trans (uH HNB) (Nat.le_succ _)))) 168
    dsimp only at APP
    rw [uH LV1] at APP
    obtain ⟨v9,w9,a1,a2,a3,a4,a5⟩:=APP
    have APP:=hide (show ∃ v' w',_ = _∧(BoxM w' h (.int .i64 r) (.int .i64 c) (.slice ro n rc)∧(TrSt w (((w'.setCell ⟨h,0,none⟩ (.int .i64 r)).setCell ⟨h,1,none⟩ (.int .i64 c)).setCell ⟨h,2,none⟩ (.slice (some ⟨g2,0,none⟩) n n)) h r c n cap ao nj (some ⟨g2,0,none⟩) n v' (R ++ [⟨vo,vc,vj,tj,0⟩])∧RowB (((w'.setCell ⟨h,0,none⟩ (.int .i64 r)).setCell ⟨h,1,none⟩ (.int .i64 c)).setCell ⟨h,2,none⟩ (.slice (some ⟨g2,0,none⟩) n n)) g2 nj)∧(w'.cell? ⟨w5.heap.size,0,none⟩ = some (.int .i64 (r:Nat))∧w'.cell? ⟨w5.heap.size,1,none⟩ = some (.int .i64 (c:Nat))∧w'.cell? ⟨w5.heap.size,2,none⟩ = some (.slice (some ⟨g2,0,none⟩) n n))∧w'.cell? ⟨w5.heap.size+1,0,none⟩ = some (.slice vo L vc)∧w'.cell? ⟨w5.heap.size+1,1,none⟩ = some (.int .u64 (tj:Nat))) from ⟨v9,w9,a1,a2,a3,⟨a4.c0,a4.c1,a4.c2⟩,a5.c0,a5.c1⟩)
    clear a1 a2 a3 a4 a5
    have KEEP:=hide (fun W' (hb:Below W6.drew.heap.size W6.drew W')=>(show (W'.cell? ⟨w5.heap.size,0,none⟩ = some (.int .i64 (r:Nat))∧W'.cell? ⟨w5.heap.size,1,none⟩ = some (.int .i64 (c:Nat))∧W'.cell? ⟨w5.heap.size,2,none⟩ = some (.slice (some ⟨g2,0,none⟩) n n))∧W'.cell? ⟨w5.heap.size+1,0,none⟩ = some (.slice vo L vc)∧W'.cell? ⟨w5.heap.size+1,1,none⟩ = some (.int .u64 (tj:Nat)) from
     have x:=(n6.all hd).all hb;have y:=(m6.all hd).all hb;⟨⟨x.c0,x.c1,x.c2⟩,y.c0,y.c1⟩))
    have hhl:w5.heap.size ≠ h:=fun e=>by have:=uH HHL;have:=uH HNB;omega
    have hhm:w5.heap.size+1 ≠ h:=fun e=>by have:=uH HHL;have:=uH HNB;omega
    have KEEP3:=hide (fun (W':World) (k:(W'.cell? ⟨w5.heap.size,0,none⟩ = some (.int .i64 (r:Nat))∧W'.cell? ⟨w5.heap.size,1,none⟩ = some (.int .i64 (c:Nat))∧W'.cell? ⟨w5.heap.size,2,none⟩ = some (.slice (some ⟨g2,0,none⟩) n n))∧W'.cell? ⟨w5.heap.size+1,0,none⟩ = some (.slice vo L vc)∧W'.cell? ⟨w5.heap.size+1,1,none⟩ = some (.int .u64 (tj:Nat)))=>(show ((((W'.setCell ⟨h,0,none⟩ (.int .i64 r)).setCell ⟨h,1,none⟩ (.int .i64 c)).setCell ⟨h,2,none⟩ (.slice (some ⟨g2,0,none⟩) n n)).cell? ⟨w5.heap.size,0,none⟩ = some (.int .i64 (r:Nat))∧(((W'.setCell ⟨h,0,none⟩ (.int .i64 r)).setCell ⟨h,1,none⟩ (.int .i64 c)).setCell ⟨h,2,none⟩ (.slice (some ⟨g2,0,none⟩) n n)).cell? ⟨w5.heap.size,1,none⟩ = some (.int .i64 (c:Nat))∧(((W'.setCell ⟨h,0,none⟩ (.int .i64 r)).setCell ⟨h,1,none⟩ (.int .i64 c)).setCell ⟨h,2,none⟩ (.slice (some ⟨g2,0,none⟩) n n)).cell? ⟨w5.heap.size,2,none⟩ = some (.slice (some ⟨g2,0,none⟩) n n))∧(((W'.setCell ⟨h,0,none⟩ (.int .i64 r)).setCell ⟨h,1,none⟩ (.int .i64 c)).setCell ⟨h,2,none⟩ (.slice (some ⟨g2,0,none⟩) n n)).cell? ⟨w5.heap.size+1,0,none⟩ = some (.slice vo L vc)∧(((W'.setCell ⟨h,0,none⟩ (.int .i64 r)).setCell ⟨h,1,none⟩ (.int .i64 c)).setCell ⟨h,2,none⟩ (.slice (some ⟨g2,0,none⟩) n n)).cell? ⟨w5.heap.size+1,1,none⟩ = some (.int .u64 (tj:Nat)) from
     ⟨⟨cell_three16 (u:=.int .i64 r) (u':=.int .i64 c) (u'':=.slice (some ⟨g2,0,none⟩) n n) hhl k.1.1,cell_three16 hhl k.1.2.1,cell_three16 hhl k.1.2.2⟩,cell_three16 hhm k.2.1,cell_three16 hhm k.2.2⟩))
    have NB:=hide (n6.all hd);have MB:=hide (m6.all hd)
    generalize w5.heap.size = nb at *
    clear p6 n6 m6 row6 v6 hd hhl hhm OWN9 HHL HNB HG2 HOWN HHS HSZ HN
    refine wp_region_held_drew (S:=fun w'=>(w'.cell? ⟨nb,0,none⟩ = some (.int .i64 (r:Nat))∧w'.cell? ⟨nb,1,none⟩ = some (.int .i64 (c:Nat))∧w'.cell? ⟨nb,2,none⟩ = some (.slice (some ⟨g2,0,none⟩) n n))∧w'.cell? ⟨nb+1,0,none⟩ = some (.slice vo L vc)∧w'.cell? ⟨nb+1,1,none⟩ = some (.int .u64 (tj:Nat))) (by kernel_rfl) ?_ (fun hHeld=>?_)
    ·exact ⟨⟨(uH NB).c0,(uH NB).c1,(uH NB).c2⟩,(uH MB).c0,(uH MB).c1⟩
    refine wpAnyH_take (i:=0) (oi:={ dst:=some 41,op:=Op.load 24 (Operand.tmp 9),type:=24,pos := "qr.go:37",after:=#[],guard:=none }) (v:=Value.agg #[.int .i64 r,.int .i64 c,.slice (some ⟨g2,0,none⟩) n n]) rfl (by kernel_rfl) (by kernel_rfl) (by kernel_rfl) (fun _ _ _ h=>h) (Or.inl ⟨by rfl,?_⟩) (by assumption) ?_
    ·(intro w hSw;(try dsimp only at hSw);go_simp)
    simp only [Act.put,List.setIfInBounds_toArray,List.set_cons_zero,List.set_cons_succ]
    refine wpAnyH_take (i:=1) (oi:={ dst:=some 42,op:=Op.move (Operand.tmp 7),type:=168,pos := "qr.go:37",after:=#[],guard:=none }) (v:=u7) rfl (by kernel_rfl) (by kernel_rfl) (by kernel_rfl) (fun _ _ _ h=>h) (Or.inl ⟨by rfl,?_⟩) (by assumption) ?_
    ·(intro w hSw;(try dsimp only at hSw);go_simp)
    simp only [Act.put,List.setIfInBounds_toArray,List.set_cons_zero,List.set_cons_succ]
    refine wpAnyH_take (i:=2) (oi:={ dst:=some 43,op:=Op.load 201 (Operand.tmp 10),type:=201,pos := "qr.go:37",after:=#[],guard:=none }) (v:=Value.agg #[.slice vo L vc,.int .u64 (tj:Nat)]) rfl (by kernel_rfl) (by kernel_rfl) (by kernel_rfl) (fun _ _ _ h=>h) (Or.inl ⟨by rfl,?_⟩) (by assumption) ?_
    ·(intro w hSw;(try dsimp only at hSw);go_simp)
    simp only [Act.put,List.setIfInBounds_toArray,List.set_cons_zero,List.set_cons_succ]
    refine wpAnyH_ready (rs:=[3]) (by kernel_rfl) (by simp) ?_
    refine AllReadyH.cons (o:={ dst:=some 44,op:=Op.buildSlice 168 1 #[(0,Operand.tmp 43)],type:=168,pos := "qr.go:37",after:=#[{ on:=2,ground:=Ground.data }],guard:=none }) rfl (fun K0 hK0=>?_) AllReadyH.nil
    go_simp
    refine hK0.out _ _ ?_ (fun hHeld=>?_)
    ·exact uH KEEP _ (below_alloc9 _ _)
    clear hK0 K0
    refine wpAnyH_ready (rs:=[4]) (by kernel_rfl) (by simp) ?_
    refine AllReadyH.cons (o:={ dst:=some 45,op:=Op.call { callee:=Callee.builtin Builtin.append,args:=#[Operand.tmp 42,Operand.tmp 44],argTypes:=#[168,168] },type:=168,pos := "qr.go:37",after:=#[{ on:=1,ground:=Ground.data },{ on:=3,ground:=Ground.data }],guard:=none }) rfl (fun K0 hK0=>?_) AllReadyH.nil
    refine step_append16 _ (by rfl) _ _ 168 (by rfl) _ _ _ (by rfl) (by rfl) (uH APP) ?_
    clear APP
    rintro v9 w9 ⟨hbx,hst,hkp⟩
    have BX:=hide hbx;have P9:=hide hst
    clear hbx hst
    refine hK0.out _ _ ?_ (fun hHeld=>?_)
    ·exact hkp
    have KP9:=hide hkp
    clear hK0 K0 hkp
    refine wpAnyH_ready (rs:=[5]) (by kernel_rfl) (by simp) ?_
    refine AllReadyH.cons (o:={ dst:=none,op:=Op.store 24 (Operand.tmp 5) (Operand.tmp 41),type:=0,pos := "qr.go:37",after:=#[{ on:=0,ground:=Ground.data },{ on:=4,ground:=Ground.chain },{ on:=0,ground:=Ground.phase },{ on:=1,ground:=Ground.textOnly Departure.lateStores },{ on:=2,ground:=Ground.textOnly Departure.lateStores },{ on:=3,ground:=Ground.textOnly Departure.lateStores },{ on:=4,ground:=Ground.textOnly Departure.lateStoresUnsure }],guard:=none }) rfl (fun K0 hK0=>?_) AllReadyH.nil
    have q0:=(uH BX).c0;have q1:=(uH BX).c1;have q2:=(uH BX).c2
    have f0:=(uH BX).free 0;have f1:=(uH BX).free 1;have f2:=(uH BX).free 2
    go_simp
    clear q0 q1 q2 f0 f1 f2
    refine hK0.out _ _ ?_ (fun hHeld=>?_)
    ·exact uH KEEP3 _ (uH KP9)
    clear hK0 K0
    refine wpAnyH_take (i:=6) (oi:={ dst:=some 7,op:=Op.assign (Operand.tmp 45),type:=168,pos := "qr.go:37",after:=#[{ on:=4,ground:=Ground.data },{ on:=5,ground:=Ground.chain },{ on:=0,ground:=Ground.phase },{ on:=1,ground:=Ground.phase },{ on:=2,ground:=Ground.phase },{ on:=3,ground:=Ground.phase },{ on:=4,ground:=Ground.phase },{ on:=5,ground:=Ground.phase }],guard:=none }) (v:=v9) rfl (by kernel_rfl) (by kernel_rfl) (by kernel_rfl) (fun _ _ _ h=>h) (Or.inl ⟨by rfl,?_⟩) (by assumption) ?_
    ·(intro w hSw;(try dsimp only at hSw);go_simp)
    simp only [Act.put,List.setIfInBounds_toArray,List.set_cons_zero,List.set_cons_succ]
    refine wpAnyH_done (by kernel_rfl) ?_ _
    clear KEEP KEEP3 BX KP9 NB MB
    go_wp2_with fail
    go_round
    case rel =>
     refine ⟨j+1,some ⟨g2,0,none⟩,n,R ++ [⟨vo,vc,vj,tj,0⟩],by omega,by go_num,?_,?_,?_,by rw [hNJ];exact hide (uH P9).1,hide (fun _=>⟨g2,rfl,rfl,by rw [hNJ];exact (uH P9).2⟩)⟩
     ·show (R ++ [_]).length = j+1
      rw [List.length_append,uH hRl];rfl
     ·show ∀ k,k < j+1→_
      intro k hk
      rw [mrAt_snoc2 R _ k (by rw [uH hRl];exact hk)]
      by_cases g:k < R.length
      ·rw [if_pos g];exact uH hRm k (by rw [← uH hRl];exact g)
      ·rw [if_neg g,show k = j by have:=uH hRl;omega,hVJ,hTJ];exact ⟨rfl,rfl⟩
     ·show ∀ k,k < j+1→_
      intro k hk
      by_cases g:k < j
      ·exact uH hO k g
      ·rw [show k = j by omega];exact uH HO
    case measure=>first | (simp [intOf];done) | (simp [intOf];omega)
   ·have hno:Hid (ok = false):=hide (by
     cases hk:ok with
     | false=>rfl
     | true=>exact absurd ((uH HOK).1 hk j hlt) (by rw [ho];decide))
    have ba1:=below_alloc9 w5 (.cells #[.int .i64 0,.int .i64 0,.slice none 0 0] 24)
    have ba2:=below_alloc9 (w5.alloc (.cells #[.int .i64 0,.int .i64 0,.slice none 0 0] 24)) (.cells #[.slice none 0 0,.int .u64 0] 201)
    have X3:=((uH P4).all ba1).all ba2
    have s0:=X3.res.c0;have s1:=X3.res.c1;have s2:=X3.res.c2
    have f0:=X3.res.free 0;have f1:=X3.res.free 1;have f2:=X3.res.free 2
    have XP:=X3.res.put (.int .i64 0) (.int .i64 0) (.slice none 0 0)
    have z0:=XP.c0;have z1:=XP.c1;have z2:=XP.c2
    have BP:=hide (below_putM X3.bel (b:=w.heap.size+1) (by omega) (.int .i64 0) (.int .i64 0) (.slice none 0 0))
    clear ba1 ba2 ho XP X3 P4
    go_wp2_with fail
    exact bodyPost_ret (v:=.tuple #[.agg #[.int .i64 0,.int .i64 0,.slice none 0 0],.slice none 0 0,.int .i64 2]) (by simp [results,Tryz.results174,go_sem,z0,z1,z2]) rfl ⟨.inr ⟨uH hno,rfl⟩,uH BP⟩
  ·have hjj:j = K:=by omega
   subst hjj
   have hjm:¬ ((j:Int) < m):=fun q=>hlt ((uH HK j).2 q)
   have hyes:Hid (ok = true):=hide ((uH HOK).2 (uH hO))
   have S3:=uH hS
   have q0:=S3.rb.c0;have q1:=S3.rb.c1;have q2:=S3.rb.c2
   have s0:=S3.res.c0;have s1:=S3.res.c1;have s2:=S3.res.c2
   have f0:=S3.res.free 0;have f1:=S3.res.free 1;have f2:=S3.res.free 2
   have XP:=S3.res.put (.int .i64 r) (.int .i64 c) (.slice ro n rc)
   have z0:=XP.c0;have z1:=XP.c1;have z2:=XP.c2
   have BP:=hide (below_putM S3.bel (b:=w.heap.size+1) (by omega) (.int .i64 r) (.int .i64 c) (.slice ro n rc))
   have QB:=hide (S3.bits.putM S3.res (.int .i64 r) (.int .i64 c) (.slice ro n rc))
   have QL:=hide (S3.l.putQ S3.res (.int .i64 r) (.int .i64 c) (.slice ro n rc))
   have HN:=hide S3.new
   have HRW:=hide ((uH hRW).putM S3.res (.int .i64 r) (.int .i64 c) (.slice ro n rc))
   clear XP S3 hS hRW
   go_wp2_with fail
   exact bodyPost_ret (v:=.tuple #[.agg #[.int .i64 r,.int .i64 c,.slice ro n rc],_,.int .i64 0]) (by simp [results,Tryz.results174,go_sem,z0,z1,z2]) rfl ⟨.inl ⟨uH hyes,_,_,_,R,rfl,uH HN,uH QB,uH QL,uH hRl,uH hRm,uH HRW⟩,uH BP⟩
end Go.Proofs.YtlnphkioddknfaaGreatDoor
namespace Go.Proofs.YtlnphkioddknfaaGreatDoor
open Go.RowKit
attribute [local go_sem ↓] Go.wp_at_zero Go.wp_at_succ
theorem OwnMs.slice {base:Nat} {w:World} {v:Value} {R:List Mr} (h:OwnMs base w v R):∃ lo lc,v = .slice lo R.length lc:=by
 rcases h.1.2 with ⟨e1,e2⟩ | ⟨g,cap,cur,hv,_⟩
 ·exact ⟨none,0,by rw [e1,e2]⟩
 ·exact ⟨_,_,hv⟩
theorem mrAt_snoc (R:List Mr) (x:Mr):∀ k,k < R.length+1→mrAt (R ++ [x]) k = if k < R.length then mrAt R k else x:=by
 intro k hk
 unfold mrAt
 by_cases g:k < R.length
 ·rw [if_pos g,List.getElem?_append_left g]
 ·rw [if_neg g,show k = R.length by omega,List.getElem?_append_right (Nat.le_refl _)]
  simp
end Go.Proofs.YtlnphkioddknfaaGreatDoor
namespace Go.Proofs.YtlnphkioddknfaaGreatDoor
open Go.RowKit
attribute [local go_sem ↓] Go.wp_at_zero Go.wp_at_succ
theorem rfactor_of (r c n nq cap K:Nat) (ao:Option Addr) (RJ AP X V QT:Nat→List Nat) (tau beta:Nat→Nat) (o1 o2:Nat→Bool) (fq fr ok:Bool) (w:World) (hr:r≤6) (hc:c≤6) (hK:∀ j:Nat,j < K ↔ ((j:Int) < (c:Int)∧(j:Int) < (r:Int) - 1))
  (h0:BitsAt w ao cap (mxL (RJ 0))) (lR:∀ j,(RJ j).length = n) (lV:∀ j,(V j).length = r - j)
  (hok:ok = true ↔ ((∀ j,j < K→o1 j = true∧o2 j = true)∧fq = true∧fr = true))
  (C1:∀ w' j po pc,j < K→BitsAt w' po pc (mxL (RJ j))→Calls Tryz.prog 80 #[.agg #[.int .i64 r,.int .i64 c,.slice po n pc],.int .i64 (j:Nat),.int .i64 (j:Nat)] w' fun e w''=>∃ bo d,e = .returned (.slice bo (r - j) d)∧BitsAt w'' bo d (mxL (X j))∧Below w'.heap.size w' w'')
  (C2:∀ w' j bo d,j < K→BitsAt w' bo d (mxL (X j))→Calls Tryz.prog 65 #[.slice bo (r - j) d] w' fun e w''=>e = .returned (.bool (o1 j))∧Below w'.heap.size w' w'')
  (C3:∀ w' j bo d,j < K→o2 j = true→BitsAt w' bo d (mxL (X j))→Calls Tryz.prog 154 #[.slice bo (r - j) d] w' fun e w''=>∃ vo vc,e = .returned (.tuple #[.agg #[.slice vo (r - j) vc,.int .u64 (tau j:Nat),.int .u64 (beta j:Nat)],.bool true])∧NewB w'.heap.size vo (mxL (V j))∧BitsAt w'' vo vc (mxL (V j))∧Below w'.heap.size w' w'')
  (C4:∀ w' j bo d,j < K→o2 j = false→BitsAt w' bo d (mxL (X j))→Calls Tryz.prog 154 #[.slice bo (r - j) d] w' fun e w''=>e = .returned (.tuple #[.agg #[.slice none 0 0,.int .u64 0,.int .u64 0],.bool false])∧Below w'.heap.size w' w'')
  (C5:∀ w' j po pc vo vc,j < K→BitsAt w' po pc (mxL (RJ j))→BitsAt w' vo vc (mxL (V j))→Calls Tryz.prog 156 #[.agg #[.int .i64 r,.int .i64 c,.slice po n pc],.int .i64 (j:Nat),.int .i64 (j:Nat),.slice vo (r - j) vc,.int .u64 (tau j:Nat)] w' fun e w''=>∃ qo qc,e = .returned (.agg #[.int .i64 r,.int .i64 c,.slice qo n qc])∧BitsAt w'' qo qc (mxL (AP j))∧Below w'.heap.size w' w'')
  (C6:∀ w' j po pc,j < K→BitsAt w' po pc (mxL (AP j))→Calls Tryz.prog 155 #[.agg #[.int .i64 r,.int .i64 c,.slice po n pc],.int .i64 (j:Nat),.int .u64 (beta j:Nat)] w' fun e w''=>∃ qo qc,e = .returned (.agg #[.int .i64 r,.int .i64 c,.slice qo n qc])∧NewB w'.heap.size qo (mxL (RJ (j+1)))∧BitsAt w'' qo qc (mxL (RJ (j+1)))∧Below w'.heap.size w' w'')
  (C7:∀ w',Calls Tryz.prog 25 #[.int .i64 r] w' fun e w''=>∃ qo qc,e = .returned (.agg #[.int .i64 r,.int .i64 r,.slice qo nq qc])∧BitsAt w'' qo qc (mxL (QT 0))∧Below w'.heap.size w' w'')
  (C8:∀ w' t j po pc vo vc,t < K→j = K - 1 - t→BitsAt w' po pc (mxL (QT t))→BitsAt w' vo vc (mxL (V j))→Calls Tryz.prog 156 #[.agg #[.int .i64 r,.int .i64 r,.slice po nq pc],.int .i64 (j:Nat),.int .i64 0,.slice vo (r - j) vc,.int .u64 (tau j:Nat)] w' fun e w''=>∃ qo qc,e = .returned (.agg #[.int .i64 r,.int .i64 r,.slice qo nq qc])∧BitsAt w'' qo qc (mxL (QT (t+1)))∧Below w'.heap.size w' w'')
  (C9:∀ w' po pc,BitsAt w' po pc (mxL (QT K))→Calls Tryz.prog 65 #[.slice po nq pc] w' fun e w''=>e = .returned (.bool fq)∧Below w'.heap.size w' w'')
  (CA:∀ w' po pc,BitsAt w' po pc (mxL (RJ K))→Calls Tryz.prog 65 #[.slice po n pc] w' fun e w''=>e = .returned (.bool fr)∧Below w'.heap.size w' w'') :
  Calls Tryz.prog 99 #[.agg #[.int .i64 r,.int .i64 c,.slice ao n cap]] w fun e w'=>FacAns w' ok r c nq n (QT K) (RJ K) e∧Below w.heap.size w w':=by
 have ST:=hide (RfSt.start w r c n cap ao (RJ 0) h0 (lR 0))
 have HK:=hide hK;have LR:=hide lR;have LV:=hide lV;have HOK:=hide hok
 have K1:=hide C1;have K2:=hide C2;have K3:=hide C3;have K4:=hide C4;have K5:=hide C5;have K6:=hide C6;have K7:=hide C7;have K8:=hide C8;have K9:=hide C9;have KA:=hide CA
 have hK5:K≤5:=by
  rcases Nat.lt_or_ge 5 K with g | g
  ·have:=((hK 5).1 g).2
   omega
  ·exact g
 have hw1:IntKind.i64.wrap ((r:Int) - 1) = (r:Int) - 1:=wrap_in _ (by omega)
 clear hK lR lV hok C1 C2 C3 C4 C5 C6 C7 C8 C9 CA h0
 have y0:=(uH ST).a.c0;have y1:=(uH ST).a.c1;have y2:=(uH ST).a.c2
 go_enter Tryz.func99,Tryz.ntmps99
 go_wp2_with fail
 clear y0 y1 y2
 go_loopw [4,5] (fun v a wr=>∃ (j:Nat) (ro:Option Addr) (rc:Nat) (R:List Mr),j≤K∧a = .int .i64 j∧Hid (R.length = j)∧Hid (∀ k,k < j→(mrAt R k).V = V k∧(mrAt R k).tau = tau k)∧Hid (∀ k,k < j→o1 k = true∧o2 k = true)∧Hid (RfSt w wr r c n cap ao (RJ j) ro rc v R)) (fun _ a _=>K - (intOf a).toNat)
 case atStart=>exact ⟨0,ao,cap,[],Nat.zero_le _,rfl,rfl,fun k hk=>absurd hk (Nat.not_lt_zero k),fun k hk=>absurd hk (Nat.not_lt_zero k),ST⟩
 case round =>
  clear ST
  obtain ⟨j,ro,rc,R,hjK,rfl,hRl,hRm,hO,hS⟩:=hrel
  have y0:=(uH hS).a.c0;have y1:=(uH hS).a.c1;have y2:=(uH hS).a.c2
  by_cases hlt:j < K
  ·obtain ⟨hjc,hjr⟩:=(uH HK j).1 hlt
   have q0:=(uH hS).rb.c0;have q1:=(uH hS).rb.c1;have q2:=(uH hS).rb.c2
   go_wp2_with fail
   clear y0 y1 y2 q0 q1 q2
   refine (uH K1 _ j _ _ hlt (uH hS).bits).mono ?_
   rintro e w1 ⟨bo,d,rfl,hx,hb⟩
   have S1:=hide ((uH hS).all hb)
   have HX:=hide hx
   clear hb hS hx
   go_wp2_with fail
   refine (uH K2 _ j _ _ hlt (uH HX)).mono ?_
   rintro e w2 ⟨rfl,hb⟩
   have S2:=hide ((uH S1).all hb)
   replace HX:=hide ((uH HX).below hb)
   clear hb S1
   cases h1:o1 j with
   | false =>
    clear HX
    have X1:=(uH S2).res
    have r0:=X1.c0;have r1:=X1.c1;have r2:=X1.c2;have r3:=X1.c3;have r4:=X1.c4;have r5:=X1.c5;have r6:=X1.c6
    have f0:=X1.free 0;have f1:=X1.free 1;have f2:=X1.free 2;have f3:=X1.free 3;have f4:=X1.free 4;have f5:=X1.free 5;have f6:=X1.free 6
    have XP:=X1.put (.int .i64 0) (.int .i64 0) (.slice none 0 0) (.int .i64 0) (.int .i64 0) (.slice none 0 0) (.bool false)
    have z0:=XP.c0;have z1:=XP.c1;have z2:=XP.c2;have z3:=XP.c3;have z4:=XP.c4;have z5:=XP.c5;have z6:=XP.c6
    have BP:=hide (below_putW (uH S2).bel (g:=w.heap.size+1) (by omega) (.int .i64 0) (.int .i64 0) (.slice none 0 0) (.int .i64 0) (.int .i64 0) (.slice none 0 0) (.bool false))
    have hno:Hid (ok = false):=hide (by
     cases hk:ok with
     | false=>rfl
     | true=>exact absurd ((uH HOK).1 hk) (fun q=>by have:=(q.1 j hlt).1;rw [h1] at this;cases this))
    clear X1 XP S2
    go_wp2_with fail
    exact bodyPost_ret (v:=.agg #[.int .i64 0,.int .i64 0,.slice none 0 0,.int .i64 0,.int .i64 0,.slice none 0 0,.bool false]) (by simp [results,Tryz.results99,go_sem,z0,z1,z2,z3,z4,z5,z6]) rfl ⟨.inr ⟨uH hno,rfl⟩,uH BP⟩
   | true =>
    go_wp2_with fail
    cases h2:o2 j with
    | false =>
     refine (uH K4 _ j _ _ hlt h2 (uH HX)).mono ?_
     rintro e w3 ⟨rfl,hb⟩
     have S3:=hide (((uH S2).all hb).all (below_alloc9 w3 (.cells #[.slice none 0 0,.int .u64 0,.int .u64 0] 150)))
     clear hb S2 HX
     have X1:=(uH S3).res
     have r0:=X1.c0;have r1:=X1.c1;have r2:=X1.c2;have r3:=X1.c3;have r4:=X1.c4;have r5:=X1.c5;have r6:=X1.c6
     have f0:=X1.free 0;have f1:=X1.free 1;have f2:=X1.free 2;have f3:=X1.free 3;have f4:=X1.free 4;have f5:=X1.free 5;have f6:=X1.free 6
     have XP:=X1.put (.int .i64 0) (.int .i64 0) (.slice none 0 0) (.int .i64 0) (.int .i64 0) (.slice none 0 0) (.bool false)
     have z0:=XP.c0;have z1:=XP.c1;have z2:=XP.c2;have z3:=XP.c3;have z4:=XP.c4;have z5:=XP.c5;have z6:=XP.c6
     have BP:=hide (below_putW (uH S3).bel (g:=w.heap.size+1) (by omega) (.int .i64 0) (.int .i64 0) (.slice none 0 0) (.int .i64 0) (.int .i64 0) (.slice none 0 0) (.bool false))
     have hno:Hid (ok = false):=hide (by
      cases hk:ok with
      | false=>rfl
      | true=>exact absurd ((uH HOK).1 hk) (fun q=>by have:=(q.1 j hlt).2;rw [h2] at this;cases this))
     clear X1 XP S3
     go_wp2_with fail
     exact bodyPost_ret (v:=.agg #[.int .i64 0,.int .i64 0,.slice none 0 0,.int .i64 0,.int .i64 0,.slice none 0 0,.bool false]) (by simp [results,Tryz.results99,go_sem,z0,z1,z2,z3,z4,z5,z6]) rfl ⟨.inr ⟨uH hno,rfl⟩,uH BP⟩
    | true =>
     refine (uH K3 _ j _ _ hlt h2 (uH HX)).mono ?_
     rintro e w3 ⟨vo,vc,rfl,hn,hv,hb⟩
     have ba:=below_alloc9 w3 (.cells #[.slice vo (r - j) vc,.int .u64 (tau j:Nat),.int .u64 (beta j:Nat)] 150)
     have HM:=hide (BoxT.new 150 w3 (.slice vo (r - j) vc) (.int .u64 (tau j:Nat)) (.int .u64 (beta j:Nat)))
     have HF:=hide (OffB.new hn (fun k hk=>((uH S2).l.1.lt k hk).2))
     have S3:=hide (((uH S2).all hb).all ba)
     have HV:=hide (hv.below ba)
     have HGM:=hide (show w.heap.size+1+1+1≤w3.heap.size from Nat.lt_of_lt_of_le (uH S2).rb.lt hb.size)
     clear hb hn hv ba S2 HX
     have G5:=hide (fun w' po pc vo vc hp hv=>uH K5 w' j po pc vo vc hlt hp hv)
     have G6:=hide (fun w' po pc hp=>uH K6 w' j po pc hlt hp)
     have LV1:=hide (uH LV j);have LR1:=hide (uH LR (j+1))
     have HT:=hide (show tau j = tau j from rfl)
     generalize hTJ:tau j = tj at *
     generalize hBJ:beta j = bj at *
     generalize hVJ:V j = vj at *
     generalize hAJ:AP j = aj at *
     generalize hNJ:RJ (j+1) = nj at *
     generalize hRJ:RJ j = rj at *
     go_wp2_with fail
     refine at_world (fun W=>RfSt w W r c n cap ao rj ro rc _ R∧BoxT 150 W w3.heap.size (.slice vo (r - j) vc) (.int .u64 (tj:Nat)) (.int .u64 (bj:Nat))∧BitsAt W vo vc (mxL vj)) ⟨uH S3,uH HM,uH HV⟩ ?_
     clear S3 HM HV
     generalize w3.heap.size = gm at *
     rintro W ⟨st,sm,sv⟩
     have hd:=(Below.refl W.heap.size W).drew
     have ST:=hide (st.all hd)
     have SM:=hide (sm.all hd)
     have SV:=hide (sv.below hd)
     clear st sm sv hd
     have q0:=(uH ST).rb.c0;have q1:=(uH ST).rb.c1;have q2:=(uH ST).rb.c2
     have m0:=(uH SM).c0;have m1:=(uH SM).c1;have m2:=(uH SM).c2
     go_region_with (first
      | (go_at_call 156;refine (uH G5 _ _ _ _ _ (uH ST).bits (uH SV)).mono ?_;rintro e w5 ⟨qo5,qc5,rfl,hq5,hb⟩;clear q0 q1 q2 m0 m1 m2;replace ST:=hide ((uH ST).all hb);replace SM:=hide ((uH SM).all hb);replace SV:=hide ((uH SV).below hb);have m0:=(uH SM).c0;have m1:=(uH SM).c1;have m2:=(uH SM).c2;have HQ5:=hide hq5;clear hb hq5 G5)
      | (go_at_call 155;refine (uH G6 _ _ _ (uH HQ5)).mono ?_;rintro e w6 ⟨qo6,qc6,rfl,hn6,hq6,hb⟩;clear m0 m1 m2 HQ5;have HF6:=OffB.new hn6 (fun k hk=>((uH ST).l.1.lt k hk).2);have S6:=(uH ST).all hb;have M6:=(uH SM).all hb;have V6:=(uH SV).below hb;have q0:=S6.rb.c0;have q1:=S6.rb.c1;have q2:=S6.rb.c2;have f0:=S6.rb.free 0;have f1:=S6.rb.free 1;have f2:=S6.rb.free 2;have P6:=hide (S6.put hq6 (uH LR1) HF6);have PM:=hide (((M6.other (p:=⟨w.heap.size+1+1,0,none⟩) (by have:=uH HGM;show gm ≠ w.heap.size+1+1;omega) (.int .i64 r)).other (p:=⟨w.heap.size+1+1,1,none⟩) (by have:=uH HGM;show gm ≠ w.heap.size+1+1;omega) (.int .i64 c)).other (p:=⟨w.heap.size+1+1,2,none⟩) (by have:=uH HGM;show gm ≠ w.heap.size+1+1;omega) (.slice qo6 n qc6));have PV:=hide (V6.putM S6.rb (.int .i64 r) (.int .i64 c) (.slice qo6 n qc6));clear S6 M6 V6 hb hn6 hq6 HF6 ST SM SV G6)
      | fail "NO ARM")
     all_goals
      clear q0 q1 q2 f0 f1 f2
      refine at_then14 (fun W=>RfSt w W r c n cap ao nj qo6 qc6 _ R∧BoxT 150 W gm (.slice vo (r - j) vc) (.int .u64 (tj:Nat)) (.int .u64 (bj:Nat))∧BitsAt W vo vc (mxL vj)) ⟨uH P6,uH PM,uH PV⟩ ?_
      clear P6 PM PV
      rintro W2 ⟨st,sm,sv⟩
      obtain ⟨v9,w9,run9,st9⟩:=st.push ⟨vo,vc,vj,tj,bj⟩ sv (uH HF) (by rw [uH hRl];omega) 148
      have RUN:=hide run9
      dsimp only at RUN
      rw [uH LV1] at RUN
      have P9:=hide st9
      have m0:=sm.c0;have m1:=sm.c1;have m2:=sm.c2
      clear st sm sv run9 st9
      go_wp2_with (at_builtin;refine wpList_append_ran _ rfl _ _ 148 rfl _ _ _ _ rfl rfl (uH RUN) ?_;clear RUN)
      go_round
      case rel =>
       refine ⟨j+1,qo6,qc6,R ++ [⟨vo,vc,vj,tj,bj⟩],by omega,by go_num,?_,?_,?_,by rw [hNJ];exact P9⟩
       ·show (R ++ [_]).length = j+1
        rw [List.length_append,uH hRl];rfl
       ·show ∀ k,k < j+1→_
        intro k hk
        rw [mrAt_snoc R _ k (by rw [uH hRl];exact hk)]
        by_cases g:k < R.length
        ·rw [if_pos g];exact uH hRm k (by rw [← uH hRl];exact g)
        ·rw [if_neg g,show k = j by have:=uH hRl;omega,hVJ,hTJ];exact ⟨rfl,rfl⟩
       ·show ∀ k,k < j+1→_
        intro k hk
        by_cases g:k < j
        ·exact uH hO k g
        ·rw [show k = j by omega];exact ⟨h1,h2⟩
      case measure=>simp [intOf];omega
  ·have hjj:j = K:=by omega
   subst hjj
   have hend:¬ ((j:Int) < (c:Int)∧(j:Int) < (r:Int) - 1):=fun q=>Nat.lt_irrefl j ((uH HK j).2 q)
   obtain ⟨lo,lc,hvl⟩:=(uH hS).l.slice
   rw [uH hRl] at hvl
   subst hvl
   have G8:=K8
   rcases (show (c:Int)≤(j:Int) ∨ ((j:Int) < (c:Int)∧(r:Int) - 1≤(j:Int)) by omega) with g1 | ⟨g1,g2⟩
   all_goals
    go_wp2_with fail
    clear y0 y1 y2
    refine (uH K7 _).mono ?_
    rintro e w1 ⟨qo,qc,rfl,hq,hb⟩
    have ba:=below_alloc9 w1 (.cells #[.int .i64 r,.int .i64 r,.slice qo nq qc] 24)
    have HQ:=hide (BoxM.new w1 (.int .i64 r) (.int .i64 r) (.slice qo nq qc))
    have S1:=hide (((uH hS).all hb).all ba)
    have HB:=hide (hq.below ba)
    have HGQ:=hide (show w.heap.size+1+1+1≤w1.heap.size from Nat.lt_of_lt_of_le (uH hS).rb.lt hb.size)
    clear hb hq ba hS
    have hw2:IntKind.i64.wrap ((j:Int) - 1) = (j:Int) - 1:=wrap_in _ (by omega)
    go_wp2_with fail
    generalize w1.heap.size = gq at *
    go_loopw [10] (fun a wr=>∃ (t:Nat) (qo:Option Addr) (qc:Nat),t≤j∧a = .int .i64 ((j:Int) - 1 - (t:Int))∧Hid (RfSt w wr r c n cap ao (RJ j) ro rc (.slice lo j lc) R∧BoxM wr gq (.int .i64 r) (.int .i64 r) (.slice qo nq qc)∧BitsAt wr qo qc (mxL (QT t)))) (fun a _=>(intOf a+1).toNat)
    case atStart=>exact ⟨0,qo,qc,Nat.zero_le _,by simp,hide ⟨uH S1,uH HQ,uH HB⟩⟩
    case round =>
     clear S1 HQ HB
     obtain ⟨t,qo,qc,htj,rfl,hS⟩:=hrel
     by_cases hlt2:t < j
     ·obtain ⟨m,hm⟩:∃ m,j - 1 - t = m:=⟨_,rfl⟩
      have hmI:(j:Int) - 1 - (t:Int) = (m:Int):=by omega
      rw [hmI]
      have hmj:(m:Int) < (j:Int):=by omega
      obtain ⟨gl,cl,el,gl1,gl2,k0,k1,kb⟩:=(uH hS).1.l.at (k:=m) (by rw [uH hRl];omega)
      simp only [Value.slice.injEq] at el
      obtain ⟨rfl,hjR,rfl⟩:=el
      clear hjR
      obtain ⟨ev,et⟩:=uH hRm m (by omega)
      rw [ev] at k0 kb
      rw [et] at k1
      rw [uH LV m] at k0
      have GQ:=hide (fun w' po pc vo vc hp hv=>uH G8 w' t m po pc vo vc hlt2 hm.symm hp hv)
      have KB:=hide kb
      have EMT:=hide hm
      generalize (mrAt R m).ao = vo at *
      generalize (mrAt R m).cap = vc at *
      generalize tau m = tm at *
      generalize V m = vm at *
      generalize hNT:QT (t+1) = nt at *
      clear kb ev et
      go_wp2_with fail
      refine at_world (fun W=>(RfSt w W r c n cap ao (RJ j) ro rc (.slice (some ⟨gl,0,none⟩) j lc) R∧BoxM W gq (.int .i64 r) (.int .i64 r) (.slice qo nq qc)∧BitsAt W qo qc (mxL (QT t)))∧(W.cell? ⟨gl,m * 3,none⟩ = some (.slice vo (r - m) vc)∧W.cell? ⟨gl,m * 3+1,none⟩ = some (.int .u64 (tm:Nat)))∧BitsAt W vo vc (mxL vm)) ⟨uH hS,⟨k0,k1⟩,uH KB⟩ ?_
      clear hS k0 k1 KB
      rintro W ⟨⟨st,sq,sb⟩,⟨k0,k1⟩,kb⟩
      have hd:=(Below.refl W.heap.size W).drew
      have ST:=hide (st.all hd);have SQ:=hide (sq.all hd);have SB:=hide (sb.below hd);have KB:=hide (kb.below hd)
      replace k0:=cell_keep k0 hd
      replace k1:=cell_keep k1 hd
      clear st sq sb kb hd
      have q0:=(uH SQ).c0;have q1:=(uH SQ).c1;have q2:=(uH SQ).c2
      refine wp_region_held_drew (S:=(fun w'=>w'.cell? ⟨gl,m * 3,none⟩ = some (.slice vo (r - m) vc)∧w'.cell? ⟨gl,m * 3+1,none⟩ = some (.int .u64 (tm:Nat)))) (by kernel_rfl) ?_ (fun hHeld=>?_)
      ·exact ⟨k0,k1⟩
      refine wpAnyH_take (i:=1) (oi:={ dst:=some 69,op:=Op.move (Operand.tmp 10),type:=3,pos := "ref.go:44",after:=#[],guard:=none }) (v:=(Value.int .i64 (m:Int))) rfl (by kernel_rfl) (by kernel_rfl) (by kernel_rfl) (fun _ _ _ h=>h) (Or.inl ⟨by rfl,?_⟩) (by assumption) ?_
      ·(intro w hSw;(try dsimp only at hSw);go_simp)
      simp only [Act.put,List.setIfInBounds_toArray,List.set_cons_zero,List.set_cons_succ]
      refine wpAnyH_take (i:=2) (oi:={ dst:=some 70,op:=Op.move (Operand.tmp 4),type:=148,pos := "ref.go:44",after:=#[],guard:=none }) (v:=(Value.slice (some ⟨gl,0,none⟩) j lc)) rfl (by kernel_rfl) (by kernel_rfl) (by kernel_rfl) (fun _ _ _ h=>h) (Or.inl ⟨by rfl,?_⟩) (by assumption) ?_
      ·(intro w hSw;(try dsimp only at hSw);go_simp)
      simp only [Act.put,List.setIfInBounds_toArray,List.set_cons_zero,List.set_cons_succ]
      refine wpAnyH_take (i:=3) (oi:={ dst:=some 71,op:=Op.move (Operand.tmp 10),type:=3,pos := "ref.go:44",after:=#[],guard:=none }) (v:=(Value.int .i64 (m:Int))) rfl (by kernel_rfl) (by kernel_rfl) (by kernel_rfl) (fun _ _ _ h=>h) (Or.inl ⟨by rfl,?_⟩) (by assumption) ?_
      ·(intro w hSw;(try dsimp only at hSw);go_simp)
      simp only [Act.put,List.setIfInBounds_toArray,List.set_cons_zero,List.set_cons_succ]
      refine wpAnyH_take (i:=4) (oi:={ dst:=some 72,op:=Op.indexAddr 148 (Operand.tmp 70) (Operand.tmp 71),type:=0,pos := "ref.go:44",after:=#[{ on:=2,ground:=Ground.data },{ on:=3,ground:=Ground.data }],guard:=none }) (v:=(Value.pointer (some ⟨gl,m * 3,none⟩))) rfl (by kernel_rfl) (by kernel_rfl) (by kernel_rfl) (fun _ _ _ h=>h) (Or.inl ⟨by rfl,?_⟩) (by assumption) ?_
      ·(intro w hSw;(try dsimp only at hSw);go_simp)
      simp only [Act.put,List.setIfInBounds_toArray,List.set_cons_zero,List.set_cons_succ]
      refine wpAnyH_take (i:=5) (oi:={ dst:=some 73,op:=Op.fieldAddr 150 (Operand.tmp 72) 0,type:=0,pos := "ref.go:44",after:=#[{ on:=4,ground:=Ground.data }],guard:=none }) (v:=(Value.pointer (some ⟨gl,m * 3,none⟩))) rfl (by kernel_rfl) (by kernel_rfl) (by kernel_rfl) (fun _ _ _ h=>h) (Or.inl ⟨by rfl,?_⟩) (by assumption) ?_
      ·(intro w hSw;(try dsimp only at hSw);go_simp)
      simp only [Act.put,List.setIfInBounds_toArray,List.set_cons_zero,List.set_cons_succ]
      refine wpAnyH_take (i:=6) (oi:={ dst:=some 74,op:=Op.load 22 (Operand.tmp 73),type:=22,pos := "ref.go:44",after:=#[{ on:=5,ground:=Ground.data }],guard:=none }) (v:=(Value.slice vo (r - m) vc)) rfl (by kernel_rfl) (by kernel_rfl) (by kernel_rfl) (fun _ _ _ h=>h) (Or.inl ⟨by rfl,?_⟩) (by assumption) ?_
      ·(intro w hSw;(try dsimp only at hSw);go_simp)
      simp only [Act.put,List.setIfInBounds_toArray,List.set_cons_zero,List.set_cons_succ]
      refine wpAnyH_take (i:=7) (oi:={ dst:=some 75,op:=Op.move (Operand.tmp 4),type:=148,pos := "ref.go:44",after:=#[],guard:=none }) (v:=(Value.slice (some ⟨gl,0,none⟩) j lc)) rfl (by kernel_rfl) (by kernel_rfl) (by kernel_rfl) (fun _ _ _ h=>h) (Or.inl ⟨by rfl,?_⟩) (by assumption) ?_
      ·(intro w hSw;(try dsimp only at hSw);go_simp)
      simp only [Act.put,List.setIfInBounds_toArray,List.set_cons_zero,List.set_cons_succ]
      refine wpAnyH_take (i:=8) (oi:={ dst:=some 76,op:=Op.move (Operand.tmp 10),type:=3,pos := "ref.go:44",after:=#[],guard:=none }) (v:=(Value.int .i64 (m:Int))) rfl (by kernel_rfl) (by kernel_rfl) (by kernel_rfl) (fun _ _ _ h=>h) (Or.inl ⟨by rfl,?_⟩) (by assumption) ?_
      ·(intro w hSw;(try dsimp only at hSw);go_simp)
      simp only [Act.put,List.setIfInBounds_toArray,List.set_cons_zero,List.set_cons_succ]
      refine wpAnyH_take (i:=9) (oi:={ dst:=some 77,op:=Op.indexAddr 148 (Operand.tmp 75) (Operand.tmp 76),type:=0,pos := "ref.go:44",after:=#[{ on:=7,ground:=Ground.data },{ on:=8,ground:=Ground.data }],guard:=none }) (v:=(Value.pointer (some ⟨gl,m * 3,none⟩))) rfl (by kernel_rfl) (by kernel_rfl) (by kernel_rfl) (fun _ _ _ h=>h) (Or.inl ⟨by rfl,?_⟩) (by assumption) ?_
      ·(intro w hSw;(try dsimp only at hSw);go_simp)
      simp only [Act.put,List.setIfInBounds_toArray,List.set_cons_zero,List.set_cons_succ]
      refine wpAnyH_take (i:=10) (oi:={ dst:=some 78,op:=Op.fieldAddr 150 (Operand.tmp 77) 1,type:=0,pos := "ref.go:44",after:=#[{ on:=9,ground:=Ground.data }],guard:=none }) (v:=(Value.pointer (some ⟨gl,m * 3+1,none⟩))) rfl (by kernel_rfl) (by kernel_rfl) (by kernel_rfl) (fun _ _ _ h=>h) (Or.inl ⟨by rfl,?_⟩) (by assumption) ?_
      ·(intro w hSw;(try dsimp only at hSw);go_simp)
      simp only [Act.put,List.setIfInBounds_toArray,List.set_cons_zero,List.set_cons_succ]
      refine wpAnyH_take (i:=11) (oi:={ dst:=some 79,op:=Op.load 37 (Operand.tmp 78),type:=37,pos := "ref.go:44",after:=#[{ on:=10,ground:=Ground.data }],guard:=none }) (v:=(Value.int .u64 (tm:Int))) rfl (by kernel_rfl) (by kernel_rfl) (by kernel_rfl) (fun _ _ _ h=>h) (Or.inl ⟨by rfl,?_⟩) (by assumption) ?_
      ·(intro w hSw;(try dsimp only at hSw);go_simp)
      simp only [Act.put,List.setIfInBounds_toArray,List.set_cons_zero,List.set_cons_succ]
      refine wpAnyH_ready (rs:=[0]) (by kernel_rfl) (by simp) ?_
      refine AllReadyH.cons (o:={ dst:=some 68,op:=Op.load 24 (Operand.tmp 9),type:=24,pos := "ref.go:44",after:=#[],guard:=none }) rfl (fun K hK=>?_) AllReadyH.nil
      go_simp
      refine hK.out _ _ ?_ (fun hHeld=>?_)
      ·exact ⟨k0,k1⟩
      clear hK K
      refine wpAnyH_ready (rs:=[12]) (by kernel_rfl) (by simp) ?_
      refine AllReadyH.cons (o:={ dst:=some 80,op:=Op.call { callee:=Callee.value (Operand.func 156),args:=#[Operand.tmp 68,Operand.tmp 69,Operand.const (Value.int IntKind.i64 0),Operand.tmp 74,Operand.tmp 79],argTypes:=#[24,3,3,22,37] },type:=24,pos := "ref.go:44",after:=#[{ on:=0,ground:=Ground.data },{ on:=1,ground:=Ground.data },{ on:=6,ground:=Ground.data },{ on:=11,ground:=Ground.data }],guard:=none }) rfl (fun K hK=>?_) AllReadyH.nil
      go_simp
      refine (uH GQ _ _ _ _ _ (uH SB) (uH KB)).mono ?_
      rintro e w5 ⟨qo5,qc5,rfl,hq5,hb⟩
      clear q0 q1 q2
      have S5:=(uH ST).all hb
      have Q5:=(uH SQ).all hb
      replace k0:=cell_keep k0 hb
      replace k1:=cell_keep k1 hb
      have HS5:=hide (And.intro k0 k1)
      have ha:=S5.l.apart Q5
      have HS6:=hide (And.intro (show (((w5.setCell ⟨gq,0,none⟩ (.int .i64 r)).setCell ⟨gq,1,none⟩ (.int .i64 r)).setCell ⟨gq,2,none⟩ (.slice qo5 nq qc5)).cell? ⟨gl,m * 3,none⟩ = some (.slice vo (r - m) vc) by rw [cell_setCell_other _ _ _ _ ha,cell_setCell_other _ _ _ _ ha,cell_setCell_other _ _ _ _ ha];exact k0) (show (((w5.setCell ⟨gq,0,none⟩ (.int .i64 r)).setCell ⟨gq,1,none⟩ (.int .i64 r)).setCell ⟨gq,2,none⟩ (.slice qo5 nq qc5)).cell? ⟨gl,m * 3+1,none⟩ = some (.int .u64 (tm:Nat)) by rw [cell_setCell_other _ _ _ _ ha,cell_setCell_other _ _ _ _ ha,cell_setCell_other _ _ _ _ ha];exact k1))
      have q0:=Q5.c0;have q1:=Q5.c1;have q2:=Q5.c2
      have f0:=Q5.free 0;have f1:=Q5.free 1;have f2:=Q5.free 2
      have P5:=hide (S5.far Q5 (uH HGQ) (.int .i64 r) (.int .i64 r) (.slice qo5 nq qc5))
      have PQ:=hide (Q5.put (.int .i64 r) (.int .i64 r) (.slice qo5 nq qc5))
      have PB:=hide (hq5.putM Q5 (.int .i64 r) (.int .i64 r) (.slice qo5 nq qc5))
      clear hb hq5 S5 Q5 GQ ST SQ SB KB ha k0 k1
      go_wp2_with fail
      refine hK.out _ _ ?_ (fun hHeld=>?_)
      ·exact uH HS5
      clear hK K
      refine wpAnyH_ready (rs:=[13]) (by kernel_rfl) (by simp) ?_
      refine AllReadyH.cons (o:={ dst:=none,op:=Op.store 24 (Operand.tmp 9) (Operand.tmp 80),type:=0,pos := "ref.go:44",after:=#[{ on:=12,ground:=Ground.data },{ on:=12,ground:=Ground.chain },{ on:=0,ground:=Ground.phase },{ on:=1,ground:=Ground.phase },{ on:=2,ground:=Ground.phase },{ on:=3,ground:=Ground.phase },{ on:=4,ground:=Ground.phase },{ on:=5,ground:=Ground.phase },{ on:=6,ground:=Ground.phase },{ on:=7,ground:=Ground.phase },{ on:=8,ground:=Ground.phase },{ on:=9,ground:=Ground.phase },{ on:=10,ground:=Ground.phase },{ on:=11,ground:=Ground.phase },{ on:=12,ground:=Ground.phase }],guard:=none }) rfl (fun K hK=>?_) AllReadyH.nil
      go_simp
      refine hK.out _ _ ?_ (fun hHeld=>?_)
      ·exact uH HS6
      clear hK K
      refine wpAnyH_done (by kernel_rfl) ?_ _
      clear q0 q1 q2 f0 f1 f2 HS5 HS6
      have hw3:IntKind.i64.wrap ((m:Int) - 1) = (m:Int) - 1:=wrap_in _ (by omega)
      go_wp2_with fail
      go_round
      case rel=>exact ⟨t+1,qo5,qc5,by omega,by rw [show (m:Int) - 1 = (j:Int) - 1 - ((t+1:Nat):Int) by omega],by rw [hNT];exact hide ⟨uH P5,uH PQ,uH PB⟩⟩
      case measure=>simp [intOf] <;> omega
     ·have htt:t = j:=by omega
      subst htt
      have hz:(t:Int) - 1 - (t:Int) = -1:=by omega
      rw [hz]
      have ST:=hide (uH hS).1;have SQ:=hide (uH hS).2.1;have SB:=hide (uH hS).2.2
      clear hS
      have q0:=(uH SQ).c0;have q1:=(uH SQ).c1;have q2:=(uH SQ).c2
      go_wp2_with fail
      clear q0 q1 q2
      refine (uH K9 _ _ _ (uH SB)).mono ?_
      rintro e w2 ⟨rfl,hb⟩
      replace ST:=hide ((uH ST).all hb);replace SQ:=hide ((uH SQ).all hb);replace SB:=hide ((uH SB).below hb)
      clear hb
      cases h1:fq with
      | false =>
       clear SQ SB
       have X1:=(uH ST).res
       have r0:=X1.c0;have r1:=X1.c1;have r2:=X1.c2;have r3:=X1.c3;have r4:=X1.c4;have r5:=X1.c5;have r6:=X1.c6
       have f0:=X1.free 0;have f1:=X1.free 1;have f2:=X1.free 2;have f3:=X1.free 3;have f4:=X1.free 4;have f5:=X1.free 5;have f6:=X1.free 6
       have XP:=X1.put (.int .i64 0) (.int .i64 0) (.slice none 0 0) (.int .i64 0) (.int .i64 0) (.slice none 0 0) (.bool false)
       have z0:=XP.c0;have z1:=XP.c1;have z2:=XP.c2;have z3:=XP.c3;have z4:=XP.c4;have z5:=XP.c5;have z6:=XP.c6
       have BP:=hide (below_putW (uH ST).bel (g:=w.heap.size+1) (by omega) (.int .i64 0) (.int .i64 0) (.slice none 0 0) (.int .i64 0) (.int .i64 0) (.slice none 0 0) (.bool false))
       have hno:Hid (ok = false):=hide (by
        cases hk:ok with
        | false=>rfl
        | true=>exact absurd ((uH HOK).1 hk) (fun q=>by have:=q.2.1;rw [h1] at this;cases this))
       clear X1 XP ST
       go_wp2_with fail
       exact bodyPost_ret (v:=.agg #[.int .i64 0,.int .i64 0,.slice none 0 0,.int .i64 0,.int .i64 0,.slice none 0 0,.bool false]) (by simp [results,Tryz.results99,go_sem,z0,z1,z2,z3,z4,z5,z6]) rfl ⟨.inr ⟨uH hno,rfl⟩,uH BP⟩
      | true =>
       have q0:=(uH ST).rb.c0;have q1:=(uH ST).rb.c1;have q2:=(uH ST).rb.c2
       go_wp2_with fail
       clear q0 q1 q2
       refine (uH KA _ _ _ (uH ST).bits).mono ?_
       rintro e w3 ⟨rfl,hb⟩
       replace ST:=hide ((uH ST).all hb);replace SQ:=hide ((uH SQ).all hb);replace SB:=hide ((uH SB).below hb)
       clear hb
       cases h2:fr with
       | false =>
        clear SQ SB
        have X1:=(uH ST).res
        have r0:=X1.c0;have r1:=X1.c1;have r2:=X1.c2;have r3:=X1.c3;have r4:=X1.c4;have r5:=X1.c5;have r6:=X1.c6
        have f0:=X1.free 0;have f1:=X1.free 1;have f2:=X1.free 2;have f3:=X1.free 3;have f4:=X1.free 4;have f5:=X1.free 5;have f6:=X1.free 6
        have XP:=X1.put (.int .i64 0) (.int .i64 0) (.slice none 0 0) (.int .i64 0) (.int .i64 0) (.slice none 0 0) (.bool false)
        have z0:=XP.c0;have z1:=XP.c1;have z2:=XP.c2;have z3:=XP.c3;have z4:=XP.c4;have z5:=XP.c5;have z6:=XP.c6
        have BP:=hide (below_putW (uH ST).bel (g:=w.heap.size+1) (by omega) (.int .i64 0) (.int .i64 0) (.slice none 0 0) (.int .i64 0) (.int .i64 0) (.slice none 0 0) (.bool false))
        have hno:Hid (ok = false):=hide (by
         cases hk:ok with
         | false=>rfl
         | true=>exact absurd ((uH HOK).1 hk) (fun q=>by have:=q.2.2;rw [h2] at this;cases this))
        clear X1 XP ST
        go_wp2_with fail
        exact bodyPost_ret (v:=.agg #[.int .i64 0,.int .i64 0,.slice none 0 0,.int .i64 0,.int .i64 0,.slice none 0 0,.bool false]) (by simp [results,Tryz.results99,go_sem,z0,z1,z2,z3,z4,z5,z6]) rfl ⟨.inr ⟨uH hno,rfl⟩,uH BP⟩
       | true =>
        have hyes:Hid (ok = true):=hide ((uH HOK).2 ⟨uH hO,h1,h2⟩)
        have q0:=(uH SQ).c0;have q1:=(uH SQ).c1;have q2:=(uH SQ).c2
        have p0:=(uH ST).rb.c0;have p1:=(uH ST).rb.c1;have p2:=(uH ST).rb.c2
        have X1:=(uH ST).res
        have r0:=X1.c0;have r1:=X1.c1;have r2:=X1.c2;have r3:=X1.c3;have r4:=X1.c4;have r5:=X1.c5;have r6:=X1.c6
        have f0:=X1.free 0;have f1:=X1.free 1;have f2:=X1.free 2;have f3:=X1.free 3;have f4:=X1.free 4;have f5:=X1.free 5;have f6:=X1.free 6
        have XP:=X1.put (.int .i64 r) (.int .i64 r) (.slice qo nq qc) (.int .i64 r) (.int .i64 c) (.slice ro n rc) (.bool true)
        have z0:=XP.c0;have z1:=XP.c1;have z2:=XP.c2;have z3:=XP.c3;have z4:=XP.c4;have z5:=XP.c5;have z6:=XP.c6
        have BP:=hide (below_putW (uH ST).bel (g:=w.heap.size+1) (by omega) (.int .i64 r) (.int .i64 r) (.slice qo nq qc) (.int .i64 r) (.int .i64 c) (.slice ro n rc) (.bool true))
        have PQ:=hide (bits_putW (uH SB) X1 (.int .i64 r) (.int .i64 r) (.slice qo nq qc) (.int .i64 r) (.int .i64 c) (.slice ro n rc) (.bool true))
        have PR:=hide (bits_putW (uH ST).bits X1 (.int .i64 r) (.int .i64 r) (.slice qo nq qc) (.int .i64 r) (.int .i64 c) (.slice ro n rc) (.bool true))
        clear X1 XP ST SQ SB
        go_wp2_with fail
        exact bodyPost_ret (v:=.agg #[.int .i64 r,.int .i64 r,.slice qo nq qc,.int .i64 r,.int .i64 c,.slice ro n rc,.bool true]) (by simp [results,Tryz.results99,go_sem,z0,z1,z2,z3,z4,z5,z6]) rfl ⟨.inl ⟨uH hyes,qo,qc,ro,rc,rfl,uH PQ,uH PR⟩,uH BP⟩
end Go.Proofs.YtlnphkioddknfaaGreatDoor
namespace Go.Proofs.YtlnphkioddknfaaGreatDoor
open Go.RowKit
attribute [local go_sem ↓] Go.wp_at_zero Go.wp_at_succ
def nilAt (N:List Rw) (i c:Nat):Prop:=(nmAt (rwAt N i).R c).L.length = 0
end Go.Proofs.YtlnphkioddknfaaGreatDoor
namespace Go.Proofs.YtlnphkioddknfaaGreatDoor
open Go.RowKit
def KK:Nat→Nat
 | 0=>2098
 | c+1=>2 * KK c+1
end Go.Proofs.YtlnphkioddknfaaGreatDoor
