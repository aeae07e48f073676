/- Part 35 of the texts. -/
import Derived.Test.YtenpggicmfhhdaaGreatDoorPartc31
import Derived.Test.YtenpggicmfhhdaaGreatDoorPartc34
import Derived.Test.YtenpggicmfhhdaaGreatDoorPartc30
import Derived.Test.YtenpggicmfhhdaaGreatDoorPartc27
import Derived.Deep.RegionLaw
import Derived.Deep.RegionWith
set_option maxHeartbeats 16000000
set_option maxRecDepth 20000
namespace Go.Proofs.YtenpggicmfhhdaaGreatDoor
open Go.RowKit
attribute [local go_sem ↓] Go.wp_at_zero Go.wp_at_succ
structure UpSt (w wr:World) (g:Nat) (a0 a1 a2 q0 q1 q2 r0 r1 r2:Value):Prop where
 bel:Below w.heap.size w wr
 a:BoxM wr w.heap.size a0 a1 a2
 q:BoxM wr g q0 q1 q2
 r:BoxM wr (g+1) r0 r1 r2
theorem UpSt.start {w w1:World} {a0 a1 a2:Value} (hB:Below w.heap.size w w1) (hA:BoxM w1 w.heap.size a0 a1 a2) (q0 q1 q2 r0 r1 r2:Value):UpSt w ((w1.alloc (.cells #[q0,q1,q2] 24)).alloc (.cells #[r0,r1,r2] 24)) w1.heap.size a0 a1 a2 q0 q1 q2 r0 r1 r2∧Below w1.heap.size w1 ((w1.alloc (.cells #[q0,q1,q2] 24)).alloc (.cells #[r0,r1,r2] 24)):=by
 have ba:=below_alloc9 w1 (.cells #[q0,q1,q2] 24)
 have za:=size_alloc9 w1 (.cells #[q0,q1,q2] 24)
 have bb:=below_alloc9 (w1.alloc (.cells #[q0,q1,q2] 24)) (.cells #[r0,r1,r2] 24)
 have xb:=BoxM.new (w1.alloc (.cells #[q0,q1,q2] 24)) r0 r1 r2
 rw [za] at xb
 have bc:=ba.trans (bb.mono ba.size)
 exact ⟨⟨hB.trans (bc.mono hB.size),hA.all bc,(BoxM.new w1 q0 q1 q2).all bb,xb⟩,bc⟩
end Go.Proofs.YtenpggicmfhhdaaGreatDoor
namespace Go.Proofs.YtenpggicmfhhdaaGreatDoor
open Go.RowKit
attribute [local go_sem ↓] Go.wp_at_zero Go.wp_at_succ
structure FqSt (w wr:World) (g1 g2:Nat) (a0 a1 a2 l0 l1 l2 p0 p1 p2 r0 r1 r2 q0 q1 q2:Value):Prop where
 bel:Below w.heap.size w wr
 a:BoxM wr w.heap.size a0 a1 a2
 l:BoxM wr g1 l0 l1 l2
 p:BoxM wr (g1+1) p0 p1 p2
 r:BoxM wr g2 r0 r1 r2
 q:BoxM wr (g2+1) q0 q1 q2
theorem FqSt.all {w wr w':World} {g1 g2:Nat} {a0 a1 a2 l0 l1 l2 p0 p1 p2 r0 r1 r2 q0 q1 q2:Value} (h:FqSt w wr g1 g2 a0 a1 a2 l0 l1 l2 p0 p1 p2 r0 r1 r2 q0 q1 q2) (hb:Below wr.heap.size wr w'):FqSt w w' g1 g2 a0 a1 a2 l0 l1 l2 p0 p1 p2 r0 r1 r2 q0 q1 q2 :=
 ⟨h.bel.trans (hb.mono h.bel.size),h.a.all hb,h.l.all hb,h.p.all hb,h.r.all hb,h.q.all hb⟩
end Go.Proofs.YtenpggicmfhhdaaGreatDoor
namespace Go.Proofs.YtenpggicmfhhdaaGreatDoor
open Go.RowKit
attribute [local go_sem ↓] Go.wp_at_zero Go.wp_at_succ
theorem rqZeros_of (r c:Int) (ao:Option Addr) (n cap:Nat) (p1 p2 p3 p4 t1 t2 t3 t4:Nat) (LL LP LR LQ:List Nat) (e1 e2:Int) (w:World) (hp1:p1≤6) (hp2:p2≤6) (ht1:t1≤6) (ht2:t2≤6) (ht:t1≤t2) (h1:e1 = 0 ∨ p1 = 0) (h2:e2 = 0 ∨ t1 = 0) (ll:LL.length = p1 * p2) (lr:LR.length = t1 * t2)
  (hz1:∀ i k,i < p1→k < p2→i < k→elM p2 LL i k = 0) (hz2:∀ i k,i < t1→k+t1 < t2+i→elM t2 LR i k = 0)
  (C1:∀ w',Below w.heap.size w w'→Calls Tryz.prog 12 #[.agg #[.int .i64 r,.int .i64 c,.slice ao n cap]] w' fun e w''=>∃ v u,e = .returned (.tuple #[v,u,.int .i64 e1])∧NewM 0 w'' p1 p2 LL v∧NewM 0 w'' p3 p4 LP u∧Below w'.heap.size w' w'')
  (C2:∀ w',Below w.heap.size w w'→Calls Tryz.prog 13 #[.agg #[.int .i64 r,.int .i64 c,.slice ao n cap]] w' fun e w''=>∃ v u,e = .returned (.tuple #[v,u,.int .i64 e2])∧NewM 0 w'' t1 t2 LR v∧NewM 0 w'' t3 t4 LQ u∧Below w'.heap.size w' w'')
  (CA:∀ w',Below w.heap.size w w'→Calls Tryz.prog 10 #[] w' fun e w''=>e = .returned (.bool true)∧Below w'.heap.size w' w'') :
  Calls Tryz.prog 5 #[.agg #[.int .i64 r,.int .i64 c,.slice ao n cap]] w fun e w'=>e = .returned (.bool true)∧Below w.heap.size w w':=by
 have K1:=hide C1;have K2:=hide C2;have KA:=hide CA;have H1:=hide h1;have H2:=hide h2;have HZ1:=hide hz1;have HZ2:=hide hz2
 have KL:=hide (fun W lo lc (h:BitsAt W lo lc (mxL LL)) i k (hi:i < p1) (hk:k < p2)=>rat_any p1 p2 lc i k lo LL W ⟨h,ll,hp1,hp2⟩ hi hk)
 have KR:=hide (fun W lo lc (h:BitsAt W lo lc (mxL LR)) i k (hi:i < t1) (hk:k < t2)=>rat_any t1 t2 lc i k lo LR W ⟨h,lr,ht1,ht2⟩ hi hk)
 obtain ⟨dl,hdl⟩:∃ dl,t2 = t1+dl:=⟨t2 - t1,by omega⟩
 have hwA:IntKind.i64.wrap ((t2:Int) - (t1:Int)) = (dl:Int):=by rw [wrap_in _ (by omega)];omega
 have HD:=hide hdl
 have b0:=below_alloc9 w (.cells #[.int .i64 r,.int .i64 c,.slice ao n cap] 24)
 have HA:=hide (BoxM.new w (.int .i64 r) (.int .i64 c) (.slice ao n cap))
 have HB:=hide b0
 clear b0 h1 h2 hz1 hz2 ll lr ht hdl C1 C2 CA
 go_enter Tryz.func5,Tryz.ntmps5
 go_wp2_with fail
 refine (uH K1 _ (uH HB)).mono ?_
 rintro e w1 ⟨v,u,rfl,⟨lo,lc,rfl,_,ql⟩,⟨po,pc,rfl,_,_⟩,hb⟩
 obtain ⟨st,bc⟩:=UpSt.start ((uH HB).trans (hb.mono (uH HB).size)) ((uH HA).all hb) (.int .i64 (p1:Nat)) (.int .i64 (p2:Nat)) (.slice lo LL.length lc) (.int .i64 (p3:Nat)) (.int .i64 (p4:Nat)) (.slice po LP.length pc)
 have ST:=hide st
 have QL:=hide (ql.below bc)
 clear hb HA HB K1 st bc ql
 generalize LL.length = nl at *
 generalize LP.length = np at *
 have aa0:=(uH ST).a.c0;have aa1:=(uH ST).a.c1;have aa2:=(uH ST).a.c2
 go_wp2_with fail
 clear aa0 aa1 aa2
 generalize w1.heap.size = g1 at *
 refine (uH K2 _ (uH ST).bel).mono ?_
 rintro e w2 ⟨v,u,rfl,⟨ro,rc,rfl,_,qr⟩,⟨qo,qc,rfl,_,_⟩,hb⟩
 have bel1:=(uH ST).bel.trans (hb.mono (uH ST).bel.size)
 obtain ⟨st,bc⟩:=UpSt.start bel1 ((uH ST).a.all hb) (.int .i64 (t1:Nat)) (.int .i64 (t2:Nat)) (.slice ro LR.length rc) (.int .i64 (t3:Nat)) (.int .i64 (t4:Nat)) (.slice qo LQ.length qc)
 have S2:=hide (show FqSt w _ g1 w2.heap.size (.int .i64 r) (.int .i64 c) (.slice ao n cap) (.int .i64 (p1:Nat)) (.int .i64 (p2:Nat)) (.slice lo nl lc) (.int .i64 (p3:Nat)) (.int .i64 (p4:Nat)) (.slice po np pc) (.int .i64 (t1:Nat)) (.int .i64 (t2:Nat)) (.slice ro LR.length rc) (.int .i64 (t3:Nat)) (.int .i64 (t4:Nat)) (.slice qo LQ.length qc) from ⟨st.bel,st.a,((uH ST).q.all hb).all bc,((uH ST).r.all hb).all bc,st.q,st.r⟩)
 have BT:=hide (show BitsAt _ lo lc (mxL LL)∧BitsAt _ ro rc (mxL LR) from ⟨((uH QL).below hb).below bc,qr.below bc⟩)
 replace ST:=S2
 clear hb K2 st bc qr S2 bel1 QL
 generalize LR.length = nr at *
 generalize LQ.length = nq at *
 go_wp2_with fail
 generalize w2.heap.size = g2 at *
 go_loopw [9] (fun a wr=>∃ i:Nat,i≤p1∧a = .int .i64 i∧Hid (FqSt w wr g1 g2 (.int .i64 r) (.int .i64 c) (.slice ao n cap) (.int .i64 (p1:Nat)) (.int .i64 (p2:Nat)) (.slice lo nl lc) (.int .i64 (p3:Nat)) (.int .i64 (p4:Nat)) (.slice po np pc) (.int .i64 (t1:Nat)) (.int .i64 (t2:Nat)) (.slice ro nr rc) (.int .i64 (t3:Nat)) (.int .i64 (t4:Nat)) (.slice qo nq qc))∧Hid (BitsAt wr lo lc (mxL LL)∧BitsAt wr ro rc (mxL LR))) (fun a _=>p1 - (intOf a).toNat)
 case atStart=>exact ⟨0,Nat.zero_le _,rfl,ST,BT⟩
 case round =>
  clear ST BT
  obtain ⟨i,hi,rfl,hS,hQ⟩:=hrel
  have y0:=(uH hS).l.c0;have y1:=(uH hS).l.c1;have y2:=(uH hS).l.c2
  by_cases hlt:i < p1
  ·have hiI:(i:Int) < (p1:Int):=by omega
   obtain rfl:e1 = 0:=(uH H1).resolve_right (by omega)
   go_wp2_with fail
   clear y0 y1 y2
   go_loopw [10] (fun a wr=>∃ k:Nat,i < k∧k≤7∧a = .int .i64 k∧Hid (FqSt w wr g1 g2 (.int .i64 r) (.int .i64 c) (.slice ao n cap) (.int .i64 (p1:Nat)) (.int .i64 (p2:Nat)) (.slice lo nl lc) (.int .i64 (p3:Nat)) (.int .i64 (p4:Nat)) (.slice po np pc) (.int .i64 (t1:Nat)) (.int .i64 (t2:Nat)) (.slice ro nr rc) (.int .i64 (t3:Nat)) (.int .i64 (t4:Nat)) (.slice qo nq qc))∧Hid (BitsAt wr lo lc (mxL LL)∧BitsAt wr ro rc (mxL LR))) (fun a _=>8 - (intOf a).toNat)
   case atStart=>exact ⟨i+1,by omega,by omega,by go_num,hS,hQ⟩
   case round =>
    clear hS hQ
    obtain ⟨k,hk,hk7,rfl,hS,hQ⟩:=hrel
    have y0:=(uH hS).l.c0;have y1:=(uH hS).l.c1;have y2:=(uH hS).l.c2
    by_cases hkc:k < p2
    ·have hkI:(k:Int) < (p2:Int):=by omega
     have G:=hide (uH KL _ _ _ (uH hQ).1 i k hlt hkc)
     rw [uH HZ1 i k hlt hkc hk] at G
     go_wp2_with fail
     clear y0 y1 y2
     refine Calls.mono (uH G) ?_
     rintro e w3 ⟨rfl,hb⟩
     have S3:=hide ((uH hS).all hb);have Q3:=hide (show BitsAt w3 lo lc (mxL LL)∧BitsAt w3 ro rc (mxL LR) from ⟨(uH hQ).1.below hb,(uH hQ).2.below hb⟩)
     clear hb G hS hQ
     go_wp2_with fail
     go_round
     case rel=>exact ⟨k+1,by omega,by omega,by go_num,S3,Q3⟩
     case measure=>simp [intOf];omega
    ·have d1:decide ((k:Int) < (p2:Int)) = false:=decide_eq_false (by omega)
     have d2:¬ ((k:Int) < (p2:Int)):=by omega
     go_wp2_with fail
     clear y0 y1 y2
     go_round
     case rel=>exact ⟨i+1,by omega,by go_num,hS,hQ⟩
     case measure=>simp [intOf];omega
  ·have hii:p1 = i:=by omega
   have d1:decide ((i:Int) < (p1:Int)) = false:=decide_eq_false (by omega)
   have d2:¬ ((i:Int) < (p1:Int)):=by omega
   clear hii
   go_wp2_with fail
   clear y0 y1 y2
   go_loopw [11] (fun a wr=>∃ i:Nat,i≤t1∧a = .int .i64 i∧Hid (FqSt w wr g1 g2 (.int .i64 r) (.int .i64 c) (.slice ao n cap) (.int .i64 (p1:Nat)) (.int .i64 (p2:Nat)) (.slice lo nl lc) (.int .i64 (p3:Nat)) (.int .i64 (p4:Nat)) (.slice po np pc) (.int .i64 (t1:Nat)) (.int .i64 (t2:Nat)) (.slice ro nr rc) (.int .i64 (t3:Nat)) (.int .i64 (t4:Nat)) (.slice qo nq qc))∧Hid (BitsAt wr lo lc (mxL LL)∧BitsAt wr ro rc (mxL LR))) (fun a _=>t1 - (intOf a).toNat)
   case atStart=>exact ⟨0,Nat.zero_le _,rfl,hS,hQ⟩
   case round =>
    clear hS hQ d1 d2 hlt hi
    obtain ⟨j,hj,rfl,hS,hQ⟩:=hrel
    have y0:=(uH hS).r.c0;have y1:=(uH hS).r.c1;have y2:=(uH hS).r.c2
    by_cases hlt:j < t1
    ·have hjI:(j:Int) < (t1:Int):=by omega
     obtain rfl:e2 = 0:=(uH H2).resolve_right (by omega)
     go_wp2_with fail
     clear y0 y1 y2
     go_loopw [12] (fun a wr=>∃ k:Nat,k≤12∧a = .int .i64 k∧Hid (FqSt w wr g1 g2 (.int .i64 r) (.int .i64 c) (.slice ao n cap) (.int .i64 (p1:Nat)) (.int .i64 (p2:Nat)) (.slice lo nl lc) (.int .i64 (p3:Nat)) (.int .i64 (p4:Nat)) (.slice po np pc) (.int .i64 (t1:Nat)) (.int .i64 (t2:Nat)) (.slice ro nr rc) (.int .i64 (t3:Nat)) (.int .i64 (t4:Nat)) (.slice qo nq qc))∧Hid (BitsAt wr lo lc (mxL LL)∧BitsAt wr ro rc (mxL LR))) (fun a _=>13 - (intOf a).toNat)
     case atStart=>exact ⟨0,by omega,rfl,hS,hQ⟩
     case round =>
      clear hS hQ
      obtain ⟨k,hk,rfl,hS,hQ⟩:=hrel
      have y0:=(uH hS).r.c0;have y1:=(uH hS).r.c1;have y2:=(uH hS).r.c2
      have hd:=uH HD
      obtain ⟨q,hq⟩:∃ q,dl+j = q:=⟨_,rfl⟩
      have hwB:IntKind.i64.wrap ((dl:Int)+(j:Int)) = (q:Int):=by rw [wrap_in _ (by omega)];omega
      by_cases hkc:k < q
      ·have hkI:(k:Int) < (q:Int):=by omega
       have hk2:k < t2:=by omega
       have hk12:k < 12:=by omega
       have G:=hide (uH KR _ _ _ (uH hQ).2 j k hlt hk2)
       rw [uH HZ2 j k hlt (by omega)] at G
       clear hd hq hkc
       go_wp2_with fail
       clear y0 y1 y2
       refine Calls.mono (uH G) ?_
       rintro e w3 ⟨rfl,hb⟩
       have S3:=hide ((uH hS).all hb);have Q3:=hide (show BitsAt w3 lo lc (mxL LL)∧BitsAt w3 ro rc (mxL LR) from ⟨(uH hQ).1.below hb,(uH hQ).2.below hb⟩)
       clear hb G hS hQ
       go_wp2_with fail
       go_round
       case rel=>exact ⟨k+1,by omega,by go_num,S3,Q3⟩
       case measure=>simp [intOf];omega
      ·have d1:decide ((k:Int) < (q:Int)) = false:=decide_eq_false (by omega)
       have d2:¬ ((k:Int) < (q:Int)):=by omega
       clear hd hq hkc
       go_wp2_with fail
       clear y0 y1 y2
       go_round
       case rel=>exact ⟨j+1,by omega,by go_num,hS,hQ⟩
       case measure=>simp [intOf];omega
    ·have d1:decide ((j:Int) < (t1:Int)) = false:=decide_eq_false (by omega)
     have d2:¬ ((j:Int) < (t1:Int)):=by omega
     go_wp2_with fail
     clear y0 y1 y2
     refine (uH KA _ (uH hS).bel).mono ?_
     rintro e w4 ⟨rfl,hb⟩
     have BE:=hide ((uH hS).bel.trans (hb.mono (uH hS).bel.size))
     clear hb
     go_wp2
     go_ret
     exact ⟨rfl,uH BE⟩
end Go.Proofs.YtenpggicmfhhdaaGreatDoor
namespace Go.Proofs.YtenpggicmfhhdaaGreatDoor
open Go.RowKit
theorem no_el {α:Prop} {i:Nat} (h:i < 0):α:=absurd h (Nat.not_lt_zero i)
theorem rqZeros_by (r c:Int) (ao:Option Addr) (cap:Nat) (I:List Int) (w:World) (hI:BitsAt w ao cap I)
  (LE:∀ w' po pc,Below w.heap.size w w'→BitsAt w' po pc I→ckE r c I ≠ 0→Calls Tryz.prog 12 #[.agg #[.int .i64 r,.int .i64 c,.slice po I.length pc]] w' fun e w''=>∃ v u,e = .returned (.tuple #[v,u,.int .i64 (ckE r c I)])∧NewM 0 w'' 0 0 [] v∧NewM 0 w'' 0 0 [] u∧Below w'.heap.size w' w'')
  (LN:∀ w' ao cap (r c:Nat) S,Below w.heap.size w w'→Mx w' ao cap r c S→finL S = true→lqK r c S = false→Calls Tryz.prog 12 #[.agg #[.int .i64 r,.int .i64 c,.slice ao S.length cap]] w' fun e w''=>∃ v u,e = .returned (.tuple #[v,u,.int .i64 2])∧NewM 0 w'' 0 0 [] v∧NewM 0 w'' 0 0 [] u∧Below w'.heap.size w' w'')
  (LY:∀ w' ao cap (r c:Nat) S,Below w.heap.size w w'→Mx w' ao cap r c S→finL S = true→lqK r c S = true→Calls Tryz.prog 12 #[.agg #[.int .i64 r,.int .i64 c,.slice ao S.length cap]] w' fun e w''=>∃ v u,e = .returned (.tuple #[v,u,.int .i64 0])∧NewM 0 w'' r c (lqL r c S) v∧NewM 0 w'' c c (lqQ r c S) u∧Below w'.heap.size w' w'')
  (RF:∀ w' po pc,Below w.heap.size w w'→BitsAt w' po pc I→okB r c I.length = false→Calls Tryz.prog 13 #[.agg #[.int .i64 r,.int .i64 c,.slice po I.length pc]] w' fun e w''=>∃ v u,e = .returned (.tuple #[v,u,.int .i64 1])∧NewM 0 w'' 0 0 [] v∧NewM 0 w'' 0 0 [] u∧Below w'.heap.size w' w'')
  (RS:∀ w' ao cap (r c:Nat) S,Below w.heap.size w w'→Mx w' ao cap r c S→c < r→Calls Tryz.prog 13 #[.agg #[.int .i64 r,.int .i64 c,.slice ao S.length cap]] w' fun e w''=>∃ v u,e = .returned (.tuple #[v,u,.int .i64 3])∧NewM 0 w'' 0 0 [] v∧NewM 0 w'' 0 0 [] u∧Below w'.heap.size w' w'')
  (RI:∀ w' ao cap (r c:Nat) S,Below w.heap.size w w'→Mx w' ao cap r c S→r≤c→finL S = false→Calls Tryz.prog 13 #[.agg #[.int .i64 r,.int .i64 c,.slice ao S.length cap]] w' fun e w''=>∃ v u,e = .returned (.tuple #[v,u,.int .i64 4])∧NewM 0 w'' 0 0 [] v∧NewM 0 w'' 0 0 [] u∧Below w'.heap.size w' w'')
  (RN:∀ w' ao cap (r c:Nat) S,Below w.heap.size w w'→Mx w' ao cap r c S→r≤c→finL S = true→rqK r c S = false→Calls Tryz.prog 13 #[.agg #[.int .i64 r,.int .i64 c,.slice ao S.length cap]] w' fun e w''=>∃ v u,e = .returned (.tuple #[v,u,.int .i64 2])∧NewM 0 w'' 0 0 [] v∧NewM 0 w'' 0 0 [] u∧Below w'.heap.size w' w'')
  (RY:∀ w' ao cap (r c:Nat) S,Below w.heap.size w w'→Mx w' ao cap r c S→r≤c→finL S = true→rqK r c S = true→Calls Tryz.prog 13 #[.agg #[.int .i64 r,.int .i64 c,.slice ao S.length cap]] w' fun e w''=>∃ v u,e = .returned (.tuple #[v,u,.int .i64 0])∧NewM 0 w'' r c (rqR r c S) v∧NewM 0 w'' c c (rqQ r c S) u∧Below w'.heap.size w' w'') :
  Calls Tryz.prog 5 #[.agg #[.int .i64 r,.int .i64 c,.slice ao I.length cap]] w fun e w'=>e = .returned (.bool true)∧Below w.heap.size w w':=by
 have CA:=rq_awake w RY
 have e1:=natL_len I
 have hLq:∃ (p1 p2 p3 p4:Nat) (LL LP:List Nat) (x1:Int),(∀ w',Below w.heap.size w w'→Calls Tryz.prog 12 #[.agg #[.int .i64 r,.int .i64 c,.slice ao I.length cap]] w' fun e w''=>∃ v u,e = .returned (.tuple #[v,u,.int .i64 x1])∧NewM 0 w'' p1 p2 LL v∧NewM 0 w'' p3 p4 LP u∧Below w'.heap.size w' w'')∧p1≤6∧p2≤6∧(x1 = 0 ∨ p1 = 0)∧LL.length = p1 * p2∧(∀ i k,i < p1→k < p2→i < k→elM p2 LL i k = 0):=by
  by_cases h0:ckE r c I = 0
  ·obtain ⟨ho,hf⟩:=ckE_zero h0
   obtain ⟨p,q,rfl,rfl,hM,hS⟩:=Mx.of hI ho
   have hfin:finL (natL I) = true:=by
    unfold finL
    rw [mxL_natL hI,e1]
    exact hf
   cases hk:lqK p q (natL I)
   ·refine ⟨0,0,0,0,[],[],2,fun w' hb=>?_,by omega,by omega,.inr rfl,rfl,fun i k h=>no_el h⟩
    have:=LN w' ao cap p q (natL I) hb (hM.below hb) hfin hk
    rw [e1] at this
    exact this
   ·refine ⟨p,q,q,q,lqL p q (natL I),lqQ p q (natL I),0,fun w' hb=>?_,hM.2.2.1,hM.2.2.2,.inl rfl,lqL_len _ _ _,fun i k h1 h2 h3=>lqL_zero p q _ h1 h2 h3⟩
    have:=LY w' ao cap p q (natL I) hb (hM.below hb) hfin hk
    rw [e1] at this
    exact this
  ·exact ⟨0,0,0,0,[],[],_,fun w' hb=>LE w' ao cap hb (hI.below hb) h0,by omega,by omega,.inr rfl,rfl,fun i k h=>no_el h⟩
 have hRq:∃ (p1 p2 p3 p4:Nat) (LL LP:List Nat) (x1:Int),(∀ w',Below w.heap.size w w'→Calls Tryz.prog 13 #[.agg #[.int .i64 r,.int .i64 c,.slice ao I.length cap]] w' fun e w''=>∃ v u,e = .returned (.tuple #[v,u,.int .i64 x1])∧NewM 0 w'' p1 p2 LL v∧NewM 0 w'' p3 p4 LP u∧Below w'.heap.size w' w'')∧p1≤6∧p2≤6∧p1≤p2∧(x1 = 0 ∨ p1 = 0)∧LL.length = p1 * p2∧(∀ i k,i < p1→k+p1 < p2+i→elM p2 LL i k = 0):=by
  cases ho:okB r c I.length
  ·exact ⟨0,0,0,0,[],[],1,fun w' hb=>RF w' ao cap hb (hI.below hb) ho,by omega,by omega,by omega,.inr rfl,rfl,fun i k h=>no_el h⟩
  ·obtain ⟨p,q,rfl,rfl,hM,hS⟩:=Mx.of hI ho
   rcases Nat.lt_or_ge q p with hqp | hqp
   ·refine ⟨0,0,0,0,[],[],3,fun w' hb=>?_,by omega,by omega,by omega,.inr rfl,rfl,fun i k h=>no_el h⟩
    have:=RS w' ao cap p q (natL I) hb (hM.below hb) hqp
    rw [e1] at this
    exact this
   ·cases hfin:finL (natL I)
    ·refine ⟨0,0,0,0,[],[],4,fun w' hb=>?_,by omega,by omega,by omega,.inr rfl,rfl,fun i k h=>no_el h⟩
     have:=RI w' ao cap p q (natL I) hb (hM.below hb) hqp hfin
     rw [e1] at this
     exact this
    ·cases hk:rqK p q (natL I)
     ·refine ⟨0,0,0,0,[],[],2,fun w' hb=>?_,by omega,by omega,by omega,.inr rfl,rfl,fun i k h=>no_el h⟩
      have:=RN w' ao cap p q (natL I) hb (hM.below hb) hqp hfin hk
      rw [e1] at this
      exact this
     ·refine ⟨p,q,q,q,rqR p q (natL I),rqQ p q (natL I),0,fun w' hb=>?_,hM.2.2.1,hM.2.2.2,hqp,.inl rfl,lf_len _ _ _,fun i k h1 h2=>rqR_zero p q _ h1 h2⟩
      have:=RY w' ao cap p q (natL I) hb (hM.below hb) hqp hfin hk
      rw [e1] at this
      exact this
 obtain ⟨p1,p2,p3,p4,LL,LP,x1,CL,a1,a2,a3,a4,a5⟩:=hLq
 obtain ⟨t1,t2,t3,t4,LR,LQ,x2,CR,b1,b2,b3,b4,b5,b6⟩:=hRq
 exact rqZeros_of r c ao I.length cap p1 p2 p3 p4 t1 t2 t3 t4 LL LP LR LQ x1 x2 w a1 a2 b1 b2 b3 a3 b4 a4 b5 a5 b6 CL CR CA
end Go.Proofs.YtenpggicmfhhdaaGreatDoor
namespace Go.Proofs.YtenpggicmfhhdaaGreatDoor
open Go.RowKit
theorem two_any {f:Nat} {a:Array Value} {w:World} {er:Int} {r c p q:Nat} {S T:List Nat}
  (h:Calls Tryz.prog f a w fun e w'=>∃ v u,e = .returned (.tuple #[v,u,.int .i64 er])∧NewM w.heap.size w' r c S v∧NewM w.heap.size w' p q T u∧Below w.heap.size w w') :
  Calls Tryz.prog f a w fun e w'=>∃ v u,e = .returned (.tuple #[v,u,.int .i64 er])∧NewM 0 w' r c S v∧NewM 0 w' p q T u∧Below w.heap.size w w':=by
 refine h.mono ?_
 rintro e w' ⟨v,u,he,h1,h2,hb⟩
 exact ⟨v,u,he,h1.least (Nat.zero_le _),h2.least (Nat.zero_le _),hb⟩
theorem turned_ck (r c cap:Nat) (ao:Option Addr) (S:List Nat) (w:World) (h:Mx w ao cap c r (tuM r c S)) (hl:S.length = r * c) (hf:finL S = false):ckE (c:Int) (r:Int) (mxL (tuM r c S)) = 4:=by
 have hf2:fnK (mxL (tuM r c S)) (tuM r c S).length = false:=by have:=tu_fin_iff r c S hl;rw [hf] at this;exact this
 unfold ckE
 rw [mxL_len,mx_ok h,hf2]
 rfl
theorem lq_inf (r c cap:Nat) (ao:Option Addr) (S:List Nat) (w:World) (h:Mx w ao cap r c S) (hf:finL S = false) :
  Calls Tryz.prog 12 #[.agg #[.int .i64 r,.int .i64 c,.slice ao S.length cap]] w fun e w'=>∃ v u,e = .returned (.tuple #[v,u,.int .i64 4])∧NewM w.heap.size w' 0 0 [] v∧NewM w.heap.size w' 0 0 [] u∧Below w.heap.size w w':=by
 refine lq_err r c S.length cap (tuM r c S).length ao (tuM r c S) 4 w (.inl rfl) rfl (fun w' hb=>mTurn_ok r c cap ao S w' (h.below hb)) (fun w' po pc hb hx=>?_)
 have hM:Mx w' po pc c r (tuM r c S):=⟨hx,tu_len _ _ _,h.2.2.2,h.2.2.1⟩
 have hck:=turned_ck r c pc po S w' hM h.2.1 hf
 have:=qFactor_err (c:Int) (r:Int) po pc (mxL (tuM r c S)) w' hx (by have:=hM.small;rw [mxL_len];omega) (by rw [hck];decide)
 rw [mxL_len,hck] at this
 exact this
theorem lq_le (r c:Int) (ao:Option Addr) (cap:Nat) (I:List Int) (w:World) (hI:BitsAt w ao cap I) (hl:I.length≤17592186043904) (h:ckE r c I ≠ 0) :
  Calls Tryz.prog 12 #[.agg #[.int .i64 r,.int .i64 c,.slice ao I.length cap]] w fun e w'=>∃ v u,e = .returned (.tuple #[v,u,.int .i64 (ckE r c I)])∧NewM w.heap.size w' 0 0 [] v∧NewM w.heap.size w' 0 0 [] u∧Below w.heap.size w w':=by
 cases ho:okB r c I.length
 ·have hg:ckE r c I = 1:=by unfold ckE;rw [ho];rfl
  rw [hg]
  exact lq_form r c ao I.length cap w (fun w' hb=>mturn_no r c ao I.length cap w' (by omega) ho)
 ·cases hf:fnK I I.length
  ·obtain ⟨p,q,rfl,rfl,hM,hS⟩:=Mx.of hI ho
   have hg:ckE (p:Int) (q:Int) I = 4:=by unfold ckE;rw [ho,hf];rfl
   have hfin:finL (natL I) = false:=by
    unfold finL
    rw [mxL_natL hI,natL_len]
    exact hf
   rw [hg]
   have:=lq_inf p q cap ao (natL I) w hM hfin
   rw [natL_len] at this
   exact this
  ·exact absurd (by unfold ckE;rw [ho,hf];rfl) h
theorem lq_no (r c cap:Nat) (ao:Option Addr) (S:List Nat) (w:World) (h:Mx w ao cap r c S) (hf:finL S = true) (hk:lqK r c S = false) (hT:Tab w) :
  Calls Tryz.prog 12 #[.agg #[.int .i64 r,.int .i64 c,.slice ao S.length cap]] w fun e w'=>∃ v u,e = .returned (.tuple #[v,u,.int .i64 2])∧NewM w.heap.size w' 0 0 [] v∧NewM w.heap.size w' 0 0 [] u∧Below w.heap.size w w' :=
 lq_err r c S.length cap (tuM r c S).length ao (tuM r c S) 2 w (.inr rfl) rfl (fun w' hb=>mTurn_ok r c cap ao S w' (h.below hb)) (fun w' po pc hb hx=>qFactor_no c r pc po (tuM r c S) w' ⟨hx,tu_len _ _ _,h.2.2.2,h.2.2.1⟩ ((tu_fin_iff r c S h.2.1).trans hf) hk (hT.all hb))
theorem lq_yes (r c cap:Nat) (ao:Option Addr) (S:List Nat) (w:World) (h:Mx w ao cap r c S) (hf:finL S = true) (hk:lqK r c S = true) (hT:Tab w) :
  Calls Tryz.prog 12 #[.agg #[.int .i64 r,.int .i64 c,.slice ao S.length cap]] w fun e w'=>∃ v u,e = .returned (.tuple #[v,u,.int .i64 0])∧NewM w.heap.size w' r c (lqL r c S) v∧NewM w.heap.size w' c c (lqQ r c S) u∧Below w.heap.size w w' :=
 lq_of r c S.length cap _ _ _ _ _ ao (tuM r c S) (facQ c r (tuM r c S)) (facR c r (tuM r c S)) (lqL r c S) (lqQ r c S) w rfl rfl rfl rfl rfl (fun w' hb=>mTurn_ok r c cap ao S w' (h.below hb))
  (fun w' po pc hb hx=>qFactor_yes c r pc po (tuM r c S) w' ⟨hx,tu_len _ _ _,h.2.2.2,h.2.2.1⟩ ((tu_fin_iff r c S h.2.1).trans hf) hk (hT.all hb))
  (fun w' po pc hx=>mTurn_ok c r pc po (facR c r (tuM r c S)) w' ⟨hx,qrR_len c r _ (tu_len _ _ _) _,h.2.2.2,h.2.2.1⟩)
  (fun w' po pc hx=>mTurn_ok c c pc po (facQ c r (tuM r c S)) w' ⟨hx,qrQ_len _ _ _ _ _,h.2.2.2,h.2.2.2⟩)
theorem rq_ck (r c:Int) (ao:Option Addr) (n cap:Nat) (w:World) (hn:n≤35184372088830) (h:okB r c n = false) :
  Calls Tryz.prog 13 #[.agg #[.int .i64 r,.int .i64 c,.slice ao n cap]] w fun e w'=>∃ v u,e = .returned (.tuple #[v,u,.int .i64 1])∧NewM w.heap.size w' 0 0 [] v∧NewM w.heap.size w' 0 0 [] u∧Below w.heap.size w w':=by
 refine rq_form r c ao n cap w (fun w' hb=>?_)
 have:=mcheck_any r c ao n cap w' hn
 rw [h,if_neg (by decide)] at this
 exact this
theorem mx_check (r c cap:Nat) (ao:Option Addr) (S:List Nat) (w:World) (h:Mx w ao cap r c S) :
  Calls Tryz.prog 19 #[.agg #[.int .i64 r,.int .i64 c,.slice ao S.length cap]] w fun e w'=>e = .returned (.int .i64 0)∧Below w.heap.size w w':=by
 have:=mcheck_any r c ao S.length cap w (by have:=h.small;omega)
 rw [mx_ok h,if_pos (Eq.refl true)] at this
 exact this
theorem rq_wide (r c cap:Nat) (ao:Option Addr) (S:List Nat) (w:World) (h:Mx w ao cap r c S) (hlt:c < r) :
  Calls Tryz.prog 13 #[.agg #[.int .i64 r,.int .i64 c,.slice ao S.length cap]] w fun e w'=>∃ v u,e = .returned (.tuple #[v,u,.int .i64 3])∧NewM w.heap.size w' 0 0 [] v∧NewM w.heap.size w' 0 0 [] u∧Below w.heap.size w w' :=
 rq_shape r c S.length cap ao w hlt (fun w' hb=>mx_check r c cap ao S w' (h.below hb))
theorem rq_inf (r c cap:Nat) (ao:Option Addr) (S:List Nat) (w:World) (h:Mx w ao cap r c S) (hle:r≤c) (hf:finL S = false) :
  Calls Tryz.prog 13 #[.agg #[.int .i64 r,.int .i64 c,.slice ao S.length cap]] w fun e w'=>∃ v u,e = .returned (.tuple #[v,u,.int .i64 4])∧NewM w.heap.size w' 0 0 [] v∧NewM w.heap.size w' 0 0 [] u∧Below w.heap.size w w' :=
 rq_err r c S.length cap _ ao (dnM r c S) 4 w (.inl rfl) hle rfl (fun w' hb=>mx_check r c cap ao S w' (h.below hb)) (fun w' hb=>flip_any r c cap ao true false S w' (h.below hb))
  (fun w' po pc _ hx=>lq_inf r c pc po (dnM r c S) w' ⟨hx,dn_len _ _ _,h.2.2.1,h.2.2.2⟩ ((dn_fin_iff r c S h.2.1).trans hf))
theorem rq_no (r c cap:Nat) (ao:Option Addr) (S:List Nat) (w:World) (h:Mx w ao cap r c S) (hle:r≤c) (hf:finL S = true) (hk:rqK r c S = false) (hT:Tab w) :
  Calls Tryz.prog 13 #[.agg #[.int .i64 r,.int .i64 c,.slice ao S.length cap]] w fun e w'=>∃ v u,e = .returned (.tuple #[v,u,.int .i64 2])∧NewM w.heap.size w' 0 0 [] v∧NewM w.heap.size w' 0 0 [] u∧Below w.heap.size w w' :=
 rq_err r c S.length cap _ ao (dnM r c S) 2 w (.inr rfl) hle rfl (fun w' hb=>mx_check r c cap ao S w' (h.below hb)) (fun w' hb=>flip_any r c cap ao true false S w' (h.below hb))
  (fun w' po pc hb hx=>lq_no r c pc po (dnM r c S) w' ⟨hx,dn_len _ _ _,h.2.2.1,h.2.2.2⟩ ((dn_fin_iff r c S h.2.1).trans hf) hk (hT.all hb))
theorem rq_yes (r c cap:Nat) (ao:Option Addr) (S:List Nat) (w:World) (h:Mx w ao cap r c S) (hle:r≤c) (hf:finL S = true) (hk:rqK r c S = true) (hT:Tab w) :
  Calls Tryz.prog 13 #[.agg #[.int .i64 r,.int .i64 c,.slice ao S.length cap]] w fun e w'=>∃ v u,e = .returned (.tuple #[v,u,.int .i64 0])∧NewM w.heap.size w' r c (rqR r c S) v∧NewM w.heap.size w' c c (rqQ r c S) u∧Below w.heap.size w w' :=
 rq_of r c S.length cap _ _ _ _ _ ao (dnM r c S) (lqL r c (dnM r c S)) (lqQ r c (dnM r c S)) (rqR r c S) (rqQ r c S) w hle rfl rfl rfl rfl rfl (fun w' hb=>mx_check r c cap ao S w' (h.below hb)) (fun w' hb=>flip_any r c cap ao true false S w' (h.below hb))
  (fun w' po pc hb hx=>lq_yes r c pc po (dnM r c S) w' ⟨hx,dn_len _ _ _,h.2.2.1,h.2.2.2⟩ ((dn_fin_iff r c S h.2.1).trans hf) hk (hT.all hb))
  (fun w' po pc hx=>flip_any r c pc po true true (lqL r c (dnM r c S)) w' ⟨hx,lqL_len _ _ _,h.2.2.1,h.2.2.2⟩)
  (fun w' po pc hx=>flip_any c c pc po true false (lqQ r c (dnM r c S)) w' ⟨hx,tu_len _ _ _,h.2.2.2,h.2.2.2⟩)
theorem rqZeros_walk (r c:Int) (ao:Option Addr) (cap:Nat) (I:List Int) (w:World) (hI:BitsAt w ao cap I) (hl:I.length≤17592186043904) (_hr:-9223372036854775808≤r∧r≤9223372036854775807) (_hc:-9223372036854775808≤c∧c≤9223372036854775807) (hT:Tab w) :
  Calls Tryz.prog 5 #[.agg #[.int .i64 r,.int .i64 c,.slice ao I.length cap]] w fun e w'=>e = .returned (.bool true)∧Below w.heap.size w w' :=
 rqZeros_by r c ao cap I w hI (fun w' po pc _ hx h=>two_any (lq_le r c po pc I w' hx hl h)) (fun w' ao cap r c S hb h hf hk=>two_any (lq_no r c cap ao S w' h hf hk (hT.all hb))) (fun w' ao cap r c S hb h hf hk=>two_any (lq_yes r c cap ao S w' h hf hk (hT.all hb)))
  (fun w' po pc _ _ h=>two_any (rq_ck r c po I.length pc w' (by omega) h)) (fun w' ao cap r c S _ h hlt=>two_any (rq_wide r c cap ao S w' h hlt)) (fun w' ao cap r c S _ h hle hf=>two_any (rq_inf r c cap ao S w' h hle hf)) (fun w' ao cap r c S hb h hle hf hk=>two_any (rq_no r c cap ao S w' h hle hf hk (hT.all hb))) (fun w' ao cap r c S hb h hle hf hk=>two_any (rq_yes r c cap ao S w' h hle hf hk (hT.all hb)))
end Go.Proofs.YtenpggicmfhhdaaGreatDoor
