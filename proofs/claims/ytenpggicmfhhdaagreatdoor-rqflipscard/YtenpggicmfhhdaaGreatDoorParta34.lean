/- Part 34 of the texts. -/
import Derived.Test.YtenpggicmfhhdaaGreatDoorParta33
import Derived.Test.YtenpggicmfhhdaaGreatDoorParta30
import Derived.Deep.LoopGhost
import Derived.WalkMore
import Derived.Test.YtenpggicmfhhdaaGreatDoorParta26
import Derived.Test.YtenpggicmfhhdaaGreatDoorParta29
import Derived.Test.YtenpggicmfhhdaaGreatDoorParta25
import Derived.Test.YtenpggicmfhhdaaGreatDoorParta32
import Derived.Test.YtenpggicmfhhdaaGreatDoorParta31
set_option maxHeartbeats 32000000
set_option maxRecDepth 20000
namespace Go.Proofs.YtenpggicmfhhdaaGreatDoor
open Go.RowKit
attribute [local go_sem ↓] Go.wp_at_zero Go.wp_at_succ
theorem BoxM.three14 {w:World} {b g:Nat} {x y z:Value} (h:BoxM w b x y z) (hg:b ≠ g) (u u' u'':Value):BoxM (((w.setCell ⟨g,0,none⟩ u).setCell ⟨g,1,none⟩ u').setCell ⟨g,2,none⟩ u'') b x y z :=
 ((h.other (p:=⟨g,0,none⟩) hg _).other (p:=⟨g,1,none⟩) hg _).other (p:=⟨g,2,none⟩) hg _
structure TrSt (w wr:World) (h r c n cap:Nat) (ao:Option Addr) (S:List Nat) (ro:Option Addr) (rc:Nat) (v:Value) (R:List Mr):Prop where
 bel:Below w.heap.size w wr
 hh:w.heap.size+1+1≤h
 a:BoxM wr w.heap.size (.int .i64 r) (.int .i64 c) (.slice ao n cap)
 res:BoxM wr (w.heap.size+1) (.int .i64 0) (.int .i64 0) (.slice none 0 0)
 rb:BoxM wr h (.int .i64 r) (.int .i64 c) (.slice ro n rc)
 bits:BitsAt wr ro rc (mxL S)
 new:NewB w.heap.size ro (mxL S)
 len:S.length = n
 l:OwnMt (w.heap.size+1+1) wr v R
 off:OffB v.ownBlock ro (mxL S)
theorem TrSt.all {w wr w':World} {h r c n cap:Nat} {ao:Option Addr} {S:List Nat} {ro:Option Addr} {rc:Nat} {v:Value} {R:List Mr} (t:TrSt w wr h r c n cap ao S ro rc v R) (hb:Below wr.heap.size wr w'):TrSt w w' h r c n cap ao S ro rc v R :=
 ⟨t.bel.trans (hb.mono t.bel.size),t.hh,t.a.all hb,t.res.all hb,t.rb.all hb,t.bits.below hb,t.new,t.len,t.l.below hb,t.off⟩
theorem TrSt.start {w w1:World} {r c n cap:Nat} {ao:Option Addr} {S:List Nat} {ro:Option Addr} {rc:Nat} (hB:Below w.heap.size w w1) (hA:BoxM w1 w.heap.size (.int .i64 r) (.int .i64 c) (.slice ao n cap)) (hR:BoxM w1 (w.heap.size+1) (.int .i64 0) (.int .i64 0) (.slice none 0 0)) (hS:BitsAt w1 ro rc (mxL S)) (hN:NewB w.heap.size ro (mxL S)) (hl:S.length = n) :
  TrSt w (w1.alloc (.cells #[.int .i64 r,.int .i64 c,.slice ro n rc] 24)) w1.heap.size r c n cap ao S ro rc (.slice none 0 0) []:=by
 have b:=below_alloc9 w1 (.cells #[.int .i64 r,.int .i64 c,.slice ro n rc] 24)
 exact ⟨hB.trans (b.mono hB.size),hR.lt,hA.all b,hR.all b,BoxM.new w1 _ _ _,hS.below b,hN,hl,OwnMt.start _ _,OffB.old hS (fun k hk=>by simp [Value.ownBlock] at hk)⟩
structure TsSt (w wr:World) (h r c n cap:Nat) (ao:Option Addr) (S:List Nat) (g:Nat) (v:Value) (R:List Mr):Prop where
 st:TrSt w wr h r c n cap ao S (some ⟨g,0,none⟩) n v R
 row:RowB wr g S
 hg:w.heap.size+1+1≤g
 ne:h ≠ g
 nv:v.ownBlock ≠ some g
 av:∀ x ∈ R,AvM (some g) x
theorem TrSt.applied {w wr w':World} {h r c n cap:Nat} {ao:Option Addr} {S U:List Nat} {ro:Option Addr} {rc g:Nat} {v:Value} {R:List Mr} (t:TrSt w wr h r c n cap ao S ro rc v R) (hb:Below wr.heap.size wr w') (hg:wr.heap.size≤g) (hU:RowB w' g U) (hf:∀ x ∈ U,x < 18446744073709551616) (hl:U.length = n) :
  TsSt w (((w'.setCell ⟨h,0,none⟩ (.int .i64 r)).setCell ⟨h,1,none⟩ (.int .i64 c)).setCell ⟨h,2,none⟩ (.slice (some ⟨g,0,none⟩) n n)) h r c n cap ao U g v R:=by
 have t2:=t.all hb
 have hlt:=t.rb.lt
 have hh:=t.hh
 have n0:w.heap.size ≠ h:=by omega
 have n1:w.heap.size+1 ≠ h:=by omega
 have ng:g ≠ h:=by omega
 have hbits:=hU.bits hf
 rw [hl] at hbits
 obtain ⟨nv,av⟩:=t.l.away hg
 have q:BitsAt w' (some ⟨g,0,none⟩) n (mxL U):=hbits
 refine ⟨⟨below_putM t2.bel (by omega) _ _ _,hh,t2.a.three14 n0 _ _ _,t2.res.three14 n1 _ _ _,t2.rb.put _ _ _,q.putM t2.rb _ _ _,.inr ⟨g,0,rfl,by omega⟩,hl,t2.l.putQ t2.rb _ _ _,?_⟩,hU.three ng _ _ _,by omega,by omega,nv,av⟩
 exact .inr ⟨g,0,rfl,fun e=>nv e.symm⟩
theorem TsSt.settled {w wr w':World} {h r c n cap:Nat} {ao:Option Addr} {S U:List Nat} {g:Nat} {v:Value} {R:List Mr} (t:TsSt w wr h r c n cap ao S g v R) (hb:wr.grownBy w' (some g)) (hU:RowB w' g U) (hf:∀ x ∈ U,x < 18446744073709551616) (hl:U.length = n) :
  TrSt w w' h r c n cap ao U (some ⟨g,0,none⟩) n v R:=by
 have hg:=t.hg
 have hne:=t.ne
 have hbits:=hU.bits hf
 rw [hl] at hbits
 refine ⟨t.st.bel.grown hb t.st.bel.size (fun k hk=>by cases hk;omega),t.st.hh,t.st.a.grown hb (by intro e;cases e;omega),t.st.res.grown hb (by intro e;cases e;omega),t.st.rb.grown hb (by intro e;cases e;exact hne rfl),hbits,.inr ⟨g,0,rfl,by omega⟩,hl,t.st.l.grown t.nv t.av hb,.inr ⟨g,0,rfl,fun e=>t.nv e.symm⟩⟩
theorem TrSt.push {w wr:World} {h r c n cap:Nat} {ao:Option Addr} {S:List Nat} {ro:Option Addr} {rc:Nat} {v:Value} {R:List Mr} (t:TrSt w wr h r c n cap ao S ro rc v R) (x:Mr) (hx:BitsAt wr x.ao x.cap (mxL x.V)) (ha:OffB v.ownBlock x.ao (mxL x.V)) (hl:R.length≤1000000) (hv:v.ownBlock ≠ some h) (ty:TypeId) :
  ∃ v' w',(Builtin.append_ #[52,52] ty #[v,.slice (some ⟨wr.heap.size,0,none⟩) 1 1]).run Tryz.prog (wr.alloc (.cells #[.slice x.ao x.V.length x.cap,.int .u64 (x.tau:Nat)] 77)) = .ok v' w'∧TrSt w w' h r c n cap ao S ro rc v' (R ++ [x])∧v'.ownBlock ≠ some h:=by
 have hlt:=t.rb.lt
 have hh:=t.hh
 obtain ⟨v',w',e1,e2,e3,e4,e5⟩:=t.l.push x hx (by
  rcases ha with e | e
  ·exact .inl (by cases hV:x.V with
    | nil=>rfl
    | cons y ys=>rw [hV] at e;cases e)
  ·exact .inr e) hl (by omega) ty
 have b1:=below_alloc9 wr (.cells #[.slice x.ao x.V.length x.cap,.int .u64 (x.tau:Nat)] 77)
 have t1:=t.all b1
 refine ⟨v',w',e1,⟨t.bel.trans (e3.mono (by omega)),hh,t.a.below e3 (by omega),t.res.below e3 (by omega),t1.rb.grown e4 hv,bits_grownOff t1.bits t.off e4,t.new,t.len,e2,?_⟩,?_⟩
 ·rcases e5 with e | e
  ·rw [e];exact t.off
  ·rw [e]
   rcases t.bits.2.2 with z | ⟨b,off,z1,z2,_⟩
   ·exact .inl z
   ·exact .inr ⟨b,off,z1,fun z=>by cases z;omega⟩
 ·rcases e5 with e | e
  ·rw [e];exact hv
  ·rw [e];intro z;cases z;omega
theorem mrAt_snoc2 (R:List Mr) (x:Mr):∀ k,k < R.length+1→mrAt (R ++ [x]) k = if k < R.length then mrAt R k else x:=by
 intro k hk
 unfold mrAt
 by_cases g:k < R.length
 ·rw [if_pos g,List.getElem?_append_left g]
 ·rw [if_neg g,show k = R.length by omega,List.getElem?_append_right (Nat.le_refl _)]
  simp
def TriAns (w w':World) (ok:Bool) (r c n K:Nat) (S:List Nat) (V:Nat→List Nat) (tau:Nat→Nat) (e:Ending):Prop :=
 (ok = true∧∃ ro rc v R,e = .returned (.tuple #[.agg #[.int .i64 r,.int .i64 c,.slice ro n rc],v,.int .i64 0])∧NewB w.heap.size ro (mxL S)∧BitsAt w' ro rc (mxL S)∧OwnMt (w.heap.size+1+1) w' v R∧R.length = K∧∀ k,k < K→(mrAt R k).V = V k∧(mrAt R k).tau = tau k) ∨
 (ok = false∧e = .returned (.tuple #[.agg #[.int .i64 0,.int .i64 0,.slice none 0 0],.slice none 0 0,.int .i64 2]))
theorem triangle_of (r c n cap K:Nat) (m:Int) (ao:Option Addr) (RJ AP X V:Nat→List Nat) (tau beta:Nat→Nat) (o:Nat→Bool) (ok:Bool) (w:World) (hr:r≤6) (hc:c≤6) (hm:m = min (c:Int) ((r:Int) - 1)) (hK:∀ j:Nat,j < K ↔ (j:Int) < m)
  (lR:∀ j,(RJ j).length = n) (lA:∀ j,(AP j).length = n) (lV:∀ j,(V j).length = r - j) (hf:∀ j,j < K→∀ x ∈ RJ (j+1),x < 18446744073709551616) (hfa:∀ j,j < K→∀ x ∈ AP j,x < 18446744073709551616)
  (hok:ok = true ↔ ∀ j,j < K→o j = true)
  (C1:∀ w',Below w.heap.size w w'→Calls Tryz.prog 50 #[.agg #[.int .i64 r,.int .i64 c,.slice ao n cap],.int .i64 0,.int .i64 0,.int .i64 r,.int .i64 c] w' fun e w''=>∃ po pc,e = .returned (.tuple #[.agg #[.int .i64 r,.int .i64 c,.slice po n pc],.int .i64 0])∧NewB w'.heap.size po (mxL (RJ 0))∧BitsAt w'' po pc (mxL (RJ 0))∧Below w'.heap.size w' w'')
  (C2:∀ w' j po pc,j < K→BitsAt w' po pc (mxL (RJ j))→Calls Tryz.prog 50 #[.agg #[.int .i64 r,.int .i64 c,.slice po n pc],.int .i64 (j:Nat),.int .i64 (j:Nat),.int .i64 ((r - j:Nat):Int),.int .i64 1] w' fun e w''=>∃ bo d,e = .returned (.tuple #[.agg #[.int .i64 ((r - j:Nat):Int),.int .i64 1,.slice bo (r - j) d],.int .i64 0])∧BitsAt w'' bo d (mxL (X j))∧Below w'.heap.size w' w'')
  (C3:∀ w' j bo d,j < K→o j = true→Below w.heap.size w w'→BitsAt w' bo d (mxL (X j))→Calls Tryz.prog 51 #[.slice bo (r - j) d] w' fun e w''=>∃ vo vc,e = .returned (.tuple #[.slice vo (r - j) vc,.int .u64 (tau j:Nat),.int .u64 (beta j:Nat),.int .i64 0])∧NewB w'.heap.size vo (mxL (V j))∧BitsAt w'' vo vc (mxL (V j))∧Below w'.heap.size w' w'')
  (C4:∀ w' j bo d,j < K→o j = false→Below w.heap.size w w'→BitsAt w' bo d (mxL (X j))→Calls Tryz.prog 51 #[.slice bo (r - j) d] w' fun e w''=>∃ so cs er,e = .returned (.tuple #[.slice so 0 cs,.int .u64 0,.int .u64 0,.int .i64 er])∧(er = 2 ∨ er = 4)∧Below w'.heap.size w' w'')
  (C5:∀ w' j po pc vo vc,j < K→Below w.heap.size w w'→BitsAt w' po pc (mxL (RJ j))→BitsAt w' vo vc (mxL (V j))→Calls Tryz.prog 52 #[.agg #[.int .i64 r,.int .i64 c,.slice po n pc],.int .i64 (j:Nat),.int .i64 (j:Nat),.slice vo (r - j) vc,.int .u64 (tau j:Nat)] w' fun e w''=>∃ g,e = .returned (.tuple #[.agg #[.int .i64 r,.int .i64 c,.slice (some ⟨g,0,none⟩) n n],.int .i64 0])∧w'.heap.size≤g∧RowB w'' g (AP j)∧Below w'.heap.size w' w'')
  (C6:∀ w' j g,j < K→RowB w' g (AP j)→Calls Tryz.prog 53 #[.agg #[.int .i64 r,.int .i64 c,.slice (some ⟨g,0,none⟩) n n],.int .i64 (j:Nat),.int .u64 (beta j:Nat)] w' fun e w''=>e = .returned (.tuple #[])∧RowB w'' g (RJ (j+1))∧w'.grownBy w'' (some g)) :
  Calls Tryz.prog 35 #[.agg #[.int .i64 r,.int .i64 c,.slice ao n cap]] w fun e w'=>TriAns w w' ok r c n K (RJ K) V tau e∧Below w.heap.size w w':=by
 have hmin:∀ (W:World) ts t,(Builtin.min_ ts t #[.int .i64 (c:Int),.int .i64 ((r:Int) - 1)]).run Tryz.prog W = .ok (.int .i64 m) W:=fun W ts t=>by rw [hm];exact min2_run _ W ts t _ _
 have hw1:IntKind.i64.wrap ((r:Int) - 1) = (r:Int) - 1:=wrap_in _ (by omega)
 have hK6:K≤6:=by
  rcases Nat.lt_or_ge 6 K with g | g
  ·have:=(hK 6).1 g
   omega
  ·exact g
 have HKR:=hide (show ∀ j,j < K→j < r from fun j hj=>by have:=(hK j).1 hj;omega)
 have HK:=hide hK;have LR:=hide lR;have LA:=hide lA;have LV:=hide lV;have HF:=hide hf;have HFA:=hide hfa;have HOK:=hide hok
 have K1:=hide (C1 ((w.alloc (.cells #[.int .i64 r,.int .i64 c,.slice ao n cap] 24)).alloc (.cells #[.int .i64 0,.int .i64 0,.slice none 0 0] 24)) (by
  have b1:=below_alloc9 w (.cells #[.int .i64 r,.int .i64 c,.slice ao n cap] 24)
  have b2:=below_alloc9 (w.alloc (.cells #[.int .i64 r,.int .i64 c,.slice ao n cap] 24)) (.cells #[.int .i64 0,.int .i64 0,.slice none 0 0] 24)
  exact b1.trans (b2.mono b1.size)))
 simp only [size_alloc9] at K1
 have KB:=hide (boxes2 w (.int .i64 r) (.int .i64 c) (.slice ao n cap) (.int .i64 0) (.int .i64 0) (.slice none 0 0))
 have K2:=hide C2;have K3:=hide C3;have K4:=hide C4;have K5:=hide C5;have K6:=hide C6
 clear hm hK lR lA lV hf hfa hok C1 C2 C3 C4 C5 C6
 go_enter Tryz.func35,Tryz.ntmps35
 go_wp2_with fail
 refine (uH K1).mono ?_
 rintro e w1 ⟨po,pc,rfl,hn,hq,hb1⟩
 obtain ⟨hB,hA,hX⟩:=uH KB w1 hb1
 have ST:=hide (TrSt.start hB hA hX hq (hn.least (by omega)) (uH LR 0))
 have y0:=(uH ST).a.c0;have y1:=(uH ST).a.c1
 clear K1 KB hb1 hB hA hX hn hq
 go_wp2_with fail
 clear y0 y1 hmin hw1
 generalize w1.heap.size = h at *
 go_loopw [7,30] (fun v a wr=>∃ (j:Nat) (ro:Option Addr) (rc:Nat) (R:List Mr),j≤K∧a = .int .i64 j∧Hid (R.length = j)∧Hid (∀ k,k < j→(mrAt R k).V = V k∧(mrAt R k).tau = tau k)∧Hid (∀ k,k < j→o k = true)∧Hid (v.ownBlock ≠ some h)∧Hid (TrSt w wr h r c n cap ao (RJ j) ro rc v R)) (fun _ a _=>K - (intOf a).toNat)
 case atStart=>exact ⟨0,po,pc,[],Nat.zero_le _,rfl,rfl,fun k hk=>absurd hk (Nat.not_lt_zero k),fun k hk=>absurd hk (Nat.not_lt_zero k),hide (by simp [Value.ownBlock]),ST⟩
 case round =>
  clear ST
  obtain ⟨j,ro,rc,R,hjK,rfl,hRl,hRm,hO,hV,hS⟩:=hrel
  by_cases hlt:j < K
  ·have hjm:=(uH HK j).1 hlt
   have hjr:=uH HKR j hlt
   obtain ⟨L,hL⟩:∃ L,r - j = L:=⟨_,rfl⟩
   have eL:IntKind.i64.wrap ((r:Int) - (j:Int)) = (L:Int):=(wrap_in _ (by omega)).trans (by omega)
   have eL2:(r:Int) - (j:Int) = (L:Int):=by omega
   have G2:=hide (uH K2 wr j ro rc hlt (uH hS).bits)
   have G3:=hide (fun w' bo d ho=>uH K3 w' j bo d hlt ho)
   have G4:=hide (fun w' bo d ho=>uH K4 w' j bo d hlt ho)
   have G5:=hide (fun w' po pc vo vc=>uH K5 w' j po pc vo vc hlt)
   have G6:=hide (fun w' g=>uH K6 w' j g hlt)
   have LV1:=hide (uH LV j);have LA1:=hide (uH LA j);have LR1:=hide (uH LR (j+1));have HF1:=hide (uH HF j hlt);have HFA1:=hide (uH HFA j hlt)
   rw [hL] at G2 G3 G4 G5 LV1
   have q0:=(uH hS).rb.c0;have q1:=(uH hS).rb.c1;have q2:=(uH hS).rb.c2
   go_wp2_with fail
   clear q0 q1 q2
   refine (uH G2).mono ?_
   rintro e w2 ⟨bo,d,rfl,hx,hb⟩
   have ba:=below_alloc9 w2 (.cells #[.int .i64 (L:Int),.int .i64 1,.slice bo L d] 24)
   have S2:=hide (((uH hS).all hb).all ba)
   have HX:=hide (hx.below ba)
   clear hb hx ba hS G2
   go_wp2_with fail
   cases ho:o j with
   | false =>
    refine (uH G4 _ bo d ho (uH S2).bel (uH HX)).mono ?_
    rintro e w3 ⟨so,cs,er,rfl,her,hb⟩
    have S3:=(uH S2).all hb
    have hno:Hid (ok = false):=hide (by
     cases hk:ok with
     | false=>rfl
     | true=>exact absurd ((uH HOK).1 hk j hlt) (by rw [ho];decide))
    have s0:=S3.res.c0;have s1:=S3.res.c1;have s2:=S3.res.c2
    have f0:=S3.res.free 0;have f1:=S3.res.free 1;have f2:=S3.res.free 2
    have XP:=S3.res.put (.int .i64 0) (.int .i64 0) (.slice none 0 0)
    have z0:=XP.c0;have z1:=XP.c1;have z2:=XP.c2
    have BP:=hide (below_putM S3.bel (b:=w.heap.size+1) (by omega) (.int .i64 0) (.int .i64 0) (.slice none 0 0))
    clear XP S3 S2 hb HX G3 G4 G5 G6
    rcases her with rfl | rfl
    all_goals
     go_wp2_with fail
     exact bodyPost_ret (v:=.tuple #[.agg #[.int .i64 0,.int .i64 0,.slice none 0 0],.slice none 0 0,.int .i64 2]) (by simp [results,Tryz.results35,go_sem,z0,z1,z2]) rfl ⟨.inr ⟨uH hno,rfl⟩,uH BP⟩
   | true =>
    refine (uH G3 _ bo d ho (uH S2).bel (uH HX)).mono ?_
    rintro e w3 ⟨vo,vc,rfl,hn,hv,hb⟩
    have HOF:=hide (OffB.new hn (fun k hk=>((uH S2).l.1.lt k hk).2))
    have S3:=hide ((uH S2).all hb)
    have HV:=hide hv
    clear hn hv hb S2 HX G3 G4
    generalize hTJ:tau j = tj at *
    generalize hBJ:beta j = bj at *
    generalize hVJ:V j = vj at *
    generalize hAJ:AP j = aj at *
    generalize hNJ:RJ (j+1) = nj at *
    generalize hRJ:RJ j = rj at *
    have q0:=(uH S3).rb.c0;have q1:=(uH S3).rb.c1;have q2:=(uH S3).rb.c2
    go_wp2_with fail
    clear q0 q1 q2
    refine (uH G5 _ ro rc vo vc (uH S3).bel (uH S3).bits (uH HV)).mono ?_
    rintro e w4 ⟨g,rfl,hg,hrow,hb⟩
    have T4:=(uH S3).applied hb hg hrow (uH HFA1) (uH LA1)
    have S4:=(uH S3).all hb
    have V4:=hide (((uH HV).below hb).putM S4.rb (.int .i64 r) (.int .i64 c) (.slice (some ⟨g,0,none⟩) n n))
    have O4:=hide (OffB.old (uH HV) (g:=some g) (fun k hk=>by cases hk;exact hg))
    have q0:=S4.rb.c0;have q1:=S4.rb.c1;have q2:=S4.rb.c2
    have f0:=S4.rb.free 0;have f1:=S4.rb.free 1;have f2:=S4.rb.free 2
    have z0:=T4.st.rb.c0;have z1:=T4.st.rb.c1;have z2:=T4.st.rb.c2
    have P4:=hide T4
    clear T4 S4 hg hrow hb S3 HV G5
    go_wp2_with fail
    clear q0 q1 q2 f0 f1 f2 z0 z1 z2
    refine (uH G6 _ g (uH P4).row).mono ?_
    rintro e w5 ⟨rfl,hrow,hb⟩
    have S5:=(uH P4).settled hb hrow (uH HF1) (uH LR1)
    have V5:=bits_grownOff (uH V4) (uH O4) hb
    obtain ⟨v9,w9,run9,st9,nv9⟩:=S5.push ⟨vo,vc,vj,tj,0⟩ V5 (uH HOF) (by rw [uH hRl];omega) (uH hV) 52
    have RUN:=hide run9
    dsimp only at RUN
    rw [uH LV1] at RUN
    have P9:=hide st9;have N9:=hide nv9
    clear P4 S5 V5 V4 O4 hb hrow run9 st9 nv9 G6
    go_wp2_with (at_builtin;refine wpList_append_ran _ rfl _ _ 52 rfl _ _ _ _ rfl rfl (uH RUN) ?_;clear RUN)
    go_round
    case rel =>
     refine ⟨j+1,some ⟨g,0,none⟩,n,R ++ [⟨vo,vc,vj,tj,0⟩],by omega,by go_num,?_,?_,?_,N9,by rw [hNJ];exact P9⟩
     ·show (R ++ [_]).length = j+1
      rw [List.length_append,uH hRl];rfl
     ·show ∀ k,k < j+1→_
      intro k hk
      rw [mrAt_snoc2 R _ k (by rw [uH hRl];exact hk)]
      by_cases g:k < R.length
      ·rw [if_pos g];exact uH hRm k (by rw [← uH hRl];exact g)
      ·rw [if_neg g,show k = j by have:=uH hRl;omega,hVJ,hTJ];exact ⟨rfl,rfl⟩
     ·show ∀ k,k < j+1→_
      intro k hk
      by_cases g:k < j
      ·exact uH hO k g
      ·rw [show k = j by omega];exact ho
    case measure=>simp [intOf];omega
  ·have hjj:j = K:=by omega
   subst hjj
   have hjm:¬ ((j:Int) < m):=fun q=>hlt ((uH HK j).2 q)
   have hyes:Hid (ok = true):=hide ((uH HOK).2 (uH hO))
   have S3:=uH hS
   have q0:=S3.rb.c0;have q1:=S3.rb.c1;have q2:=S3.rb.c2
   have s0:=S3.res.c0;have s1:=S3.res.c1;have s2:=S3.res.c2
   have f0:=S3.res.free 0;have f1:=S3.res.free 1;have f2:=S3.res.free 2
   have XP:=S3.res.put (.int .i64 r) (.int .i64 c) (.slice ro n rc)
   have z0:=XP.c0;have z1:=XP.c1;have z2:=XP.c2
   have BP:=hide (below_putM S3.bel (b:=w.heap.size+1) (by omega) (.int .i64 r) (.int .i64 c) (.slice ro n rc))
   have QB:=hide (S3.bits.putM S3.res (.int .i64 r) (.int .i64 c) (.slice ro n rc))
   have QL:=hide (S3.l.putQ S3.res (.int .i64 r) (.int .i64 c) (.slice ro n rc))
   have HN:=hide S3.new
   clear XP S3 hS
   go_wp2_with fail
   exact bodyPost_ret (v:=.tuple #[.agg #[.int .i64 r,.int .i64 c,.slice ro n rc],_,.int .i64 0]) (by simp [results,Tryz.results35,go_sem,z0,z1,z2]) rfl ⟨.inl ⟨uH hyes,_,_,_,R,rfl,uH HN,uH QB,uH QL,uH hRl,uH hRm⟩,uH BP⟩
end Go.Proofs.YtenpggicmfhhdaaGreatDoor
namespace Go.Proofs.YtenpggicmfhhdaaGreatDoor
open Go.RowKit
attribute [local go_sem ↓] Go.wp_at_zero Go.wp_at_succ
structure UrSt (w wr:World) (h r nq:Nat) (S:List Nat) (qo:Option Addr) (qc:Nat) (v:Value) (R:List Mr):Prop where
 bel:Below w.heap.size w wr
 hh:w.heap.size+1≤h
 res:BoxM wr w.heap.size (.int .i64 0) (.int .i64 0) (.slice none 0 0)
 qb:BoxM wr h (.int .i64 r) (.int .i64 r) (.slice qo nq qc)
 bits:BitsAt wr qo qc (mxL S)
 new:NewB w.heap.size qo (mxL S)
 len:S.length = nq
 l:OwnMt 0 wr v R
theorem UrSt.all {w wr w':World} {h r nq:Nat} {S:List Nat} {qo:Option Addr} {qc:Nat} {v:Value} {R:List Mr} (t:UrSt w wr h r nq S qo qc v R) (hb:Below wr.heap.size wr w'):UrSt w w' h r nq S qo qc v R :=
 ⟨t.bel.trans (hb.mono t.bel.size),t.hh,t.res.all hb,t.qb.all hb,t.bits.below hb,t.new,t.len,t.l.below hb⟩
theorem UrSt.put {w wr:World} {h r nq:Nat} {S U:List Nat} {qo po:Option Addr} {qc pc:Nat} {v:Value} {R:List Mr} (t:UrSt w wr h r nq S qo qc v R) (hU:BitsAt wr po pc (mxL U)) (hn:NewB w.heap.size po (mxL U)) (hl:U.length = nq) :
  UrSt w (((wr.setCell ⟨h,0,none⟩ (.int .i64 r)).setCell ⟨h,1,none⟩ (.int .i64 r)).setCell ⟨h,2,none⟩ (.slice po nq pc)) h r nq U po pc v R:=by
 have hh:=t.hh
 have n0:w.heap.size ≠ h:=by omega
 exact ⟨below_putM t.bel (by omega) _ _ _,hh,t.res.three14 n0 _ _ _,t.qb.put _ _ _,hU.putM t.qb _ _ _,hn,hl,t.l.putQ t.qb _ _ _⟩
theorem UrSt.start {w w1:World} {r nq:Nat} {S:List Nat} {qo:Option Addr} {qc:Nat} {v:Value} {R:List Mr} (hB:Below (w.heap.size+1) (w.alloc (.cells #[.int .i64 0,.int .i64 0,.slice none 0 0] 24)) w1) (hS:BitsAt w1 qo qc (mxL S)) (hN:NewB w.heap.size qo (mxL S)) (hl:S.length = nq) (hL:OwnMt 0 w v R) :
  UrSt w (w1.alloc (.cells #[.int .i64 r,.int .i64 r,.slice qo nq qc] 24)) w1.heap.size r nq S qo qc v R:=by
 have b0:=below_alloc9 w (.cells #[.int .i64 0,.int .i64 0,.slice none 0 0] 24)
 have s0:=size_alloc9 w (.cells #[.int .i64 0,.int .i64 0,.slice none 0 0] 24)
 have x0:=BoxM.new w (.int .i64 0) (.int .i64 0) (.slice none 0 0)
 rw [← s0] at hB
 have b:=below_alloc9 w1 (.cells #[.int .i64 r,.int .i64 r,.slice qo nq qc] 24)
 have b1:=b0.trans (hB.mono b0.size)
 have hs:=hB.size
 rw [s0] at hs
 exact ⟨b1.trans (b.mono b1.size),hs,(x0.all hB).all b,BoxM.new w1 _ _ _,hS.below b,hN,hl,((hL.below b0).below hB).below b⟩
theorem OwnMt.apart {base:Nat} {w:World} {b n0 c0:Nat} {R:List Mr} (h:OwnMt base w (.slice (some ⟨b,0,none⟩) n0 c0) R) {g:Nat} {x y z:Value} (hx:BoxM w g x y z):b ≠ g:=by
 rcases h.1.2 with ⟨e,_⟩ | ⟨k,cap,cur,hv,hk,hh,rest⟩
 ·cases e
 ·simp only [Value.slice.injEq,Option.some.injEq,Addr.mk.injEq] at hv
  obtain ⟨⟨rfl,_⟩,_⟩:=hv
  rintro rfl
  have e:=hh.symm.trans hx
  simp at e
theorem upright_of (r nq K lc:Nat) (lo:Option Addr) (V QT:Nat→List Nat) (tau:Nat→Nat) (R:List Mr) (w:World) (h36:nq≤36) (hK6:K≤6) (hl:OwnMt 0 w (.slice lo K lc) R) (hRl:R.length = K) (hRm:∀ k,k < K→(mrAt R k).V = V k∧(mrAt R k).tau = tau k)
  (lQ:∀ t,(QT t).length = nq) (lV:∀ j,(V j).length = r - j)
  (C1:∀ w',Calls Tryz.prog 54 #[.int .i64 r] w' fun e w''=>∃ qo qc,e = .returned (.tuple #[.agg #[.int .i64 r,.int .i64 r,.slice qo nq qc],.int .i64 0])∧NewB w'.heap.size qo (mxL (QT 0))∧BitsAt w'' qo qc (mxL (QT 0))∧Below w'.heap.size w' w'')
  (C2:∀ w' t j po pc vo vc,t < K→j = K - 1 - t→Below w.heap.size w w'→BitsAt w' po pc (mxL (QT t))→BitsAt w' vo vc (mxL (V j))→Calls Tryz.prog 52 #[.agg #[.int .i64 r,.int .i64 r,.slice po nq pc],.int .i64 (j:Nat),.int .i64 0,.slice vo (r - j) vc,.int .u64 (tau j:Nat)] w' fun e w''=>∃ qo qc,e = .returned (.tuple #[.agg #[.int .i64 r,.int .i64 r,.slice qo nq qc],.int .i64 0])∧NewB w'.heap.size qo (mxL (QT (t+1)))∧BitsAt w'' qo qc (mxL (QT (t+1)))∧Below w'.heap.size w' w'')
  (C3:∀ w' x,x < 18446744073709551616→Calls Tryz.prog 49 #[.int .u64 (x:Nat)] w' fun e w''=>e = .returned (.bool (fFin x))∧Below w'.heap.size w' w'') :
  Calls Tryz.prog 36 #[.int .i64 r,.slice lo K lc] w fun e w'=>∃ t qo qc,t≤K∧(t = K ∨ fnK (mxL (QT t)) nq = false)∧e = .returned (.agg #[.int .i64 r,.int .i64 r,.slice qo nq qc])∧NewB w.heap.size qo (mxL (QT t))∧BitsAt w' qo qc (mxL (QT t))∧Below w.heap.size w w':=by
 have K1:=hide (C1 (w.alloc (.cells #[.int .i64 0,.int .i64 0,.slice none 0 0] 24)))
 simp only [size_alloc9] at K1
 have K2:=hide C2;have K3:=hide C3;have LQ:=hide lQ;have LV:=hide lV;have HL:=hide hl;have HRL:=hide hRl;have HRM:=hide hRm
 have hw2:IntKind.i64.wrap ((K:Int) - 1) = (K:Int) - 1:=wrap_in _ (by omega)
 clear C1 C2 C3 lQ lV hl hRl hRm
 go_enter Tryz.func36,Tryz.ntmps36
 go_wp2_with fail
 go_step3
 go_wp2_with fail
 refine (uH K1).mono ?_
 rintro e w1 ⟨qo,qc,rfl,hn,hq,hb⟩
 have ST:=hide (UrSt.start (r:=r) (v:=.slice lo K lc) (R:=R) hb hq (hn.least (by omega)) (uH LQ 0) (uH HL))
 clear hb hq hn K1 HL
 go_wp2_with fail
 go_step3
 go_wp2_with fail
 generalize w1.heap.size = h at *
 go_loopg [7] K (fun g a wr=>∃ (t:Nat) (qo:Option Addr) (qc:Nat),t+g = K∧a = .int .i64 ((K:Int) - 1 - (t:Int))∧Hid (UrSt w wr h r nq (QT t) qo qc (.slice lo K lc) R))
 case atStart=>exact ⟨0,qo,qc,by omega,by simp,ST⟩
 case round =>
  clear ST hw2
  obtain ⟨t,qo,qc,htg,rfl,hS⟩:=hrel
  cases gk with
  | zero =>
   have htt:t = K:=by omega
   subst htt
   have hz:(t:Int) - 1 - (t:Int) = -1:=by omega
   rw [hz]
   have S3:=uH hS
   have q0:=S3.qb.c0;have q1:=S3.qb.c1;have q2:=S3.qb.c2
   have s0:=S3.res.c0;have s1:=S3.res.c1;have s2:=S3.res.c2
   have f0:=S3.res.free 0;have f1:=S3.res.free 1;have f2:=S3.res.free 2
   have XP:=S3.res.put (.int .i64 r) (.int .i64 r) (.slice qo nq qc)
   have z0:=XP.c0;have z1:=XP.c1;have z2:=XP.c2
   have BP:=hide (below_putM S3.bel (b:=w.heap.size) (Nat.le_refl _) (.int .i64 r) (.int .i64 r) (.slice qo nq qc))
   have QB:=hide (S3.bits.putM S3.res (.int .i64 r) (.int .i64 r) (.slice qo nq qc))
   have HN:=hide S3.new
   clear XP S3 hS
   go_wp2_with fail
   try rw [Exit.noGoto_ret]
   exact bodyPost_ret (v:=.agg #[.int .i64 r,.int .i64 r,.slice qo nq qc]) (by simp [results,Tryz.results36,go_sem,z0,z1,z2]) rfl ⟨t,_,_,by omega,.inl rfl,rfl,uH HN,uH QB,uH BP⟩
  | succ g =>
   have hlt:t < K:=by omega
   obtain ⟨m,hm⟩:∃ m,K - 1 - t = m:=⟨_,rfl⟩
   have hmI:(K:Int) - 1 - (t:Int) = (m:Int):=by omega
   rw [hmI]
   have hmj:(m:Int) < (K:Int):=by omega
   obtain ⟨gl,cl,el,gl1,gl2,k0,k1,kb⟩:=(uH hS).l.at (k:=m) (by rw [uH HRL];omega)
   simp only [Value.slice.injEq] at el
   obtain ⟨rfl,hjR,rfl⟩:=el
   clear hjR gl1 gl2
   obtain ⟨ev,et⟩:=uH HRM m (by omega)
   rw [ev] at k0 kb
   rw [et] at k1
   rw [uH LV m] at k0
   have GQ:=hide (fun w' po pc vo vc hb hp hv=>uH K2 w' t m po pc vo vc hlt hm.symm hb hp hv)
   have KB:=hide kb
   have LN:=hide (uH LQ (t+1))
   generalize (mrAt R m).ao = vo at *
   generalize (mrAt R m).cap = vc at *
   generalize tau m = tm at *
   generalize V m = vm at *
   generalize hNT:QT (t+1) = nt at *
   clear kb ev et
   go_wp2_with fail
   refine at_world (fun W=>UrSt w W h r nq (QT t) qo qc (.slice (some ⟨gl,0,none⟩) K lc) R∧(W.cell? ⟨gl,m * 2,none⟩ = some (.slice vo (r - m) vc)∧W.cell? ⟨gl,m * 2+1,none⟩ = some (.int .u64 (tm:Nat)))∧BitsAt W vo vc (mxL vm)) ⟨uH hS,⟨k0,k1⟩,uH KB⟩ ?_
   clear hS k0 k1 KB
   rintro W ⟨st,⟨k0,k1⟩,kb⟩
   have hd:=(Below.refl W.heap.size W).drew
   have ST:=hide (st.all hd);have KB:=hide (kb.below hd)
   replace k0:=cell_keep k0 hd
   replace k1:=cell_keep k1 hd
   clear st kb hd
   have q0:=(uH ST).qb.c0;have q1:=(uH ST).qb.c1;have q2:=(uH ST).qb.c2
   refine wp_region_held_drew (S:=(fun w'=>w'.cell? ⟨gl,m * 2,none⟩ = some (.slice vo (r - m) vc)∧w'.cell? ⟨gl,m * 2+1,none⟩ = some (.int .u64 (tm:Nat)))) (by kernel_rfl) ?_ (fun hHeld=>?_)
   ·exact ⟨k0,k1⟩
   refine wpAnyH_take (i:=1) (oi:={ dst:=some 24,op:=Op.move (Operand.tmp 7),type:=3,pos := "mirrors.go:46",after:=#[],guard:=none }) (v:=(Value.int .i64 (m:Int))) rfl (by kernel_rfl) (by kernel_rfl) (by kernel_rfl) (fun _ _ _ h=>h) (Or.inl ⟨by rfl,?_⟩) (by assumption) ?_
   ·(intro w hSw;(try dsimp only at hSw);go_simp)
   simp only [Act.put,List.setIfInBounds_toArray,List.set_cons_zero,List.set_cons_succ]
   refine wpAnyH_take (i:=2) (oi:={ dst:=some 25,op:=Op.move (Operand.tmp 1),type:=52,pos := "mirrors.go:46",after:=#[],guard:=none }) (v:=(Value.slice (some ⟨gl,0,none⟩) K lc)) rfl (by kernel_rfl) (by kernel_rfl) (by kernel_rfl) (fun _ _ _ h=>h) (Or.inl ⟨by rfl,?_⟩) (by assumption) ?_
   ·(intro w hSw;(try dsimp only at hSw);go_simp)
   simp only [Act.put,List.setIfInBounds_toArray,List.set_cons_zero,List.set_cons_succ]
   refine wpAnyH_take (i:=3) (oi:={ dst:=some 26,op:=Op.move (Operand.tmp 7),type:=3,pos := "mirrors.go:46",after:=#[],guard:=none }) (v:=(Value.int .i64 (m:Int))) rfl (by kernel_rfl) (by kernel_rfl) (by kernel_rfl) (fun _ _ _ h=>h) (Or.inl ⟨by rfl,?_⟩) (by assumption) ?_
   ·(intro w hSw;(try dsimp only at hSw);go_simp)
   simp only [Act.put,List.setIfInBounds_toArray,List.set_cons_zero,List.set_cons_succ]
   refine wpAnyH_take (i:=4) (oi:={ dst:=some 27,op:=Op.indexAddr 52 (Operand.tmp 25) (Operand.tmp 26),type:=0,pos := "mirrors.go:46",after:=#[{ on:=2,ground:=Ground.data },{ on:=3,ground:=Ground.data }],guard:=none }) (v:=(Value.pointer (some ⟨gl,m * 2,none⟩))) rfl (by kernel_rfl) (by kernel_rfl) (by kernel_rfl) (fun _ _ _ h=>h) (Or.inl ⟨by rfl,?_⟩) (by assumption) ?_
   ·(intro w hSw;(try dsimp only at hSw);go_simp)
   simp only [Act.put,List.setIfInBounds_toArray,List.set_cons_zero,List.set_cons_succ]
   refine wpAnyH_take (i:=5) (oi:={ dst:=some 28,op:=Op.fieldAddr 77 (Operand.tmp 27) 0,type:=0,pos := "mirrors.go:46",after:=#[{ on:=4,ground:=Ground.data }],guard:=none }) (v:=(Value.pointer (some ⟨gl,m * 2,none⟩))) rfl (by kernel_rfl) (by kernel_rfl) (by kernel_rfl) (fun _ _ _ h=>h) (Or.inl ⟨by rfl,?_⟩) (by assumption) ?_
   ·(intro w hSw;(try dsimp only at hSw);go_simp)
   simp only [Act.put,List.setIfInBounds_toArray,List.set_cons_zero,List.set_cons_succ]
   refine wpAnyH_take (i:=6) (oi:={ dst:=some 29,op:=Op.load 22 (Operand.tmp 28),type:=22,pos := "mirrors.go:46",after:=#[{ on:=5,ground:=Ground.data }],guard:=none }) (v:=(Value.slice vo (r - m) vc)) rfl (by kernel_rfl) (by kernel_rfl) (by kernel_rfl) (fun _ _ _ h=>h) (Or.inl ⟨by rfl,?_⟩) (by assumption) ?_
   ·(intro w hSw;(try dsimp only at hSw);go_simp)
   simp only [Act.put,List.setIfInBounds_toArray,List.set_cons_zero,List.set_cons_succ]
   refine wpAnyH_take (i:=7) (oi:={ dst:=some 30,op:=Op.move (Operand.tmp 1),type:=52,pos := "mirrors.go:46",after:=#[],guard:=none }) (v:=(Value.slice (some ⟨gl,0,none⟩) K lc)) rfl (by kernel_rfl) (by kernel_rfl) (by kernel_rfl) (fun _ _ _ h=>h) (Or.inl ⟨by rfl,?_⟩) (by assumption) ?_
   ·(intro w hSw;(try dsimp only at hSw);go_simp)
   simp only [Act.put,List.setIfInBounds_toArray,List.set_cons_zero,List.set_cons_succ]
   refine wpAnyH_take (i:=8) (oi:={ dst:=some 31,op:=Op.move (Operand.tmp 7),type:=3,pos := "mirrors.go:46",after:=#[],guard:=none }) (v:=(Value.int .i64 (m:Int))) rfl (by kernel_rfl) (by kernel_rfl) (by kernel_rfl) (fun _ _ _ h=>h) (Or.inl ⟨by rfl,?_⟩) (by assumption) ?_
   ·(intro w hSw;(try dsimp only at hSw);go_simp)
   simp only [Act.put,List.setIfInBounds_toArray,List.set_cons_zero,List.set_cons_succ]
   refine wpAnyH_take (i:=9) (oi:={ dst:=some 32,op:=Op.indexAddr 52 (Operand.tmp 30) (Operand.tmp 31),type:=0,pos := "mirrors.go:46",after:=#[{ on:=7,ground:=Ground.data },{ on:=8,ground:=Ground.data }],guard:=none }) (v:=(Value.pointer (some ⟨gl,m * 2,none⟩))) rfl (by kernel_rfl) (by kernel_rfl) (by kernel_rfl) (fun _ _ _ h=>h) (Or.inl ⟨by rfl,?_⟩) (by assumption) ?_
   ·(intro w hSw;(try dsimp only at hSw);go_simp)
   simp only [Act.put,List.setIfInBounds_toArray,List.set_cons_zero,List.set_cons_succ]
   refine wpAnyH_take (i:=10) (oi:={ dst:=some 33,op:=Op.fieldAddr 77 (Operand.tmp 32) 1,type:=0,pos := "mirrors.go:46",after:=#[{ on:=9,ground:=Ground.data }],guard:=none }) (v:=(Value.pointer (some ⟨gl,m * 2+1,none⟩))) rfl (by kernel_rfl) (by kernel_rfl) (by kernel_rfl) (fun _ _ _ h=>h) (Or.inl ⟨by rfl,?_⟩) (by assumption) ?_
   ·(intro w hSw;(try dsimp only at hSw);go_simp)
   simp only [Act.put,List.setIfInBounds_toArray,List.set_cons_zero,List.set_cons_succ]
   refine wpAnyH_take (i:=11) (oi:={ dst:=some 34,op:=Op.load 30 (Operand.tmp 33),type:=30,pos := "mirrors.go:46",after:=#[{ on:=10,ground:=Ground.data }],guard:=none }) (v:=(Value.int .u64 (tm:Int))) rfl (by kernel_rfl) (by kernel_rfl) (by kernel_rfl) (fun _ _ _ h=>h) (Or.inl ⟨by rfl,?_⟩) (by assumption) ?_
   ·(intro w hSw;(try dsimp only at hSw);go_simp)
   simp only [Act.put,List.setIfInBounds_toArray,List.set_cons_zero,List.set_cons_succ]
   refine wpAnyH_ready (rs:=[0]) (by kernel_rfl) (by simp) ?_
   refine AllReadyH.cons (o:={ dst:=some 23,op:=Op.load 24 (Operand.tmp 5),type:=24,pos := "mirrors.go:46",after:=#[],guard:=none }) rfl (fun KK hK=>?_) AllReadyH.nil
   go_simp
   refine hK.out _ _ ?_ (fun hHeld=>?_)
   ·exact ⟨k0,k1⟩
   clear hK KK
   refine wpAnyH_ready (rs:=[12]) (by kernel_rfl) (by simp) ?_
   refine AllReadyH.cons (o:={ dst:=some 35,op:=Op.call { callee:=Callee.value (Operand.func 52),args:=#[Operand.tmp 23,Operand.tmp 24,Operand.const (Value.int IntKind.i64 0),Operand.tmp 29,Operand.tmp 34],argTypes:=#[24,3,3,22,30] },type:=27,pos := "mirrors.go:46",after:=#[{ on:=0,ground:=Ground.data },{ on:=1,ground:=Ground.data },{ on:=6,ground:=Ground.data },{ on:=11,ground:=Ground.data }],guard:=none }) rfl (fun KK hK=>?_) AllReadyH.nil
   go_simp
   refine (uH GQ _ _ _ _ _ (uH ST).bel (uH ST).bits (uH KB)).mono ?_
   rintro e w5 ⟨qo5,qc5,rfl,hn5,hq5,hb⟩
   clear q0 q1 q2
   have S5:=(uH ST).all hb
   replace k0:=cell_keep k0 hb
   replace k1:=cell_keep k1 hb
   have HS5:=hide (And.intro k0 k1)
   have ha:=S5.l.apart S5.qb
   have HS6:=hide (And.intro (show (((w5.setCell ⟨h,0,none⟩ (.int .i64 r)).setCell ⟨h,1,none⟩ (.int .i64 r)).setCell ⟨h,2,none⟩ (.slice qo5 nq qc5)).cell? ⟨gl,m * 2,none⟩ = some (.slice vo (r - m) vc) by rw [cell_setCell_other _ _ _ _ ha,cell_setCell_other _ _ _ _ ha,cell_setCell_other _ _ _ _ ha];exact k0) (show (((w5.setCell ⟨h,0,none⟩ (.int .i64 r)).setCell ⟨h,1,none⟩ (.int .i64 r)).setCell ⟨h,2,none⟩ (.slice qo5 nq qc5)).cell? ⟨gl,m * 2+1,none⟩ = some (.int .u64 (tm:Nat)) by rw [cell_setCell_other _ _ _ _ ha,cell_setCell_other _ _ _ _ ha,cell_setCell_other _ _ _ _ ha];exact k1))
   have q0:=S5.qb.c0;have q1:=S5.qb.c1;have q2:=S5.qb.c2
   have f0:=S5.qb.free 0;have f1:=S5.qb.free 1;have f2:=S5.qb.free 2
   have P5:=hide (S5.put hq5 (hn5.least (uH ST).bel.size) (uH LN))
   clear hb hq5 hn5 S5 GQ ST KB ha k0 k1
   go_wp2_with fail
   refine hK.out _ _ ?_ (fun hHeld=>?_)
   ·exact uH HS5
   clear hK KK
   refine wpAnyH_take (i:=13) (oi:={ dst:=some 22,op:=Op.move (Operand.tmp 35),type:=27,pos := "mirrors.go:46",after:=#[{ on:=12,ground:=Ground.data }],guard:=none }) (v:=(Value.tuple #[(Value.agg #[.int .i64 (r:Int),.int .i64 (r:Int),.slice qo5 nq qc5]),.int .i64 0])) rfl (by kernel_rfl) (by kernel_rfl) (by kernel_rfl) (fun _ _ _ h=>h) (Or.inl ⟨by rfl,?_⟩) (by assumption) ?_
   ·(intro w hSw;(try dsimp only at hSw);go_simp)
   simp only [Act.put,List.setIfInBounds_toArray,List.set_cons_zero,List.set_cons_succ]
   refine wpAnyH_take (i:=14) (oi:={ dst:=some 36,op:=Op.extract (Operand.tmp 22) 0,type:=24,pos := "mirrors.go:46",after:=#[{ on:=13,ground:=Ground.data }],guard:=none }) (v:=(Value.agg #[.int .i64 (r:Int),.int .i64 (r:Int),.slice qo5 nq qc5])) rfl (by kernel_rfl) (by kernel_rfl) (by kernel_rfl) (fun _ _ _ h=>h) (Or.inl ⟨by rfl,?_⟩) (by assumption) ?_
   ·(intro w hSw;(try dsimp only at hSw);go_simp)
   simp only [Act.put,List.setIfInBounds_toArray,List.set_cons_zero,List.set_cons_succ]
   refine wpAnyH_take (i:=15) (oi:={ dst:=some 37,op:=Op.extract (Operand.tmp 22) 1,type:=26,pos := "mirrors.go:46",after:=#[{ on:=13,ground:=Ground.data },{ on:=16,ground:=Ground.gcOnly Departure.lateStores }],guard:=none }) (v:=(Value.int .i64 0)) rfl (by kernel_rfl) (by kernel_rfl) (by kernel_rfl) (fun _ _ _ h=>h) (Or.inl ⟨by rfl,?_⟩) (by assumption) ?_
   ·(intro w hSw;(try dsimp only at hSw);go_simp)
   simp only [Act.put,List.setIfInBounds_toArray,List.set_cons_zero,List.set_cons_succ]
   refine wpAnyH_ready (rs:=[16]) (by kernel_rfl) (by simp) ?_
   refine AllReadyH.cons (o:={ dst:=none,op:=Op.store 24 (Operand.tmp 5) (Operand.tmp 36),type:=0,pos := "mirrors.go:46",after:=#[{ on:=14,ground:=Ground.data },{ on:=12,ground:=Ground.chain },{ on:=0,ground:=Ground.phase },{ on:=1,ground:=Ground.phase },{ on:=2,ground:=Ground.phase },{ on:=3,ground:=Ground.phase },{ on:=4,ground:=Ground.phase },{ on:=5,ground:=Ground.phase },{ on:=6,ground:=Ground.phase },{ on:=7,ground:=Ground.phase },{ on:=8,ground:=Ground.phase },{ on:=9,ground:=Ground.phase },{ on:=10,ground:=Ground.phase },{ on:=11,ground:=Ground.phase },{ on:=12,ground:=Ground.phase },{ on:=13,ground:=Ground.phase },{ on:=14,ground:=Ground.phase },{ on:=15,ground:=Ground.textOnly Departure.lateStores }],guard:=none }) rfl (fun KK hK=>?_) AllReadyH.nil
   go_simp
   refine hK.out _ _ ?_ (fun hHeld=>?_)
   ·exact uH HS6
   clear hK KK
   refine wpAnyH_done (by kernel_rfl) ?_ _
   clear q0 q1 q2 f0 f1 f2 HS5 HS6
   have z2:=(uH P5).qb.c2
   go_wp2_with fail
   clear z2
   go_loopg [41] nq (fun g2 a wr=>∃ i:Nat,i+g2 = nq∧a = .int .i64 i∧Hid (∀ k,k < i→fFin (atB (mxL nt) k) = true)∧Hid (UrSt w wr h r nq nt qo5 qc5 (.slice (some ⟨gl,0,none⟩) K lc) R))
   case atStart=>exact ⟨0,by omega,rfl,fun k hk=>absurd hk (Nat.not_lt_zero k),by first | exact P5 | exact hide (uH P5)⟩
   case round =>
    clear P5
    obtain ⟨i,hig,rfl,hF,hS⟩:=hrel
    cases gk with
    | zero =>
     have hii:¬ ((i:Int) < (nq:Int)):=by omega
     have hw3:IntKind.i64.wrap ((m:Int) - 1) = (m:Int) - 1:=wrap_in _ (by omega)
     go_wp2_with fail
     go_roundg g
     case measure=>omega
     case rel=>exact ⟨t+1,qo5,qc5,by omega,by rw [show (m:Int) - 1 = (K:Int) - 1 - ((t+1:Nat):Int) by omega],by rw [hNT];exact hS⟩
    | succ g2 =>
     have hiI:(i:Int) < (nq:Int):=by omega
     obtain ⟨b5,o5,rfl,_,hc5⟩:=(uH hS).bits.ne (by rw [mxL_len,(uH hS).len];omega)
     have c5:=hc5 i (by rw [mxL_len,(uH hS).len];omega)
     have hx:=(uH hS).bits.lt i
     have ec:(mxL nt)[i]?.getD 0 = (atB (mxL nt) i:Int):=((uH hS).bits.wf i).1
     have HFI:=hide (fun (e:fFin (atB (mxL nt) i) = true)=>(show ∀ k,k < i+1→fFin (atB (mxL nt) k) = true from fun k hk=>by
      rcases Nat.lt_or_ge k i with g | g
      ·exact uH hF k g
      ·rw [show k = i by omega];exact e))
     have HNO:=hide (fun (e:fFin (atB (mxL nt) i) = false)=>fnK_no (mxL nt) nq i (by omega) e)
     have KX:=hide (fun w'=>uH K3 w' _ hx)
     generalize atB (mxL nt) i = x at *
     clear hx hc5 ec
     go_wp2_with fail
     clear c5
     refine (uH KX _).mono ?_
     rintro e w6 ⟨rfl,hb⟩
     have S6:=hide ((uH hS).all hb)
     clear hb hS KX
     cases hfx:fFin x with
     | true =>
      go_wp2_with fail
      go_roundg g2
      case measure=>omega
      case rel=>exact ⟨i+1,by omega,by go_num,hide (uH HFI hfx),S6⟩
     | false =>
      have S3:=uH S6
      have hno:=hide (uH HNO hfx)
      have q0:=S3.qb.c0;have q1:=S3.qb.c1;have q2:=S3.qb.c2
      have s0:=S3.res.c0;have s1:=S3.res.c1;have s2:=S3.res.c2
      have f0:=S3.res.free 0;have f1:=S3.res.free 1;have f2:=S3.res.free 2
      have XP:=S3.res.put (.int .i64 r) (.int .i64 r) (.slice (some ⟨b5,o5,none⟩) nq qc5)
      have z0:=XP.c0;have z1:=XP.c1;have z2:=XP.c2
      have BP:=hide (below_putM S3.bel (b:=w.heap.size) (Nat.le_refl _) (.int .i64 r) (.int .i64 r) (.slice (some ⟨b5,o5,none⟩) nq qc5))
      have QB:=hide (S3.bits.putM S3.res (.int .i64 r) (.int .i64 r) (.slice (some ⟨b5,o5,none⟩) nq qc5))
      have HN:=hide S3.new
      clear XP S3 S6
      go_wp2_with fail
      try rw [Exit.noGoto_ret]
      exact bodyPost_ret (v:=.agg #[.int .i64 r,.int .i64 r,.slice (some ⟨b5,o5,none⟩) nq qc5]) (by simp [results,Tryz.results36,go_sem,z0,z1,z2]) rfl ⟨t+1,_,_,by omega,.inr (by rw [hNT];exact uH hno),rfl,by rw [hNT];exact uH HN,by rw [hNT];exact uH QB,uH BP⟩
end Go.Proofs.YtenpggicmfhhdaaGreatDoor
namespace Go.Proofs.YtenpggicmfhhdaaGreatDoor
open Go.RowKit
attribute [local go_sem ↓] Go.wp_at_zero Go.wp_at_succ
theorem cell_three14 {w:World} {b g j:Nat} {u u' u'' v:Value} (hne:b ≠ g) (h:w.cell? ⟨b,j,none⟩ = some v):(((w.setCell ⟨g,0,none⟩ u).setCell ⟨g,1,none⟩ u').setCell ⟨g,2,none⟩ u'').cell? ⟨b,j,none⟩ = some v:=by
 rw [cell_setCell_other _ _ _ _ hne,cell_setCell_other _ _ _ _ hne,cell_setCell_other _ _ _ _ hne]
 exact h
theorem cell_drew14 {w:World} {a:Addr} {v:Value} (h:w.cell? a = some v):w.drew.cell? a = some v:=h
theorem cell_three14d {w:World} {b g j:Nat} {u u' u'' v:Value} (hne:b ≠ g) (h:w.cell? ⟨b,j,none⟩ = some v):(((w.setCell ⟨g,0,none⟩ u).setCell ⟨g,1,none⟩ u').setCell ⟨g,2,none⟩ u'').drew.cell? ⟨b,j,none⟩ = some v:=cell_drew14 (cell_three14 hne h)
structure FcSt (w wr:World) (x y:Int) (ao:Option Addr) (n cap:Nat):Prop where
 bel:Below w.heap.size w wr
 a:BoxM wr w.heap.size (.int .i64 x) (.int .i64 y) (.slice ao n cap)
 r1:BoxM wr (w.heap.size+1) (.int .i64 0) (.int .i64 0) (.slice none 0 0)
 r2:BoxM wr (w.heap.size+1+1) (.int .i64 0) (.int .i64 0) (.slice none 0 0)
theorem FcSt.all {w wr w':World} {x y:Int} {ao:Option Addr} {n cap:Nat} (t:FcSt w wr x y ao n cap) (hb:Below wr.heap.size wr w'):FcSt w w' x y ao n cap:=⟨t.bel.trans (hb.mono t.bel.size),t.a.all hb,t.r1.all hb,t.r2.all hb⟩
theorem FcSt.start (w:World) (x y:Int) (ao:Option Addr) (n cap:Nat):FcSt w (((w.alloc (.cells #[.int .i64 x,.int .i64 y,.slice ao n cap] 24)).alloc (.cells #[.int .i64 0,.int .i64 0,.slice none 0 0] 24)).alloc (.cells #[.int .i64 0,.int .i64 0,.slice none 0 0] 24)) x y ao n cap:=by
 obtain ⟨h1,h2,h3,h4⟩:=boxes3 w (.int .i64 x) (.int .i64 y) (.slice ao n cap) (.int .i64 0) (.int .i64 0) (.slice none 0 0) (.int .i64 0) (.int .i64 0) (.slice none 0 0) _ (Below.refl _ _)
 exact ⟨h1,h2,h3,h4⟩
theorem factor_err (r c:Int) (ao:Option Addr) (n cap:Nat) (er:Int) (w:World) (her:er = 1 ∨ er = 4)
  (C1:∀ w',Below w.heap.size w w'→Calls Tryz.prog 34 #[.agg #[.int .i64 r,.int .i64 c,.slice ao n cap]] w' fun e w''=>e = .returned (.int .i64 er)∧Below w'.heap.size w' w'') :
  Calls Tryz.prog 25 #[.agg #[.int .i64 r,.int .i64 c,.slice ao n cap]] w fun e w'=>∃ v u,e = .returned (.tuple #[v,u,.int .i64 er])∧NewM w.heap.size w' 0 0 [] v∧NewM w.heap.size w' 0 0 [] u∧Below w.heap.size w w':=by
 have ST:=hide (FcSt.start w r c ao n cap)
 have K1:=hide (C1 _ (uH ST).bel)
 clear C1
 rcases her with rfl | rfl
 all_goals
  go_enter Tryz.func25,Tryz.ntmps25
  go_wp2_with fail
  refine (uH K1).mono ?_
  rintro e w1 ⟨rfl,hb⟩
  replace ST:=hide ((uH ST).all hb)
  clear hb K1
  have X1:=(uH ST).r1;have X2:=(uH ST).r2
  have s0:=X1.c0;have s1:=X1.c1;have s2:=X1.c2
  have f0:=X1.free 0;have f1:=X1.free 1;have f2:=X1.free 2
  have Y1:=X1.put (.int .i64 0) (.int .i64 0) (.slice none 0 0)
  have Y2:=X2.three14 (g:=w.heap.size+1) (by omega) (.int .i64 0) (.int .i64 0) (.slice none 0 0)
  have s3:=Y2.c0;have s4:=Y2.c1;have s5:=Y2.c2
  have f3:=Y2.free 0;have f4:=Y2.free 1;have f5:=Y2.free 2
  have Z1:=Y1.three14 (g:=w.heap.size+1+1) (by omega) (.int .i64 0) (.int .i64 0) (.slice none 0 0)
  have Z2:=Y2.put (.int .i64 0) (.int .i64 0) (.slice none 0 0)
  have z0:=Z1.c0;have z1:=Z1.c1;have z2:=Z1.c2;have z3:=Z2.c0;have z4:=Z2.c1;have z5:=Z2.c2
  have BP:=hide (below_putM (below_putM (uH ST).bel (b:=w.heap.size+1) (by omega) (.int .i64 0) (.int .i64 0) (.slice none 0 0)) (b:=w.heap.size+1+1) (by omega) (.int .i64 0) (.int .i64 0) (.slice none 0 0))
  clear X1 X2 Y1 Y2 Z1 Z2 ST
  go_wp2_with fail
  exact bodyPost_ret (v:=.tuple #[.agg #[.int .i64 0,.int .i64 0,.slice none 0 0],.agg #[.int .i64 0,.int .i64 0,.slice none 0 0],.int .i64 _]) (by simp [results,Tryz.results25,go_sem,z0,z1,z2,z3,z4,z5]) rfl ⟨_,_,rfl,NewM.zero _ _,NewM.zero _ _,uH BP⟩
theorem factor_of (r c n nq K cap:Nat) (ao:Option Addr) (S QF:List Nat) (V:Nat→List Nat) (tau:Nat→Nat) (ok fq fr:Bool) (w:World) (lS:S.length = n) (lQ:QF.length = nq) (hfq:fnK (mxL QF) nq = fq)
  (C1:∀ w',Below w.heap.size w w'→Calls Tryz.prog 34 #[.agg #[.int .i64 r,.int .i64 c,.slice ao n cap]] w' fun e w''=>e = .returned (.int .i64 0)∧Below w'.heap.size w' w'')
  (C2:∀ w',Below w.heap.size w w'→Calls Tryz.prog 35 #[.agg #[.int .i64 r,.int .i64 c,.slice ao n cap]] w' fun e w''=>TriAns w' w'' ok r c n K S V tau e∧Below w'.heap.size w' w'')
  (C3:∀ w' lo lc R,Below w.heap.size w w'→OwnMt 0 w' (.slice lo K lc) R→R.length = K→(∀ k,k < K→(mrAt R k).V = V k∧(mrAt R k).tau = tau k)→Calls Tryz.prog 36 #[.int .i64 r,.slice lo K lc] w' fun e w''=>∃ Q qo qc,(Q = QF ∨ (fnK (mxL Q) nq = false∧fq = false))∧Q.length = nq∧e = .returned (.agg #[.int .i64 r,.int .i64 r,.slice qo nq qc])∧NewB w'.heap.size qo (mxL Q)∧BitsAt w'' qo qc (mxL Q)∧Below w'.heap.size w' w'')
  (C4:∀ w' Q qo qc,BitsAt w' qo qc (mxL Q)→Q.length = nq→Calls Tryz.prog 37 #[.slice qo nq qc] w' fun e w''=>e = .returned (.bool (fnK (mxL Q) nq))∧Below w'.heap.size w' w'')
  (C5:∀ w' ro rc,BitsAt w' ro rc (mxL S)→Calls Tryz.prog 37 #[.slice ro n rc] w' fun e w''=>e = .returned (.bool fr)∧Below w'.heap.size w' w'') :
  Calls Tryz.prog 25 #[.agg #[.int .i64 r,.int .i64 c,.slice ao n cap]] w fun e w'=>(((ok && (fq && fr)) = true∧∃ v u,e = .returned (.tuple #[v,u,.int .i64 0])∧NewM w.heap.size w' r r QF v∧NewM w.heap.size w' r c S u) ∨ ((ok && (fq && fr)) = false∧∃ v u,e = .returned (.tuple #[v,u,.int .i64 2])∧NewM w.heap.size w' 0 0 [] v∧NewM w.heap.size w' 0 0 [] u))∧Below w.heap.size w w':=by
 have ST:=hide (FcSt.start w r c ao n cap)
 have K1:=hide (C1 _ (uH ST).bel);have K2:=hide C2;have K3:=hide C3;have K4:=hide C4;have K5:=hide C5;have LS:=hide lS;have LQ:=hide lQ;have HFQ:=hide hfq
 clear C1 C2 C3 C4 C5 lS lQ hfq
 go_enter Tryz.func25,Tryz.ntmps25
 go_wp2_with fail
 refine (uH K1).mono ?_
 rintro e w1 ⟨rfl,hb⟩
 replace ST:=hide ((uH ST).all hb)
 clear hb K1
 have y0:=(uH ST).a.c0;have y1:=(uH ST).a.c1;have y2:=(uH ST).a.c2
 go_wp2_with fail
 clear y0 y1 y2
 refine (uH K2 _ (uH ST).bel).mono ?_
 rintro e w2 ⟨hans,hb⟩
 have S2:=hide ((uH ST).all hb)
 have HZ:=hide (show w.heap.size≤w1.heap.size from (uH ST).bel.size)
 clear hb ST K2
 rcases hans with ⟨hok,ro,rc,v,R,rfl,hn,hq,hl,hRl,hRm⟩ | ⟨hok,rfl⟩
 ·obtain ⟨lo,lc,hvl⟩:=hl.slice
  rw [hRl] at hvl
  subst hvl
  have ba:=below_alloc9 w2 (.cells #[.int .i64 r,.int .i64 c,.slice ro n rc] 24)
  have HGB:=hide (uH S2).r2.lt
  have RB:=hide (BoxM.new w2 (.int .i64 r) (.int .i64 c) (.slice ro n rc))
  replace S2:=hide ((uH S2).all ba)
  have HQ:=hide (hq.below ba)
  have HN:=hide (hn.least (uH HZ))
  have HL:=hide ((hl.least (Nat.zero_le _)).below ba)
  have HRL:=hide hRl;have HRM:=hide hRm;have HOK:=hide hok
  clear ba hq hn hl hRl hRm hok HZ
  have y0:=(uH S2).a.c0
  go_wp2_with fail
  clear y0
  refine (uH K3 _ lo lc R (uH S2).bel (uH HL) (uH HRL) (uH HRM)).mono ?_
  rintro e w3 ⟨Q,qo,qc,hQ,lQ,rfl,hn,hq,hb⟩
  have ba:=below_alloc9 w3 (.cells #[.int .i64 r,.int .i64 r,.slice qo nq qc] 24)
  have HGA:=hide ((uH S2).all hb).r2.lt
  have QB:=hide (BoxM.new w3 (.int .i64 r) (.int .i64 r) (.slice qo nq qc))
  have HN3:=hide (hn.least (uH S2).bel.size)
  replace S2:=hide (((uH S2).all hb).all ba)
  replace RB:=hide (((uH RB).all hb).all ba)
  replace HQ:=hide (((uH HQ).below hb).below ba)
  have HQ3:=hide (hq.below ba)
  have HQQ:=hide hQ;have LQQ:=hide lQ
  clear hb ba hn hq HL hQ lQ K3
  have y2:=(uH QB).c2
  go_wp2_with fail
  clear y2
  refine (uH K4 _ Q qo qc (uH HQ3) (uH LQQ)).mono ?_
  rintro e w4 ⟨rfl,hb⟩
  replace S2:=hide ((uH S2).all hb)
  replace RB:=hide ((uH RB).all hb)
  replace QB:=hide ((uH QB).all hb)
  replace HQ:=hide ((uH HQ).below hb)
  replace HQ3:=hide ((uH HQ3).below hb)
  clear hb K4
  cases hfQ:fnK (mxL Q) nq with
  | false =>
   have hno:Hid ((ok && (fq && fr)) = false):=hide (by
    rcases uH HQQ with e | e
    ·rw [e,uH HFQ] at hfQ
     rw [hfQ];cases ok <;> rfl
    ·rw [e.2];cases ok <;> rfl)
   clear RB QB HQ HQ3
   have X1:=(uH S2).r1;have X2:=(uH S2).r2
   have s0:=X1.c0;have s1:=X1.c1;have s2:=X1.c2
   have f0:=X1.free 0;have f1:=X1.free 1;have f2:=X1.free 2
   have Y1:=X1.put (.int .i64 0) (.int .i64 0) (.slice none 0 0)
   have Y2:=X2.three14 (g:=w.heap.size+1) (by omega) (.int .i64 0) (.int .i64 0) (.slice none 0 0)
   have s3:=Y2.c0;have s4:=Y2.c1;have s5:=Y2.c2
   have f3:=Y2.free 0;have f4:=Y2.free 1;have f5:=Y2.free 2
   have Z1:=Y1.three14 (g:=w.heap.size+1+1) (by omega) (.int .i64 0) (.int .i64 0) (.slice none 0 0)
   have Z2:=Y2.put (.int .i64 0) (.int .i64 0) (.slice none 0 0)
   have z0:=Z1.c0;have z1:=Z1.c1;have z2:=Z1.c2;have z3:=Z2.c0;have z4:=Z2.c1;have z5:=Z2.c2
   have BP:=hide (below_putM (below_putM (uH S2).bel (b:=w.heap.size+1) (by omega) (.int .i64 0) (.int .i64 0) (.slice none 0 0)) (b:=w.heap.size+1+1) (by omega) (.int .i64 0) (.int .i64 0) (.slice none 0 0))
   clear X1 X2 Y1 Y2 Z1 Z2 S2
   go_wp2_with fail
   exact bodyPost_ret (v:=.tuple #[.agg #[.int .i64 0,.int .i64 0,.slice none 0 0],.agg #[.int .i64 0,.int .i64 0,.slice none 0 0],.int .i64 2]) (by simp [results,Tryz.results25,go_sem,z0,z1,z2,z3,z4,z5]) rfl ⟨.inr ⟨uH hno,_,_,rfl,NewM.zero _ _,NewM.zero _ _⟩,uH BP⟩
  | true =>
   have hQe:Q = QF:=by
    rcases uH HQQ with e | e
    ·exact e
    ·rw [e.1] at hfQ;cases hfQ
   subst hQe
   have hfq:fq = true:=by rw [← uH HFQ];exact hfQ
   have y2:=(uH RB).c2
   go_wp2_with fail
   clear y2
   refine (uH K5 _ ro rc (uH HQ)).mono ?_
   rintro e w5 ⟨rfl,hb⟩
   replace S2:=hide ((uH S2).all hb)
   replace RB:=hide ((uH RB).all hb)
   replace QB:=hide ((uH QB).all hb)
   replace HQ:=hide ((uH HQ).below hb)
   replace HQ3:=hide ((uH HQ3).below hb)
   clear hb K5
   cases hfr:fr with
   | false =>
    have hno:Hid ((ok && (fq && fr)) = false):=hide (by rw [hfr];cases ok <;> cases fq <;> rfl)
    clear RB QB HQ HQ3
    have X1:=(uH S2).r1;have X2:=(uH S2).r2
    have s0:=X1.c0;have s1:=X1.c1;have s2:=X1.c2
    have f0:=X1.free 0;have f1:=X1.free 1;have f2:=X1.free 2
    have Y1:=X1.put (.int .i64 0) (.int .i64 0) (.slice none 0 0)
    have Y2:=X2.three14 (g:=w.heap.size+1) (by omega) (.int .i64 0) (.int .i64 0) (.slice none 0 0)
    have s3:=Y2.c0;have s4:=Y2.c1;have s5:=Y2.c2
    have f3:=Y2.free 0;have f4:=Y2.free 1;have f5:=Y2.free 2
    have Z1:=Y1.three14 (g:=w.heap.size+1+1) (by omega) (.int .i64 0) (.int .i64 0) (.slice none 0 0)
    have Z2:=Y2.put (.int .i64 0) (.int .i64 0) (.slice none 0 0)
    have z0:=Z1.c0;have z1:=Z1.c1;have z2:=Z1.c2;have z3:=Z2.c0;have z4:=Z2.c1;have z5:=Z2.c2
    have BP:=hide (below_putM (below_putM (uH S2).bel (b:=w.heap.size+1) (by omega) (.int .i64 0) (.int .i64 0) (.slice none 0 0)) (b:=w.heap.size+1+1) (by omega) (.int .i64 0) (.int .i64 0) (.slice none 0 0))
    clear X1 X2 Y1 Y2 Z1 Z2 S2
    go_wp2_with fail
    exact bodyPost_ret (v:=.tuple #[.agg #[.int .i64 0,.int .i64 0,.slice none 0 0],.agg #[.int .i64 0,.int .i64 0,.slice none 0 0],.int .i64 2]) (by simp [results,Tryz.results25,go_sem,z0,z1,z2,z3,z4,z5]) rfl ⟨.inr ⟨uH hno,_,_,rfl,NewM.zero _ _,NewM.zero _ _⟩,uH BP⟩
   | true =>
    have hyes:Hid ((ok && (fq && fr)) = true):=hide (by rw [uH HOK,hfq,hfr];rfl)
    clear hfQ HFQ HQQ hfq hfr
    go_wp2_with fail
    refine at_world (fun W=>FcSt w W r c ao n cap∧BoxM W w2.heap.size (.int .i64 r) (.int .i64 c) (.slice ro n rc)∧BoxM W w3.heap.size (.int .i64 r) (.int .i64 r) (.slice qo nq qc)∧BitsAt W ro rc (mxL S)∧BitsAt W qo qc (mxL Q)) ⟨uH S2,uH RB,uH QB,uH HQ,uH HQ3⟩ ?_
    clear S2 RB QB HQ HQ3
    rintro W ⟨s2,rb,qb,hq,hq3⟩
    have S2:=hide (s2)
    have y0:=(rb).c0;have y1:=(rb).c1;have y2:=(rb).c2
    have y3:=(qb).c0;have y4:=(qb).c1;have y5:=(qb).c2
    have Q1:=hq;have Q3:=hq3
    clear s2 rb qb hq hq3
    have X1:=(uH S2).r1;have X2:=(uH S2).r2
    have s0:=X1.c0;have s1:=X1.c1;have s2:=X1.c2
    have f0:=X1.free 0;have f1:=X1.free 1;have f2:=X1.free 2
    have Y1:=X1.put (.int .i64 r) (.int .i64 r) (.slice qo nq qc)
    have Y2:=X2.three14 (g:=w.heap.size+1) (by omega) (.int .i64 r) (.int .i64 r) (.slice qo nq qc)
    have s3:=Y2.c0;have s4:=Y2.c1;have s5:=Y2.c2
    have f3:=Y2.free 0;have f4:=Y2.free 1;have f5:=Y2.free 2
    have Z1:=Y1.three14 (g:=w.heap.size+1+1) (by omega) (.int .i64 r) (.int .i64 c) (.slice ro n rc)
    have Z2:=Y2.put (.int .i64 r) (.int .i64 c) (.slice ro n rc)
    have z0:=Z1.c0;have z1:=Z1.c1;have z2:=Z1.c2;have z3:=Z2.c0;have z4:=Z2.c1;have z5:=Z2.c2
    have BP:=hide (below_putM (below_putM (uH S2).bel (b:=w.heap.size+1) (by omega) (.int .i64 r) (.int .i64 r) (.slice qo nq qc)) (b:=w.heap.size+1+1) (by omega) (.int .i64 r) (.int .i64 c) (.slice ro n rc))
    have PR:=hide ((Q1.putM X1 (.int .i64 r) (.int .i64 r) (.slice qo nq qc)).putM Y2 (.int .i64 r) (.int .i64 c) (.slice ro n rc))
    have PQ:=hide ((Q3.putM X1 (.int .i64 r) (.int .i64 r) (.slice qo nq qc)).putM Y2 (.int .i64 r) (.int .i64 c) (.slice ro n rc))
    clear X1 X2 Y1 Y2 Z1 Z2 S2 Q1 Q3
    have HS0:=hide (show _∧_∧_∧_∧_∧_ from ⟨cell_drew14 y3,cell_drew14 y4,cell_drew14 y5,cell_drew14 y0,cell_drew14 y1,cell_drew14 y2⟩)
    have HP2:=hide (show _∧_∧_∧_∧_∧_ from ⟨cell_three14 (u:=.int .i64 r) (u':=.int .i64 r) (u'':=.slice qo nq qc) (show w3.heap.size ≠ w.heap.size+1 by have:=uH HGA;omega) y3,cell_three14 (u:=.int .i64 r) (u':=.int .i64 r) (u'':=.slice qo nq qc) (show w3.heap.size ≠ w.heap.size+1 by have:=uH HGA;omega) y4,cell_three14 (u:=.int .i64 r) (u':=.int .i64 r) (u'':=.slice qo nq qc) (show w3.heap.size ≠ w.heap.size+1 by have:=uH HGA;omega) y5,cell_three14 (u:=.int .i64 r) (u':=.int .i64 r) (u'':=.slice qo nq qc) (show w2.heap.size ≠ w.heap.size+1 by have:=uH HGB;omega) y0,cell_three14 (u:=.int .i64 r) (u':=.int .i64 r) (u'':=.slice qo nq qc) (show w2.heap.size ≠ w.heap.size+1 by have:=uH HGB;omega) y1,cell_three14 (u:=.int .i64 r) (u':=.int .i64 r) (u'':=.slice qo nq qc) (show w2.heap.size ≠ w.heap.size+1 by have:=uH HGB;omega) y2⟩)
    have HS2:=hide (show _∧_∧_∧_∧_∧_ from ⟨cell_three14d (u:=.int .i64 r) (u':=.int .i64 r) (u'':=.slice qo nq qc) (show w3.heap.size ≠ w.heap.size+1 by have:=uH HGA;omega) y3,cell_three14d (u:=.int .i64 r) (u':=.int .i64 r) (u'':=.slice qo nq qc) (show w3.heap.size ≠ w.heap.size+1 by have:=uH HGA;omega) y4,cell_three14d (u:=.int .i64 r) (u':=.int .i64 r) (u'':=.slice qo nq qc) (show w3.heap.size ≠ w.heap.size+1 by have:=uH HGA;omega) y5,cell_three14d (u:=.int .i64 r) (u':=.int .i64 r) (u'':=.slice qo nq qc) (show w2.heap.size ≠ w.heap.size+1 by have:=uH HGB;omega) y0,cell_three14d (u:=.int .i64 r) (u':=.int .i64 r) (u'':=.slice qo nq qc) (show w2.heap.size ≠ w.heap.size+1 by have:=uH HGB;omega) y1,cell_three14d (u:=.int .i64 r) (u':=.int .i64 r) (u'':=.slice qo nq qc) (show w2.heap.size ≠ w.heap.size+1 by have:=uH HGB;omega) y2⟩)
    have HS3:=hide (show _∧_∧_∧_∧_∧_ from ⟨cell_three14d (u:=.int .i64 r) (u':=.int .i64 c) (u'':=.slice ro n rc) (show w3.heap.size ≠ w.heap.size+1+1 by have:=uH HGA;omega) (uH HP2).1,cell_three14d (u:=.int .i64 r) (u':=.int .i64 c) (u'':=.slice ro n rc) (show w3.heap.size ≠ w.heap.size+1+1 by have:=uH HGA;omega) (uH HP2).2.1,cell_three14d (u:=.int .i64 r) (u':=.int .i64 c) (u'':=.slice ro n rc) (show w3.heap.size ≠ w.heap.size+1+1 by have:=uH HGA;omega) (uH HP2).2.2.1,cell_three14d (u:=.int .i64 r) (u':=.int .i64 c) (u'':=.slice ro n rc) (show w2.heap.size ≠ w.heap.size+1+1 by have:=uH HGB;omega) (uH HP2).2.2.2.1,cell_three14d (u:=.int .i64 r) (u':=.int .i64 c) (u'':=.slice ro n rc) (show w2.heap.size ≠ w.heap.size+1+1 by have:=uH HGB;omega) (uH HP2).2.2.2.2.1,cell_three14d (u:=.int .i64 r) (u':=.int .i64 c) (u'':=.slice ro n rc) (show w2.heap.size ≠ w.heap.size+1+1 by have:=uH HGB;omega) (uH HP2).2.2.2.2.2⟩)
    clear y0 y1 y2 y3 y4 y5
    refine wp_region_held_drew (S:=(fun w'=>w'.cell? ⟨w3.heap.size,0,none⟩ = some (.int .i64 (r:Int))∧w'.cell? ⟨w3.heap.size,1,none⟩ = some (.int .i64 (r:Int))∧w'.cell? ⟨w3.heap.size,2,none⟩ = some (.slice qo nq qc)∧w'.cell? ⟨w2.heap.size,0,none⟩ = some (.int .i64 (r:Int))∧w'.cell? ⟨w2.heap.size,1,none⟩ = some (.int .i64 (c:Int))∧w'.cell? ⟨w2.heap.size,2,none⟩ = some (.slice ro n rc))) (by kernel_rfl) ?_ (fun hHeld=>?_)
    ·exact uH HS0
    refine wpAnyH_take (i:=0) (oi:={ dst:=some 44,op:=Op.load 24 (Operand.tmp 9),type:=24,pos := "qr.go:24",after:=#[],guard:=none }) (v:=(Value.agg #[.int .i64 (r:Int),.int .i64 (r:Int),.slice qo nq qc])) rfl (by kernel_rfl) (by kernel_rfl) (by kernel_rfl) (fun _ _ _ h=>h) (Or.inl ⟨by rfl,?_⟩) (by assumption) ?_
    ·(intro w hSw;(try dsimp only at hSw);go_simp)
    simp only [Act.put,List.setIfInBounds_toArray,List.set_cons_zero,List.set_cons_succ]
    refine wpAnyH_take (i:=1) (oi:={ dst:=some 45,op:=Op.load 24 (Operand.tmp 6),type:=24,pos := "qr.go:24",after:=#[{ on:=2,ground:=Ground.gcOnly Departure.lateStores }],guard:=none }) (v:=(Value.agg #[.int .i64 (r:Int),.int .i64 (c:Int),.slice ro n rc])) rfl (by kernel_rfl) (by kernel_rfl) (by kernel_rfl) (fun _ _ _ h=>h) (Or.inl ⟨by rfl,?_⟩) (by assumption) ?_
    ·(intro w hSw;(try dsimp only at hSw);go_simp)
    simp only [Act.put,List.setIfInBounds_toArray,List.set_cons_zero,List.set_cons_succ]
    refine wpAnyH_ready (rs:=[2]) (by kernel_rfl) (by simp) ?_
    refine AllReadyH.cons (o:={ dst:=none,op:=Op.store 24 (Operand.tmp 2) (Operand.tmp 44),type:=0,pos := "qr.go:24",after:=#[{ on:=0,ground:=Ground.data },{ on:=0,ground:=Ground.phase },{ on:=1,ground:=Ground.textOnly Departure.lateStores }],guard:=none }) rfl (fun KK hK=>?_) AllReadyH.nil
    go_simp
    refine hK.out _ _ ?_ (fun hHeld=>?_)
    ·exact uH HS2
    clear hK KK
    refine wpAnyH_ready (rs:=[3]) (by kernel_rfl) (by simp) ?_
    refine AllReadyH.cons (o:={ dst:=none,op:=Op.store 24 (Operand.tmp 3) (Operand.tmp 45),type:=0,pos := "qr.go:24",after:=#[{ on:=1,ground:=Ground.data },{ on:=2,ground:=Ground.chain },{ on:=0,ground:=Ground.phase },{ on:=1,ground:=Ground.phase },{ on:=2,ground:=Ground.phase }],guard:=none }) rfl (fun KK hK=>?_) AllReadyH.nil
    go_simp
    refine hK.out _ _ ?_ (fun hHeld=>?_)
    ·exact uH HS3
    clear hK KK
    refine wpAnyH_ready (rs:=[4]) (by kernel_rfl) (by simp) ?_
    refine AllReadyH.cons (o:={ dst:=some 4,op:=Op.assign (Operand.const (Value.int IntKind.i64 0)),type:=26,pos := "qr.go:24",after:=#[{ on:=3,ground:=Ground.chain },{ on:=0,ground:=Ground.phase },{ on:=1,ground:=Ground.phase },{ on:=2,ground:=Ground.phase },{ on:=3,ground:=Ground.phase }],guard:=none }) rfl (fun KK hK=>?_) AllReadyH.nil
    go_simp
    refine hK.out _ _ ?_ (fun hHeld=>?_)
    ·exact uH HS3
    clear hK KK
    refine wpAnyH_done (by kernel_rfl) ?_ _
    clear HS0 HS2 HS3 HP2
    go_wp2_with fail
    refine bodyPost_ret (v:=.tuple #[.agg #[.int .i64 r,.int .i64 r,.slice qo nq qc],.agg #[.int .i64 r,.int .i64 c,.slice ro n rc],.int .i64 0]) (by simp [results,Tryz.results25,go_sem,z0,z1,z2,z3,z4,z5]) rfl ⟨.inl ⟨uH hyes,_,_,rfl,⟨qo,qc,by rw [uH LQ],uH HN3,(uH PQ).below (Below.refl _ _).drew⟩,⟨ro,rc,by rw [uH LS],uH HN,(uH PR).below (Below.refl _ _).drew⟩⟩,(uH BP).drew⟩
 ·have hno:Hid ((ok && (fq && fr)) = false):=hide (by rw [hok];rfl)
  have ba:=below_alloc9 w2 (.cells #[.int .i64 0,.int .i64 0,.slice none 0 0] 24)
  replace S2:=hide ((uH S2).all ba)
  clear ba hok HZ
  have X1:=(uH S2).r1;have X2:=(uH S2).r2
  have s0:=X1.c0;have s1:=X1.c1;have s2:=X1.c2
  have f0:=X1.free 0;have f1:=X1.free 1;have f2:=X1.free 2
  have Y1:=X1.put (.int .i64 0) (.int .i64 0) (.slice none 0 0)
  have Y2:=X2.three14 (g:=w.heap.size+1) (by omega) (.int .i64 0) (.int .i64 0) (.slice none 0 0)
  have s3:=Y2.c0;have s4:=Y2.c1;have s5:=Y2.c2
  have f3:=Y2.free 0;have f4:=Y2.free 1;have f5:=Y2.free 2
  have Z1:=Y1.three14 (g:=w.heap.size+1+1) (by omega) (.int .i64 0) (.int .i64 0) (.slice none 0 0)
  have Z2:=Y2.put (.int .i64 0) (.int .i64 0) (.slice none 0 0)
  have z0:=Z1.c0;have z1:=Z1.c1;have z2:=Z1.c2;have z3:=Z2.c0;have z4:=Z2.c1;have z5:=Z2.c2
  have BP:=hide (below_putM (below_putM (uH S2).bel (b:=w.heap.size+1) (by omega) (.int .i64 0) (.int .i64 0) (.slice none 0 0)) (b:=w.heap.size+1+1) (by omega) (.int .i64 0) (.int .i64 0) (.slice none 0 0))
  clear X1 X2 Y1 Y2 Z1 Z2 S2
  go_wp2_with fail
  exact bodyPost_ret (v:=.tuple #[.agg #[.int .i64 0,.int .i64 0,.slice none 0 0],.agg #[.int .i64 0,.int .i64 0,.slice none 0 0],.int .i64 2]) (by simp [results,Tryz.results25,go_sem,z0,z1,z2,z3,z4,z5]) rfl ⟨.inr ⟨uH hno,_,_,rfl,NewM.zero _ _,NewM.zero _ _⟩,uH BP⟩
end Go.Proofs.YtenpggicmfhhdaaGreatDoor
namespace Go.Proofs.YtenpggicmfhhdaaGreatDoor
open Go.RowKit
attribute [local go_sem ↓] Go.wp_at_zero Go.wp_at_succ
theorem hbelow_any (ao:Option Addr) (c:Nat) (I:List Int) (w:World) (hI:BitsAt w ao c I) (hn:I.length≤64) :
  Calls Tryz.prog 93 #[.slice ao I.length c] w fun e w'=>e = .returned (.bool (ldS (toN I)))∧Below w.heap.size w w':=by
 have HI:=hide hI
 obtain ⟨L,hL⟩:∃ L:Nat→Bool,L = fun j=>ldS ((toN I).drop j):=⟨_,rfl⟩
 have L0:ldS (toN I) = L 0:=by rw [hL];rfl
 have LE:∀ j,I.length≤j→L j = false:=fun j hj=>by
  rw [hL]
  show ldS ((toN I).drop j) = false
  rw [List.drop_eq_nil_of_le (by rw [toN_len];exact hj)]
  rfl
 have LS:∀ j,j < I.length→L j = if fK (atB I j) = 0 then L (j+1) else fS (atB I j):=fun j hj=>by
  rw [hL]
  show ldS ((toN I).drop j) = _
  rw [ldS_drop (toN I) (by rw [toN_len];exact hj),toN_getD I j hj]
 rw [L0]
 obtain ⟨v,hv⟩:∃ v,L 0 = v:=⟨_,rfl⟩
 have HE:=hide LE;have HS:=hide LS
 obtain ⟨n,hnn⟩:∃ n,I.length = n:=⟨_,rfl⟩
 rw [hnn] at hn HE HS ⊢
 rw [hv]
 have HN:=hide hnn
 have HV:=hide hv
 clear hI hL L0 LE LS hnn hv
 go_enter Tryz.func93,Tryz.ntmps93
 go_wp2_with fail
 go_loopw [7] (fun i wr=>∃ j:Nat,j≤n∧i = .int .i64 j∧Hid (L j = v)∧Hid (Below w.heap.size w wr)) (fun i _=>n - (intOf i).toNat)
 case atStart=>exact ⟨0,Nat.zero_le _,rfl,HV,Below.refl _ _⟩
 case round =>
  obtain ⟨j,hj,rfl,hL,hB⟩:=hrel
  by_cases hlt:j < n
  ·have hjI:(j:Int) < (n:Int):=by omega
   obtain ⟨b,off,hao,hb,hc⟩:=((uH HI).below hB.out).ne (by rw [uH HN];omega)
   have hck:=hide (hc j (by rw [uH HN];exact hlt))
   have C1:=hide (fun w'=>kind_any (atB I j) w' ((uH HI).lt j))
   have C2:=hide (fun w'=>ssign_any (atB I j) w' ((uH HI).lt j))
   have HJ:=hide (uH HS j hlt)
   subst hao
   clear hc
   by_cases g0:fK (atB I j) = 0
   ·have R2:=hide (show L (j+1) = v from by have:=uH HJ;rw [uH hL,if_pos g0] at this;exact this.symm)
    rw [g0] at C1
    clear HJ g0 C2
    generalize atB I j = x at *
    have hc0:=uH hck
    go_wp2_with fail
    refine (uH C1 _).mono ?_
    rintro e w2 ⟨rfl,hb2⟩
    have B2:Hid (Below w.heap.size w w2):=hB.out.trans (hb2.mono hB.out.size)
    clear C1 hb2 hck hc0 hB
    go_wp2_with fail
    go_round
    case rel=>exact ⟨j+1,by omega,by go_num,R2,B2⟩
    case measure=>simp [intOf];omega
   ·have R2:fS (atB I j) = v:=by have:=uH HJ;rw [uH hL,if_neg g0] at this;exact this.symm
    have g0':(fK (atB I j) == 0) = false:=by rw [beq_eq_false_iff_ne];exact g0
    rw [R2] at C2
    clear HJ R2
    generalize fK (atB I j) = kd at *
    generalize atB I j = x at *
    have hc0:=uH hck
    go_wp2_with fail
    refine (uH C1 _).mono ?_
    rintro e w2 ⟨rfl,hb2⟩
    have B2:Hid (Below w.heap.size w w2):=hB.out.trans (hb2.mono hB.out.size)
    clear C1 hb2 hck hc0 hB
    go_wp2_with fail
    refine (uH C2 _).mono ?_
    rintro e w3 ⟨rfl,hb2⟩
    have B3:Hid (Below w.heap.size w w3):=B2.out.trans (hb2.mono B2.out.size)
    clear C2 hb2 B2
    go_wp2_with fail
    exact bodyPost_ret (v:=.bool v) (by simp [results,Tryz.results93,go_sem]) rfl ⟨rfl,B3.out⟩
  ·have hv2:v = false:=by have:=uH HE j (by omega);rw [uH hL] at this;exact this
   subst hv2
   have hjI:(n:Int)≤(j:Int):=by omega
   go_wp2_with fail
   exact bodyPost_ret (v:=.bool false) (by simp [results,Tryz.results93,go_sem]) rfl ⟨rfl,hB.out⟩
theorem hbeta_of (ao:Option Addr) (n c m o:Nat) (s:Bool) (w:World) (h:(s = true∧o = m) ∨ (s = false∧o = fN m)) (hm:m < 18446744073709551616)
  (C1:Calls Tryz.prog 92 #[.slice ao n c] w fun e w''=>e = .returned (.tuple #[.int .u64 (m:Nat),.int .i64 0])∧Below w.heap.size w w'')
  (C2:∀ w',Below w.heap.size w w'→Calls Tryz.prog 93 #[.slice ao n c] w' fun e w''=>e = .returned (.bool s)∧Below w'.heap.size w' w'') :
  Calls Tryz.prog 73 #[.slice ao n c] w fun e w'=>e = .returned (.int .u64 (o:Nat))∧Below w.heap.size w w':=by
 have K1:=hide C1;have K2:=hide C2
 have K3:=hide (fun w'=>sminus_any m w' hm)
 clear C1 C2 hm
 rcases h with ⟨rfl,rfl⟩ | ⟨rfl,rfl⟩
 ·clear K3
  go_enter Tryz.func73,Tryz.ntmps73
  go_wp2_with fail
  refine Calls.mono (uH K1) ?_
  rintro e w1 ⟨rfl,hb1⟩
  have B1:=hide hb1
  clear K1 hb1
  go_wp2_with fail
  refine (uH K2 _ (uH B1)).mono ?_
  rintro e w2 ⟨rfl,hb2⟩
  have B2:=hide ((uH B1).trans (hb2.mono (uH B1).size))
  clear K2 hb2 B1
  go_wp2
  go_ret
  exact ⟨rfl,uH B2⟩
 ·generalize fN m = o at *
  go_enter Tryz.func73,Tryz.ntmps73
  go_wp2_with fail
  refine Calls.mono (uH K1) ?_
  rintro e w1 ⟨rfl,hb1⟩
  have B1:=hide hb1
  clear K1 hb1
  go_wp2_with fail
  refine (uH K2 _ (uH B1)).mono ?_
  rintro e w2 ⟨rfl,hb2⟩
  have B2:=hide ((uH B1).trans (hb2.mono (uH B1).size))
  clear K2 hb2 B1
  go_wp2_with fail
  refine (uH K3 _).mono ?_
  rintro e w3 ⟨rfl,rfl⟩
  clear K3
  go_wp2
  go_ret
  exact ⟨rfl,uH B2⟩
theorem hbeta_any (ao:Option Addr) (c:Nat) (I:List Int) (w:World) (hI:BitsAt w ao c I) (hn:I.length≤64) (hT:Tab w) :
  Calls Tryz.prog 73 #[.slice ao I.length c] w fun e w'=>e = .returned (.int .u64 ((if ldS (toN I) = true then nrV (toN I) else fN (nrV (toN I)):Nat):Nat))∧Below w.heap.size w w':=by
 have C1:=vNorm_ok ao c I w hI hn hT
 rw [nmV_nrV] at C1
 refine hbeta_of ao I.length c (nrV (toN I)) _ (ldS (toN I)) w ?_ (nrV_lt _) C1 (fun w' hb=>hbelow_any ao c I w' (hI.below hb) hn)
 cases ldS (toN I)
 ·exact .inr ⟨rfl,if_neg (by decide)⟩
 ·exact .inl ⟨rfl,if_pos rfl⟩
theorem hmake1_any (x:Nat) (w:World) :
  Calls Tryz.prog 72 #[.int .u64 x] w fun e w'=>e = .returned (.int .u64 (0:Nat))∧Below w.heap.size w w':=by
 go_enter Tryz.func72,Tryz.ntmps72
 go_wp2
 go_ret
 exact ⟨rfl,Below.refl _ _⟩
theorem hmake2_any (x d g:Nat) (w:World) (hx:x < 18446744073709551616) (hd:d < 18446744073709551616) (hg:w.cell? ⟨g,0,none⟩ = some (.int .u64 (d:Nat))) (hT:Tab w) :
  Calls Tryz.prog 75 #[.int .u64 x,.pointer (some ⟨g,0,none⟩)] w fun e w'=>e = .returned (.int .u64 (dV x d:Nat))∧Below w.heap.size w w':=by
 have K:=hide (pdiv_any x d w hx hd hT)
 generalize dV x d = o at *
 clear hx hd hT
 go_enter Tryz.func75,Tryz.ntmps75
 go_wp2_with fail
 refine Calls.mono (uH K) ?_
 rintro e w1 ⟨rfl,hb1⟩
 clear K
 go_wp2
 go_ret
 exact ⟨rfl,hb1⟩
def oaL (f:Nat→Nat) (k:Nat):List Nat:=4607182418800017408 :: fsL f k
theorem oaL_len (f:Nat→Nat) (k:Nat):(oaL f k).length = k+1:=by
 show (fsL f k).length+1 = _
 rw [fsL_len]
theorem oaL_succ (f:Nat→Nat) (k:Nat):oaL f (k+1) = oaL f k ++ [f k]:=by
 show 4607182418800017408 :: fsL f (k+1) = (4607182418800017408 :: fsL f k) ++ [f k]
 rw [fsL_succ]
 rfl
theorem oneAnd_any (fn:Nat) (caps:Array Value) (ao:Option Addr) (c:Nat) (J:List Int) (f:Nat→Nat) (w:World)
  (hcf:∀ args w,(callFunc fn args).run Tryz.prog w = .ok (.enter fn args) w) (hJ:BitsAt w ao c J) (hn:J.length≤64) (hf:∀ k,k < J.length→f k < 18446744073709551616)
  (hstep:∀ w' k,Below w.heap.size w w'→k < J.length→Calls Tryz.prog fn (#[.int .u64 (atB J k:Nat)] ++ caps) w' fun e w''=>e = .returned (.int .u64 (f k:Nat))∧Below w'.heap.size w' w'') :
  Calls Tryz.prog 71 #[.slice ao J.length c,.func (.func fn) #[] caps] w fun e w'=>∃ bo d,e = .returned (.slice bo (J.length+1:Nat) d)∧NewB w.heap.size bo (mxL (oaL f J.length))∧BitsAt w' bo d (mxL (oaL f J.length))∧Below w.heap.size w w':=by
 obtain ⟨i0,hi0,hz0,hz1,hz2⟩:=info_parts infoBits
 have HS:=hide hstep;have HF:=hide hf;have HJ:=hide hJ
 obtain ⟨n,hnn⟩:∃ n,J.length = n:=⟨_,rfl⟩
 rw [hnn] at hn HS HF ⊢
 have HN:=hide hnn
 obtain ⟨m,hm⟩:∃ m,n+1 = m:=⟨_,rfl⟩
 have hmI:(1:Int)+(n:Int) = (m:Int):=by omega
 obtain ⟨w1,hmk,own1,gr1⟩:=run_make_own (P:=Tryz.prog) w w.heap.size 22 30 i0 (.int .u64 0) 1 Tryz.underlying22 hi0 hz0 hz1 .i64 .i64 m (by rw [hz2];omega) (by unfold maxLen;omega) (by simp)
 have B1:Below w.heap.size w w1:=(Below.refl w.heap.size w).grown gr1 (by simp) (fun g hg=>by cases hg)
 have O1:OwnB w.heap.size w1 (.slice (some ⟨w.heap.size,0,none⟩) 0 m) []:=⟨by simpa using own1,by intro x hx;cases hx⟩
 generalize Value.slice (some ⟨w.heap.size,0,none⟩) 0 m = v1 at hmk O1
 obtain ⟨v2,w2,run2,own2,bel2,_,_⟩:=O1.push 4607182418800017408 (by decide) (by simp) B1.size 22
 have RUN:=hide (show (Builtin.append_ #[22,22] 22 #[v1,.slice (some ⟨w1.heap.size,0,none⟩) 1 1]).run Tryz.prog (w1.alloc (.cells #[.int .u64 4607182418800017408] 30)) = .ok v2 w2 from run2)
 have O2:=hide (show OwnB w.heap.size w2 v2 (oaL f 0) from own2)
 have B2:=hide (B1.trans bel2)
 clear own1 gr1 O1 B1 run2 own2 bel2 hstep hf hJ hnn
 go_enter Tryz.func71,Tryz.ntmps71
 go_wp2_with (at_builtin;refine wpList_append_ran _ rfl _ _ 22 rfl _ _ _ _ rfl rfl (uH RUN) ?_;clear RUN)
 clear hmk
 go_loopw [5,17] (fun v i wr=>∃ k:Nat,k≤n∧i = .int .i64 k∧Hid (OwnB w.heap.size wr v (oaL f k))∧Hid (Below w.heap.size w wr)) (fun _ i _=>n - (intOf i).toNat)
 case atStart=>exact ⟨0,Nat.zero_le _,rfl,O2,B2⟩
 case round =>
  clear O2 B2
  obtain ⟨k,hk,rfl,hO,hB⟩:=hrel
  by_cases hlt:k < n
  ·have hkI:(k:Int) < (n:Int):=by omega
   obtain ⟨b,off,hao,hb,hc⟩:=((uH HJ).below hB.out).ne (by rw [uH HN];omega)
   have hck:=hc k (by rw [uH HN];exact hlt)
   have C:=hide (fun w' h=>uH HS w' k h hlt)
   have ho:=hide (uH HF k hlt)
   have eo:=hide (show f k = f k from rfl)
   have hlen:=hide (show (oaL f k).length≤1000000 from by rw [oaL_len];omega)
   subst hao
   clear hc
   obtain ⟨o,eo⟩:∃ o,f k = o:=⟨_,rfl⟩
   rw [eo] at C ho
   have eV:=hide eo
   clear eo
   generalize atB J k = x at *
   go_wp2_with fail
   refine (uH C _ hB.out).mono ?_
   rintro e w2 ⟨rfl,hb2⟩
   have own2:=(uH hO).below hb2
   have B2:=hB.out.trans (hb2.mono hB.out.size)
   obtain ⟨v3,w3,run3,own3,bel3,_,_⟩:=own2.push o (uH ho) (uH hlen) B2.size 22
   have RUN:=hide run3
   have O3:=hide (show OwnB w.heap.size w3 v3 (oaL f (k+1)) from by
    rw [oaL_succ,uH eV];exact own3)
   have B3:=hide (B2.trans bel3)
   clear hb2 C hO hB own2 B2 run3 own3 bel3 ho eV hlen hck
   go_wp2_with (at_builtin;refine wpList_append_ran _ rfl _ _ 22 rfl _ _ _ _ rfl rfl (uH RUN) ?_;clear RUN)
   go_round
   case rel=>exact ⟨k+1,by omega,by go_num,O3,B3⟩
   case measure=>simp [intOf];omega
  ·have hkk:k = n:=by omega
   subst hkk
   obtain ⟨b1,d1,e1,q1⟩:=(uH hO).bits
   rw [oaL_len,hm] at e1
   subst e1
   have HNew:=hide (uH hO).newB
   have Q1:=hide q1
   clear q1 hO
   go_wp2_with fail
   exact bodyPost_ret (v:=.slice b1 m d1) (by simp [results,Tryz.results71,go_sem]) rfl ⟨b1,d1,by rw [hm],uH HNew,uH Q1,hB.out⟩
end Go.Proofs.YtenpggicmfhhdaaGreatDoor
namespace Go.Proofs.YtenpggicmfhhdaaGreatDoor
open Go.RowKit
attribute [local go_sem ↓] Go.wp_at_zero Go.wp_at_succ
theorem hmake_inf (ao:Option Addr) (n c:Nat) (w:World) (h1:1≤n) (h2:n≤64)
  (C1:Calls Tryz.prog 37 #[.slice ao n c] w fun e w''=>e = .returned (.bool false)∧Below w.heap.size w w'') :
  Calls Tryz.prog 51 #[.slice ao n c] w fun e w'=>e = .returned (.tuple #[.slice none 0 0,.int .u64 0,.int .u64 0,.int .i64 4])∧Below w.heap.size w w':=by
 have K1:=hide C1
 have h1I:(n:Int)≤64:=by omega
 have h2I:¬ (n:Int) = 0:=by omega
 have e0:((n:Int) == 0) = false:=by rw [beq_eq_false_iff_ne];exact h2I
 clear C1
 go_enter Tryz.func51,Tryz.ntmps51
 go_wp2_with fail
 refine Calls.mono (uH K1) ?_
 rintro e w1 ⟨rfl,hb1⟩
 clear K1
 go_wp2
 exact bodyPost_ret (v:=.tuple #[.slice none 0 0,.int .u64 0,.int .u64 0,.int .i64 4]) (by simp [results,Tryz.results51,go_sem]) rfl ⟨rfl,hb1⟩
theorem box_new13 (w:World) (d:Nat):(w.alloc (.cells #[.int .u64 (d:Nat)] 30)).cell? ⟨w.heap.size,0,none⟩ = some (.int .u64 (d:Nat)):=by
 rw [cell_of_row _ w.heap.size 0 _ _ _ (heap_alloc_new w (.cells #[.int .u64 (d:Nat)] 30))]
 rfl
theorem box_two13 (w:World) (bt d:Nat) (hbt:bt < 18446744073709551616) (hd:d < 18446744073709551616) :
  BitsAt ((w.alloc (.cells #[.int .u64 (d:Nat)] 30)).alloc (.cells #[.int .u64 (bt:Nat),.int .u64 (d:Nat)] 30)) (some ⟨w.heap.size+1,0,none⟩) 2 [(bt:Int),(d:Int)]∧Below w.heap.size w ((w.alloc (.cells #[.int .u64 (d:Nat)] 30)).alloc (.cells #[.int .u64 (bt:Nat),.int .u64 (d:Nat)] 30))∧((w.alloc (.cells #[.int .u64 (d:Nat)] 30)).alloc (.cells #[.int .u64 (bt:Nat),.int .u64 (d:Nat)] 30)).cell? ⟨w.heap.size,0,none⟩ = some (.int .u64 (d:Nat)):=by
 have h1:=two_bits (w.alloc (.cells #[.int .u64 (d:Nat)] 30)) bt d hbt hd
 rw [size_alloc9] at h1
 have b1:=below_alloc9 w (.cells #[.int .u64 (d:Nat)] 30)
 have b2:=below_alloc9 (w.alloc (.cells #[.int .u64 (d:Nat)] 30)) (.cells #[.int .u64 (bt:Nat),.int .u64 (d:Nat)] 30)
 exact ⟨h1,b1.trans (b2.mono b1.size),cell_keep (box_new13 w d) b2⟩
theorem hmake_flat1 (b off c a:Nat) (w:World) (hc:1≤c)
  (hx:w.cell? ⟨b,off,none⟩ = some (.int .u64 (a:Nat)))
  (C1:Calls Tryz.prog 37 #[.slice (some ⟨b,off,none⟩) 1 c] w fun e w''=>e = .returned (.bool true)∧Below w.heap.size w w'')
  (C2:∀ w',Below w.heap.size w w'→Calls Tryz.prog 70 #[.slice (some ⟨b,off,none⟩) 0 0] w' fun e w''=>e = .returned (.int .u64 (0:Nat))∧Below w'.heap.size w' w'')
  (S:List Nat)
  (C3:∀ w',Below w.heap.size w w'→Calls Tryz.prog 71 #[.slice (some ⟨b,off,none⟩) 0 0,.func (.func 72) #[] #[]] w' fun e w''=>∃ vo vc,e = .returned (.slice vo 1 vc)∧NewB w'.heap.size vo (mxL S)∧BitsAt w'' vo vc (mxL S)∧Below w'.heap.size w' w'') :
  Calls Tryz.prog 51 #[.slice (some ⟨b,off,none⟩) 1 c] w fun e w'=>∃ vo vc,e = .returned (.tuple #[.slice vo 1 vc,.int .u64 0,.int .u64 (a:Nat),.int .i64 0])∧NewB w.heap.size vo (mxL S)∧BitsAt w' vo vc (mxL S)∧Below w.heap.size w w':=by
 have K1:=hide C1;have K2:=hide C2;have K3:=hide C3
 have h4I:(1:Int)≤(c:Int):=by omega
 clear C1 C2 C3
 go_enter Tryz.func51,Tryz.ntmps51
 go_wp2_with fail
 refine Calls.mono (uH K1) ?_
 rintro e w1 ⟨rfl,hb1⟩
 have c0:=cell_keep hx hb1
 have B1:=hide hb1
 clear K1 hx hb1
 go_wp2_with fail
 go_quiet (fail)
 clear c0
 go_wp2_with fail
 have B2:=hide (below_drewN (uH B1) nq)
 clear B1
 refine (uH K2 _ (uH B2)).mono ?_
 rintro e w2 ⟨rfl,hb2⟩
 have B3:=hide ((uH B2).trans (hb2.mono (uH B2).size))
 clear K2 B2 hb2
 go_wp2_with fail
 refine (uH K3 _ (uH B3)).mono ?_
 rintro e w3 ⟨vo,vc,rfl,hn,hs,hb3⟩
 have B4:=hide ((uH B3).trans (hb3.mono (uH B3).size))
 have HN:=hide (NewB.least hn (uH B3).size)
 have HS:=hide hs
 clear K3 B3 hb3 hn hs
 go_wp2
 exact bodyPost_ret (v:=.tuple #[.slice vo 1 vc,.int .u64 0,.int .u64 (a:Nat),.int .i64 0]) (by simp [results,Tryz.results51,go_sem]) rfl ⟨vo,vc,rfl,uH HN,uH HS,uH B4⟩
theorem hmake_flat (b off n c a:Nat) (w:World) (h1:2≤n) (h2:n≤64) (hc:n≤c)
  (hx:w.cell? ⟨b,off,none⟩ = some (.int .u64 (a:Nat)))
  (C1:Calls Tryz.prog 37 #[.slice (some ⟨b,off,none⟩) n c] w fun e w''=>e = .returned (.bool true)∧Below w.heap.size w w'')
  (C2:∀ w',Below w.heap.size w w'→Calls Tryz.prog 70 #[.slice (some ⟨b,off+1,none⟩) (n - 1) (n - 1)] w' fun e w''=>e = .returned (.int .u64 (0:Nat))∧Below w'.heap.size w' w'')
  (S:List Nat)
  (C3:∀ w',Below w.heap.size w w'→Calls Tryz.prog 71 #[.slice (some ⟨b,off+1,none⟩) (n - 1) (n - 1),.func (.func 72) #[] #[]] w' fun e w''=>∃ vo vc,e = .returned (.slice vo n vc)∧NewB w'.heap.size vo (mxL S)∧BitsAt w'' vo vc (mxL S)∧Below w'.heap.size w' w'') :
  Calls Tryz.prog 51 #[.slice (some ⟨b,off,none⟩) n c] w fun e w'=>∃ vo vc,e = .returned (.tuple #[.slice vo n vc,.int .u64 0,.int .u64 (a:Nat),.int .i64 0])∧NewB w.heap.size vo (mxL S)∧BitsAt w' vo vc (mxL S)∧Below w.heap.size w w':=by
 have K1:=hide C1;have K2:=hide C2;have K3:=hide C3
 have h1I:(n:Int)≤64:=by omega
 have h3I:(2:Int)≤(n:Int):=by omega
 have h4I:(n:Int)≤(c:Int):=by omega
 have h2I:¬ (n:Int) = 0:=by omega
 have e0:((n:Int) == 0) = false:=by rw [beq_eq_false_iff_ne];exact h2I
 have e1:decide ((64:Int) < (n:Int)) = false:=decide_eq_false (by omega)
 clear C1 C2 C3
 go_enter Tryz.func51,Tryz.ntmps51
 go_wp2_with fail
 refine Calls.mono (uH K1) ?_
 rintro e w1 ⟨rfl,hb1⟩
 have c0:=cell_keep hx hb1
 have B1:=hide hb1
 clear K1 hx hb1
 go_wp2_with fail
 go_quiet (fail)
 clear c0
 go_wp2_with fail
 have B2:=hide (below_drewN (uH B1) nq)
 clear B1
 refine (uH K2 _ (uH B2)).mono ?_
 rintro e w2 ⟨rfl,hb2⟩
 have B3:=hide ((uH B2).trans (hb2.mono (uH B2).size))
 clear K2 B2 hb2
 go_wp2_with fail
 refine (uH K3 _ (uH B3)).mono ?_
 rintro e w3 ⟨vo,vc,rfl,hn,hs,hb3⟩
 have B4:=hide ((uH B3).trans (hb3.mono (uH B3).size))
 have HN:=hide (NewB.least hn (uH B3).size)
 have HS:=hide hs
 clear K3 B3 hb3 hn hs
 go_wp2
 exact bodyPost_ret (v:=.tuple #[.slice vo n vc,.int .u64 0,.int .u64 (a:Nat),.int .i64 0]) (by simp [results,Tryz.results51,go_sem]) rfl ⟨vo,vc,rfl,uH HN,uH HS,uH B4⟩
theorem hmake_range (b off n c a m bt d:Nat) (w:World) (h1:2≤n) (h2:n≤64) (hc:n≤c) (hm:¬ m = 0) (hbt:bt < 18446744073709551616) (hd:d < 18446744073709551616)
  (hx:w.cell? ⟨b,off,none⟩ = some (.int .u64 (a:Nat)))
  (C1:Calls Tryz.prog 37 #[.slice (some ⟨b,off,none⟩) n c] w fun e w''=>e = .returned (.bool true)∧Below w.heap.size w w'')
  (C2:∀ w',Below w.heap.size w w'→Calls Tryz.prog 70 #[.slice (some ⟨b,off+1,none⟩) (n - 1) (n - 1)] w' fun e w''=>e = .returned (.int .u64 (m:Nat))∧Below w'.heap.size w' w'')
  (C4:∀ w',Below w.heap.size w w'→Calls Tryz.prog 73 #[.slice (some ⟨b,off,none⟩) n c] w' fun e w''=>e = .returned (.int .u64 (bt:Nat))∧Below w'.heap.size w' w'')
  (C5:∀ w',Below w.heap.size w w'→Calls Tryz.prog 74 #[.int .u64 a,.int .u64 bt] w' fun e w''=>e = .returned (.int .u64 (d:Nat))∧Below w'.heap.size w' w'')
  (C6:∀ w' ao,Below w.heap.size w w'→BitsAt w' ao 2 [(bt:Int),(d:Int)]→Calls Tryz.prog 37 #[.slice ao 2 2] w' fun e w''=>e = .returned (.bool false)∧Below w'.heap.size w' w'') :
  Calls Tryz.prog 51 #[.slice (some ⟨b,off,none⟩) n c] w fun e w'=>e = .returned (.tuple #[.slice none 0 0,.int .u64 0,.int .u64 0,.int .i64 2])∧Below w.heap.size w w':=by
 have K1:=hide C1;have K2:=hide C2;have K4:=hide C4;have K5:=hide C5;have K6:=hide C6
 have h1I:(n:Int)≤64:=by omega
 have h3I:(2:Int)≤(n:Int):=by omega
 have h4I:(n:Int)≤(c:Int):=by omega
 have h2I:¬ (n:Int) = 0:=by omega
 have e0:((n:Int) == 0) = false:=by rw [beq_eq_false_iff_ne];exact h2I
 have e1:decide ((64:Int) < (n:Int)) = false:=decide_eq_false (by omega)
 have em:((m:Int) == 0) = false:=by rw [beq_eq_false_iff_ne];omega
 have HBT:=hide hbt;have HD:=hide hd
 clear hbt hd
 clear C1 C2 C4 C5 C6
 go_enter Tryz.func51,Tryz.ntmps51
 go_wp2_with fail
 refine Calls.mono (uH K1) ?_
 rintro e w1 ⟨rfl,hb1⟩
 have c0:=cell_keep hx hb1
 have B1:=hide hb1
 clear K1 hx hb1
 go_wp2_with fail
 go_quiet (fail)
 clear c0
 go_wp2_with fail
 have B2:=hide (below_drewN (uH B1) nq)
 clear B1
 refine (uH K2 _ (uH B2)).mono ?_
 rintro e w2 ⟨rfl,hb2⟩
 have B3:=hide ((uH B2).trans (hb2.mono (uH B2).size))
 clear K2 B2 hb2
 go_wp2_with fail
 refine (uH K4 _ (uH B3)).mono ?_
 rintro e w3 ⟨rfl,hb3⟩
 have B4:=hide ((uH B3).trans (hb3.mono (uH B3).size))
 clear K4 B3 hb3
 go_wp2_with fail
 refine (uH K5 _ (uH B4)).mono ?_
 rintro e w4 ⟨rfl,hb3⟩
 have B5:=hide ((uH B4).trans (hb3.mono (uH B4).size))
 clear K5 B4 hb3
 go_wp2_with fail
 obtain ⟨hb1,hb2,hb3⟩:=box_two13 w4 bt d (uH HBT) (uH HD)
 have B6:=hide ((uH B5).trans (hb2.mono (uH B5).size))
 have CB:=hide hb3
 refine (uH K6 _ _ (uH B6) hb1).mono ?_
 clear hb1 hb2 hb3
 rintro e w5 ⟨rfl,hb3⟩
 have B7:=hide ((uH B6).trans (hb3.mono (uH B6).size))
 have CD:=hide (cell_keep (uH CB) hb3)
 clear K6 B5 B6 CB hb3 HBT HD
 go_wp2
 exact bodyPost_ret (v:=.tuple #[.slice none 0 0,.int .u64 0,.int .u64 0,.int .i64 2]) (by simp [results,Tryz.results51,go_sem]) rfl ⟨rfl,uH B7⟩
theorem hmake_ok (b off n c a m bt d u t:Nat) (w:World) (h1:2≤n) (h2:n≤64) (hc:n≤c) (hm:¬ m = 0) (hbt:bt < 18446744073709551616) (hd:d < 18446744073709551616)
  (hx:w.cell? ⟨b,off,none⟩ = some (.int .u64 (a:Nat)))
  (C1:Calls Tryz.prog 37 #[.slice (some ⟨b,off,none⟩) n c] w fun e w''=>e = .returned (.bool true)∧Below w.heap.size w w'')
  (C2:∀ w',Below w.heap.size w w'→Calls Tryz.prog 70 #[.slice (some ⟨b,off+1,none⟩) (n - 1) (n - 1)] w' fun e w''=>e = .returned (.int .u64 (m:Nat))∧Below w'.heap.size w' w'')
  (C4:∀ w',Below w.heap.size w w'→Calls Tryz.prog 73 #[.slice (some ⟨b,off,none⟩) n c] w' fun e w''=>e = .returned (.int .u64 (bt:Nat))∧Below w'.heap.size w' w'')
  (C5:∀ w',Below w.heap.size w w'→Calls Tryz.prog 74 #[.int .u64 a,.int .u64 bt] w' fun e w''=>e = .returned (.int .u64 (d:Nat))∧Below w'.heap.size w' w'')
  (C6:∀ w' ao,Below w.heap.size w w'→BitsAt w' ao 2 [(bt:Int),(d:Int)]→Calls Tryz.prog 37 #[.slice ao 2 2] w' fun e w''=>e = .returned (.bool true)∧Below w'.heap.size w' w'')
  (S:List Nat)
  (C7:∀ w' g,Below w.heap.size w w'→w'.cell? ⟨g,0,none⟩ = some (.int .u64 (d:Nat))→Calls Tryz.prog 71 #[.slice (some ⟨b,off+1,none⟩) (n - 1) (n - 1),.func (.func 75) #[] #[.pointer (some ⟨g,0,none⟩)]] w' fun e w''=>∃ vo vc,e = .returned (.slice vo n vc)∧NewB w'.heap.size vo (mxL S)∧BitsAt w'' vo vc (mxL S)∧Below w'.heap.size w' w'')
  (C8:∀ w',Below w.heap.size w w'→Calls Tryz.prog 74 #[.int .u64 bt,.int .u64 a] w' fun e w''=>e = .returned (.int .u64 (u:Nat))∧Below w'.heap.size w' w'')
  (C9:∀ w',Below w.heap.size w w'→Calls Tryz.prog 76 #[.int .u64 u,.int .u64 bt] w' fun e w''=>e = .returned (.int .u64 (t:Nat))∧Below w'.heap.size w' w'') :
  Calls Tryz.prog 51 #[.slice (some ⟨b,off,none⟩) n c] w fun e w'=>∃ vo vc,e = .returned (.tuple #[.slice vo n vc,.int .u64 (t:Nat),.int .u64 (bt:Nat),.int .i64 0])∧NewB w.heap.size vo (mxL S)∧BitsAt w' vo vc (mxL S)∧Below w.heap.size w w':=by
 have K1:=hide C1;have K2:=hide C2;have K4:=hide C4;have K5:=hide C5;have K6:=hide C6;have K7:=hide C7;have K8:=hide C8;have K9:=hide C9
 have h1I:(n:Int)≤64:=by omega
 have h3I:(2:Int)≤(n:Int):=by omega
 have h4I:(n:Int)≤(c:Int):=by omega
 have h2I:¬ (n:Int) = 0:=by omega
 have e0:((n:Int) == 0) = false:=by rw [beq_eq_false_iff_ne];exact h2I
 have e1:decide ((64:Int) < (n:Int)) = false:=decide_eq_false (by omega)
 have em:((m:Int) == 0) = false:=by rw [beq_eq_false_iff_ne];omega
 have HBT:=hide hbt;have HD:=hide hd
 clear hbt hd
 clear C1 C2 C4 C5 C6 C7 C8 C9
 go_enter Tryz.func51,Tryz.ntmps51
 go_wp2_with fail
 refine Calls.mono (uH K1) ?_
 rintro e w1 ⟨rfl,hb1⟩
 have c0:=cell_keep hx hb1
 have B1:=hide hb1
 clear K1 hx hb1
 go_wp2_with fail
 go_quiet (fail)
 clear c0
 go_wp2_with fail
 have B2:=hide (below_drewN (uH B1) nq)
 clear B1
 refine (uH K2 _ (uH B2)).mono ?_
 rintro e w2 ⟨rfl,hb2⟩
 have B3:=hide ((uH B2).trans (hb2.mono (uH B2).size))
 clear K2 B2 hb2
 go_wp2_with fail
 refine (uH K4 _ (uH B3)).mono ?_
 rintro e w3 ⟨rfl,hb3⟩
 have B4:=hide ((uH B3).trans (hb3.mono (uH B3).size))
 clear K4 B3 hb3
 go_wp2_with fail
 refine (uH K5 _ (uH B4)).mono ?_
 rintro e w4 ⟨rfl,hb3⟩
 have B5:=hide ((uH B4).trans (hb3.mono (uH B4).size))
 clear K5 B4 hb3
 go_wp2_with fail
 obtain ⟨hb1,hb2,hb3⟩:=box_two13 w4 bt d (uH HBT) (uH HD)
 have B6:=hide ((uH B5).trans (hb2.mono (uH B5).size))
 have CB:=hide hb3
 refine (uH K6 _ _ (uH B6) hb1).mono ?_
 clear hb1 hb2 hb3
 rintro e w5 ⟨rfl,hb3⟩
 have B7:=hide ((uH B6).trans (hb3.mono (uH B6).size))
 have CD:=hide (cell_keep (uH CB) hb3)
 clear K6 B5 B6 CB hb3 HBT HD
 go_wp2_with fail
 refine (uH K7 _ _ (uH B7) (uH CD)).mono ?_
 rintro e w6 ⟨vo,vc,rfl,hn,hs,hb3⟩
 have B8:=hide ((uH B7).trans (hb3.mono (uH B7).size))
 have HN:=hide (NewB.least hn (uH B7).size)
 have HS:=hide hs
 clear K7 B7 hb3 hn hs CD
 go_wp2_with fail
 refine (uH K8 _ (uH B8)).mono ?_
 rintro e w7 ⟨rfl,hb3⟩
 have B9:=hide ((uH B8).trans (hb3.mono (uH B8).size))
 replace HS:=hide ((uH HS).below hb3)
 clear K8 B8 hb3
 go_wp2_with fail
 refine (uH K9 _ (uH B9)).mono ?_
 rintro e w8 ⟨rfl,hb3⟩
 have BA:=hide ((uH B9).trans (hb3.mono (uH B9).size))
 replace HS:=hide ((uH HS).below hb3)
 clear K9 B9 hb3
 go_wp2
 exact bodyPost_ret (v:=.tuple #[.slice vo n vc,.int .u64 (t:Nat),.int .u64 (bt:Nat),.int .i64 0]) (by simp [results,Tryz.results51,go_sem]) rfl ⟨vo,vc,rfl,uH HN,uH HS,uH BA⟩
end Go.Proofs.YtenpggicmfhhdaaGreatDoor
