/- Part 34 of the texts. -/
import Derived.Test.YtlnphkioddknfaaGreatDoorPartq33
import Derived.Test.YtlnphkioddknfaaGreatDoorPartq32
import Derived.Deep.RegionWith
import Derived.Deep.RegionLaw
set_option maxHeartbeats 8000000
set_option maxRecDepth 20000
namespace Go.Proofs.YtlnphkioddknfaaGreatDoor
def colL (c:Nat) (S:List Nat) (i n q:Nat):List Nat:=(List.range n).map (fun j=>elM c S (i+j) q)
def apL (c:Nat) (S:List Nat) (i q:Nat) (vs:List Nat) (tau:Nat):List Nat:=apV (mV tau (dtV 0 vs (colL c S i vs.length q))) vs (colL c S i vs.length q)
def apM (r c:Nat) (S:List Nat) (i k:Nat) (vs:List Nat) (tau:Nat):List Nat:=mkM r c (fun p q=>if k≤q∧i≤p∧p < i+vs.length then (apL c S i q vs tau).getD (p - i) 0 else elM c S p q)
theorem colL_len (c:Nat) (S:List Nat) (i n q:Nat):(colL c S i n q).length = n:=by simp [colL]
theorem apM_len (r c:Nat) (S:List Nat) (i k:Nat) (vs:List Nat) (tau:Nat):(apM r c S i k vs tau).length = r * c:=mkM_len _ _ _
theorem apV_len (t:Nat):∀ (vs ys:List Nat),vs.length = ys.length→(apV t vs ys).length = vs.length:=by
 intro vs
 induction vs with
 | nil=>intro ys _;rfl
 | cons v vs ih =>
  intro ys h
  match ys with
  | []=>cases h
  | y :: ys =>
   show (apV t vs ys).length+1 = vs.length+1
   rw [ih ys (by simpa using h)]
theorem apV_at (t:Nat):∀ (vs ys:List Nat) (j:Nat),vs.length = ys.length→j < vs.length→(apV t vs ys).getD j 0 = aV (ys.getD j 0) (fN (mV t (vs.getD j 0))):=by
 intro vs
 induction vs with
 | nil=>intro ys j _ hj;exact absurd hj (Nat.not_lt_zero j)
 | cons v vs ih =>
  intro ys j h hj
  match ys with
  | []=>cases h
  | y :: ys =>
   match j with
   | 0=>rfl
   | j+1=>exact ih ys j (by simpa using h) (by simpa using hj)
theorem colL_at (c:Nat) (S:List Nat) (i n q:Nat) {j:Nat} (hj:j < n):(colL c S i n q).getD j 0 = elM c S (i+j) q:=by
 simp [colL,List.getD_eq_getElem?_getD,hj]
theorem el_ap (r c:Nat) (S:List Nat) (i k:Nat) (vs:List Nat) (tau:Nat) {p q:Nat} (hp:p < r) (hq:q < c):elM c (apM r c S i k vs tau) p q = if k≤q∧i≤p∧p < i+vs.length then (apL c S i q vs tau).getD (p - i) 0 else elM c S p q:=el_mk r c _ hp hq
theorem list_range (L:List Nat):L = (List.range L.length).map (fun j=>L.getD j 0):=by
 refine List.ext_getElem (by simp) (fun j h1 h2=>?_)
 simp [List.getD_eq_getElem?_getD,h1]
end Go.Proofs.YtlnphkioddknfaaGreatDoor
namespace Go.Proofs.YtlnphkioddknfaaGreatDoor
open Go.RowKit
attribute [local go_sem ↓] Go.wp_at_zero Go.wp_at_succ
structure LpSt (w wr:World) (g gr p q:Nat) (mo:Option Addr) (mc:Nat) (S:List Nat):Prop where
 bel:Below w.heap.size w wr
 box:BoxM wr g (.int .i64 p) (.int .i64 q) (.slice mo S.length mc)
 res:BoxM wr gr (.int .i64 0) (.int .i64 0) (.slice none 0 0)
 bits:BitsAt wr mo mc (mxL S)
 ne:gr ≠ g
 lo:w.heap.size≤g
theorem LpSt.all {w wr w':World} {g gr p q:Nat} {mo:Option Addr} {mc:Nat} {S:List Nat} (h:LpSt w wr g gr p q mo mc S) (hb:Below wr.heap.size wr w'):LpSt w w' g gr p q mo mc S :=
 ⟨h.bel.trans (hb.mono h.bel.size),h.box.all hb,h.res.all hb,h.bits.below hb,h.ne,h.lo⟩
theorem LpSt.put {w wr:World} {g gr p q:Nat} {mo:Option Addr} {mc:Nat} {S:List Nat} (h:LpSt w wr g gr p q mo mc S) {no:Option Addr} {nc:Nat} {T:List Nat} (hT:BitsAt wr no nc (mxL T)) :
  LpSt w (((wr.setCell ⟨g,0,none⟩ (.int .i64 p)).setCell ⟨g,1,none⟩ (.int .i64 q)).setCell ⟨g,2,none⟩ (.slice no T.length nc)) g gr p q no nc T :=
 ⟨below_putM h.bel h.lo _ _ _,h.box.put _ _ _,((h.res.other (p:=⟨g,0,none⟩) h.ne _).other (p:=⟨g,1,none⟩) h.ne _).other (p:=⟨g,2,none⟩) h.ne _,hT.putM h.box _ _ _,h.ne,h.lo⟩
theorem NewM.any {w:World} {r c:Nat} {S:List Nat} {ao:Option Addr} {cap:Nat} (h:BitsAt w ao cap (mxL S)):NewM 0 w r c S (.agg #[.int .i64 r,.int .i64 c,.slice ao S.length cap]):=by
 refine ⟨ao,cap,rfl,?_,h⟩
 rcases h.2.2 with e | ⟨b,off,e1,_,_⟩
 ·exact .inl e
 ·exact .inr ⟨b,off,e1,Nat.zero_le _⟩
def eyJ (n j:Nat):List Nat:=mkM n n (fun i k=>if k = i∧i < j then 4607182418800017408 else 0)
theorem eyJ_0 (n:Nat):eyJ n 0 = List.replicate (n * n) 0:=by
 rw [mkM_noughts]
 exact mkM_congr (fun i k _ _=>if_neg (by omega))
theorem eyJ_set (n j:Nat) (hj:j < n):(eyJ n j).set (j * n+j) 4607182418800017408 = eyJ n (j+1):=by
 unfold eyJ
 rw [mkM_set n n _ _ hj hj]
 refine mkM_congr (fun x y _ _=>?_)
 by_cases h:x = j∧y = j
 ·rw [if_pos h,if_pos (by omega)]
 ·rw [if_neg h]
  by_cases e:y = x∧x < j
  ·rw [if_pos e,if_pos (by omega)]
  ·rw [if_neg e,if_neg (by omega)]
theorem eyJ_all (n:Nat):eyJ n n = eyM n:=mkM_congr (fun i k hi _=>by
 by_cases e:k = i
 ·rw [if_pos ⟨e,hi⟩,if_pos e]
 ·rw [if_neg (fun h=>e h.1),if_neg e])
theorem eyJ_len (n j:Nat):(eyJ n j).length = n * n:=mkM_len _ _ _
theorem reye_any (n:Nat) (w:World) (hn:n≤6) :
  Calls Tryz.prog 25 #[.int .i64 n] w fun e w'=>∃ v,e = .returned v∧NewM 0 w' n n (eyM n) v∧Below w.heap.size w w':=by
 have K1:=hide (fun w'=>rzeros_any n n w' hn hn)
 have b0:=below_alloc9 w (.cells #[.int .i64 0,.int .i64 0,.slice none 0 0] 24)
 have X0:=BoxM.new w (.int .i64 0) (.int .i64 0) (.slice none 0 0)
 have s0:=size_alloc9 w (.cells #[.int .i64 0,.int .i64 0,.slice none 0 0] 24)
 have HB0:=hide b0;have HX0:=hide X0;have HS0:=hide s0
 clear b0 X0 s0
 go_enter Tryz.func25,Tryz.ntmps25
 go_wp2_with fail
 refine (uH K1 _).mono ?_
 rintro e w1 ⟨v,rfl,⟨mo,mc,rfl,nw,qs⟩,hb1⟩
 have ba:=below_alloc9 w1 (.cells #[.int .i64 n,.int .i64 n,.slice mo (List.replicate (n * n) 0).length mc] 24)
 have BB:=(uH HB0).trans (hb1.mono (uH HB0).size)
 have L0:=hide (show LpSt w (w1.alloc (.cells #[.int .i64 n,.int .i64 n,.slice mo (eyJ n 0).length mc] 24)) w1.heap.size w.heap.size n n mo mc (eyJ n 0) from by
  rw [eyJ_0]
  exact ⟨BB.trans (ba.mono BB.size),BoxM.new w1 _ _ _,((uH HX0).all hb1).all ba,qs.below ba,by have:=hb1.size;rw [uH HS0] at this;omega,BB.size⟩)
 rw [← eyJ_0]
 clear K1 hb1 ba BB nw qs HB0 HX0 HS0
 go_wp2_with fail
 generalize w1.heap.size = g at *
 go_loopw [4] (fun i wr=>∃ (j:Nat) (no:Option Addr) (nc:Nat),j≤n∧i = .int .i64 j∧Hid (LpSt w wr g w.heap.size n n no nc (eyJ n j))) (fun i _=>n - (intOf i).toNat)
 case atStart=>exact ⟨0,mo,mc,Nat.zero_le _,rfl,L0⟩
 case round =>
  clear L0
  obtain ⟨j,no,nc,hj,rfl,hL⟩:=hrel
  have y0:=(uH hL).box.c0;have y1:=(uH hL).box.c1;have y2:=(uH hL).box.c2
  by_cases hlt:j < n
  ·have hjI:(j:Int) < (n:Int):=by omega
   have C:=hide (rwith_any n n nc j j 4607182418800017408 no (eyJ n j) _ ⟨(uH hL).bits,eyJ_len n j,hn,hn⟩ hlt hlt (by decide))
   rw [eyJ_set n j hlt,show ((4607182418800017408:Nat):Int) = 4607182418800017408 from rfl] at C
   generalize (eyJ n j).length = l at *
   go_wp2_with fail
   refine Calls.mono (uH C) ?_
   rintro e w2 ⟨v,rfl,⟨no',nc',rfl,_,q2⟩,hb2⟩
   have L2:=(uH hL).all hb2
   have f0:=L2.box.free 0;have f1:=L2.box.free 1;have f2:=L2.box.free 2
   have u0:=L2.box.c0;have u1:=L2.box.c1;have u2:=L2.box.c2
   have L3:=hide (L2.put q2)
   clear C hb2 L2 hL y0 y1 y2 q2
   go_wp2_with fail
   go_round
   case rel=>exact ⟨j+1,no',nc',by omega,by go_num,L3⟩
   case measure=>simp [intOf];omega
  ·have hjj:j = n:=by omega
   subst hjj
   rw [eyJ_all] at hL y2
   have r0:=(uH hL).res.c0;have r1:=(uH hL).res.c1;have r2:=(uH hL).res.c2
   have f0:=(uH hL).res.free 0;have f1:=(uH hL).res.free 1;have f2:=(uH hL).res.free 2
   have XP:=(uH hL).res.put (.int .i64 j) (.int .i64 j) (.slice no (eyM j).length nc)
   have z0:=XP.c0;have z1:=XP.c1;have z2:=XP.c2
   have Q:=hide (BitsAt.putM (uH hL).bits (uH hL).res (.int .i64 j) (.int .i64 j) (.slice no (eyM j).length nc))
   have BP:=hide (below_putM (uH hL).bel (Nat.le_refl _) (.int .i64 j) (.int .i64 j) (.slice no (eyM j).length nc))
   clear XP hL
   go_wp2
   exact bodyPost_ret (v:=.agg #[.int .i64 j,.int .i64 j,.slice no (eyM j).length nc]) (by simp [results,Tryz.results25,go_sem,z0,z1,z2]) rfl ⟨_,rfl,NewM.any (uH Q),uH BP⟩
end Go.Proofs.YtlnphkioddknfaaGreatDoor
namespace Go.Proofs.YtlnphkioddknfaaGreatDoor
open Go.RowKit
attribute [local go_sem ↓] Go.wp_at_zero Go.wp_at_succ
theorem rturn_any (r c cap:Nat) (ao:Option Addr) (S:List Nat) (w:World) (h:Mx w ao cap r c S) :
  Calls Tryz.prog 28 #[.agg #[.int .i64 r,.int .i64 c,.slice ao S.length cap]] w fun e w'=>∃ v,e = .returned v∧NewM 0 w' c r (mkM c r (fun k i=>elM c S i k)) v∧Below w.heap.size w w':=by
 have HH:=hide h
 have hr6:=h.2.2.1;have hc6:=h.2.2.2
 have K1:=hide (fun w'=>rzeros_any c r w' (by omega) (by omega))
 have b0:=below_alloc9 w (.cells #[.int .i64 r,.int .i64 c,.slice ao S.length cap] 24)
 have b1:=below_alloc9 (w.alloc (.cells #[.int .i64 r,.int .i64 c,.slice ao S.length cap] 24)) (.cells #[.int .i64 0,.int .i64 0,.slice none 0 0] 24)
 have s0:=size_alloc9 w (.cells #[.int .i64 r,.int .i64 c,.slice ao S.length cap] 24)
 have s1:=size_alloc9 (w.alloc (.cells #[.int .i64 r,.int .i64 c,.slice ao S.length cap] 24)) (.cells #[.int .i64 0,.int .i64 0,.slice none 0 0] 24)
 have X0:=BoxM.new w (.int .i64 r) (.int .i64 c) (.slice ao S.length cap)
 have X1:=BoxM.new (w.alloc (.cells #[.int .i64 r,.int .i64 c,.slice ao S.length cap] 24)) (.int .i64 0) (.int .i64 0) (.slice none 0 0)
 have HX0:=hide (X0.all b1)
 rw [s0] at X1
 have HX1:=hide X1
 have HB0:=hide (b0.trans (b1.mono b0.size))
 have HS0:=hide (s1.trans (by rw [s0]))
 have HL:=hide h.2.1
 obtain ⟨l,hl⟩:∃ l,S.length = l:=⟨_,rfl⟩
 rw [hl] at HX0 HX1 HB0 HS0
 rw [hl]
 have HLL:=hide hl
 obtain ⟨f,hf⟩:∃ f:Nat→Nat→Nat,f = (fun k i=>elM c S i k):=⟨_,rfl⟩
 rw [← hf]
 have HF:=hide hf
 clear b0 b1 s0 s1 X0 X1 h hl hf
 go_enter Tryz.func28,Tryz.ntmps28
 go_wp2_with fail
 refine (uH K1 _).mono ?_
 rintro e w1 ⟨v,rfl,⟨mo,mc,rfl,nw,qs⟩,hb1⟩
 have ba:=below_alloc9 w1 (.cells #[.int .i64 c,.int .i64 r,.slice mo (List.replicate (c * r) 0).length mc] 24)
 have BB:=(uH HB0).trans (hb1.mono (uH HB0).size)
 have L0:=hide (show LpSt w (w1.alloc (.cells #[.int .i64 c,.int .i64 r,.slice mo (mkM c r (fiC f 0 0)).length mc] 24)) w1.heap.size (w.heap.size+1) c r mo mc (mkM c r (fiC f 0 0)) from by
  rw [fiC_0]
  exact ⟨BB.trans (ba.mono BB.size),BoxM.new w1 _ _ _,((uH HX1).all hb1).all ba,qs.below ba,by have:=hb1.size;rw [uH HS0] at this;omega,BB.size⟩)
 have A0:=hide (show BoxM (w1.alloc (.cells #[.int .i64 c,.int .i64 r,.slice mo (mkM c r (fiC f 0 0)).length mc] 24)) w.heap.size (.int .i64 r) (.int .i64 c) (.slice ao l cap) from by
  rw [fiC_0]
  exact ((uH HX0).all hb1).all ba)
 have NE:=hide (show w.heap.size ≠ w1.heap.size from by have:=hb1.size;rw [uH HS0] at this;omega)
 rw [← fiC_0 c r f]
 clear K1 hb1 ba BB nw qs HB0 HX0 HX1 HS0
 have t0:=(uH A0).c0;have t1:=(uH A0).c1;have t2:=(uH A0).c2
 go_wp2_with fail
 generalize w1.heap.size = g at *
 go_loopw [4] (fun i wr=>∃ (j:Nat) (no:Option Addr) (nc:Nat),j≤r∧i = .int .i64 j∧Hid (LpSt w wr g (w.heap.size+1) c r no nc (mkM c r (fiC f j 0)))∧Hid (BoxM wr w.heap.size (.int .i64 r) (.int .i64 c) (.slice ao l cap))) (fun i _=>r - (intOf i).toNat)
 case atStart=>exact ⟨0,mo,mc,Nat.zero_le _,rfl,L0,A0⟩
 case round =>
  clear L0 A0 t0 t1 t2
  obtain ⟨j,no,nc,hj,rfl,hL,hA⟩:=hrel
  by_cases hlt:j < r
  ·have hjI:(j:Int) < (r:Int):=by omega
   have t0:=(uH hA).c0;have t1:=(uH hA).c1;have t2:=(uH hA).c2
   go_wp2_with fail
   go_loopw [5] (fun i wr=>∃ (k:Nat) (no:Option Addr) (nc:Nat),k≤c∧i = .int .i64 k∧Hid (LpSt w wr g (w.heap.size+1) c r no nc (mkM c r (fiC f j k)))∧Hid (BoxM wr w.heap.size (.int .i64 r) (.int .i64 c) (.slice ao l cap))) (fun i _=>c - (intOf i).toNat)
   case atStart=>exact ⟨0,no,nc,Nat.zero_le _,rfl,hL,hA⟩
   case round =>
    clear hL hA t0 t1 t2 no nc
    obtain ⟨k,no,nc,hk,rfl,hL,hA⟩:=hrel
    have t0:=(uH hA).c0;have t1:=(uH hA).c1;have t2:=(uH hA).c2
    by_cases hkc:k < c
    ·have hkI:(k:Int) < (c:Int):=by omega
     have y0:=(uH hL).box.c0;have y1:=(uH hL).box.c1;have y2:=(uH hL).box.c2
     have C1:=hide (fun w' (m:Mx w' ao cap r c S)=>rat_any r c cap j k ao S w' m (by omega) (by omega))
     have C2:=hide (fun w' no nc (m:Mx w' no nc c r (mkM c r (fiC f j k)))=>rwith_any c r nc k j (f k j) no (mkM c r (fiC f j k)) w' m (by omega) (by omega) (by rw [uH HF];exact (uH HH).el_lt _ _))
     rw [fiC_step c r f hlt hkc] at C2
     rw [uH HLL,show elM c S j k = f k j from by rw [uH HF]] at C1
     have HM:=hide ((uH HH).below (uH hL).bel)
     have HP:=hide (show (mkM c r (fiC f j k)).length = c * r from mkM_len _ _ _)
     generalize f k j = x at *
     generalize mkM c r (fiC f j k) = T at *
     generalize hT2:mkM c r (fiC f j (k+1)) = T2 at *
     have HT2:=hide hT2
     clear hT2
     go_wp2_with fail
     go_region_with (first | (go_at_call 42;refine (uH C1 _ (by exact uH HM)).mono ?_;rintro e w4 ⟨rfl,hb3⟩;have hb4:Below wr.heap.size wr w4:=((Below.refl wr.heap.size wr).drew).trans hb3;clear hb3 t0 t1 t2 y0 y1 y2;have L4:=(uH hL).all hb4;have A4:=(uH hA).all hb4;have t0:=A4.c0;have t1:=A4.c1;have t2:=A4.c2;have y0:=L4.box.c0;have y1:=L4.box.c1;have y2:=L4.box.c2;have HL4:=hide L4;have HA4:=hide A4;clear hb4 L4 A4) | (go_at_call 51;refine (uH C2 _ _ _ ⟨(uH HL4).bits,uH HP,by omega,by omega⟩).mono ?_;rintro e w5 ⟨v,rfl,⟨no5,nc5,rfl,_,q5⟩,hb5⟩;clear t0 t1 t2 y0 y1 y2;have L5:=(uH HL4).all hb5;have A5:=(uH HA4).all hb5;have y0:=L5.box.c0;have y1:=L5.box.c1;have y2:=L5.box.c2;have f0:=L5.box.free 0;have f1:=L5.box.free 1;have f2:=L5.box.free 2;have L6:=hide (L5.put q5);have A6:=hide (((A5.other (p:=⟨g,0,none⟩) (uH NE) (.int .i64 c)).other (p:=⟨g,1,none⟩) (uH NE) (.int .i64 r)).other (p:=⟨g,2,none⟩) (uH NE) (.slice no5 T2.length nc5));clear hb5 L5 A5 q5 HL4 HA4) | fail "NO ARM")
     all_goals
      clear hL hA HM C1 C2 y0 y1 y2 f0 f1 f2
      go_wp2_with fail
      go_round
      case rel=>exact ⟨k+1,no5,nc5,by omega,by go_num,by rw [uH HT2];exact L6,A6⟩
      case measure=>simp [intOf];omega
    ·have hkk:c = k:=by omega
     subst hkk
     have hL':=hide (show LpSt w _ g (w.heap.size+1) c r no nc (mkM c r (fiC f (j+1) 0)) from by rw [← fiC_col c r f j];exact uH hL)
     clear hL
     go_wp2_with fail
     go_round
     case rel=>exact ⟨j+1,no,nc,by omega,by go_num,hL',hA⟩
     case measure=>simp [intOf];omega
  ·have hjj:r = j:=by omega
   subst hjj
   rw [fiC_all] at hL
   have t0:=(uH hA).c0;have t1:=(uH hA).c1;have t2:=(uH hA).c2
   have y0:=(uH hL).box.c0;have y1:=(uH hL).box.c1;have y2:=(uH hL).box.c2
   have r0:=(uH hL).res.c0;have r1:=(uH hL).res.c1;have r2:=(uH hL).res.c2
   have f0:=(uH hL).res.free 0;have f1:=(uH hL).res.free 1;have f2:=(uH hL).res.free 2
   have XP:=(uH hL).res.put (.int .i64 c) (.int .i64 r) (.slice no (mkM c r f).length nc)
   have z0:=XP.c0;have z1:=XP.c1;have z2:=XP.c2
   have Q:=hide (BitsAt.putM (uH hL).bits (uH hL).res (.int .i64 c) (.int .i64 r) (.slice no (mkM c r f).length nc))
   have BP:=hide (below_putM (uH hL).bel (b:=w.heap.size+1) (by omega) (.int .i64 c) (.int .i64 r) (.slice no (mkM c r f).length nc))
   clear XP hL
   go_wp2
   exact bodyPost_ret (v:=.agg #[.int .i64 c,.int .i64 r,.slice no (mkM c r f).length nc]) (by simp [results,Tryz.results28,go_sem,z0,z1,z2]) rfl ⟨_,rfl,NewM.any (uH Q),uH BP⟩
theorem rpart_any (r c cap i k0 a b:Nat) (ao:Option Addr) (S:List Nat) (w:World) (h:Mx w ao cap r c S) (hia:i+a≤r) (hkb:k0+b≤c) :
  Calls Tryz.prog 128 #[.agg #[.int .i64 r,.int .i64 c,.slice ao S.length cap],.int .i64 i,.int .i64 k0,.int .i64 a,.int .i64 b] w fun e w'=>∃ v,e = .returned v∧NewM 0 w' a b (mkM a b (fun x y=>elM c S (i+x) (k0+y))) v∧Below w.heap.size w w':=by
 have HH:=hide h
 have hr6:=h.2.2.1;have hc6:=h.2.2.2
 have K1:=hide (fun w'=>rzeros_any a b w' (by omega) (by omega))
 have b0:=below_alloc9 w (.cells #[.int .i64 r,.int .i64 c,.slice ao S.length cap] 24)
 have b1:=below_alloc9 (w.alloc (.cells #[.int .i64 r,.int .i64 c,.slice ao S.length cap] 24)) (.cells #[.int .i64 0,.int .i64 0,.slice none 0 0] 24)
 have s0:=size_alloc9 w (.cells #[.int .i64 r,.int .i64 c,.slice ao S.length cap] 24)
 have s1:=size_alloc9 (w.alloc (.cells #[.int .i64 r,.int .i64 c,.slice ao S.length cap] 24)) (.cells #[.int .i64 0,.int .i64 0,.slice none 0 0] 24)
 have X0:=BoxM.new w (.int .i64 r) (.int .i64 c) (.slice ao S.length cap)
 have X1:=BoxM.new (w.alloc (.cells #[.int .i64 r,.int .i64 c,.slice ao S.length cap] 24)) (.int .i64 0) (.int .i64 0) (.slice none 0 0)
 have HX0:=hide (X0.all b1)
 rw [s0] at X1
 have HX1:=hide X1
 have HB0:=hide (b0.trans (b1.mono b0.size))
 have HS0:=hide (s1.trans (by rw [s0]))
 have HL:=hide h.2.1
 obtain ⟨l,hl⟩:∃ l,S.length = l:=⟨_,rfl⟩
 rw [hl] at HX0 HX1 HB0 HS0
 rw [hl]
 have HLL:=hide hl
 obtain ⟨f,hf⟩:∃ f:Nat→Nat→Nat,f = (fun x y=>elM c S (i+x) (k0+y)):=⟨_,rfl⟩
 rw [← hf]
 have HF:=hide hf
 clear b0 b1 s0 s1 X0 X1 h hl hf
 go_enter Tryz.func128,Tryz.ntmps128
 go_wp2_with fail
 refine (uH K1 _).mono ?_
 rintro e w1 ⟨v,rfl,⟨mo,mc,rfl,nw,qs⟩,hb1⟩
 have ba:=below_alloc9 w1 (.cells #[.int .i64 a,.int .i64 b,.slice mo (List.replicate (a * b) 0).length mc] 24)
 have BB:=(uH HB0).trans (hb1.mono (uH HB0).size)
 have L0:=hide (show LpSt w (w1.alloc (.cells #[.int .i64 a,.int .i64 b,.slice mo (mkM a b (fiR f 0 0)).length mc] 24)) w1.heap.size (w.heap.size+1) a b mo mc (mkM a b (fiR f 0 0)) from by
  rw [fiR_0]
  exact ⟨BB.trans (ba.mono BB.size),BoxM.new w1 _ _ _,((uH HX1).all hb1).all ba,qs.below ba,by have:=hb1.size;rw [uH HS0] at this;omega,BB.size⟩)
 have A0:=hide (show BoxM (w1.alloc (.cells #[.int .i64 a,.int .i64 b,.slice mo (mkM a b (fiR f 0 0)).length mc] 24)) w.heap.size (.int .i64 r) (.int .i64 c) (.slice ao l cap) from by
  rw [fiR_0]
  exact ((uH HX0).all hb1).all ba)
 have NE:=hide (show w.heap.size ≠ w1.heap.size from by have:=hb1.size;rw [uH HS0] at this;omega)
 rw [← fiR_0 a b f]
 clear K1 hb1 ba BB nw qs HB0 HX0 HX1 HS0
 have t0:=(uH A0).c0;have t1:=(uH A0).c1;have t2:=(uH A0).c2
 go_wp2_with fail
 generalize w1.heap.size = g at *
 go_loopw [12] (fun i wr=>∃ (j:Nat) (no:Option Addr) (nc:Nat),j≤a∧i = .int .i64 j∧Hid (LpSt w wr g (w.heap.size+1) a b no nc (mkM a b (fiR f j 0)))∧Hid (BoxM wr w.heap.size (.int .i64 r) (.int .i64 c) (.slice ao l cap))) (fun i _=>a - (intOf i).toNat)
 case atStart=>exact ⟨0,mo,mc,Nat.zero_le _,rfl,L0,A0⟩
 case round =>
  clear L0 A0 t0 t1 t2
  obtain ⟨j,no,nc,hj,rfl,hL,hA⟩:=hrel
  by_cases hlt:j < a
  ·have hjI:(j:Int) < (a:Int):=by omega
   have t0:=(uH hA).c0;have t1:=(uH hA).c1;have t2:=(uH hA).c2
   go_wp2_with fail
   go_loopw [13] (fun i wr=>∃ (k:Nat) (no:Option Addr) (nc:Nat),k≤b∧i = .int .i64 k∧Hid (LpSt w wr g (w.heap.size+1) a b no nc (mkM a b (fiR f j k)))∧Hid (BoxM wr w.heap.size (.int .i64 r) (.int .i64 c) (.slice ao l cap))) (fun i _=>b - (intOf i).toNat)
   case atStart=>exact ⟨0,no,nc,Nat.zero_le _,rfl,hL,hA⟩
   case round =>
    clear hL hA t0 t1 t2 no nc
    obtain ⟨k,no,nc,hk,rfl,hL,hA⟩:=hrel
    have t0:=(uH hA).c0;have t1:=(uH hA).c1;have t2:=(uH hA).c2
    by_cases hkc:k < b
    ·have hkI:(k:Int) < (b:Int):=by omega
     have y0:=(uH hL).box.c0;have y1:=(uH hL).box.c1;have y2:=(uH hL).box.c2
     have C1:=hide (fun w' (m:Mx w' ao cap r c S)=>rat_any r c cap (i+j) (k0+k) ao S w' m (by omega) (by omega))
     have C2:=hide (fun w' no nc (m:Mx w' no nc a b (mkM a b (fiR f j k)))=>rwith_any a b nc j k (f j k) no (mkM a b (fiR f j k)) w' m (by omega) (by omega) (by rw [uH HF];exact (uH HH).el_lt _ _))
     rw [fiR_step a b f hlt hkc] at C2
     rw [uH HLL,show ((i+j:Nat):Int) = (i:Int)+(j:Int) from by simp,show ((k0+k:Nat):Int) = (k0:Int)+(k:Int) from by simp,show elM c S (i+j) (k0+k) = f j k from by rw [uH HF]] at C1
     have HM:=hide ((uH HH).below (uH hL).bel)
     have HP:=hide (show (mkM a b (fiR f j k)).length = a * b from mkM_len _ _ _)
     generalize f j k = x at *
     generalize mkM a b (fiR f j k) = T at *
     generalize hT2:mkM a b (fiR f j (k+1)) = T2 at *
     have HT2:=hide hT2
     clear hT2
     have e1:=wrap_small ((i:Int)+(j:Int)) (by omega)
     have e2:=wrap_small ((k0:Int)+(k:Int)) (by omega)
     go_wp2_with fail
     go_region_with (first | (go_at_call 42;refine (uH C1 _ (by exact uH HM)).mono ?_;rintro e w4 ⟨rfl,hb3⟩;have hb4:Below wr.heap.size wr w4:=((Below.refl wr.heap.size wr).drew).trans hb3;clear hb3 t0 t1 t2 y0 y1 y2;have L4:=(uH hL).all hb4;have A4:=(uH hA).all hb4;have t0:=A4.c0;have t1:=A4.c1;have t2:=A4.c2;have y0:=L4.box.c0;have y1:=L4.box.c1;have y2:=L4.box.c2;have HL4:=hide L4;have HA4:=hide A4;clear hb4 L4 A4) | (go_at_call 51;refine (uH C2 _ _ _ ⟨(uH HL4).bits,uH HP,by omega,by omega⟩).mono ?_;rintro e w5 ⟨v,rfl,⟨no5,nc5,rfl,_,q5⟩,hb5⟩;clear t0 t1 t2 y0 y1 y2;have L5:=(uH HL4).all hb5;have A5:=(uH HA4).all hb5;have y0:=L5.box.c0;have y1:=L5.box.c1;have y2:=L5.box.c2;have f0:=L5.box.free 0;have f1:=L5.box.free 1;have f2:=L5.box.free 2;have L6:=hide (L5.put q5);have A6:=hide (((A5.other (p:=⟨g,0,none⟩) (uH NE) (.int .i64 a)).other (p:=⟨g,1,none⟩) (uH NE) (.int .i64 b)).other (p:=⟨g,2,none⟩) (uH NE) (.slice no5 T2.length nc5));clear hb5 L5 A5 q5 HL4 HA4) | fail "NO ARM")
     all_goals
      clear hL hA HM C1 C2 y0 y1 y2 f0 f1 f2
      go_wp2_with fail
      go_round
      case rel=>exact ⟨k+1,no5,nc5,by omega,by go_num,by rw [uH HT2];exact L6,A6⟩
      case measure=>simp [intOf];omega
    ·have hkk:b = k:=by omega
     subst hkk
     have hL':=hide (show LpSt w _ g (w.heap.size+1) a b no nc (mkM a b (fiR f (j+1) 0)) from by rw [← fiR_row a b f j];exact uH hL)
     clear hL
     go_wp2_with fail
     go_round
     case rel=>exact ⟨j+1,no,nc,by omega,by go_num,hL',hA⟩
     case measure=>simp [intOf];omega
  ·have hjj:a = j:=by omega
   subst hjj
   rw [fiR_all] at hL
   have t0:=(uH hA).c0;have t1:=(uH hA).c1;have t2:=(uH hA).c2
   have y0:=(uH hL).box.c0;have y1:=(uH hL).box.c1;have y2:=(uH hL).box.c2
   have r0:=(uH hL).res.c0;have r1:=(uH hL).res.c1;have r2:=(uH hL).res.c2
   have f0:=(uH hL).res.free 0;have f1:=(uH hL).res.free 1;have f2:=(uH hL).res.free 2
   have XP:=(uH hL).res.put (.int .i64 a) (.int .i64 b) (.slice no (mkM a b f).length nc)
   have z0:=XP.c0;have z1:=XP.c1;have z2:=XP.c2
   have Q:=hide (BitsAt.putM (uH hL).bits (uH hL).res (.int .i64 a) (.int .i64 b) (.slice no (mkM a b f).length nc))
   have BP:=hide (below_putM (uH hL).bel (b:=w.heap.size+1) (by omega) (.int .i64 a) (.int .i64 b) (.slice no (mkM a b f).length nc))
   clear XP hL
   go_wp2
   exact bodyPost_ret (v:=.agg #[.int .i64 a,.int .i64 b,.slice no (mkM a b f).length nc]) (by simp [results,Tryz.results128,go_sem,z0,z1,z2]) rfl ⟨_,rfl,NewM.any (uH Q),uH BP⟩
end Go.Proofs.YtlnphkioddknfaaGreatDoor
namespace Go.Proofs.YtlnphkioddknfaaGreatDoor
open Go.RowKit
attribute [local go_sem ↓] Go.wp_at_zero Go.wp_at_succ
theorem OwnB.least {base base':Nat} {w:World} {v:Value} {S:List Nat} (h:OwnB base w v S) (hb:base'≤base):OwnB base' w v S:=by
 refine ⟨⟨h.1.1,?_⟩,h.2⟩
 rcases h.1.2 with e | ⟨g,cap,cur,hv,hg,rest⟩
 ·exact .inl e
 ·exact .inr ⟨g,cap,cur,hv,Nat.le_trans hb hg,rest⟩
theorem OwnB.putM {base:Nat} {w:World} {v:Value} {S:List Nat} (h:OwnB base w v S) {b:Nat} {x y z:Value} (_hx:BoxM w b x y z) (hb:b < base) (u u' u'':Value):OwnB base (((w.setCell ⟨b,0,none⟩ u).setCell ⟨b,1,none⟩ u').setCell ⟨b,2,none⟩ u'') v S:=by
 refine ⟨⟨h.1.1,?_⟩,h.2⟩
 rcases h.1.2 with e | ⟨g,cap,cur,hv,hg,hh,rest⟩
 ·exact .inl e
 ·refine .inr ⟨g,cap,cur,hv,hg,?_,rest⟩
  have ne:g ≠ b:=by omega
  rw [Below.heap_setCell _ ⟨b,2,none⟩ u'' g ne,Below.heap_setCell _ ⟨b,1,none⟩ u' g ne,Below.heap_setCell _ ⟨b,0,none⟩ u g ne]
  exact hh
theorem rcopy_any (r c:Int) (ao:Option Addr) (cap:Nat) (I:List Int) (w:World) (h:BitsAt w ao cap I) (hl:I.length≤17592186043904) :
  Calls Tryz.prog 21 #[.agg #[.int .i64 r,.int .i64 c,.slice ao I.length cap]] w fun e w'=>∃ po pc,e = .returned (.agg #[.int .i64 r,.int .i64 c,.slice po I.length pc])∧OwnB w.heap.size w' (.slice po I.length pc) (natL I)∧Below w.heap.size w w':=by
 have b0:=below_alloc9 w (.cells #[.int .i64 r,.int .i64 c,.slice ao I.length cap] 24)
 have s0:=size_alloc9 w (.cells #[.int .i64 r,.int .i64 c,.slice ao I.length cap] 24)
 have b1:=below_alloc9 (w.alloc (.cells #[.int .i64 r,.int .i64 c,.slice ao I.length cap] 24)) (.cells #[.int .i64 0,.int .i64 0,.slice none 0 0] 24)
 have s1:=size_alloc9 (w.alloc (.cells #[.int .i64 r,.int .i64 c,.slice ao I.length cap] 24)) (.cells #[.int .i64 0,.int .i64 0,.slice none 0 0] 24)
 have bb:=b0.trans (b1.mono b0.size)
 have bits:=h.below bb
 have KB:=hide (fun w1=>boxes2 w (.int .i64 r) (.int .i64 c) (.slice ao I.length cap) (.int .i64 0) (.int .i64 0) (.slice none 0 0) w1)
 rw [s0] at s1
 have KC:=hide (fun w' (hb:Below (w.heap.size+1+1) ((w.alloc (.cells #[.int .i64 r,.int .i64 c,.slice ao I.length cap] 24)).alloc (.cells #[.int .i64 0,.int .i64 0,.slice none 0 0] 24)) w') (hz:w'.heap.size = w.heap.size+1+1)=>(show ∃ po pc w'',(Builtin.append_ #[22,22] 22 #[.slice (some ⟨w.heap.size+1+1,0,none⟩) 0 0,.slice ao I.length cap]).run Tryz.prog (w'.alloc (.cells #[] 37)) = .ok (.slice po I.length pc) w''∧(OwnB (w.heap.size+1+1) w'' (.slice po I.length pc) (natL I)∧Below (w.heap.size+1+1) ((w.alloc (.cells #[.int .i64 r,.int .i64 c,.slice ao I.length cap] 24)).alloc (.cells #[.int .i64 0,.int .i64 0,.slice none 0 0] 24)) w'') from by
  have b2:=below_alloc9 w' (.cells #[] 37)
  have on:=OwnB.nil w' (w.heap.size+1+1) (by omega)
  have bt:=(bits.below (by rw [s1];exact hb)).below b2
  obtain ⟨po,pc,w1,run,own,gr⟩:=copy_bits _ (w.heap.size+1+1) 22 ao cap I _ bt hl on.1 (by simp;omega)
  rw [hz] at run
  exact ⟨po,pc,w1,run,own,hb.trans ((b2.mono (by omega)).grown gr (by simp;omega) (fun g hg=>by cases hg;omega))⟩))
 clear b0 b1 s0 s1 bb bits h
 obtain ⟨l,hl'⟩:∃ l,I.length = l:=⟨_,rfl⟩
 have HL:=hide hl'
 rw [hl'] at KB KC hl ⊢
 clear hl'
 have HK:=hide (fun w' (hb:Below (w.heap.size+1+1) ((w.alloc (.cells #[.int .i64 r,.int .i64 c,.slice ao l cap] 24)).alloc (.cells #[.int .i64 0,.int .i64 0,.slice none 0 0] 24)) w')=>(show w'.cell? ⟨w.heap.size,0,none⟩ = some (.int .i64 r)∧w'.cell? ⟨w.heap.size,1,none⟩ = some (.int .i64 c)∧w'.cell? ⟨w.heap.size,2,none⟩ = some (.slice ao l cap) from
  ⟨(uH KB w' hb).2.1.c0,(uH KB w' hb).2.1.c1,(uH KB w' hb).2.1.c2⟩))
 have HP:=hide (fun w5 (u u' u'':Value) (hb:Below (w.heap.size+1+1) ((w.alloc (.cells #[.int .i64 r,.int .i64 c,.slice ao l cap] 24)).alloc (.cells #[.int .i64 0,.int .i64 0,.slice none 0 0] 24)) w5)=>(show (((w5.setCell ⟨w.heap.size+1,0,none⟩ u).setCell ⟨w.heap.size+1,1,none⟩ u').setCell ⟨w.heap.size+1,2,none⟩ u'').cell? ⟨w.heap.size,0,none⟩ = some (.int .i64 r)∧(((w5.setCell ⟨w.heap.size+1,0,none⟩ u).setCell ⟨w.heap.size+1,1,none⟩ u').setCell ⟨w.heap.size+1,2,none⟩ u'').cell? ⟨w.heap.size,1,none⟩ = some (.int .i64 c)∧(((w5.setCell ⟨w.heap.size+1,0,none⟩ u).setCell ⟨w.heap.size+1,1,none⟩ u').setCell ⟨w.heap.size+1,2,none⟩ u'').cell? ⟨w.heap.size,2,none⟩ = some (.slice ao l cap) from by
  have X:=(uH KB w5 hb).2.1
  have Y:=((X.other (p:=⟨w.heap.size+1,0,none⟩) (by show w.heap.size ≠ w.heap.size+1;omega) u).other (p:=⟨w.heap.size+1,1,none⟩) (by show w.heap.size ≠ w.heap.size+1;omega) u').other (p:=⟨w.heap.size+1,2,none⟩) (by show w.heap.size ≠ w.heap.size+1;omega) u''
  exact ⟨Y.c0,Y.c1,Y.c2⟩))
 go_enter Tryz.func21,Tryz.ntmps21
 go_wp2_with fail
 go_region_held3 (fun w'=>w'.cell? ⟨w.heap.size,0,none⟩ = some (.int .i64 r)∧w'.cell? ⟨w.heap.size,1,none⟩ = some (.int .i64 c)∧w'.cell? ⟨w.heap.size,2,none⟩ = some (.slice ao l cap))
  (first | exact uH HK _ (Below.refl _ _).drew | exact uH HK _ (by assumption) | exact uH HK _ ((Below.refl _ _).drew.alloc (by simp) _) | exact uH HP _ _ _ _ (by assumption) | fail "KK")
  (first | (refine step_append_ex _ (by rfl) _ _ 22 (by rfl) _ _ _ _ (by rfl) (by rfl) (uH KC _ (Below.refl _ _).drew (by first | rfl | simp)) ?_;rintro po pc w5 ⟨own5,bel5⟩;obtain ⟨B5,A5,X5⟩:=uH KB w5 bel5;have u0:=X5.c0;have u1:=X5.c1;have u2:=X5.c2;have f0:=X5.free 0;have f1:=X5.free 1;have f2:=X5.free 2;have HO:=hide own5;have HB:=hide B5;have HX:=hide X5;clear own5 A5 X5 B5) | fail "NO ARM")
 all_goals
  have XP:=(uH HX).put (.int .i64 r) (.int .i64 c) (.slice po l pc)
  have z0:=XP.c0;have z1:=XP.c1;have z2:=XP.c2
  have OP:=hide ((uH HO).putM (uH HX) (by omega) (.int .i64 r) (.int .i64 c) (.slice po l pc))
  have BP:=hide (below_putM (uH HB) (b:=w.heap.size+1) (by omega) (.int .i64 r) (.int .i64 c) (.slice po l pc))
  clear XP HX HO HB
  go_wp2
  exact bodyPost_ret (v:=.agg #[.int .i64 r,.int .i64 c,.slice po l pc]) (by simp [results,Tryz.results21,go_sem,z0,z1,z2]) rfl ⟨po,pc,rfl,(uH OP).least (by omega),uH BP⟩
end Go.Proofs.YtlnphkioddknfaaGreatDoor
namespace Go.Proofs.YtlnphkioddknfaaGreatDoor
open Go.RowKit
attribute [local go_sem ↓] Go.wp_at_zero Go.wp_at_succ
theorem BoxM.away {w:World} {g b k:Nat} {x y:Int} {a:Option Addr} {n d:Nat} {z:Int} (hx:BoxM w b (.int .i64 x) (.int .i64 y) (.slice a n d)) (hc:w.cell? ⟨g,k,none⟩ = some (.int .u64 z)):b ≠ g:=by
 rintro rfl
 rw [cell_of_row w b k _ _ _ hx] at hc
 rcases (show k = 0 ∨ k = 1 ∨ k = 2 ∨ 3≤k by omega) with e | e | e | e
 ·subst e;simp at hc
 ·subst e;simp at hc
 ·subst e;simp at hc
 ·rw [Array.getElem?_eq_none (by simp;omega)] at hc;simp at hc
end Go.Proofs.YtlnphkioddknfaaGreatDoor
