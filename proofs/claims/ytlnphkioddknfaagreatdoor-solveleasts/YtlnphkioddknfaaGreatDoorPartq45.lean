/- Part 45 of the texts. -/
import Derived.Test.YtlnphkioddknfaaGreatDoorPartq44
import Derived.Test.YtlnphkioddknfaaGreatDoorPartq43
import Derived.Test.YtlnphkioddknfaaGreatDoorPartq35
set_option maxHeartbeats 32000000
set_option maxRecDepth 20000
namespace Go.Proofs.YtlnphkioddknfaaGreatDoor
open Go.RowKit
attribute [local go_sem ↓] Go.wp_at_zero Go.wp_at_succ
structure RxSt (w wr:World) (h n q tn tc bn bc L xc:Nat) (tq bo xo:Option Addr) (X:List Nat):Prop where
 bel:Below w.heap.size w wr
 hh:w.heap.size+3≤h
 t:BoxM wr w.heap.size (.int .i64 n) (.int .i64 n) (.slice tq tn tc)
 b:BoxM wr (w.heap.size+1) (.int .i64 n) (.int .i64 q) (.slice bo bn bc)
 res:BoxM wr (w.heap.size+1+1) (.int .i64 0) (.int .i64 0) (.slice none 0 0)
 x:BoxM wr h (.int .i64 n) (.int .i64 q) (.slice xo L xc)
 bits:BitsAt wr xo xc (mxL X)
 new:NewB w.heap.size xo (mxL X)
 len:X.length = L
theorem RxSt.all {w wr w':World} {h n q tn tc bn bc L xc:Nat} {tq bo xo:Option Addr} {X:List Nat} (s:RxSt w wr h n q tn tc bn bc L xc tq bo xo X) (hb:Below wr.heap.size wr w'):RxSt w w' h n q tn tc bn bc L xc tq bo xo X :=
 ⟨s.bel.trans (hb.mono s.bel.size),s.hh,s.t.all hb,s.b.all hb,s.res.all hb,s.x.all hb,s.bits.below hb,s.new,s.len⟩
theorem RxSt.put {w wr:World} {h n q tn tc bn bc L xc yc:Nat} {tq bo xo yo:Option Addr} {X Y:List Nat} (s:RxSt w wr h n q tn tc bn bc L xc tq bo xo X) (hy:BitsAt wr yo yc (mxL Y)) (hn:NewB w.heap.size yo (mxL Y)) (hl:Y.length = L) :
  RxSt w (((wr.setCell ⟨h,0,none⟩ (.int .i64 n)).setCell ⟨h,1,none⟩ (.int .i64 q)).setCell ⟨h,2,none⟩ (.slice yo L yc)) h n q tn tc bn bc L yc tq bo yo Y:=by
 have hh:=s.hh
 exact ⟨below_putM s.bel (by omega) _ _ _,hh,s.t.three14 (by omega) _ _ _,s.b.three14 (by omega) _ _ _,s.res.three14 (by omega) _ _ _,s.x.put _ _ _,hy.putM s.x _ _ _,hn,hl⟩
end Go.Proofs.YtlnphkioddknfaaGreatDoor
namespace Go.Proofs.YtlnphkioddknfaaGreatDoor
open Go.RowKit
attribute [local go_sem ↓] Go.wp_at_zero Go.wp_at_succ
theorem rup17_of (n q tc bc tn bn L:Nat) (f:Int) (tq bo:Option Addr) (T B:List Nat) (w:World) (hT:Mx w tq tc n n T) (hB:Mx w bo bc n q B) (ltn:T.length = tn) (lbn:B.length = bn) (hL:n * q = L)
  (CC:∀ w',Below w.heap.size w w'→Calls Tryz.prog 48 #[.agg #[.int .i64 n,.int .i64 n,.slice tq tn tc],.agg #[.int .i64 n,.int .i64 q,.slice bo bn bc]] w' fun e w''=>e = .returned (.int .i64 0)∧Below w'.heap.size w' w'')
  (CF:∀ w' xo xc,Below w.heap.size w w'→BitsAt w' xo xc (mxL (upM n q T B))→Calls Tryz.prog 53 #[.agg #[.int .i64 n,.int .i64 q,.slice xo L xc]] w' fun e w''=>FnAns f n q L xo xc e∧Below w'.heap.size w' w'') :
  Calls Tryz.prog 13 #[.agg #[.int .i64 n,.int .i64 n,.slice tq tn tc],.agg #[.int .i64 n,.int .i64 q,.slice bo bn bc]] w fun e w'=>∃ xo xc,FnAns f n q L xo xc e∧NewB w.heap.size xo (mxL (upM n q T B))∧BitsAt w' xo xc (mxL (upM n q T B))∧Below w.heap.size w w':=by
 have n6:=hT.2.2.1
 have q6:=hB.2.2.2
 have KB:=hide (boxes3_17 w (.int .i64 n) (.int .i64 n) (.slice tq tn tc) (.int .i64 n) (.int .i64 q) (.slice bo bn bc) (.int .i64 0) (.int .i64 0) (.slice none 0 0))
 obtain ⟨b0,x0,x1,x2⟩:=uH KB _ (by have:=Below.refl (((w.alloc (.cells #[.int .i64 n,.int .i64 n,.slice tq tn tc] 24)).alloc (.cells #[.int .i64 n,.int .i64 q,.slice bo bn bc] 24)).alloc (.cells #[.int .i64 0,.int .i64 0,.slice none 0 0] 24)).heap.size (((w.alloc (.cells #[.int .i64 n,.int .i64 n,.slice tq tn tc] 24)).alloc (.cells #[.int .i64 n,.int .i64 q,.slice bo bn bc] 24)).alloc (.cells #[.int .i64 0,.int .i64 0,.slice none 0 0] 24));simpa only [size_alloc9] using this)
 have K1:=hide (CC _ b0)
 have HB:=hide b0;have HX:=hide x0;have HY:=hide x1;have HR:=hide x2
 have HT:=hide hT;have HBB:=hide hB
 have KZ:=hide (fun w'=>rzeros_any n q w' n6 q6)
 have KFI:=hide CF
 have hO:=ord_last n
 obtain ⟨o,ho⟩:∃ o:Nat→Nat,(fun m=>n - 1 - m) = o:=⟨_,rfl⟩
 have EO:=hide (show ∀ m,o m = (fun m=>n - 1 - m) m from fun m=>by rw [← ho])
 rw [ho] at hO
 obtain ⟨XJ,hXJ⟩:∃ XJ:Nat→Nat→List Nat,trJ n q (elM n T) (elM q B) o dnU = XJ:=⟨_,rfl⟩
 obtain ⟨NN,hNN⟩:∃ NN:Nat→Nat→Nat,(fun c m=>trN n (elM n T) (fun p=>elM q B p c) o dnU m) = NN:=⟨_,rfl⟩
 obtain ⟨XX,hXX⟩:∃ XX:Nat→Nat→Nat→Nat,(fun c m k=>trX n (elM n T) (fun p=>elM q B p c) o dnU m k) = XX:=⟨_,rfl⟩
 obtain ⟨SG,hSG⟩:∃ SG:Nat→Nat→Nat→Nat,(fun c m k=>trS (elM n T) (trX n (elM n T) (fun p=>elM q B p c) o dnU m) dnU (o m) (elM q B (o m) c) k) = SG:=⟨_,rfl⟩
 have EM:=hide (show XJ q 0 = upM n q T B from by rw [← hXJ,← ho];exact trJ_end _ _ _ _ _ _)
 have E0:=hide (show List.replicate (n * q) 0 = XJ 0 0 from by rw [← hXJ,← trJ_start];exact mkM_noughts n q)
 have EC:=hide (show ∀ c,XJ c n = XJ (c+1) 0 from fun c=>by rw [← hXJ];exact trJ_col _ _ _ _ _ _ c)
 have ES:=hide (show ∀ c m,m < n→c < q→(XJ c m).set (o m * q+c) (NN c m) = XJ c (m+1) from fun c m hm hc=>by rw [← hXJ,← hNN];exact trJ_set _ _ _ hO hm hc)
 have EL:=hide (show ∀ c m,(XJ c m).length = L from fun c m=>by rw [← hXJ,trJ_len,hL])
 have EA:=hide (show ∀ c m k,k < n→c < q→elM q (XJ c m) k c = XX c m k from fun c m k hk hc=>by rw [← hXJ,← hXX];exact trJ_at _ _ _ _ hk hc)
 have SY:=hide (show ∀ c m k,dnU (o m) k = true→SG c m (k+1) = aV (SG c m k) (fN (mV (elM n T (o m) k) (XX c m k))) from fun c m k hd=>by rw [← hSG,← hXX];exact if_pos hd)
 have S0:=hide (show ∀ c m,SG c m (o m+1) = elM q B (o m) c from fun c m=>by rw [← hSG];exact trS_none _ _ _ _ _ _ (fun p hp=>decide_eq_false (by omega)))
 have SN:=hide (show ∀ c m,SG c m n = SG c m n from fun c m=>rfl)
 have SE:=hide (show ∀ c m,NN c m = dV (SG c m n) (elM n T (o m) (o m)) from fun c m=>by rw [← hSG,← hNN];rfl)
 have SL:=hide (show ∀ c m k,SG c m k < 18446744073709551616 from fun c m k=>by rw [← hSG];exact trS_lt _ _ _ _ _ (hB.el_lt _ _) k)
 have XL:=hide (show ∀ c m k,XX c m k < 18446744073709551616 from fun c m k=>by rw [← hXX];exact trX_lt _ _ _ _ _ m k)
 have NL:=hide (show ∀ c m,NN c m < 18446744073709551616 from fun c m=>by rw [← hNN];exact dV_lt _ _)
 have TL:=hide (show ∀ i k,elM n T i k < 18446744073709551616 from fun i k=>hT.el_lt i k)
 have OL:=hide (show ∀ m,m < n→o m < n from hO.lt)
 have HL:=hide hL;have LT:=hide ltn;have LB:=hide lbn
 have y0:=x0.c0;have y1:=x0.c1;have y2:=x0.c2;have u0:=x1.c0;have u1:=x1.c1;have u2:=x1.c2
 generalize upM n q T B = TRM at *
 clear CC CF KB b0 x0 x1 x2 hT hB ltn lbn hL hO ho hXJ hNN hXX hSG
 go_enter Tryz.func13,Tryz.ntmps13
 go_wp2_with fail
 clear y0 y1 y2 u0 u1 u2
 refine (uH K1).mono ?_
 rintro e w1 ⟨rfl,hb⟩
 replace HX:=hide ((uH HX).all hb);replace HY:=hide ((uH HY).all hb);replace HR:=hide ((uH HR).all hb)
 replace HB:=hide ((uH HB).trans (hb.mono (uH HB).size))
 have HS1:=hide hb.size
 clear hb K1
 have u0:=(uH HY).c0;have u1:=(uH HY).c1
 go_wp2_with fail
 clear u0 u1
 refine (uH KZ _).mono ?_
 rintro e w2 ⟨v,rfl,⟨xo,xc,rfl,hn,hq⟩,hb⟩
 have ST:Hid (RxSt w (w2.alloc (.cells #[.int .i64 n,.int .i64 q,.slice xo L xc] 24)) w2.heap.size n q tn tc bn bc L xc tq bo xo (XJ 0 0)):=hide (by
  have ba:=below_alloc9 w2 (.cells #[.int .i64 n,.int .i64 q,.slice xo L xc] 24)
  have bb:=(uH HB).trans (hb.mono (uH HB).size)
  have e0:=uH E0
  rw [e0] at hn hq
  exact ⟨bb.trans (ba.mono bb.size),by have:=(uH HR).lt;have:=hb.size;omega,((uH HX).all hb).all ba,((uH HY).all hb).all ba,((uH HR).all hb).all ba,BoxM.new w2 _ _ _,hq.below ba,hn.least (uH HB).size,uH EL 0 0⟩)
 have hrep:(List.replicate (n * q) 0:List Nat).length = L:=by rw [List.length_replicate];exact uH HL
 rw [hrep]
 clear hrep KZ hn hq hb HB HX HY HR E0 HS1
 go_wp2_with fail
 generalize w2.heap.size = h at *
 go_loopg [7] q (fun g a wr=>∃ (c:Nat) (xo:Option Addr) (xc:Nat),c+g = q∧a = .int .i64 c∧Hid (RxSt w wr h n q tn tc bn bc L xc tq bo xo (XJ c 0)))
 case atStart=>exact ⟨0,xo,xc,by omega,rfl,ST⟩
 case round =>
  clear ST
  obtain ⟨c,xo,xc,hcg,rfl,hS⟩:=hrel
  cases gk with
  | zero =>
   have hlt:¬ ((c:Int) < (q:Int)):=by omega
   have e1:XJ c 0 = TRM:=by rw [show c = q by omega];exact uH EM
   rw [e1] at hS
   clear e1
   have y1:=(uH hS).b.c1
   have q0:=(uH hS).x.c0;have q1:=(uH hS).x.c1;have q2:=(uH hS).x.c2
   go_wp2_with fail
   clear y1 q0 q1 q2
   refine (uH KFI _ xo xc (uH hS).bel (uH hS).bits).mono ?_
   rintro e w3 ⟨hans,hb⟩
   have S3:=(uH hS).all hb
   have HN:=hide S3.new;have HQ:=hide S3.bits;have HB:=hide S3.bel;have HR:=hide S3.res
   clear S3 hb hS KFI
   rcases hans with ⟨rfl,rfl⟩ | ⟨hf,rfl⟩
   ·have X3:=uH HR
    have f0:=X3.free 0;have f1:=X3.free 1;have f2:=X3.free 2
    have s0:=X3.c0;have s1:=X3.c1;have s2:=X3.c2
    have XP:=X3.put (.int .i64 n) (.int .i64 q) (.slice xo L xc)
    have z0:=XP.c0;have z1:=XP.c1;have z2:=XP.c2
    have BP:=hide (below_putM (uH HB) (b:=w.heap.size+1+1) (by omega) (.int .i64 n) (.int .i64 q) (.slice xo L xc))
    have QP:=hide ((uH HQ).putM X3 (.int .i64 n) (.int .i64 q) (.slice xo L xc))
    clear XP X3
    go_wp2_with fail
    exact bodyPost_ret (v:=.tuple #[.agg #[.int .i64 n,.int .i64 q,.slice xo L xc],.int .i64 0]) (by simp [results,Tryz.results13,go_sem,z0,z1,z2]) rfl ⟨xo,xc,.inl ⟨rfl,rfl⟩,uH HN,uH QP,uH BP⟩
   ·have X3:=uH HR
    have f0:=X3.free 0;have f1:=X3.free 1;have f2:=X3.free 2
    have s0:=X3.c0;have s1:=X3.c1;have s2:=X3.c2
    have XP:=X3.put (.int .i64 0) (.int .i64 0) (.slice none 0 0)
    have z0:=XP.c0;have z1:=XP.c1;have z2:=XP.c2
    have BP:=hide (below_putM (uH HB) (b:=w.heap.size+1+1) (by omega) (.int .i64 0) (.int .i64 0) (.slice none 0 0))
    have QP:=hide ((uH HQ).putM X3 (.int .i64 0) (.int .i64 0) (.slice none 0 0))
    have HF:=hide hf
    clear XP X3 hf
    go_wp2_with fail
    exact bodyPost_ret (v:=.tuple #[.agg #[.int .i64 0,.int .i64 0,.slice none 0 0],.int .i64 f]) (by simp [results,Tryz.results13,go_sem,z0,z1,z2]) rfl ⟨xo,xc,.inr ⟨uH HF,rfl⟩,uH HN,uH QP,uH BP⟩
  | succ g =>
   have hcq:(c:Int) < (q:Int):=by omega
   have HCQ:=hide (show c < q by omega)
   have hwn:IntKind.i64.wrap ((n:Int) - 1) = (n:Int) - 1:=wrap_in _ (by omega)
   have hwc:IntKind.i64.wrap ((c:Int)+1) = (c:Int)+1:=wrap_in _ (by omega)
   have y0:=(uH hS).t.c0;have y1:=(uH hS).b.c1
   go_wp2_with fail
   clear y0 y1
   go_loopg [8] n (fun g2 a wr=>∃ (m:Nat) (xo:Option Addr) (xc:Nat),m+g2 = n∧a = .int .i64 ((n:Int) - 1 - (m:Int))∧Hid (RxSt w wr h n q tn tc bn bc L xc tq bo xo (XJ c m)))
   case atStart=>exact ⟨0,xo,xc,by omega,by simp,hS⟩
   case round =>
    clear hS hwn
    obtain ⟨m,xo,xc,hmg,rfl,hS⟩:=hrel
    cases gk with
    | zero =>
     have hmn:(n:Int) - 1 - (m:Int) = -1:=by omega
     rw [hmn]
     go_wp2_with fail
     go_roundg g
     case measure=>omega
     case rel =>
      have hend:Hid (XJ c m = XJ (c+1) 0):=hide (by rw [← uH EC c,show m = n by omega])
      exact ⟨c+1,xo,xc,by omega,by go_num,by rw [← uH hend];exact hS⟩
    | succ g2 =>
     have HMN:=hide (show m < n by omega)
     obtain ⟨i,hi⟩:∃ i,o m = i:=⟨_,rfl⟩
     have HIN:=hide (show i < n by rw [← hi];exact uH OL m (uH HMN))
     have HI:=hide hi
     have hie:(n:Int) - 1 - (m:Int) = (i:Int):=by
      have:=uH EO m
      rw [hi] at this
      have h2:i = n - 1 - m:=this
      omega
     rw [hie]
     have hi0:(0:Int)≤(i:Int):=by omega
     have HIE:=hide hie
     obtain ⟨i1,hi1⟩:∃ i1,i+1 = i1:=⟨_,rfl⟩
     have hwi:IntKind.i64.wrap ((i:Int)+1) = (i1:Int):=(wrap_in _ (by have:=uH HIN;omega)).trans (by omega)
     have HI1:=hide hi1
     clear hie hi
     have SY1:=hide (show ∀ k,dnU i k = true→SG c m (k+1) = aV (SG c m k) (fN (mV (elM n T i k) (XX c m k))) from fun k hd=>by have:=uH SY c m k (by rw [uH HI];exact hd);rwa [uH HI] at this)
     have S01:=hide (uH S0 c m)
     have SN1:=hide (uH SN c m)
     have SE1:=hide (uH SE c m)
     have ES1:=hide (uH ES c m (uH HMN) (uH HCQ))
     rw [uH HI] at SE1 ES1 S01
     rw [hi1] at S01
     clear hi1
     have EA1:=hide (fun k hk=>uH EA c m k hk (uH HCQ))
     have SL1:=hide (uH SL c m);have XL1:=hide (uH XL c m);have NL1:=hide (uH NL c m)
     generalize SG c m = SS at *
     generalize XX c m = XK at *
     have EL1:=hide (uH EL c m);have EL2:=hide (uH EL c (m+1))
     have KB1:=hide (fun w' (hb:Below w.heap.size w w')=>rat_any n q bc i c bo B w' ((uH HBB).below hb) (uH HIN) (uH HCQ))
     rw [uH LB,← uH S01] at KB1
     have KAT:=hide (fun w' k (hb:Below w.heap.size w w') (hk:k < n)=>rat_any n n tc i k tq T w' ((uH HT).below hb) (uH HIN) hk)
     rw [uH LT] at KAT
     have y0:=(uH hS).t.c0;have u0:=(uH hS).b.c0;have u1:=(uH hS).b.c1;have u2:=(uH hS).b.c2
     go_wp2_with fail
     clear y0 u0 u1 u2
     refine (uH KB1 _ (uH hS).bel).mono ?_
     rintro e w3 ⟨rfl,hb⟩
     replace hS:=hide ((uH hS).all hb)
     clear hb KB1
     go_wp2_with fail
     go_loopg [9,10] (n - (i+1)) (fun g3 sv a wr=>∃ k:Nat,k+g3 = n∧i < k∧sv = .int .u64 (SS k:Nat)∧a = .int .i64 k∧Hid (RxSt w wr h n q tn tc bn bc L xc tq bo xo (XJ c m)))
     case atStart=>exact ⟨i1,by have:=uH HIN;have:=uH HI1;omega,by have:=uH HI1;omega,rfl,rfl,hS⟩
     case round =>
      clear hS
      obtain ⟨k,hkg,hkl,rfl,rfl,hS⟩:=hrel
      by_cases hkb:k < n
      ·have hkI:(k:Int) < (n:Int):=by omega
       have HKN:=hide (show k < n by have:=uH HIN;omega)
       obtain ⟨g3,rfl⟩:∃ g3,gk = g3+1:=⟨gk - 1,by have:=uH HKN;omega⟩
       have E1:=hide (uH SY1 k (decide_eq_true (by omega)))
       have K0:=hide (fun w' (hb:Below wr.heap.size wr w')=>uH KAT w' k ((uH hS).bel.trans (hb.mono (uH hS).bel.size)) (uH HKN))
       have K1:=hide (fun w' (hb:Below wr.heap.size wr w')=>rat_any n q xc k c xo (XJ c m) w' ⟨(uH hS).bits.below hb,by rw [uH EL1];exact (uH HL).symm,n6,q6⟩ (uH HKN) (uH HCQ))
       rw [uH EL1,uH EA1 k (uH HKN)] at K1
       have K2:=hide (fun w' (_:Below wr.heap.size wr w')=>r9mul_any (elM n T i k) (XK k) w' (uH TL i k) (uH XL1 k))
       have K3:=hide (fun w' (_:Below wr.heap.size wr w')=>r9sub_any (SS k) (mV (elM n T i k) (XK k)) w' (uH SL1 k) (mV_lt _ _))
       rw [← uH E1] at K3
       generalize mV (elM n T i k) (XK k) = pv at *
       generalize elM n T i k = tv at *
       generalize XK k = xv at *
       generalize hs2:SS (k+1) = s2 at *
       have HS2:=hide hs2
       clear hs2
       generalize SS k = s1 at *
       have hwk:IntKind.i64.wrap ((k:Int)+1) = (k:Int)+1:=wrap_in _ (by omega)
       have y0:=(uH hS).t.c0;have y1:=(uH hS).t.c1;have y2:=(uH hS).t.c2;have u0:=(uH hS).x.c0;have u1:=(uH hS).x.c1;have u2:=(uH hS).x.c2
       have HK:=hide (fun w' (h':Below wr.heap.size wr w')=>(show Below wr.heap.size wr w'∧w'.cell? ⟨w.heap.size,0,none⟩ = some (.int .i64 (n:Nat))∧w'.cell? ⟨w.heap.size,1,none⟩ = some (.int .i64 (n:Nat))∧w'.cell? ⟨w.heap.size,2,none⟩ = some (.slice tq tn tc)∧w'.cell? ⟨h,0,none⟩ = some (.int .i64 (n:Nat))∧w'.cell? ⟨h,1,none⟩ = some (.int .i64 (q:Nat))∧w'.cell? ⟨h,2,none⟩ = some (.slice xo L xc) from ⟨h',cell_keep y0 h',cell_keep y1 h',cell_keep y2 h',cell_keep u0 h',cell_keep u1 h',cell_keep u2 h'⟩))
       clear y1 y2 u0 u1 u2 E1
       go_wp2_with fail
       clear y0
       go_region_held3 (fun w'=>Below wr.heap.size wr w'∧w'.cell? ⟨w.heap.size,0,none⟩ = some (.int .i64 (n:Nat))∧w'.cell? ⟨w.heap.size,1,none⟩ = some (.int .i64 (n:Nat))∧w'.cell? ⟨w.heap.size,2,none⟩ = some (.slice tq tn tc)∧w'.cell? ⟨h,0,none⟩ = some (.int .i64 (n:Nat))∧w'.cell? ⟨h,1,none⟩ = some (.int .i64 (q:Nat))∧w'.cell? ⟨h,2,none⟩ = some (.slice xo L xc))
        (first | exact uH HK _ (Below.refl _ _).drew | exact uH HK _ (by assumption) | fail "KK")
        (first | (go_at_call 42;with_reducible refine Calls.mono (uH K0 _ (And.left (by assumption))) ?_;rintro e w4 ⟨rfl,hb1⟩;have hB1:Below wr.heap.size wr w4:=Below.trans (And.left (by assumption)) (hb1.mono (Below.size (And.left (by assumption))));clear hb1) | (go_at_call 42;with_reducible refine Calls.mono (uH K1 _ (And.left (by assumption))) ?_;rintro e w4 ⟨rfl,hb1⟩;have hB1:Below wr.heap.size wr w4:=Below.trans (And.left (by assumption)) (hb1.mono (Below.size (And.left (by assumption))));clear hb1) | (go_at_call 50;with_reducible refine Calls.mono (uH K2 _ (And.left (by assumption))) ?_;rintro e w4 ⟨rfl,hb1⟩;have hB1:Below wr.heap.size wr w4:=Below.trans (And.left (by assumption)) (hb1.mono (Below.size (And.left (by assumption))));clear hb1) | (go_at_call 49;with_reducible refine Calls.mono (uH K3 _ (And.left (by assumption))) ?_;rintro e w4 ⟨rfl,hb1⟩;have hB1:Below wr.heap.size wr w4:=Below.trans (And.left (by assumption)) (hb1.mono (Below.size (And.left (by assumption))));clear hb1) | fail "NO ARM")
       go_wp2_with fail
       go_roundg g3
       case measure=>omega
       case rel=>exact ⟨k+1,by omega,by omega,by rw [uH HS2],by go_num,hide ((uH hS).all (And.left (by assumption)))⟩
      ·have hkI:¬ ((k:Int) < (n:Int)):=by omega
       have hkn:SS k = SS n:=by rw [show k = n by omega]
       rw [hkn]
       clear hkn
       have K0:=hide (fun w' (hb:Below wr.heap.size wr w')=>uH KAT w' i ((uH hS).bel.trans (hb.mono (uH hS).bel.size)) (uH HIN))
       have K1:=hide (fun w' (_:Below wr.heap.size wr w')=>r9div_any (SS n) (elM n T i i) w' (uH SL1 n) (uH TL i i))
       rw [← uH SE1] at K1
       have K2:=hide (fun w' (hb:Below wr.heap.size wr w')=>rwith_any n q xc i c (NN c m) xo (XJ c m) w' ⟨(uH hS).bits.below hb,by rw [uH EL1];exact (uH HL).symm,n6,q6⟩ (uH HIN) (uH HCQ) (uH NL1))
       rw [uH EL1,uH ES1] at K2
       have PUT:=hide (fun w' yo yc (hb:Below wr.heap.size wr w') (h1:NewB wr.heap.size yo (mxL (XJ c (m+1)))) (h2:BitsAt w' yo yc (mxL (XJ c (m+1))))=>((uH hS).all hb).put h2 (h1.least (uH hS).bel.size) (uH EL2))
       generalize NN c m = nv at *
       generalize elM n T i i = tv at *
       generalize SS n = sv at *
       generalize hnx:XJ c (m+1) = NX at *
       have HNX:=hide hnx
       have LNX:=hide (show NX.length = L from uH EL2)
       clear hnx
       have y0:=(uH hS).t.c0
       go_wp2_with fail
       clear y0
       have HK:=hide (fun w' (h':Below wr.heap.size wr w')=>(show Below wr.heap.size wr w'∧w'.cell? ⟨w.heap.size,0,none⟩ = some (.int .i64 (n:Nat))∧w'.cell? ⟨w.heap.size,1,none⟩ = some (.int .i64 (n:Nat))∧w'.cell? ⟨w.heap.size,2,none⟩ = some (.slice tq tn tc)∧w'.cell? ⟨h,0,none⟩ = some (.int .i64 (n:Nat))∧w'.cell? ⟨h,1,none⟩ = some (.int .i64 (q:Nat))∧w'.cell? ⟨h,2,none⟩ = some (.slice xo L xc)∧(∀ j,w'.frozen? ⟨h,j,none⟩ = false) from
        have z:=(uH hS).all h';⟨h',z.t.c0,z.t.c1,z.t.c2,z.x.c0,z.x.c1,z.x.c2,fun j=>z.x.free j⟩))
       obtain ⟨_,c0,c1,c2,d0,d1,d2,d3⟩:=uH HK _ (Below.refl _ _)
       have hB0:=(Below.refl wr.heap.size wr).drew
       go_region_with (first | (go_at_call 42;refine (uH K0 _ (by assumption)).mono ?_;rintro e wn ⟨rfl,hb1⟩;have hB:Below wr.heap.size wr wn:=Below.trans (by assumption) (hb1.mono (Below.size (B:=wr.heap.size) (w:=wr) (by assumption)));clear hb1 c0 c1 c2 d0 d1 d2 d3;obtain ⟨_,c0,c1,c2,d0,d1,d2,d3⟩:=uH HK _ hB) | (go_at_call 52;refine (uH K1 _ (by assumption)).mono ?_;rintro e wn ⟨rfl,hb1⟩;have hB:Below wr.heap.size wr wn:=Below.trans (by assumption) (hb1.mono (Below.size (B:=wr.heap.size) (w:=wr) (by assumption)));clear hb1 c0 c1 c2 d0 d1 d2 d3;obtain ⟨_,c0,c1,c2,d0,d1,d2,d3⟩:=uH HK _ hB) | (go_at_call 51;refine (uH K2 _ (by assumption)).mono ?_;rintro e wn ⟨v,rfl,⟨yo,yc,rfl,hn9,hq9⟩,hb1⟩;have hB9:Below wr.heap.size wr wn:=Below.trans (by assumption) (hb1.mono (Below.size (B:=wr.heap.size) (w:=wr) (by assumption)));have P9:=hide (uH PUT _ yo yc hB9 (hn9.least (Below.size (B:=wr.heap.size) (w:=wr) (by assumption))) hq9);rw [uH LNX];clear hb1 hn9 hq9 c0 c1 c2 d0 d1 d2 d3;obtain ⟨_,c0,c1,c2,d0,d1,d2,d3⟩:=uH HK _ hB9) | fail "NO ARM")
       all_goals
        clear c0 c1 c2 d0 d1 d2 d3
        go_wp2_with fail
        go_roundg g2
        case measure=>omega
        case rel=>exact ⟨m+1,_,_,by omega,by have:=uH HIE;go_num,by rw [uH HNX];assumption⟩
end Go.Proofs.YtlnphkioddknfaaGreatDoor
namespace Go.Proofs.YtlnphkioddknfaaGreatDoor
open Go.RowKit
attribute [local go_sem ↓] Go.wp_at_zero Go.wp_at_succ
theorem trE_cases (r c p q:Int) (I J:List Int):trE17 r c p q I J = 0 ∨ trE17 r c p q I J = 1 ∨ trE17 r c p q I J = 4 ∨ trE17 r c p q I J = 3:=by
 unfold trE17 ck2
 rcases ckE_cases r c I with e | e | e <;> rcases ckE_cases p q J with e2 | e2 | e2 <;> rw [e,e2] <;> (repeat' split) <;> simp_all
theorem rup17_err (r c p q f:Int) (ao bo:Option Addr) (k cap m d:Nat) (w:World) (her:f = 1 ∨ f = 4 ∨ f = 3 ∨ f = 5)
  (C1:∀ w',Below w.heap.size w w'→Calls Tryz.prog 48 #[.agg #[.int .i64 r,.int .i64 c,.slice ao k cap],.agg #[.int .i64 p,.int .i64 q,.slice bo m d]] w' fun e w''=>e = .returned (.int .i64 f)∧Below w'.heap.size w' w'') :
  Calls Tryz.prog 13 #[.agg #[.int .i64 r,.int .i64 c,.slice ao k cap],.agg #[.int .i64 p,.int .i64 q,.slice bo m d]] w fun e w'=>e = .returned (.tuple #[.agg #[.int .i64 0,.int .i64 0,.slice none 0 0],.int .i64 f])∧Below w.heap.size w w':=by
 have KB:=hide (boxes3_17 w (.int .i64 r) (.int .i64 c) (.slice ao k cap) (.int .i64 p) (.int .i64 q) (.slice bo m d) (.int .i64 0) (.int .i64 0) (.slice none 0 0))
 obtain ⟨b0,x0,x1,x2⟩:=uH KB _ (by have:=Below.refl (((w.alloc (.cells #[.int .i64 r,.int .i64 c,.slice ao k cap] 24)).alloc (.cells #[.int .i64 p,.int .i64 q,.slice bo m d] 24)).alloc (.cells #[.int .i64 0,.int .i64 0,.slice none 0 0] 24)).heap.size (((w.alloc (.cells #[.int .i64 r,.int .i64 c,.slice ao k cap] 24)).alloc (.cells #[.int .i64 p,.int .i64 q,.slice bo m d] 24)).alloc (.cells #[.int .i64 0,.int .i64 0,.slice none 0 0] 24));simpa only [size_alloc9] using this)
 have HB:=hide b0;have HX:=hide x0;have HY:=hide x1;have HR:=hide x2
 have K1:=hide C1
 clear C1 KB b0 x0 x1 x2
 rcases her with rfl | rfl | rfl | rfl
 all_goals
  have y0:=(uH HX).c0;have y1:=(uH HX).c1;have y2:=(uH HX).c2;have u0:=(uH HY).c0;have u1:=(uH HY).c1;have u2:=(uH HY).c2
  go_enter Tryz.func13,Tryz.ntmps13
  go_wp2_with fail
  clear y0 y1 y2 u0 u1 u2
  refine (uH K1 _ (uH HB)).mono ?_
  rintro e wn ⟨rfl,hb⟩
  replace HX:=hide ((uH HX).all hb);replace HY:=hide ((uH HY).all hb);replace HR:=hide ((uH HR).all hb)
  replace HB:=hide ((uH HB).trans (hb.mono (uH HB).size))
  clear hb
  have y0:=(uH HX).c0;have y1:=(uH HX).c1;have y2:=(uH HX).c2;have u0:=(uH HY).c0;have u1:=(uH HY).c1;have u2:=(uH HY).c2
  go_wp2_with fail
  clear y0 y1 y2 u0 u1 u2
  refine (uH K1 _ (uH HB)).mono ?_
  rintro e wn ⟨rfl,hb⟩
  have X3:=(uH HR).all hb
  replace HB:=hide ((uH HB).trans (hb.mono (uH HB).size))
  clear hb K1 HX HY HR
  have f0:=X3.free 0;have f1:=X3.free 1;have f2:=X3.free 2
  have s0:=X3.c0;have s1:=X3.c1;have s2:=X3.c2
  have XP:=X3.put (.int .i64 0) (.int .i64 0) (.slice none 0 0)
  have z0:=XP.c0;have z1:=XP.c1;have z2:=XP.c2
  have BP:=hide (below_putM (uH HB) (b:=w.heap.size+1+1) (by omega) (.int .i64 0) (.int .i64 0) (.slice none 0 0))
  clear XP X3
  go_wp2_with fail
  exact bodyPost_ret (v:=.tuple #[.agg #[.int .i64 0,.int .i64 0,.slice none 0 0],.int .i64 _]) (by simp [results,Tryz.results13,go_sem,z0,z1,z2]) rfl ⟨rfl,uH BP⟩
theorem rck17_no (r c p q:Int) (ao bo:Option Addr) (cap d:Nat) (I J:List Int) (w:World) (hI:BitsAt w ao cap I) (hJ:BitsAt w bo d J) (hi:I.length≤35184372088830) (hj:J.length≤35184372088830) (h:trE17 r c p q I J ≠ 0) :
  Calls Tryz.prog 48 #[.agg #[.int .i64 r,.int .i64 c,.slice ao I.length cap],.agg #[.int .i64 p,.int .i64 q,.slice bo J.length d]] w fun e w'=>e = .returned (.int .i64 (trE17 r c p q I J))∧Below w.heap.size w w':=by
 have C1:=fun w' (hb:Below w.heap.size w w')=>r11check_any r c ao cap I w' (hI.below hb) hi
 have C2:=fun w' (hb:Below w.heap.size w w')=>r11check_any p q bo d J w' (hJ.below hb) hj
 unfold trE17 ck2 at h ⊢
 by_cases h1:ckE r c I = 0
 ·rw [h1] at C1
  rw [if_pos h1] at h ⊢
  by_cases h2:ckE p q J = 0
  ·rw [h2] at C2
   rw [if_pos h2] at h ⊢
   by_cases hs:r = c∧r = p
   ·rw [if_pos hs] at h;exact absurd rfl h
   ·rw [if_neg hs]
    refine rck17_shape r c p q ao bo I.length cap J.length d w ?_ C1 C2
    by_cases e:r = c
    ·exact .inr ⟨e,fun e2=>hs ⟨e,e2⟩⟩
    ·exact .inl e
  ·rw [if_neg h2]
   exact rck17_two r c p q (ckE p q J) ao bo I.length cap J.length d w ((ckE_cases p q J).resolve_left h2) C1 C2
 ·rw [if_neg h1] at h ⊢
  rw [if_neg h1]
  exact rck17_one r c p q (ckE r c I) ao bo I.length cap J.length d w ((ckE_cases r c I).resolve_left h1) C1
theorem rck17_mx (n q tc bc:Nat) (tq bo:Option Addr) (T B:List Nat) (w:World) (hT:Mx w tq tc n n T) (hB:Mx w bo bc n q B) (fT:finL T = true) (fB:finL B = true) :
  Calls Tryz.prog 48 #[.agg #[.int .i64 n,.int .i64 n,.slice tq T.length tc],.agg #[.int .i64 n,.int .i64 q,.slice bo B.length bc]] w fun e w'=>e = .returned (.int .i64 (if zdB (dgL n n T) = true then 5 else 0))∧Below w.heap.size w w':=by
 have hT36:=hT.small;have hB36:=hB.small
 refine rck17_ok n q tc bc T.length B.length tq bo T w hT rfl (fun w' hb=>?_) (fun w' hb=>?_)
 ·have:=r11check_any n n tq tc (mxL T) w' (hT.1.below hb) (by rw [mxL_len];omega)
  rwa [mxL_len,ck_mx hT fT] at this
 ·have:=r11check_any n q bo bc (mxL B) w' (hB.1.below hb) (by rw [mxL_len];omega)
  rwa [mxL_len,ck_mx hB fB] at this
theorem rupper17_no (r c p q:Int) (ao bo:Option Addr) (cap d:Nat) (I J:List Int) (w:World) (hI:BitsAt w ao cap I) (hJ:BitsAt w bo d J) (hi:I.length≤35184372088830) (hj:J.length≤35184372088830) (h:trE17 r c p q I J ≠ 0) :
  Calls Tryz.prog 13 #[.agg #[.int .i64 r,.int .i64 c,.slice ao I.length cap],.agg #[.int .i64 p,.int .i64 q,.slice bo J.length d]] w fun e w'=>SvAns w w' (trE17 r c p q I J) 0 0 [] e∧Below w.heap.size w w':=by
 refine (rup17_err r c p q (trE17 r c p q I J) ao bo I.length cap J.length d w (by rcases trE_cases r c p q I J with e | e | e | e <;> simp_all) (fun w' hb=>rck17_no r c p q ao bo cap d I J w' (hI.below hb) (hJ.below hb) hi hj h)).mono ?_
 rintro e w' ⟨rfl,hb⟩
 exact ⟨.inr ⟨h,rfl⟩,hb⟩
theorem rupper17_mx (n q tc bc:Nat) (tq bo:Option Addr) (T B:List Nat) (w:World) (hT:Mx w tq tc n n T) (hB:Mx w bo bc n q B) (fT:finL T = true) (fB:finL B = true) :
  Calls Tryz.prog 13 #[.agg #[.int .i64 n,.int .i64 n,.slice tq T.length tc],.agg #[.int .i64 n,.int .i64 q,.slice bo B.length bc]] w fun e w'=>SvAns w w' (usE n T (upM n q T B)) n q (upM n q T B) e∧Below w.heap.size w w':=by
 have CK:=fun w' (hb:Below w.heap.size w w')=>rck17_mx n q tc bc tq bo T B w' (hT.below hb) (hB.below hb) fT fB
 have lM:(upM n q T B).length = n * q:=trM_len _ _ _ _ _ _
 unfold usE
 cases hz:zdB (dgL n n T) with
 | true =>
  rw [hz,if_pos rfl] at CK
  rw [if_pos rfl]
  refine (rup17_err n n n q 5 tq bo T.length tc B.length bc w (by simp) CK).mono ?_
  rintro e w' ⟨rfl,hb⟩
  exact ⟨.inr ⟨by decide,rfl⟩,hb⟩
 | false =>
  rw [hz,if_neg (by decide)] at CK
  rw [if_neg (by decide)]
  refine (rup17_of n q tc bc T.length B.length (n * q) (if finL (upM n q T B) = true then 0 else 2) tq bo T B w hT hB rfl rfl rfl CK (fun w' xo xc hb hx=>rfin17_any n q (n * q) xc xo _ w' hx lM (Nat.mul_le_mul hT.2.2.1 hB.2.2.2))).mono ?_
  rintro e w' ⟨xo,xc,hans,h1,h2,hb⟩
  refine ⟨?_,hb⟩
  rcases hans with ⟨e1,rfl⟩ | ⟨e1,rfl⟩
  ·have hf:finL (upM n q T B) = true:=by
    cases hq:finL (upM n q T B)
    ·rw [hq,if_neg (by decide)] at e1;cases e1
    ·rfl
   exact .inl ⟨e1,xo,xc,rfl,h1,h2,lM,hf⟩
  ·exact .inr ⟨e1,rfl⟩
theorem SvAns.one {w w':World} {f:Int} {n q:Nat} {M:List Nat} {e:Ending} (h:SvAns w w' f n q M e):∃ xo xc,e = .returned (.tuple #[.agg #[.int .i64 ((if f = 0 then n else 0:Nat):Int),.int .i64 ((if f = 0 then q else 0:Nat):Int),.slice xo (if f = 0 then M else []).length xc],.int .i64 f])∧BitsAt w' xo xc (mxL (if f = 0 then M else [])):=by
 rcases h with ⟨rfl,xo,xc,rfl,_,h2,h3,_⟩ | ⟨hf,rfl⟩
 ·refine ⟨xo,xc,?_,?_⟩
  ·rw [if_pos rfl,if_pos rfl,if_pos rfl,h3]
  ·rw [if_pos rfl];exact h2
 ·refine ⟨none,0,?_,?_⟩
  ·rw [if_neg hf,if_neg hf,if_neg hf];rfl
  ·rw [if_neg hf];exact BitsAt.none w' 0
end Go.Proofs.YtlnphkioddknfaaGreatDoor
namespace Go.Proofs.YtlnphkioddknfaaGreatDoor
open Go.RowKit
attribute [local go_sem ↓] Go.wp_at_zero Go.wp_at_succ
theorem one_bits17 (w:World) (a:Nat) (ha:a < 18446744073709551616):BitsAt (w.alloc (.cells #[.int .u64 (a:Nat)] 37)) (some ⟨w.heap.size,0,none⟩) 1 [(a:Int)]:=by
 have h:RowB (w.alloc (.cells #[.int .u64 (a:Nat)] 37)) w.heap.size [a]:=heap_alloc_new w _
 exact h.bits (fun x hx=>by simp at hx;subst hx;exact ha)
theorem pa_fin17 {S:List Nat} {r n:Nat} (hl:S.length = r * n) (h:finL S = true) {i k p q:Nat} (hp:i+p≤r) (hq:k+q≤n):finL (paM n S i k p q) = true:=by
 rw [finL_all] at h ⊢
 rw [show (paM n S i k p q).length = p * q from mkM_len _ _ _]
 intro x hx
 obtain ⟨h1,h2,h3⟩:=place_in hx
 unfold paM
 rw [← h3,mkM_atD _ _ _ h1 h2]
 exact h _ (by rw [hl];exact place_lt (show i+x / q < r by omega) (show k+x % q < n by omega))
def lqQ (r c:Nat) (S:List Nat):List Nat:=paM r (facQ r c S) 0 0 r c
def lqT (r c:Nat) (S:List Nat):List Nat:=paM c (facR r c S) 0 0 c c
def lqY (r c q:Nat) (S B:List Nat):List Nat:=muM c r q (tuM r c (lqQ r c S)) B
def lqU (r c q:Nat) (S B:List Nat):List Nat:=upM c q (lqT r c S) (lqY r c q S B)
def lqE (r c q:Nat) (S B:List Nat):Int:=if facK r c S = true then (if ftB c c (lqT r c S) = true then 5 else if finL (lqY r c q S B) = true then usE c (lqT r c S) (lqU r c q S B) else 4) else 2
theorem lqT_fin {r c:Nat} {S:List Nat} (hl:S.length = r * c) (hcr:c≤r) (hk:facK r c S = true):finL (lqT r c S) = true:=by
 unfold facK at hk
 rw [Bool.and_eq_true,Bool.and_eq_true] at hk
 exact pa_fin17 (r:=r) (qrR_len r c S hl _) hk.2.2 (by omega) (by omega)
theorem chk17 {r c p q cap d:Nat} {ao bo:Option Addr} {S B:List Nat} {w:World} (h:Mx w ao cap r c S) (h2:Mx w bo d p q B) (fS:finL S = true) (fB:finL B = true) :
  Calls Tryz.prog 70 #[.agg #[.int .i64 r,.int .i64 c,.slice ao S.length cap],.agg #[.int .i64 p,.int .i64 q,.slice bo B.length d]] w fun e w'=>e = .returned (.int .i64 0)∧Below w.heap.size w w':=by
 have s1:=h.small;have s2:=h2.small
 have:=checked_any r c p q ao bo cap d (mxL S) (mxL B) w h.1 h2.1 (by rw [mxL_len];omega) (by rw [mxL_len];omega)
 rw [mxL_len,mxL_len] at this
 unfold ck2 at this
 rwa [if_pos (ck_mx h fS),ck_mx h2 fB] at this
theorem least_mx (r c q tc bc:Nat) (tq bo:Option Addr) (S B:List Nat) (w:World) (hS:Mx w tq tc r c S) (hB:Mx w bo bc r q B) (fS:finL S = true) (fB:finL B = true) (hcr:c≤r) (hT:Tab w) :
  Calls Tryz.prog 22 #[.agg #[.int .i64 r,.int .i64 c,.slice tq S.length tc],.agg #[.int .i64 r,.int .i64 q,.slice bo B.length bc]] w fun e w'=>SvAns w w' (lqE r c q S B) c q (lqU r c q S B) e∧Below w.heap.size w w':=by
 have r6:=hS.2.2.1;have c6:=hS.2.2.2;have q6:=hB.2.2.2
 have hsh:¬ (r:Int) < (c:Int):=by omega
 have hm:min r c = c:=by omega
 have C1:=fun w' (hb:Below w.heap.size w w')=>chk17 (hS.below hb) (hB.below hb) fS fB
 unfold lqE
 cases hk:facK r c S with
 | false =>
  rw [if_neg (by decide)]
  refine (least_range r c q S.length tc B.length bc tq bo w hsh C1 (fun w' hb=>(qThin_no r c tc tq S w' (hS.below hb) fS hk (hT.all hb)).mono ?_)).mono ?_
  ·rintro e w'' ⟨v,u,rfl,⟨ao,cap,rfl,_,_⟩,⟨bo',cap',rfl,_,_⟩,hb2⟩
   exact ⟨0,0,0,0,ao,bo',0,cap,0,cap',rfl,hb2⟩
  ·rintro e w' ⟨rfl,hb⟩
   exact ⟨.inr ⟨by decide,rfl⟩,hb⟩
 | true =>
  rw [if_pos rfl]
  have fT:=lqT_fin hS.2.1 hcr hk
  have lT:(lqT r c S).length = c * c:=by unfold lqT paM;exact mkM_len _ _ _
  have lQ:(lqQ r c S).length = r * c:=by unfold lqQ paM;exact mkM_len _ _ _
  have lY:(lqY r c q S B).length = c * q:=by unfold lqY muM;exact mkM_len _ _ _
  have C2:∀ w',Below w.heap.size w w'→Calls Tryz.prog 71 #[.agg #[.int .i64 r,.int .i64 c,.slice tq S.length tc]] w' fun e w''=>∃ so sd vo vd,e = .returned (.tuple #[.agg #[.int .i64 r,.int .i64 c,.slice so (lqQ r c S).length sd],.agg #[.int .i64 c,.int .i64 c,.slice vo (lqT r c S).length vd],.int .i64 0])∧BitsAt w'' so sd (mxL (lqQ r c S))∧BitsAt w'' vo vd (mxL (lqT r c S))∧Below w'.heap.size w' w'':=fun w' hb=>by
   have:=qThin_yes r c tc tq S w' (hS.below hb) fS hk (hT.all hb)
   rw [hm] at this
   refine this.mono ?_
   rintro e w'' ⟨v,u,rfl,⟨ao,cap,rfl,_,h1⟩,⟨bo',cap',rfl,_,h2⟩,hb2⟩
   exact ⟨ao,cap,bo',cap',rfl,h1,h2,hb2⟩
  have C3:∀ w' vo vd,Below w.heap.size w w'→BitsAt w' vo vd (mxL (lqT r c S))→Calls Tryz.prog 18 #[.agg #[.int .i64 c,.int .i64 c,.slice vo (lqT r c S).length vd]] w' fun e w''=>e = .returned (.tuple #[.bool (ftB c c (lqT r c S)),.int .i64 0])∧Below w'.heap.size w' w'':=fun w' vo vd hb hv =>
   flat_any c c vd vo (lqT r c S) w' ⟨hv,lT,c6,c6⟩ fT (hT.all hb)
  cases hf:ftB c c (lqT r c S) with
  | true =>
   rw [hf] at C3
   rw [if_pos rfl]
   refine (least_rank r c q S.length tc B.length bc (lqQ r c S).length (lqT r c S).length (lqQ r c S) (lqT r c S) tq bo w hsh C1 C2 C3).mono ?_
   rintro e w' ⟨rfl,hb⟩
   exact ⟨.inr ⟨by decide,rfl⟩,hb⟩
  | false =>
   rw [hf] at C3
   rw [if_neg (by decide)]
   refine least_of r c q (if finL (lqY r c q S B) = true then usE c (lqT r c S) (lqU r c q S B) else 4) S.length tc B.length bc (lqQ r c S).length (lqT r c S).length (lqY r c q S B).length c q (lqQ r c S) (lqT r c S) (lqY r c q S B) (lqU r c q S B) tq bo w hsh C1 C2 C3 (fun w' so sd hb hs=>?_) (fun w' vo vd yo yd hb hv hy=>?_)
   ·refine (qTurned_yes r c q sd bc so bo (lqQ r c S) B w' ⟨hs,lQ,r6,c6⟩ (hB.below hb) (hT.all hb)).mono ?_
    rintro e w'' ⟨v,rfl,⟨ao,cap,rfl,_,h1⟩,hb2⟩
    exact ⟨ao,cap,rfl,h1,hb2⟩
   ·cases hy2:finL (lqY r c q S B) with
    | true =>
     rw [if_pos rfl]
     exact upper_mx c q vd yd vo yo (lqT r c S) (lqY r c q S B) w' ⟨hv,lT,c6,c6⟩ ⟨hy,lY,c6,q6⟩ fT hy2 (hT.all hb)
    | false =>
     rw [if_neg (by decide)]
     have e4:trE17 c c c q (mxL (lqT r c S)) (mxL (lqY r c q S B)) = 4:=by
      have h1:ckE (c:Int) (c:Int) (mxL (lqT r c S)) = 0:=ck_mx (w:=w') (ao:=vo) (cap:=vd) ⟨hv,lT,c6,c6⟩ fT
      have h2:ckE (c:Int) (q:Int) (mxL (lqY r c q S B)) = 4:=by
       unfold ckE
       have hm2:Mx w' yo yd c q (lqY r c q S B):=⟨hy,lY,c6,q6⟩
       rw [mxL_len,mx_ok hm2]
       have:fnK (mxL (lqY r c q S B)) (lqY r c q S B).length = false:=hy2
       rw [this]
       rfl
      unfold trE17 ck2
      rw [h1,h2]
      rfl
     have t36:c * c≤36:=Nat.mul_le_mul c6 c6
     have y36:c * q≤36:=Nat.mul_le_mul c6 q6
     have:=upper_no c c c q vo yo vd yd (mxL (lqT r c S)) (mxL (lqY r c q S B)) w' hv hy (by rw [mxL_len,lT];omega) (by rw [mxL_len,lY];omega) (by rw [e4];decide)
     rw [e4,mxL_len,mxL_len] at this
     refine this.mono ?_
     rintro e w'' ⟨hans,hb2⟩
     rcases hans with ⟨h0,_⟩ | ⟨_,rfl⟩
     ·cases h0
     ·exact ⟨.inr ⟨by decide,rfl⟩,hb2⟩
theorem awake17_of (w:World)
  (C1:∀ w' ao bo,Below w.heap.size w w'→BitsAt w' ao 1 [((4611686018427387904:Nat):Int)]→BitsAt w' bo 1 [((4616189618054758400:Nat):Int)]→Calls Tryz.prog 22 #[.agg #[.int .i64 1,.int .i64 1,.slice ao 1 1],.agg #[.int .i64 1,.int .i64 1,.slice bo 1 1]] w' fun e w''=>∃ xo xc,e = .returned (.tuple #[.agg #[.int .i64 1,.int .i64 1,.slice xo 1 xc],.int .i64 0])∧BitsAt w'' xo xc [((4611686018427387904:Nat):Int)]∧Below w'.heap.size w' w'') :
  Calls Tryz.prog 15 #[] w fun e w'=>e = .returned (.bool true)∧Below w.heap.size w w':=by
 have K1:=hide C1
 have b1:=below_alloc9 w (.cells #[.int .u64 ((4611686018427387904:Nat):Int)] 37)
 have t1:=one_bits17 w 4611686018427387904 (by decide)
 have b2:=below_alloc9 (w.alloc (.cells #[.int .u64 ((4611686018427387904:Nat):Int)] 37)) (.cells #[.int .u64 ((4616189618054758400:Nat):Int)] 37)
 have t2:=one_bits17 (w.alloc (.cells #[.int .u64 ((4611686018427387904:Nat):Int)] 37)) 4616189618054758400 (by decide)
 rw [size_alloc9] at t2
 have TB:=hide (t1.below b2);have TC:=hide t2
 have BB:=hide (b1.trans (b2.mono b1.size))
 clear C1 b1 t1 b2 t2
 go_enter Tryz.func15,Tryz.ntmps15
 go_wp2_with fail
 refine (uH K1 _ _ _ (uH BB) (uH TB) (uH TC)).mono ?_
 rintro e w1 ⟨xo,xc,rfl,bv,hb⟩
 obtain ⟨b,off,rfl,_,hc⟩:=bv.ne (by decide)
 have c0:w1.cell? ⟨b,off+0,none⟩ = some (.int .u64 4611686018427387904):=hc 0 (by decide)
 rw [Nat.add_zero] at c0
 replace BB:=hide ((uH BB).trans (hb.mono (uH BB).size))
 clear hb K1 TB TC bv hc
 have ba:=below_alloc9 w1 (.cells #[.int .i64 1,.int .i64 1,.slice (some ⟨b,off,none⟩) 1 xc] 24)
 have BC:=hide ((uH BB).trans (ba.mono (uH BB).size))
 clear ba BB
 go_wp2
 go_ret
 exact ⟨rfl,uH BC⟩
theorem same17_of (r c f:Int) (n cap d:Nat) (ao bo:Option Addr) (w:World)
  (C1:∀ w',Below w.heap.size w w'→Calls Tryz.prog 23 #[.agg #[.int .i64 r,.int .i64 c,.slice ao n cap],.agg #[.int .i64 r,.int .i64 c,.slice bo n d]] w' fun e w''=>e = .returned (.bool true)∧Below w'.heap.size w' w'') :
  Calls Tryz.prog 14 #[.agg #[.int .i64 r,.int .i64 c,.slice ao n cap],.int .i64 f,.agg #[.int .i64 r,.int .i64 c,.slice bo n d],.int .i64 f] w fun e w'=>e = .returned (.bool true)∧Below w.heap.size w w':=by
 have KB:=hide (boxes2 w (.int .i64 r) (.int .i64 c) (.slice ao n cap) (.int .i64 r) (.int .i64 c) (.slice bo n d))
 obtain ⟨b0,x0,x1⟩:=uH KB ((w.alloc (.cells #[.int .i64 r,.int .i64 c,.slice ao n cap] 24)).alloc (.cells #[.int .i64 r,.int .i64 c,.slice bo n d] 24)) (by have:=Below.refl ((w.alloc (.cells #[.int .i64 r,.int .i64 c,.slice ao n cap] 24)).alloc (.cells #[.int .i64 r,.int .i64 c,.slice bo n d] 24)).heap.size ((w.alloc (.cells #[.int .i64 r,.int .i64 c,.slice ao n cap] 24)).alloc (.cells #[.int .i64 r,.int .i64 c,.slice bo n d] 24));simpa only [size_alloc9] using this)
 have K1:=hide (C1 _ b0)
 have HB:=hide b0
 have y0:=x0.c0;have y1:=x0.c1;have y2:=x0.c2;have u0:=x1.c0;have u1:=x1.c1;have u2:=x1.c2
 clear C1 KB b0 x0 x1
 go_enter Tryz.func14,Tryz.ntmps14
 go_wp2_with fail
 refine (uH K1).mono ?_
 rintro e w1 ⟨rfl,hb⟩
 replace HB:=hide ((uH HB).trans (hb.mono (uH HB).size))
 clear hb K1 y0 y1 y2 u0 u1 u2
 go_wp2
 go_ret
 exact ⟨rfl,uH HB⟩
theorem same17_yes (r c f:Int) (cap d:Nat) (ao bo:Option Addr) (S:List Nat) (w:World) (h:BitsAt w ao cap (mxL S)) (h2:BitsAt w bo d (mxL S)) (hl:S.length≤1000000) :
  Calls Tryz.prog 14 #[.agg #[.int .i64 r,.int .i64 c,.slice ao S.length cap],.int .i64 f,.agg #[.int .i64 r,.int .i64 c,.slice bo S.length d],.int .i64 f] w fun e w'=>e = .returned (.bool true)∧Below w.heap.size w w' :=
 same17_of r c f S.length cap d ao bo w (fun w' hb=>rsame_any r c ao bo cap d S w' (h.below hb) (h2.below hb) hl)
end Go.Proofs.YtlnphkioddknfaaGreatDoor
namespace Go.Proofs.YtlnphkioddknfaaGreatDoor
open Go.RowKit
theorem a17_k:facK 1 1 [4611686018427387904] = true:=by decide +kernel
theorem a17_t:lqT 1 1 [4611686018427387904] = [4611686018427387904]:=by decide +kernel
theorem a17_q:lqQ 1 1 [4611686018427387904] = [4607182418800017408]:=by decide +kernel
theorem a17_y:lqY 1 1 1 [4611686018427387904] [4616189618054758400] = [4616189618054758400]:=by
 unfold lqY
 rw [a17_q]
 decide +kernel
theorem a17_f:ftB 1 1 [4611686018427387904] = false:=by decide +kernel
theorem a17_u:upM 1 1 [4611686018427387904] [4616189618054758400] = [4611686018427387904]:=by decide +kernel
theorem awake17_facts:lqE 1 1 1 [4611686018427387904] [4616189618054758400] = 0∧lqU 1 1 1 [4611686018427387904] [4616189618054758400] = [4611686018427387904]:=by
 have hu:lqU 1 1 1 [4611686018427387904] [4616189618054758400] = [4611686018427387904]:=by
  unfold lqU
  rw [a17_t,a17_y]
  exact a17_u
 refine ⟨?_,hu⟩
 unfold lqE
 rw [hu,a17_k,a17_t,a17_y,a17_f]
 decide +kernel
theorem awake17_any (w:World) (hT:Tab w):∀ w',Below w.heap.size w w'→Calls Tryz.prog 15 #[] w' fun e w''=>e = .returned (.bool true)∧Below w'.heap.size w' w'':=fun w0 hb0 =>
 awake17_of w0 (fun w' ao bo hb h1 h2=>by
  have:=least_mx 1 1 1 1 1 ao bo [4611686018427387904] [4616189618054758400] w' ⟨h1,rfl,by decide,by decide⟩ ⟨h2,rfl,by decide,by decide⟩ (by decide +kernel) (by decide +kernel) (Nat.le_refl 1) ((hT.all hb0).all hb)
  rw [awake17_facts.1,awake17_facts.2] at this
  refine this.mono ?_
  rintro e w'' ⟨hans,hb2⟩
  rcases hans with ⟨_,xo,xc,rfl,_,h3,_,_⟩ | ⟨h0,_⟩
  ·exact ⟨xo,xc,rfl,h3,hb2⟩
  ·exact absurd rfl h0)
end Go.Proofs.YtlnphkioddknfaaGreatDoor
