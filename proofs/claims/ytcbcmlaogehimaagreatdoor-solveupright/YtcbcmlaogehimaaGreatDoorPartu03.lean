/- Part 3 of the texts. -/
import Derived.Test.YtcbcmlaogehimaaGreatDoorPartu02
set_option maxHeartbeats 4000000
namespace Go.Proofs.YtcbcmlaogehimaaGreatDoor
open Go.RowKit
theorem cV{l:World}{g:Nat}{x y z:Value}(D:c8 l g x y z):∀t,H8 l t->H8 l t/\t.cell? ⟨g,0,none⟩=some x/\t.cell? ⟨g,1,none⟩=some y/\t.cell? ⟨g,2,none⟩=some z:=fun _ h=>⟨h,(D.all h).c0,(D.all h).c1,(D.all h).c2⟩
theorem gP{t D l:World}{p:Prop}(h:H8 t D/\p)(F:H8 D l):H8 t l:=h.1.trans (F.mono h.1.size)
theorem dR{w l t:World}{p:Prop}(D:Hid (H8 w l))(h:H8 l t/\p):H8 w t:=D.out.trans (h.1.mono D.out.size)
theorem gb(w:World):BS 200 #[CI 0] w (.agg #[.bool false,CI 0,CI 0]):=by
 have h:=h9 0 w (by decide)
 simpa[fV,fS,fP,fF]using h
theorem gQ(w:World):BS 200 #[CI 9223372036854775808] w (.agg #[.bool true,CI 0,CI 0]):=by
 have h:=h9 9223372036854775808 w (by decide)
 simpa[fV,fS,fP,fF]using h
theorem ip(w:World):BS 200 #[CI 9218868437227405312] w (.agg #[.bool false,CI 2047,CI 0]):=by
 have h:=h9 9218868437227405312 w (by decide)
 simpa[fV,fS,fP,fF]using h
theorem i8(w:World):BS 200 #[CI 18442240474082181120] w (.agg #[.bool true,CI 2047,CI 0]):=by
 have h:=h9 18442240474082181120 w (by decide)
 simpa[fV,fS,fP,fF]using h
theorem Ja(b:Nat)(w:World)(C:∀l,BS 200 #[CI b] l (.agg #[.bool false,CI 0,CI 0])):
  BS 164 #[CI b] w (C0 0):=by
 have K:=ac gb;have F:=ac C;clear C
 go_enter Tryz.func164,Tryz.ntmps164
 go_wp2_with fail;refine(uH F _).mono ?_;rintro e H ⟨rfl,h⟩;clear F
 go_wp2
 refine aB (fun W=>H8 w W/\c8 W H.heap.size (.bool false) (CI 0) (CI 0)) ⟨h.alloc h.size _,c8.new _ _ _ _⟩ ?_;rintro I ⟨J,D⟩;clear h;generalize H.heap.size=g at*;have G:=ac (cV D);have L:=ac J;have M:=ac D;clear D J
 go_region_held3(fun l=>H8 I l/\l.cell? ⟨g,0,none⟩=some (.bool false)/\l.cell? ⟨g,1,none⟩=some (CI 0)/\l.cell? ⟨g,2,none⟩=some (CI 0))
  (first|exact uH G _ (Below.refl _ _).drew|exact uH G _ (by assumption)|fail "NO KEEP")
  (first|(go_at_call 200;refine(uH K _).mono ?_;rintro e O ⟨rfl,h⟩;have N:=gP (by assumption) h;clear h)|fail "NO ARM")
 go_wp2
 go_ret
 exact⟨rfl,dR L (by assumption)⟩
theorem Jb(b:Nat)(w:World)(C:∀l,BS 200 #[CI b] l (.agg #[.bool false,CI 2047,CI 0])):
  BS 164 #[CI b] w (C0 3):=by
 have H:=ac gb;have I:=ac gQ;have J:=ac ip;have N:=ac C;clear C
 go_enter Tryz.func164,Tryz.ntmps164
 go_wp2_with fail;refine(uH N _).mono ?_;rintro e O ⟨rfl,h⟩;clear N
 go_wp2
 refine aB (fun W=>H8 w W/\c8 W O.heap.size (.bool false) (CI 2047) (CI 0)) ⟨h.alloc h.size _,c8.new _ _ _ _⟩ ?_;rintro F ⟨G,t⟩;clear h;generalize O.heap.size=g at*;have D:=ac (cV t);have K:=ac G;have M:=ac t;clear t G
 iterate 2 (go_region_held3(fun l=>H8 F l/\l.cell? ⟨g,0,none⟩=some (.bool false)/\l.cell? ⟨g,1,none⟩=some (CI 2047)/\l.cell? ⟨g,2,none⟩=some (CI 0))
  (first|exact uH D _ (Below.refl _ _).drew|exact uH D _ (by assumption)|fail "NO KEEP")
  (first|(go_at_call 200;(first|(refine(uH H _).mono ?_;clear H)|(refine(uH I _).mono ?_;clear I)|(refine(uH J _).mono ?_;clear J));rintro e U ⟨rfl,h⟩;have Q:=gP (by assumption) h;clear h)|fail "NO ARM");go_wp2;refine aB (fun W=>H8 w W/\c8 W g (.bool false) (CI 2047) (CI 0)) ⟨dR K (by assumption),(uH M).all (And.left (by assumption))⟩ ?_;clear D K M;rintro F ⟨G,t⟩;have D:=ac (cV t);have K:=ac G;have M:=ac t;clear t G)
 go_region_held3(fun l=>H8 F l/\l.cell? ⟨g,0,none⟩=some (.bool false)/\l.cell? ⟨g,1,none⟩=some (CI 2047)/\l.cell? ⟨g,2,none⟩=some (CI 0))
  (first|exact uH D _ (Below.refl _ _).drew|exact uH D _ (by assumption)|fail "NO KEEP")
  (first|(go_at_call 200;(first|(refine(uH H _).mono ?_;clear H)|(refine(uH I _).mono ?_;clear I)|(refine(uH J _).mono ?_;clear J));rintro e U ⟨rfl,h⟩;have Q:=gP (by assumption) h;clear h)|fail "NO ARM")
 go_wp2
 go_ret
 exact⟨rfl,dR K (by assumption)⟩
theorem Jc(b:Nat)(f:Nat)(w:World)(C:∀l,BS 200 #[CI b] l (.agg #[.bool false,CI 0,CI f]))(hf:((f:Int)==0)=false):
  BS 164 #[CI b] w (C0 1):=by
 have H:=ac gb;have I:=ac gQ;have J:=ac ip;have K:=ac i8;have O:=ac C;clear C
 go_enter Tryz.func164,Tryz.ntmps164
 go_wp2_with fail;refine(uH O _).mono ?_;rintro e Q ⟨rfl,h⟩;clear O
 go_wp2
 refine aB (fun W=>H8 w W/\c8 W Q.heap.size (.bool false) (CI 0) (CI f)) ⟨h.alloc h.size _,c8.new _ _ _ _⟩ ?_;rintro F ⟨G,t⟩;clear h;generalize Q.heap.size=g at*;have D:=ac (cV t);have L:=ac G;have N:=ac t;clear t G
 iterate 3 (go_region_held3(fun l=>H8 F l/\l.cell? ⟨g,0,none⟩=some (.bool false)/\l.cell? ⟨g,1,none⟩=some (CI 0)/\l.cell? ⟨g,2,none⟩=some (CI f))
  (first|exact uH D _ (Below.refl _ _).drew|exact uH D _ (by assumption)|fail "NO KEEP")
  (first|(go_at_call 200;(first|(refine(uH H _).mono ?_;clear H)|(refine(uH I _).mono ?_;clear I)|(refine(uH J _).mono ?_;clear J)|(refine(uH K _).mono ?_;clear K));rintro e Z ⟨rfl,h⟩;have U:=gP (by assumption) h;clear h)|fail "NO ARM");go_wp2;refine aB (fun W=>H8 w W/\c8 W g (.bool false) (CI 0) (CI f)) ⟨dR L (by assumption),(uH N).all (And.left (by assumption))⟩ ?_;clear D L N;rintro F ⟨G,t⟩;have D:=ac (cV t);have L:=ac G;have N:=ac t;clear t G)
 go_region_held3(fun l=>H8 F l/\l.cell? ⟨g,0,none⟩=some (.bool false)/\l.cell? ⟨g,1,none⟩=some (CI 0)/\l.cell? ⟨g,2,none⟩=some (CI f))
  (first|exact uH D _ (Below.refl _ _).drew|exact uH D _ (by assumption)|fail "NO KEEP")
  (first|(go_at_call 200;(first|(refine(uH H _).mono ?_;clear H)|(refine(uH I _).mono ?_;clear I)|(refine(uH J _).mono ?_;clear J)|(refine(uH K _).mono ?_;clear K));rintro e Z ⟨rfl,h⟩;have U:=gP (by assumption) h;clear h)|fail "NO ARM")
 go_wp2
 go_ret
 exact⟨rfl,dR L (by assumption)⟩
theorem Jd(b:Nat)(f:Nat)(w:World)(C:∀l,BS 200 #[CI b] l (.agg #[.bool false,CI 2047,CI f]))(hf:((f:Int)==0)=false):
  BS 164 #[CI b] w (C0 4):=by
 have H:=ac gb;have I:=ac gQ;have J:=ac ip;have K:=ac i8;have O:=ac C;clear C
 go_enter Tryz.func164,Tryz.ntmps164
 go_wp2_with fail;refine(uH O _).mono ?_;rintro e Q ⟨rfl,h⟩;clear O
 go_wp2
 refine aB (fun W=>H8 w W/\c8 W Q.heap.size (.bool false) (CI 2047) (CI f)) ⟨h.alloc h.size _,c8.new _ _ _ _⟩ ?_;rintro F ⟨G,t⟩;clear h;generalize Q.heap.size=g at*;have D:=ac (cV t);have L:=ac G;have N:=ac t;clear t G
 iterate 3 (go_region_held3(fun l=>H8 F l/\l.cell? ⟨g,0,none⟩=some (.bool false)/\l.cell? ⟨g,1,none⟩=some (CI 2047)/\l.cell? ⟨g,2,none⟩=some (CI f))
  (first|exact uH D _ (Below.refl _ _).drew|exact uH D _ (by assumption)|fail "NO KEEP")
  (first|(go_at_call 200;(first|(refine(uH H _).mono ?_;clear H)|(refine(uH I _).mono ?_;clear I)|(refine(uH J _).mono ?_;clear J)|(refine(uH K _).mono ?_;clear K));rintro e Z ⟨rfl,h⟩;have U:=gP (by assumption) h;clear h)|fail "NO ARM");go_wp2;refine aB (fun W=>H8 w W/\c8 W g (.bool false) (CI 2047) (CI f)) ⟨dR L (by assumption),(uH N).all (And.left (by assumption))⟩ ?_;clear D L N;rintro F ⟨G,t⟩;have D:=ac (cV t);have L:=ac G;have N:=ac t;clear t G)
 go_region_held3(fun l=>H8 F l/\l.cell? ⟨g,0,none⟩=some (.bool false)/\l.cell? ⟨g,1,none⟩=some (CI 2047)/\l.cell? ⟨g,2,none⟩=some (CI f))
  (first|exact uH D _ (Below.refl _ _).drew|exact uH D _ (by assumption)|fail "NO KEEP")
  (first|(go_at_call 200;(first|(refine(uH H _).mono ?_;clear H)|(refine(uH I _).mono ?_;clear I)|(refine(uH J _).mono ?_;clear J)|(refine(uH K _).mono ?_;clear K));rintro e Z ⟨rfl,h⟩;have U:=gP (by assumption) h;clear h)|fail "NO ARM")
 go_wp2
 go_ret
 exact⟨rfl,dR L (by assumption)⟩
theorem Je(b:Nat)(p:Nat)(f:Nat)(w:World)(C:∀l,BS 200 #[CI b] l (.agg #[.bool false,CI p,CI f]))(hp:((p:Int)==0)=false)(hq:((p:Int)==2047)=false):
  BS 164 #[CI b] w (C0 2):=by
 have H:=ac gb;have I:=ac gQ;have J:=ac ip;have K:=ac i8;have O:=ac C;clear C
 go_enter Tryz.func164,Tryz.ntmps164
 go_wp2_with fail;refine(uH O _).mono ?_;rintro e Q ⟨rfl,h⟩;clear O
 go_wp2
 refine aB (fun W=>H8 w W/\c8 W Q.heap.size (.bool false) (CI p) (CI f)) ⟨h.alloc h.size _,c8.new _ _ _ _⟩ ?_;rintro F ⟨G,t⟩;clear h;generalize Q.heap.size=g at*;have D:=ac (cV t);have L:=ac G;have N:=ac t;clear t G
 iterate 3 (go_region_held3(fun l=>H8 F l/\l.cell? ⟨g,0,none⟩=some (.bool false)/\l.cell? ⟨g,1,none⟩=some (CI p)/\l.cell? ⟨g,2,none⟩=some (CI f))
  (first|exact uH D _ (Below.refl _ _).drew|exact uH D _ (by assumption)|fail "NO KEEP")
  (first|(go_at_call 200;(first|(refine(uH H _).mono ?_;clear H)|(refine(uH I _).mono ?_;clear I)|(refine(uH J _).mono ?_;clear J)|(refine(uH K _).mono ?_;clear K));rintro e Z ⟨rfl,h⟩;have U:=gP (by assumption) h;clear h)|fail "NO ARM");go_wp2;refine aB (fun W=>H8 w W/\c8 W g (.bool false) (CI p) (CI f)) ⟨dR L (by assumption),(uH N).all (And.left (by assumption))⟩ ?_;clear D L N;rintro F ⟨G,t⟩;have D:=ac (cV t);have L:=ac G;have N:=ac t;clear t G)
 go_region_held3(fun l=>H8 F l/\l.cell? ⟨g,0,none⟩=some (.bool false)/\l.cell? ⟨g,1,none⟩=some (CI p)/\l.cell? ⟨g,2,none⟩=some (CI f))
  (first|exact uH D _ (Below.refl _ _).drew|exact uH D _ (by assumption)|fail "NO KEEP")
  (first|(go_at_call 200;(first|(refine(uH H _).mono ?_;clear H)|(refine(uH I _).mono ?_;clear I)|(refine(uH J _).mono ?_;clear J)|(refine(uH K _).mono ?_;clear K));rintro e Z ⟨rfl,h⟩;have U:=gP (by assumption) h;clear h)|fail "NO ARM")
 go_wp2
 go_ret
 exact⟨rfl,dR L (by assumption)⟩
theorem Jf(b:Nat)(w:World)(C:∀l,BS 200 #[CI b] l (.agg #[.bool true,CI 0,CI 0])):
  BS 164 #[CI b] w (C0 0):=by
 have H:=ac gb;have I:=ac gQ;have M:=ac C;clear C
 go_enter Tryz.func164,Tryz.ntmps164
 go_wp2_with fail;refine(uH M _).mono ?_;rintro e N ⟨rfl,h⟩;clear M
 go_wp2
 refine aB (fun W=>H8 w W/\c8 W N.heap.size (.bool true) (CI 0) (CI 0)) ⟨h.alloc h.size _,c8.new _ _ _ _⟩ ?_;rintro F ⟨G,t⟩;clear h;generalize N.heap.size=g at*;have D:=ac (cV t);have J:=ac G;have L:=ac t;clear t G
 iterate 1 (go_region_held3(fun l=>H8 F l/\l.cell? ⟨g,0,none⟩=some (.bool true)/\l.cell? ⟨g,1,none⟩=some (CI 0)/\l.cell? ⟨g,2,none⟩=some (CI 0))
  (first|exact uH D _ (Below.refl _ _).drew|exact uH D _ (by assumption)|fail "NO KEEP")
  (first|(go_at_call 200;(first|(refine(uH H _).mono ?_;clear H)|(refine(uH I _).mono ?_;clear I));rintro e Q ⟨rfl,h⟩;have O:=gP (by assumption) h;clear h)|fail "NO ARM");go_wp2;refine aB (fun W=>H8 w W/\c8 W g (.bool true) (CI 0) (CI 0)) ⟨dR J (by assumption),(uH L).all (And.left (by assumption))⟩ ?_;clear D J L;rintro F ⟨G,t⟩;have D:=ac (cV t);have J:=ac G;have L:=ac t;clear t G)
 go_region_held3(fun l=>H8 F l/\l.cell? ⟨g,0,none⟩=some (.bool true)/\l.cell? ⟨g,1,none⟩=some (CI 0)/\l.cell? ⟨g,2,none⟩=some (CI 0))
  (first|exact uH D _ (Below.refl _ _).drew|exact uH D _ (by assumption)|fail "NO KEEP")
  (first|(go_at_call 200;(first|(refine(uH H _).mono ?_;clear H)|(refine(uH I _).mono ?_;clear I));rintro e Q ⟨rfl,h⟩;have O:=gP (by assumption) h;clear h)|fail "NO ARM")
 go_wp2
 go_ret
 exact⟨rfl,dR J (by assumption)⟩
theorem Jg(b:Nat)(w:World)(C:∀l,BS 200 #[CI b] l (.agg #[.bool true,CI 2047,CI 0])):
  BS 164 #[CI b] w (C0 3):=by
 have H:=ac gb;have I:=ac gQ;have J:=ac ip;have K:=ac i8;have O:=ac C;clear C
 go_enter Tryz.func164,Tryz.ntmps164
 go_wp2_with fail;refine(uH O _).mono ?_;rintro e Q ⟨rfl,h⟩;clear O
 go_wp2
 refine aB (fun W=>H8 w W/\c8 W Q.heap.size (.bool true) (CI 2047) (CI 0)) ⟨h.alloc h.size _,c8.new _ _ _ _⟩ ?_;rintro F ⟨G,t⟩;clear h;generalize Q.heap.size=g at*;have D:=ac (cV t);have L:=ac G;have N:=ac t;clear t G
 iterate 3 (go_region_held3(fun l=>H8 F l/\l.cell? ⟨g,0,none⟩=some (.bool true)/\l.cell? ⟨g,1,none⟩=some (CI 2047)/\l.cell? ⟨g,2,none⟩=some (CI 0))
  (first|exact uH D _ (Below.refl _ _).drew|exact uH D _ (by assumption)|fail "NO KEEP")
  (first|(go_at_call 200;(first|(refine(uH H _).mono ?_;clear H)|(refine(uH I _).mono ?_;clear I)|(refine(uH J _).mono ?_;clear J)|(refine(uH K _).mono ?_;clear K));rintro e Z ⟨rfl,h⟩;have U:=gP (by assumption) h;clear h)|fail "NO ARM");go_wp2;refine aB (fun W=>H8 w W/\c8 W g (.bool true) (CI 2047) (CI 0)) ⟨dR L (by assumption),(uH N).all (And.left (by assumption))⟩ ?_;clear D L N;rintro F ⟨G,t⟩;have D:=ac (cV t);have L:=ac G;have N:=ac t;clear t G)
 go_region_held3(fun l=>H8 F l/\l.cell? ⟨g,0,none⟩=some (.bool true)/\l.cell? ⟨g,1,none⟩=some (CI 2047)/\l.cell? ⟨g,2,none⟩=some (CI 0))
  (first|exact uH D _ (Below.refl _ _).drew|exact uH D _ (by assumption)|fail "NO KEEP")
  (first|(go_at_call 200;(first|(refine(uH H _).mono ?_;clear H)|(refine(uH I _).mono ?_;clear I)|(refine(uH J _).mono ?_;clear J)|(refine(uH K _).mono ?_;clear K));rintro e Z ⟨rfl,h⟩;have U:=gP (by assumption) h;clear h)|fail "NO ARM")
 go_wp2
 go_ret
 exact⟨rfl,dR L (by assumption)⟩
theorem Jh(b:Nat)(f:Nat)(w:World)(C:∀l,BS 200 #[CI b] l (.agg #[.bool true,CI 0,CI f]))(hf:((f:Int)==0)=false):
  BS 164 #[CI b] w (C0 1):=by
 have H:=ac gb;have I:=ac gQ;have J:=ac ip;have K:=ac i8;have O:=ac C;clear C
 go_enter Tryz.func164,Tryz.ntmps164
 go_wp2_with fail;refine(uH O _).mono ?_;rintro e Q ⟨rfl,h⟩;clear O
 go_wp2
 refine aB (fun W=>H8 w W/\c8 W Q.heap.size (.bool true) (CI 0) (CI f)) ⟨h.alloc h.size _,c8.new _ _ _ _⟩ ?_;rintro F ⟨G,t⟩;clear h;generalize Q.heap.size=g at*;have D:=ac (cV t);have L:=ac G;have N:=ac t;clear t G
 iterate 3 (go_region_held3(fun l=>H8 F l/\l.cell? ⟨g,0,none⟩=some (.bool true)/\l.cell? ⟨g,1,none⟩=some (CI 0)/\l.cell? ⟨g,2,none⟩=some (CI f))
  (first|exact uH D _ (Below.refl _ _).drew|exact uH D _ (by assumption)|fail "NO KEEP")
  (first|(go_at_call 200;(first|(refine(uH H _).mono ?_;clear H)|(refine(uH I _).mono ?_;clear I)|(refine(uH J _).mono ?_;clear J)|(refine(uH K _).mono ?_;clear K));rintro e Z ⟨rfl,h⟩;have U:=gP (by assumption) h;clear h)|fail "NO ARM");go_wp2;refine aB (fun W=>H8 w W/\c8 W g (.bool true) (CI 0) (CI f)) ⟨dR L (by assumption),(uH N).all (And.left (by assumption))⟩ ?_;clear D L N;rintro F ⟨G,t⟩;have D:=ac (cV t);have L:=ac G;have N:=ac t;clear t G)
 go_region_held3(fun l=>H8 F l/\l.cell? ⟨g,0,none⟩=some (.bool true)/\l.cell? ⟨g,1,none⟩=some (CI 0)/\l.cell? ⟨g,2,none⟩=some (CI f))
  (first|exact uH D _ (Below.refl _ _).drew|exact uH D _ (by assumption)|fail "NO KEEP")
  (first|(go_at_call 200;(first|(refine(uH H _).mono ?_;clear H)|(refine(uH I _).mono ?_;clear I)|(refine(uH J _).mono ?_;clear J)|(refine(uH K _).mono ?_;clear K));rintro e Z ⟨rfl,h⟩;have U:=gP (by assumption) h;clear h)|fail "NO ARM")
 go_wp2
 go_ret
 exact⟨rfl,dR L (by assumption)⟩
theorem Ji(b:Nat)(f:Nat)(w:World)(C:∀l,BS 200 #[CI b] l (.agg #[.bool true,CI 2047,CI f]))(hf:((f:Int)==0)=false):
  BS 164 #[CI b] w (C0 4):=by
 have H:=ac gb;have I:=ac gQ;have J:=ac ip;have K:=ac i8;have O:=ac C;clear C
 go_enter Tryz.func164,Tryz.ntmps164
 go_wp2_with fail;refine(uH O _).mono ?_;rintro e Q ⟨rfl,h⟩;clear O
 go_wp2
 refine aB (fun W=>H8 w W/\c8 W Q.heap.size (.bool true) (CI 2047) (CI f)) ⟨h.alloc h.size _,c8.new _ _ _ _⟩ ?_;rintro F ⟨G,t⟩;clear h;generalize Q.heap.size=g at*;have D:=ac (cV t);have L:=ac G;have N:=ac t;clear t G
 iterate 3 (go_region_held3(fun l=>H8 F l/\l.cell? ⟨g,0,none⟩=some (.bool true)/\l.cell? ⟨g,1,none⟩=some (CI 2047)/\l.cell? ⟨g,2,none⟩=some (CI f))
  (first|exact uH D _ (Below.refl _ _).drew|exact uH D _ (by assumption)|fail "NO KEEP")
  (first|(go_at_call 200;(first|(refine(uH H _).mono ?_;clear H)|(refine(uH I _).mono ?_;clear I)|(refine(uH J _).mono ?_;clear J)|(refine(uH K _).mono ?_;clear K));rintro e Z ⟨rfl,h⟩;have U:=gP (by assumption) h;clear h)|fail "NO ARM");go_wp2;refine aB (fun W=>H8 w W/\c8 W g (.bool true) (CI 2047) (CI f)) ⟨dR L (by assumption),(uH N).all (And.left (by assumption))⟩ ?_;clear D L N;rintro F ⟨G,t⟩;have D:=ac (cV t);have L:=ac G;have N:=ac t;clear t G)
 go_region_held3(fun l=>H8 F l/\l.cell? ⟨g,0,none⟩=some (.bool true)/\l.cell? ⟨g,1,none⟩=some (CI 2047)/\l.cell? ⟨g,2,none⟩=some (CI f))
  (first|exact uH D _ (Below.refl _ _).drew|exact uH D _ (by assumption)|fail "NO KEEP")
  (first|(go_at_call 200;(first|(refine(uH H _).mono ?_;clear H)|(refine(uH I _).mono ?_;clear I)|(refine(uH J _).mono ?_;clear J)|(refine(uH K _).mono ?_;clear K));rintro e Z ⟨rfl,h⟩;have U:=gP (by assumption) h;clear h)|fail "NO ARM")
 go_wp2
 go_ret
 exact⟨rfl,dR L (by assumption)⟩
theorem Jj(b:Nat)(p:Nat)(f:Nat)(w:World)(C:∀l,BS 200 #[CI b] l (.agg #[.bool true,CI p,CI f]))(hp:((p:Int)==0)=false)(hq:((p:Int)==2047)=false):
  BS 164 #[CI b] w (C0 2):=by
 have H:=ac gb;have I:=ac gQ;have J:=ac ip;have K:=ac i8;have O:=ac C;clear C
 go_enter Tryz.func164,Tryz.ntmps164
 go_wp2_with fail;refine(uH O _).mono ?_;rintro e Q ⟨rfl,h⟩;clear O
 go_wp2
 refine aB (fun W=>H8 w W/\c8 W Q.heap.size (.bool true) (CI p) (CI f)) ⟨h.alloc h.size _,c8.new _ _ _ _⟩ ?_;rintro F ⟨G,t⟩;clear h;generalize Q.heap.size=g at*;have D:=ac (cV t);have L:=ac G;have N:=ac t;clear t G
 iterate 3 (go_region_held3(fun l=>H8 F l/\l.cell? ⟨g,0,none⟩=some (.bool true)/\l.cell? ⟨g,1,none⟩=some (CI p)/\l.cell? ⟨g,2,none⟩=some (CI f))
  (first|exact uH D _ (Below.refl _ _).drew|exact uH D _ (by assumption)|fail "NO KEEP")
  (first|(go_at_call 200;(first|(refine(uH H _).mono ?_;clear H)|(refine(uH I _).mono ?_;clear I)|(refine(uH J _).mono ?_;clear J)|(refine(uH K _).mono ?_;clear K));rintro e Z ⟨rfl,h⟩;have U:=gP (by assumption) h;clear h)|fail "NO ARM");go_wp2;refine aB (fun W=>H8 w W/\c8 W g (.bool true) (CI p) (CI f)) ⟨dR L (by assumption),(uH N).all (And.left (by assumption))⟩ ?_;clear D L N;rintro F ⟨G,t⟩;have D:=ac (cV t);have L:=ac G;have N:=ac t;clear t G)
 go_region_held3(fun l=>H8 F l/\l.cell? ⟨g,0,none⟩=some (.bool true)/\l.cell? ⟨g,1,none⟩=some (CI p)/\l.cell? ⟨g,2,none⟩=some (CI f))
  (first|exact uH D _ (Below.refl _ _).drew|exact uH D _ (by assumption)|fail "NO KEEP")
  (first|(go_at_call 200;(first|(refine(uH H _).mono ?_;clear H)|(refine(uH I _).mono ?_;clear I)|(refine(uH J _).mono ?_;clear J)|(refine(uH K _).mono ?_;clear K));rintro e Z ⟨rfl,h⟩;have U:=gP (by assumption) h;clear h)|fail "NO ARM")
 go_wp2
 go_ret
 exact⟨rfl,dR L (by assumption)⟩
theorem dp(b:Nat)(w:World)(h:b<18446744073709551616):
  BS 164 #[CI b] w (C0 (fK b)):=by
 have C:=fun D=>h9 b D h
 unfold fV at C;unfold fK;generalize fF b=f at*;generalize fP b=p at*;generalize fS b=s at*
 by_cases F:p=2047
 ·subst F
  rw[if_pos rfl]
  by_cases l:f=0
  ·subst l
   rw[if_pos rfl]
   cases s
   ·exact Jb b w C
   ·exact Jg b w C
  ·rw[if_neg l]
   have t:((f:Int)==0)=false:=by simp;omega
   cases s
   ·exact Jd b f w C t
   ·exact Ji b f w C t
 ·rw[if_neg F]
  by_cases l:p=0
  ·subst l
   rw[if_pos rfl]
   by_cases G:f=0
   ·subst G
    rw[if_pos rfl]
    cases s
    ·exact Ja b w C
    ·exact Jf b w C
   ·rw[if_neg G]
    have t:((f:Int)==0)=false:=by simp;omega
    cases s
    ·exact Jc b f w C t
    ·exact Jh b f w C t
  ·rw[if_neg l]
   have H:((p:Int)==0)=false:=by simp;omega
   have I:((p:Int)==2047)=false:=by simp;omega
   cases s
   ·exact Je b p f w C H I
   ·exact Jj b p f w C H I
def ah(b:Nat):Bool:=decide (fP b≠2047)
theorem i9(b:Nat):(ah b=false/\(fK b=3\/fK b=4))\/(ah b=true/\(fK b=0\/fK b=1\/fK b=2)):=by
 unfold fK ah
 by_cases h:fP b=2047
 ·left
  refine⟨by simp[h],?_⟩;rw[if_pos h]
  split<;>simp
 ·right
  refine⟨by simp[h],?_⟩;rw[if_neg h]
  split
  ·split<;>simp
  ·simp
theorem gE(b:Nat)(w:World)(h:b<18446744073709551616):
  BS 118 #[CI b] w (.bool (ah b)):=by
 have D:=ac (fun l=>dp b l h);have F:=i9 b;generalize ah b=q at*;generalize fK b=k at*;rcases F with⟨rfl,rfl|rfl⟩|⟨rfl,rfl|rfl|rfl⟩
 all_goals
  clear h
  go_enter Tryz.func118,Tryz.ntmps118
  go_wp2_with(go_at_call 164;refine(uH D _).mono ?_;rintro e G ⟨rfl,t⟩)
  go_ret
  exact⟨rfl,t⟩
theorem jo(b:Nat)(w:World)(h:b<18446744073709551616):
  GF 88 #[CI b] w fun e l=>e=.returned (.bool (ah b))/\w=l:=by
 have D:=ac (fun l=>mH b l h);have F:=tE b;unfold ah;generalize fP b=k at*;clear h
 by_cases t:k=2047
 ·subst t
  go_enter Tryz.func88,Tryz.ntmps88
  go_wp2_with(go_at_call 114;refine(uH D _).mono ?_;rintro e G ⟨rfl,rfl⟩)
  go_ret
  exact⟨rfl,rfl⟩
 ·rw[decide_eq_true t]
  have H:(k:Int)<2047:=by omega
  clear t F
  go_enter Tryz.func88,Tryz.ntmps88
  go_wp2_with(go_at_call 114;refine(uH D _).mono ?_;rintro e G ⟨rfl,rfl⟩)
  go_ret
  exact⟨rfl,rfl⟩
theorem lw(b:Nat)(w:World)(h:b<18446744073709551616):
  GF 89 #[CI b] w fun e t=>e=.returned (C0 (fK b))/\w=t:=by
 have D:=ac (fun t=>mH b t h);have F:=ac (fun t=>tG b t h);unfold fK;generalize fF b=f at*;generalize fP b=p at*;clear h
 by_cases I:p=2047
 ·subst I
  rw[if_pos rfl]
  by_cases l:f=0
  ·subst l
   rw[if_pos rfl]
   go_enter Tryz.func89,Tryz.ntmps89
   go_wp2_with(first|(go_at_call 114;refine(uH D _).mono ?_;rintro e G ⟨rfl,rfl⟩)|(go_at_call 113;refine(uH F _).mono ?_;rintro e H ⟨rfl,rfl⟩))
   go_ret
   exact⟨rfl,rfl⟩
  ·rw[if_neg l]
   have L:((f:Int)==0)=false:=by simp;omega
   clear l
   go_enter Tryz.func89,Tryz.ntmps89
   go_wp2_with(first|(go_at_call 114;refine(uH D _).mono ?_;rintro e G ⟨rfl,rfl⟩)|(go_at_call 113;refine(uH F _).mono ?_;rintro e H ⟨rfl,rfl⟩))
   go_ret
   exact⟨rfl,rfl⟩
 ·rw[if_neg I]
  have M:((p:Int)==2047)=false:=by simp;omega
  clear I
  by_cases l:p=0
  ·subst l
   rw[if_pos rfl]
   by_cases J:f=0
   ·subst J
    rw[if_pos rfl]
    go_enter Tryz.func89,Tryz.ntmps89
    go_wp2_with(first|(go_at_call 114;refine(uH D _).mono ?_;rintro e G ⟨rfl,rfl⟩)|(go_at_call 113;refine(uH F _).mono ?_;rintro e H ⟨rfl,rfl⟩))
    go_ret
    exact⟨rfl,rfl⟩
   ·rw[if_neg J]
    have L:decide ((0:Int)<(f:Int))=true:=decide_eq_true (by omega);have K:(0:Int)<(f:Int):=by omega
    clear J
    go_enter Tryz.func89,Tryz.ntmps89
    go_wp2_with(first|(go_at_call 114;refine(uH D _).mono ?_;rintro e G ⟨rfl,rfl⟩)|(go_at_call 113;refine(uH F _).mono ?_;rintro e H ⟨rfl,rfl⟩))
    go_ret
    exact⟨rfl,rfl⟩
  ·rw[if_neg l]
   have L:decide ((0:Int)<(p:Int))=true:=decide_eq_true (by omega);have K:(0:Int)<(p:Int):=by omega
   clear l
   go_enter Tryz.func89,Tryz.ntmps89
   go_wp2_with(first|(go_at_call 114;refine(uH D _).mono ?_;rintro e G ⟨rfl,rfl⟩)|(go_at_call 113;refine(uH F _).mono ?_;rintro e H ⟨rfl,rfl⟩))
   go_ret
   exact⟨rfl,rfl⟩
theorem vN(b:Nat)(w:World)(h:b<18446744073709551616):
  GF 189 #[CI b] w fun e F=>e=.returned (CI (fN b))/\w=F:=by
 have D:=ac (fun F=>lu b F h)
 by_cases l:9223372036854775808<=b
 ·have t:fS b=true:=decide_eq_true l
  rw[t]at D;have G:((b:Int)-9223372036854775808)%18446744073709551616=(fN b:Int):=by unfold fN;rw[if_pos l];omega
  generalize fN b=q at*;clear l h t
  go_enter Tryz.func189,Tryz.ntmps189
  go_wp2_with(go_at_call 115;refine(uH D _).mono ?_;rintro e H ⟨rfl,rfl⟩)
  go_ret
  exact⟨bh G,rfl⟩
 ·have t:fS b=false:=decide_eq_false l
  rw[t]at D;have G:((b:Int)+9223372036854775808)%18446744073709551616=(fN b:Int):=by unfold fN;rw[if_neg l];omega
  generalize fN b=q at*;clear l h t
  go_enter Tryz.func189,Tryz.ntmps189
  go_wp2_with(go_at_call 115;refine(uH D _).mono ?_;rintro e H ⟨rfl,rfl⟩)
  go_ret
  exact⟨bh G,rfl⟩
theorem kF{P:Program}{f:FuncId}{args:Array Value}{w:World}{n:Nat}{v:Value}
  (h:Calls P f args (w.drewN n) fun e t=>e=.returned v/\w.drewN n=t):Calls P f args (w.drewN n) fun e l=>e=.returned v/\∃m,l=w.drewN m:=
 h.mono fun _ _ ⟨D,F⟩=>⟨D,n,F.symm⟩
def uq(ao:GY)(cap:Nat)(L:H3)(v:Value):Prop:=
 ∃ao' cap' L',v=.slice ao' L'.length cap'/\cL L'/\aj L'=aj L/\L'.length<=L.length/\(∀w,ai w ao cap L->ai w ao' cap' L')/\(∀B,cj B ao L->cj B ao' L')
theorem cj.take{B:Nat}{ao:GY}{L:H3}(h:cj B ao L)(n:Nat):cj B ao (L.take n):=by
 rcases h with h|h
 ·left;simp[h]
 ·exact .inr h
theorem qu(ao:GY)(cap:Nat)(L:H3)(w:World)(h:ai w ao cap L)(hl:L.length<=35184372088832):
  GF 239 #[.slice ao L.length cap] w fun e Z=>∃v,e=.returned v/\uq ao cap L v/\w=Z:=by
 have F:∀k,k<L.length->aj (L.take (L.length-k))=aj L->L[L.length-k-1]?.getD 0≠0->uq ao cap L (.slice ao (L.length-k) cap):=by
  intro k hk l hx;refine⟨ao,cap,L.take (L.length-k),?_,?_,l,by simp,fun w h=>h.take _,fun B h=>h.take _⟩
  ·rw[List.length_take,Nat.min_eq_left (by omega)]
  ·right
   rw[List.length_take,Nat.min_eq_left (by omega),List.getElem?_take,if_pos (by omega)];exact hx
 have D:aj (L.take 0)=aj L->uq ao cap L (.slice none 0 0):=by
  intro l;exact⟨none,0,[],rfl,.inl rfl,by simpa using l,by simp,fun _ _=>ai.nil _ _ _,fun _ _=>.inl rfl⟩
 have K:=ac F;have G:=ac D;clear F D;rcases h.2.2 with h0|⟨b,ae,rfl,hb,O⟩
 ·subst h0
  clear K
  go_enter Tryz.func239,Tryz.ntmps239
  go_wp2
  refine wp_loop_rounds 1 ?_;rw[rounds_succ]
  go_wp2
  go_ret
  exact⟨_,rfl,uH G rfl,rfl⟩
 ·have Q:=h.1
  go_enter Tryz.func239,Tryz.ntmps239
  go_wp2
  go_loop [7] (fun i=>∃k:Nat,k<=L.length/\i=.int .i64 k/\Hid (aj (L.take (L.length-k))=aj L)) (fun i=>L.length-(intOf i).toNat)
  case atStart=>exact⟨0,Nat.zero_le _,rfl,by unfold Hid;simp⟩
  case round=>
   obtain⟨k,hk,rfl,l⟩:=hrel
   by_cases I:k<L.length
   ·have J:=O (L.length-k-1) (by omega)
    clear O
    by_cases t:L[L.length-k-1]?.getD 0=0
    ·have U:=mq L (L.length-k) t
     have M:Hid (aj (L.take (L.length-(k+1)))=aj L):=by
      unfold Hid;rw[show L.length-(k+1)=L.length-k-1 by omega,U];exact l.out
     rw[t]at J;clear t U l K G h
     go_wp2
     go_round
     case rel=>exact⟨k+1,by omega,by go_num,M⟩
     case measure=>simp[intOf];omega
    ·have H:=uH K k I l.out t
     have N:=ac H;clear H K G h l;have aa:(((L[L.length-k-1]?.getD 0:Nat):Int) != 0)=true:=by rw[bne_iff_ne];omega
     generalize L[L.length-k-1]?.getD 0=x at*;generalize hn:L.length=n at*;clear hn
     go_wp2
     go_ret
     exact⟨_,rfl,uH N,rfl⟩
   ·have H:=uH G (by rw[<-l.out,show L.length-k=0 by omega])
    have N:=ac H;clear H K G h l O
    go_wp2
    go_ret
    exact⟨_,rfl,uH N,rfl⟩
theorem ai.ne{w:World}{ao:GY}{cap:Nat}{L:H3}(h:ai w ao cap L)(t:0<L.length):∃b l,ao=some ⟨b,l,none⟩/\b<w.heap.size/\∀i,i<L.length->w.cell? ⟨b,l+i,none⟩=some (.int .u32 ((L[i]?.getD 0:Nat):Int)):=by
 rcases h.2.2 with e|h
 ·subst e;simp at t
 ·exact h
def qv(A B:H3):Int:=if A.length=B.length then bY (aj A) (aj B)else bY A.length B.length
theorem fk{a b:Int}(h:a<b):bY a b= -1:=by simp[bY,h]
theorem gR{a b:Int}(h:b<a):bY a b=1:=by simp only[bY];rw[if_neg (by omega),if_pos h]
theorem Jk{a b:Int}(h:a=b):bY a b=0:=by simp[bY,h]
theorem EB(A B:H3)(F:bQ A)(G:bQ B)(t:Nat)(l:∀i,t<i->A[i]?.getD 0=B[i]?.getD 0)(D:A[t]?.getD 0≠B[t]?.getD 0):
  bY ((A[t]?.getD 0:Nat):Int) ((B[t]?.getD 0:Nat):Int)=bY (aj A) (aj B):=by
 rcases Nat.lt_or_gt_of_ne D with h|h
 ·have:=lk A B F t l h
  rw[fk (by omega),fk (by omega)]
 ·have:=lk B A G t (fun i H=>(l i H).symm) h
  rw[gR (by omega),gR (by omega)]
theorem oH(ao bo:GY)(ca cb:Nat)(A B:H3)(w:World)(hA:ai w ao ca A)(hB:ai w bo cb B)(la:A.length<=35184372088832)(lb:B.length<=35184372088832):
  GF 302 #[.slice ao A.length ca,.slice bo B.length cb] w fun e w'=>e=.returned (C0 (qv A B))/\∃m,w.drewN m=w':=by
 by_cases G:A.length≠B.length
 ·have ax:((A.length:Int) != (B.length:Int))=true:=by rw[bne_iff_ne];omega
  have HE:=ac (show qv A B=bY A.length B.length by simp[qv,G])
  go_enter Tryz.func302,Tryz.ntmps302
  go_wp2_with(go_at_call 304;refine(Er _ _ _).mono ?_;rintro e w' ⟨rfl,rfl⟩)
  go_ret
  exact⟨bh (uH HE).symm,0,rfl⟩
 have G:A.length=B.length:=by omega
 by_cases h0:A.length=0
 ·have eA:A= []:=List.length_eq_zero_iff.1 h0
  have eB:B= []:=List.length_eq_zero_iff.1 (by omega);subst eA;subst eB
  go_enter Tryz.func302,Tryz.ntmps302
  go_wp2
  refine wp_loop_rounds 1 ?_;rw[rounds_succ]
  go_wp2
  go_ret
  exact⟨bh (by simp[qv,bY]),0,rfl⟩
 obtain⟨b1,o1,rfl,a3,I⟩:=hA.ne (by omega);obtain⟨b2,o2,rfl,a4,J⟩:=hB.ne (by omega);have F:∀t:Nat,(∀i:Nat,t<i->A[i]?.getD 0=B[i]?.getD 0)->A[t]?.getD 0≠B[t]?.getD 0->bY ((A[t]?.getD 0:Nat):Int) ((B[t]?.getD 0:Nat):Int)=qv A B:=by
  intro t h1 h2;rw[EB A B hA.2.1 hB.2.1 t h1 h2];simp[qv,G]
 have L:(∀i:Nat,A[i]?.getD 0=B[i]?.getD 0)->(0:Int)=qv A B:=by
  intro h;have:=lj A B h
  simp[qv,G,this,bY]
 have O:=ac F;have Q:=ac L;have l:∀i:Nat,A.length<=i->A[i]?.getD 0=B[i]?.getD 0:=fun i hi=>by
  rw[List.getElem?_eq_none (by omega),List.getElem?_eq_none (by omega)]
 have HA:=ac l;clear F L l hA hB;rw[<-G];generalize hb:qv A B=s at*;clear hb;generalize hm:A.length=n at*;have aa:B.length=n:=G.symm;clear G
 go_enter Tryz.func302,Tryz.ntmps302
 go_wp2
 go_loopw[19] (fun i wr=>∃k:Nat,k<=n/\i=.int .i64 k/\Hid (∀j,n-k<=j->A[j]?.getD 0=B[j]?.getD 0)/\Hid (∃m,wr=w.drewN m))
  (fun i _=>n-(intOf i).toNat)
 case atStart=>exact⟨0,Nat.zero_le _,rfl,fun j hj=>uH HA j (by omega),0,rfl⟩
 case round=>
  obtain⟨k,hk,rfl,N,Z⟩:=hrel;have H:∀a,wr.cell? a=w.cell? a:=by obtain⟨m,rfl⟩:=Z.out;intro a;rfl
  clear HA
  by_cases aI:k<n
  ·have U:=I (n-1-k) (by omega)
   have c2:=J (n-1-k) (by omega);rw[<-H]at U c2;clear I J hm aa H;have a0:(0:Int)<=(n:Int)-1-(k:Int):=by omega
   have a1:(n:Int)-1-(k:Int)<(n:Int):=by omega
   by_cases M:A[n-1-k]?.getD 0=B[n-1-k]?.getD 0
   ·have ae:Hid (∀j,n-(k+1)<=j->A[j]?.getD 0=B[j]?.getD 0):=fun j hj=>by
     by_cases h:n-k<=j
     ·exact N.out j h
     ·rw[show j=n-1-k by omega];exact M
    rw[M]at U;clear M N O Q;generalize B[n-1-k]?.getD 0=x at*
    go_wp2
    go_quiet (fail)
    go_wp2
    go_roundw
    case rel=>exact⟨k+1,by omega,by go_num,ae,by obtain⟨m,rfl⟩:=Z.out;exact⟨m+nq,by simp⟩⟩
    case measure=>simp[intOf];omega
   ·have HS:=ac (uH O (n-1-k) (fun i hi=>N.out i (by omega)) M)
    have a2:(((A[n-1-k]?.getD 0:Nat):Int) != ((B[n-1-k]?.getD 0:Nat):Int))=true:=by rw[bne_iff_ne];omega
    clear O Q N M;generalize B[n-1-k]?.getD 0=x at*;generalize A[n-1-k]?.getD 0=y at*
    go_wp2
    go_quiet (fail)
    obtain⟨K,D⟩:∃K,K=wr.drewN nq:=⟨_,rfl⟩;have c3:K.cell? ⟨b1,o1+(n-1-k),none⟩=some (.int .u32 (y:Int)):=by rw[D];exact U
    have c4:K.cell? ⟨b2,o2+(n-1-k),none⟩=some (.int .u32 (x:Int)):=by rw[D];exact c2
    rw[<-D];have am:Hid (∃q,K=wr.drewN q):=⟨nq,D⟩;clear D U c2
    go_wp2
    go_quiet ((go_at_call 305;exact kF (Es _ _ _)))
    go_wp2
    go_ret
    obtain⟨m,rfl⟩:=Z.out;obtain⟨q,ap⟩:=am.out;exact⟨bh (uH HS),m+q+nq,by rw[ap];simp⟩
  ·have HS:=ac (uH Q (fun i=>N.out i (by omega)))
   clear O Q I J H
   go_wp2
   go_ret
   obtain⟨m,rfl⟩:=Z.out;exact⟨bh (uH HS),m,rfl⟩
theorem EF(ao:GY)(cap:Nat)(L:H3)(i:Int)(k:Nat)(w:World)(h:ai w ao cap L)(K:L.length<=35184372088830)(F:i=(k:Int)):
  GF 126 #[.slice ao L.length cap,C0 i] w fun e G=>e=.returned (CI ((L[k]?.getD 0:Nat):Int))/\w=G:=by
 subst F
 by_cases l:k<L.length
 ·rcases h.2.2 with I|⟨b,J,rfl,M,D⟩
  ·subst I;simp at l
  ·have H:=D k l
   have t:L[k]?.getD 0<4294967296:=by rw[List.getElem?_eq_getElem l];exact h.2.1 _ (List.getElem_mem l)
   clear h D;generalize L[k]?.getD 0=x at*;generalize L.length=n at*
   go_enter Tryz.func126,Tryz.ntmps126
   go_wp2
   go_ret
   exact⟨rfl,rfl⟩
 ·have t:L[k]?.getD 0=0:=by rw[List.getElem?_eq_none (by omega)];rfl
  rw[t];clear h t;generalize L.length=n at*
  go_enter Tryz.func126,Tryz.ntmps126
  go_wp2
  go_ret
  exact⟨rfl,rfl⟩
theorem au(w:World)(a p:Addr)(u:Value)(h:a.block≠p.block):(w.setCell p u).cell? a=w.cell? a:=
 World.cell?_of_block (Below.heap_setCell w p u a.block h)
theorem ai.store{w:World}{ao:GY}{cap B:Nat}{L:H3}(h:ai w ao cap L)(H:cj B ao L){p:Addr}(N:p.block<B)(u:Value):ai (w.setCell p u) ao cap L:=by
 refine⟨h.1,h.2.1,?_⟩;rcases h.2.2 with t|⟨b,D,F,J,K⟩
 ·exact .inl t
 ·rcases H with t|⟨O,G,l,M⟩
  ·exact .inl t
  ·rw[F]at l
   simp only[Option.some.injEq,Addr.mk.injEq]at l;obtain⟨rfl,rfl,_⟩:=l;refine .inr ⟨b,D,F,by simpa[World.setCell]using J,fun i I=>?_⟩;rw[au w _ p u (by simp;omega)];exact K i I
theorem aA.stored{B l:Nat}{w:World}{n:Bool}{ao:GY}{cap:Nat}{L:H3}{x:Int}(h:ai w ao cap L/\cj B ao L/\cL L/\n=decide (x<0)/\aj L=x.natAbs/\L.length<=35184372088832){p q:Addr}(t:p.block<B)(D:q.block<B)(F:l<=B)(u u':Value):
  aA l ((w.setCell p u).setCell q u') (.agg #[.bool n,.slice ao L.length cap]) x:=
 ⟨n,ao,cap,L,rfl,(h.1.store h.2.1 t u).store h.2.1 D u',h.2.1.mono F,h.2.2⟩
end Go.Proofs.YtcbcmlaogehimaaGreatDoor
