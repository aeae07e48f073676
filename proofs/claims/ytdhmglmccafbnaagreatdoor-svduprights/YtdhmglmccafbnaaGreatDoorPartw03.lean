/- Part 3 of the texts. -/
import Derived.Test.YtdhmglmccafbnaaGreatDoorPartw02
set_option maxHeartbeats 4000000
namespace Go.Proofs.YtdhmglmccafbnaaGreatDoor
open Go.RowKit
theorem bS{d:World}{g:Nat}{x y z:Value}(f:bZ d g x y z):∀w',Below d.heap.size d w'→Below d.heap.size d w'∧w'.cell? ⟨g,0,none⟩=some x∧w'.cell? ⟨g,1,none⟩=some y∧w'.cell? ⟨g,2,none⟩=some z:=fun _ h=>⟨h,(f.all h).c0,(f.all h).c1,(f.all h).c2⟩
theorem d7{f w' d:World}{p:Prop}(h:Below f.heap.size f w'∧p)(l:Below w'.heap.size w' d):Below f.heap.size f d:=h.1.trans (l.mono h.1.size)
theorem cI{w d w':World}{p:Prop}(f:Hid (Below w.heap.size w d))(h:Below d.heap.size d w'∧p):Below w.heap.size w w':=f.out.trans (h.1.mono f.out.size)
theorem dy(w:World):Calls Tryz.prog 172 #[.int .u64 0] w fun e w'=>e=.returned (.agg #[.bool false,.int .u64 0,.int .u64 0])∧Below w.heap.size w w':=by
 have h:=ex 0 w (by decide)
 simpa[fV,fS,fP,fF]using h
theorem d8(w:World):Calls Tryz.prog 172 #[.int .u64 9223372036854775808] w fun e w'=>e=.returned (.agg #[.bool true,.int .u64 0,.int .u64 0])∧Below w.heap.size w w':=by
 have h:=ex 9223372036854775808 w (by decide)
 simpa[fV,fS,fP,fF]using h
theorem eR(w:World):Calls Tryz.prog 172 #[.int .u64 9218868437227405312] w fun e w'=>e=.returned (.agg #[.bool false,.int .u64 2047,.int .u64 0])∧Below w.heap.size w w':=by
 have h:=ex 9218868437227405312 w (by decide)
 simpa[fV,fS,fP,fF]using h
theorem fL(w:World):Calls Tryz.prog 172 #[.int .u64 18442240474082181120] w fun e w'=>e=.returned (.agg #[.bool true,.int .u64 2047,.int .u64 0])∧Below w.heap.size w w':=by
 have h:=ex 18442240474082181120 w (by decide)
 simpa[fV,fS,fP,fF]using h
theorem Cw(b:Nat)(w:World)(C:∀w',Calls Tryz.prog 172 #[.int .u64 b] w' fun e f=>e=.returned (.agg #[.bool false,.int .u64 0,.int .u64 0])∧Below w'.heap.size w' f):
  Calls Tryz.prog 113 #[.int .u64 b] w fun e w'=>e=.returned (.int .i64 0)∧Below w.heap.size w w':=by
 have G:=aa dy
 have l:=aa C
 clear C
 go_enter Tryz.func113,Tryz.ntmps113
 go_wp2_with fail
 refine(uH l _).mono ?_
 rintro e z ⟨rfl,d⟩
 clear l
 go_wp2
 refine aj (fun W=>Below w.heap.size w W∧bZ W z.heap.size (.bool false) (.int .u64 0) (.int .u64 0)) ⟨d.alloc d.size _,bZ.new _ _ _ _⟩ ?_
 rintro D ⟨F,h⟩
 clear d
 generalize z.heap.size=g at*
 have u:=aa (bS h);have H:=aa F;have J:=aa h;clear h F
 go_region_held3(fun w'=>Below D.heap.size D w'∧w'.cell? ⟨g,0,none⟩=some (.bool false)∧w'.cell? ⟨g,1,none⟩=some (.int .u64 0)∧w'.cell? ⟨g,2,none⟩=some (.int .u64 0))
  (first|exact uH u _ (Below.refl _ _).drew|exact uH u _ (by assumption)|fail "NO KEEP")
  (first|(go_at_call 172;refine(uH G _).mono ?_;rintro e L ⟨rfl,d⟩;have K:=d7 (by assumption) d;clear d)|fail "NO ARM")
 go_wp2
 go_ret
 exact⟨rfl,cI H (by assumption)⟩
theorem Cx(b:Nat)(w:World)(C:∀w',Calls Tryz.prog 172 #[.int .u64 b] w' fun e H=>e=.returned (.agg #[.bool false,.int .u64 2047,.int .u64 0])∧Below w'.heap.size w' H):
  Calls Tryz.prog 113 #[.int .u64 b] w fun e w'=>e=.returned (.int .i64 3)∧Below w.heap.size w w':=by
 have z:=aa dy
 have D:=aa d8
 have F:=aa eR
 have K:=aa C
 clear C
 go_enter Tryz.func113,Tryz.ntmps113
 go_wp2_with fail
 refine(uH K _).mono ?_
 rintro e L ⟨rfl,d⟩
 clear K
 go_wp2
 refine aj (fun W=>Below w.heap.size w W∧bZ W L.heap.size (.bool false) (.int .u64 2047) (.int .u64 0)) ⟨d.alloc d.size _,bZ.new _ _ _ _⟩ ?_
 rintro l ⟨u,f⟩
 clear d
 generalize L.heap.size=g at*
 have h:=aa (bS f);have G:=aa u;have J:=aa f;clear f u
 iterate 2 (go_region_held3(fun w'=>Below l.heap.size l w'∧w'.cell? ⟨g,0,none⟩=some (.bool false)∧w'.cell? ⟨g,1,none⟩=some (.int .u64 2047)∧w'.cell? ⟨g,2,none⟩=some (.int .u64 0))
  (first|exact uH h _ (Below.refl _ _).drew|exact uH h _ (by assumption)|fail "NO KEEP")
  (first|(go_at_call 172;(first|(refine(uH z _).mono ?_;clear z)|(refine(uH D _).mono ?_;clear D)|(refine(uH F _).mono ?_;clear F));rintro e N ⟨rfl,d⟩;have M:=d7 (by assumption) d;clear d)|fail "NO ARM");go_wp2;refine aj (fun W=>Below w.heap.size w W∧bZ W g (.bool false) (.int .u64 2047) (.int .u64 0)) ⟨cI G (by assumption),(uH J).all (And.left (by assumption))⟩ ?_;clear h G J;rintro l ⟨u,f⟩;have h:=aa (bS f);have G:=aa u;have J:=aa f;clear f u)
 go_region_held3(fun w'=>Below l.heap.size l w'∧w'.cell? ⟨g,0,none⟩=some (.bool false)∧w'.cell? ⟨g,1,none⟩=some (.int .u64 2047)∧w'.cell? ⟨g,2,none⟩=some (.int .u64 0))
  (first|exact uH h _ (Below.refl _ _).drew|exact uH h _ (by assumption)|fail "NO KEEP")
  (first|(go_at_call 172;(first|(refine(uH z _).mono ?_;clear z)|(refine(uH D _).mono ?_;clear D)|(refine(uH F _).mono ?_;clear F));rintro e N ⟨rfl,d⟩;have M:=d7 (by assumption) d;clear d)|fail "NO ARM")
 go_wp2
 go_ret
 exact⟨rfl,cI G (by assumption)⟩
theorem Cy(b:Nat)(f:Nat)(w:World)(C:∀w',Calls Tryz.prog 172 #[.int .u64 b] w' fun e K=>e=.returned (.agg #[.bool false,.int .u64 0,.int .u64 f])∧Below w'.heap.size w' K)(U:((f:Int)==0)=false):
  Calls Tryz.prog 113 #[.int .u64 b] w fun e w'=>e=.returned (.int .i64 1)∧Below w.heap.size w w':=by
 have D:=aa dy
 have F:=aa d8
 have G:=aa eR
 have H:=aa fL
 have M:=aa C
 clear C
 go_enter Tryz.func113,Tryz.ntmps113
 go_wp2_with fail
 refine(uH M _).mono ?_
 rintro e N ⟨rfl,d⟩
 clear M
 go_wp2
 refine aj (fun W=>Below w.heap.size w W∧bZ W N.heap.size (.bool false) (.int .u64 0) (.int .u64 f)) ⟨d.alloc d.size _,bZ.new _ _ _ _⟩ ?_
 rintro u ⟨z,h⟩
 clear d
 generalize N.heap.size=g at*
 have l:=aa (bS h);have J:=aa z;have L:=aa h;clear h z
 iterate 3 (go_region_held3(fun w'=>Below u.heap.size u w'∧w'.cell? ⟨g,0,none⟩=some (.bool false)∧w'.cell? ⟨g,1,none⟩=some (.int .u64 0)∧w'.cell? ⟨g,2,none⟩=some (.int .u64 f))
  (first|exact uH l _ (Below.refl _ _).drew|exact uH l _ (by assumption)|fail "NO KEEP")
  (first|(go_at_call 172;(first|(refine(uH D _).mono ?_;clear D)|(refine(uH F _).mono ?_;clear F)|(refine(uH G _).mono ?_;clear G)|(refine(uH H _).mono ?_;clear H));rintro e Q ⟨rfl,d⟩;have O:=d7 (by assumption) d;clear d)|fail "NO ARM");go_wp2;refine aj (fun W=>Below w.heap.size w W∧bZ W g (.bool false) (.int .u64 0) (.int .u64 f)) ⟨cI J (by assumption),(uH L).all (And.left (by assumption))⟩ ?_;clear l J L;rintro u ⟨z,h⟩;have l:=aa (bS h);have J:=aa z;have L:=aa h;clear h z)
 go_region_held3(fun w'=>Below u.heap.size u w'∧w'.cell? ⟨g,0,none⟩=some (.bool false)∧w'.cell? ⟨g,1,none⟩=some (.int .u64 0)∧w'.cell? ⟨g,2,none⟩=some (.int .u64 f))
  (first|exact uH l _ (Below.refl _ _).drew|exact uH l _ (by assumption)|fail "NO KEEP")
  (first|(go_at_call 172;(first|(refine(uH D _).mono ?_;clear D)|(refine(uH F _).mono ?_;clear F)|(refine(uH G _).mono ?_;clear G)|(refine(uH H _).mono ?_;clear H));rintro e Q ⟨rfl,d⟩;have O:=d7 (by assumption) d;clear d)|fail "NO ARM")
 go_wp2
 go_ret
 exact⟨rfl,cI J (by assumption)⟩
theorem Cz(b:Nat)(f:Nat)(w:World)(C:∀w',Calls Tryz.prog 172 #[.int .u64 b] w' fun e K=>e=.returned (.agg #[.bool false,.int .u64 2047,.int .u64 f])∧Below w'.heap.size w' K)(U:((f:Int)==0)=false):
  Calls Tryz.prog 113 #[.int .u64 b] w fun e w'=>e=.returned (.int .i64 4)∧Below w.heap.size w w':=by
 have D:=aa dy
 have F:=aa d8
 have G:=aa eR
 have H:=aa fL
 have M:=aa C
 clear C
 go_enter Tryz.func113,Tryz.ntmps113
 go_wp2_with fail
 refine(uH M _).mono ?_
 rintro e N ⟨rfl,d⟩
 clear M
 go_wp2
 refine aj (fun W=>Below w.heap.size w W∧bZ W N.heap.size (.bool false) (.int .u64 2047) (.int .u64 f)) ⟨d.alloc d.size _,bZ.new _ _ _ _⟩ ?_
 rintro u ⟨z,h⟩
 clear d
 generalize N.heap.size=g at*
 have l:=aa (bS h);have J:=aa z;have L:=aa h;clear h z
 iterate 3 (go_region_held3(fun w'=>Below u.heap.size u w'∧w'.cell? ⟨g,0,none⟩=some (.bool false)∧w'.cell? ⟨g,1,none⟩=some (.int .u64 2047)∧w'.cell? ⟨g,2,none⟩=some (.int .u64 f))
  (first|exact uH l _ (Below.refl _ _).drew|exact uH l _ (by assumption)|fail "NO KEEP")
  (first|(go_at_call 172;(first|(refine(uH D _).mono ?_;clear D)|(refine(uH F _).mono ?_;clear F)|(refine(uH G _).mono ?_;clear G)|(refine(uH H _).mono ?_;clear H));rintro e Q ⟨rfl,d⟩;have O:=d7 (by assumption) d;clear d)|fail "NO ARM");go_wp2;refine aj (fun W=>Below w.heap.size w W∧bZ W g (.bool false) (.int .u64 2047) (.int .u64 f)) ⟨cI J (by assumption),(uH L).all (And.left (by assumption))⟩ ?_;clear l J L;rintro u ⟨z,h⟩;have l:=aa (bS h);have J:=aa z;have L:=aa h;clear h z)
 go_region_held3(fun w'=>Below u.heap.size u w'∧w'.cell? ⟨g,0,none⟩=some (.bool false)∧w'.cell? ⟨g,1,none⟩=some (.int .u64 2047)∧w'.cell? ⟨g,2,none⟩=some (.int .u64 f))
  (first|exact uH l _ (Below.refl _ _).drew|exact uH l _ (by assumption)|fail "NO KEEP")
  (first|(go_at_call 172;(first|(refine(uH D _).mono ?_;clear D)|(refine(uH F _).mono ?_;clear F)|(refine(uH G _).mono ?_;clear G)|(refine(uH H _).mono ?_;clear H));rintro e Q ⟨rfl,d⟩;have O:=d7 (by assumption) d;clear d)|fail "NO ARM")
 go_wp2
 go_ret
 exact⟨rfl,cI J (by assumption)⟩
theorem CD(b:Nat)(p:Nat)(f:Nat)(w:World)(C:∀w',Calls Tryz.prog 172 #[.int .u64 b] w' fun e K=>e=.returned (.agg #[.bool false,.int .u64 p,.int .u64 f])∧Below w'.heap.size w' K)(U:((p:Int)==0)=false)(V:((p:Int)==2047)=false):
  Calls Tryz.prog 113 #[.int .u64 b] w fun e w'=>e=.returned (.int .i64 2)∧Below w.heap.size w w':=by
 have D:=aa dy
 have F:=aa d8
 have G:=aa eR
 have H:=aa fL
 have M:=aa C
 clear C
 go_enter Tryz.func113,Tryz.ntmps113
 go_wp2_with fail
 refine(uH M _).mono ?_
 rintro e N ⟨rfl,d⟩
 clear M
 go_wp2
 refine aj (fun W=>Below w.heap.size w W∧bZ W N.heap.size (.bool false) (.int .u64 p) (.int .u64 f)) ⟨d.alloc d.size _,bZ.new _ _ _ _⟩ ?_
 rintro u ⟨z,h⟩
 clear d
 generalize N.heap.size=g at*
 have l:=aa (bS h);have J:=aa z;have L:=aa h;clear h z
 iterate 3 (go_region_held3(fun w'=>Below u.heap.size u w'∧w'.cell? ⟨g,0,none⟩=some (.bool false)∧w'.cell? ⟨g,1,none⟩=some (.int .u64 p)∧w'.cell? ⟨g,2,none⟩=some (.int .u64 f))
  (first|exact uH l _ (Below.refl _ _).drew|exact uH l _ (by assumption)|fail "NO KEEP")
  (first|(go_at_call 172;(first|(refine(uH D _).mono ?_;clear D)|(refine(uH F _).mono ?_;clear F)|(refine(uH G _).mono ?_;clear G)|(refine(uH H _).mono ?_;clear H));rintro e Q ⟨rfl,d⟩;have O:=d7 (by assumption) d;clear d)|fail "NO ARM");go_wp2;refine aj (fun W=>Below w.heap.size w W∧bZ W g (.bool false) (.int .u64 p) (.int .u64 f)) ⟨cI J (by assumption),(uH L).all (And.left (by assumption))⟩ ?_;clear l J L;rintro u ⟨z,h⟩;have l:=aa (bS h);have J:=aa z;have L:=aa h;clear h z)
 go_region_held3(fun w'=>Below u.heap.size u w'∧w'.cell? ⟨g,0,none⟩=some (.bool false)∧w'.cell? ⟨g,1,none⟩=some (.int .u64 p)∧w'.cell? ⟨g,2,none⟩=some (.int .u64 f))
  (first|exact uH l _ (Below.refl _ _).drew|exact uH l _ (by assumption)|fail "NO KEEP")
  (first|(go_at_call 172;(first|(refine(uH D _).mono ?_;clear D)|(refine(uH F _).mono ?_;clear F)|(refine(uH G _).mono ?_;clear G)|(refine(uH H _).mono ?_;clear H));rintro e Q ⟨rfl,d⟩;have O:=d7 (by assumption) d;clear d)|fail "NO ARM")
 go_wp2
 go_ret
 exact⟨rfl,cI J (by assumption)⟩
theorem CE(b:Nat)(w:World)(C:∀w',Calls Tryz.prog 172 #[.int .u64 b] w' fun e G=>e=.returned (.agg #[.bool true,.int .u64 0,.int .u64 0])∧Below w'.heap.size w' G):
  Calls Tryz.prog 113 #[.int .u64 b] w fun e w'=>e=.returned (.int .i64 0)∧Below w.heap.size w w':=by
 have z:=aa dy
 have D:=aa d8
 have J:=aa C
 clear C
 go_enter Tryz.func113,Tryz.ntmps113
 go_wp2_with fail
 refine(uH J _).mono ?_
 rintro e K ⟨rfl,d⟩
 clear J
 go_wp2
 refine aj (fun W=>Below w.heap.size w W∧bZ W K.heap.size (.bool true) (.int .u64 0) (.int .u64 0)) ⟨d.alloc d.size _,bZ.new _ _ _ _⟩ ?_
 rintro l ⟨u,f⟩
 clear d
 generalize K.heap.size=g at*
 have h:=aa (bS f);have F:=aa u;have H:=aa f;clear f u
 iterate 1 (go_region_held3(fun w'=>Below l.heap.size l w'∧w'.cell? ⟨g,0,none⟩=some (.bool true)∧w'.cell? ⟨g,1,none⟩=some (.int .u64 0)∧w'.cell? ⟨g,2,none⟩=some (.int .u64 0))
  (first|exact uH h _ (Below.refl _ _).drew|exact uH h _ (by assumption)|fail "NO KEEP")
  (first|(go_at_call 172;(first|(refine(uH z _).mono ?_;clear z)|(refine(uH D _).mono ?_;clear D));rintro e M ⟨rfl,d⟩;have L:=d7 (by assumption) d;clear d)|fail "NO ARM");go_wp2;refine aj (fun W=>Below w.heap.size w W∧bZ W g (.bool true) (.int .u64 0) (.int .u64 0)) ⟨cI F (by assumption),(uH H).all (And.left (by assumption))⟩ ?_;clear h F H;rintro l ⟨u,f⟩;have h:=aa (bS f);have F:=aa u;have H:=aa f;clear f u)
 go_region_held3(fun w'=>Below l.heap.size l w'∧w'.cell? ⟨g,0,none⟩=some (.bool true)∧w'.cell? ⟨g,1,none⟩=some (.int .u64 0)∧w'.cell? ⟨g,2,none⟩=some (.int .u64 0))
  (first|exact uH h _ (Below.refl _ _).drew|exact uH h _ (by assumption)|fail "NO KEEP")
  (first|(go_at_call 172;(first|(refine(uH z _).mono ?_;clear z)|(refine(uH D _).mono ?_;clear D));rintro e M ⟨rfl,d⟩;have L:=d7 (by assumption) d;clear d)|fail "NO ARM")
 go_wp2
 go_ret
 exact⟨rfl,cI F (by assumption)⟩
theorem CH(b:Nat)(w:World)(C:∀w',Calls Tryz.prog 172 #[.int .u64 b] w' fun e J=>e=.returned (.agg #[.bool true,.int .u64 2047,.int .u64 0])∧Below w'.heap.size w' J):
  Calls Tryz.prog 113 #[.int .u64 b] w fun e w'=>e=.returned (.int .i64 3)∧Below w.heap.size w w':=by
 have z:=aa dy
 have D:=aa d8
 have F:=aa eR
 have G:=aa fL
 have L:=aa C
 clear C
 go_enter Tryz.func113,Tryz.ntmps113
 go_wp2_with fail
 refine(uH L _).mono ?_
 rintro e M ⟨rfl,d⟩
 clear L
 go_wp2
 refine aj (fun W=>Below w.heap.size w W∧bZ W M.heap.size (.bool true) (.int .u64 2047) (.int .u64 0)) ⟨d.alloc d.size _,bZ.new _ _ _ _⟩ ?_
 rintro l ⟨u,f⟩
 clear d
 generalize M.heap.size=g at*
 have h:=aa (bS f);have H:=aa u;have K:=aa f;clear f u
 iterate 3 (go_region_held3(fun w'=>Below l.heap.size l w'∧w'.cell? ⟨g,0,none⟩=some (.bool true)∧w'.cell? ⟨g,1,none⟩=some (.int .u64 2047)∧w'.cell? ⟨g,2,none⟩=some (.int .u64 0))
  (first|exact uH h _ (Below.refl _ _).drew|exact uH h _ (by assumption)|fail "NO KEEP")
  (first|(go_at_call 172;(first|(refine(uH z _).mono ?_;clear z)|(refine(uH D _).mono ?_;clear D)|(refine(uH F _).mono ?_;clear F)|(refine(uH G _).mono ?_;clear G));rintro e O ⟨rfl,d⟩;have N:=d7 (by assumption) d;clear d)|fail "NO ARM");go_wp2;refine aj (fun W=>Below w.heap.size w W∧bZ W g (.bool true) (.int .u64 2047) (.int .u64 0)) ⟨cI H (by assumption),(uH K).all (And.left (by assumption))⟩ ?_;clear h H K;rintro l ⟨u,f⟩;have h:=aa (bS f);have H:=aa u;have K:=aa f;clear f u)
 go_region_held3(fun w'=>Below l.heap.size l w'∧w'.cell? ⟨g,0,none⟩=some (.bool true)∧w'.cell? ⟨g,1,none⟩=some (.int .u64 2047)∧w'.cell? ⟨g,2,none⟩=some (.int .u64 0))
  (first|exact uH h _ (Below.refl _ _).drew|exact uH h _ (by assumption)|fail "NO KEEP")
  (first|(go_at_call 172;(first|(refine(uH z _).mono ?_;clear z)|(refine(uH D _).mono ?_;clear D)|(refine(uH F _).mono ?_;clear F)|(refine(uH G _).mono ?_;clear G));rintro e O ⟨rfl,d⟩;have N:=d7 (by assumption) d;clear d)|fail "NO ARM")
 go_wp2
 go_ret
 exact⟨rfl,cI H (by assumption)⟩
theorem CJ(b:Nat)(f:Nat)(w:World)(C:∀w',Calls Tryz.prog 172 #[.int .u64 b] w' fun e K=>e=.returned (.agg #[.bool true,.int .u64 0,.int .u64 f])∧Below w'.heap.size w' K)(U:((f:Int)==0)=false):
  Calls Tryz.prog 113 #[.int .u64 b] w fun e w'=>e=.returned (.int .i64 1)∧Below w.heap.size w w':=by
 have D:=aa dy
 have F:=aa d8
 have G:=aa eR
 have H:=aa fL
 have M:=aa C
 clear C
 go_enter Tryz.func113,Tryz.ntmps113
 go_wp2_with fail
 refine(uH M _).mono ?_
 rintro e N ⟨rfl,d⟩
 clear M
 go_wp2
 refine aj (fun W=>Below w.heap.size w W∧bZ W N.heap.size (.bool true) (.int .u64 0) (.int .u64 f)) ⟨d.alloc d.size _,bZ.new _ _ _ _⟩ ?_
 rintro u ⟨z,h⟩
 clear d
 generalize N.heap.size=g at*
 have l:=aa (bS h);have J:=aa z;have L:=aa h;clear h z
 iterate 3 (go_region_held3(fun w'=>Below u.heap.size u w'∧w'.cell? ⟨g,0,none⟩=some (.bool true)∧w'.cell? ⟨g,1,none⟩=some (.int .u64 0)∧w'.cell? ⟨g,2,none⟩=some (.int .u64 f))
  (first|exact uH l _ (Below.refl _ _).drew|exact uH l _ (by assumption)|fail "NO KEEP")
  (first|(go_at_call 172;(first|(refine(uH D _).mono ?_;clear D)|(refine(uH F _).mono ?_;clear F)|(refine(uH G _).mono ?_;clear G)|(refine(uH H _).mono ?_;clear H));rintro e Q ⟨rfl,d⟩;have O:=d7 (by assumption) d;clear d)|fail "NO ARM");go_wp2;refine aj (fun W=>Below w.heap.size w W∧bZ W g (.bool true) (.int .u64 0) (.int .u64 f)) ⟨cI J (by assumption),(uH L).all (And.left (by assumption))⟩ ?_;clear l J L;rintro u ⟨z,h⟩;have l:=aa (bS h);have J:=aa z;have L:=aa h;clear h z)
 go_region_held3(fun w'=>Below u.heap.size u w'∧w'.cell? ⟨g,0,none⟩=some (.bool true)∧w'.cell? ⟨g,1,none⟩=some (.int .u64 0)∧w'.cell? ⟨g,2,none⟩=some (.int .u64 f))
  (first|exact uH l _ (Below.refl _ _).drew|exact uH l _ (by assumption)|fail "NO KEEP")
  (first|(go_at_call 172;(first|(refine(uH D _).mono ?_;clear D)|(refine(uH F _).mono ?_;clear F)|(refine(uH G _).mono ?_;clear G)|(refine(uH H _).mono ?_;clear H));rintro e Q ⟨rfl,d⟩;have O:=d7 (by assumption) d;clear d)|fail "NO ARM")
 go_wp2
 go_ret
 exact⟨rfl,cI J (by assumption)⟩
theorem CU(b:Nat)(f:Nat)(w:World)(C:∀w',Calls Tryz.prog 172 #[.int .u64 b] w' fun e K=>e=.returned (.agg #[.bool true,.int .u64 2047,.int .u64 f])∧Below w'.heap.size w' K)(U:((f:Int)==0)=false):
  Calls Tryz.prog 113 #[.int .u64 b] w fun e w'=>e=.returned (.int .i64 4)∧Below w.heap.size w w':=by
 have D:=aa dy
 have F:=aa d8
 have G:=aa eR
 have H:=aa fL
 have M:=aa C
 clear C
 go_enter Tryz.func113,Tryz.ntmps113
 go_wp2_with fail
 refine(uH M _).mono ?_
 rintro e N ⟨rfl,d⟩
 clear M
 go_wp2
 refine aj (fun W=>Below w.heap.size w W∧bZ W N.heap.size (.bool true) (.int .u64 2047) (.int .u64 f)) ⟨d.alloc d.size _,bZ.new _ _ _ _⟩ ?_
 rintro u ⟨z,h⟩
 clear d
 generalize N.heap.size=g at*
 have l:=aa (bS h);have J:=aa z;have L:=aa h;clear h z
 iterate 3 (go_region_held3(fun w'=>Below u.heap.size u w'∧w'.cell? ⟨g,0,none⟩=some (.bool true)∧w'.cell? ⟨g,1,none⟩=some (.int .u64 2047)∧w'.cell? ⟨g,2,none⟩=some (.int .u64 f))
  (first|exact uH l _ (Below.refl _ _).drew|exact uH l _ (by assumption)|fail "NO KEEP")
  (first|(go_at_call 172;(first|(refine(uH D _).mono ?_;clear D)|(refine(uH F _).mono ?_;clear F)|(refine(uH G _).mono ?_;clear G)|(refine(uH H _).mono ?_;clear H));rintro e Q ⟨rfl,d⟩;have O:=d7 (by assumption) d;clear d)|fail "NO ARM");go_wp2;refine aj (fun W=>Below w.heap.size w W∧bZ W g (.bool true) (.int .u64 2047) (.int .u64 f)) ⟨cI J (by assumption),(uH L).all (And.left (by assumption))⟩ ?_;clear l J L;rintro u ⟨z,h⟩;have l:=aa (bS h);have J:=aa z;have L:=aa h;clear h z)
 go_region_held3(fun w'=>Below u.heap.size u w'∧w'.cell? ⟨g,0,none⟩=some (.bool true)∧w'.cell? ⟨g,1,none⟩=some (.int .u64 2047)∧w'.cell? ⟨g,2,none⟩=some (.int .u64 f))
  (first|exact uH l _ (Below.refl _ _).drew|exact uH l _ (by assumption)|fail "NO KEEP")
  (first|(go_at_call 172;(first|(refine(uH D _).mono ?_;clear D)|(refine(uH F _).mono ?_;clear F)|(refine(uH G _).mono ?_;clear G)|(refine(uH H _).mono ?_;clear H));rintro e Q ⟨rfl,d⟩;have O:=d7 (by assumption) d;clear d)|fail "NO ARM")
 go_wp2
 go_ret
 exact⟨rfl,cI J (by assumption)⟩
theorem CX(b:Nat)(p:Nat)(f:Nat)(w:World)(C:∀w',Calls Tryz.prog 172 #[.int .u64 b] w' fun e K=>e=.returned (.agg #[.bool true,.int .u64 p,.int .u64 f])∧Below w'.heap.size w' K)(U:((p:Int)==0)=false)(V:((p:Int)==2047)=false):
  Calls Tryz.prog 113 #[.int .u64 b] w fun e w'=>e=.returned (.int .i64 2)∧Below w.heap.size w w':=by
 have D:=aa dy
 have F:=aa d8
 have G:=aa eR
 have H:=aa fL
 have M:=aa C
 clear C
 go_enter Tryz.func113,Tryz.ntmps113
 go_wp2_with fail
 refine(uH M _).mono ?_
 rintro e N ⟨rfl,d⟩
 clear M
 go_wp2
 refine aj (fun W=>Below w.heap.size w W∧bZ W N.heap.size (.bool true) (.int .u64 p) (.int .u64 f)) ⟨d.alloc d.size _,bZ.new _ _ _ _⟩ ?_
 rintro u ⟨z,h⟩
 clear d
 generalize N.heap.size=g at*
 have l:=aa (bS h);have J:=aa z;have L:=aa h;clear h z
 iterate 3 (go_region_held3(fun w'=>Below u.heap.size u w'∧w'.cell? ⟨g,0,none⟩=some (.bool true)∧w'.cell? ⟨g,1,none⟩=some (.int .u64 p)∧w'.cell? ⟨g,2,none⟩=some (.int .u64 f))
  (first|exact uH l _ (Below.refl _ _).drew|exact uH l _ (by assumption)|fail "NO KEEP")
  (first|(go_at_call 172;(first|(refine(uH D _).mono ?_;clear D)|(refine(uH F _).mono ?_;clear F)|(refine(uH G _).mono ?_;clear G)|(refine(uH H _).mono ?_;clear H));rintro e Q ⟨rfl,d⟩;have O:=d7 (by assumption) d;clear d)|fail "NO ARM");go_wp2;refine aj (fun W=>Below w.heap.size w W∧bZ W g (.bool true) (.int .u64 p) (.int .u64 f)) ⟨cI J (by assumption),(uH L).all (And.left (by assumption))⟩ ?_;clear l J L;rintro u ⟨z,h⟩;have l:=aa (bS h);have J:=aa z;have L:=aa h;clear h z)
 go_region_held3(fun w'=>Below u.heap.size u w'∧w'.cell? ⟨g,0,none⟩=some (.bool true)∧w'.cell? ⟨g,1,none⟩=some (.int .u64 p)∧w'.cell? ⟨g,2,none⟩=some (.int .u64 f))
  (first|exact uH l _ (Below.refl _ _).drew|exact uH l _ (by assumption)|fail "NO KEEP")
  (first|(go_at_call 172;(first|(refine(uH D _).mono ?_;clear D)|(refine(uH F _).mono ?_;clear F)|(refine(uH G _).mono ?_;clear G)|(refine(uH H _).mono ?_;clear H));rintro e Q ⟨rfl,d⟩;have O:=d7 (by assumption) d;clear d)|fail "NO ARM")
 go_wp2
 go_ret
 exact⟨rfl,cI J (by assumption)⟩
theorem cR(b:Nat)(w:World)(h:b<18446744073709551616):
  Calls Tryz.prog 113 #[.int .u64 b] w fun e w'=>e=.returned (.int .i64 (fK b))∧Below w.heap.size w w':=by
 have C:=fun w'=>ex b w' h
 unfold fV at C
 unfold fK
 generalize fF b=f at*
 generalize fP b=p at*
 generalize fS b=s at*
 by_cases u:p=2047
 ·subst u
  rw[if_pos rfl]
  by_cases d:f=0
  ·subst d
   rw[if_pos rfl]
   cases s
   ·exact Cx b w C
   ·exact CH b w C
  ·rw[if_neg d]
   have l:((f:Int)==0)=false:=by simp;omega
   cases s
   ·exact Cz b f w C l
   ·exact CU b f w C l
 ·rw[if_neg u]
  by_cases d:p=0
  ·subst d
   rw[if_pos rfl]
   by_cases z:f=0
   ·subst z
    rw[if_pos rfl]
    cases s
    ·exact Cw b w C
    ·exact CE b w C
   ·rw[if_neg z]
    have l:((f:Int)==0)=false:=by simp;omega
    cases s
    ·exact Cy b f w C l
    ·exact CJ b f w C l
  ·rw[if_neg d]
   have D:((p:Int)==0)=false:=by simp;omega
   have F:((p:Int)==2047)=false:=by simp;omega
   cases s
   ·exact CD b p f w C D F
   ·exact CX b p f w C D F
def aA(b:Nat):Bool:=decide (fP b≠2047)
theorem eT(b:Nat):(aA b=false∧(fK b=3∨fK b=4))∨(aA b=true∧(fK b=0∨fK b=1∨fK b=2)):=by
 unfold fK aA
 by_cases d:fP b=2047
 ·left
  refine⟨by simp[d],?_⟩
  rw[if_pos d]
  split<;>simp
 ·right
  refine⟨by simp[d],?_⟩
  rw[if_neg d]
  split
  ·split<;>simp
  ·simp
theorem gg(b:Nat)(w:World)(h:b<18446744073709551616):
  Calls Tryz.prog 152 #[.int .u64 b] w fun e w'=>e=.returned (.bool (aA b))∧Below w.heap.size w w':=by
 have f:=aa (fun w'=>cR b w' h)
 have l:=eT b
 generalize aA b=q at*
 generalize fK b=k at*
 rcases l with⟨rfl,rfl|rfl⟩|⟨rfl,rfl|rfl|rfl⟩
 all_goals
  clear h
  go_enter Tryz.func152,Tryz.ntmps152
  go_wp2_with(go_at_call 113;refine(uH f _).mono ?_;rintro e u ⟨rfl,d⟩)
  go_ret
  exact⟨rfl,d⟩
theorem gi(b:Nat)(w:World)(h:b<18446744073709551616):
  Calls Tryz.prog 85 #[.int .u64 b] w fun e w'=>e=.returned (.bool (aA b))∧w=w':=by
 have f:=aa (fun w'=>jA b w' h)
 have l:=mQ b
 unfold aA
 generalize fP b=k at*
 clear h
 by_cases d:k=2047
 ·subst d
  go_enter Tryz.func85,Tryz.ntmps85
  go_wp2_with(go_at_call 117;refine(uH f _).mono ?_;rintro e u ⟨rfl,rfl⟩)
  go_ret
  exact⟨rfl,rfl⟩
 ·rw[decide_eq_true d]
  have z:(k:Int)<2047:=by omega
  clear d l
  go_enter Tryz.func85,Tryz.ntmps85
  go_wp2_with(go_at_call 117;refine(uH f _).mono ?_;rintro e u ⟨rfl,rfl⟩)
  go_ret
  exact⟨rfl,rfl⟩
theorem ja(b:Nat)(w:World)(h:b<18446744073709551616):
  Calls Tryz.prog 106 #[.int .u64 b] w fun e w'=>e=.returned (.int .i64 (fK b))∧w=w':=by
 have l:=aa (fun w'=>jA b w' h)
 have u:=aa (fun w'=>pq b w' h)
 unfold fK
 generalize fF b=f at*
 generalize fP b=p at*
 clear h
 by_cases F:p=2047
 ·subst F
  rw[if_pos rfl]
  by_cases d:f=0
  ·subst d
   rw[if_pos rfl]
   go_enter Tryz.func106,Tryz.ntmps106
   go_wp2_with(first|(go_at_call 117;refine(uH l _).mono ?_;rintro e z ⟨rfl,rfl⟩)|(go_at_call 116;refine(uH u _).mono ?_;rintro e D ⟨rfl,rfl⟩))
   go_ret
   exact⟨rfl,rfl⟩
  ·rw[if_neg d]
   have J:((f:Int)==0)=false:=by simp;omega
   clear d
   go_enter Tryz.func106,Tryz.ntmps106
   go_wp2_with(first|(go_at_call 117;refine(uH l _).mono ?_;rintro e z ⟨rfl,rfl⟩)|(go_at_call 116;refine(uH u _).mono ?_;rintro e D ⟨rfl,rfl⟩))
   go_ret
   exact⟨rfl,rfl⟩
 ·rw[if_neg F]
  have K:((p:Int)==2047)=false:=by simp;omega
  clear F
  by_cases d:p=0
  ·subst d
   rw[if_pos rfl]
   by_cases G:f=0
   ·subst G
    rw[if_pos rfl]
    go_enter Tryz.func106,Tryz.ntmps106
    go_wp2_with(first|(go_at_call 117;refine(uH l _).mono ?_;rintro e z ⟨rfl,rfl⟩)|(go_at_call 116;refine(uH u _).mono ?_;rintro e D ⟨rfl,rfl⟩))
    go_ret
    exact⟨rfl,rfl⟩
   ·rw[if_neg G]
    have J:decide ((0:Int)<(f:Int))=true:=decide_eq_true (by omega)
    have H:(0:Int)<(f:Int):=by omega
    clear G
    go_enter Tryz.func106,Tryz.ntmps106
    go_wp2_with(first|(go_at_call 117;refine(uH l _).mono ?_;rintro e z ⟨rfl,rfl⟩)|(go_at_call 116;refine(uH u _).mono ?_;rintro e D ⟨rfl,rfl⟩))
    go_ret
    exact⟨rfl,rfl⟩
  ·rw[if_neg d]
   have J:decide ((0:Int)<(p:Int))=true:=decide_eq_true (by omega)
   have H:(0:Int)<(p:Int):=by omega
   clear d
   go_enter Tryz.func106,Tryz.ntmps106
   go_wp2_with(first|(go_at_call 117;refine(uH l _).mono ?_;rintro e z ⟨rfl,rfl⟩)|(go_at_call 116;refine(uH u _).mono ?_;rintro e D ⟨rfl,rfl⟩))
   go_ret
   exact⟨rfl,rfl⟩
theorem iG(b:Nat)(w:World)(h:b<18446744073709551616):
  Calls Tryz.prog 166 #[.int .u64 b] w fun e w'=>e=.returned (.int .u64 (fN b))∧w=w':=by
 have l:=aa (fun w'=>gI b w' h)
 by_cases d:9223372036854775808≤b
 ·have f:fS b=true:=decide_eq_true d
  rw[f]at l
  have u:((b:Int)-9223372036854775808)%18446744073709551616=(fN b:Int):=by unfold fN;rw[if_pos d];omega
  generalize fN b=q at*
  clear d h f
  go_enter Tryz.func166,Tryz.ntmps166
  go_wp2_with(go_at_call 118;refine(uH l _).mono ?_;rintro e z ⟨rfl,rfl⟩)
  go_ret
  exact⟨aH u,rfl⟩
 ·have f:fS b=false:=decide_eq_false d
  rw[f]at l
  have u:((b:Int)+9223372036854775808)%18446744073709551616=(fN b:Int):=by unfold fN;rw[if_neg d];omega
  generalize fN b=q at*
  clear d h f
  go_enter Tryz.func166,Tryz.ntmps166
  go_wp2_with(go_at_call 118;refine(uH l _).mono ?_;rintro e z ⟨rfl,rfl⟩)
  go_ret
  exact⟨aH u,rfl⟩
theorem iH{P:Program}{f:FuncId}{d:Array Value}{w:World}{n:Nat}{v:Value}
  (h:Calls P f d (w.drewN n) fun e w'=>e=.returned v∧w.drewN n=w'):Calls P f d (w.drewN n) fun e l=>e=.returned v∧∃m,l=w.drewN m:=
 h.mono fun _ _ ⟨u,z⟩=>⟨u,n,z.symm⟩
def qi(ao:Option Addr)(cap:Nat)(L:List Nat)(v:Value):Prop:=
 ∃ao' cap' L',v=.slice ao' L'.length cap'∧bG L'∧ai L'=ai L∧L'.length≤L.length∧(∀w,ag w ao cap L→ag w ao' cap' L')∧(∀B,bs B ao L→bs B ao' L')
theorem bs.take{B:Nat}{d:Option Addr}{L:List Nat}(h:bs B d L)(n:Nat):bs B d (L.take n):=by
 rcases h with h|h
 ·left;simp[h]
 ·exact .inr h
theorem mR(z:Option Addr)(d:Nat)(L:List Nat)(w:World)(h:ag w z d L)(hl:L.length≤35184372088832):
  Calls Tryz.prog 269 #[.slice z L.length d] w fun e w'=>∃v,e=.returned v∧qi z d L v∧w=w':=by
 have D:∀k,k<L.length→ai (L.take (L.length-k))=ai L→L[L.length-k-1]?.getD 0≠0→qi z d L (.slice z (L.length-k) d):=by
  intro k X f Y
  refine⟨z,d,L.take (L.length-k),?_,?_,f,by simp,fun w h=>h.take _,fun B h=>h.take _⟩
  ·rw[List.length_take,Nat.min_eq_left (by omega)]
  ·right
   rw[List.length_take,Nat.min_eq_left (by omega),List.getElem?_take,if_pos (by omega)]
   exact Y
 have u:ai (L.take 0)=ai L→qi z d L (.slice none 0 0):=by
  intro f
  exact⟨none,0,[],rfl,.inl rfl,by simpa using f,by simp,fun _ _=>ag.nil _ _ _,fun _ _=>.inl rfl⟩
 have K:=aa D
 have F:=aa u
 clear D u
 rcases h.2.2 with Z|⟨b,ae,rfl,hb,O⟩
 ·subst Z
  clear K
  go_enter Tryz.func269,Tryz.ntmps269
  go_wp2
  refine wp_loop_rounds 1 ?_
  rw[rounds_succ]
  go_wp2
  go_ret
  exact⟨_,rfl,uH F rfl,rfl⟩
 ·have Q:=h.1
  go_enter Tryz.func269,Tryz.ntmps269
  go_wp2
  go_loop [7] (fun i=>∃k:Nat,k≤L.length∧i=.int .i64 k∧Hid (ai (L.take (L.length-k))=ai L)) (fun i=>L.length-(intOf i).toNat)
  case atStart=>exact⟨0,Nat.zero_le _,rfl,by unfold Hid;simp⟩
  case round=>
   obtain⟨k,X,rfl,f⟩:=hrel
   by_cases H:k<L.length
   ·have J:=O (L.length-k-1) (by omega)
    clear O
    by_cases l:L[L.length-k-1]?.getD 0=0
    ·have U:=jo L (L.length-k) l
     have M:Hid (ai (L.take (L.length-(k+1)))=ai L):=by
      unfold Hid;rw[show L.length-(k+1)=L.length-k-1 by omega,U];exact f.out
     rw[l]at J
     clear l U f K F h
     go_wp2
     go_round
     case rel=>exact⟨k+1,by omega,by go_num,M⟩
     case measure=>simp[intOf];omega
    ·have G:=uH K k H f.out l
     have N:=aa G
     clear G K F h f
     have V:(((L[L.length-k-1]?.getD 0:Nat):Int) != 0)=true:=by rw[bne_iff_ne];omega
     generalize L[L.length-k-1]?.getD 0=x at*
     generalize hn:L.length=n at*
     clear hn
     go_wp2
     go_ret
     exact⟨_,rfl,uH N,rfl⟩
   ·have G:=uH F (by rw[←f.out,show L.length-k=0 by omega])
    have N:=aa G
    clear G K F h f O
    go_wp2
    go_ret
    exact⟨_,rfl,uH N,rfl⟩
theorem ag.ne{w:World}{l:Option Addr}{f:Nat}{L:List Nat}(h:ag w l f L)(u:0<L.length):∃b d,l=some ⟨b,d,none⟩∧b<w.heap.size∧∀i,i<L.length→w.cell? ⟨b,d+i,none⟩=some (.int .u32 ((L[i]?.getD 0:Nat):Int)):=by
 rcases h.2.2 with e|h
 ·subst e;simp at u
 ·exact h
def mT(A B:List Nat):Int:=if A.length=B.length then bc (ai A) (ai B)else bc A.length B.length
theorem dl{a b:Int}(h:a<b):bc a b= -1:=by simp[bc,h]
theorem d9{a b:Int}(h:b<a):bc a b=1:=by simp only[bc];rw[if_neg (by omega),if_pos h]
theorem CY{a b:Int}(h:a=b):bc a b=0:=by simp[bc,h]
theorem yQ(A B:List Nat)(l:aX A)(u:aX B)(t:Nat)(d:∀i,t<i→A[i]?.getD 0=B[i]?.getD 0)(f:A[t]?.getD 0≠B[t]?.getD 0):
  bc ((A[t]?.getD 0:Nat):Int) ((B[t]?.getD 0:Nat):Int)=bc (ai A) (ai B):=by
 rcases Nat.lt_or_gt_of_ne f with h|h
 ·have:=i9 A B l t d h
  rw[dl (by omega),dl (by omega)]
 ·have:=i9 B A u t (fun i z=>(d i z).symm) h
  rw[d9 (by omega),d9 (by omega)]
theorem kQ(ao bo:Option Addr)(ca cb:Nat)(A B:List Nat)(w:World)(Q:ag w ao ca A)(U:ag w bo cb B)(la:A.length≤35184372088832)(lb:B.length≤35184372088832):
  Calls Tryz.prog 316 #[.slice ao A.length ca,.slice bo B.length cb] w fun e w'=>e=.returned (.int .i64 (mT A B))∧∃m,w.drewN m=w':=by
 by_cases u:A.length≠B.length
 ·have ap:((A.length:Int) != (B.length:Int))=true:=by rw[bne_iff_ne];omega
  have HE:=aa (show mT A B=bc A.length B.length by simp[mT,u])
  go_enter Tryz.func316,Tryz.ntmps316
  go_wp2_with(go_at_call 318;refine(yG _ _ _).mono ?_;rintro e w' ⟨rfl,rfl⟩)
  go_ret
  exact⟨aH (uH HE).symm,0,rfl⟩
 have u:A.length=B.length:=by omega
 by_cases h0:A.length=0
 ·have eA:A= []:=List.length_eq_zero_iff.1 h0
  have eB:B= []:=List.length_eq_zero_iff.1 (by omega)
  subst eA;subst eB
  go_enter Tryz.func316,Tryz.ntmps316
  go_wp2
  refine wp_loop_rounds 1 ?_
  rw[rounds_succ]
  go_wp2
  go_ret
  exact⟨aH (by simp[mT,bc]),0,rfl⟩
 obtain⟨b1,o1,rfl,a2,D⟩:=Q.ne (by omega)
 obtain⟨b2,o2,rfl,a3,F⟩:=U.ne (by omega)
 have l:∀t:Nat,(∀i:Nat,t<i→A[i]?.getD 0=B[i]?.getD 0)→A[t]?.getD 0≠B[t]?.getD 0→bc ((A[t]?.getD 0:Nat):Int) ((B[t]?.getD 0:Nat):Int)=mT A B:=by
  intro t h1 h2
  rw[yQ A B Q.2.1 U.2.1 t h1 h2];simp[mT,u]
 have H:(∀i:Nat,A[i]?.getD 0=B[i]?.getD 0)→(0:Int)=mT A B:=by
  intro h
  have:=i8 A B h
  simp[mT,u,this,bc]
 have L:=aa l
 have M:=aa H
 have d:∀i:Nat,A.length≤i→A[i]?.getD 0=B[i]?.getD 0:=fun i hi=>by
  rw[List.getElem?_eq_none (by omega),List.getElem?_eq_none (by omega)]
 have HA:=aa d
 clear l H d Q U
 rw[←u]
 generalize hb:mT A B=s at*
 clear hb
 generalize hm:A.length=n at*
 have V:B.length=n:=u.symm
 clear u
 go_enter Tryz.func316,Tryz.ntmps316
 go_wp2
 go_loopw[19] (fun i wr=>∃k:Nat,k≤n∧i=.int .i64 k∧Hid (∀j,n-k≤j→A[j]?.getD 0=B[j]?.getD 0)∧Hid (∃m,wr=w.drewN m))
  (fun i _=>n-(intOf i).toNat)
 case atStart=>exact⟨0,Nat.zero_le _,rfl,fun j hj=>uH HA j (by omega),0,rfl⟩
 case round=>
  obtain⟨k,hk,rfl,K,O⟩:=hrel
  have z:∀a,wr.cell? a=w.cell? a:=by obtain⟨m,rfl⟩:=O.out;intro a;rfl
  clear HA
  by_cases ax:k<n
  ·have N:=D (n-1-k) (by omega)
   have X:=F (n-1-k) (by omega)
   rw[←z]at N X
   clear D F hm V z
   have aI:(0:Int)≤(n:Int)-1-(k:Int):=by omega
   have a0:(n:Int)-1-(k:Int)<(n:Int):=by omega
   by_cases J:A[n-1-k]?.getD 0=B[n-1-k]?.getD 0
   ·have Y:Hid (∀j,n-(k+1)≤j→A[j]?.getD 0=B[j]?.getD 0):=fun j hj=>by
     by_cases h:n-k≤j
     ·exact K.out j h
     ·rw[show j=n-1-k by omega];exact J
    rw[J]at N
    clear J K L M
    generalize B[n-1-k]?.getD 0=x at*
    go_wp2
    go_quiet (fail)
    go_wp2
    go_roundw
    case rel=>exact⟨k+1,by omega,by go_num,Y,by obtain⟨m,rfl⟩:=O.out;exact⟨m+nq,by simp⟩⟩
    case measure=>simp[intOf];omega
   ·have Z:=aa (uH L (n-1-k) (fun i hi=>K.out i (by omega)) J)
    have a1:(((A[n-1-k]?.getD 0:Nat):Int) != ((B[n-1-k]?.getD 0:Nat):Int))=true:=by rw[bne_iff_ne];omega
    clear L M K J
    generalize B[n-1-k]?.getD 0=x at*
    generalize A[n-1-k]?.getD 0=y at*
    go_wp2
    go_quiet (fail)
    obtain⟨G,f⟩:∃G,G=wr.drewN nq:=⟨_,rfl⟩
    have c3:G.cell? ⟨b1,o1+(n-1-k),none⟩=some (.int .u32 (y:Int)):=by rw[f];exact N
    have c4:G.cell? ⟨b2,o2+(n-1-k),none⟩=some (.int .u32 (x:Int)):=by rw[f];exact X
    rw[←f]
    have ae:Hid (∃q,G=wr.drewN q):=⟨nq,f⟩
    clear f N X
    go_wp2
    go_quiet ((go_at_call 319;exact iH (yH _ _ _)))
    go_wp2
    go_ret
    obtain⟨m,rfl⟩:=O.out
    obtain⟨q,am⟩:=ae.out
    exact⟨aH (uH Z),m+q+nq,by rw[am];simp⟩
  ·have Z:=aa (uH M (fun i=>K.out i (by omega)))
   clear L M D F z
   go_wp2
   go_ret
   obtain⟨m,rfl⟩:=O.out
   exact⟨aH (uH Z),m,rfl⟩
theorem yR(u:Option Addr)(f:Nat)(L:List Nat)(i:Int)(k:Nat)(w:World)(h:ag w u f L)(J:L.length≤35184372088830)(D:i=(k:Int)):
  Calls Tryz.prog 169 #[.slice u L.length f,.int .i64 i] w fun e w'=>e=.returned (.int .u64 ((L[k]?.getD 0:Nat):Int))∧w=w':=by
 subst D
 by_cases d:k<L.length
 ·rcases h.2.2 with G|⟨b,H,rfl,K,z⟩
  ·subst G;simp at d
  ·have F:=z k d
   have l:L[k]?.getD 0<4294967296:=by rw[List.getElem?_eq_getElem d];exact h.2.1 _ (List.getElem_mem d)
   clear h z
   generalize L[k]?.getD 0=x at*
   generalize L.length=n at*
   go_enter Tryz.func169,Tryz.ntmps169
   go_wp2
   go_ret
   exact⟨rfl,rfl⟩
 ·have l:L[k]?.getD 0=0:=by rw[List.getElem?_eq_none (by omega)];rfl
  rw[l]
  clear h l
  generalize L.length=n at*
  go_enter Tryz.func169,Tryz.ntmps169
  go_wp2
  go_ret
  exact⟨rfl,rfl⟩
theorem aJ(w:World)(a p:Addr)(u:Value)(h:a.block≠p.block):(w.setCell p u).cell? a=w.cell? a:=
 World.cell?_of_block (Below.heap_setCell w p u a.block h)
theorem ag.store{w:World}{l:Option Addr}{f B:Nat}{L:List Nat}(h:ag w l f L)(H:bs B l L){p:Addr}(O:p.block<B)(u:Value):ag (w.setCell p u) l f L:=by
 refine⟨h.1,h.2.1,?_⟩
 rcases h.2.2 with z|⟨b,D,F,K,M⟩
 ·exact .inl z
 ·rcases H with z|⟨Q,G,d,N⟩
  ·exact .inl z
  ·rw[F]at d
   simp only[Option.some.injEq,Addr.mk.injEq]at d
   obtain⟨rfl,rfl,_⟩:=d
   refine .inr ⟨b,D,F,by simpa[World.setCell]using K,fun i J=>?_⟩
   rw[aJ w _ p u (by simp;omega)]
   exact M i J
theorem an.stored{B l:Nat}{w:World}{n:Bool}{f:Option Addr}{d:Nat}{L:List Nat}{x:Int}(h:ag w f d L∧bs B f L∧bG L∧n=decide (x<0)∧ai L=x.natAbs∧L.length≤35184372088832){p q:Addr}(D:p.block<B)(F:q.block<B)(G:l≤B)(u z:Value):
  an l ((w.setCell p u).setCell q z) (.agg #[.bool n,.slice f L.length d]) x:=
 ⟨n,f,d,L,rfl,(h.1.store h.2.1 D u).store h.2.1 F z,h.2.1.mono G,h.2.2⟩
end Go.Proofs.YtdhmglmccafbnaaGreatDoor
