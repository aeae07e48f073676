/- Part 39 of the texts. -/
import Derived.Test.YtfkndkaneffgdaaGreatDoorPartB38
import Derived.Test.YtfkndkaneffgdaaGreatDoorPartB34
import Derived.Test.YtfkndkaneffgdaaGreatDoorPartB36
import Derived.Test.YtfkndkaneffgdaaGreatDoorPartB30
import Derived.Test.YtfkndkaneffgdaaGreatDoorPartB35
import Derived.Test.YtfkndkaneffgdaaGreatDoorPartB31
namespace Go.Proofs.YtfkndkaneffgdaaGreatDoor
open Go.RowKit
attribute [local go_sem ↓] Go.wp_at_zero Go.wp_at_succ
set_option maxRecDepth 20000 in
set_option maxHeartbeats 4000000 in
theorem rcolF_any (r c cap k f:Nat) (ao:Option Addr) (S:List Nat) (w:World) (h:Mx w ao cap r c S) (hk:k < c) (hf:f≤r) :
  Calls Tryz.prog 26 #[.agg #[.int .i64 r,.int .i64 c,.slice ao S.length cap],.int .i64 k,.int .i64 f] w fun e w'=>∃ bo d,e = .returned (.slice bo (r - f) d)∧BitsAt w' bo d (mxL (colL c S f (r - f) k))∧Below w.heap.size w w':=by
 have HH:=hide h
 have r6:=h.2.2.1
 have s0:=size_alloc9 w (.cells #[.int .i64 r,.int .i64 c,.slice ao S.length cap] 24)
 have b0:=below_alloc9 w (.cells #[.int .i64 r,.int .i64 c,.slice ao S.length cap] 24)
 have X0:=BoxM.new w (.int .i64 r) (.int .i64 c) (.slice ao S.length cap)
 have b1:=below_alloc9 (w.alloc (.cells #[.int .i64 r,.int .i64 c,.slice ao S.length cap] 24)) (.cells #[] 30)
 have O0:=OwnB.nil (w.alloc (.cells #[.int .i64 r,.int .i64 c,.slice ao S.length cap] 24)) (w.heap.size+1) (by rw [s0];omega)
 rw [s0] at O0
 have HO:=hide O0;have HX:=hide (X0.all b1);have HB:=hide (b0.trans (b1.mono b0.size))
 obtain ⟨l,hl⟩:∃ l,S.length = l:=⟨_,rfl⟩
 rw [hl] at HX HB HO
 rw [hl]
 have HLL:=hide hl
 clear h s0 b0 X0 b1 O0 hl
 go_enter Tryz.func26,Tryz.ntmps26
 go_wp2_with fail
 go_loopw [7,8] (fun v i wr=>∃ j:Nat,f≤j∧j≤r∧i = .int .i64 j∧Hid (OwnB (w.heap.size+1) wr v (fsL (fun t=>elM c S (f+t) k) (j - f)))∧Hid (BoxM wr w.heap.size (.int .i64 r) (.int .i64 c) (.slice ao l cap))∧Hid (Below w.heap.size w wr)) (fun _ i _=>r - (intOf i).toNat)
 case atStart=>exact ⟨f,Nat.le_refl _,hf,rfl,by rw [Nat.sub_self];exact HO,HX,HB⟩
 case round =>
  clear HO HX HB
  obtain ⟨j,hfj,hj,rfl,hO,hX,hB⟩:=hrel
  have t0:=(uH hX).c0;have t1:=(uH hX).c1;have t2:=(uH hX).c2
  by_cases hlt:j < r
  ·have hjI:(j:Int) < (r:Int):=by omega
   have C:=hide (fun w' (m:Mx w' ao cap r c S)=>rat_any r c cap j k ao S w' m hlt hk)
   rw [uH HLL] at C
   have HM:=hide ((uH HH).below hB.out)
   have ho:=hide ((uH HH).el_lt j k)
   have hlen:=hide (show (fsL (fun t=>elM c S (f+t) k) (j - f)).length≤1000000 from by rw [fsL_len];omega)
   have eS:=hide (show fsL (fun t=>elM c S (f+t) k) (j+1 - f) = fsL (fun t=>elM c S (f+t) k) (j - f) ++ [elM c S j k] from by rw [show j+1 - f = j - f+1 by omega,fsL_succ,show f+(j - f) = j by omega])
   generalize elM c S j k = o at *
   go_wp2_with fail
   refine (uH C _ (uH HM)).mono ?_
   rintro e w2 ⟨rfl,hb2⟩
   have own2:=(uH hO).below hb2
   have box2:=(uH hX).all hb2
   have B2:=hB.out.trans (hb2.mono hB.out.size)
   obtain ⟨v3,w3,run3,own3,bel3,_,_⟩:=own2.push o (uH ho) (uH hlen) (by have:=box2.lt;omega) 22
   have RUN:=hide run3
   have O3:=hide (show OwnB (w.heap.size+1) w3 v3 (fsL (fun t=>elM c S (f+t) k) (j+1 - f)) from by rw [uH eS];exact own3)
   have X3:=hide (box2.below bel3 (by omega))
   have B3:=hide (B2.trans (bel3.mono (by omega)))
   clear hb2 C hO hX hB own2 box2 B2 run3 own3 bel3 ho hlen eS HM t0 t1 t2
   go_wp2_with (at_builtin;refine wpList_append_ran _ rfl _ _ 22 rfl _ _ _ _ rfl rfl (uH RUN) ?_;clear RUN)
   go_round
   case rel=>exact ⟨j+1,by omega,by omega,by go_num,O3,X3,B3⟩
   case measure=>simp [intOf];omega
  ·have hjj:r = j:=by omega
   subst hjj
   obtain ⟨b1,d1,e1,q1⟩:=(uH hO).bits
   rw [fsL_len] at e1
   subst e1
   have Q1:=hide q1
   clear q1 hO
   go_wp2_with fail
   go_ret
   exact ⟨b1,d1,rfl,uH Q1,hB.out⟩
end Go.Proofs.YtfkndkaneffgdaaGreatDoor
namespace Go.Proofs.YtfkndkaneffgdaaGreatDoor
open Go.RowKit
attribute [local go_sem ↓] Go.wp_at_zero Go.wp_at_succ
theorem cell_putM {w:World} {a:Addr} {z:Int} {b:Nat} {x y:Int} {o:Option Addr} {n d:Nat} (h:w.cell? a = some (.int .u64 z)) (hx:BoxM w b (.int .i64 x) (.int .i64 y) (.slice o n d)) (u u' u'':Value):(((w.setCell ⟨b,0,none⟩ u).setCell ⟨b,1,none⟩ u').setCell ⟨b,2,none⟩ u'').cell? a = some (.int .u64 z):=by
 obtain ⟨g,k,sp⟩:=a
 have e:sp = none:=World.cell?_spot h
 subst e
 have hne:b ≠ g:=hx.away h
 rw [cell_setCell_other _ _ _ _ (show g ≠ b from fun e=>hne e.symm),cell_setCell_other _ _ _ _ (show g ≠ b from fun e=>hne e.symm),cell_setCell_other _ _ _ _ (show g ≠ b from fun e=>hne e.symm)]
 exact h
set_option maxRecDepth 20000 in
set_option maxHeartbeats 16000000 in
theorem rapply13_of (r c n cap i k m tau:Nat) (ao vo:Option Addr) (vc:Nat) (TJ:Nat→Nat→List Nat) (CL:Nat→List Nat) (V:Nat→Nat) (w0 t:Nat→Nat) (p u:Nat→Nat→Nat) (w:World) (hc:c≤6) (hr:r≤6) (hkc:k≤c) (him:i+m≤r)
  (h0:BitsAt w ao cap (mxL (TJ k 0))) (lJ:∀ d j,(TJ d j).length = n) (hN:∀ d,TJ d m = TJ (d+1) 0) (hCL:∀ d,(CL d).length = r - i)
  (HV:∀ w',Below w.heap.size w w'→∀ j,j < m→∃ b off,vo = some ⟨b,off,none⟩∧w'.cell? ⟨b,off+j,none⟩ = some (.int .u64 (V j:Nat)))
  (A1:∀ w' d,Below w.heap.size w w'→d < c→Calls Tryz.prog 26 #[.agg #[.int .i64 r,.int .i64 c,.slice ao n cap],.int .i64 (d:Nat),.int .i64 i] w' fun e w''=>∃ bo dd,e = .returned (.slice bo (r - i) dd)∧BitsAt w'' bo dd (mxL (CL d))∧Below w'.heap.size w' w'')
  (A2:∀ w' d bo dd,Below w.heap.size w w'→d < c→BitsAt w' bo dd (mxL (CL d))→Calls Tryz.prog 38 #[.slice vo m vc,.slice bo m dd] w' fun e w''=>e = .returned (.int .u64 (w0 d:Nat))∧Below w'.heap.size w' w'')
  (A3:∀ w' d,d < c→Calls Tryz.prog 56 #[.int .u64 tau,.int .u64 (w0 d:Nat)] w' fun e w''=>e = .returned (.int .u64 (t d:Nat))∧Below w'.heap.size w' w'')
  (A4:∀ w' d j,d < c→j < m→Calls Tryz.prog 56 #[.int .u64 (t d:Nat),.int .u64 (V j:Nat)] w' fun e w''=>e = .returned (.int .u64 (p d j:Nat))∧Below w'.heap.size w' w'')
  (A5:∀ w' d j,d < c→j < m→Calls Tryz.prog 54 #[.int .u64 ((CL d).getD j 0:Nat),.int .u64 (p d j:Nat)] w' fun e w''=>e = .returned (.int .u64 (u d j:Nat))∧Below w'.heap.size w' w'')
  (A6:∀ w' d j qo qc,k≤d→d < c→j < m→BitsAt w' qo qc (mxL (TJ d j))→Calls Tryz.prog 37 #[.agg #[.int .i64 r,.int .i64 c,.slice qo n qc],.int .i64 ((i+j:Nat):Int),.int .i64 (d:Nat),.int .u64 (u d j:Nat)] w' fun e w''=>∃ v,e = .returned v∧(∃ po pc,v = .agg #[.int .i64 r,.int .i64 c,.slice po n pc]∧BitsAt w'' po pc (mxL (TJ d (j+1))))∧Below w'.heap.size w' w'') :
  Calls Tryz.prog 29 #[.agg #[.int .i64 r,.int .i64 c,.slice ao n cap],.int .i64 i,.int .i64 k,.slice vo m vc,.int .u64 tau] w fun e w'=>∃ po pc,e = .returned (.agg #[.int .i64 r,.int .i64 c,.slice po n pc])∧BitsAt w' po pc (mxL (TJ c 0))∧Below w.heap.size w w':=by
 have ST:=hide (RoSt.start w r c n cap ao (TJ k 0) h0 (lJ k 0))
 have KV:=hide HV;have K1:=hide A1;have K2:=hide A2;have K3:=hide A3;have K4:=hide A4;have K5:=hide A5;have K6:=hide A6;have LJ:=hide lJ;have NX:=hide hN;have LC:=hide hCL
 clear HV A1 A2 A3 A4 A5 A6 lJ h0 hN hCL
 have y0:=(uH ST).1.c0;have y1:=(uH ST).1.c1;have y2:=(uH ST).1.c2
 go_enter Tryz.func29,Tryz.ntmps29
 go_wp2_with fail
 clear y0 y1 y2
 go_loopw [12] (fun a wr=>∃ (d:Nat) (po:Option Addr) (pc:Nat),k≤d∧d≤c∧a = .int .i64 d∧Hid (RoSt w wr r c n cap ao (TJ d 0) po pc)) (fun a _=>c - (intOf a).toNat)
 case atStart=>exact ⟨k,ao,cap,Nat.le_refl _,hkc,rfl,ST⟩
 case round =>
  clear ST
  obtain ⟨d,po,pc,hkd,hd,rfl,hS⟩:=hrel
  have y0:=(uH hS).1.c0;have y1:=(uH hS).1.c1;have y2:=(uH hS).1.c2
  by_cases hlt:d < c
  ·have hdI:(d:Int) < (c:Int):=by omega
   have W1:=hide (fun w' h=>uH K1 w' d h hlt);have W2:=hide (fun w' bo dd h hb=>uH K2 w' d bo dd h hlt hb);have W3:=hide (fun w'=>uH K3 w' d hlt);have W4:=hide (fun w' j hj=>uH K4 w' d j hlt hj);have W5:=hide (fun w' j hj=>uH K5 w' d j hlt hj);have W6:=hide (fun w' j qo qc hj hb=>uH K6 w' d j qo qc hkd hlt hj hb);have WN:=hide (uH NX d);have WL:=hide (fun j=>uH LJ d j);have WC:=hide (uH LC d)
   generalize hTN:TJ (d+1) 0 = TN at *
   generalize hTd:TJ d = Td at *
   generalize CL d = Cd at *
   generalize p d = pd at *
   generalize u d = ud at *
   generalize t d = td at *
   generalize w0 d = wd at *
   clear K1 K2 K3 K4 K5 K6 NX
   go_wp2_with fail
   refine (uH W1 _ (uH hS).2.2.2.2.2).mono ?_
   rintro e w1 ⟨bo,dd,rfl,bc,hb⟩
   have hmd:(m:Int)≤(dd:Int):=by have:=bc.1;rw [mxL_len,uH WC] at this;omega
   replace hS:=hide ((uH hS).all hb)
   have BC:=hide bc
   clear hb bc y0 y1 y2 W1
   go_wp2_with fail
   refine (uH W2 _ _ _ (uH hS).2.2.2.2.2 (uH BC)).mono ?_
   rintro e w2 ⟨rfl,hb⟩
   replace hS:=hide ((uH hS).all hb)
   replace BC:=hide ((uH BC).below hb)
   clear hb W2
   go_wp2_with fail
   refine (uH W3 _).mono ?_
   rintro e w3 ⟨rfl,hb⟩
   replace hS:=hide ((uH hS).all hb)
   replace BC:=hide ((uH BC).below hb)
   clear hb W3
   go_wp2_with fail
   go_loopw [15] (fun a wr=>∃ (j:Nat) (po:Option Addr) (pc:Nat),j≤m∧a = .int .i64 j∧Hid (RoSt w wr r c n cap ao (Td j) po pc)∧Hid (BitsAt wr bo dd (mxL Cd))) (fun a _=>m - (intOf a).toNat)
   case atStart=>exact ⟨0,po,pc,Nat.zero_le _,rfl,hS,BC⟩
   case round =>
    clear hS BC
    obtain ⟨j,qo,qc,hj,rfl,hS,BC⟩:=hrel
    by_cases hjm:j < m
    ·have hjI:(j:Int) < (m:Int):=by omega
     have hjr:(j:Int) < (r - i:Nat):=by omega
     have hij:(i:Int)+(j:Int) = ((i+j:Nat):Int):=by omega
     obtain ⟨b1,o1,e1,x1⟩:=uH KV _ (uH hS).2.2.2.2.2 j hjm
     obtain ⟨b2,o2,e2,_,hc2⟩:=(uH BC).ne (by rw [mxL_len,uH WC];omega)
     subst e1 e2
     have x2:=hc2 j (by rw [mxL_len,uH WC];omega)
     rw [mxL_at] at x2
     have V4:=hide (fun w'=>uH W4 w' j hjm);have V5:=hide (fun w'=>uH W5 w' j hjm);have V6:=hide (fun w' qo qc hb=>uH W6 w' j qo qc hjm hb);have VL:=hide (uH WL (j+1))
     have hwij:IntKind.i64.wrap ((i+j:Nat):Int) = ((i+j:Nat):Int):=wrap_in _ (by omega)
     generalize i+j = ij at *
     generalize V j = vj at *
     generalize Cd.getD j 0 = cj at *
     generalize pd j = pj at *
     generalize ud j = uj at *
     go_wp2_with fail
     refine at_world (fun W=>RoSt w W r c n cap ao (Td j) qo qc∧W.cell? ⟨b1,o1+j,none⟩ = some (.int .u64 (vj:Nat))∧W.cell? ⟨b2,o2+j,none⟩ = some (.int .u64 (cj:Nat))∧BitsAt W (some ⟨b2,o2,none⟩) dd (mxL Cd)) ⟨uH hS,x1,x2,uH BC⟩ ?_
     clear hS BC x1 x2 hc2
     rintro W0 ⟨s0,x1',x2',bc'⟩
     have SS:=hide (show RoSt w W0.drew r c n cap ao (Td j) qo qc∧W0.drew.cell? ⟨b1,o1+j,none⟩ = some (.int .u64 (vj:Nat))∧W0.drew.cell? ⟨b2,o2+j,none⟩ = some (.int .u64 (cj:Nat))∧BitsAt W0.drew (some ⟨b2,o2,none⟩) dd (mxL Cd) from ⟨s0.all ((Below.refl W0.heap.size W0).drew),x1',x2',bc'.below ((Below.refl W0.heap.size W0).drew)⟩)
     clear s0 x1' x2' bc' KV W4 W5 W6 WN WL WC LC LJ hTN hTd
     have y0:=(uH SS).1.2.2.1.c0;have y1:=(uH SS).1.2.2.1.c1;have y2:=(uH SS).1.2.2.1.c2;have x1:=(uH SS).2.1;have x2:=(uH SS).2.2.1
     refine wp_region_held_drew (S:=(fun w'=>w'.cell? ⟨b1,o1+j,none⟩ = some (.int .u64 (vj:Nat))∧w'.cell? ⟨b2,o2+j,none⟩ = some (.int .u64 (cj:Nat)))) (by kernel_rfl) ?_ (fun hHeld=>?_)
     ·exact ⟨(uH SS).2.1,(uH SS).2.2.1⟩
     refine wpAnyH_take (i:=1) (oi:={ dst:=some 43,op:=Op.move (Operand.tmp 1),type:=3,pos := "ref.go:72",after:=#[],guard:=none }) (v:=(Value.int .i64 (i:Int))) rfl (by kernel_rfl) (by kernel_rfl) (by kernel_rfl) (fun _ _ _ h=>h) (Or.inl ⟨by rfl,?_⟩) (by assumption) ?_
     ·(intro w hSw;(try dsimp only at hSw);go_simp)
     simp only [Act.put,List.setIfInBounds_toArray,List.set_cons_zero,List.set_cons_succ]
     refine wpAnyH_take (i:=2) (oi:={ dst:=some 44,op:=Op.move (Operand.tmp 15),type:=3,pos := "ref.go:72",after:=#[],guard:=none }) (v:=(Value.int .i64 (j:Int))) rfl (by kernel_rfl) (by kernel_rfl) (by kernel_rfl) (fun _ _ _ h=>h) (Or.inl ⟨by rfl,?_⟩) (by assumption) ?_
     ·(intro w hSw;(try dsimp only at hSw);go_simp)
     simp only [Act.put,List.setIfInBounds_toArray,List.set_cons_zero,List.set_cons_succ]
     refine wpAnyH_take (i:=3) (oi:={ dst:=some 45,op:=Op.binOp BinOp.add 3 (Operand.tmp 43) (Operand.tmp 44) 3,type:=3,pos := "ref.go:72",after:=#[{ on:=1,ground:=Ground.data },{ on:=2,ground:=Ground.data }],guard:=none }) (v:=(Value.int .i64 (ij:Int))) rfl (by kernel_rfl) (by kernel_rfl) (by kernel_rfl) (fun _ _ _ h=>h) (Or.inl ⟨by rfl,?_⟩) (by assumption) ?_
     ·(intro w hSw;(try dsimp only at hSw);go_simp)
     simp only [Act.put,List.setIfInBounds_toArray,List.set_cons_zero,List.set_cons_succ]
     refine wpAnyH_take (i:=4) (oi:={ dst:=some 46,op:=Op.move (Operand.tmp 12),type:=3,pos := "ref.go:72",after:=#[],guard:=none }) (v:=(Value.int .i64 (d:Int))) rfl (by kernel_rfl) (by kernel_rfl) (by kernel_rfl) (fun _ _ _ h=>h) (Or.inl ⟨by rfl,?_⟩) (by assumption) ?_
     ·(intro w hSw;(try dsimp only at hSw);go_simp)
     simp only [Act.put,List.setIfInBounds_toArray,List.set_cons_zero,List.set_cons_succ]
     refine wpAnyH_take (i:=5) (oi:={ dst:=some 47,op:=Op.move (Operand.tmp 13),type:=22,pos := "ref.go:72",after:=#[],guard:=none }) (v:=(Value.slice (some ⟨b2,o2,none⟩) (r - i) dd)) rfl (by kernel_rfl) (by kernel_rfl) (by kernel_rfl) (fun _ _ _ h=>h) (Or.inl ⟨by rfl,?_⟩) (by assumption) ?_
     ·(intro w hSw;(try dsimp only at hSw);go_simp)
     simp only [Act.put,List.setIfInBounds_toArray,List.set_cons_zero,List.set_cons_succ]
     refine wpAnyH_take (i:=6) (oi:={ dst:=some 48,op:=Op.move (Operand.tmp 15),type:=3,pos := "ref.go:72",after:=#[],guard:=none }) (v:=(Value.int .i64 (j:Int))) rfl (by kernel_rfl) (by kernel_rfl) (by kernel_rfl) (fun _ _ _ h=>h) (Or.inl ⟨by rfl,?_⟩) (by assumption) ?_
     ·(intro w hSw;(try dsimp only at hSw);go_simp)
     simp only [Act.put,List.setIfInBounds_toArray,List.set_cons_zero,List.set_cons_succ]
     refine wpAnyH_take (i:=7) (oi:={ dst:=some 49,op:=Op.indexAddr 22 (Operand.tmp 47) (Operand.tmp 48),type:=0,pos := "ref.go:72",after:=#[{ on:=5,ground:=Ground.data },{ on:=6,ground:=Ground.data }],guard:=none }) (v:=(Value.pointer (some ⟨b2,o2+j,none⟩))) rfl (by kernel_rfl) (by kernel_rfl) (by kernel_rfl) (fun _ _ _ h=>h) (Or.inl ⟨by rfl,?_⟩) (by assumption) ?_
     ·(intro w hSw;(try dsimp only at hSw);go_simp)
     simp only [Act.put,List.setIfInBounds_toArray,List.set_cons_zero,List.set_cons_succ]
     refine wpAnyH_take (i:=8) (oi:={ dst:=some 50,op:=Op.load 30 (Operand.tmp 49),type:=30,pos := "ref.go:72",after:=#[{ on:=7,ground:=Ground.data }],guard:=none }) (v:=(Value.int .u64 (cj:Int))) rfl (by kernel_rfl) (by kernel_rfl) (by kernel_rfl) (fun _ _ _ h=>h) (Or.inl ⟨by rfl,?_⟩) (by assumption) ?_
     ·(intro w hSw;(try dsimp only at hSw);go_simp)
     simp only [Act.put,List.setIfInBounds_toArray,List.set_cons_zero,List.set_cons_succ]
     refine wpAnyH_take (i:=9) (oi:={ dst:=some 51,op:=Op.move (Operand.tmp 14),type:=30,pos := "ref.go:72",after:=#[],guard:=none }) (v:=(Value.int .u64 (td:Int))) rfl (by kernel_rfl) (by kernel_rfl) (by kernel_rfl) (fun _ _ _ h=>h) (Or.inl ⟨by rfl,?_⟩) (by assumption) ?_
     ·(intro w hSw;(try dsimp only at hSw);go_simp)
     simp only [Act.put,List.setIfInBounds_toArray,List.set_cons_zero,List.set_cons_succ]
     refine wpAnyH_take (i:=10) (oi:={ dst:=some 52,op:=Op.move (Operand.tmp 3),type:=22,pos := "ref.go:72",after:=#[],guard:=none }) (v:=(Value.slice (some ⟨b1,o1,none⟩) m vc)) rfl (by kernel_rfl) (by kernel_rfl) (by kernel_rfl) (fun _ _ _ h=>h) (Or.inl ⟨by rfl,?_⟩) (by assumption) ?_
     ·(intro w hSw;(try dsimp only at hSw);go_simp)
     simp only [Act.put,List.setIfInBounds_toArray,List.set_cons_zero,List.set_cons_succ]
     refine wpAnyH_take (i:=11) (oi:={ dst:=some 53,op:=Op.move (Operand.tmp 15),type:=3,pos := "ref.go:72",after:=#[],guard:=none }) (v:=(Value.int .i64 (j:Int))) rfl (by kernel_rfl) (by kernel_rfl) (by kernel_rfl) (fun _ _ _ h=>h) (Or.inl ⟨by rfl,?_⟩) (by assumption) ?_
     ·(intro w hSw;(try dsimp only at hSw);go_simp)
     simp only [Act.put,List.setIfInBounds_toArray,List.set_cons_zero,List.set_cons_succ]
     refine wpAnyH_take (i:=12) (oi:={ dst:=some 54,op:=Op.indexAddr 22 (Operand.tmp 52) (Operand.tmp 53),type:=0,pos := "ref.go:72",after:=#[{ on:=10,ground:=Ground.data },{ on:=11,ground:=Ground.data }],guard:=none }) (v:=(Value.pointer (some ⟨b1,o1+j,none⟩))) rfl (by kernel_rfl) (by kernel_rfl) (by kernel_rfl) (fun _ _ _ h=>h) (Or.inl ⟨by rfl,?_⟩) (by assumption) ?_
     ·(intro w hSw;(try dsimp only at hSw);go_simp)
     simp only [Act.put,List.setIfInBounds_toArray,List.set_cons_zero,List.set_cons_succ]
     refine wpAnyH_take (i:=13) (oi:={ dst:=some 55,op:=Op.load 30 (Operand.tmp 54),type:=30,pos := "ref.go:72",after:=#[{ on:=12,ground:=Ground.data }],guard:=none }) (v:=(Value.int .u64 (vj:Int))) rfl (by kernel_rfl) (by kernel_rfl) (by kernel_rfl) (fun _ _ _ h=>h) (Or.inl ⟨by rfl,?_⟩) (by assumption) ?_
     ·(intro w hSw;(try dsimp only at hSw);go_simp)
     simp only [Act.put,List.setIfInBounds_toArray,List.set_cons_zero,List.set_cons_succ]
     refine wpAnyH_ready (rs:=[0,14]) (by kernel_rfl) (by simp) ?_
     refine AllReadyH.cons (o:={ dst:=some 42,op:=Op.load 24 (Operand.tmp 11),type:=24,pos := "ref.go:72",after:=#[],guard:=none }) rfl (fun K hK=>?_) (AllReadyH.cons (o:={ dst:=some 56,op:=Op.call { callee:=Callee.value (Operand.func 56),args:=#[Operand.tmp 51,Operand.tmp 55],argTypes:=#[30,30] },type:=30,pos := "ref.go:72",after:=#[{ on:=9,ground:=Ground.data },{ on:=13,ground:=Ground.data }],guard:=none }) rfl (fun K hK=>?_) AllReadyH.nil)
     ·go_simp
      refine hK.out _ _ ?_ (fun hHeld=>?_)
      ·exact ⟨(uH SS).2.1,(uH SS).2.2.1⟩
      clear hK K
      refine wpAnyH_ready (rs:=[14]) (by kernel_rfl) (by simp) ?_
      refine AllReadyH.cons (o:={ dst:=some 56,op:=Op.call { callee:=Callee.value (Operand.func 56),args:=#[Operand.tmp 51,Operand.tmp 55],argTypes:=#[30,30] },type:=30,pos := "ref.go:72",after:=#[{ on:=9,ground:=Ground.data },{ on:=13,ground:=Ground.data }],guard:=none }) rfl (fun K hK=>?_) AllReadyH.nil
      go_simp
      refine (uH V4 _).mono ?_
      rintro e w4 ⟨rfl,hb⟩
      clear y0 y1 y2 x1 x2
      have S4:=(uH SS).1.all hb
      have y0:=S4.2.2.1.c0
      have y1:=S4.2.2.1.c1
      have y2:=S4.2.2.1.c2
      have x1:=cell_keep (uH SS).2.1 hb
      have x2:=cell_keep (uH SS).2.2.1 hb
      replace SS:=hide (And.intro S4 (And.intro x1 (And.intro x2 ((uH SS).2.2.2.below hb))))
      clear S4 hb
      go_wp2_with fail
      refine hK.out _ _ ?_ (fun hHeld=>?_)
      ·exact ⟨(uH SS).2.1,(uH SS).2.2.1⟩
      clear hK K
      refine wpAnyH_ready (rs:=[15]) (by kernel_rfl) (by simp) ?_
      refine AllReadyH.cons (o:={ dst:=some 57,op:=Op.call { callee:=Callee.value (Operand.func 54),args:=#[Operand.tmp 50,Operand.tmp 56],argTypes:=#[30,30] },type:=30,pos := "ref.go:72",after:=#[{ on:=8,ground:=Ground.data },{ on:=14,ground:=Ground.data },{ on:=14,ground:=Ground.chain }],guard:=none }) rfl (fun K hK=>?_) AllReadyH.nil
      go_simp
      refine (uH V5 _).mono ?_
      rintro e w5 ⟨rfl,hb⟩
      clear y0 y1 y2 x1 x2
      have S4:=(uH SS).1.all hb
      have y0:=S4.2.2.1.c0
      have y1:=S4.2.2.1.c1
      have y2:=S4.2.2.1.c2
      have x1:=cell_keep (uH SS).2.1 hb
      have x2:=cell_keep (uH SS).2.2.1 hb
      replace SS:=hide (And.intro S4 (And.intro x1 (And.intro x2 ((uH SS).2.2.2.below hb))))
      clear S4 hb
      go_wp2_with fail
      refine hK.out _ _ ?_ (fun hHeld=>?_)
      ·exact ⟨(uH SS).2.1,(uH SS).2.2.1⟩
      clear hK K
      refine wpAnyH_ready (rs:=[16]) (by kernel_rfl) (by simp) ?_
      refine AllReadyH.cons (o:={ dst:=some 58,op:=Op.call { callee:=Callee.value (Operand.func 37),args:=#[Operand.tmp 42,Operand.tmp 45,Operand.tmp 46,Operand.tmp 57],argTypes:=#[24,3,3,30] },type:=24,pos := "ref.go:72",after:=#[{ on:=0,ground:=Ground.data },{ on:=3,ground:=Ground.data },{ on:=4,ground:=Ground.data },{ on:=15,ground:=Ground.data },{ on:=15,ground:=Ground.chain }],guard:=none }) rfl (fun K hK=>?_) AllReadyH.nil
      go_simp
      refine (uH V6 _ _ _ (uH SS).1.2.2.2.1).mono ?_
      rintro e w6 ⟨v6,rfl,⟨po6,pc6,rfl,b6⟩,hb⟩
      clear y0 y1 y2 x1 x2
      have S5:=(uH SS).1.all hb
      have y0:=S5.2.2.1.c0;have y1:=S5.2.2.1.c1;have y2:=S5.2.2.1.c2
      have f0:=S5.2.2.1.free 0;have f1:=S5.2.2.1.free 1;have f2:=S5.2.2.1.free 2
      have P6:=hide (S5.put b6 (uH VL))
      have PC:=hide (((uH SS).2.2.2.below hb).putM S5.2.2.1 (.int .i64 r) (.int .i64 c) (.slice po6 n pc6))
      have HS5:=hide (And.intro (cell_keep (uH SS).2.1 hb) (cell_keep (uH SS).2.2.1 hb))
      have HS6:=hide (And.intro (cell_putM (uH HS5).1 S5.2.2.1 (.int .i64 r) (.int .i64 c) (.slice po6 n pc6)) (cell_putM (uH HS5).2 S5.2.2.1 (.int .i64 r) (.int .i64 c) (.slice po6 n pc6)))
      clear S5 hb b6 SS
      go_wp2_with fail
      refine hK.out _ _ ?_ (fun hHeld=>?_)
      ·exact uH HS5
      clear hK K
      refine wpAnyH_ready (rs:=[17]) (by kernel_rfl) (by simp) ?_
      refine AllReadyH.cons (o:={ dst:=none,op:=Op.store 24 (Operand.tmp 11) (Operand.tmp 58),type:=0,pos := "ref.go:72",after:=#[{ on:=16,ground:=Ground.data },{ on:=16,ground:=Ground.chain },{ on:=0,ground:=Ground.phase },{ on:=1,ground:=Ground.phase },{ on:=2,ground:=Ground.phase },{ on:=3,ground:=Ground.phase },{ on:=4,ground:=Ground.phase },{ on:=5,ground:=Ground.phase },{ on:=6,ground:=Ground.phase },{ on:=7,ground:=Ground.phase },{ on:=8,ground:=Ground.phase },{ on:=9,ground:=Ground.phase },{ on:=10,ground:=Ground.phase },{ on:=11,ground:=Ground.phase },{ on:=12,ground:=Ground.phase },{ on:=13,ground:=Ground.phase },{ on:=14,ground:=Ground.phase },{ on:=15,ground:=Ground.phase },{ on:=16,ground:=Ground.phase }],guard:=none }) rfl (fun K hK=>?_) AllReadyH.nil
      go_simp
      refine hK.out _ _ ?_ (fun hHeld=>?_)
      ·exact uH HS6
      clear hK K
      refine wpAnyH_done (by kernel_rfl) ?_ _
      clear y0 y1 y2 f0 f1 f2 HS5 HS6
      go_wp2_with fail
      go_round
      case rel=>exact ⟨j+1,po6,pc6,by omega,by go_num,P6,PC⟩
      case measure=>simp [intOf];omega
     ·go_simp
      refine (uH V4 _).mono ?_
      rintro e w4 ⟨rfl,hb⟩
      clear y0 y1 y2 x1 x2
      have S4:=(uH SS).1.all hb
      have y0:=S4.2.2.1.c0
      have y1:=S4.2.2.1.c1
      have y2:=S4.2.2.1.c2
      have x1:=cell_keep (uH SS).2.1 hb
      have x2:=cell_keep (uH SS).2.2.1 hb
      replace SS:=hide (And.intro S4 (And.intro x1 (And.intro x2 ((uH SS).2.2.2.below hb))))
      clear S4 hb
      go_wp2_with fail
      refine hK.out _ _ ?_ (fun hHeld=>?_)
      ·exact ⟨(uH SS).2.1,(uH SS).2.2.1⟩
      clear hK K
      refine wpAnyH_ready (rs:=[0,15]) (by kernel_rfl) (by simp) ?_
      refine AllReadyH.cons (o:={ dst:=some 42,op:=Op.load 24 (Operand.tmp 11),type:=24,pos := "ref.go:72",after:=#[],guard:=none }) rfl (fun K hK=>?_) (AllReadyH.cons (o:={ dst:=some 57,op:=Op.call { callee:=Callee.value (Operand.func 54),args:=#[Operand.tmp 50,Operand.tmp 56],argTypes:=#[30,30] },type:=30,pos := "ref.go:72",after:=#[{ on:=8,ground:=Ground.data },{ on:=14,ground:=Ground.data },{ on:=14,ground:=Ground.chain }],guard:=none }) rfl (fun K hK=>?_) AllReadyH.nil)
      ·go_simp
       refine hK.out _ _ ?_ (fun hHeld=>?_)
       ·exact ⟨(uH SS).2.1,(uH SS).2.2.1⟩
       clear hK K
       refine wpAnyH_ready (rs:=[15]) (by kernel_rfl) (by simp) ?_
       refine AllReadyH.cons (o:={ dst:=some 57,op:=Op.call { callee:=Callee.value (Operand.func 54),args:=#[Operand.tmp 50,Operand.tmp 56],argTypes:=#[30,30] },type:=30,pos := "ref.go:72",after:=#[{ on:=8,ground:=Ground.data },{ on:=14,ground:=Ground.data },{ on:=14,ground:=Ground.chain }],guard:=none }) rfl (fun K hK=>?_) AllReadyH.nil
       go_simp
       refine (uH V5 _).mono ?_
       rintro e w5 ⟨rfl,hb⟩
       clear y0 y1 y2 x1 x2
       have S4:=(uH SS).1.all hb
       have y0:=S4.2.2.1.c0
       have y1:=S4.2.2.1.c1
       have y2:=S4.2.2.1.c2
       have x1:=cell_keep (uH SS).2.1 hb
       have x2:=cell_keep (uH SS).2.2.1 hb
       replace SS:=hide (And.intro S4 (And.intro x1 (And.intro x2 ((uH SS).2.2.2.below hb))))
       clear S4 hb
       go_wp2_with fail
       refine hK.out _ _ ?_ (fun hHeld=>?_)
       ·exact ⟨(uH SS).2.1,(uH SS).2.2.1⟩
       clear hK K
       refine wpAnyH_ready (rs:=[16]) (by kernel_rfl) (by simp) ?_
       refine AllReadyH.cons (o:={ dst:=some 58,op:=Op.call { callee:=Callee.value (Operand.func 37),args:=#[Operand.tmp 42,Operand.tmp 45,Operand.tmp 46,Operand.tmp 57],argTypes:=#[24,3,3,30] },type:=24,pos := "ref.go:72",after:=#[{ on:=0,ground:=Ground.data },{ on:=3,ground:=Ground.data },{ on:=4,ground:=Ground.data },{ on:=15,ground:=Ground.data },{ on:=15,ground:=Ground.chain }],guard:=none }) rfl (fun K hK=>?_) AllReadyH.nil
       go_simp
       refine (uH V6 _ _ _ (uH SS).1.2.2.2.1).mono ?_
       rintro e w6 ⟨v6,rfl,⟨po6,pc6,rfl,b6⟩,hb⟩
       clear y0 y1 y2 x1 x2
       have S5:=(uH SS).1.all hb
       have y0:=S5.2.2.1.c0;have y1:=S5.2.2.1.c1;have y2:=S5.2.2.1.c2
       have f0:=S5.2.2.1.free 0;have f1:=S5.2.2.1.free 1;have f2:=S5.2.2.1.free 2
       have P6:=hide (S5.put b6 (uH VL))
       have PC:=hide (((uH SS).2.2.2.below hb).putM S5.2.2.1 (.int .i64 r) (.int .i64 c) (.slice po6 n pc6))
       have HS5:=hide (And.intro (cell_keep (uH SS).2.1 hb) (cell_keep (uH SS).2.2.1 hb))
       have HS6:=hide (And.intro (cell_putM (uH HS5).1 S5.2.2.1 (.int .i64 r) (.int .i64 c) (.slice po6 n pc6)) (cell_putM (uH HS5).2 S5.2.2.1 (.int .i64 r) (.int .i64 c) (.slice po6 n pc6)))
       clear S5 hb b6 SS
       go_wp2_with fail
       refine hK.out _ _ ?_ (fun hHeld=>?_)
       ·exact uH HS5
       clear hK K
       refine wpAnyH_ready (rs:=[17]) (by kernel_rfl) (by simp) ?_
       refine AllReadyH.cons (o:={ dst:=none,op:=Op.store 24 (Operand.tmp 11) (Operand.tmp 58),type:=0,pos := "ref.go:72",after:=#[{ on:=16,ground:=Ground.data },{ on:=16,ground:=Ground.chain },{ on:=0,ground:=Ground.phase },{ on:=1,ground:=Ground.phase },{ on:=2,ground:=Ground.phase },{ on:=3,ground:=Ground.phase },{ on:=4,ground:=Ground.phase },{ on:=5,ground:=Ground.phase },{ on:=6,ground:=Ground.phase },{ on:=7,ground:=Ground.phase },{ on:=8,ground:=Ground.phase },{ on:=9,ground:=Ground.phase },{ on:=10,ground:=Ground.phase },{ on:=11,ground:=Ground.phase },{ on:=12,ground:=Ground.phase },{ on:=13,ground:=Ground.phase },{ on:=14,ground:=Ground.phase },{ on:=15,ground:=Ground.phase },{ on:=16,ground:=Ground.phase }],guard:=none }) rfl (fun K hK=>?_) AllReadyH.nil
       go_simp
       refine hK.out _ _ ?_ (fun hHeld=>?_)
       ·exact uH HS6
       clear hK K
       refine wpAnyH_done (by kernel_rfl) ?_ _
       clear y0 y1 y2 f0 f1 f2 HS5 HS6
       go_wp2_with fail
       go_round
       case rel=>exact ⟨j+1,po6,pc6,by omega,by go_num,P6,PC⟩
       case measure=>simp [intOf];omega
      ·go_simp
       refine (uH V5 _).mono ?_
       rintro e w5 ⟨rfl,hb⟩
       clear y0 y1 y2 x1 x2
       have S4:=(uH SS).1.all hb
       have y0:=S4.2.2.1.c0
       have y1:=S4.2.2.1.c1
       have y2:=S4.2.2.1.c2
       have x1:=cell_keep (uH SS).2.1 hb
       have x2:=cell_keep (uH SS).2.2.1 hb
       replace SS:=hide (And.intro S4 (And.intro x1 (And.intro x2 ((uH SS).2.2.2.below hb))))
       clear S4 hb
       go_wp2_with fail
       refine hK.out _ _ ?_ (fun hHeld=>?_)
       ·exact ⟨(uH SS).2.1,(uH SS).2.2.1⟩
       clear hK K
       refine wpAnyH_ready (rs:=[0]) (by kernel_rfl) (by simp) ?_
       refine AllReadyH.cons (o:={ dst:=some 42,op:=Op.load 24 (Operand.tmp 11),type:=24,pos := "ref.go:72",after:=#[],guard:=none }) rfl (fun K hK=>?_) AllReadyH.nil
       go_simp
       refine hK.out _ _ ?_ (fun hHeld=>?_)
       ·exact ⟨(uH SS).2.1,(uH SS).2.2.1⟩
       clear hK K
       refine wpAnyH_ready (rs:=[16]) (by kernel_rfl) (by simp) ?_
       refine AllReadyH.cons (o:={ dst:=some 58,op:=Op.call { callee:=Callee.value (Operand.func 37),args:=#[Operand.tmp 42,Operand.tmp 45,Operand.tmp 46,Operand.tmp 57],argTypes:=#[24,3,3,30] },type:=24,pos := "ref.go:72",after:=#[{ on:=0,ground:=Ground.data },{ on:=3,ground:=Ground.data },{ on:=4,ground:=Ground.data },{ on:=15,ground:=Ground.data },{ on:=15,ground:=Ground.chain }],guard:=none }) rfl (fun K hK=>?_) AllReadyH.nil
       go_simp
       refine (uH V6 _ _ _ (uH SS).1.2.2.2.1).mono ?_
       rintro e w6 ⟨v6,rfl,⟨po6,pc6,rfl,b6⟩,hb⟩
       clear y0 y1 y2 x1 x2
       have S5:=(uH SS).1.all hb
       have y0:=S5.2.2.1.c0;have y1:=S5.2.2.1.c1;have y2:=S5.2.2.1.c2
       have f0:=S5.2.2.1.free 0;have f1:=S5.2.2.1.free 1;have f2:=S5.2.2.1.free 2
       have P6:=hide (S5.put b6 (uH VL))
       have PC:=hide (((uH SS).2.2.2.below hb).putM S5.2.2.1 (.int .i64 r) (.int .i64 c) (.slice po6 n pc6))
       have HS5:=hide (And.intro (cell_keep (uH SS).2.1 hb) (cell_keep (uH SS).2.2.1 hb))
       have HS6:=hide (And.intro (cell_putM (uH HS5).1 S5.2.2.1 (.int .i64 r) (.int .i64 c) (.slice po6 n pc6)) (cell_putM (uH HS5).2 S5.2.2.1 (.int .i64 r) (.int .i64 c) (.slice po6 n pc6)))
       clear S5 hb b6 SS
       go_wp2_with fail
       refine hK.out _ _ ?_ (fun hHeld=>?_)
       ·exact uH HS5
       clear hK K
       refine wpAnyH_ready (rs:=[17]) (by kernel_rfl) (by simp) ?_
       refine AllReadyH.cons (o:={ dst:=none,op:=Op.store 24 (Operand.tmp 11) (Operand.tmp 58),type:=0,pos := "ref.go:72",after:=#[{ on:=16,ground:=Ground.data },{ on:=16,ground:=Ground.chain },{ on:=0,ground:=Ground.phase },{ on:=1,ground:=Ground.phase },{ on:=2,ground:=Ground.phase },{ on:=3,ground:=Ground.phase },{ on:=4,ground:=Ground.phase },{ on:=5,ground:=Ground.phase },{ on:=6,ground:=Ground.phase },{ on:=7,ground:=Ground.phase },{ on:=8,ground:=Ground.phase },{ on:=9,ground:=Ground.phase },{ on:=10,ground:=Ground.phase },{ on:=11,ground:=Ground.phase },{ on:=12,ground:=Ground.phase },{ on:=13,ground:=Ground.phase },{ on:=14,ground:=Ground.phase },{ on:=15,ground:=Ground.phase },{ on:=16,ground:=Ground.phase }],guard:=none }) rfl (fun K hK=>?_) AllReadyH.nil
       go_simp
       refine hK.out _ _ ?_ (fun hHeld=>?_)
       ·exact uH HS6
       clear hK K
       refine wpAnyH_done (by kernel_rfl) ?_ _
       clear y0 y1 y2 f0 f1 f2 HS5 HS6
       go_wp2_with fail
       go_round
       case rel=>exact ⟨j+1,po6,pc6,by omega,by go_num,P6,PC⟩
       case measure=>simp [intOf];omega
    ·have hjj:j = m:=by omega
     subst hjj
     have hjI:¬ (j:Int) < (j:Int):=by omega
     rw [uH WN] at hS
     go_wp2_with fail
     go_round
     case rel=>exact ⟨d+1,qo,qc,by omega,by omega,by go_num,by rw [hTN];exact hS⟩
     case measure=>simp [intOf];omega
  ·have hdd:d = c:=by omega
   subst hdd
   obtain ⟨h1,h2,h3,h4,h5,h6⟩:=uH hS
   have t1:=h1.c1
   have z0':=h3.c0;have z1':=h3.c1;have z2':=h3.c2
   have r0:=h2.c0;have r1:=h2.c1;have r2:=h2.c2
   have f0:=h2.free 0;have f1:=h2.free 1;have f2:=h2.free 2
   have XP:=h2.put (.int .i64 r) (.int .i64 d) (.slice po n pc)
   have z0:=XP.c0;have z1:=XP.c1;have z2:=XP.c2
   have Q:=hide (h4.putM h2 (.int .i64 r) (.int .i64 d) (.slice po n pc))
   have BP:=hide (below_putM h6 (b:=w.heap.size+1) (by omega) (.int .i64 r) (.int .i64 d) (.slice po n pc))
   clear XP hS h1 h2 h3 h4 h5 h6
   go_wp2_with fail
   exact bodyPost_ret (v:=.agg #[.int .i64 r,.int .i64 d,.slice po n pc]) (by simp [results,Tryz.results29,go_sem,z0,z1,z2]) rfl ⟨po,pc,rfl,uH Q,uH BP⟩
end Go.Proofs.YtfkndkaneffgdaaGreatDoor
namespace Go.Proofs.YtfkndkaneffgdaaGreatDoor
open Go.RowKit
theorem BitsAt.front {w:World} {ao:Option Addr} {cap:Nat} {I J:List Int} (h:BitsAt w ao cap I) (hl:J.length≤I.length) (he:∀ j,j < J.length→J[j]? = I[j]?):BitsAt w ao cap J:=by
 refine ⟨Nat.le_trans hl h.1,fun x hx=>?_,?_⟩
 ·obtain ⟨j,hj,rfl⟩:=List.getElem_of_mem hx
  have e:=he j hj
  rw [List.getElem?_eq_getElem hj] at e
  exact h.2.1 _ (List.mem_of_getElem? e.symm)
 ·rcases Nat.eq_zero_or_pos J.length with g | g
  ·exact .inl (List.eq_nil_of_length_eq_zero g)
  ·obtain ⟨b,off,e1,e2,e3⟩:=h.2.2.resolve_left (fun e=>by rw [e,List.length_nil] at hl;omega)
   refine .inr ⟨b,off,e1,e2,fun j hj=>?_⟩
   rw [e3 j (by omega),he j hj]
theorem dtV_lt:∀ (xs ys:List Nat) (s:Nat),s < 18446744073709551616→dtV s xs ys < 18446744073709551616:=by
 intro xs
 induction xs with
 | nil=>intro ys s h;exact h
 | cons x xs ih =>
  intro ys s h
  match ys with
  | []=>exact h
  | y :: ys=>exact ih ys _ (aV_lt _ _ h (mV_lt _ _))
theorem col_front (c:Nat) (S:List Nat) (i q:Nat) {m l:Nat} (h:m≤l):∀ j,j < (mxL (colL c S i m q)).length→(mxL (colL c S i m q))[j]? = (mxL (colL c S i l q))[j]?:=by
 intro j hj
 rw [mxL_len,colL_len] at hj
 unfold mxL colL
 rw [List.getElem?_map,List.getElem?_map,List.getElem?_map,List.getElem?_map,List.getElem?_range hj,List.getElem?_range (show j < l by omega)]
theorem rapply13_any (r c cap i k tau:Nat) (ao vo:Option Addr) (vc:Nat) (S vs:List Nat) (w:World) (h:Mx w ao cap r c S) (hv:BitsAt w vo vc (mxL vs)) (hi:i+vs.length≤r) (hk:k≤c) (ht:tau < 18446744073709551616) :
  Calls Tryz.prog 29 #[.agg #[.int .i64 r,.int .i64 c,.slice ao S.length cap],.int .i64 i,.int .i64 k,.slice vo vs.length vc,.int .u64 tau] w fun e w'=>∃ po pc,e = .returned (.agg #[.int .i64 r,.int .i64 c,.slice po S.length pc])∧BitsAt w' po pc (mxL (apM r c S i k vs tau))∧Below w.heap.size w w':=by
 have c6:=h.2.2.2
 have r6:=h.2.2.1
 have lJ:∀ d j,(apJ r c S i k vs tau d j).length = S.length:=fun d j=>by rw [apJ_len,h.2.1]
 have hvl:∀ j,vs.getD j 0 < 18446744073709551616:=fun j=>by
  have:=hv.lt j
  rwa [mxL_at] at this
 rw [← apJ_all r c S i k vs tau c (Nat.le_refl _)]
 refine rapply13_of r c S.length cap i k vs.length tau ao vo vc (fun d j=>apJ r c S i k vs tau d j) (fun d=>colL c S i (r - i) d) (fun j=>vs.getD j 0) (fun d=>dtV 0 vs (colL c S i vs.length d)) (fun d=>mV tau (dtV 0 vs (colL c S i vs.length d))) (fun d j=>mV (mV tau (dtV 0 vs (colL c S i vs.length d))) (vs.getD j 0)) (fun d j=>(apL c S i d vs tau).getD j 0) w c6 r6 hk hi (by show BitsAt w ao cap (mxL (apJ r c S i k vs tau k 0));rw [apJ_0 r c S i k vs tau h.2.1];exact h.1) lJ (fun d=>apJ_next r c S i k vs tau d) (fun d=>colL_len _ _ _ _ _) (fun w' hb j hj=>?_) (fun w' d hb hd=>?_) (fun w' d bo dd hb hd hc=>?_) (fun w' d hd=>?_) (fun w' d j hd hj=>?_) (fun w' d j hd hj=>?_) (fun w' d j qo qc hkd hd hj hq=>?_)
 ·obtain ⟨b,off,e1,_,e3⟩:=(hv.below hb).ne (by rw [mxL_len];omega)
  refine ⟨b,off,e1,?_⟩
  rw [e3 j (by rw [mxL_len];exact hj),mxL_at]
 ·exact rcolF_any r c cap d i ao S w' (h.below hb) hd (by omega)
 ·have hf:=hc.front (J:=mxL (colL c S i vs.length d)) (by rw [mxL_len,mxL_len,colL_len,colL_len];omega) (col_front c S i d (by omega))
  have:=r9dot_any vo bo vc dd (mxL vs) (mxL (colL c S i vs.length d)) w' (hv.below hb) hf (by rw [mxL_len,mxL_len,colL_len]) (by rw [mxL_len];omega)
  rw [dtK_dtV (mxL vs) (mxL (colL c S i vs.length d)) (mxL vs).length (Nat.le_refl _) (by rw [mxL_len,mxL_len,colL_len];exact Nat.le_refl _),toN_mxL,toN_mxL,mxL_len,mxL_len,colL_len,List.take_of_length_le (Nat.le_refl _),List.take_of_length_le (by rw [colL_len];exact Nat.le_refl _)] at this
  exact this
 ·exact r9mul_any tau _ w' ht (dtV_lt _ _ _ (by decide))
 ·exact r9mul_any _ _ w' (mV_lt _ _) (hvl j)
 ·show Calls Tryz.prog 54 #[.int .u64 ((colL c S i (r - i) d).getD j 0:Nat),_] w' _
  rw [colL_at c S i (r - i) d (show j < r - i by omega),apL_at c S i d vs tau hj]
  exact r9sub_any _ _ w' (h.el_lt _ _) (mV_lt _ _)
 ·have hX:Mx w' qo qc r c (apJ r c S i k vs tau d j):=⟨hq,apJ_len _ _ _ _ _ _ _ _ _,r6,c6⟩
  have:=rwith_any r c qc (i+j) d ((apL c S i d vs tau).getD j 0) qo _ w' hX (by omega) hd (apL_lt c S i d vs tau hj (fun p q=>h.el_lt p q))
  rw [lJ d j] at this
  refine this.mono ?_
  rintro e w'' ⟨v,rfl,⟨po,pc,rfl,_,b5⟩,hb⟩
  rw [apJ_set r c S hi hd hkd hj] at b5 ⊢
  exact ⟨_,rfl,⟨po,pc,by rw [lJ d (j+1)],b5⟩,hb⟩
end Go.Proofs.YtfkndkaneffgdaaGreatDoor
namespace Go.Proofs.YtfkndkaneffgdaaGreatDoor
open Go.RowKit
theorem qrK_all (r c:Nat) (S:List Nat):∀ K,qrK r c S K = true ↔ ∀ j,j < K→finL (qrX r c S j) = true∧mrK (qrX r c S j) = true:=by
 intro K
 induction K with
 | zero=>exact ⟨fun _ j h=>absurd h (Nat.not_lt_zero j),fun _=>rfl⟩
 | succ K ih =>
  show (qrK r c S K && (finL (qrX r c S K) && mrK (qrX r c S K))) = true ↔ _
  rw [Bool.and_eq_true,Bool.and_eq_true,ih]
  constructor
  ·rintro ⟨h1,h2⟩ j hj
   by_cases g:j < K
   ·exact h1 j g
   ·rw [show j = K by omega];exact h2
  ·intro h
   exact ⟨fun j hj=>h j (by omega),h K (by omega)⟩
theorem elS_lt {S:List Nat} (h:∀ x ∈ S,x < 18446744073709551616) (c p q:Nat):elM c S p q < 18446744073709551616:=by
 unfold elM
 rw [List.getD_eq_getElem?_getD]
 cases e:S[p * c+q]? with
 | none=>decide
 | some x=>exact h x (List.mem_of_getElem? e)
theorem colL_lt {S:List Nat} (h:∀ x ∈ S,x < 18446744073709551616) (c i n q:Nat):∀ x ∈ colL c S i n q,x < 18446744073709551616:=by
 intro x hx
 obtain ⟨j,_,rfl⟩:=List.mem_map.1 hx
 exact elS_lt h c _ _
theorem apS_lt {r c:Nat} {S:List Nat} (hS:∀ x ∈ S,x < 18446744073709551616) (i k:Nat) (vs:List Nat) (tau:Nat):∀ x ∈ apM r c S i k vs tau,x < 18446744073709551616:=by
 intro x hx
 unfold apM mkM at hx
 obtain ⟨p,_,rfl⟩:=List.mem_map.1 hx
 show (if _ then _ else _) < _
 split
 ·exact apL_lt c S i _ vs tau (by omega) (fun p q=>elS_lt hS c p q)
 ·exact elS_lt hS c _ _
theorem clS_lt {r c:Nat} {S:List Nat} (hS:∀ x ∈ S,x < 18446744073709551616) (j b:Nat) (hb:b < 18446744073709551616):∀ x ∈ clM r c S j b,x < 18446744073709551616:=by
 intro x hx
 unfold clM clJ mkM at hx
 obtain ⟨p,_,rfl⟩:=List.mem_map.1 hx
 show (if _ then (if _ then _ else _) else _) < _
 split
 ·split
  ·exact hb
  ·decide
 ·exact elS_lt hS c _ _
theorem qrR_lt {r c:Nat} {S:List Nat} (hS:∀ x ∈ S,x < 18446744073709551616):∀ j,∀ x ∈ qrR r c S j,x < 18446744073709551616
 | 0=>hS
 | j+1=>clS_lt (apS_lt (qrR_lt hS j) _ _ _ _) _ _ (mrB_lt _ (colL_lt (qrR_lt hS j) _ _ _ _))
theorem finL_mx {w:World} {ao:Option Addr} {c:Nat} {xs:List Nat} (h:BitsAt w ao c (mxL xs)) (hl:xs.length≤64) :
  Calls Tryz.prog 25 #[.slice ao xs.length c] w fun e w'=>e = .returned (.bool (finL xs))∧Below w.heap.size w w':=by
 have:=r9finite_any ao c (mxL xs) w h (by rw [mxL_len];omega)
 rw [mxL_len] at this
 exact this
theorem rfactor14_any (r c cap:Nat) (ao:Option Addr) (S:List Nat) (w:World) (h:Mx w ao cap r c S) :
  Calls Tryz.prog 12 #[.agg #[.int .i64 r,.int .i64 c,.slice ao S.length cap]] w fun e w'=>FacAns w' (facK r c S) r c (r * r) S.length (facQ r c S) (facR r c S) e∧Below w.heap.size w w':=by
 have hl:=h.2.1
 have r6:=h.2.2.1
 have c6:=h.2.2.2
 have lR:=fun j=>(qrR_len r c S hl j).trans hl.symm
 have lX:∀ j,(qrX r c S j).length = r - j:=qrX_len r c S
 have lV:∀ j,(mrV (qrX r c S j)).length = r - j:=fun j=>by rw [mrV_len,lX]
 refine rfactor_of r c S.length (r * r) cap (qrN r c) ao (qrR r c S) (fun j=>apM r c (qrR r c S j) j j (mrV (qrX r c S j)) (mrT (qrX r c S j))) (qrX r c S) (fun j=>mrV (qrX r c S j)) (qrQ r c S (qrN r c)) (fun j=>mrT (qrX r c S j)) (fun j=>mrB (qrX r c S j)) (fun j=>finL (qrX r c S j)) (fun j=>mrK (qrX r c S j)) (finL (facQ r c S)) (finL (facR r c S)) (facK r c S) w r6 c6 (qrN_lt r c) h.1 lR lV ?_ ?_ ?_ ?_ ?_ ?_ ?_ ?_ ?_ ?_ ?_
 ·unfold facK
  rw [Bool.and_eq_true,Bool.and_eq_true,qrK_all]
 ·intro w' j po pc hj hb
  have hj2:=(qrN_lt r c j).1 hj
  have:=rcolF_any r c pc j j po (qrR r c S j) w' ⟨hb,qrR_len r c S hl j,r6,c6⟩ (by omega) (by omega)
  rw [lR j] at this
  exact this
 ·intro w' j bo d hj hb
  have:=finL_mx hb (by rw [lX];omega)
  rw [lX] at this
  exact this
 ·intro w' j bo d hj hk hb
  have hj2:=(qrN_lt r c j).1 hj
  have:=rmake13_new bo d (mxL (qrX r c S j)) w' hb (by rw [mxL_len,lX];omega) (by rw [mxL_len,lX];omega) (by rw [toN_mxL];exact hk)
  rw [toN_mxL,mxL_len,lX] at this
  exact this
 ·intro w' j bo d hj hk hb
  have hj2:=(qrN_lt r c j).1 hj
  have:=rmake13_no bo d (mxL (qrX r c S j)) w' hb (by rw [mxL_len,lX];omega) (by rw [mxL_len,lX];omega) (by rw [toN_mxL];exact hk)
  rw [mxL_len,lX] at this
  exact this
 ·intro w' j po pc vo vc hj hp hv
  have hj2:=(qrN_lt r c j).1 hj
  have:=rapply13_any r c pc j j (mrT (qrX r c S j)) po vo vc (qrR r c S j) (mrV (qrX r c S j)) w' ⟨hp,qrR_len r c S hl j,r6,c6⟩ hv (by rw [lV];omega) (by omega) (mrT_lt _)
  rw [lR j,lV] at this
  exact this
 ·intro w' j po pc hj hp
  have hj2:=(qrN_lt r c j).1 hj
  have la:(apM r c (qrR r c S j) j j (mrV (qrX r c S j)) (mrT (qrX r c S j))).length = S.length:=by rw [apM_len,hl]
  have hB:mrB (qrX r c S j) < 18446744073709551616:=mrB_lt _ (colL_lt (qrR_lt h.1.nat j) _ _ _ _)
  have:=rclear14_any r c pc j (mrB (qrX r c S j)) po _ w' ⟨hp,apM_len _ _ _ _ _ _ _,r6,c6⟩ (by omega) (by omega) hB
  rw [la] at this
  exact this
 ·intro w'
  refine (reye_any r w' r6).mono ?_
  rintro e w'' ⟨v,rfl,⟨qo,qc,rfl,_,hb⟩,hb2⟩
  exact ⟨qo,qc,by rw [show (eyM r).length = r * r from mkM_len r r _],hb,hb2⟩
 ·intro w' t j po pc vo vc ht hj hp hv
  have hj2:=(qrN_lt r c j).1 (by omega)
  have:=rapply13_any r r pc j 0 (mrT (qrX r c S j)) po vo vc (qrQ r c S (qrN r c) t) (mrV (qrX r c S j)) w' ⟨hp,qrQ_len r c S _ t,r6,r6⟩ hv (by rw [lV];omega) (by omega) (mrT_lt _)
  rw [qrQ_len,lV] at this
  refine this.mono ?_
  rintro e w'' ⟨qo,qc,rfl,hb,hb2⟩
  refine ⟨qo,qc,rfl,?_,hb2⟩
  show BitsAt w'' qo qc (mxL (apM r r (qrQ r c S (qrN r c) t) (qrN r c - 1 - t) 0 (mrV (qrX r c S (qrN r c - 1 - t))) (mrT (qrX r c S (qrN r c - 1 - t)))))
  rw [← hj]
  exact hb
 ·intro w' po pc hb
  have hs:r * r≤36:=Nat.mul_le_mul r6 r6
  have:=finL_mx hb (by rw [qrQ_len];omega)
  rw [qrQ_len] at this
  exact this
 ·intro w' po pc hb
  have hs:r * c≤36:=Nat.mul_le_mul r6 c6
  have:=finL_mx hb (by rw [qrR_len r c S hl];omega)
  rw [lR] at this
  exact this
end Go.Proofs.YtfkndkaneffgdaaGreatDoor
namespace Go.Proofs.YtfkndkaneffgdaaGreatDoor
open Go.RowKit
attribute [local go_sem ↓] Go.wp_at_zero Go.wp_at_succ
set_option maxRecDepth 20000 in
set_option maxHeartbeats 4000000 in
theorem hbelow_any (ao:Option Addr) (c:Nat) (I:List Int) (w:World) (hI:BitsAt w ao c I) (hn:I.length≤64) :
  Calls Tryz.prog 95 #[.slice ao I.length c] w fun e w'=>e = .returned (.bool (ldS (toN I)))∧Below w.heap.size w w':=by
 have HI:=hide hI
 obtain ⟨L,hL⟩:∃ L:Nat→Bool,L = fun j=>ldS ((toN I).drop j):=⟨_,rfl⟩
 have L0:ldS (toN I) = L 0:=by rw [hL];rfl
 have LE:∀ j,I.length≤j→L j = false:=fun j hj=>by
  rw [hL]
  show ldS ((toN I).drop j) = false
  rw [List.drop_eq_nil_of_le (by rw [toN_len];exact hj)]
  rfl
 have LS:∀ j,j < I.length→L j = if fK (atB I j) = 0 then L (j+1) else fS (atB I j):=fun j hj=>by
  rw [hL]
  show ldS ((toN I).drop j) = _
  rw [ldS_drop (toN I) (by rw [toN_len];exact hj),toN_getD I j hj]
 rw [L0]
 obtain ⟨v,hv⟩:∃ v,L 0 = v:=⟨_,rfl⟩
 have HE:=hide LE;have HS:=hide LS
 obtain ⟨n,hnn⟩:∃ n,I.length = n:=⟨_,rfl⟩
 rw [hnn] at hn HE HS ⊢
 rw [hv]
 have HN:=hide hnn
 have HV:=hide hv
 clear hI hL L0 LE LS hnn hv
 go_enter Tryz.func95,Tryz.ntmps95
 go_wp2_with fail
 go_loopw [7] (fun i wr=>∃ j:Nat,j≤n∧i = .int .i64 j∧Hid (L j = v)∧Hid (Below w.heap.size w wr)) (fun i _=>n - (intOf i).toNat)
 case atStart=>exact ⟨0,Nat.zero_le _,rfl,HV,Below.refl _ _⟩
 case round =>
  obtain ⟨j,hj,rfl,hL,hB⟩:=hrel
  by_cases hlt:j < n
  ·have hjI:(j:Int) < (n:Int):=by omega
   obtain ⟨b,off,hao,hb,hc⟩:=((uH HI).below hB.out).ne (by rw [uH HN];omega)
   have hck:=hide (hc j (by rw [uH HN];exact hlt))
   have C1:=hide (fun w'=>kind_any (atB I j) w' ((uH HI).lt j))
   have C2:=hide (fun w'=>ssign_any (atB I j) w' ((uH HI).lt j))
   have HJ:=hide (uH HS j hlt)
   subst hao
   clear hc
   by_cases g0:fK (atB I j) = 0
   ·have R2:=hide (show L (j+1) = v from by have:=uH HJ;rw [uH hL,if_pos g0] at this;exact this.symm)
    rw [g0] at C1
    clear HJ g0 C2
    generalize atB I j = x at *
    have hc0:=uH hck
    go_wp2_with fail
    refine (uH C1 _).mono ?_
    rintro e w2 ⟨rfl,hb2⟩
    have B2:Hid (Below w.heap.size w w2):=hB.out.trans (hb2.mono hB.out.size)
    clear C1 hb2 hck hc0 hB
    go_wp2_with fail
    go_round
    case rel=>exact ⟨j+1,by omega,by go_num,R2,B2⟩
    case measure=>simp [intOf];omega
   ·have R2:fS (atB I j) = v:=by have:=uH HJ;rw [uH hL,if_neg g0] at this;exact this.symm
    have g0':(fK (atB I j) == 0) = false:=by rw [beq_eq_false_iff_ne];exact g0
    rw [R2] at C2
    clear HJ R2
    generalize fK (atB I j) = kd at *
    generalize atB I j = x at *
    have hc0:=uH hck
    go_wp2_with fail
    refine (uH C1 _).mono ?_
    rintro e w2 ⟨rfl,hb2⟩
    have B2:Hid (Below w.heap.size w w2):=hB.out.trans (hb2.mono hB.out.size)
    clear C1 hb2 hck hc0 hB
    go_wp2_with fail
    refine (uH C2 _).mono ?_
    rintro e w3 ⟨rfl,hb2⟩
    have B3:Hid (Below w.heap.size w w3):=B2.out.trans (hb2.mono B2.out.size)
    clear C2 hb2 B2
    go_wp2_with fail
    exact bodyPost_ret (v:=.bool v) (by simp [results,Tryz.results95,go_sem]) rfl ⟨rfl,B3.out⟩
  ·have hv2:v = false:=by have:=uH HE j (by omega);rw [uH hL] at this;exact this
   subst hv2
   have hjI:(n:Int)≤(j:Int):=by omega
   go_wp2_with fail
   exact bodyPost_ret (v:=.bool false) (by simp [results,Tryz.results95,go_sem]) rfl ⟨rfl,hB.out⟩
set_option maxRecDepth 20000 in
set_option maxHeartbeats 4000000 in
theorem hbeta_of (ao:Option Addr) (n c m o:Nat) (s:Bool) (w:World) (h:(s = true∧o = m) ∨ (s = false∧o = fN m)) (hm:m < 18446744073709551616)
  (C1:Calls Tryz.prog 94 #[.slice ao n c] w fun e w''=>e = .returned (.tuple #[.int .u64 (m:Nat),.int .i64 0])∧Below w.heap.size w w'')
  (C2:∀ w',Below w.heap.size w w'→Calls Tryz.prog 95 #[.slice ao n c] w' fun e w''=>e = .returned (.bool s)∧Below w'.heap.size w' w'') :
  Calls Tryz.prog 72 #[.slice ao n c] w fun e w'=>e = .returned (.int .u64 (o:Nat))∧Below w.heap.size w w':=by
 have K1:=hide C1;have K2:=hide C2
 have K3:=hide (fun w'=>sminus_any m w' hm)
 clear C1 C2 hm
 rcases h with ⟨rfl,rfl⟩ | ⟨rfl,rfl⟩
 ·clear K3
  go_enter Tryz.func72,Tryz.ntmps72
  go_wp2_with fail
  refine Calls.mono (uH K1) ?_
  rintro e w1 ⟨rfl,hb1⟩
  have B1:=hide hb1
  clear K1 hb1
  go_wp2_with fail
  refine (uH K2 _ (uH B1)).mono ?_
  rintro e w2 ⟨rfl,hb2⟩
  have B2:=hide ((uH B1).trans (hb2.mono (uH B1).size))
  clear K2 hb2 B1
  go_wp2
  go_ret
  exact ⟨rfl,uH B2⟩
 ·generalize fN m = o at *
  go_enter Tryz.func72,Tryz.ntmps72
  go_wp2_with fail
  refine Calls.mono (uH K1) ?_
  rintro e w1 ⟨rfl,hb1⟩
  have B1:=hide hb1
  clear K1 hb1
  go_wp2_with fail
  refine (uH K2 _ (uH B1)).mono ?_
  rintro e w2 ⟨rfl,hb2⟩
  have B2:=hide ((uH B1).trans (hb2.mono (uH B1).size))
  clear K2 hb2 B1
  go_wp2_with fail
  refine (uH K3 _).mono ?_
  rintro e w3 ⟨rfl,rfl⟩
  clear K3
  go_wp2
  go_ret
  exact ⟨rfl,uH B2⟩
theorem hbeta_any (ao:Option Addr) (c:Nat) (I:List Int) (w:World) (hI:BitsAt w ao c I) (hn:I.length≤64) (hT:Tab w) :
  Calls Tryz.prog 72 #[.slice ao I.length c] w fun e w'=>e = .returned (.int .u64 ((if ldS (toN I) = true then nrV (toN I) else fN (nrV (toN I)):Nat):Nat))∧Below w.heap.size w w':=by
 have C1:=vNorm_ok ao c I w hI hn hT
 rw [nmV_nrV] at C1
 refine hbeta_of ao I.length c (nrV (toN I)) _ (ldS (toN I)) w ?_ (nrV_lt _) C1 (fun w' hb=>hbelow_any ao c I w' (hI.below hb) hn)
 cases ldS (toN I)
 ·exact .inr ⟨rfl,if_neg (by decide)⟩
 ·exact .inl ⟨rfl,if_pos rfl⟩
set_option maxRecDepth 20000 in
set_option maxHeartbeats 2000000 in
theorem hmake1_any (x:Nat) (w:World) :
  Calls Tryz.prog 71 #[.int .u64 x] w fun e w'=>e = .returned (.int .u64 (0:Nat))∧Below w.heap.size w w':=by
 go_enter Tryz.func71,Tryz.ntmps71
 go_wp2
 go_ret
 exact ⟨rfl,Below.refl _ _⟩
set_option maxRecDepth 20000 in
set_option maxHeartbeats 2000000 in
theorem hmake2_any (x d g:Nat) (w:World) (hx:x < 18446744073709551616) (hd:d < 18446744073709551616) (hg:w.cell? ⟨g,0,none⟩ = some (.int .u64 (d:Nat))) (hT:Tab w) :
  Calls Tryz.prog 74 #[.int .u64 x,.pointer (some ⟨g,0,none⟩)] w fun e w'=>e = .returned (.int .u64 (dV x d:Nat))∧Below w.heap.size w w':=by
 have K:=hide (pdiv_any x d w hx hd hT)
 generalize dV x d = o at *
 clear hx hd hT
 go_enter Tryz.func74,Tryz.ntmps74
 go_wp2_with fail
 refine Calls.mono (uH K) ?_
 rintro e w1 ⟨rfl,hb1⟩
 clear K
 go_wp2
 go_ret
 exact ⟨rfl,hb1⟩
def oaL (f:Nat→Nat) (k:Nat):List Nat:=4607182418800017408 :: fsL f k
theorem oaL_len (f:Nat→Nat) (k:Nat):(oaL f k).length = k+1:=by
 show (fsL f k).length+1 = _
 rw [fsL_len]
theorem oaL_succ (f:Nat→Nat) (k:Nat):oaL f (k+1) = oaL f k ++ [f k]:=by
 show 4607182418800017408 :: fsL f (k+1) = (4607182418800017408 :: fsL f k) ++ [f k]
 rw [fsL_succ]
 rfl
set_option maxRecDepth 20000 in
set_option maxHeartbeats 4000000 in
theorem oneAnd_any (fn:Nat) (caps:Array Value) (ao:Option Addr) (c:Nat) (J:List Int) (f:Nat→Nat) (w:World)
  (hcf:∀ args w,(callFunc fn args).run Tryz.prog w = .ok (.enter fn args) w) (hJ:BitsAt w ao c J) (hn:J.length≤64) (hf:∀ k,k < J.length→f k < 18446744073709551616)
  (hstep:∀ w' k,Below w.heap.size w w'→k < J.length→Calls Tryz.prog fn (#[.int .u64 (atB J k:Nat)] ++ caps) w' fun e w''=>e = .returned (.int .u64 (f k:Nat))∧Below w'.heap.size w' w'') :
  Calls Tryz.prog 70 #[.slice ao J.length c,.func (.func fn) #[] caps] w fun e w'=>∃ bo d,e = .returned (.slice bo (J.length+1:Nat) d)∧NewB w.heap.size bo (mxL (oaL f J.length))∧BitsAt w' bo d (mxL (oaL f J.length))∧Below w.heap.size w w':=by
 obtain ⟨i0,hi0,hz0,hz1,hz2⟩:=info_parts infoBits
 have HS:=hide hstep;have HF:=hide hf;have HJ:=hide hJ
 obtain ⟨n,hnn⟩:∃ n,J.length = n:=⟨_,rfl⟩
 rw [hnn] at hn HS HF ⊢
 have HN:=hide hnn
 obtain ⟨m,hm⟩:∃ m,n+1 = m:=⟨_,rfl⟩
 have hmI:(1:Int)+(n:Int) = (m:Int):=by omega
 obtain ⟨w1,hmk,own1,gr1⟩:=run_make_own (P:=Tryz.prog) w w.heap.size 22 30 i0 (.int .u64 0) 1 Tryz.underlying22 hi0 hz0 hz1 .i64 .i64 m (by rw [hz2];omega) (by unfold maxLen;omega) (by simp)
 have B1:Below w.heap.size w w1:=(Below.refl w.heap.size w).grown gr1 (by simp) (fun g hg=>by cases hg)
 have O1:OwnB w.heap.size w1 (.slice (some ⟨w.heap.size,0,none⟩) 0 m) []:=⟨by simpa using own1,by intro x hx;cases hx⟩
 generalize Value.slice (some ⟨w.heap.size,0,none⟩) 0 m = v1 at hmk O1
 obtain ⟨v2,w2,run2,own2,bel2,_,_⟩:=O1.push 4607182418800017408 (by decide) (by simp) B1.size 22
 have RUN:=hide (show (Builtin.append_ #[22,22] 22 #[v1,.slice (some ⟨w1.heap.size,0,none⟩) 1 1]).run Tryz.prog (w1.alloc (.cells #[.int .u64 4607182418800017408] 30)) = .ok v2 w2 from run2)
 have O2:=hide (show OwnB w.heap.size w2 v2 (oaL f 0) from own2)
 have B2:=hide (B1.trans bel2)
 clear own1 gr1 O1 B1 run2 own2 bel2 hstep hf hJ hnn
 go_enter Tryz.func70,Tryz.ntmps70
 go_wp2_with (at_builtin;refine wpList_append_ran _ rfl _ _ 22 rfl _ _ _ _ rfl rfl (uH RUN) ?_;clear RUN)
 clear hmk
 go_loopw [5,17] (fun v i wr=>∃ k:Nat,k≤n∧i = .int .i64 k∧Hid (OwnB w.heap.size wr v (oaL f k))∧Hid (Below w.heap.size w wr)) (fun _ i _=>n - (intOf i).toNat)
 case atStart=>exact ⟨0,Nat.zero_le _,rfl,O2,B2⟩
 case round =>
  clear O2 B2
  obtain ⟨k,hk,rfl,hO,hB⟩:=hrel
  by_cases hlt:k < n
  ·have hkI:(k:Int) < (n:Int):=by omega
   obtain ⟨b,off,hao,hb,hc⟩:=((uH HJ).below hB.out).ne (by rw [uH HN];omega)
   have hck:=hc k (by rw [uH HN];exact hlt)
   have C:=hide (fun w' h=>uH HS w' k h hlt)
   have ho:=hide (uH HF k hlt)
   have eo:=hide (show f k = f k from rfl)
   have hlen:=hide (show (oaL f k).length≤1000000 from by rw [oaL_len];omega)
   subst hao
   clear hc
   obtain ⟨o,eo⟩:∃ o,f k = o:=⟨_,rfl⟩
   rw [eo] at C ho
   have eV:=hide eo
   clear eo
   generalize atB J k = x at *
   go_wp2_with fail
   refine (uH C _ hB.out).mono ?_
   rintro e w2 ⟨rfl,hb2⟩
   have own2:=(uH hO).below hb2
   have B2:=hB.out.trans (hb2.mono hB.out.size)
   obtain ⟨v3,w3,run3,own3,bel3,_,_⟩:=own2.push o (uH ho) (uH hlen) B2.size 22
   have RUN:=hide run3
   have O3:=hide (show OwnB w.heap.size w3 v3 (oaL f (k+1)) from by
    rw [oaL_succ,uH eV];exact own3)
   have B3:=hide (B2.trans bel3)
   clear hb2 C hO hB own2 B2 run3 own3 bel3 ho eV hlen hck
   go_wp2_with (at_builtin;refine wpList_append_ran _ rfl _ _ 22 rfl _ _ _ _ rfl rfl (uH RUN) ?_;clear RUN)
   go_round
   case rel=>exact ⟨k+1,by omega,by go_num,O3,B3⟩
   case measure=>simp [intOf];omega
  ·have hkk:k = n:=by omega
   subst hkk
   obtain ⟨b1,d1,e1,q1⟩:=(uH hO).bits
   rw [oaL_len,hm] at e1
   subst e1
   have HNew:=hide (uH hO).newB
   have Q1:=hide q1
   clear q1 hO
   go_wp2_with fail
   exact bodyPost_ret (v:=.slice b1 m d1) (by simp [results,Tryz.results70,go_sem]) rfl ⟨b1,d1,by rw [hm],uH HNew,uH Q1,hB.out⟩
end Go.Proofs.YtfkndkaneffgdaaGreatDoor
