/- Part 19 of the texts. -/
import Derived.Test.YtcbcmlaogehimaaGreatDoorPartp18
set_option maxHeartbeats 8000000
set_option maxRecDepth 20000
namespace Go.Proofs.YtcbcmlaogehimaaGreatDoor
open Go.RowKit
theorem ql(x y S:Nat)(Q R:Nat→Nat)(w:World)(hy:y<9007199254740992)(U:Q 0=0∧R 0=x)
  (X:∀i,Q (i+1)=2*Q i+(if y≤R i then 1 else 0)∧R (i+1)=2*(R i-(if y≤R i then y else 0)))
  (D:∀i,R i<2*y) (F:∀i,i<55→Q i<18014398509481984) (h5:Q 55<36028797018963968) (Y:S=2*Q 55+(if 0<R 55 then 1 else 0)):
  Calls Tryz.prog 284 #[.int .i64 x,.int .i64 y] w fun r w'=>r=.returned (.int .i64 (S:Nat))∧w=w':=by
 have h:=ac U;have G:=ac X;have u:=ac D;have H:=ac F;have d:=ac Y
 clear U X D F Y
 go_enter Tryz.func284,Tryz.ntmps284
 go_wp2
 go_loop [0,5,6] (fun p q i=>∃k:Nat,k≤55∧i=.int .i64 k∧p=.int .i64 (R k:Nat)∧q=.int .i64 (Q k:Nat)) (fun _ _ i=>55-(intOf i).toNat)
 case atStart=>exact⟨0,by omega,rfl,by rw[(uH h).2],by rw[(uH h).1];rfl⟩
 case round=>
  obtain⟨k,hk,rfl,rfl,rfl⟩:=hrel
  by_cases I:k<55
  ·have s1:=uH G k
   have r1:=uH u k
   have q3:=uH H k I
   obtain⟨Z,s3⟩:=s1
   have z:=ac Z;have A:=ac s3
   clear Z s3 h G u H d
   generalize D:R k=r at*
   generalize F:Q k=q at*
   by_cases c:y≤r
   ·have J:(r:Int)≥(y:Int):=by omega
    have K:=ac (show Q (k+1)=2*q+1 by rw[uH z,if_pos c])
    have L:=ac (show R (k+1)=2*(r-y) by rw[uH A,if_pos c])
    clear z A
    go_wp2
    go_round
    case rel=>exact⟨k+1,by omega,by go_num,cL (by rw[uH L];omega),cL (by rw[uH K];omega)⟩
    case measure=>simp[intOf];omega
   ·have J:¬(r:Int)≥(y:Int):=by omega
    have K:=ac (show Q (k+1)=2*q by rw[uH z,if_neg c];rfl)
    have L:=ac (show R (k+1)=2*r by rw[uH A,if_neg c];rfl)
    clear z A
    go_wp2
    go_round
    case rel=>exact⟨k+1,by omega,by go_num,cL (by rw[uH L];omega),cL (by rw[uH K];omega)⟩
    case measure=>simp[intOf];omega
  ·have O:k=55:=by omega
   subst O
   have r1:=uH u 55
   clear h G u H
   generalize R 55=r at*
   generalize Q 55=q at*
   by_cases c:0<r
   ·have M:=ac (show S=2*q+1 by rw[uH d,if_pos c])
    have J:(r:Int)>0:=by omega
    clear d
    go_wp2
    go_ret
    exact⟨aW (by rw[uH M];omega),rfl⟩
   ·have M:=ac (show S=2*q by rw[uH d,if_neg c];rfl)
    have J:¬(r:Int)>0:=by omega
    clear d
    go_wp2
    go_ret
    exact⟨aW (by rw[uH M];omega),rfl⟩
theorem Mp(x y i:Nat)(h:x<2*y)(z:i<55):lQ x y i<18014398509481984:=by
 have u:=Df x y i h
 have d:(2:Nat)^i≤2^54:=Nat.pow_le_pow_right (by decide) (by omega)
 rw[show(2:Nat)^54=18014398509481984 by decide]at d
 exact Nat.lt_of_lt_of_le u d
theorem Mq(x y:Nat)(d:x<2*y):lQ x y 55<36028797018963968:=by
 have h:=Df x y 55 d
 rwa[show(2:Nat)^55=36028797018963968 by decide]at h
theorem rY(x y:Nat)(w:World)(h:y<9007199254740992)(d:x<2*y):
  Calls Tryz.prog 284 #[.int .i64 x,.int .i64 y] w fun r u=>r=.returned (.int .i64 (cJ (x*2^54) y:Nat))∧w=u:=
 ql x y _ (lQ x y) (lR x y) w h (JZ x y d) (fun i=>J0 x y i (by omega)) (fun i=>Mg x y i (by omega)) (fun i z=>Mp x y i d z) (Mq x y d) (I6 x y)
theorem uG(b:Nat)(z1 X1 z2 ln tp:Int)(w:World)(am:1≤ln∧ln≤53)
  (C1:∀D,Below w.heap.size w D→Calls Tryz.prog 168 #[.int .u64 b] D fun r O=>nF O r 0 z1 X1∧Below D.heap.size D O)
  (C2:∀D n a l c,aC D (.agg #[.bool n,.slice a l c,.int .i64 X1]) z1 X1→Calls Tryz.prog 208 #[.agg #[.bool false,.slice a l c]] D fun r O=>r=.returned (.int .i64 ln)∧Below D.heap.size D O)
  (C3:∀D n a l c,aC D (.agg #[.bool n,.slice a l c,.int .i64 X1]) z1 X1→Calls Tryz.prog 238 #[.agg #[.bool false,.slice a l c],.int .i64 (53-ln)] D fun r O=>∃v,r=.returned (.tuple #[v,.int .i64 0])∧au D.heap.size O v z2∧Below D.heap.size D O)
  (C4:∀B D v,au B D v z2→Calls Tryz.prog 290 #[v] D fun r O=>r=.returned (.tuple #[.int .i64 z2,.int .i64 0])∧Below D.heap.size D O)
  (C5:∀D n a l c,aC D (.agg #[.bool n,.slice a l c,.int .i64 X1]) z1 X1→Calls Tryz.prog 169 #[.agg #[.bool false,.slice a l c,.int .i64 X1]] D fun r O=>r=.returned (.int .i64 tp)∧Below D.heap.size D O):
  Calls Tryz.prog 283 #[.int .u64 b] w fun r D=>r=.returned (.tuple #[.int .i64 z2,.int .i64 tp])∧Below w.heap.size w D:=by
 have K1:=ac C1;have K2:=ac C2;have K3:=ac C3;have K4:=ac C4;have K5:=ac C5
 clear C1 C2 C3 C4 C5
 go_enter Tryz.func283,Tryz.ntmps283
 go_wp2_with fail
 refine(uH K1 _ (Below.refl _ _)).mono ?_
 rintro e w1 ⟨⟨v,rfl,hv⟩,d⟩
 obtain⟨n1,a1,c1,L1,rfl,i1⟩:=hv
 have x:=al.new w1 (.bool n1) (.slice a1 L1.length c1) (.int .i64 X1)
 have y0:=x.c0;have y1:=x.c1;have y2:=x.c2;have f0:=x.free 0;have f1:=x.free 1;have f2:=x.free 2
 clear x
 generalize hl:L1.length=l1 at*
 have hd:aC w1 (.agg #[.bool n1,.slice a1 l1 c1,.int .i64 X1]) z1 X1:=⟨n1,a1,c1,L1,by rw[hl],by rw[hl];exact i1⟩
 clear i1 hl K1
 go_wp2_with fail
 clear y0 y1 y2 f0 f1 f2
 have aa:Below w1.heap.size w1 (w1.alloc (.cells #[.bool false,.slice a1 l1 c1,.int .i64 X1] 35)):=(Below.refl _ _).alloc (Nat.le_refl _) _
 have x:=al.new w1 (.bool false) (.slice a1 l1 c1) (.int .i64 X1)
 have HV:=ac (hd.below aa)
 have B1:=ac (d.trans (aa.mono d.size))
 clear hd d aa
 refine ap (fun W=>W=(w1.alloc (.cells #[.bool false,.slice a1 l1 c1,.int .i64 X1] 35))) rfl ?_
 rintro A e0
 rw[←e0]at x HV B1
 clear e0
 generalize w1.heap.size=g at*
 have F:∀D,Below A.heap.size A D→Below A.heap.size A D∧D.cell? ⟨g,0,none⟩=some (.bool false)∧D.cell? ⟨g,1,none⟩=some (.slice a1 l1 c1):=fun D h=>
  ⟨h,(x.all h).c0,(x.all h).c1⟩
 have HK:=ac F
 have XB:=ac x
 clear F x
 refine wp_region_held_drew (S:=(fun D=>Below A.heap.size A D∧D.cell? ⟨g,0,none⟩=some (.bool false)∧D.cell? ⟨g,1,none⟩=some (.slice a1 l1 c1))) (by kernel_rfl) ?_ (fun z=>?_)
 ·exact uH HK _ (Below.refl _ _).drew
 refine wpAnyH_take (i:=0) (oi:={dst:=some 16,op:=Op.fieldAddr 35 (Operand.tmp 4) 0,type:=0,pos:= "quotient.go:30",after:=#[],guard:=none}) (v:=Value.pointer (some ⟨g,0,none⟩)) rfl (by kernel_rfl) (by kernel_rfl) (by kernel_rfl) (fun _ _ _ h=>h) (Or.inl ⟨by rfl,?_⟩) (by assumption) ?_
 ·(intro w u;(try dsimp only at u);go_simp)
 simp only[Act.put,List.setIfInBounds_toArray,List.set_cons_zero,List.set_cons_succ]
 refine wpAnyH_take (i:=1) (oi:={dst:=some 17,op:=Op.load 33 (Operand.tmp 16),type:=33,pos:= "quotient.go:30",after:=#[{on:=0,ground:=Ground.data}],guard:=none}) (v:=(Value.agg #[.bool false,.slice a1 l1 c1])) rfl (by kernel_rfl) (by kernel_rfl) (by kernel_rfl) (fun _ _ _ h=>h) (Or.inl ⟨by rfl,?_⟩) (by assumption) ?_
 ·(intro w u;(try dsimp only at u);go_simp)
 simp only[Act.put,List.setIfInBounds_toArray,List.set_cons_zero,List.set_cons_succ]
 refine wpAnyH_take (i:=2) (oi:={dst:=some 18,op:=Op.fieldAddr 35 (Operand.tmp 4) 0,type:=0,pos:= "quotient.go:30",after:=#[],guard:=none}) (v:=Value.pointer (some ⟨g,0,none⟩)) rfl (by kernel_rfl) (by kernel_rfl) (by kernel_rfl) (fun _ _ _ h=>h) (Or.inl ⟨by rfl,?_⟩) (by assumption) ?_
 ·(intro w u;(try dsimp only at u);go_simp)
 simp only[Act.put,List.setIfInBounds_toArray,List.set_cons_zero,List.set_cons_succ]
 refine wpAnyH_take (i:=3) (oi:={dst:=some 19,op:=Op.load 33 (Operand.tmp 18),type:=33,pos:= "quotient.go:30",after:=#[{on:=2,ground:=Ground.data}],guard:=none}) (v:=(Value.agg #[.bool false,.slice a1 l1 c1])) rfl (by kernel_rfl) (by kernel_rfl) (by kernel_rfl) (fun _ _ _ h=>h) (Or.inl ⟨by rfl,?_⟩) (by assumption) ?_
 ·(intro w u;(try dsimp only at u);go_simp)
 simp only[Act.put,List.setIfInBounds_toArray,List.set_cons_zero,List.set_cons_succ]
 refine wpAnyH_ready (rs:=[4,10]) (by kernel_rfl) (by simp) ?_
 refine AllReadyH.cons (o:={dst:=some 20,op:=Op.call {callee:=Callee.value (Operand.func 208),args:=#[Operand.tmp 19],argTypes:=#[33]},type:=3,pos:= "quotient.go:30",after:=#[{on:=3,ground:=Ground.data}],guard:=none}) rfl (fun K F=>?_) (AllReadyH.cons (o:={dst:=some 6,op:=Op.alloc 33,type:=0,pos:= "quotient.go:30",after:=#[],guard:=none}) rfl (fun K F=>?_) AllReadyH.nil)
 ·go_simp
  refine(uH K2 _ _ _ _ _ ((uH HV).below (And.left (by assumption)))).mono ?_
  rintro e wn ⟨rfl,d⟩
  have ae:Below A.heap.size A wn:=Below.trans (And.left (by assumption)) (d.mono (Below.size (And.left (by assumption))))
  clear d
  go_wp2_with fail
  refine F.out _ _ ?_ (fun z=>?_)
  ·exact uH HK _ ae
  clear F K
  refine wpAnyH_take (i:=5) (oi:={dst:=some 21,op:=Op.binOp BinOp.sub 3 (Operand.const (Value.int IntKind.i64 53)) (Operand.tmp 20) 3,type:=3,pos:= "quotient.go:30",after:=#[{on:=4,ground:=Ground.data}],guard:=none}) (v:=(.int .i64 (53-ln))) rfl (by kernel_rfl) (by kernel_rfl) (by kernel_rfl) (fun _ _ _ h=>h) (Or.inl ⟨by rfl,?_⟩) (by assumption) ?_
  ·(intro w u;(try dsimp only at u);go_simp;exact a8 _ (by omega))
  simp only[Act.put,List.setIfInBounds_toArray,List.set_cons_zero,List.set_cons_succ]
  refine wpAnyH_ready (rs:=[6,10]) (by kernel_rfl) (by simp) ?_
  refine AllReadyH.cons (o:={dst:=some 22,op:=Op.call {callee:=Callee.value (Operand.func 238),args:=#[Operand.tmp 17,Operand.tmp 21],argTypes:=#[33,3]},type:=206,pos:= "quotient.go:30",after:=#[{on:=1,ground:=Ground.data},{on:=5,ground:=Ground.data},{on:=4,ground:=Ground.chain}],guard:=none}) rfl (fun K F=>?_) (AllReadyH.cons (o:={dst:=some 6,op:=Op.alloc 33,type:=0,pos:= "quotient.go:30",after:=#[],guard:=none}) rfl (fun K F=>?_) AllReadyH.nil)
  ·go_simp
   refine(uH K3 _ _ _ _ _ ((uH HV).below (And.left (by assumption)))).mono ?_
   rintro e Q ⟨v,rfl,⟨G,H,I,L2,rfl,i2⟩,d⟩
   have U:Below A.heap.size A Q:=Below.trans (And.left (by assumption)) (d.mono (Below.size (And.left (by assumption))))
   have I2:=ac (show au 0 Q (.agg #[.bool G,.slice H L2.length I]) z2 from au.mono ⟨G,H,I,L2,rfl,i2⟩ (Nat.zero_le _))
   clear i2
   generalize L2.length=L at*
   clear d
   go_wp2_with fail
   refine F.out _ _ ?_ (fun z=>?_)
   ·exact uH HK _ U
   clear F K
   refine wpAnyH_take (i:=7) (oi:={dst:=some 15,op:=Op.move (Operand.tmp 22),type:=206,pos:= "quotient.go:30",after:=#[{on:=6,ground:=Ground.data}],guard:=none}) (v:=(Value.tuple #[.agg #[.bool G,.slice H L I],.int .i64 0])) rfl (by kernel_rfl) (by kernel_rfl) (by kernel_rfl) (fun _ _ _ h=>h) (Or.inl ⟨by rfl,?_⟩) (by assumption) ?_
   ·(intro w u;(try dsimp only at u);go_simp)
   simp only[Act.put,List.setIfInBounds_toArray,List.set_cons_zero,List.set_cons_succ]
   refine wpAnyH_take (i:=8) (oi:={dst:=some 23,op:=Op.extract (Operand.tmp 15) 0,type:=33,pos:= "quotient.go:30",after:=#[{on:=7,ground:=Ground.data}],guard:=none}) (v:=(Value.agg #[.bool G,.slice H L I])) rfl (by kernel_rfl) (by kernel_rfl) (by kernel_rfl) (fun _ _ _ h=>h) (Or.inl ⟨by rfl,?_⟩) (by assumption) ?_
   ·(intro w u;(try dsimp only at u);go_simp)
   simp only[Act.put,List.setIfInBounds_toArray,List.set_cons_zero,List.set_cons_succ]
   refine wpAnyH_take (i:=9) (oi:={dst:=some 24,op:=Op.extract (Operand.tmp 15) 1,type:=27,pos:= "quotient.go:30",after:=#[{on:=7,ground:=Ground.data},{on:=11,ground:=Ground.gcOnly Departure.lateStores}],guard:=none}) (v:=(.int .i64 0)) rfl (by kernel_rfl) (by kernel_rfl) (by kernel_rfl) (fun _ _ _ h=>h) (Or.inl ⟨by rfl,?_⟩) (by assumption) ?_
   ·(intro w u;(try dsimp only at u);go_simp)
   simp only[Act.put,List.setIfInBounds_toArray,List.set_cons_zero,List.set_cons_succ]
   refine wpAnyH_ready (rs:=[10]) (by kernel_rfl) (by simp) ?_
   refine AllReadyH.cons (o:={dst:=some 6,op:=Op.alloc 33,type:=0,pos:= "quotient.go:30",after:=#[],guard:=none}) rfl (fun K F=>?_) AllReadyH.nil
   go_wp2_with fail
   refine F.out _ _ ?_ (fun z=>?_)
   ·exact uH HK _ (Below.alloc (And.left (by assumption)) (Below.size (And.left (by assumption))) _)
   clear F K
   have J:=aB.new Q (.bool false) (.slice none 0 0)
   have Y:A.heap.size≤Q.heap.size:=Below.size (B:=A.heap.size) (w:=A) U
   have I0:=I2
   have I2:=ac (show au 0 (Q.alloc (.cells #[.bool false,.slice none 0 0] 33)) (.agg #[.bool G,.slice H L I]) z2 from(uH I2).below ((Below.refl _ _).alloc (Nat.le_refl _) _))
   have hW:=Below.alloc U Y (.cells #[.bool false,.slice none 0 0] 33)
   have IS:=ac (show au 0 ((((Q.alloc (.cells #[.bool false,.slice none 0 0] 33)).setCell ⟨Q.heap.size,0,none⟩ (.bool G)).setCell ⟨Q.heap.size,1,none⟩ (.slice H L I))) (.agg #[.bool G,.slice H L I]) z2 from(uH I0).below ((((Below.refl _ _).alloc (Nat.le_refl _) _).setCell (Nat.le_refl _) _).setCell (Nat.le_refl _) _))
   generalize ah:(Q.alloc (.cells #[.bool false,.slice none 0 0] 33))=wa at*
   generalize Q.heap.size=Z at*
   refine wpAnyH_ready (rs:=[11]) (by kernel_rfl) (by simp) ?_
   refine AllReadyH.cons (o:={dst:=none,op:=Op.store 33 (Operand.tmp 6) (Operand.tmp 23),type:=0,pos:= "quotient.go:30",after:=#[{on:=10,ground:=Ground.data},{on:=8,ground:=Ground.data},{on:=6,ground:=Ground.chain},{on:=0,ground:=Ground.phase},{on:=1,ground:=Ground.phase},{on:=2,ground:=Ground.phase},{on:=3,ground:=Ground.phase},{on:=4,ground:=Ground.phase},{on:=5,ground:=Ground.phase},{on:=6,ground:=Ground.phase},{on:=7,ground:=Ground.phase},{on:=8,ground:=Ground.phase},{on:=9,ground:=Ground.textOnly Departure.lateStores},{on:=10,ground:=Ground.phase}],guard:=none}) rfl (fun K F=>?_) AllReadyH.nil
   have q0:=J.c0;have q1:=J.c1;have f0:=J.free 0;have f1:=J.free 1
   go_wp2_with fail
   refine F.out _ _ ?_ (fun z=>?_)
   ·exact uH HK _ (Below.setCell (Below.setCell (And.left (by assumption)) Y _) Y _)
   clear F K q0 q1 f0 f1
   refine wpAnyH_take (i:=12) (oi:={dst:=some 7,op:=Op.assign (Operand.tmp 24),type:=27,pos:= "quotient.go:30",after:=#[{on:=9,ground:=Ground.data},{on:=11,ground:=Ground.chain},{on:=0,ground:=Ground.phase},{on:=1,ground:=Ground.phase},{on:=2,ground:=Ground.phase},{on:=3,ground:=Ground.phase},{on:=4,ground:=Ground.phase},{on:=5,ground:=Ground.phase},{on:=6,ground:=Ground.phase},{on:=7,ground:=Ground.phase},{on:=8,ground:=Ground.phase},{on:=9,ground:=Ground.phase},{on:=10,ground:=Ground.phase},{on:=11,ground:=Ground.phase}],guard:=none}) (v:=(.int .i64 0)) rfl (by kernel_rfl) (by kernel_rfl) (by kernel_rfl) (fun _ _ _ h=>h) (Or.inl ⟨by rfl,?_⟩) (by assumption) ?_
   ·(intro w u;(try dsimp only at u);go_simp)
   simp only[Act.put,List.setIfInBounds_toArray,List.set_cons_zero,List.set_cons_succ]
   refine wpAnyH_done (by kernel_rfl) ?_ _
   have bz:=J.put (.bool G) (.slice H L I)
   have HZ:=ac (show au 0 ((wa.setCell ⟨Z,0,none⟩ (.bool G)).setCell ⟨Z,1,none⟩ (.slice H L I)) (.agg #[.bool G,.slice H L I]) z2 from uH IS)
   have BZ:=ac (show Below A.heap.size A ((wa.setCell ⟨Z,0,none⟩ (.bool G)).setCell ⟨Z,1,none⟩ (.slice H L I))from Below.setCell (Below.setCell hW Y _) Y _)
   have r0:=bz.c0;have r1:=bz.c1
   clear J I2 z
   generalize ((wa.setCell ⟨Z,0,none⟩ (.bool G)).setCell ⟨Z,1,none⟩ (.slice H L I))=WE at*
   go_wp2_with fail
   refine(uH K4 _ _ _ (uH HZ)).mono ?_
   rintro e we ⟨rfl,d⟩
   have X:=ac ((uH BZ).trans (d.mono (uH BZ).size))
   have HW:=ac ((uH HV).below (uH X))
   have xe:=(uH XB).all (uH X)
   have y0:=xe.c0;have y1:=xe.c1;have y2:=xe.c2
   clear r0 r1 bz d BZ HZ xe
   go_wp2_with fail
   refine(uH K5 _ _ _ _ _ (uH HW)).mono ?_
   rintro e wf ⟨rfl,d⟩
   have BF:=ac ((uH B1).trans (((uH X).trans (d.mono (uH X).size)).mono (uH B1).size))
   clear d X HW y0 y1 y2
   go_wp2
   exact bodyPost_ret (v:=.tuple #[.int .i64 z2,.int .i64 tp]) (by simp[results,Tryz.results283,go_sem]) rfl ⟨rfl,uH BF⟩
  ·go_wp2_with fail
   refine F.out _ _ ?_ (fun z=>?_)
   ·exact uH HK _ (Below.alloc (And.left (by assumption)) (Below.size (And.left (by assumption))) _)
   clear F K
   have J:=aB.new wn (.bool false) (.slice none 0 0)
   have Y:A.heap.size≤wn.heap.size:=Below.size (B:=A.heap.size) (w:=A) ae
   have hW:=Below.alloc ae Y (.cells #[.bool false,.slice none 0 0] 33)
   generalize ah:(wn.alloc (.cells #[.bool false,.slice none 0 0] 33))=wa at*
   generalize wn.heap.size=Z at*
   refine wpAnyH_ready (rs:=[6]) (by kernel_rfl) (by simp) ?_
   refine AllReadyH.cons (o:={dst:=some 22,op:=Op.call {callee:=Callee.value (Operand.func 238),args:=#[Operand.tmp 17,Operand.tmp 21],argTypes:=#[33,3]},type:=206,pos:= "quotient.go:30",after:=#[{on:=1,ground:=Ground.data},{on:=5,ground:=Ground.data},{on:=4,ground:=Ground.chain}],guard:=none}) rfl (fun K F=>?_) AllReadyH.nil
   go_simp
   refine(uH K3 _ _ _ _ _ ((uH HV).below (And.left (by assumption)))).mono ?_
   rintro e Q ⟨v,rfl,⟨G,H,I,L2,rfl,i2⟩,d⟩
   have U:Below A.heap.size A Q:=Below.trans (And.left (by assumption)) (d.mono (Below.size (And.left (by assumption))))
   have I2:=ac (show au (Z+1) Q (.agg #[.bool G,.slice H L2.length I]) z2 from au.mono ⟨G,H,I,L2,rfl,i2⟩ (Nat.succ_le_of_lt J.lt))
   have J:=J.all d
   clear i2
   generalize L2.length=L at*
   clear d
   go_wp2_with fail
   refine F.out _ _ ?_ (fun z=>?_)
   ·exact uH HK _ U
   clear F K
   refine wpAnyH_take (i:=7) (oi:={dst:=some 15,op:=Op.move (Operand.tmp 22),type:=206,pos:= "quotient.go:30",after:=#[{on:=6,ground:=Ground.data}],guard:=none}) (v:=(Value.tuple #[.agg #[.bool G,.slice H L I],.int .i64 0])) rfl (by kernel_rfl) (by kernel_rfl) (by kernel_rfl) (fun _ _ _ h=>h) (Or.inl ⟨by rfl,?_⟩) (by assumption) ?_
   ·(intro w u;(try dsimp only at u);go_simp)
   simp only[Act.put,List.setIfInBounds_toArray,List.set_cons_zero,List.set_cons_succ]
   refine wpAnyH_take (i:=8) (oi:={dst:=some 23,op:=Op.extract (Operand.tmp 15) 0,type:=33,pos:= "quotient.go:30",after:=#[{on:=7,ground:=Ground.data}],guard:=none}) (v:=(Value.agg #[.bool G,.slice H L I])) rfl (by kernel_rfl) (by kernel_rfl) (by kernel_rfl) (fun _ _ _ h=>h) (Or.inl ⟨by rfl,?_⟩) (by assumption) ?_
   ·(intro w u;(try dsimp only at u);go_simp)
   simp only[Act.put,List.setIfInBounds_toArray,List.set_cons_zero,List.set_cons_succ]
   refine wpAnyH_take (i:=9) (oi:={dst:=some 24,op:=Op.extract (Operand.tmp 15) 1,type:=27,pos:= "quotient.go:30",after:=#[{on:=7,ground:=Ground.data},{on:=11,ground:=Ground.gcOnly Departure.lateStores}],guard:=none}) (v:=(.int .i64 0)) rfl (by kernel_rfl) (by kernel_rfl) (by kernel_rfl) (fun _ _ _ h=>h) (Or.inl ⟨by rfl,?_⟩) (by assumption) ?_
   ·(intro w u;(try dsimp only at u);go_simp)
   simp only[Act.put,List.setIfInBounds_toArray,List.set_cons_zero,List.set_cons_succ]
   refine wpAnyH_ready (rs:=[11]) (by kernel_rfl) (by simp) ?_
   refine AllReadyH.cons (o:={dst:=none,op:=Op.store 33 (Operand.tmp 6) (Operand.tmp 23),type:=0,pos:= "quotient.go:30",after:=#[{on:=10,ground:=Ground.data},{on:=8,ground:=Ground.data},{on:=6,ground:=Ground.chain},{on:=0,ground:=Ground.phase},{on:=1,ground:=Ground.phase},{on:=2,ground:=Ground.phase},{on:=3,ground:=Ground.phase},{on:=4,ground:=Ground.phase},{on:=5,ground:=Ground.phase},{on:=6,ground:=Ground.phase},{on:=7,ground:=Ground.phase},{on:=8,ground:=Ground.phase},{on:=9,ground:=Ground.textOnly Departure.lateStores},{on:=10,ground:=Ground.phase}],guard:=none}) rfl (fun K F=>?_) AllReadyH.nil
   have q0:=J.c0;have q1:=J.c1;have f0:=J.free 0;have f1:=J.free 1
   go_wp2_with fail
   refine F.out _ _ ?_ (fun z=>?_)
   ·exact uH HK _ (Below.setCell (Below.setCell (And.left (by assumption)) Y _) Y _)
   clear F K q0 q1 f0 f1
   refine wpAnyH_take (i:=12) (oi:={dst:=some 7,op:=Op.assign (Operand.tmp 24),type:=27,pos:= "quotient.go:30",after:=#[{on:=9,ground:=Ground.data},{on:=11,ground:=Ground.chain},{on:=0,ground:=Ground.phase},{on:=1,ground:=Ground.phase},{on:=2,ground:=Ground.phase},{on:=3,ground:=Ground.phase},{on:=4,ground:=Ground.phase},{on:=5,ground:=Ground.phase},{on:=6,ground:=Ground.phase},{on:=7,ground:=Ground.phase},{on:=8,ground:=Ground.phase},{on:=9,ground:=Ground.phase},{on:=10,ground:=Ground.phase},{on:=11,ground:=Ground.phase}],guard:=none}) (v:=(.int .i64 0)) rfl (by kernel_rfl) (by kernel_rfl) (by kernel_rfl) (fun _ _ _ h=>h) (Or.inl ⟨by rfl,?_⟩) (by assumption) ?_
   ·(intro w u;(try dsimp only at u);go_simp)
   simp only[Act.put,List.setIfInBounds_toArray,List.set_cons_zero,List.set_cons_succ]
   refine wpAnyH_done (by kernel_rfl) ?_ _
   have bz:=J.put (.bool G) (.slice H L I)
   have HZ:=ac (show au 0 ((Q.setCell ⟨Z,0,none⟩ (.bool G)).setCell ⟨Z,1,none⟩ (.slice H L I)) (.agg #[.bool G,.slice H L I]) z2 from((uH I2).put2 (p:=⟨Z,0,none⟩) (q:=⟨Z,1,none⟩) (by simp) (by simp) (.bool G) (.slice H L I)).mono (Nat.zero_le _))
   have BZ:=ac (show Below A.heap.size A ((Q.setCell ⟨Z,0,none⟩ (.bool G)).setCell ⟨Z,1,none⟩ (.slice H L I))from Below.setCell (Below.setCell U Y _) Y _)
   have r0:=bz.c0;have r1:=bz.c1
   clear J I2 z
   generalize ((Q.setCell ⟨Z,0,none⟩ (.bool G)).setCell ⟨Z,1,none⟩ (.slice H L I))=WE at*
   go_wp2_with fail
   refine(uH K4 _ _ _ (uH HZ)).mono ?_
   rintro e we ⟨rfl,d⟩
   have X:=ac ((uH BZ).trans (d.mono (uH BZ).size))
   have HW:=ac ((uH HV).below (uH X))
   have xe:=(uH XB).all (uH X)
   have y0:=xe.c0;have y1:=xe.c1;have y2:=xe.c2
   clear r0 r1 bz d BZ HZ xe
   go_wp2_with fail
   refine(uH K5 _ _ _ _ _ (uH HW)).mono ?_
   rintro e wf ⟨rfl,d⟩
   have BF:=ac ((uH B1).trans (((uH X).trans (d.mono (uH X).size)).mono (uH B1).size))
   clear d X HW y0 y1 y2
   go_wp2
   exact bodyPost_ret (v:=.tuple #[.int .i64 z2,.int .i64 tp]) (by simp[results,Tryz.results283,go_sem]) rfl ⟨rfl,uH BF⟩
 ·go_wp2_with fail
  refine F.out _ _ ?_ (fun z=>?_)
  ·exact uH HK _ (((Below.refl A.heap.size A).alloc (Nat.le_refl _) _).drew)
  clear F K
  have J:aB (A.alloc (.cells #[.bool false,.slice none 0 0] 33)).drew A.heap.size (.bool false) (.slice none 0 0):=(aB.new A (.bool false) (.slice none 0 0)).drew
  have Y:A.heap.size≤A.heap.size:=Nat.le_refl _
  generalize ah:(A.alloc (.cells #[.bool false,.slice none 0 0] 33)).drew=wa at*
  refine wpAnyH_ready (rs:=[4]) (by kernel_rfl) (by simp) ?_
  refine AllReadyH.cons (o:={dst:=some 20,op:=Op.call {callee:=Callee.value (Operand.func 208),args:=#[Operand.tmp 19],argTypes:=#[33]},type:=3,pos:= "quotient.go:30",after:=#[{on:=3,ground:=Ground.data}],guard:=none}) rfl (fun K F=>?_) AllReadyH.nil
  go_simp
  refine(uH K2 _ _ _ _ _ ((uH HV).below (And.left (by assumption)))).mono ?_
  rintro e wn ⟨rfl,d⟩
  have ae:Below A.heap.size A wn:=Below.trans (And.left (by assumption)) (d.mono (Below.size (And.left (by assumption))))
  have J:=J.all d
  clear d
  go_wp2_with fail
  refine F.out _ _ ?_ (fun z=>?_)
  ·exact uH HK _ ae
  clear F K
  refine wpAnyH_take (i:=5) (oi:={dst:=some 21,op:=Op.binOp BinOp.sub 3 (Operand.const (Value.int IntKind.i64 53)) (Operand.tmp 20) 3,type:=3,pos:= "quotient.go:30",after:=#[{on:=4,ground:=Ground.data}],guard:=none}) (v:=(.int .i64 (53-ln))) rfl (by kernel_rfl) (by kernel_rfl) (by kernel_rfl) (fun _ _ _ h=>h) (Or.inl ⟨by rfl,?_⟩) (by assumption) ?_
  ·(intro w u;(try dsimp only at u);go_simp;exact a8 _ (by omega))
  simp only[Act.put,List.setIfInBounds_toArray,List.set_cons_zero,List.set_cons_succ]
  refine wpAnyH_ready (rs:=[6]) (by kernel_rfl) (by simp) ?_
  refine AllReadyH.cons (o:={dst:=some 22,op:=Op.call {callee:=Callee.value (Operand.func 238),args:=#[Operand.tmp 17,Operand.tmp 21],argTypes:=#[33,3]},type:=206,pos:= "quotient.go:30",after:=#[{on:=1,ground:=Ground.data},{on:=5,ground:=Ground.data},{on:=4,ground:=Ground.chain}],guard:=none}) rfl (fun K F=>?_) AllReadyH.nil
  go_simp
  refine(uH K3 _ _ _ _ _ ((uH HV).below (And.left (by assumption)))).mono ?_
  rintro e Q ⟨v,rfl,⟨G,H,I,L2,rfl,i2⟩,d⟩
  have U:Below A.heap.size A Q:=Below.trans (And.left (by assumption)) (d.mono (Below.size (And.left (by assumption))))
  have I2:=ac (show au (A.heap.size+1) Q (.agg #[.bool G,.slice H L2.length I]) z2 from au.mono ⟨G,H,I,L2,rfl,i2⟩ (Nat.succ_le_of_lt J.lt))
  have J:=J.all d
  clear i2
  generalize L2.length=L at*
  clear d
  go_wp2_with fail
  refine F.out _ _ ?_ (fun z=>?_)
  ·exact uH HK _ U
  clear F K
  refine wpAnyH_take (i:=7) (oi:={dst:=some 15,op:=Op.move (Operand.tmp 22),type:=206,pos:= "quotient.go:30",after:=#[{on:=6,ground:=Ground.data}],guard:=none}) (v:=(Value.tuple #[.agg #[.bool G,.slice H L I],.int .i64 0])) rfl (by kernel_rfl) (by kernel_rfl) (by kernel_rfl) (fun _ _ _ h=>h) (Or.inl ⟨by rfl,?_⟩) (by assumption) ?_
  ·(intro w u;(try dsimp only at u);go_simp)
  simp only[Act.put,List.setIfInBounds_toArray,List.set_cons_zero,List.set_cons_succ]
  refine wpAnyH_take (i:=8) (oi:={dst:=some 23,op:=Op.extract (Operand.tmp 15) 0,type:=33,pos:= "quotient.go:30",after:=#[{on:=7,ground:=Ground.data}],guard:=none}) (v:=(Value.agg #[.bool G,.slice H L I])) rfl (by kernel_rfl) (by kernel_rfl) (by kernel_rfl) (fun _ _ _ h=>h) (Or.inl ⟨by rfl,?_⟩) (by assumption) ?_
  ·(intro w u;(try dsimp only at u);go_simp)
  simp only[Act.put,List.setIfInBounds_toArray,List.set_cons_zero,List.set_cons_succ]
  refine wpAnyH_take (i:=9) (oi:={dst:=some 24,op:=Op.extract (Operand.tmp 15) 1,type:=27,pos:= "quotient.go:30",after:=#[{on:=7,ground:=Ground.data},{on:=11,ground:=Ground.gcOnly Departure.lateStores}],guard:=none}) (v:=(.int .i64 0)) rfl (by kernel_rfl) (by kernel_rfl) (by kernel_rfl) (fun _ _ _ h=>h) (Or.inl ⟨by rfl,?_⟩) (by assumption) ?_
  ·(intro w u;(try dsimp only at u);go_simp)
  simp only[Act.put,List.setIfInBounds_toArray,List.set_cons_zero,List.set_cons_succ]
  refine wpAnyH_ready (rs:=[11]) (by kernel_rfl) (by simp) ?_
  refine AllReadyH.cons (o:={dst:=none,op:=Op.store 33 (Operand.tmp 6) (Operand.tmp 23),type:=0,pos:= "quotient.go:30",after:=#[{on:=10,ground:=Ground.data},{on:=8,ground:=Ground.data},{on:=6,ground:=Ground.chain},{on:=0,ground:=Ground.phase},{on:=1,ground:=Ground.phase},{on:=2,ground:=Ground.phase},{on:=3,ground:=Ground.phase},{on:=4,ground:=Ground.phase},{on:=5,ground:=Ground.phase},{on:=6,ground:=Ground.phase},{on:=7,ground:=Ground.phase},{on:=8,ground:=Ground.phase},{on:=9,ground:=Ground.textOnly Departure.lateStores},{on:=10,ground:=Ground.phase}],guard:=none}) rfl (fun K F=>?_) AllReadyH.nil
  have q0:=J.c0;have q1:=J.c1;have f0:=J.free 0;have f1:=J.free 1
  go_wp2_with fail
  refine F.out _ _ ?_ (fun z=>?_)
  ·exact uH HK _ (Below.setCell (Below.setCell (And.left (by assumption)) Y _) Y _)
  clear F K q0 q1 f0 f1
  refine wpAnyH_take (i:=12) (oi:={dst:=some 7,op:=Op.assign (Operand.tmp 24),type:=27,pos:= "quotient.go:30",after:=#[{on:=9,ground:=Ground.data},{on:=11,ground:=Ground.chain},{on:=0,ground:=Ground.phase},{on:=1,ground:=Ground.phase},{on:=2,ground:=Ground.phase},{on:=3,ground:=Ground.phase},{on:=4,ground:=Ground.phase},{on:=5,ground:=Ground.phase},{on:=6,ground:=Ground.phase},{on:=7,ground:=Ground.phase},{on:=8,ground:=Ground.phase},{on:=9,ground:=Ground.phase},{on:=10,ground:=Ground.phase},{on:=11,ground:=Ground.phase}],guard:=none}) (v:=(.int .i64 0)) rfl (by kernel_rfl) (by kernel_rfl) (by kernel_rfl) (fun _ _ _ h=>h) (Or.inl ⟨by rfl,?_⟩) (by assumption) ?_
  ·(intro w u;(try dsimp only at u);go_simp)
  simp only[Act.put,List.setIfInBounds_toArray,List.set_cons_zero,List.set_cons_succ]
  refine wpAnyH_done (by kernel_rfl) ?_ _
  have bz:=J.put (.bool G) (.slice H L I)
  have HZ:=ac (show au 0 ((Q.setCell ⟨A.heap.size,0,none⟩ (.bool G)).setCell ⟨A.heap.size,1,none⟩ (.slice H L I)) (.agg #[.bool G,.slice H L I]) z2 from((uH I2).put2 (p:=⟨A.heap.size,0,none⟩) (q:=⟨A.heap.size,1,none⟩) (by simp) (by simp) (.bool G) (.slice H L I)).mono (Nat.zero_le _))
  have BZ:=ac (show Below A.heap.size A ((Q.setCell ⟨A.heap.size,0,none⟩ (.bool G)).setCell ⟨A.heap.size,1,none⟩ (.slice H L I))from Below.setCell (Below.setCell U Y _) Y _)
  have r0:=bz.c0;have r1:=bz.c1
  clear J I2 z
  generalize ((Q.setCell ⟨A.heap.size,0,none⟩ (.bool G)).setCell ⟨A.heap.size,1,none⟩ (.slice H L I))=WE at*
  go_wp2_with fail
  refine(uH K4 _ _ _ (uH HZ)).mono ?_
  rintro e we ⟨rfl,d⟩
  have X:=ac ((uH BZ).trans (d.mono (uH BZ).size))
  have HW:=ac ((uH HV).below (uH X))
  have xe:=(uH XB).all (uH X)
  have y0:=xe.c0;have y1:=xe.c1;have y2:=xe.c2
  clear r0 r1 bz d BZ HZ xe
  go_wp2_with fail
  refine(uH K5 _ _ _ _ _ (uH HW)).mono ?_
  rintro e wf ⟨rfl,d⟩
  have BF:=ac ((uH B1).trans (((uH X).trans (d.mono (uH X).size)).mono (uH B1).size))
  clear d X HW y0 y1 y2
  go_wp2
  exact bodyPost_ret (v:=.tuple #[.int .i64 z2,.int .i64 tp]) (by simp[results,Tryz.results283,go_sem]) rfl ⟨rfl,uH BF⟩
theorem aC.limbs{w:World}{n:Bool}{a:Option Addr}{l c:Nat}{X m Y:Int}(h:aC w (.agg #[.bool n,.slice a l c,.int .i64 X]) m Y)(z:m.natAbs<du):
  ∃L,l=L.length∧ag w a c L∧aw false L=true∧aj L=m.natAbs∧L.length≤512:=by
 obtain⟨I,J,K,L,u,D,d,F,G,O⟩:=h.right z
 simp only[Value.agg.injEq,Array.mk.injEq,List.cons.injEq,Value.bool.injEq,Value.slice.injEq,and_true]at u
 obtain⟨rfl,⟨rfl,H,rfl⟩,_⟩:=u
 have A:aw false L=true:=by
  simp only[aw,Bool.and_eq_true,decide_eq_true_eq,Bool.not_eq_true',Bool.and_eq_false_iff,decide_eq_false_iff_not,Bool.or_eq_true]at d⊢
  exact⟨⟨d.1.1,Or.inr trivial⟩,d.2⟩
 exact⟨L,H,D,A,by rw[←F,aQ],G⟩
theorem Dz{B:Nat}{w:World}{v:Value}{x:Int}(D:au B w v x)(J:-9223372036854775808≤x)(K:x≤9223372036854775807):
  Calls Tryz.prog 290 #[v] w fun e F=>e=.returned (.tuple #[.int .i64 x,.int .i64 0])∧Below w.heap.size w F:=by
 obtain⟨d,G,H,A,rfl,I,u,z,L⟩:=D.right (cz _ (by omega))
 have:=qN d G H A w I (by omega)
 have h:iT x=true:=by unfold iT;rw[decide_eq_true (by omega)]
 rwa[show tj d A=x by unfold tj;rw[u,z,h];rfl,show ti d A=0 by unfold ti;rw[u,z,h];rfl]at this
theorem pm(b:Nat)(w:World)(G:b<18446744073709551616)(H:ai b=true)(O:fK b≠0)(Q:cr w):
  Calls Tryz.prog 283 #[.int .u64 b] w fun r d=>r=.returned (.tuple #[.int .i64 (dS b:Nat),.int .i64 (dT b)])∧Below w.heap.size w d:=by
 obtain⟨X,Y,Z,x4,x5,x6,x7,x8⟩:=cQ b G H O
 have F:(fD b).natAbs<du:=cz _ (by omega)
 have U:(dS b:Int)=((fD b).natAbs*2^(53-(bl (fD b).natAbs:Int)).toNat:Nat):=by
  unfold dS
  rw[show(53-(bl (fD b).natAbs:Int)).toNat=53-bl (fD b).natAbs by omega]
 refine uG b (fD b) (fX b) (dS b:Nat) (bl (fD b).natAbs:Nat) (dT b) w (by omega) (fun d h=>dG b d G H (Q.all h)) ?_ ?_ ?_ ?_
 ·intro d n a l c h
  obtain⟨L,rfl,u,A,D,K⟩:=h.limbs F
  have:=rA false a c L d u (by omega)
  rwa[i8 u.2.1 A,D]at this
 ·intro d n a l c h
  obtain⟨L,rfl,u,A,D,K⟩:=h.limbs F
  have:=iA false a c L (53-(bl (fD b).natAbs:Int)) d u (by omega) (by omega)
  have I:qa false L (53-(bl (fD b).natAbs:Int))=(dS b:Int):=by
   unfold qa
   rw[if_pos (by omega),D,U];rfl
  have z:mD false L (53-(bl (fD b).natAbs:Int))=true:=by unfold mD;rw[A,decide_eq_true (by omega)];rfl
  have J:((dS b:Nat):Int).natAbs<du:=cz _ (by omega)
  rwa[show vT false L (53-(bl (fD b).natAbs:Int))=0 by unfold vT;rw[z,if_pos rfl,I,gq _ J],show tP false L (53-(bl (fD b).natAbs:Int))=(dS b:Nat) by unfold tP;rw[z,if_pos rfl,I,gr _ J]]at this
 ·intro B d v h
  exact Dz h (by omega) (by omega)
 ·intro d n a l c h
  obtain⟨L,rfl,u,A,D,K⟩:=h.limbs F
  have:=lf false a c L (fX b) d u (by omega)
  rwa[i8 u.2.1 A,D,a8 _ (by omega)]at this
theorem uI(a b:Nat)(x y A D q E M X U:Int)(w:World)(r o:Nat)(ht:-3000≤A∧A≤3000∧-3000≤D∧D≤3000)(hE:E=A-D-55)
  (C1:∀h,Below w.heap.size w h→Calls Tryz.prog 283 #[.int .u64 a] h fun r u=>r=.returned (.tuple #[.int .i64 x,.int .i64 A])∧Below h.heap.size h u)
  (C2:∀h,Below w.heap.size w h→Calls Tryz.prog 283 #[.int .u64 b] h fun r u=>r=.returned (.tuple #[.int .i64 y,.int .i64 D])∧Below h.heap.size h u)
  (C3:∀h,Calls Tryz.prog 284 #[.int .i64 x,.int .i64 y] h fun r u=>r=.returned (.int .i64 q)∧h=u)
  (C4:∀h,Calls Tryz.prog 207 #[.int .i64 q] h fun r u=>∃v,r=.returned v∧au h.heap.size u v q∧Below h.heap.size h u)
  (C5:∀B h v,Below w.heap.size w h→au B h v q→Calls Tryz.prog 206 #[v,.int .i64 E] h fun r u=>nF u r 0 M X∧Below h.heap.size h u)
  (C6:∀h v,Below w.heap.size w h→aC h v M X→Calls Tryz.prog 229 #[v] h fun s u=>s=.returned (.tuple #[.int .u64 (r:Nat),.int .u8 U,.int .i64 0])∧Below h.heap.size h u)
  (C7:∀h,Calls Tryz.prog 262 #[.int .u64 (r:Nat),.int .u64 a,.int .u64 b] h fun s u=>s=.returned (.int .u64 (o:Nat))∧Below h.heap.size h u):
  Calls Tryz.prog 264 #[.int .u64 a,.int .u64 b] w fun s h=>s=.returned (.tuple #[.int .u64 (o:Nat),.int .u8 U])∧Below w.heap.size w h:=by
 have K1:=ac C1;have K2:=ac C2;have K3:=ac C3;have K4:=ac C4;have K5:=ac C5;have K6:=ac C6;have K7:=ac C7
 clear C1 C2 C3 C4 C5 C6 C7
 have e1:=a8 (A-D) (by omega)
 have e2:=a8 (A-D-55) (by omega)
 rw[←hE]at e2
 go_enter Tryz.func264,Tryz.ntmps264
 go_wp2_with fail
 refine(uH K1 _ (Below.refl _ _)).mono ?_
 rintro e w1 ⟨rfl,d⟩
 have H:=ac d
 clear d K1
 go_wp2_with fail
 refine(uH K2 _ (uH H)).mono ?_
 rintro e w2 ⟨rfl,d⟩
 have Y:=ac ((uH H).trans (d.mono (uH H).size))
 clear d K2 H
 go_wp2_with fail
 refine(uH K3 _).mono ?_
 rintro e wk ⟨rfl,rfl⟩
 go_wp2_with fail
 refine(uH K4 _).mono ?_
 rintro e w3 ⟨v,rfl,⟨n3,a3,c3,L3,rfl,i3⟩,d⟩
 have I:=ac ((uH Y).trans (d.mono (uH Y).size))
 have I3:=ac (show au w2.heap.size w3 (.agg #[.bool n3,.slice a3 L3.length c3]) q from⟨n3,a3,c3,L3,rfl,i3⟩)
 clear d K3 K4 Y i3
 generalize L3.length=l3 at*
 subst hE
 go_wp2_with fail
 refine(uH K5 _ _ _ (uH I) (uH I3)).mono ?_
 rintro e G ⟨⟨v,rfl,hv⟩,d⟩
 obtain⟨L,O,Q,F,rfl,i1⟩:=hv
 have z:Below G.heap.size G (G.alloc (.cells #[.bool L,.slice O F.length Q,.int .i64 X] 35)):=(Below.refl _ _).alloc (Nat.le_refl _) _
 have HX:=ac ((show aC G (.agg #[.bool L,.slice O F.length Q,.int .i64 X]) M X from⟨L,O,Q,F,rfl,i1⟩).below z)
 have J:=ac ((uH I).trans ((d.trans (z.mono d.size)).mono (uH I).size))
 have K:=al.new G (.bool L) (.slice O F.length Q) (.int .i64 X)
 have y0:=K.c0;have y1:=K.c1;have y2:=K.c2
 clear i1 d z K5 I K I3
 generalize F.length=l1 at*
 go_wp2_with fail
 refine(uH K6 _ _ (uH J) (uH HX)).mono ?_
 rintro e w5 ⟨rfl,d⟩
 have Z:=ac ((uH J).trans (d.mono (uH J).size))
 clear d K6 J y0 y1 y2 HX
 go_wp2_with fail
 refine(uH K7 _).mono ?_
 rintro e w6 ⟨rfl,d⟩
 have B6:=ac ((uH Z).trans (d.mono (uH Z).size))
 clear d K7 Z
 go_wp2
 exact bodyPost_ret (v:=.tuple #[.int .u64 o,.int .u8 U]) (by simp[results,Tryz.results264,go_sem]) rfl ⟨rfl,uH B6⟩
theorem Mr{S:Nat}(h:S<144115188075855872):S<2^57:=by
 have:(2:Nat)^57=144115188075855872:=by decide
 omega
theorem rZ(a b S G H r:Nat)(A D O:Int)(w:World)(ha:a<18446744073709551616)(hb:b<18446744073709551616)(hr:r≤9218868437227405312)
  (ht:-1100≤A∧A≤1100∧-1100≤D∧D≤1100) (s1:S≠0) (s2:S<144115188075855872)
  (Q:cg S (A-D-55)=r) (U:bM (oM (S:Nat)).natAbs (oE (S:Nat) (A-D-55))=O) (X:cr w)
  (C1:∀d,Below w.heap.size w d→Calls Tryz.prog 283 #[.int .u64 a] d fun r z=>r=.returned (.tuple #[.int .i64 (G:Nat),.int .i64 A])∧Below d.heap.size d z)
  (C2:∀d,Below w.heap.size w d→Calls Tryz.prog 283 #[.int .u64 b] d fun r z=>r=.returned (.tuple #[.int .i64 (H:Nat),.int .i64 D])∧Below d.heap.size d z)
  (C3:∀d,Calls Tryz.prog 284 #[.int .i64 (G:Nat),.int .i64 (H:Nat)] d fun r z=>r=.returned (.int .i64 (S:Nat))∧d=z):
  Calls Tryz.prog 264 #[.int .u64 a,.int .u64 b] w fun s d=>s=.returned (.tuple #[.int .u64 (gJ (fS a^^fS b) r:Nat),.int .u8 O])∧Below w.heap.size w d:=by
 have Y:((S:Nat):Int).natAbs<du:=cz _ (by omega)
 have F:((S:Nat):Int)≠0:=by omega
 have aa:tz ((S:Nat):Int).natAbs<57:=kf _ 57 (by omega) (by rw[Int.natAbs_natCast];exact Mr s2)
 obtain⟨E,hE⟩:∃E,E=A-D-55:=⟨_,rfl⟩
 rw[←hE]at Q U
 have ae:-2300≤E∧E≤2300:=by omega
 have J:mE (S:Nat) E=true:=by
  unfold mE
  rw[decide_eq_true (show-32768≤E∧E≤32768 by omega),decide_eq_true (show-16384≤E+(tz ((S:Nat):Int).natAbs:Int)∧E+(tz ((S:Nat):Int).natAbs:Int)≤16384 by omega),Bool.or_true]
  rfl
 have K:qh (oM (S:Nat)) (oE (S:Nat) E)=true:=by
  unfold qh
  rw[if_neg (fH _ F).1,cw _ _ F,decide_eq_true (fH _ F).2,decide_eq_true (by omega)]
  rfl
 have L:(oM (S:Nat)).natAbs<du:=Nat.lt_of_le_of_lt (qO _) Y
 have Z:∀d v,Below w.heap.size w d→aC d v (oM (S:Nat)) (oE (S:Nat) E)→_:=fun d v h I=>jw I L K (X.all h)
 rw[(jU ((S:Nat):Int) E).1,jT,decide_eq_false (show¬((S:Nat):Int)<0 by omega),bQ,Int.natAbs_natCast,Q,U]at Z
 refine uI a b (G:Nat) (H:Nat) A D (S:Nat) E _ _ _ w _ _ (by omega) hE C1 C2 C3
  (fun d=>wy _ d (by omega) (by omega)) (fun B d v h I=>?_) Z (fun d=>gx r a b d ha hb (by omega))
 have:=jt E I Y (by omega) (X.all h)
 unfold cU dM dX at this
 rw[J]at this
 exact this.mono fun r z ⟨u,g1,g2,g3⟩=>⟨⟨u,g1,g2⟩,g3⟩
theorem Kk(a b:Nat):cJ (dS a*2^54) (dS b)=pS a b:=by unfold pS;rfl
theorem Ja(b:Nat)(d:b<18446744073709551616)(h:ai b=true)(u:fK b≠0):-1100≤dT b∧dT b≤1100:=by
 obtain⟨z,A,D,F,G,H,I,J⟩:=cQ b d h u
 unfold dT
 omega
theorem qm(a b:Nat)(w:World)(G:a<18446744073709551616)(A:b<18446744073709551616)(D:ai a=true)(d:ai b=true)(F:fK a≠0)(u:fK b≠0)(H:cr w):
  Calls Tryz.prog 264 #[.int .u64 a,.int .u64 b] w fun r z=>r=.returned (.tuple #[.int .u64 (dV a b:Nat),.int .u8 (dF a b)])∧Below w.heap.size w z:=by
 obtain⟨y1,y2,y3,U,y5,y6,y7,y8⟩:=cQ b A d u
 obtain⟨X,Y,Z⟩:=Dh a b G A D d F u
 obtain⟨q1,q2⟩:=Dg a b G A D d F u
 have L:qV a b≤9218868437227405312:=dR _ _
 have I:=fun z=>rY (dS a) (dS b) z U Z
 have J:=Ja a G D F
 have K:=Ja b A d u
 have O:=(rK a b D d F u).1
 have Q:=(rK a b D d F u).2
 rw[Kk]at I
 rw[O,Q]
 exact rZ a b (pS a b) (dS a) (dS b) (qV a b) (dT a) (dT b) (qF a b) w G A L ⟨J.1,J.2,K.1,K.2⟩ X Y q1 q2 H (fun z h=>pm a z G D F (H.all h)) (fun z h=>pm b z A d u (H.all h)) I
theorem GO(a b:Nat)(H:Int)(w:World)
  (A:∀d,Calls Tryz.prog 164 #[.int .u64 a] d fun r h=>r=.returned (.int .i64 4)∧Below d.heap.size d h)
  (D:∀d,Calls Tryz.prog 164 #[.int .u64 b] d fun r h=>r=.returned (.int .i64 H)∧Below d.heap.size d h):
  Calls Tryz.prog 233 #[.int .u64 a,.int .u64 b] w fun r d=>r=.returned (.tuple #[.int .u64 9221120237041090560,.int .u8 0])∧Below w.heap.size w d:=by
 have F:=ac A;have G:=ac D
 clear A D
 go_enter Tryz.func233,Tryz.ntmps233
 go_wp2_with fail
 refine(uH F _).mono ?_
 rintro e I ⟨rfl,u⟩
 go_wp2_with fail
 refine(uH G _).mono ?_
 rintro e J ⟨rfl,z⟩
 have B:=ac (u.trans (z.mono u.size))
 clear u z F G
 go_wp2
 exact bodyPost_ret (v:=.tuple #[.int .u64 9221120237041090560,.int .u8 0]) (by simp[results,Tryz.results233,go_sem]) rfl ⟨rfl,uH B⟩
theorem GQ(a b:Nat)(A:Int)(w:World)(I:(A==4)=false)
  (D:∀d,Calls Tryz.prog 164 #[.int .u64 a] d fun r h=>r=.returned (.int .i64 A)∧Below d.heap.size d h)
  (F:∀d,Calls Tryz.prog 164 #[.int .u64 b] d fun r h=>r=.returned (.int .i64 4)∧Below d.heap.size d h):
  Calls Tryz.prog 233 #[.int .u64 a,.int .u64 b] w fun r d=>r=.returned (.tuple #[.int .u64 9221120237041090560,.int .u8 0])∧Below w.heap.size w d:=by
 have G:=ac D;have H:=ac F
 clear D F
 go_enter Tryz.func233,Tryz.ntmps233
 go_wp2_with fail
 refine(uH G _).mono ?_
 rintro e J ⟨rfl,u⟩
 go_wp2_with fail
 refine(uH H _).mono ?_
 rintro e K ⟨rfl,z⟩
 have B:=ac (u.trans (z.mono u.size))
 clear u z G H
 go_wp2
 exact bodyPost_ret (v:=.tuple #[.int .u64 9221120237041090560,.int .u8 0]) (by simp[results,Tryz.results233,go_sem]) rfl ⟨rfl,uH B⟩
theorem GR(a b:Nat)(w:World)
  (A:∀d,Calls Tryz.prog 164 #[.int .u64 a] d fun r h=>r=.returned (.int .i64 3)∧Below d.heap.size d h)
  (D:∀d,Calls Tryz.prog 164 #[.int .u64 b] d fun r h=>r=.returned (.int .i64 3)∧Below d.heap.size d h):
  Calls Tryz.prog 233 #[.int .u64 a,.int .u64 b] w fun r d=>r=.returned (.tuple #[.int .u64 9221120237041090560,.int .u8 16])∧Below w.heap.size w d:=by
 have F:=ac A;have G:=ac D
 clear A D
 go_enter Tryz.func233,Tryz.ntmps233
 go_wp2_with fail
 refine(uH F _).mono ?_
 rintro e H ⟨rfl,u⟩
 go_wp2_with fail
 refine(uH G _).mono ?_
 rintro e I ⟨rfl,z⟩
 have B:=ac (u.trans (z.mono u.size))
 clear u z F G
 go_wp2
 exact bodyPost_ret (v:=.tuple #[.int .u64 9221120237041090560,.int .u8 16]) (by simp[results,Tryz.results233,go_sem]) rfl ⟨rfl,uH B⟩
theorem GT(a b:Nat)(w:World)
  (A:∀d,Calls Tryz.prog 164 #[.int .u64 a] d fun r h=>r=.returned (.int .i64 0)∧Below d.heap.size d h)
  (D:∀d,Calls Tryz.prog 164 #[.int .u64 b] d fun r h=>r=.returned (.int .i64 0)∧Below d.heap.size d h):
  Calls Tryz.prog 233 #[.int .u64 a,.int .u64 b] w fun r d=>r=.returned (.tuple #[.int .u64 9221120237041090560,.int .u8 16])∧Below w.heap.size w d:=by
 have F:=ac A;have G:=ac D
 clear A D
 go_enter Tryz.func233,Tryz.ntmps233
 go_wp2_with fail
 refine(uH F _).mono ?_
 rintro e H ⟨rfl,u⟩
 go_wp2_with fail
 refine(uH G _).mono ?_
 rintro e I ⟨rfl,z⟩
 have B:=ac (u.trans (z.mono u.size))
 clear u z F G
 go_wp2
 exact bodyPost_ret (v:=.tuple #[.int .u64 9221120237041090560,.int .u8 16]) (by simp[results,Tryz.results233,go_sem]) rfl ⟨rfl,uH B⟩
theorem Kl(a b:Nat)(D:Int)(o:Nat)(w:World)(L:(D==4)=false)(O:(D==3)=false)
  (F:∀d,Calls Tryz.prog 164 #[.int .u64 a] d fun r h=>r=.returned (.int .i64 3)∧Below d.heap.size d h)
  (G:∀d,Calls Tryz.prog 164 #[.int .u64 b] d fun r h=>r=.returned (.int .i64 D)∧Below d.heap.size d h)
  (H:∀d,Calls Tryz.prog 262 #[.int .u64 9218868437227405312,.int .u64 a,.int .u64 b] d fun r h=>r=.returned (.int .u64 (o:Nat))∧Below d.heap.size d h):
  Calls Tryz.prog 233 #[.int .u64 a,.int .u64 b] w fun r d=>r=.returned (.tuple #[.int .u64 (o:Nat),.int .u8 0])∧Below w.heap.size w d:=by
 have I:=ac F;have J:=ac G
 clear F G
 go_enter Tryz.func233,Tryz.ntmps233
 go_wp2_with fail
 refine(uH I _).mono ?_
 rintro e Q ⟨rfl,u⟩
 go_wp2_with fail
 refine(uH J _).mono ?_
 rintro e U ⟨rfl,z⟩
 have B:=ac (u.trans (z.mono u.size))
 clear u z I J
 have K:=ac H
 clear H
 go_wp2_with fail
 refine(uH K _).mono ?_
 rintro e X ⟨rfl,A⟩
 have B:=ac ((uH B).trans (A.mono (uH B).size))
 clear A K
 go_wp2
 exact bodyPost_ret (v:=.tuple #[.int .u64 (o:Nat),.int .u8 0]) (by simp[results,Tryz.results233,go_sem]) rfl ⟨rfl,uH B⟩
theorem Km(a b:Nat)(D:Int)(o:Nat)(w:World)(L:(D==4)=false)(O:(D==0)=false)
  (F:∀d,Calls Tryz.prog 164 #[.int .u64 a] d fun r h=>r=.returned (.int .i64 0)∧Below d.heap.size d h)
  (G:∀d,Calls Tryz.prog 164 #[.int .u64 b] d fun r h=>r=.returned (.int .i64 D)∧Below d.heap.size d h)
  (H:∀d,Calls Tryz.prog 262 #[.int .u64 0,.int .u64 a,.int .u64 b] d fun r h=>r=.returned (.int .u64 (o:Nat))∧Below d.heap.size d h):
  Calls Tryz.prog 233 #[.int .u64 a,.int .u64 b] w fun r d=>r=.returned (.tuple #[.int .u64 (o:Nat),.int .u8 0])∧Below w.heap.size w d:=by
 have I:=ac F;have J:=ac G
 clear F G
 go_enter Tryz.func233,Tryz.ntmps233
 go_wp2_with fail
 refine(uH I _).mono ?_
 rintro e Q ⟨rfl,u⟩
 go_wp2_with fail
 refine(uH J _).mono ?_
 rintro e U ⟨rfl,z⟩
 have B:=ac (u.trans (z.mono u.size))
 clear u z I J
 have K:=ac H
 clear H
 go_wp2_with fail
 refine(uH K _).mono ?_
 rintro e X ⟨rfl,A⟩
 have B:=ac ((uH B).trans (A.mono (uH B).size))
 clear A K
 go_wp2
 exact bodyPost_ret (v:=.tuple #[.int .u64 (o:Nat),.int .u8 0]) (by simp[results,Tryz.results233,go_sem]) rfl ⟨rfl,uH B⟩
theorem Kn(a b:Nat)(D:Int)(o:Nat)(w:World)(L:(D==4)=false)(O:(D==3)=false)(Q:(D==0)=false)
  (F:∀d,Calls Tryz.prog 164 #[.int .u64 a] d fun r h=>r=.returned (.int .i64 D)∧Below d.heap.size d h)
  (G:∀d,Calls Tryz.prog 164 #[.int .u64 b] d fun r h=>r=.returned (.int .i64 3)∧Below d.heap.size d h)
  (H:∀d,Calls Tryz.prog 262 #[.int .u64 0,.int .u64 a,.int .u64 b] d fun r h=>r=.returned (.int .u64 (o:Nat))∧Below d.heap.size d h):
  Calls Tryz.prog 233 #[.int .u64 a,.int .u64 b] w fun r d=>r=.returned (.tuple #[.int .u64 (o:Nat),.int .u8 0])∧Below w.heap.size w d:=by
 have I:=ac F;have J:=ac G
 clear F G
 go_enter Tryz.func233,Tryz.ntmps233
 go_wp2_with fail
 refine(uH I _).mono ?_
 rintro e U ⟨rfl,u⟩
 go_wp2_with fail
 refine(uH J _).mono ?_
 rintro e X ⟨rfl,z⟩
 have B:=ac (u.trans (z.mono u.size))
 clear u z I J
 have K:=ac H
 clear H
 go_wp2_with fail
 refine(uH K _).mono ?_
 rintro e Y ⟨rfl,A⟩
 have B:=ac ((uH B).trans (A.mono (uH B).size))
 clear A K
 go_wp2
 exact bodyPost_ret (v:=.tuple #[.int .u64 (o:Nat),.int .u8 0]) (by simp[results,Tryz.results233,go_sem]) rfl ⟨rfl,uH B⟩
theorem Ko(a b:Nat)(D:Int)(o:Nat)(w:World)(L:(D==4)=false)(O:(D==3)=false)(Q:(D==0)=false)
  (F:∀d,Calls Tryz.prog 164 #[.int .u64 a] d fun r h=>r=.returned (.int .i64 D)∧Below d.heap.size d h)
  (G:∀d,Calls Tryz.prog 164 #[.int .u64 b] d fun r h=>r=.returned (.int .i64 0)∧Below d.heap.size d h)
  (H:∀d,Calls Tryz.prog 262 #[.int .u64 9218868437227405312,.int .u64 a,.int .u64 b] d fun r h=>r=.returned (.int .u64 (o:Nat))∧Below d.heap.size d h):
  Calls Tryz.prog 233 #[.int .u64 a,.int .u64 b] w fun r d=>r=.returned (.tuple #[.int .u64 (o:Nat),.int .u8 8])∧Below w.heap.size w d:=by
 have I:=ac F;have J:=ac G
 clear F G
 go_enter Tryz.func233,Tryz.ntmps233
 go_wp2_with fail
 refine(uH I _).mono ?_
 rintro e U ⟨rfl,u⟩
 go_wp2_with fail
 refine(uH J _).mono ?_
 rintro e X ⟨rfl,z⟩
 have B:=ac (u.trans (z.mono u.size))
 clear u z I J
 have K:=ac H
 clear H
 go_wp2_with fail
 refine(uH K _).mono ?_
 rintro e Y ⟨rfl,A⟩
 have B:=ac ((uH B).trans (A.mono (uH B).size))
 clear A K
 go_wp2
 exact bodyPost_ret (v:=.tuple #[.int .u64 (o:Nat),.int .u8 8]) (by simp[results,Tryz.results233,go_sem]) rfl ⟨rfl,uH B⟩
theorem Kp(a b:Nat)(D F:Int)(G:Int)(o:Nat)(w:World)(X:(D==4)=false)(Y:(D==3)=false)(Z:(D==0)=false)(h3:(F==4)=false)(h4:(F==3)=false)(h5:(F==0)=false)(H:cr w)
  (I:∀d,Calls Tryz.prog 164 #[.int .u64 a] d fun r h=>r=.returned (.int .i64 D)∧Below d.heap.size d h)
  (J:∀d,Calls Tryz.prog 164 #[.int .u64 b] d fun r h=>r=.returned (.int .i64 F)∧Below d.heap.size d h)
  (K:∀d,cr d→Calls Tryz.prog 264 #[.int .u64 a,.int .u64 b] d fun r h=>r=.returned (.tuple #[.int .u64 (o:Nat),.int .u8 G])∧Below d.heap.size d h):
  Calls Tryz.prog 233 #[.int .u64 a,.int .u64 b] w fun r d=>r=.returned (.tuple #[.int .u64 (o:Nat),.int .u8 G])∧Below w.heap.size w d:=by
 have L:=ac I;have O:=ac J
 clear I J
 go_enter Tryz.func233,Tryz.ntmps233
 go_wp2_with fail
 refine(uH L _).mono ?_
 rintro e w1 ⟨rfl,u⟩
 go_wp2_with fail
 refine(uH O _).mono ?_
 rintro e w2 ⟨rfl,z⟩
 have B:=ac (u.trans (z.mono u.size))
 clear u z L O
 have Q:=ac K;have U:=ac (H.all (uH B))
 clear K H
 go_wp2_with fail
 refine(uH Q _ (uH U)).mono ?_
 rintro e w3 ⟨rfl,A⟩
 have B:=ac ((uH B).trans (A.mono (uH B).size))
 clear A Q U
 go_wp2
 exact bodyPost_ret (v:=.tuple #[.int .u64 (o:Nat),.int .u8 G]) (by simp[results,Tryz.results233,go_sem]) rfl ⟨rfl,uH B⟩
theorem DA(a b:Nat)(w:World)(J:a<18446744073709551616)(K:b<18446744073709551616)(Y:cr w):
  Calls Tryz.prog 233 #[.int .u64 a,.int .u64 b] w fun r u=>r=.returned (.tuple #[.int .u64 (dV a b:Nat),.int .u8 (dF a b)])∧Below w.heap.size w u:=by
 have d:=fun u=>cZ a u J
 have h:=fun u=>cZ b u K
 have L:=fun u=>gx 9218868437227405312 a b u J K (by decide)
 have O:=fun u=>gx 0 a b u J K (by decide)
 by_cases D:fK a=4
 ·rw[show dV a b=9221120237041090560 by unfold dV;rw[if_pos (Or.inl D)],show dF a b=0 by unfold dF;rw[if_pos (Or.inl D)]]
  rw[D]at d
  exact GO a b _ w d h
 by_cases G:fK b=4
 ·rw[show dV a b=9221120237041090560 by unfold dV;rw[if_pos (Or.inr G)],show dF a b=0 by unfold dF;rw[if_pos (Or.inr G)]]
  rw[G]at h
  exact GQ a b _ w (by simp[D]) d h
 have F:¬(fK a=4∨fK b=4):=by omega
 by_cases A:fK a=fK b∧(fK a=3∨fK a=0)
 ·rw[show dV a b=9221120237041090560 by unfold dV;rw[if_neg F,if_pos A],show dF a b=16 by unfold dF;rw[if_neg F,if_pos A]]
  rcases A with⟨U,H|X⟩
  ·rw[H]at d
   rw[←U,H]at h
   exact GR a b w d h
  ·rw[X]at d
   rw[←U,X]at h
   exact GT a b w d h
 by_cases z:fK a=3
 ·rw[show dV a b=gJ (fS a^^fS b) 9218868437227405312 by unfold dV;rw[if_neg F,if_neg A,if_pos z],show dF a b=0 by unfold dF;rw[if_neg F,if_neg A,if_pos z]]
  rw[z]at d
  exact Kl a b _ _ w (by simp[G]) (by simp;omega) d h L
 by_cases H:fK b=3∨fK a=0
 ·rw[show dV a b=gJ (fS a^^fS b) 0 by unfold dV;rw[if_neg F,if_neg A,if_neg z,if_pos H],show dF a b=0 by unfold dF;rw[if_neg F,if_neg A,if_neg z,if_pos H]]
  by_cases Q:fK a=0
  ·rw[Q]at d
   exact Km a b _ _ w (by simp[G]) (by simp;omega) d h O
  ·have Z:fK b=3:=by omega
   rw[Z]at h
   exact Kn a b _ _ w (by simp[D]) (by simp[z]) (by simp[Q]) d h O
 by_cases I:fK b=0
 ·rw[show dV a b=gJ (fS a^^fS b) 9218868437227405312 by unfold dV;rw[if_neg F,if_neg A,if_neg z,if_neg H,if_pos I],show dF a b=8 by unfold dF;rw[if_neg F,if_neg A,if_neg z,if_neg H,if_pos I]]
  rw[I]at h
  exact Ko a b _ _ w (by simp[D]) (by simp[z]) (by simp;omega) d h L
 ·exact Kp a b _ _ _ _ w (by simp[D]) (by simp[z]) (by simp;omega) (by simp[G]) (by simp;omega) (by simp[I]) Y d h (fun u t=>qm a b u J K (et a z D) (et b (by omega) G) (by omega) I t)
def lV(a:Nat)(n:Int):Nat:=if fK a=4 then a else xV a n
theorem DB(v u:Nat):2*(dw v u*2^u)≤2*v+2^u∧2*v≤2*(dw v u*2^u)+2^u∧(v%2^u=0→dw v u*2^u=v):=by
 have d:0<2^u:=Nat.two_pow_pos _
 have h:=Nat.div_add_mod v (2^u)
 have z:=Nat.mod_lt v d
 rw[Nat.mul_comm]at h
 unfold dw
 generalize v/2^u=q at*
 generalize v%2^u=r at*
 generalize (2:Nat)^u=p at*
 split
 ·rw[Nat.add_mul,Nat.one_mul]
  exact⟨by omega,by omega,by omega⟩
 ·rw[Nat.add_zero]
  exact⟨by omega,by omega,by omega⟩
theorem uJ(T M c d:Nat)(A:c=2*d)(K:0<d)(F:(2*M-1)*(2*M-1)<4*T)(G:4*T<(2*M+1)*(2*M+1)):
  (2*M-1)*c<rS (T*(c*c))∧rS (T*(c*c))<(2*M+1)*c:=by
 obtain⟨X,Y⟩:=cj (T*(c*c))
 have u:0<c*c:=Nat.mul_pos (by omega) (by omega)
 have D:(2*M-1)*(2*M-1)*(c*c)<4*T*(c*c):=(Nat.mul_lt_mul_right u).2 F
 have k2:4*T*(c*c)<(2*M+1)*(2*M+1)*(c*c):=(Nat.mul_lt_mul_right u).2 G
 have H:4*T*(c*c)=4*(T*(c*c)):=Nat.mul_assoc _ _ _
 rw[H]at D k2
 rw[←jy]at D k2
 have I:(2*M-1)*c=2*((2*M-1)*d):=by rw[A];ac_rfl
 have J:(2*M+1)*c=2*((2*M+1)*d):=by rw[A];ac_rfl
 unfold rS
 generalize T*(c*c)=N at*
 generalize bB N=Q at*
 have z:∀x:Nat,2*x*(2*x)=4*(x*x):=fun x=>by rw[show(4:Nat)=2*2 by decide];ac_rfl
 have L:(2*M-1)*c<2*(Q+1):=cC.1 (by rw[z (Q+1)];omega)
 have O:2*Q<(2*M+1)*c:=cC.1 (by rw[z Q];omega)
 split
 ·rename_i h
  have U:(2*M-1)*c<2*Q:=cC.1 (by rw[z Q];omega)
  exact⟨by omega,by omega⟩
 ·exact⟨by omega,by omega⟩
theorem Ar(T M:Nat)(e:Nat)(F:4503599627370496≤M)(G:M<9007199254740992)(K:1≤e)(H:e≤1900)
  (h:(2*M-1)*(2*M-1)<4*T) (u:4*T<(2*M+1)*(2*M+1)) (z:M=4503599627370496→rS (T*(1024*1024))=9223372036854775808):
  cg (rS (T*(1024*1024))) ((e:Int)-1085)=M+e*4503599627370496:=by
 obtain⟨Q,U⟩:=uJ T M 1024 512 rfl (by decide) h u
 have L:9223372036854775808≤rS (T*(1024*1024)):=by
  by_cases I:M=4503599627370496
  ·rw[z I];exact Nat.le_refl _
  ·omega
 generalize rS (T*(1024*1024))=W at*
 clear h u z
 have A:bl W=64:=ni (by decide) (by have:(2:Nat)^(64-1)=9223372036854775808:=(by decide);omega) (by have:(2:Nat)^64=18446744073709551616:=(by decide);omega)
 have D:aE W ((e:Int)-1085)=(e:Int)-1074:=by unfold aE;rw[A];omega
 rw[dl W _ (by omega) (by rw[A];omega),D]
 unfold d8
 rw[D,show(e:Int)-1085-((e:Int)-1074)= -((11:Nat):Int) by omega,dk _ _ (by decide)]
 have J:dw W 11=M:=by
  unfold dw
  rw[show(2:Nat)^11=2048 by decide]
  by_cases O:M*2048≤W
  ·have d:W/2048=M:=by omega
   rw[d,if_neg (by omega),Nat.add_zero]
  ·have d:W/2048=M-1:=by omega
   rw[d,if_pos (by omega)]
   omega
 rw[J,show((e:Int)-1074+1074).toNat=e by omega]
theorem Ms{N q:Nat}(h:q*q=N):rS N=2*q:=by
 have d:bB N=q:=gR (Nat.le_of_eq h) (by have:=dp q;omega)
 unfold rS
 rw[d,if_pos h,Nat.add_zero]
theorem Kq{T:Nat}(h:T=4503599627370496*4503599627370496):rS (T*(1024*1024))=9223372036854775808:=
 (Ms (q:=4611686018427387904) (by rw[h])).trans (by decide)
theorem Kr{M:Nat}(h:4503599627370496≤M):20282409603651670423947251286016≤M*M:=Nat.le_trans (by decide) (yz h)
theorem GU{T:Nat}(h:81129638414606681695789005144064≤T*1048576):9007199254740992≤bB (T*2^20):=by
 refine wP ?_
 have d:(2:Nat)^106=81129638414606681695789005144064:=by decide
 have u:(2:Nat)^20=1048576:=by decide
 rw[d,u]
 exact h
theorem M3{T v p:Nat}(d:20282409603651670423947251286016≤v)(h:2*v≤2*T+p)(u:p≤9007199254740992):81129638414606681695789005144064≤T*1048576:=by omega
theorem Ks(M:Nat)(d:4503599627370496≤M)(u:M<9007199254740992):bl (M*M)=105∨(bl (M*M)=106∧M≠4503599627370496):=by
 have z:=yz d
 have A:=CG u
 have D:(4503599627370496:Nat)*4503599627370496=2^104:=by decide
 have G:(9007199254740992:Nat)*9007199254740992=2^106:=by decide
 rw[D]at z
 rw[G]at A
 rcases Nat.lt_or_ge (M*M) (2^105)with h|h
 ·exact .inl (ni (by decide) z h)
 ·refine .inr ⟨ni (by decide) h A,fun F=>?_⟩
  rw[F,D]at h
  exact absurd h (by decide)
theorem uK(a:Nat)(h1:600≤fP a)(h2:fP a≤1400):sV (mV a a)=fR a:=by
 have hP:fP a=fR a/4503599627370496:=rfl
 have hF:=Nat.div_add_mod (fR a) 4503599627370496
 have an:=Nat.mod_lt (fR a) (show 0<4503599627370496 by decide)
 obtain⟨M,hM⟩:∃M,M=4503599627370496+fR a%4503599627370496:=⟨_,rfl⟩
 obtain⟨e,he⟩:∃e,fP a=e+1:=⟨fP a-1,by omega⟩
 have hr:fR a=M+e*4503599627370496:=by omega
 have Q:rv (fR a)=M*2^e:=by rw[hr];exact oC M e (by omega) (fun _=>by omega)
 have U:ai a=true:=(ch a).2.2.2 (by omega)
 have k3:fK a≠3∧fK a≠4:=bU U
 have k0:fK a≠0:=fun h=>by have:=(cs a).1 h;omega
 --the square,rounded
 have hv:mV a a=cg (M*M) (2*(e:Int)-2148):=by
  rw[(wL a a U U k0 k0).1,Bool.xor_self,bQ,Q,show M*2^e*(M*2^e)=M*M*2^(e+e) by rw[Nat.pow_add];ac_rfl,mA]
  congr 1
  omega
 have ao:=Ks M (by omega) (by omega)
 have G:M*M≠0:=Nat.mul_ne_zero (by omega) (by omega)
 obtain⟨u,hu⟩:∃u,bl (M*M)=u+53:=⟨bl (M*M)-53,by omega⟩
 have X:aE (M*M) (2*(e:Int)-2148)=(u:Int)+2*e-2148:=by unfold aE;rw[hu];omega
 have z:=cS (M*M) (2*(e:Int)-2148) G
 have H:d8 (M*M) (2*(e:Int)-2148)=dw (M*M) u:=by
  unfold d8
  rw[X,show 2*(e:Int)-2148-((u:Int)+2*e-2148)= -((u:Nat):Int) by omega,dk _ _ (by omega)]
 have Y:mV a a=dw (M*M) u+(u+2*e-1074)*4503599627370496:=by
  rw[hv,dl _ _ G (by rw[hu];omega),X,H,show((u:Int)+2*e-2148+1074).toNat=u+2*e-1074 by omega]
 rw[H]at z
 have I:=z.2.1 (by rw[X];omega)
 have Z:rv (mV a a)=dw (M*M) u*2^(u+2*e-1074):=by rw[Y];exact oC _ _ z.1 (fun _=>I)
 have am:mV a a<9218868437227405312:=by rw[Y];have:=z.1;omega
 have J:fR (mV a a)=mV a a:=by unfold fR;omega
 have s0:fK (mV a a)≠0:=fun h=>by
  have:=(cs _).1 h
  rw[J,Y]at this
  omega
 have s4:fK (mV a a)≠4:=fun h=>by
  have:=(ch _).1.1 h
  omega
 have sS:fS (mV a a)=false:=decide_eq_false (by omega)
 have aa:sV (mV a a)=tV (mV a a):=by
  unfold sV
  rw[if_neg s4,if_neg (by rintro(h|h);exact s0 h;omega),if_neg (by rw[sS];decide)]
 obtain⟨c1,L,c3⟩:=DB (M*M) u
 have F:(u=52∧bl (M*M)=105)∨(u=53∧M≠4503599627370496):=by omega
 have A:=IL
 have D:=BL
 obtain⟨T,hT⟩:∃T,T=dw (M*M) u*2^u:=⟨_,rfl⟩
 rw[←hT]at c1 L c3
 have t3:M=4503599627370496→rS (T*(1024*1024))=9223372036854775808:=fun O=>by
  rcases F with⟨q,_⟩|⟨_,q⟩
  ·have ae:T=4503599627370496*4503599627370496:=by
    rw[c3 (by rw[q,O]),O]
   exact Kq ae
  ·exact absurd O q
 have ar:(2*M-1)*(2*M-1)+4*M=4*(M*M)+1:=by
  obtain⟨x,hx⟩:∃x,M=x+1:=⟨M-1,by omega⟩
  rw[hx,show 2*(x+1)-1=2*x+1 by omega,dp,dp]
  have:2*x*(2*x)=4*(x*x):=by rw[show(4:Nat)=2*2 by decide];ac_rfl
  omega
 have ax:(2*M+1)*(2*M+1)=4*(M*M)+4*M+1:=by
  rw[dp]
  have:2*M*(2*M)=4*(M*M):=by rw[show(4:Nat)=2*2 by decide];ac_rfl
  omega
 have K:(2*M-1)*(2*M-1)<4*T∧4*T<(2*M+1)*(2*M+1):=by
  rcases F with⟨q,_⟩|⟨q,q2⟩
  ·rw[q,A]at c1 L
   omega
  ·rw[q,D]at c1 L
   omega
 have d:=Ar T M e (by omega) (by omega) (by omega) (by omega) K.1 K.2 t3
 --as the root of that number
 have hk:T*2^(2*e-1074)=rv (fR (mV a a)):=by
  rw[J,Z,hT,Nat.mul_assoc,←Nat.pow_add,show u+(2*e-1074)=u+2*e-1074 by omega]
 have ah:9007199254740992≤bB (T*2^20):=by
  refine GU (M3 (Kr (show 4503599627370496≤M by omega)) L ?_)
  rcases F with⟨q,_⟩|⟨q,_⟩
  ·rw[q,A];decide
  ·rw[q,D];exact Nat.le_refl _
 rw[show(1024:Nat)*1024=2^20 by decide]at d
 have:=(us (mV a a) T (2*e-1074) 20 ((e:Int)-1084) s0 hk (by omega) ah).1
 rw[aa,←this,show(e:Int)-1084-1=(e:Int)-1085 by omega,d,hr]
def dr(N:Nat):Nat:=N-bB N*bB N
theorem Mt(N p:Nat)(d:p<4):
  (4*dr N+p<4*bB N+1→bB (4*N+p)=2*bB N∧dr (4*N+p)=4*dr N+p)∧
  (¬4*dr N+p<4*bB N+1→bB (4*N+p)=2*bB N+1∧dr (4*N+p)=4*dr N+p-(4*bB N+1)):=by
 obtain⟨F,G⟩:=cj N
 have u:=dp (bB N)
 have z:=dp (2*bB N)
 have A:=dp (2*bB N+1)
 have D:2*bB N*(2*bB N)=4*(bB N*bB N):=by rw[show(4:Nat)=2*2 by decide];ac_rfl
 unfold dr
 refine⟨fun h=>?_,fun h=>?_⟩
 ·have e:bB (4*N+p)=2*bB N:=gR (by omega) (by omega)
  refine⟨e,?_⟩
  rw[e]
  omega
 ·have e:bB (4*N+p)=2*bB N+1:=gR (by omega) (by omega)
  refine⟨e,?_⟩
  rw[e]
  omega
theorem DC(N:Nat):dr N≤2*bB N:=by
 obtain⟨h,u⟩:=cj N
 have d:=dp (bB N)
 unfold dr
 omega
theorem xf(N:Nat):dr N=0↔bB N*bB N=N:=by
 obtain⟨d,h⟩:=cj N
 unfold dr
 omega
theorem DE{N k:Nat}(h:N<k*k):bB N<k:=by
 obtain⟨d,u⟩:=cj N
 exact cC.1 (by omega)
def mN(n i:Nat):Nat:=n/4^(32-i)
theorem As(n:Nat)(h:n<18446744073709551616):mN n 0=0:=by
 unfold mN
 rw[show(4:Nat)^(32-0)=18446744073709551616 by decide]
 omega
theorem DF(n:Nat):mN n 32=n:=by
 unfold mN
 simp
theorem At(n i:Nat)(h:i<32):mN n (i+1)=4*mN n i+n/2^(2*(31-i))%4:=by
 unfold mN
 have e:(4:Nat)^(32-i)=4^(32-(i+1))*4:=by rw[←Nat.pow_succ];congr 1;omega
 have d:(2:Nat)^(2*(31-i))=4^(32-(i+1)):=by rw[Nat.pow_mul,show 32-(i+1)=31-i by omega]
 rw[e,d,←Nat.div_div_eq_div_mul]
 omega
theorem GV(n i:Nat)(h:n<18446744073709551616):mN n i<18446744073709551616:=by
 unfold mN
 exact Nat.lt_of_le_of_lt (Nat.div_le_self _ _) h
theorem DG(n i:Nat)(h:n<18446744073709551616):bB (mN n i)<4294967296:=DE (Nat.lt_of_lt_of_le (GV n i h) (by decide))
theorem pn(n i:Nat)(h:n<18446744073709551616)(u:i≤22):bB (n*4^i)<18014398509481984:=by
 refine DE ?_
 have d:(4:Nat)^i≤4^22:=Nat.pow_le_pow_right (by decide) u
 rw[show(4:Nat)^22=17592186044416 by decide]at d
 have z:n*4^i≤n*17592186044416:=Nat.mul_le_mul_left _ d
 omega
theorem Au(n i:Nat):n*4^(i+1)=4*(n*4^i)+0:=by rw[Nat.pow_succ];ac_rfl
def nS(b:Nat):Nat:=(fD b).natAbs*2^(64-bl (fD b).natAbs-((dT b)%2).toNat)
def nT(b:Nat):Int:=dT b+(dT b)%2
theorem jF(b:Nat)(z:b<18446744073709551616)(A:ai b=true)(D:fK b≠0):
  nS b<18446744073709551616∧4611686018427387904≤nS b:=by
 obtain⟨I,J,K,L,O,Q,U,X⟩:=cQ b z A D
 obtain⟨Y,G,H⟩:=bK (fD b).natAbs (by omega)
 unfold nS
 have F:=Nat.two_pow_pos (64-bl (fD b).natAbs-((dT b)%2).toNat)
 have d:=(Nat.mul_lt_mul_right F).2 H
 have k2:=Nat.mul_le_mul_right (2^(64-bl (fD b).natAbs-((dT b)%2).toNat)) G
 rw[←Nat.pow_add]at d k2
 have h:2^(bl (fD b).natAbs+(64-bl (fD b).natAbs-((dT b)%2).toNat))≤2^64:=Nat.pow_le_pow_right (by decide) (by omega)
 have u:2^62≤2^(bl (fD b).natAbs-1+(64-bl (fD b).natAbs-((dT b)%2).toNat)):=Nat.pow_le_pow_right (by decide) (by omega)
 rw[show(2:Nat)^64=18446744073709551616 by decide]at h
 rw[show(2:Nat)^62=4611686018427387904 by decide]at u
 exact⟨Nat.lt_of_lt_of_le d h,Nat.le_trans u k2⟩
theorem GW(a:Nat)(u:a<18446744073709551616)(z:ai a=true)(h:fK a≠0):
  cg (rS (nS a*4^22)) (nT a/2-55)=tV a∧bM (oM (rS (nS a*4^22):Nat)).natAbs (oE (rS (nS a*4^22):Nat) (nT a/2-55))=tF a:=by
 obtain⟨α,I,D,J,K⟩:=nU a u z h
 obtain⟨L,O,Q,U,X,Y,Z,y8⟩:=cQ a u z h
 obtain⟨n1,F⟩:=jF a u z h
 have A:nS a*4^22=(fD a).natAbs*2^(64-bl (fD a).natAbs-((dT a)%2).toNat+44):=by
  unfold nS
  rw[Nat.pow_add,Nat.mul_assoc]
 have d:9007199254740992≤bB (nS a*4^22):=by
  refine wP ?_
  rw[show(2:Nat)^106=4611686018427387904*4^22 by decide]
  exact Nat.mul_le_mul_right _ F
 rw[A]at d⊢
 have G:dT a=(bl (fD a).natAbs:Int)+fX a:=rfl
 have H:nT a=dT a+dT a%2:=rfl
 have:=us a (fD a).natAbs α (64-bl (fD a).natAbs-((dT a)%2).toNat+44) (nT a/2-54) h D.symm (by omega) d
 rwa[show nT a/2-54-1=nT a/2-55 by omega]at this
theorem Mu(n:Nat)(h:n<18446744073709551616):rS (n*4^22)<36028797018963968:=by
 have:=pn n 22 h (by decide)
 unfold rS
 split<;>omega
end Go.Proofs.YtcbcmlaogehimaaGreatDoor
