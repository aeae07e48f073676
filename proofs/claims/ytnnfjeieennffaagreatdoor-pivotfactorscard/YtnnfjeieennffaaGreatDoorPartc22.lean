/- Part 22 of the texts. -/
import Derived.Test.YtnnfjeieennffaaGreatDoorPartc21
set_option maxHeartbeats 8000000
set_option maxRecDepth 20000
namespace Go.Proofs.YtnnfjeieennffaaGreatDoor
open Go.RowKit
theorem pa(x y S:Nat)(Q R:Nat→Nat)(w:World)(hy:y<9007199254740992)(N:Q 0=0∧R 0=x)
  (O:∀i,Q (i+1)=2*Q i+(if y≤R i then 1 else 0)∧R (i+1)=2*(R i-(if y≤R i then y else 0)))
  (t:∀i,R i<2*y) (z:∀i,i<55→Q i<18014398509481984) (h5:Q 55<36028797018963968) (U:S=2*Q 55+(if 0<R 55 then 1 else 0)):
  Calls Tryz.prog 205 #[.int .i64 x,.int .i64 y] w fun r w'=>r=.returned (.int .i64 (S:Nat))∧w=w':=by
 have f:=aa N;have A:=aa O;have h:=aa t;have D:=aa z;have d:=aa U
 clear N O t z U
 go_enter Tryz.func205,Tryz.ntmps205
 go_wp2
 go_loop [0,5,6] (fun p q i=>∃k:Nat,k≤55∧i=.int .i64 k∧p=.int .i64 (R k:Nat)∧q=.int .i64 (Q k:Nat)) (fun _ _ i=>55-(intOf i).toNat)
 case atStart=>exact⟨0,by omega,rfl,by rw[(uH f).2],by rw[(uH f).1];rfl⟩
 case round=>
  obtain⟨k,hk,rfl,rfl,rfl⟩:=hrel
  by_cases F:k<55
  ·have Y:=uH A k
   have Z:=uH h k
   have q3:=uH D k F
   obtain⟨V,X⟩:=Y
   have l:=aa V;have m:=aa X
   clear V X f A h D d
   generalize t:R k=r at*
   generalize z:Q k=q at*
   by_cases c:y≤r
   ·have G:(r:Int)≥(y:Int):=by omega
    have H:=aa (show Q (k+1)=2*q+1 by rw[uH l,if_pos c])
    have K:=aa (show R (k+1)=2*(r-y) by rw[uH m,if_pos c])
    clear l m
    go_wp2
    go_round
    case rel=>exact⟨k+1,by omega,by go_num,cQ (by rw[uH K];omega),cQ (by rw[uH H];omega)⟩
    case measure=>simp[intOf];omega
   ·have G:¬(r:Int)≥(y:Int):=by omega
    have H:=aa (show Q (k+1)=2*q by rw[uH l,if_neg c];rfl)
    have K:=aa (show R (k+1)=2*r by rw[uH m,if_neg c];rfl)
    clear l m
    go_wp2
    go_round
    case rel=>exact⟨k+1,by omega,by go_num,cQ (by rw[uH K];omega),cQ (by rw[uH H];omega)⟩
    case measure=>simp[intOf];omega
  ·have L:k=55:=by omega
   subst L
   have Z:=uH h 55
   clear f A h D
   generalize R 55=r at*
   generalize Q 55=q at*
   by_cases c:0<r
   ·have M:=aa (show S=2*q+1 by rw[uH d,if_pos c])
    have G:(r:Int)>0:=by omega
    clear d
    go_wp2
    go_ret
    exact⟨aM (by rw[uH M];omega),rfl⟩
   ·have M:=aa (show S=2*q by rw[uH d,if_neg c];rfl)
    have G:¬(r:Int)>0:=by omega
    clear d
    go_wp2
    go_ret
    exact⟨aM (by rw[uH M];omega),rfl⟩
theorem Jb(x y i:Nat)(f:x<2*y)(l:i<55):lQ x y i<18014398509481984:=by
 have h:=AG x y i f
 have d:(2:Nat)^i≤2^54:=Nat.pow_le_pow_right (by decide) (by omega)
 rw[show(2:Nat)^54=18014398509481984 by decide]at d
 exact Nat.lt_of_lt_of_le h d
theorem Jc(x y:Nat)(d:x<2*y):lQ x y 55<36028797018963968:=by
 have f:=AG x y 55 d
 rwa[show(2:Nat)^55=36028797018963968 by decide]at f
theorem qQ(x y:Nat)(w:World)(f:y<9007199254740992)(d:x<2*y):
  Calls Tryz.prog 205 #[.int .i64 x,.int .i64 y] w fun r w'=>r=.returned (.int .i64 (cD (x*2^54) y:Nat))∧w=w':=
 pa x y _ (lQ x y) (lR x y) w f (GX x y d) (fun i=>GY x y i (by omega)) (fun i=>I5 x y i (by omega)) (fun i h=>Jb x y i d h) (Jc x y d) (Ga x y)
theorem sZ(b:Nat)(z1 V z2 ln tp:Int)(w:World)(am:1≤ln∧ln≤53)
  (C1:∀w',Below w.heap.size w w'→Calls Tryz.prog 156 #[.int .u64 b] w' fun r L=>mu L r 0 z1 V∧Below w'.heap.size w' L)
  (C2:∀w' n a l c,aG w' (.agg #[.bool n,.slice a l c,.int .i64 V]) z1 V→Calls Tryz.prog 189 #[.agg #[.bool false,.slice a l c]] w' fun r L=>r=.returned (.int .i64 ln)∧Below w'.heap.size w' L)
  (C3:∀w' n a l c,aG w' (.agg #[.bool n,.slice a l c,.int .i64 V]) z1 V→Calls Tryz.prog 198 #[.agg #[.bool false,.slice a l c],.int .i64 (53-ln)] w' fun r L=>∃v,r=.returned (.tuple #[v,.int .i64 0])∧au w'.heap.size L v z2∧Below w'.heap.size w' L)
  (C4:∀B w' v,au B w' v z2→Calls Tryz.prog 211 #[v] w' fun r L=>r=.returned (.tuple #[.int .i64 z2,.int .i64 0])∧Below w'.heap.size w' L)
  (C5:∀w' n a l c,aG w' (.agg #[.bool n,.slice a l c,.int .i64 V]) z1 V→Calls Tryz.prog 171 #[.agg #[.bool false,.slice a l c,.int .i64 V]] w' fun r L=>r=.returned (.int .i64 tp)∧Below w'.heap.size w' L):
  Calls Tryz.prog 204 #[.int .u64 b] w fun r w'=>r=.returned (.tuple #[.int .i64 z2,.int .i64 tp])∧Below w.heap.size w w':=by
 have K1:=aa C1;have K2:=aa C2;have K3:=aa C3;have K4:=aa C4;have K5:=aa C5
 clear C1 C2 C3 C4 C5
 go_enter Tryz.func204,Tryz.ntmps204
 go_wp2_with fail
 refine(uH K1 _ (Below.refl _ _)).mono ?_
 rintro e w1 ⟨⟨v,rfl,hv⟩,d⟩
 obtain⟨n1,a1,c1,L1,rfl,i1⟩:=hv
 have x:=aB.new w1 (.bool n1) (.slice a1 L1.length c1) (.int .i64 V)
 have y0:=x.c0;have y1:=x.c1;have y2:=x.c2;have f0:=x.free 0;have f1:=x.free 1;have f2:=x.free 2
 clear x
 generalize hl:L1.length=l1 at*
 have hd:aG w1 (.agg #[.bool n1,.slice a1 l1 c1,.int .i64 V]) z1 V:=⟨n1,a1,c1,L1,by rw[hl],by rw[hl];exact i1⟩
 clear i1 hl K1
 go_wp2_with fail
 clear y0 y1 y2 f0 f1 f2
 have Z:Below w1.heap.size w1 (w1.alloc (.cells #[.bool false,.slice a1 l1 c1,.int .i64 V] 52)):=(Below.refl _ _).alloc (Nat.le_refl _) _
 have x:=aB.new w1 (.bool false) (.slice a1 l1 c1) (.int .i64 V)
 have HV:=aa (hd.below Z)
 have B1:=aa (d.trans (Z.mono d.size))
 clear hd d Z
 refine aq (fun W=>W=(w1.alloc (.cells #[.bool false,.slice a1 l1 c1,.int .i64 V] 52))) rfl ?_
 rintro t e0
 rw[←e0]at x HV B1
 clear e0
 generalize w1.heap.size=g at*
 have z:∀w',Below t.heap.size t w'→Below t.heap.size t w'∧w'.cell? ⟨g,0,none⟩=some (.bool false)∧w'.cell? ⟨g,1,none⟩=some (.slice a1 l1 c1):=fun w' h=>
  ⟨h,(x.all h).c0,(x.all h).c1⟩
 have Y:=aa z
 have XB:=aa x
 clear z x
 refine wp_region_held_drew (S:=(fun w'=>Below t.heap.size t w'∧w'.cell? ⟨g,0,none⟩=some (.bool false)∧w'.cell? ⟨g,1,none⟩=some (.slice a1 l1 c1))) (by kernel_rfl) ?_ (fun m=>?_)
 ·exact uH Y _ (Below.refl _ _).drew
 refine wpAnyH_take (i:=0) (oi:={dst:=some 16,op:=Op.fieldAddr 52 (Operand.tmp 4) 0,type:=0,pos:= "quotient.go:30",after:=#[],guard:=none}) (v:=Value.pointer (some ⟨g,0,none⟩)) rfl (by kernel_rfl) (by kernel_rfl) (by kernel_rfl) (fun _ _ _ h=>h) (Or.inl ⟨by rfl,?_⟩) (by assumption) ?_
 ·(intro w f;(try dsimp only at f);go_simp)
 simp only[Act.put,List.setIfInBounds_toArray,List.set_cons_zero,List.set_cons_succ]
 refine wpAnyH_take (i:=1) (oi:={dst:=some 17,op:=Op.load 50 (Operand.tmp 16),type:=50,pos:= "quotient.go:30",after:=#[{on:=0,ground:=Ground.data}],guard:=none}) (v:=(Value.agg #[.bool false,.slice a1 l1 c1])) rfl (by kernel_rfl) (by kernel_rfl) (by kernel_rfl) (fun _ _ _ h=>h) (Or.inl ⟨by rfl,?_⟩) (by assumption) ?_
 ·(intro w f;(try dsimp only at f);go_simp)
 simp only[Act.put,List.setIfInBounds_toArray,List.set_cons_zero,List.set_cons_succ]
 refine wpAnyH_take (i:=2) (oi:={dst:=some 18,op:=Op.fieldAddr 52 (Operand.tmp 4) 0,type:=0,pos:= "quotient.go:30",after:=#[],guard:=none}) (v:=Value.pointer (some ⟨g,0,none⟩)) rfl (by kernel_rfl) (by kernel_rfl) (by kernel_rfl) (fun _ _ _ h=>h) (Or.inl ⟨by rfl,?_⟩) (by assumption) ?_
 ·(intro w f;(try dsimp only at f);go_simp)
 simp only[Act.put,List.setIfInBounds_toArray,List.set_cons_zero,List.set_cons_succ]
 refine wpAnyH_take (i:=3) (oi:={dst:=some 19,op:=Op.load 50 (Operand.tmp 18),type:=50,pos:= "quotient.go:30",after:=#[{on:=2,ground:=Ground.data}],guard:=none}) (v:=(Value.agg #[.bool false,.slice a1 l1 c1])) rfl (by kernel_rfl) (by kernel_rfl) (by kernel_rfl) (fun _ _ _ h=>h) (Or.inl ⟨by rfl,?_⟩) (by assumption) ?_
 ·(intro w f;(try dsimp only at f);go_simp)
 simp only[Act.put,List.setIfInBounds_toArray,List.set_cons_zero,List.set_cons_succ]
 refine wpAnyH_ready (rs:=[4,10]) (by kernel_rfl) (by simp) ?_
 refine AllReadyH.cons (o:={dst:=some 20,op:=Op.call {callee:=Callee.value (Operand.func 189),args:=#[Operand.tmp 19],argTypes:=#[50]},type:=3,pos:= "quotient.go:30",after:=#[{on:=3,ground:=Ground.data}],guard:=none}) rfl (fun K z=>?_) (AllReadyH.cons (o:={dst:=some 6,op:=Op.alloc 50,type:=0,pos:= "quotient.go:30",after:=#[],guard:=none}) rfl (fun K z=>?_) AllReadyH.nil)
 ·go_simp
  refine(uH K2 _ _ _ _ _ ((uH HV).below (And.left (by assumption)))).mono ?_
  rintro e wn ⟨rfl,d⟩
  have ae:Below t.heap.size t wn:=Below.trans (And.left (by assumption)) (d.mono (Below.size (And.left (by assumption))))
  clear d
  go_wp2_with fail
  refine z.out _ _ ?_ (fun m=>?_)
  ·exact uH Y _ ae
  clear z K
  refine wpAnyH_take (i:=5) (oi:={dst:=some 21,op:=Op.binOp BinOp.sub 3 (Operand.const (Value.int IntKind.i64 53)) (Operand.tmp 20) 3,type:=3,pos:= "quotient.go:30",after:=#[{on:=4,ground:=Ground.data}],guard:=none}) (v:=(.int .i64 (53-ln))) rfl (by kernel_rfl) (by kernel_rfl) (by kernel_rfl) (fun _ _ _ h=>h) (Or.inl ⟨by rfl,?_⟩) (by assumption) ?_
  ·(intro w f;(try dsimp only at f);go_simp;exact a8 _ (by omega))
  simp only[Act.put,List.setIfInBounds_toArray,List.set_cons_zero,List.set_cons_succ]
  refine wpAnyH_ready (rs:=[6,10]) (by kernel_rfl) (by simp) ?_
  refine AllReadyH.cons (o:={dst:=some 22,op:=Op.call {callee:=Callee.value (Operand.func 198),args:=#[Operand.tmp 17,Operand.tmp 21],argTypes:=#[50,3]},type:=187,pos:= "quotient.go:30",after:=#[{on:=1,ground:=Ground.data},{on:=5,ground:=Ground.data},{on:=4,ground:=Ground.chain}],guard:=none}) rfl (fun K z=>?_) (AllReadyH.cons (o:={dst:=some 6,op:=Op.alloc 50,type:=0,pos:= "quotient.go:30",after:=#[],guard:=none}) rfl (fun K z=>?_) AllReadyH.nil)
  ·go_simp
   refine(uH K3 _ _ _ _ _ ((uH HV).below (And.left (by assumption)))).mono ?_
   rintro e M ⟨v,rfl,⟨A,D,F,L2,rfl,i2⟩,d⟩
   have N:Below t.heap.size t M:=Below.trans (And.left (by assumption)) (d.mono (Below.size (And.left (by assumption))))
   have I2:=aa (show au 0 M (.agg #[.bool A,.slice D L2.length F]) z2 from au.mono ⟨A,D,F,L2,rfl,i2⟩ (Nat.zero_le _))
   clear i2
   generalize L2.length=H at*
   clear d
   go_wp2_with fail
   refine z.out _ _ ?_ (fun m=>?_)
   ·exact uH Y _ N
   clear z K
   refine wpAnyH_take (i:=7) (oi:={dst:=some 15,op:=Op.move (Operand.tmp 22),type:=187,pos:= "quotient.go:30",after:=#[{on:=6,ground:=Ground.data}],guard:=none}) (v:=(Value.tuple #[.agg #[.bool A,.slice D H F],.int .i64 0])) rfl (by kernel_rfl) (by kernel_rfl) (by kernel_rfl) (fun _ _ _ h=>h) (Or.inl ⟨by rfl,?_⟩) (by assumption) ?_
   ·(intro w f;(try dsimp only at f);go_simp)
   simp only[Act.put,List.setIfInBounds_toArray,List.set_cons_zero,List.set_cons_succ]
   refine wpAnyH_take (i:=8) (oi:={dst:=some 23,op:=Op.extract (Operand.tmp 15) 0,type:=50,pos:= "quotient.go:30",after:=#[{on:=7,ground:=Ground.data}],guard:=none}) (v:=(Value.agg #[.bool A,.slice D H F])) rfl (by kernel_rfl) (by kernel_rfl) (by kernel_rfl) (fun _ _ _ h=>h) (Or.inl ⟨by rfl,?_⟩) (by assumption) ?_
   ·(intro w f;(try dsimp only at f);go_simp)
   simp only[Act.put,List.setIfInBounds_toArray,List.set_cons_zero,List.set_cons_succ]
   refine wpAnyH_take (i:=9) (oi:={dst:=some 24,op:=Op.extract (Operand.tmp 15) 1,type:=27,pos:= "quotient.go:30",after:=#[{on:=7,ground:=Ground.data},{on:=11,ground:=Ground.gcOnly Departure.lateStores}],guard:=none}) (v:=(.int .i64 0)) rfl (by kernel_rfl) (by kernel_rfl) (by kernel_rfl) (fun _ _ _ h=>h) (Or.inl ⟨by rfl,?_⟩) (by assumption) ?_
   ·(intro w f;(try dsimp only at f);go_simp)
   simp only[Act.put,List.setIfInBounds_toArray,List.set_cons_zero,List.set_cons_succ]
   refine wpAnyH_ready (rs:=[10]) (by kernel_rfl) (by simp) ?_
   refine AllReadyH.cons (o:={dst:=some 6,op:=Op.alloc 50,type:=0,pos:= "quotient.go:30",after:=#[],guard:=none}) rfl (fun K z=>?_) AllReadyH.nil
   go_wp2_with fail
   refine z.out _ _ ?_ (fun m=>?_)
   ·exact uH Y _ (Below.alloc (And.left (by assumption)) (Below.size (And.left (by assumption))) _)
   clear z K
   have G:=aC.new M (.bool false) (.slice none 0 0)
   have Q:t.heap.size≤M.heap.size:=Below.size (B:=t.heap.size) (w:=t) N
   have I0:=I2
   have I2:=aa (show au 0 (M.alloc (.cells #[.bool false,.slice none 0 0] 50)) (.agg #[.bool A,.slice D H F]) z2 from(uH I2).below ((Below.refl _ _).alloc (Nat.le_refl _) _))
   have hW:=Below.alloc N Q (.cells #[.bool false,.slice none 0 0] 50)
   have IS:=aa (show au 0 ((((M.alloc (.cells #[.bool false,.slice none 0 0] 50)).setCell ⟨M.heap.size,0,none⟩ (.bool A)).setCell ⟨M.heap.size,1,none⟩ (.slice D H F))) (.agg #[.bool A,.slice D H F]) z2 from(uH I0).below ((((Below.refl _ _).alloc (Nat.le_refl _) _).setCell (Nat.le_refl _) _).setCell (Nat.le_refl _) _))
   generalize aj:(M.alloc (.cells #[.bool false,.slice none 0 0] 50))=wa at*
   generalize M.heap.size=U at*
   refine wpAnyH_ready (rs:=[11]) (by kernel_rfl) (by simp) ?_
   refine AllReadyH.cons (o:={dst:=none,op:=Op.store 50 (Operand.tmp 6) (Operand.tmp 23),type:=0,pos:= "quotient.go:30",after:=#[{on:=10,ground:=Ground.data},{on:=8,ground:=Ground.data},{on:=6,ground:=Ground.chain},{on:=0,ground:=Ground.phase},{on:=1,ground:=Ground.phase},{on:=2,ground:=Ground.phase},{on:=3,ground:=Ground.phase},{on:=4,ground:=Ground.phase},{on:=5,ground:=Ground.phase},{on:=6,ground:=Ground.phase},{on:=7,ground:=Ground.phase},{on:=8,ground:=Ground.phase},{on:=9,ground:=Ground.textOnly Departure.lateStores},{on:=10,ground:=Ground.phase}],guard:=none}) rfl (fun K z=>?_) AllReadyH.nil
   have q0:=G.c0;have q1:=G.c1;have f0:=G.free 0;have f1:=G.free 1
   go_wp2_with fail
   refine z.out _ _ ?_ (fun m=>?_)
   ·exact uH Y _ (Below.setCell (Below.setCell (And.left (by assumption)) Q _) Q _)
   clear z K q0 q1 f0 f1
   refine wpAnyH_take (i:=12) (oi:={dst:=some 7,op:=Op.assign (Operand.tmp 24),type:=27,pos:= "quotient.go:30",after:=#[{on:=9,ground:=Ground.data},{on:=11,ground:=Ground.chain},{on:=0,ground:=Ground.phase},{on:=1,ground:=Ground.phase},{on:=2,ground:=Ground.phase},{on:=3,ground:=Ground.phase},{on:=4,ground:=Ground.phase},{on:=5,ground:=Ground.phase},{on:=6,ground:=Ground.phase},{on:=7,ground:=Ground.phase},{on:=8,ground:=Ground.phase},{on:=9,ground:=Ground.phase},{on:=10,ground:=Ground.phase},{on:=11,ground:=Ground.phase}],guard:=none}) (v:=(.int .i64 0)) rfl (by kernel_rfl) (by kernel_rfl) (by kernel_rfl) (fun _ _ _ h=>h) (Or.inl ⟨by rfl,?_⟩) (by assumption) ?_
   ·(intro w f;(try dsimp only at f);go_simp)
   simp only[Act.put,List.setIfInBounds_toArray,List.set_cons_zero,List.set_cons_succ]
   refine wpAnyH_done (by kernel_rfl) ?_ _
   have bz:=G.put (.bool A) (.slice D H F)
   have HZ:=aa (show au 0 ((wa.setCell ⟨U,0,none⟩ (.bool A)).setCell ⟨U,1,none⟩ (.slice D H F)) (.agg #[.bool A,.slice D H F]) z2 from uH IS)
   have BZ:=aa (show Below t.heap.size t ((wa.setCell ⟨U,0,none⟩ (.bool A)).setCell ⟨U,1,none⟩ (.slice D H F))from Below.setCell (Below.setCell hW Q _) Q _)
   have r0:=bz.c0;have r1:=bz.c1
   clear G I2 m
   generalize ((wa.setCell ⟨U,0,none⟩ (.bool A)).setCell ⟨U,1,none⟩ (.slice D H F))=WE at*
   go_wp2_with fail
   refine(uH K4 _ _ _ (uH HZ)).mono ?_
   rintro e we ⟨rfl,d⟩
   have O:=aa ((uH BZ).trans (d.mono (uH BZ).size))
   have HW:=aa ((uH HV).below (uH O))
   have X:=(uH XB).all (uH O)
   have y0:=X.c0;have y1:=X.c1;have y2:=X.c2
   clear r0 r1 bz d BZ HZ X
   go_wp2_with fail
   refine(uH K5 _ _ _ _ _ (uH HW)).mono ?_
   rintro e wf ⟨rfl,d⟩
   have BF:=aa ((uH B1).trans (((uH O).trans (d.mono (uH O).size)).mono (uH B1).size))
   clear d O HW y0 y1 y2
   go_wp2
   exact bodyPost_ret (v:=.tuple #[.int .i64 z2,.int .i64 tp]) (by simp[results,Tryz.results204,go_sem]) rfl ⟨rfl,uH BF⟩
  ·go_wp2_with fail
   refine z.out _ _ ?_ (fun m=>?_)
   ·exact uH Y _ (Below.alloc (And.left (by assumption)) (Below.size (And.left (by assumption))) _)
   clear z K
   have G:=aC.new wn (.bool false) (.slice none 0 0)
   have Q:t.heap.size≤wn.heap.size:=Below.size (B:=t.heap.size) (w:=t) ae
   have hW:=Below.alloc ae Q (.cells #[.bool false,.slice none 0 0] 50)
   generalize aj:(wn.alloc (.cells #[.bool false,.slice none 0 0] 50))=wa at*
   generalize wn.heap.size=U at*
   refine wpAnyH_ready (rs:=[6]) (by kernel_rfl) (by simp) ?_
   refine AllReadyH.cons (o:={dst:=some 22,op:=Op.call {callee:=Callee.value (Operand.func 198),args:=#[Operand.tmp 17,Operand.tmp 21],argTypes:=#[50,3]},type:=187,pos:= "quotient.go:30",after:=#[{on:=1,ground:=Ground.data},{on:=5,ground:=Ground.data},{on:=4,ground:=Ground.chain}],guard:=none}) rfl (fun K z=>?_) AllReadyH.nil
   go_simp
   refine(uH K3 _ _ _ _ _ ((uH HV).below (And.left (by assumption)))).mono ?_
   rintro e M ⟨v,rfl,⟨A,D,F,L2,rfl,i2⟩,d⟩
   have N:Below t.heap.size t M:=Below.trans (And.left (by assumption)) (d.mono (Below.size (And.left (by assumption))))
   have I2:=aa (show au (U+1) M (.agg #[.bool A,.slice D L2.length F]) z2 from au.mono ⟨A,D,F,L2,rfl,i2⟩ (Nat.succ_le_of_lt G.lt))
   have G:=G.all d
   clear i2
   generalize L2.length=H at*
   clear d
   go_wp2_with fail
   refine z.out _ _ ?_ (fun m=>?_)
   ·exact uH Y _ N
   clear z K
   refine wpAnyH_take (i:=7) (oi:={dst:=some 15,op:=Op.move (Operand.tmp 22),type:=187,pos:= "quotient.go:30",after:=#[{on:=6,ground:=Ground.data}],guard:=none}) (v:=(Value.tuple #[.agg #[.bool A,.slice D H F],.int .i64 0])) rfl (by kernel_rfl) (by kernel_rfl) (by kernel_rfl) (fun _ _ _ h=>h) (Or.inl ⟨by rfl,?_⟩) (by assumption) ?_
   ·(intro w f;(try dsimp only at f);go_simp)
   simp only[Act.put,List.setIfInBounds_toArray,List.set_cons_zero,List.set_cons_succ]
   refine wpAnyH_take (i:=8) (oi:={dst:=some 23,op:=Op.extract (Operand.tmp 15) 0,type:=50,pos:= "quotient.go:30",after:=#[{on:=7,ground:=Ground.data}],guard:=none}) (v:=(Value.agg #[.bool A,.slice D H F])) rfl (by kernel_rfl) (by kernel_rfl) (by kernel_rfl) (fun _ _ _ h=>h) (Or.inl ⟨by rfl,?_⟩) (by assumption) ?_
   ·(intro w f;(try dsimp only at f);go_simp)
   simp only[Act.put,List.setIfInBounds_toArray,List.set_cons_zero,List.set_cons_succ]
   refine wpAnyH_take (i:=9) (oi:={dst:=some 24,op:=Op.extract (Operand.tmp 15) 1,type:=27,pos:= "quotient.go:30",after:=#[{on:=7,ground:=Ground.data},{on:=11,ground:=Ground.gcOnly Departure.lateStores}],guard:=none}) (v:=(.int .i64 0)) rfl (by kernel_rfl) (by kernel_rfl) (by kernel_rfl) (fun _ _ _ h=>h) (Or.inl ⟨by rfl,?_⟩) (by assumption) ?_
   ·(intro w f;(try dsimp only at f);go_simp)
   simp only[Act.put,List.setIfInBounds_toArray,List.set_cons_zero,List.set_cons_succ]
   refine wpAnyH_ready (rs:=[11]) (by kernel_rfl) (by simp) ?_
   refine AllReadyH.cons (o:={dst:=none,op:=Op.store 50 (Operand.tmp 6) (Operand.tmp 23),type:=0,pos:= "quotient.go:30",after:=#[{on:=10,ground:=Ground.data},{on:=8,ground:=Ground.data},{on:=6,ground:=Ground.chain},{on:=0,ground:=Ground.phase},{on:=1,ground:=Ground.phase},{on:=2,ground:=Ground.phase},{on:=3,ground:=Ground.phase},{on:=4,ground:=Ground.phase},{on:=5,ground:=Ground.phase},{on:=6,ground:=Ground.phase},{on:=7,ground:=Ground.phase},{on:=8,ground:=Ground.phase},{on:=9,ground:=Ground.textOnly Departure.lateStores},{on:=10,ground:=Ground.phase}],guard:=none}) rfl (fun K z=>?_) AllReadyH.nil
   have q0:=G.c0;have q1:=G.c1;have f0:=G.free 0;have f1:=G.free 1
   go_wp2_with fail
   refine z.out _ _ ?_ (fun m=>?_)
   ·exact uH Y _ (Below.setCell (Below.setCell (And.left (by assumption)) Q _) Q _)
   clear z K q0 q1 f0 f1
   refine wpAnyH_take (i:=12) (oi:={dst:=some 7,op:=Op.assign (Operand.tmp 24),type:=27,pos:= "quotient.go:30",after:=#[{on:=9,ground:=Ground.data},{on:=11,ground:=Ground.chain},{on:=0,ground:=Ground.phase},{on:=1,ground:=Ground.phase},{on:=2,ground:=Ground.phase},{on:=3,ground:=Ground.phase},{on:=4,ground:=Ground.phase},{on:=5,ground:=Ground.phase},{on:=6,ground:=Ground.phase},{on:=7,ground:=Ground.phase},{on:=8,ground:=Ground.phase},{on:=9,ground:=Ground.phase},{on:=10,ground:=Ground.phase},{on:=11,ground:=Ground.phase}],guard:=none}) (v:=(.int .i64 0)) rfl (by kernel_rfl) (by kernel_rfl) (by kernel_rfl) (fun _ _ _ h=>h) (Or.inl ⟨by rfl,?_⟩) (by assumption) ?_
   ·(intro w f;(try dsimp only at f);go_simp)
   simp only[Act.put,List.setIfInBounds_toArray,List.set_cons_zero,List.set_cons_succ]
   refine wpAnyH_done (by kernel_rfl) ?_ _
   have bz:=G.put (.bool A) (.slice D H F)
   have HZ:=aa (show au 0 ((M.setCell ⟨U,0,none⟩ (.bool A)).setCell ⟨U,1,none⟩ (.slice D H F)) (.agg #[.bool A,.slice D H F]) z2 from((uH I2).put2 (p:=⟨U,0,none⟩) (q:=⟨U,1,none⟩) (by simp) (by simp) (.bool A) (.slice D H F)).mono (Nat.zero_le _))
   have BZ:=aa (show Below t.heap.size t ((M.setCell ⟨U,0,none⟩ (.bool A)).setCell ⟨U,1,none⟩ (.slice D H F))from Below.setCell (Below.setCell N Q _) Q _)
   have r0:=bz.c0;have r1:=bz.c1
   clear G I2 m
   generalize ((M.setCell ⟨U,0,none⟩ (.bool A)).setCell ⟨U,1,none⟩ (.slice D H F))=WE at*
   go_wp2_with fail
   refine(uH K4 _ _ _ (uH HZ)).mono ?_
   rintro e we ⟨rfl,d⟩
   have O:=aa ((uH BZ).trans (d.mono (uH BZ).size))
   have HW:=aa ((uH HV).below (uH O))
   have X:=(uH XB).all (uH O)
   have y0:=X.c0;have y1:=X.c1;have y2:=X.c2
   clear r0 r1 bz d BZ HZ X
   go_wp2_with fail
   refine(uH K5 _ _ _ _ _ (uH HW)).mono ?_
   rintro e wf ⟨rfl,d⟩
   have BF:=aa ((uH B1).trans (((uH O).trans (d.mono (uH O).size)).mono (uH B1).size))
   clear d O HW y0 y1 y2
   go_wp2
   exact bodyPost_ret (v:=.tuple #[.int .i64 z2,.int .i64 tp]) (by simp[results,Tryz.results204,go_sem]) rfl ⟨rfl,uH BF⟩
 ·go_wp2_with fail
  refine z.out _ _ ?_ (fun m=>?_)
  ·exact uH Y _ (((Below.refl t.heap.size t).alloc (Nat.le_refl _) _).drew)
  clear z K
  have G:aC (t.alloc (.cells #[.bool false,.slice none 0 0] 50)).drew t.heap.size (.bool false) (.slice none 0 0):=(aC.new t (.bool false) (.slice none 0 0)).drew
  have Q:t.heap.size≤t.heap.size:=Nat.le_refl _
  generalize aj:(t.alloc (.cells #[.bool false,.slice none 0 0] 50)).drew=wa at*
  refine wpAnyH_ready (rs:=[4]) (by kernel_rfl) (by simp) ?_
  refine AllReadyH.cons (o:={dst:=some 20,op:=Op.call {callee:=Callee.value (Operand.func 189),args:=#[Operand.tmp 19],argTypes:=#[50]},type:=3,pos:= "quotient.go:30",after:=#[{on:=3,ground:=Ground.data}],guard:=none}) rfl (fun K z=>?_) AllReadyH.nil
  go_simp
  refine(uH K2 _ _ _ _ _ ((uH HV).below (And.left (by assumption)))).mono ?_
  rintro e wn ⟨rfl,d⟩
  have ae:Below t.heap.size t wn:=Below.trans (And.left (by assumption)) (d.mono (Below.size (And.left (by assumption))))
  have G:=G.all d
  clear d
  go_wp2_with fail
  refine z.out _ _ ?_ (fun m=>?_)
  ·exact uH Y _ ae
  clear z K
  refine wpAnyH_take (i:=5) (oi:={dst:=some 21,op:=Op.binOp BinOp.sub 3 (Operand.const (Value.int IntKind.i64 53)) (Operand.tmp 20) 3,type:=3,pos:= "quotient.go:30",after:=#[{on:=4,ground:=Ground.data}],guard:=none}) (v:=(.int .i64 (53-ln))) rfl (by kernel_rfl) (by kernel_rfl) (by kernel_rfl) (fun _ _ _ h=>h) (Or.inl ⟨by rfl,?_⟩) (by assumption) ?_
  ·(intro w f;(try dsimp only at f);go_simp;exact a8 _ (by omega))
  simp only[Act.put,List.setIfInBounds_toArray,List.set_cons_zero,List.set_cons_succ]
  refine wpAnyH_ready (rs:=[6]) (by kernel_rfl) (by simp) ?_
  refine AllReadyH.cons (o:={dst:=some 22,op:=Op.call {callee:=Callee.value (Operand.func 198),args:=#[Operand.tmp 17,Operand.tmp 21],argTypes:=#[50,3]},type:=187,pos:= "quotient.go:30",after:=#[{on:=1,ground:=Ground.data},{on:=5,ground:=Ground.data},{on:=4,ground:=Ground.chain}],guard:=none}) rfl (fun K z=>?_) AllReadyH.nil
  go_simp
  refine(uH K3 _ _ _ _ _ ((uH HV).below (And.left (by assumption)))).mono ?_
  rintro e M ⟨v,rfl,⟨A,D,F,L2,rfl,i2⟩,d⟩
  have N:Below t.heap.size t M:=Below.trans (And.left (by assumption)) (d.mono (Below.size (And.left (by assumption))))
  have I2:=aa (show au (t.heap.size+1) M (.agg #[.bool A,.slice D L2.length F]) z2 from au.mono ⟨A,D,F,L2,rfl,i2⟩ (Nat.succ_le_of_lt G.lt))
  have G:=G.all d
  clear i2
  generalize L2.length=H at*
  clear d
  go_wp2_with fail
  refine z.out _ _ ?_ (fun m=>?_)
  ·exact uH Y _ N
  clear z K
  refine wpAnyH_take (i:=7) (oi:={dst:=some 15,op:=Op.move (Operand.tmp 22),type:=187,pos:= "quotient.go:30",after:=#[{on:=6,ground:=Ground.data}],guard:=none}) (v:=(Value.tuple #[.agg #[.bool A,.slice D H F],.int .i64 0])) rfl (by kernel_rfl) (by kernel_rfl) (by kernel_rfl) (fun _ _ _ h=>h) (Or.inl ⟨by rfl,?_⟩) (by assumption) ?_
  ·(intro w f;(try dsimp only at f);go_simp)
  simp only[Act.put,List.setIfInBounds_toArray,List.set_cons_zero,List.set_cons_succ]
  refine wpAnyH_take (i:=8) (oi:={dst:=some 23,op:=Op.extract (Operand.tmp 15) 0,type:=50,pos:= "quotient.go:30",after:=#[{on:=7,ground:=Ground.data}],guard:=none}) (v:=(Value.agg #[.bool A,.slice D H F])) rfl (by kernel_rfl) (by kernel_rfl) (by kernel_rfl) (fun _ _ _ h=>h) (Or.inl ⟨by rfl,?_⟩) (by assumption) ?_
  ·(intro w f;(try dsimp only at f);go_simp)
  simp only[Act.put,List.setIfInBounds_toArray,List.set_cons_zero,List.set_cons_succ]
  refine wpAnyH_take (i:=9) (oi:={dst:=some 24,op:=Op.extract (Operand.tmp 15) 1,type:=27,pos:= "quotient.go:30",after:=#[{on:=7,ground:=Ground.data},{on:=11,ground:=Ground.gcOnly Departure.lateStores}],guard:=none}) (v:=(.int .i64 0)) rfl (by kernel_rfl) (by kernel_rfl) (by kernel_rfl) (fun _ _ _ h=>h) (Or.inl ⟨by rfl,?_⟩) (by assumption) ?_
  ·(intro w f;(try dsimp only at f);go_simp)
  simp only[Act.put,List.setIfInBounds_toArray,List.set_cons_zero,List.set_cons_succ]
  refine wpAnyH_ready (rs:=[11]) (by kernel_rfl) (by simp) ?_
  refine AllReadyH.cons (o:={dst:=none,op:=Op.store 50 (Operand.tmp 6) (Operand.tmp 23),type:=0,pos:= "quotient.go:30",after:=#[{on:=10,ground:=Ground.data},{on:=8,ground:=Ground.data},{on:=6,ground:=Ground.chain},{on:=0,ground:=Ground.phase},{on:=1,ground:=Ground.phase},{on:=2,ground:=Ground.phase},{on:=3,ground:=Ground.phase},{on:=4,ground:=Ground.phase},{on:=5,ground:=Ground.phase},{on:=6,ground:=Ground.phase},{on:=7,ground:=Ground.phase},{on:=8,ground:=Ground.phase},{on:=9,ground:=Ground.textOnly Departure.lateStores},{on:=10,ground:=Ground.phase}],guard:=none}) rfl (fun K z=>?_) AllReadyH.nil
  have q0:=G.c0;have q1:=G.c1;have f0:=G.free 0;have f1:=G.free 1
  go_wp2_with fail
  refine z.out _ _ ?_ (fun m=>?_)
  ·exact uH Y _ (Below.setCell (Below.setCell (And.left (by assumption)) Q _) Q _)
  clear z K q0 q1 f0 f1
  refine wpAnyH_take (i:=12) (oi:={dst:=some 7,op:=Op.assign (Operand.tmp 24),type:=27,pos:= "quotient.go:30",after:=#[{on:=9,ground:=Ground.data},{on:=11,ground:=Ground.chain},{on:=0,ground:=Ground.phase},{on:=1,ground:=Ground.phase},{on:=2,ground:=Ground.phase},{on:=3,ground:=Ground.phase},{on:=4,ground:=Ground.phase},{on:=5,ground:=Ground.phase},{on:=6,ground:=Ground.phase},{on:=7,ground:=Ground.phase},{on:=8,ground:=Ground.phase},{on:=9,ground:=Ground.phase},{on:=10,ground:=Ground.phase},{on:=11,ground:=Ground.phase}],guard:=none}) (v:=(.int .i64 0)) rfl (by kernel_rfl) (by kernel_rfl) (by kernel_rfl) (fun _ _ _ h=>h) (Or.inl ⟨by rfl,?_⟩) (by assumption) ?_
  ·(intro w f;(try dsimp only at f);go_simp)
  simp only[Act.put,List.setIfInBounds_toArray,List.set_cons_zero,List.set_cons_succ]
  refine wpAnyH_done (by kernel_rfl) ?_ _
  have bz:=G.put (.bool A) (.slice D H F)
  have HZ:=aa (show au 0 ((M.setCell ⟨t.heap.size,0,none⟩ (.bool A)).setCell ⟨t.heap.size,1,none⟩ (.slice D H F)) (.agg #[.bool A,.slice D H F]) z2 from((uH I2).put2 (p:=⟨t.heap.size,0,none⟩) (q:=⟨t.heap.size,1,none⟩) (by simp) (by simp) (.bool A) (.slice D H F)).mono (Nat.zero_le _))
  have BZ:=aa (show Below t.heap.size t ((M.setCell ⟨t.heap.size,0,none⟩ (.bool A)).setCell ⟨t.heap.size,1,none⟩ (.slice D H F))from Below.setCell (Below.setCell N Q _) Q _)
  have r0:=bz.c0;have r1:=bz.c1
  clear G I2 m
  generalize ((M.setCell ⟨t.heap.size,0,none⟩ (.bool A)).setCell ⟨t.heap.size,1,none⟩ (.slice D H F))=WE at*
  go_wp2_with fail
  refine(uH K4 _ _ _ (uH HZ)).mono ?_
  rintro e we ⟨rfl,d⟩
  have O:=aa ((uH BZ).trans (d.mono (uH BZ).size))
  have HW:=aa ((uH HV).below (uH O))
  have X:=(uH XB).all (uH O)
  have y0:=X.c0;have y1:=X.c1;have y2:=X.c2
  clear r0 r1 bz d BZ HZ X
  go_wp2_with fail
  refine(uH K5 _ _ _ _ _ (uH HW)).mono ?_
  rintro e wf ⟨rfl,d⟩
  have BF:=aa ((uH B1).trans (((uH O).trans (d.mono (uH O).size)).mono (uH B1).size))
  clear d O HW y0 y1 y2
  go_wp2
  exact bodyPost_ret (v:=.tuple #[.int .i64 z2,.int .i64 tp]) (by simp[results,Tryz.results204,go_sem]) rfl ⟨rfl,uH BF⟩
theorem aG.limbs{w:World}{n:Bool}{a:Option Addr}{l c:Nat}{X m Y:Int}(h:aG w (.agg #[.bool n,.slice a l c,.int .i64 X]) m Y)(t:m.natAbs<dE):
  ∃L,l=L.length∧ag w a c L∧ar false L=true∧ak L=m.natAbs∧L.length≤512:=by
 obtain⟨H,K,M,L,f,A,d,D,F,N⟩:=h.right t
 simp only[Value.agg.injEq,Array.mk.injEq,List.cons.injEq,Value.bool.injEq,Value.slice.injEq,and_true]at f
 obtain⟨rfl,⟨rfl,G,rfl⟩,_⟩:=f
 have z:ar false L=true:=by
  simp only[ar,Bool.and_eq_true,decide_eq_true_eq,Bool.not_eq_true',Bool.and_eq_false_iff,decide_eq_false_iff_not,Bool.or_eq_true]at d⊢
  exact⟨⟨d.1.1,Or.inr trivial⟩,d.2⟩
 exact⟨L,G,A,z,by rw[←D,aP],F⟩
theorem AY{B:Nat}{w:World}{v:Value}{x:Int}(m:au B w v x)(F:-9223372036854775808≤x)(G:x≤9223372036854775807):
  Calls Tryz.prog 211 #[v] w fun e w'=>e=.returned (.tuple #[.int .i64 x,.int .i64 0])∧Below w.heap.size w w':=by
 obtain⟨d,t,z,A,rfl,D,h,l,H⟩:=m.right (cW _ (by omega))
 have:=pL d t z A w D (by omega)
 have f:io x=true:=by unfold io;rw[decide_eq_true (by omega)]
 rwa[show rF d A=x by unfold rF;rw[h,l,f];rfl,show rE d A=0 by unfold rE;rw[h,l,f];rfl]at this
theorem nV(b:Nat)(w:World)(A:b<18446744073709551616)(D:ap b=true)(K:fK b≠0)(M:cC w):
  Calls Tryz.prog 204 #[.int .u64 b] w fun r w'=>r=.returned (.tuple #[.int .i64 (dS b:Nat),.int .i64 (dT b)])∧Below w.heap.size w w':=by
 obtain⟨O,Q,U,V,X,Y,Z,x8⟩:=cJ b A D K
 have z:(fD b).natAbs<dE:=cW _ (by omega)
 have N:(dS b:Int)=((fD b).natAbs*2^(53-(bl (fD b).natAbs:Int)).toNat:Nat):=by
  unfold dS
  rw[show(53-(bl (fD b).natAbs:Int)).toNat=53-bl (fD b).natAbs by omega]
 refine sZ b (fD b) (fX b) (dS b:Nat) (bl (fD b).natAbs:Nat) (dT b) w (by omega) (fun w' h=>dl b w' A D (M.all h)) ?_ ?_ ?_ ?_
 ·intro w' n a l c h
  obtain⟨L,rfl,d,m,t,H⟩:=h.limbs z
  have:=qx false a c L w' d (by omega)
  rwa[iy d.2.1 m,t]at this
 ·intro w' n a l c h
  obtain⟨L,rfl,d,m,t,H⟩:=h.limbs z
  have:=gW false a c L (53-(bl (fD b).natAbs:Int)) w' d (by omega) (by omega)
  have F:oY false L (53-(bl (fD b).natAbs:Int))=(dS b:Int):=by
   unfold oY
   rw[if_pos (by omega),t,N];rfl
  have f:k8 false L (53-(bl (fD b).natAbs:Int))=true:=by unfold k8;rw[m,decide_eq_true (by omega)];rfl
  have G:((dS b:Nat):Int).natAbs<dE:=cW _ (by omega)
  rwa[show ur false L (53-(bl (fD b).natAbs:Int))=0 by unfold ur;rw[f,if_pos rfl,F,fh _ G],show rW false L (53-(bl (fD b).natAbs:Int))=(dS b:Nat) by unfold rW;rw[f,if_pos rfl,F,fi _ G]]at this
 ·intro B w' v h
  exact AY h (by omega) (by omega)
 ·intro w' n a l c h
  obtain⟨L,rfl,d,m,t,H⟩:=h.limbs z
  have:=kn false a c L (fX b) w' d (by omega)
  rwa[iy d.2.1 m,t,a8 _ (by omega)]at this
theorem s6(a b:Nat)(x y l m q E M X N:Int)(w:World)(r o:Nat)(ht:-3000≤l∧l≤3000∧-3000≤m∧m≤3000)(V:E=l-m-55)
  (Y:∀w',Below w.heap.size w w'→Calls Tryz.prog 204 #[.int .u64 a] w' fun r f=>r=.returned (.tuple #[.int .i64 x,.int .i64 l])∧Below w'.heap.size w' f)
  (Z:∀w',Below w.heap.size w w'→Calls Tryz.prog 204 #[.int .u64 b] w' fun r f=>r=.returned (.tuple #[.int .i64 y,.int .i64 m])∧Below w'.heap.size w' f)
  (C3:∀w',Calls Tryz.prog 205 #[.int .i64 x,.int .i64 y] w' fun r f=>r=.returned (.int .i64 q)∧w'=f)
  (C4:∀w',Calls Tryz.prog 181 #[.int .i64 q] w' fun r f=>∃v,r=.returned v∧au w'.heap.size f v q∧Below w'.heap.size w' f)
  (C5:∀B w' v,Below w.heap.size w w'→au B w' v q→Calls Tryz.prog 180 #[v,.int .i64 E] w' fun r f=>mu f r 0 M X∧Below w'.heap.size w' f)
  (C6:∀w' v,Below w.heap.size w w'→aG w' v M X→Calls Tryz.prog 158 #[v] w' fun s f=>s=.returned (.tuple #[.int .u64 (r:Nat),.int .u8 N,.int .i64 0])∧Below w'.heap.size w' f)
  (C7:∀w',Calls Tryz.prog 191 #[.int .u64 (r:Nat),.int .u64 a,.int .u64 b] w' fun s f=>s=.returned (.int .u64 (o:Nat))∧Below w'.heap.size w' f):
  Calls Tryz.prog 192 #[.int .u64 a,.int .u64 b] w fun s w'=>s=.returned (.tuple #[.int .u64 (o:Nat),.int .u8 N])∧Below w.heap.size w w':=by
 have K1:=aa Y;have K2:=aa Z;have K3:=aa C3;have K4:=aa C4;have K5:=aa C5;have K6:=aa C6;have K7:=aa C7
 clear Y Z C3 C4 C5 C6 C7
 have e1:=a8 (l-m) (by omega)
 have e2:=a8 (l-m-55) (by omega)
 rw[←V]at e2
 go_enter Tryz.func192,Tryz.ntmps192
 go_wp2_with fail
 refine(uH K1 _ (Below.refl _ _)).mono ?_
 rintro e w1 ⟨rfl,d⟩
 have A:=aa d
 clear d K1
 go_wp2_with fail
 refine(uH K2 _ (uH A)).mono ?_
 rintro e w2 ⟨rfl,d⟩
 have O:=aa ((uH A).trans (d.mono (uH A).size))
 clear d K2 A
 go_wp2_with fail
 refine(uH K3 _).mono ?_
 rintro e wk ⟨rfl,rfl⟩
 go_wp2_with fail
 refine(uH K4 _).mono ?_
 rintro e w3 ⟨v,rfl,⟨n3,a3,c3,U,rfl,i3⟩,d⟩
 have D:=aa ((uH O).trans (d.mono (uH O).size))
 have I3:=aa (show au w2.heap.size w3 (.agg #[.bool n3,.slice a3 U.length c3]) q from⟨n3,a3,c3,U,rfl,i3⟩)
 clear d K3 K4 O i3
 generalize U.length=l3 at*
 subst V
 go_wp2_with fail
 refine(uH K5 _ _ _ (uH D) (uH I3)).mono ?_
 rintro e z ⟨⟨v,rfl,hv⟩,d⟩
 obtain⟨H,K,L,t,rfl,i1⟩:=hv
 have h:Below z.heap.size z (z.alloc (.cells #[.bool H,.slice K t.length L,.int .i64 X] 52)):=(Below.refl _ _).alloc (Nat.le_refl _) _
 have HX:=aa ((show aG z (.agg #[.bool H,.slice K t.length L,.int .i64 X]) M X from⟨H,K,L,t,rfl,i1⟩).below h)
 have F:=aa ((uH D).trans ((d.trans (h.mono d.size)).mono (uH D).size))
 have G:=aB.new z (.bool H) (.slice K t.length L) (.int .i64 X)
 have y0:=G.c0;have y1:=G.c1;have y2:=G.c2
 clear i1 d h K5 D G I3
 generalize t.length=l1 at*
 go_wp2_with fail
 refine(uH K6 _ _ (uH F) (uH HX)).mono ?_
 rintro e w5 ⟨rfl,d⟩
 have Q:=aa ((uH F).trans (d.mono (uH F).size))
 clear d K6 F y0 y1 y2 HX
 go_wp2_with fail
 refine(uH K7 _).mono ?_
 rintro e w6 ⟨rfl,d⟩
 have B6:=aa ((uH Q).trans (d.mono (uH Q).size))
 clear d K7 Q
 go_wp2
 exact bodyPost_ret (v:=.tuple #[.int .u64 o,.int .u8 N]) (by simp[results,Tryz.results192,go_sem]) rfl ⟨rfl,uH B6⟩
theorem Jd{S:Nat}(h:S<144115188075855872):S<2^57:=by
 have:(2:Nat)^57=144115188075855872:=by decide
 omega
theorem qR(a b S t z r:Nat)(f l H:Int)(w:World)(U:a<18446744073709551616)(V:b<18446744073709551616)(hr:r≤9218868437227405312)
  (ht:-1100≤f∧f≤1100∧-1100≤l∧l≤1100) (s1:S≠0) (X:S<144115188075855872)
  (K:bw S (f-l-55)=r) (L:bF (oM (S:Nat)).natAbs (oE (S:Nat) (f-l-55))=H) (M:cC w)
  (Y:∀w',Below w.heap.size w w'→Calls Tryz.prog 204 #[.int .u64 a] w' fun r d=>r=.returned (.tuple #[.int .i64 (t:Nat),.int .i64 f])∧Below w'.heap.size w' d)
  (Z:∀w',Below w.heap.size w w'→Calls Tryz.prog 204 #[.int .u64 b] w' fun r d=>r=.returned (.tuple #[.int .i64 (z:Nat),.int .i64 l])∧Below w'.heap.size w' d)
  (C3:∀w',Calls Tryz.prog 205 #[.int .i64 (t:Nat),.int .i64 (z:Nat)] w' fun r d=>r=.returned (.int .i64 (S:Nat))∧w'=d):
  Calls Tryz.prog 192 #[.int .u64 a,.int .u64 b] w fun s w'=>s=.returned (.tuple #[.int .u64 (bZ (fS a^^fS b) r:Nat),.int .u8 H])∧Below w.heap.size w w':=by
 have N:((S:Nat):Int).natAbs<dE:=cW _ (by omega)
 have m:((S:Nat):Int)≠0:=by omega
 have ae:tz ((S:Nat):Int).natAbs<57:=lY _ 57 (by omega) (by rw[Int.natAbs_natCast];exact Jd X)
 obtain⟨E,Q⟩:∃E,E=f-l-55:=⟨_,rfl⟩
 rw[←Q]at K L
 have aj:-2300≤E∧E≤2300:=by omega
 have D:k9 (S:Nat) E=true:=by
  unfold k9
  rw[decide_eq_true (show-32768≤E∧E≤32768 by omega),decide_eq_true (show-16384≤E+(tz ((S:Nat):Int).natAbs:Int)∧E+(tz ((S:Nat):Int).natAbs:Int)≤16384 by omega),Bool.or_true]
  rfl
 have F:qA (oM (S:Nat)) (oE (S:Nat) E)=true:=by
  unfold qA
  rw[if_neg (gI _ m).1,dJ _ _ m,decide_eq_true (gI _ m).2,decide_eq_true (by omega)]
  rfl
 have G:(oM (S:Nat)).natAbs<dE:=Nat.lt_of_le_of_lt (wx _) N
 have O:∀w' v,Below w.heap.size w w'→aG w' v (oM (S:Nat)) (oE (S:Nat) E)→_:=fun w' v h A=>iW A G F (M.all h)
 rw[(jl ((S:Nat):Int) E).1,jk,decide_eq_false (show¬((S:Nat):Int)<0 by omega),aU,Int.natAbs_natCast,K,L]at O
 refine s6 a b (t:Nat) (z:Nat) f l (S:Nat) E _ _ _ w _ _ (by omega) Q Y Z C3
  (fun w'=>uC _ w' (by omega) (by omega)) (fun B w' v h A=>?_) O (fun w'=>fk r a b w' U V (by omega))
 have:=iU E A N (by omega) (M.all h)
 unfold cR dM dX at this
 rw[D]at this
 exact this.mono fun r d ⟨u,g1,g2,g3⟩=>⟨⟨u,g1,g2⟩,g3⟩
theorem Hi(a b:Nat):cD (dS a*2^54) (dS b)=pS a b:=by unfold pS;rfl
theorem Gb(b:Nat)(d:b<18446744073709551616)(f:ap b=true)(h:fK b≠0):-1100≤dT b∧dT b≤1100:=by
 obtain⟨l,m,t,z,A,D,F,G⟩:=cJ b d f h
 unfold dT
 omega
theorem pe(a b:Nat)(w:World)(z:a<18446744073709551616)(l:b<18446744073709551616)(m:ap a=true)(d:ap b=true)(t:fK a≠0)(f:fK b≠0)(A:cC w):
  Calls Tryz.prog 192 #[.int .u64 a,.int .u64 b] w fun r w'=>r=.returned (.tuple #[.int .u64 (dV a b:Nat),.int .u8 (dF a b)])∧Below w.heap.size w w':=by
 obtain⟨X,Y,Z,M,y5,y6,y7,y8⟩:=cJ b l d f
 obtain⟨N,O,Q⟩:=AJ a b z l m d t f
 obtain⟨U,V⟩:=AH a b z l m d t f
 have H:qV a b≤9218868437227405312:=cN _ _
 have D:=fun w'=>qQ (dS a) (dS b) w' M Q
 have F:=Gb a z m t
 have G:=Gb b l d f
 have K:=(AC a b m d t f).1
 have L:=(AC a b m d t f).2
 rw[Hi]at D
 rw[K,L]
 exact qR a b (pS a b) (dS a) (dS b) (qV a b) (dT a) (dT b) (qF a b) w z l H ⟨F.1,F.2,G.1,G.2⟩ N O U V A (fun w' h=>nV a w' z m t (A.all h)) (fun w' h=>nV b w' l d f (A.all h)) D
theorem EK(a b:Nat)(A:Int)(w:World)
  (l:∀w',Calls Tryz.prog 113 #[.int .u64 a] w' fun r d=>r=.returned (.int .i64 4)∧Below w'.heap.size w' d)
  (m:∀w',Calls Tryz.prog 113 #[.int .u64 b] w' fun r d=>r=.returned (.int .i64 A)∧Below w'.heap.size w' d):
  Calls Tryz.prog 174 #[.int .u64 a,.int .u64 b] w fun r w'=>r=.returned (.tuple #[.int .u64 9221120237041090560,.int .u8 0])∧Below w.heap.size w w':=by
 have t:=aa l;have z:=aa m
 clear l m
 go_enter Tryz.func174,Tryz.ntmps174
 go_wp2_with fail
 refine(uH t _).mono ?_
 rintro e D ⟨rfl,f⟩
 go_wp2_with fail
 refine(uH z _).mono ?_
 rintro e F ⟨rfl,h⟩
 have B:=aa (f.trans (h.mono f.size))
 clear f h t z
 go_wp2
 exact bodyPost_ret (v:=.tuple #[.int .u64 9221120237041090560,.int .u8 0]) (by simp[results,Tryz.results174,go_sem]) rfl ⟨rfl,uH B⟩
theorem EL(a b:Nat)(l:Int)(w:World)(D:(l==4)=false)
  (m:∀w',Calls Tryz.prog 113 #[.int .u64 a] w' fun r d=>r=.returned (.int .i64 l)∧Below w'.heap.size w' d)
  (t:∀w',Calls Tryz.prog 113 #[.int .u64 b] w' fun r d=>r=.returned (.int .i64 4)∧Below w'.heap.size w' d):
  Calls Tryz.prog 174 #[.int .u64 a,.int .u64 b] w fun r w'=>r=.returned (.tuple #[.int .u64 9221120237041090560,.int .u8 0])∧Below w.heap.size w w':=by
 have z:=aa m;have A:=aa t
 clear m t
 go_enter Tryz.func174,Tryz.ntmps174
 go_wp2_with fail
 refine(uH z _).mono ?_
 rintro e F ⟨rfl,f⟩
 go_wp2_with fail
 refine(uH A _).mono ?_
 rintro e G ⟨rfl,h⟩
 have B:=aa (f.trans (h.mono f.size))
 clear f h z A
 go_wp2
 exact bodyPost_ret (v:=.tuple #[.int .u64 9221120237041090560,.int .u8 0]) (by simp[results,Tryz.results174,go_sem]) rfl ⟨rfl,uH B⟩
theorem EM(a b:Nat)(w:World)
  (l:∀w',Calls Tryz.prog 113 #[.int .u64 a] w' fun r d=>r=.returned (.int .i64 3)∧Below w'.heap.size w' d)
  (m:∀w',Calls Tryz.prog 113 #[.int .u64 b] w' fun r d=>r=.returned (.int .i64 3)∧Below w'.heap.size w' d):
  Calls Tryz.prog 174 #[.int .u64 a,.int .u64 b] w fun r w'=>r=.returned (.tuple #[.int .u64 9221120237041090560,.int .u8 16])∧Below w.heap.size w w':=by
 have t:=aa l;have z:=aa m
 clear l m
 go_enter Tryz.func174,Tryz.ntmps174
 go_wp2_with fail
 refine(uH t _).mono ?_
 rintro e A ⟨rfl,f⟩
 go_wp2_with fail
 refine(uH z _).mono ?_
 rintro e D ⟨rfl,h⟩
 have B:=aa (f.trans (h.mono f.size))
 clear f h t z
 go_wp2
 exact bodyPost_ret (v:=.tuple #[.int .u64 9221120237041090560,.int .u8 16]) (by simp[results,Tryz.results174,go_sem]) rfl ⟨rfl,uH B⟩
theorem EN(a b:Nat)(w:World)
  (l:∀w',Calls Tryz.prog 113 #[.int .u64 a] w' fun r d=>r=.returned (.int .i64 0)∧Below w'.heap.size w' d)
  (m:∀w',Calls Tryz.prog 113 #[.int .u64 b] w' fun r d=>r=.returned (.int .i64 0)∧Below w'.heap.size w' d):
  Calls Tryz.prog 174 #[.int .u64 a,.int .u64 b] w fun r w'=>r=.returned (.tuple #[.int .u64 9221120237041090560,.int .u8 16])∧Below w.heap.size w w':=by
 have t:=aa l;have z:=aa m
 clear l m
 go_enter Tryz.func174,Tryz.ntmps174
 go_wp2_with fail
 refine(uH t _).mono ?_
 rintro e A ⟨rfl,f⟩
 go_wp2_with fail
 refine(uH z _).mono ?_
 rintro e D ⟨rfl,h⟩
 have B:=aa (f.trans (h.mono f.size))
 clear f h t z
 go_wp2
 exact bodyPost_ret (v:=.tuple #[.int .u64 9221120237041090560,.int .u8 16]) (by simp[results,Tryz.results174,go_sem]) rfl ⟨rfl,uH B⟩
theorem Hj(a b:Nat)(m:Int)(o:Nat)(w:World)(H:(m==4)=false)(K:(m==3)=false)
  (t:∀w',Calls Tryz.prog 113 #[.int .u64 a] w' fun r d=>r=.returned (.int .i64 3)∧Below w'.heap.size w' d)
  (z:∀w',Calls Tryz.prog 113 #[.int .u64 b] w' fun r d=>r=.returned (.int .i64 m)∧Below w'.heap.size w' d)
  (A:∀w',Calls Tryz.prog 191 #[.int .u64 9218868437227405312,.int .u64 a,.int .u64 b] w' fun r d=>r=.returned (.int .u64 (o:Nat))∧Below w'.heap.size w' d):
  Calls Tryz.prog 174 #[.int .u64 a,.int .u64 b] w fun r w'=>r=.returned (.tuple #[.int .u64 (o:Nat),.int .u8 0])∧Below w.heap.size w w':=by
 have D:=aa t;have F:=aa z
 clear t z
 go_enter Tryz.func174,Tryz.ntmps174
 go_wp2_with fail
 refine(uH D _).mono ?_
 rintro e L ⟨rfl,f⟩
 go_wp2_with fail
 refine(uH F _).mono ?_
 rintro e M ⟨rfl,h⟩
 have B:=aa (f.trans (h.mono f.size))
 clear f h D F
 have G:=aa A
 clear A
 go_wp2_with fail
 refine(uH G _).mono ?_
 rintro e N ⟨rfl,l⟩
 have B:=aa ((uH B).trans (l.mono (uH B).size))
 clear l G
 go_wp2
 exact bodyPost_ret (v:=.tuple #[.int .u64 (o:Nat),.int .u8 0]) (by simp[results,Tryz.results174,go_sem]) rfl ⟨rfl,uH B⟩
theorem Hk(a b:Nat)(m:Int)(o:Nat)(w:World)(H:(m==4)=false)(K:(m==0)=false)
  (t:∀w',Calls Tryz.prog 113 #[.int .u64 a] w' fun r d=>r=.returned (.int .i64 0)∧Below w'.heap.size w' d)
  (z:∀w',Calls Tryz.prog 113 #[.int .u64 b] w' fun r d=>r=.returned (.int .i64 m)∧Below w'.heap.size w' d)
  (A:∀w',Calls Tryz.prog 191 #[.int .u64 0,.int .u64 a,.int .u64 b] w' fun r d=>r=.returned (.int .u64 (o:Nat))∧Below w'.heap.size w' d):
  Calls Tryz.prog 174 #[.int .u64 a,.int .u64 b] w fun r w'=>r=.returned (.tuple #[.int .u64 (o:Nat),.int .u8 0])∧Below w.heap.size w w':=by
 have D:=aa t;have F:=aa z
 clear t z
 go_enter Tryz.func174,Tryz.ntmps174
 go_wp2_with fail
 refine(uH D _).mono ?_
 rintro e L ⟨rfl,f⟩
 go_wp2_with fail
 refine(uH F _).mono ?_
 rintro e M ⟨rfl,h⟩
 have B:=aa (f.trans (h.mono f.size))
 clear f h D F
 have G:=aa A
 clear A
 go_wp2_with fail
 refine(uH G _).mono ?_
 rintro e N ⟨rfl,l⟩
 have B:=aa ((uH B).trans (l.mono (uH B).size))
 clear l G
 go_wp2
 exact bodyPost_ret (v:=.tuple #[.int .u64 (o:Nat),.int .u8 0]) (by simp[results,Tryz.results174,go_sem]) rfl ⟨rfl,uH B⟩
theorem Hl(a b:Nat)(m:Int)(o:Nat)(w:World)(H:(m==4)=false)(K:(m==3)=false)(L:(m==0)=false)
  (t:∀w',Calls Tryz.prog 113 #[.int .u64 a] w' fun r d=>r=.returned (.int .i64 m)∧Below w'.heap.size w' d)
  (z:∀w',Calls Tryz.prog 113 #[.int .u64 b] w' fun r d=>r=.returned (.int .i64 3)∧Below w'.heap.size w' d)
  (A:∀w',Calls Tryz.prog 191 #[.int .u64 0,.int .u64 a,.int .u64 b] w' fun r d=>r=.returned (.int .u64 (o:Nat))∧Below w'.heap.size w' d):
  Calls Tryz.prog 174 #[.int .u64 a,.int .u64 b] w fun r w'=>r=.returned (.tuple #[.int .u64 (o:Nat),.int .u8 0])∧Below w.heap.size w w':=by
 have D:=aa t;have F:=aa z
 clear t z
 go_enter Tryz.func174,Tryz.ntmps174
 go_wp2_with fail
 refine(uH D _).mono ?_
 rintro e M ⟨rfl,f⟩
 go_wp2_with fail
 refine(uH F _).mono ?_
 rintro e N ⟨rfl,h⟩
 have B:=aa (f.trans (h.mono f.size))
 clear f h D F
 have G:=aa A
 clear A
 go_wp2_with fail
 refine(uH G _).mono ?_
 rintro e O ⟨rfl,l⟩
 have B:=aa ((uH B).trans (l.mono (uH B).size))
 clear l G
 go_wp2
 exact bodyPost_ret (v:=.tuple #[.int .u64 (o:Nat),.int .u8 0]) (by simp[results,Tryz.results174,go_sem]) rfl ⟨rfl,uH B⟩
theorem Hm(a b:Nat)(m:Int)(o:Nat)(w:World)(H:(m==4)=false)(K:(m==3)=false)(L:(m==0)=false)
  (t:∀w',Calls Tryz.prog 113 #[.int .u64 a] w' fun r d=>r=.returned (.int .i64 m)∧Below w'.heap.size w' d)
  (z:∀w',Calls Tryz.prog 113 #[.int .u64 b] w' fun r d=>r=.returned (.int .i64 0)∧Below w'.heap.size w' d)
  (A:∀w',Calls Tryz.prog 191 #[.int .u64 9218868437227405312,.int .u64 a,.int .u64 b] w' fun r d=>r=.returned (.int .u64 (o:Nat))∧Below w'.heap.size w' d):
  Calls Tryz.prog 174 #[.int .u64 a,.int .u64 b] w fun r w'=>r=.returned (.tuple #[.int .u64 (o:Nat),.int .u8 8])∧Below w.heap.size w w':=by
 have D:=aa t;have F:=aa z
 clear t z
 go_enter Tryz.func174,Tryz.ntmps174
 go_wp2_with fail
 refine(uH D _).mono ?_
 rintro e M ⟨rfl,f⟩
 go_wp2_with fail
 refine(uH F _).mono ?_
 rintro e N ⟨rfl,h⟩
 have B:=aa (f.trans (h.mono f.size))
 clear f h D F
 have G:=aa A
 clear A
 go_wp2_with fail
 refine(uH G _).mono ?_
 rintro e O ⟨rfl,l⟩
 have B:=aa ((uH B).trans (l.mono (uH B).size))
 clear l G
 go_wp2
 exact bodyPost_ret (v:=.tuple #[.int .u64 (o:Nat),.int .u8 8]) (by simp[results,Tryz.results174,go_sem]) rfl ⟨rfl,uH B⟩
theorem Hn(a b:Nat)(m t:Int)(z:Int)(o:Nat)(w:World)(N:(m==4)=false)(O:(m==3)=false)(Q:(m==0)=false)(U:(t==4)=false)(V:(t==3)=false)(X:(t==0)=false)(A:cC w)
  (D:∀w',Calls Tryz.prog 113 #[.int .u64 a] w' fun r d=>r=.returned (.int .i64 m)∧Below w'.heap.size w' d)
  (F:∀w',Calls Tryz.prog 113 #[.int .u64 b] w' fun r d=>r=.returned (.int .i64 t)∧Below w'.heap.size w' d)
  (G:∀w',cC w'→Calls Tryz.prog 192 #[.int .u64 a,.int .u64 b] w' fun r d=>r=.returned (.tuple #[.int .u64 (o:Nat),.int .u8 z])∧Below w'.heap.size w' d):
  Calls Tryz.prog 174 #[.int .u64 a,.int .u64 b] w fun r w'=>r=.returned (.tuple #[.int .u64 (o:Nat),.int .u8 z])∧Below w.heap.size w w':=by
 have H:=aa D;have K:=aa F
 clear D F
 go_enter Tryz.func174,Tryz.ntmps174
 go_wp2_with fail
 refine(uH H _).mono ?_
 rintro e Y ⟨rfl,f⟩
 go_wp2_with fail
 refine(uH K _).mono ?_
 rintro e Z ⟨rfl,h⟩
 have B:=aa (f.trans (h.mono f.size))
 clear f h H K
 have L:=aa G;have M:=aa (A.all (uH B))
 clear G A
 go_wp2_with fail
 refine(uH L _ (uH M)).mono ?_
 rintro e w3 ⟨rfl,l⟩
 have B:=aa ((uH B).trans (l.mono (uH B).size))
 clear l L M
 go_wp2
 exact bodyPost_ret (v:=.tuple #[.int .u64 (o:Nat),.int .u8 z]) (by simp[results,Tryz.results174,go_sem]) rfl ⟨rfl,uH B⟩
theorem AZ(a b:Nat)(w:World)(G:a<18446744073709551616)(H:b<18446744073709551616)(Q:cC w):
  Calls Tryz.prog 174 #[.int .u64 a,.int .u64 b] w fun r w'=>r=.returned (.tuple #[.int .u64 (dV a b:Nat),.int .u8 (dF a b)])∧Below w.heap.size w w':=by
 have d:=fun w'=>cF a w' G
 have f:=fun w'=>cF b w' H
 have K:=fun w'=>fk 9218868437227405312 a b w' G H (by decide)
 have L:=fun w'=>fk 0 a b w' G H (by decide)
 by_cases m:fK a=4
 ·rw[show dV a b=9221120237041090560 by unfold dV;rw[if_pos (Or.inl m)],show dF a b=0 by unfold dF;rw[if_pos (Or.inl m)]]
  rw[m]at d
  exact EK a b _ w d f
 by_cases A:fK b=4
 ·rw[show dV a b=9221120237041090560 by unfold dV;rw[if_pos (Or.inr A)],show dF a b=0 by unfold dF;rw[if_pos (Or.inr A)]]
  rw[A]at f
  exact EL a b _ w (by simp[m]) d f
 have z:¬(fK a=4∨fK b=4):=by omega
 by_cases l:fK a=fK b∧(fK a=3∨fK a=0)
 ·rw[show dV a b=9221120237041090560 by unfold dV;rw[if_neg z,if_pos l],show dF a b=16 by unfold dF;rw[if_neg z,if_pos l]]
  rcases l with⟨N,D|O⟩
  ·rw[D]at d
   rw[←N,D]at f
   exact EM a b w d f
  ·rw[O]at d
   rw[←N,O]at f
   exact EN a b w d f
 by_cases h:fK a=3
 ·rw[show dV a b=bZ (fS a^^fS b) 9218868437227405312 by unfold dV;rw[if_neg z,if_neg l,if_pos h],show dF a b=0 by unfold dF;rw[if_neg z,if_neg l,if_pos h]]
  rw[h]at d
  exact Hj a b _ _ w (by simp[A]) (by simp;omega) d f K
 by_cases D:fK b=3∨fK a=0
 ·rw[show dV a b=bZ (fS a^^fS b) 0 by unfold dV;rw[if_neg z,if_neg l,if_neg h,if_pos D],show dF a b=0 by unfold dF;rw[if_neg z,if_neg l,if_neg h,if_pos D]]
  by_cases M:fK a=0
  ·rw[M]at d
   exact Hk a b _ _ w (by simp[A]) (by simp;omega) d f L
  ·have U:fK b=3:=by omega
   rw[U]at f
   exact Hl a b _ _ w (by simp[m]) (by simp[h]) (by simp[M]) d f L
 by_cases F:fK b=0
 ·rw[show dV a b=bZ (fS a^^fS b) 9218868437227405312 by unfold dV;rw[if_neg z,if_neg l,if_neg h,if_neg D,if_pos F],show dF a b=8 by unfold dF;rw[if_neg z,if_neg l,if_neg h,if_neg D,if_pos F]]
  rw[F]at f
  exact Hm a b _ _ w (by simp[m]) (by simp[h]) (by simp;omega) d f K
 ·exact Hn a b _ _ _ _ w (by simp[m]) (by simp[h]) (by simp;omega) (by simp[A]) (by simp;omega) (by simp[F]) Q d f (fun w' t=>pe a b w' G H (bf a h m) (bf b (by omega) A) (by omega) F t)
theorem s7(t:TypeId)(x y:Nat)(w:World):(binOp .mul t (.float .f64 x) (.float .f64 y)).run Tryz.prog w=.ok (.float .f64 (fC (Ieee.double.mul x y) x y w)) (lj (Ieee.double.mul x y) w):=by
 have d:FloatKind.f64.format=Ieee.double:=rfl
 cases h:Ieee.double.mul x y with
 |some r=>exact run_float_arith w .mul t .f64 x y r (by unfold floatBits;rw[d];exact h)
 |none=>
  simp only[binOp,Op.floatArith,d,h]
  rfl
theorem A7(t:TypeId)(x y:Nat)(w:World):(binOp .quo t (.float .f64 x) (.float .f64 y)).run Tryz.prog w=.ok (.float .f64 (fC (Ieee.double.div x y) x y w)) (lj (Ieee.double.div x y) w):=by
 have d:FloatKind.f64.format=Ieee.double:=rfl
 cases h:Ieee.double.div x y with
 |some r=>exact run_float_arith w .quo t .f64 x y r (by unfold floatBits;rw[d];exact h)
 |none=>
  simp only[binOp,Op.floatArith,d,h]
  rfl
theorem gz(n:Bool)(r:Nat)(h:r≤9218868437227405312):fK (bZ n r)≠4:=fun d=>by
 have:=(aQ _).1.1 d
 have e:fR (bZ n r)=r:=by unfold fR;exact(g7 n r (by omega)).2
 omega
theorem EO(a b:Nat)(h:mN a b=false):fK (mV a b)≠4:=by
 have d:=of_decide_eq_false h
 have l:¬(fK a=4∨fK b=4):=fun e=>d (Or.inl e)
 unfold mV
 rw[if_neg l]
 split
 ·rename_i m
  rw[if_neg (fun f=>d (Or.inr ⟨m,f⟩))]
  exact gz _ _ (by decide)
 ·exact gz _ _ (cN _ _)
theorem EP(a b:Nat)(h:dN a b=false):fK (dV a b)≠4:=by
 have d:=of_decide_eq_false h
 have f:¬(fK a=4∨fK b=4):=fun e=>d (Or.inl e)
 have l:¬(fK a=fK b∧(fK a=3∨fK a=0)):=fun e=>d (Or.inr e)
 unfold dV
 rw[if_neg f,if_neg l]
 repeat' split
 ·exact gz _ _ (by decide)
 ·exact gz _ _ (by decide)
 ·exact gz _ _ (by decide)
 ·exact gz _ _ (cN _ _)
theorem nW(o:Option Nat)(v x y:Nat)(w w':World)(h:v<18446744073709551616)(l:o=none→v=9221120237041090560)(m:∀r,o=some r→r=v∧fK v≠4):
  Calls Tryz.prog 63 #[.int .u64 (fC o x y w:Nat)] w' fun r d=>r=.returned (.int .u64 (v:Nat))∧w'=d:=by
 cases o with
 |none=>
  rw[l rfl]
  obtain⟨t,f⟩:=lu x y w
  have:=eY _ w' t
  rw[if_pos f]at this
  exact this
 |some r=>
  obtain⟨rfl,f⟩:=m r rfl
  have:=eY r w' h
  rw[if_neg f]at this
  exact this
theorem yp(a b:Nat)(w w':World)(d:a<18446744073709551616)(f:b<18446744073709551616):
  Calls Tryz.prog 63 #[.int .u64 (fC (Ieee.double.mul a b) a b w:Nat)] w' fun r l=>r=.returned (.int .u64 (mV a b:Nat))∧w'=l:=by
 refine nW _ (mV a b) a b w w' (iZ a b) (fun h=>?_) (fun r h=>?_)
 ·cases e:mN a b with
  |true=>exact(pW a b d f e).2
  |false=>rw[lh a b d f e]at h;cases h
 ·cases e:mN a b with
  |true=>rw[(pW a b d f e).1]at h;cases h
  |false=>
   rw[lh a b d f e]at h
   exact⟨(Option.some.inj h).symm,EO a b e⟩
theorem yq(a b:Nat)(w w':World)(d:a<18446744073709551616)(f:b<18446744073709551616):
  Calls Tryz.prog 63 #[.int .u64 (fC (Ieee.double.div a b) a b w:Nat)] w' fun r l=>r=.returned (.int .u64 (dV a b:Nat))∧w'=l:=by
 refine nW _ (dV a b) a b w w' (wE a b) (fun h=>?_) (fun r h=>?_)
 ·cases e:dN a b with
  |true=>exact(pX a b d f e).2
  |false=>rw[pY a b d f e]at h;cases h
 ·cases e:dN a b with
  |true=>rw[(pX a b d f e).1]at h;cases h
  |false=>
   rw[pY a b d f e]at h
   exact⟨(Option.some.inj h).symm,EP a b e⟩
end Go.Proofs.YtnnfjeieennffaaGreatDoor
