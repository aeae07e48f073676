/- Part 24 of the texts. -/
import Derived.Test.YtlnphkioddknfaaGreatDoorParty23
set_option maxHeartbeats 8000000
set_option maxRecDepth 20000
namespace Go.Proofs.YtlnphkioddknfaaGreatDoor
open Go.RowKit
theorem oZ(x y S:Nat)(Q R:Nat→Nat)(w:World)(hy:y<9007199254740992)(L:Q 0=0∧R 0=x)
  (N:∀i,Q (i+1)=2*Q i+(if y≤R i then 1 else 0)∧R (i+1)=2*(R i-(if y≤R i then y else 0)))
  (t:∀i,R i<2*y) (z:∀i,i<55→Q i<18014398509481984) (h5:Q 55<36028797018963968) (O:S=2*Q 55+(if 0<R 55 then 1 else 0)):
  Calls Tryz.prog 248 #[.int .i64 x,.int .i64 y] w fun r X=>r=.returned (.int .i64 (S:Nat))∧w=X:=by
 have f:=aa L;have A:=aa N;have h:=aa t;have D:=aa z;have d:=aa O
 clear L N t z O
 go_enter Tryz.func248,Tryz.ntmps248
 go_wp2
 go_loop [0,5,6] (fun p q i=>∃k:Nat,k≤55∧i=.int .i64 k∧p=.int .i64 (R k:Nat)∧q=.int .i64 (Q k:Nat)) (fun _ _ i=>55-(intOf i).toNat)
 case atStart=>exact⟨0,by omega,rfl,by rw[(uH f).2],by rw[(uH f).1];rfl⟩
 case round=>
  obtain⟨k,hk,rfl,rfl,rfl⟩:=hrel
  by_cases F:k<55
  ·have Y:=uH A k
   have Z:=uH h k
   have q3:=uH D k F
   obtain⟨U,V⟩:=Y
   have l:=aa U;have m:=aa V
   clear U V f A h D d
   generalize t:R k=r at*
   generalize z:Q k=q at*
   by_cases c:y≤r
   ·have G:(r:Int)≥(y:Int):=by omega
    have H:=aa (show Q (k+1)=2*q+1 by rw[uH l,if_pos c])
    have I:=aa (show R (k+1)=2*(r-y) by rw[uH m,if_pos c])
    clear l m
    go_wp2
    go_round
    case rel=>exact⟨k+1,by omega,by go_num,cN (by rw[uH I];omega),cN (by rw[uH H];omega)⟩
    case measure=>simp[intOf];omega
   ·have G:¬(r:Int)≥(y:Int):=by omega
    have H:=aa (show Q (k+1)=2*q by rw[uH l,if_neg c];rfl)
    have I:=aa (show R (k+1)=2*r by rw[uH m,if_neg c];rfl)
    clear l m
    go_wp2
    go_round
    case rel=>exact⟨k+1,by omega,by go_num,cN (by rw[uH I];omega),cN (by rw[uH H];omega)⟩
    case measure=>simp[intOf];omega
  ·have K:k=55:=by omega
   subst K
   have Z:=uH h 55
   clear f A h D
   generalize R 55=r at*
   generalize Q 55=q at*
   by_cases c:0<r
   ·have M:=aa (show S=2*q+1 by rw[uH d,if_pos c])
    have G:(r:Int)>0:=by omega
    clear d
    go_wp2
    go_ret
    exact⟨aQ (by rw[uH M];omega),rfl⟩
   ·have M:=aa (show S=2*q by rw[uH d,if_neg c];rfl)
    have G:¬(r:Int)>0:=by omega
    clear d
    go_wp2
    go_ret
    exact⟨aQ (by rw[uH M];omega),rfl⟩
theorem Jh(x y i:Nat)(f:x<2*y)(l:i<55):lQ x y i<18014398509481984:=by
 have h:=Bg x y i f
 have d:(2:Nat)^i≤2^54:=Nat.pow_le_pow_right (by decide) (by omega)
 rw[show(2:Nat)^54=18014398509481984 by decide]at d
 exact Nat.lt_of_lt_of_le h d
theorem Ji(x y:Nat)(d:x<2*y):lQ x y 55<36028797018963968:=by
 have f:=Bg x y 55 d
 rwa[show(2:Nat)^55=36028797018963968 by decide]at f
theorem qQ(x y:Nat)(w:World)(f:y<9007199254740992)(d:x<2*y):
  Calls Tryz.prog 248 #[.int .i64 x,.int .i64 y] w fun r h=>r=.returned (.int .i64 (cE (x*2^54) y:Nat))∧w=h:=
 oZ x y _ (lQ x y) (lR x y) w f (Hk x y d) (fun i=>Hl x y i (by omega)) (fun i=>Ja x y i (by omega)) (fun i l=>Jh x y i d l) (Ji x y d) (Gp x y)
theorem sR(b:Nat)(z1 U z2 ln tp:Int)(w:World)(aj:1≤ln∧ln≤53)
  (C1:∀y,Below w.heap.size w y→Calls Tryz.prog 203 #[.int .u64 b] y fun r I=>mn I r 0 z1 U∧Below y.heap.size y I)
  (C2:∀y n a l c,aG y (.agg #[.bool n,.slice a l c,.int .i64 U]) z1 U→Calls Tryz.prog 266 #[.agg #[.bool false,.slice a l c]] y fun r I=>r=.returned (.int .i64 ln)∧Below y.heap.size y I)
  (C3:∀y n a l c,aG y (.agg #[.bool n,.slice a l c,.int .i64 U]) z1 U→Calls Tryz.prog 252 #[.agg #[.bool false,.slice a l c],.int .i64 (53-ln)] y fun r I=>∃v,r=.returned (.tuple #[v,.int .i64 0])∧aw y.heap.size I v z2∧Below y.heap.size y I)
  (C4:∀B y v,aw B y v z2→Calls Tryz.prog 267 #[v] y fun r I=>r=.returned (.tuple #[.int .i64 z2,.int .i64 0])∧Below y.heap.size y I)
  (C5:∀y n a l c,aG y (.agg #[.bool n,.slice a l c,.int .i64 U]) z1 U→Calls Tryz.prog 254 #[.agg #[.bool false,.slice a l c,.int .i64 U]] y fun r I=>r=.returned (.int .i64 tp)∧Below y.heap.size y I):
  Calls Tryz.prog 247 #[.int .u64 b] w fun r y=>r=.returned (.tuple #[.int .i64 z2,.int .i64 tp])∧Below w.heap.size w y:=by
 have K1:=aa C1;have K2:=aa C2;have K3:=aa C3;have K4:=aa C4;have K5:=aa C5
 clear C1 C2 C3 C4 C5
 go_enter Tryz.func247,Tryz.ntmps247
 go_wp2_with fail
 refine(uH K1 _ (Below.refl _ _)).mono ?_
 rintro e w1 ⟨⟨v,rfl,hv⟩,d⟩
 obtain⟨n1,a1,c1,L1,rfl,i1⟩:=hv
 have x:=az.new w1 (.bool n1) (.slice a1 L1.length c1) (.int .i64 U)
 have y0:=x.c0;have y1:=x.c1;have y2:=x.c2;have f0:=x.free 0;have f1:=x.free 1;have f2:=x.free 2
 clear x
 generalize hl:L1.length=l1 at*
 have hd:aG w1 (.agg #[.bool n1,.slice a1 l1 c1,.int .i64 U]) z1 U:=⟨n1,a1,c1,L1,by rw[hl],by rw[hl];exact i1⟩
 clear i1 hl K1
 go_wp2_with fail
 clear y0 y1 y2 f0 f1 f2
 have Y:Below w1.heap.size w1 (w1.alloc (.cells #[.bool false,.slice a1 l1 c1,.int .i64 U] 47)):=(Below.refl _ _).alloc (Nat.le_refl _) _
 have x:=az.new w1 (.bool false) (.slice a1 l1 c1) (.int .i64 U)
 have HV:=aa (hd.below Y)
 have B1:=aa (d.trans (Y.mono d.size))
 clear hd d Y
 refine au (fun W=>W=(w1.alloc (.cells #[.bool false,.slice a1 l1 c1,.int .i64 U] 47))) rfl ?_
 rintro t e0
 rw[←e0]at x HV B1
 clear e0
 generalize w1.heap.size=g at*
 have z:∀y,Below t.heap.size t y→Below t.heap.size t y∧y.cell? ⟨g,0,none⟩=some (.bool false)∧y.cell? ⟨g,1,none⟩=some (.slice a1 l1 c1):=fun y h=>
  ⟨h,(x.all h).c0,(x.all h).c1⟩
 have X:=aa z
 have XB:=aa x
 clear z x
 refine wp_region_held_drew (S:=(fun y=>Below t.heap.size t y∧y.cell? ⟨g,0,none⟩=some (.bool false)∧y.cell? ⟨g,1,none⟩=some (.slice a1 l1 c1))) (by kernel_rfl) ?_ (fun m=>?_)
 ·exact uH X _ (Below.refl _ _).drew
 refine wpAnyH_take (i:=0) (oi:={dst:=some 16,op:=Op.fieldAddr 47 (Operand.tmp 4) 0,type:=0,pos:= "quotient.go:30",after:=#[],guard:=none}) (v:=Value.pointer (some ⟨g,0,none⟩)) rfl (by kernel_rfl) (by kernel_rfl) (by kernel_rfl) (fun _ _ _ h=>h) (Or.inl ⟨by rfl,?_⟩) (by assumption) ?_
 ·(intro w f;(try dsimp only at f);go_simp)
 simp only[Act.put,List.setIfInBounds_toArray,List.set_cons_zero,List.set_cons_succ]
 refine wpAnyH_take (i:=1) (oi:={dst:=some 17,op:=Op.load 45 (Operand.tmp 16),type:=45,pos:= "quotient.go:30",after:=#[{on:=0,ground:=Ground.data}],guard:=none}) (v:=(Value.agg #[.bool false,.slice a1 l1 c1])) rfl (by kernel_rfl) (by kernel_rfl) (by kernel_rfl) (fun _ _ _ h=>h) (Or.inl ⟨by rfl,?_⟩) (by assumption) ?_
 ·(intro w f;(try dsimp only at f);go_simp)
 simp only[Act.put,List.setIfInBounds_toArray,List.set_cons_zero,List.set_cons_succ]
 refine wpAnyH_take (i:=2) (oi:={dst:=some 18,op:=Op.fieldAddr 47 (Operand.tmp 4) 0,type:=0,pos:= "quotient.go:30",after:=#[],guard:=none}) (v:=Value.pointer (some ⟨g,0,none⟩)) rfl (by kernel_rfl) (by kernel_rfl) (by kernel_rfl) (fun _ _ _ h=>h) (Or.inl ⟨by rfl,?_⟩) (by assumption) ?_
 ·(intro w f;(try dsimp only at f);go_simp)
 simp only[Act.put,List.setIfInBounds_toArray,List.set_cons_zero,List.set_cons_succ]
 refine wpAnyH_take (i:=3) (oi:={dst:=some 19,op:=Op.load 45 (Operand.tmp 18),type:=45,pos:= "quotient.go:30",after:=#[{on:=2,ground:=Ground.data}],guard:=none}) (v:=(Value.agg #[.bool false,.slice a1 l1 c1])) rfl (by kernel_rfl) (by kernel_rfl) (by kernel_rfl) (fun _ _ _ h=>h) (Or.inl ⟨by rfl,?_⟩) (by assumption) ?_
 ·(intro w f;(try dsimp only at f);go_simp)
 simp only[Act.put,List.setIfInBounds_toArray,List.set_cons_zero,List.set_cons_succ]
 refine wpAnyH_ready (rs:=[4,10]) (by kernel_rfl) (by simp) ?_
 refine AllReadyH.cons (o:={dst:=some 20,op:=Op.call {callee:=Callee.value (Operand.func 266),args:=#[Operand.tmp 19],argTypes:=#[45]},type:=3,pos:= "quotient.go:30",after:=#[{on:=3,ground:=Ground.data}],guard:=none}) rfl (fun K z=>?_) (AllReadyH.cons (o:={dst:=some 6,op:=Op.alloc 45,type:=0,pos:= "quotient.go:30",after:=#[],guard:=none}) rfl (fun K z=>?_) AllReadyH.nil)
 ·go_simp
  refine(uH K2 _ _ _ _ _ ((uH HV).below (And.left (by assumption)))).mono ?_
  rintro e wn ⟨rfl,d⟩
  have Z:Below t.heap.size t wn:=Below.trans (And.left (by assumption)) (d.mono (Below.size (And.left (by assumption))))
  clear d
  go_wp2_with fail
  refine z.out _ _ ?_ (fun m=>?_)
  ·exact uH X _ Z
  clear z K
  refine wpAnyH_take (i:=5) (oi:={dst:=some 21,op:=Op.binOp BinOp.sub 3 (Operand.const (Value.int IntKind.i64 53)) (Operand.tmp 20) 3,type:=3,pos:= "quotient.go:30",after:=#[{on:=4,ground:=Ground.data}],guard:=none}) (v:=(.int .i64 (53-ln))) rfl (by kernel_rfl) (by kernel_rfl) (by kernel_rfl) (fun _ _ _ h=>h) (Or.inl ⟨by rfl,?_⟩) (by assumption) ?_
  ·(intro w f;(try dsimp only at f);go_simp;exact aW _ (by omega))
  simp only[Act.put,List.setIfInBounds_toArray,List.set_cons_zero,List.set_cons_succ]
  refine wpAnyH_ready (rs:=[6,10]) (by kernel_rfl) (by simp) ?_
  refine AllReadyH.cons (o:={dst:=some 22,op:=Op.call {callee:=Callee.value (Operand.func 252),args:=#[Operand.tmp 17,Operand.tmp 21],argTypes:=#[45,3]},type:=229,pos:= "quotient.go:30",after:=#[{on:=1,ground:=Ground.data},{on:=5,ground:=Ground.data},{on:=4,ground:=Ground.chain}],guard:=none}) rfl (fun K z=>?_) (AllReadyH.cons (o:={dst:=some 6,op:=Op.alloc 45,type:=0,pos:= "quotient.go:30",after:=#[],guard:=none}) rfl (fun K z=>?_) AllReadyH.nil)
  ·go_simp
   refine(uH K3 _ _ _ _ _ ((uH HV).below (And.left (by assumption)))).mono ?_
   rintro e L ⟨v,rfl,⟨A,D,F,L2,rfl,i2⟩,d⟩
   have M:Below t.heap.size t L:=Below.trans (And.left (by assumption)) (d.mono (Below.size (And.left (by assumption))))
   have I2:=aa (show aw 0 L (.agg #[.bool A,.slice D L2.length F]) z2 from aw.mono ⟨A,D,F,L2,rfl,i2⟩ (Nat.zero_le _))
   clear i2
   generalize L2.length=H at*
   clear d
   go_wp2_with fail
   refine z.out _ _ ?_ (fun m=>?_)
   ·exact uH X _ M
   clear z K
   refine wpAnyH_take (i:=7) (oi:={dst:=some 15,op:=Op.move (Operand.tmp 22),type:=229,pos:= "quotient.go:30",after:=#[{on:=6,ground:=Ground.data}],guard:=none}) (v:=(Value.tuple #[.agg #[.bool A,.slice D H F],.int .i64 0])) rfl (by kernel_rfl) (by kernel_rfl) (by kernel_rfl) (fun _ _ _ h=>h) (Or.inl ⟨by rfl,?_⟩) (by assumption) ?_
   ·(intro w f;(try dsimp only at f);go_simp)
   simp only[Act.put,List.setIfInBounds_toArray,List.set_cons_zero,List.set_cons_succ]
   refine wpAnyH_take (i:=8) (oi:={dst:=some 23,op:=Op.extract (Operand.tmp 15) 0,type:=45,pos:= "quotient.go:30",after:=#[{on:=7,ground:=Ground.data}],guard:=none}) (v:=(Value.agg #[.bool A,.slice D H F])) rfl (by kernel_rfl) (by kernel_rfl) (by kernel_rfl) (fun _ _ _ h=>h) (Or.inl ⟨by rfl,?_⟩) (by assumption) ?_
   ·(intro w f;(try dsimp only at f);go_simp)
   simp only[Act.put,List.setIfInBounds_toArray,List.set_cons_zero,List.set_cons_succ]
   refine wpAnyH_take (i:=9) (oi:={dst:=some 24,op:=Op.extract (Operand.tmp 15) 1,type:=25,pos:= "quotient.go:30",after:=#[{on:=7,ground:=Ground.data},{on:=11,ground:=Ground.gcOnly Departure.lateStores}],guard:=none}) (v:=(.int .i64 0)) rfl (by kernel_rfl) (by kernel_rfl) (by kernel_rfl) (fun _ _ _ h=>h) (Or.inl ⟨by rfl,?_⟩) (by assumption) ?_
   ·(intro w f;(try dsimp only at f);go_simp)
   simp only[Act.put,List.setIfInBounds_toArray,List.set_cons_zero,List.set_cons_succ]
   refine wpAnyH_ready (rs:=[10]) (by kernel_rfl) (by simp) ?_
   refine AllReadyH.cons (o:={dst:=some 6,op:=Op.alloc 45,type:=0,pos:= "quotient.go:30",after:=#[],guard:=none}) rfl (fun K z=>?_) AllReadyH.nil
   go_wp2_with fail
   refine z.out _ _ ?_ (fun m=>?_)
   ·exact uH X _ (Below.alloc (And.left (by assumption)) (Below.size (And.left (by assumption))) _)
   clear z K
   have G:=aA.new L (.bool false) (.slice none 0 0)
   have O:t.heap.size≤L.heap.size:=Below.size (B:=t.heap.size) (w:=t) M
   have I0:=I2
   have I2:=aa (show aw 0 (L.alloc (.cells #[.bool false,.slice none 0 0] 45)) (.agg #[.bool A,.slice D H F]) z2 from(uH I2).below ((Below.refl _ _).alloc (Nat.le_refl _) _))
   have hW:=Below.alloc M O (.cells #[.bool false,.slice none 0 0] 45)
   have IS:=aa (show aw 0 ((((L.alloc (.cells #[.bool false,.slice none 0 0] 45)).setCell ⟨L.heap.size,0,none⟩ (.bool A)).setCell ⟨L.heap.size,1,none⟩ (.slice D H F))) (.agg #[.bool A,.slice D H F]) z2 from(uH I0).below ((((Below.refl _ _).alloc (Nat.le_refl _) _).setCell (Nat.le_refl _) _).setCell (Nat.le_refl _) _))
   generalize ae:(L.alloc (.cells #[.bool false,.slice none 0 0] 45))=wa at*
   generalize L.heap.size=Q at*
   refine wpAnyH_ready (rs:=[11]) (by kernel_rfl) (by simp) ?_
   refine AllReadyH.cons (o:={dst:=none,op:=Op.store 45 (Operand.tmp 6) (Operand.tmp 23),type:=0,pos:= "quotient.go:30",after:=#[{on:=10,ground:=Ground.data},{on:=8,ground:=Ground.data},{on:=6,ground:=Ground.chain},{on:=0,ground:=Ground.phase},{on:=1,ground:=Ground.phase},{on:=2,ground:=Ground.phase},{on:=3,ground:=Ground.phase},{on:=4,ground:=Ground.phase},{on:=5,ground:=Ground.phase},{on:=6,ground:=Ground.phase},{on:=7,ground:=Ground.phase},{on:=8,ground:=Ground.phase},{on:=9,ground:=Ground.textOnly Departure.lateStores},{on:=10,ground:=Ground.phase}],guard:=none}) rfl (fun K z=>?_) AllReadyH.nil
   have q0:=G.c0;have q1:=G.c1;have f0:=G.free 0;have f1:=G.free 1
   go_wp2_with fail
   refine z.out _ _ ?_ (fun m=>?_)
   ·exact uH X _ (Below.setCell (Below.setCell (And.left (by assumption)) O _) O _)
   clear z K q0 q1 f0 f1
   refine wpAnyH_take (i:=12) (oi:={dst:=some 7,op:=Op.assign (Operand.tmp 24),type:=25,pos:= "quotient.go:30",after:=#[{on:=9,ground:=Ground.data},{on:=11,ground:=Ground.chain},{on:=0,ground:=Ground.phase},{on:=1,ground:=Ground.phase},{on:=2,ground:=Ground.phase},{on:=3,ground:=Ground.phase},{on:=4,ground:=Ground.phase},{on:=5,ground:=Ground.phase},{on:=6,ground:=Ground.phase},{on:=7,ground:=Ground.phase},{on:=8,ground:=Ground.phase},{on:=9,ground:=Ground.phase},{on:=10,ground:=Ground.phase},{on:=11,ground:=Ground.phase}],guard:=none}) (v:=(.int .i64 0)) rfl (by kernel_rfl) (by kernel_rfl) (by kernel_rfl) (fun _ _ _ h=>h) (Or.inl ⟨by rfl,?_⟩) (by assumption) ?_
   ·(intro w f;(try dsimp only at f);go_simp)
   simp only[Act.put,List.setIfInBounds_toArray,List.set_cons_zero,List.set_cons_succ]
   refine wpAnyH_done (by kernel_rfl) ?_ _
   have bz:=G.put (.bool A) (.slice D H F)
   have HZ:=aa (show aw 0 ((wa.setCell ⟨Q,0,none⟩ (.bool A)).setCell ⟨Q,1,none⟩ (.slice D H F)) (.agg #[.bool A,.slice D H F]) z2 from uH IS)
   have BZ:=aa (show Below t.heap.size t ((wa.setCell ⟨Q,0,none⟩ (.bool A)).setCell ⟨Q,1,none⟩ (.slice D H F))from Below.setCell (Below.setCell hW O _) O _)
   have r0:=bz.c0;have r1:=bz.c1
   clear G I2 m
   generalize ((wa.setCell ⟨Q,0,none⟩ (.bool A)).setCell ⟨Q,1,none⟩ (.slice D H F))=WE at*
   go_wp2_with fail
   refine(uH K4 _ _ _ (uH HZ)).mono ?_
   rintro e we ⟨rfl,d⟩
   have N:=aa ((uH BZ).trans (d.mono (uH BZ).size))
   have HW:=aa ((uH HV).below (uH N))
   have V:=(uH XB).all (uH N)
   have y0:=V.c0;have y1:=V.c1;have y2:=V.c2
   clear r0 r1 bz d BZ HZ V
   go_wp2_with fail
   refine(uH K5 _ _ _ _ _ (uH HW)).mono ?_
   rintro e wf ⟨rfl,d⟩
   have BF:=aa ((uH B1).trans (((uH N).trans (d.mono (uH N).size)).mono (uH B1).size))
   clear d N HW y0 y1 y2
   go_wp2
   exact bodyPost_ret (v:=.tuple #[.int .i64 z2,.int .i64 tp]) (by simp[results,Tryz.results247,go_sem]) rfl ⟨rfl,uH BF⟩
  ·go_wp2_with fail
   refine z.out _ _ ?_ (fun m=>?_)
   ·exact uH X _ (Below.alloc (And.left (by assumption)) (Below.size (And.left (by assumption))) _)
   clear z K
   have G:=aA.new wn (.bool false) (.slice none 0 0)
   have O:t.heap.size≤wn.heap.size:=Below.size (B:=t.heap.size) (w:=t) Z
   have hW:=Below.alloc Z O (.cells #[.bool false,.slice none 0 0] 45)
   generalize ae:(wn.alloc (.cells #[.bool false,.slice none 0 0] 45))=wa at*
   generalize wn.heap.size=Q at*
   refine wpAnyH_ready (rs:=[6]) (by kernel_rfl) (by simp) ?_
   refine AllReadyH.cons (o:={dst:=some 22,op:=Op.call {callee:=Callee.value (Operand.func 252),args:=#[Operand.tmp 17,Operand.tmp 21],argTypes:=#[45,3]},type:=229,pos:= "quotient.go:30",after:=#[{on:=1,ground:=Ground.data},{on:=5,ground:=Ground.data},{on:=4,ground:=Ground.chain}],guard:=none}) rfl (fun K z=>?_) AllReadyH.nil
   go_simp
   refine(uH K3 _ _ _ _ _ ((uH HV).below (And.left (by assumption)))).mono ?_
   rintro e L ⟨v,rfl,⟨A,D,F,L2,rfl,i2⟩,d⟩
   have M:Below t.heap.size t L:=Below.trans (And.left (by assumption)) (d.mono (Below.size (And.left (by assumption))))
   have I2:=aa (show aw (Q+1) L (.agg #[.bool A,.slice D L2.length F]) z2 from aw.mono ⟨A,D,F,L2,rfl,i2⟩ (Nat.succ_le_of_lt G.lt))
   have G:=G.all d
   clear i2
   generalize L2.length=H at*
   clear d
   go_wp2_with fail
   refine z.out _ _ ?_ (fun m=>?_)
   ·exact uH X _ M
   clear z K
   refine wpAnyH_take (i:=7) (oi:={dst:=some 15,op:=Op.move (Operand.tmp 22),type:=229,pos:= "quotient.go:30",after:=#[{on:=6,ground:=Ground.data}],guard:=none}) (v:=(Value.tuple #[.agg #[.bool A,.slice D H F],.int .i64 0])) rfl (by kernel_rfl) (by kernel_rfl) (by kernel_rfl) (fun _ _ _ h=>h) (Or.inl ⟨by rfl,?_⟩) (by assumption) ?_
   ·(intro w f;(try dsimp only at f);go_simp)
   simp only[Act.put,List.setIfInBounds_toArray,List.set_cons_zero,List.set_cons_succ]
   refine wpAnyH_take (i:=8) (oi:={dst:=some 23,op:=Op.extract (Operand.tmp 15) 0,type:=45,pos:= "quotient.go:30",after:=#[{on:=7,ground:=Ground.data}],guard:=none}) (v:=(Value.agg #[.bool A,.slice D H F])) rfl (by kernel_rfl) (by kernel_rfl) (by kernel_rfl) (fun _ _ _ h=>h) (Or.inl ⟨by rfl,?_⟩) (by assumption) ?_
   ·(intro w f;(try dsimp only at f);go_simp)
   simp only[Act.put,List.setIfInBounds_toArray,List.set_cons_zero,List.set_cons_succ]
   refine wpAnyH_take (i:=9) (oi:={dst:=some 24,op:=Op.extract (Operand.tmp 15) 1,type:=25,pos:= "quotient.go:30",after:=#[{on:=7,ground:=Ground.data},{on:=11,ground:=Ground.gcOnly Departure.lateStores}],guard:=none}) (v:=(.int .i64 0)) rfl (by kernel_rfl) (by kernel_rfl) (by kernel_rfl) (fun _ _ _ h=>h) (Or.inl ⟨by rfl,?_⟩) (by assumption) ?_
   ·(intro w f;(try dsimp only at f);go_simp)
   simp only[Act.put,List.setIfInBounds_toArray,List.set_cons_zero,List.set_cons_succ]
   refine wpAnyH_ready (rs:=[11]) (by kernel_rfl) (by simp) ?_
   refine AllReadyH.cons (o:={dst:=none,op:=Op.store 45 (Operand.tmp 6) (Operand.tmp 23),type:=0,pos:= "quotient.go:30",after:=#[{on:=10,ground:=Ground.data},{on:=8,ground:=Ground.data},{on:=6,ground:=Ground.chain},{on:=0,ground:=Ground.phase},{on:=1,ground:=Ground.phase},{on:=2,ground:=Ground.phase},{on:=3,ground:=Ground.phase},{on:=4,ground:=Ground.phase},{on:=5,ground:=Ground.phase},{on:=6,ground:=Ground.phase},{on:=7,ground:=Ground.phase},{on:=8,ground:=Ground.phase},{on:=9,ground:=Ground.textOnly Departure.lateStores},{on:=10,ground:=Ground.phase}],guard:=none}) rfl (fun K z=>?_) AllReadyH.nil
   have q0:=G.c0;have q1:=G.c1;have f0:=G.free 0;have f1:=G.free 1
   go_wp2_with fail
   refine z.out _ _ ?_ (fun m=>?_)
   ·exact uH X _ (Below.setCell (Below.setCell (And.left (by assumption)) O _) O _)
   clear z K q0 q1 f0 f1
   refine wpAnyH_take (i:=12) (oi:={dst:=some 7,op:=Op.assign (Operand.tmp 24),type:=25,pos:= "quotient.go:30",after:=#[{on:=9,ground:=Ground.data},{on:=11,ground:=Ground.chain},{on:=0,ground:=Ground.phase},{on:=1,ground:=Ground.phase},{on:=2,ground:=Ground.phase},{on:=3,ground:=Ground.phase},{on:=4,ground:=Ground.phase},{on:=5,ground:=Ground.phase},{on:=6,ground:=Ground.phase},{on:=7,ground:=Ground.phase},{on:=8,ground:=Ground.phase},{on:=9,ground:=Ground.phase},{on:=10,ground:=Ground.phase},{on:=11,ground:=Ground.phase}],guard:=none}) (v:=(.int .i64 0)) rfl (by kernel_rfl) (by kernel_rfl) (by kernel_rfl) (fun _ _ _ h=>h) (Or.inl ⟨by rfl,?_⟩) (by assumption) ?_
   ·(intro w f;(try dsimp only at f);go_simp)
   simp only[Act.put,List.setIfInBounds_toArray,List.set_cons_zero,List.set_cons_succ]
   refine wpAnyH_done (by kernel_rfl) ?_ _
   have bz:=G.put (.bool A) (.slice D H F)
   have HZ:=aa (show aw 0 ((L.setCell ⟨Q,0,none⟩ (.bool A)).setCell ⟨Q,1,none⟩ (.slice D H F)) (.agg #[.bool A,.slice D H F]) z2 from((uH I2).put2 (p:=⟨Q,0,none⟩) (q:=⟨Q,1,none⟩) (by simp) (by simp) (.bool A) (.slice D H F)).mono (Nat.zero_le _))
   have BZ:=aa (show Below t.heap.size t ((L.setCell ⟨Q,0,none⟩ (.bool A)).setCell ⟨Q,1,none⟩ (.slice D H F))from Below.setCell (Below.setCell M O _) O _)
   have r0:=bz.c0;have r1:=bz.c1
   clear G I2 m
   generalize ((L.setCell ⟨Q,0,none⟩ (.bool A)).setCell ⟨Q,1,none⟩ (.slice D H F))=WE at*
   go_wp2_with fail
   refine(uH K4 _ _ _ (uH HZ)).mono ?_
   rintro e we ⟨rfl,d⟩
   have N:=aa ((uH BZ).trans (d.mono (uH BZ).size))
   have HW:=aa ((uH HV).below (uH N))
   have V:=(uH XB).all (uH N)
   have y0:=V.c0;have y1:=V.c1;have y2:=V.c2
   clear r0 r1 bz d BZ HZ V
   go_wp2_with fail
   refine(uH K5 _ _ _ _ _ (uH HW)).mono ?_
   rintro e wf ⟨rfl,d⟩
   have BF:=aa ((uH B1).trans (((uH N).trans (d.mono (uH N).size)).mono (uH B1).size))
   clear d N HW y0 y1 y2
   go_wp2
   exact bodyPost_ret (v:=.tuple #[.int .i64 z2,.int .i64 tp]) (by simp[results,Tryz.results247,go_sem]) rfl ⟨rfl,uH BF⟩
 ·go_wp2_with fail
  refine z.out _ _ ?_ (fun m=>?_)
  ·exact uH X _ (((Below.refl t.heap.size t).alloc (Nat.le_refl _) _).drew)
  clear z K
  have G:aA (t.alloc (.cells #[.bool false,.slice none 0 0] 45)).drew t.heap.size (.bool false) (.slice none 0 0):=(aA.new t (.bool false) (.slice none 0 0)).drew
  have O:t.heap.size≤t.heap.size:=Nat.le_refl _
  generalize ae:(t.alloc (.cells #[.bool false,.slice none 0 0] 45)).drew=wa at*
  refine wpAnyH_ready (rs:=[4]) (by kernel_rfl) (by simp) ?_
  refine AllReadyH.cons (o:={dst:=some 20,op:=Op.call {callee:=Callee.value (Operand.func 266),args:=#[Operand.tmp 19],argTypes:=#[45]},type:=3,pos:= "quotient.go:30",after:=#[{on:=3,ground:=Ground.data}],guard:=none}) rfl (fun K z=>?_) AllReadyH.nil
  go_simp
  refine(uH K2 _ _ _ _ _ ((uH HV).below (And.left (by assumption)))).mono ?_
  rintro e wn ⟨rfl,d⟩
  have Z:Below t.heap.size t wn:=Below.trans (And.left (by assumption)) (d.mono (Below.size (And.left (by assumption))))
  have G:=G.all d
  clear d
  go_wp2_with fail
  refine z.out _ _ ?_ (fun m=>?_)
  ·exact uH X _ Z
  clear z K
  refine wpAnyH_take (i:=5) (oi:={dst:=some 21,op:=Op.binOp BinOp.sub 3 (Operand.const (Value.int IntKind.i64 53)) (Operand.tmp 20) 3,type:=3,pos:= "quotient.go:30",after:=#[{on:=4,ground:=Ground.data}],guard:=none}) (v:=(.int .i64 (53-ln))) rfl (by kernel_rfl) (by kernel_rfl) (by kernel_rfl) (fun _ _ _ h=>h) (Or.inl ⟨by rfl,?_⟩) (by assumption) ?_
  ·(intro w f;(try dsimp only at f);go_simp;exact aW _ (by omega))
  simp only[Act.put,List.setIfInBounds_toArray,List.set_cons_zero,List.set_cons_succ]
  refine wpAnyH_ready (rs:=[6]) (by kernel_rfl) (by simp) ?_
  refine AllReadyH.cons (o:={dst:=some 22,op:=Op.call {callee:=Callee.value (Operand.func 252),args:=#[Operand.tmp 17,Operand.tmp 21],argTypes:=#[45,3]},type:=229,pos:= "quotient.go:30",after:=#[{on:=1,ground:=Ground.data},{on:=5,ground:=Ground.data},{on:=4,ground:=Ground.chain}],guard:=none}) rfl (fun K z=>?_) AllReadyH.nil
  go_simp
  refine(uH K3 _ _ _ _ _ ((uH HV).below (And.left (by assumption)))).mono ?_
  rintro e L ⟨v,rfl,⟨A,D,F,L2,rfl,i2⟩,d⟩
  have M:Below t.heap.size t L:=Below.trans (And.left (by assumption)) (d.mono (Below.size (And.left (by assumption))))
  have I2:=aa (show aw (t.heap.size+1) L (.agg #[.bool A,.slice D L2.length F]) z2 from aw.mono ⟨A,D,F,L2,rfl,i2⟩ (Nat.succ_le_of_lt G.lt))
  have G:=G.all d
  clear i2
  generalize L2.length=H at*
  clear d
  go_wp2_with fail
  refine z.out _ _ ?_ (fun m=>?_)
  ·exact uH X _ M
  clear z K
  refine wpAnyH_take (i:=7) (oi:={dst:=some 15,op:=Op.move (Operand.tmp 22),type:=229,pos:= "quotient.go:30",after:=#[{on:=6,ground:=Ground.data}],guard:=none}) (v:=(Value.tuple #[.agg #[.bool A,.slice D H F],.int .i64 0])) rfl (by kernel_rfl) (by kernel_rfl) (by kernel_rfl) (fun _ _ _ h=>h) (Or.inl ⟨by rfl,?_⟩) (by assumption) ?_
  ·(intro w f;(try dsimp only at f);go_simp)
  simp only[Act.put,List.setIfInBounds_toArray,List.set_cons_zero,List.set_cons_succ]
  refine wpAnyH_take (i:=8) (oi:={dst:=some 23,op:=Op.extract (Operand.tmp 15) 0,type:=45,pos:= "quotient.go:30",after:=#[{on:=7,ground:=Ground.data}],guard:=none}) (v:=(Value.agg #[.bool A,.slice D H F])) rfl (by kernel_rfl) (by kernel_rfl) (by kernel_rfl) (fun _ _ _ h=>h) (Or.inl ⟨by rfl,?_⟩) (by assumption) ?_
  ·(intro w f;(try dsimp only at f);go_simp)
  simp only[Act.put,List.setIfInBounds_toArray,List.set_cons_zero,List.set_cons_succ]
  refine wpAnyH_take (i:=9) (oi:={dst:=some 24,op:=Op.extract (Operand.tmp 15) 1,type:=25,pos:= "quotient.go:30",after:=#[{on:=7,ground:=Ground.data},{on:=11,ground:=Ground.gcOnly Departure.lateStores}],guard:=none}) (v:=(.int .i64 0)) rfl (by kernel_rfl) (by kernel_rfl) (by kernel_rfl) (fun _ _ _ h=>h) (Or.inl ⟨by rfl,?_⟩) (by assumption) ?_
  ·(intro w f;(try dsimp only at f);go_simp)
  simp only[Act.put,List.setIfInBounds_toArray,List.set_cons_zero,List.set_cons_succ]
  refine wpAnyH_ready (rs:=[11]) (by kernel_rfl) (by simp) ?_
  refine AllReadyH.cons (o:={dst:=none,op:=Op.store 45 (Operand.tmp 6) (Operand.tmp 23),type:=0,pos:= "quotient.go:30",after:=#[{on:=10,ground:=Ground.data},{on:=8,ground:=Ground.data},{on:=6,ground:=Ground.chain},{on:=0,ground:=Ground.phase},{on:=1,ground:=Ground.phase},{on:=2,ground:=Ground.phase},{on:=3,ground:=Ground.phase},{on:=4,ground:=Ground.phase},{on:=5,ground:=Ground.phase},{on:=6,ground:=Ground.phase},{on:=7,ground:=Ground.phase},{on:=8,ground:=Ground.phase},{on:=9,ground:=Ground.textOnly Departure.lateStores},{on:=10,ground:=Ground.phase}],guard:=none}) rfl (fun K z=>?_) AllReadyH.nil
  have q0:=G.c0;have q1:=G.c1;have f0:=G.free 0;have f1:=G.free 1
  go_wp2_with fail
  refine z.out _ _ ?_ (fun m=>?_)
  ·exact uH X _ (Below.setCell (Below.setCell (And.left (by assumption)) O _) O _)
  clear z K q0 q1 f0 f1
  refine wpAnyH_take (i:=12) (oi:={dst:=some 7,op:=Op.assign (Operand.tmp 24),type:=25,pos:= "quotient.go:30",after:=#[{on:=9,ground:=Ground.data},{on:=11,ground:=Ground.chain},{on:=0,ground:=Ground.phase},{on:=1,ground:=Ground.phase},{on:=2,ground:=Ground.phase},{on:=3,ground:=Ground.phase},{on:=4,ground:=Ground.phase},{on:=5,ground:=Ground.phase},{on:=6,ground:=Ground.phase},{on:=7,ground:=Ground.phase},{on:=8,ground:=Ground.phase},{on:=9,ground:=Ground.phase},{on:=10,ground:=Ground.phase},{on:=11,ground:=Ground.phase}],guard:=none}) (v:=(.int .i64 0)) rfl (by kernel_rfl) (by kernel_rfl) (by kernel_rfl) (fun _ _ _ h=>h) (Or.inl ⟨by rfl,?_⟩) (by assumption) ?_
  ·(intro w f;(try dsimp only at f);go_simp)
  simp only[Act.put,List.setIfInBounds_toArray,List.set_cons_zero,List.set_cons_succ]
  refine wpAnyH_done (by kernel_rfl) ?_ _
  have bz:=G.put (.bool A) (.slice D H F)
  have HZ:=aa (show aw 0 ((L.setCell ⟨t.heap.size,0,none⟩ (.bool A)).setCell ⟨t.heap.size,1,none⟩ (.slice D H F)) (.agg #[.bool A,.slice D H F]) z2 from((uH I2).put2 (p:=⟨t.heap.size,0,none⟩) (q:=⟨t.heap.size,1,none⟩) (by simp) (by simp) (.bool A) (.slice D H F)).mono (Nat.zero_le _))
  have BZ:=aa (show Below t.heap.size t ((L.setCell ⟨t.heap.size,0,none⟩ (.bool A)).setCell ⟨t.heap.size,1,none⟩ (.slice D H F))from Below.setCell (Below.setCell M O _) O _)
  have r0:=bz.c0;have r1:=bz.c1
  clear G I2 m
  generalize ((L.setCell ⟨t.heap.size,0,none⟩ (.bool A)).setCell ⟨t.heap.size,1,none⟩ (.slice D H F))=WE at*
  go_wp2_with fail
  refine(uH K4 _ _ _ (uH HZ)).mono ?_
  rintro e we ⟨rfl,d⟩
  have N:=aa ((uH BZ).trans (d.mono (uH BZ).size))
  have HW:=aa ((uH HV).below (uH N))
  have V:=(uH XB).all (uH N)
  have y0:=V.c0;have y1:=V.c1;have y2:=V.c2
  clear r0 r1 bz d BZ HZ V
  go_wp2_with fail
  refine(uH K5 _ _ _ _ _ (uH HW)).mono ?_
  rintro e wf ⟨rfl,d⟩
  have BF:=aa ((uH B1).trans (((uH N).trans (d.mono (uH N).size)).mono (uH B1).size))
  clear d N HW y0 y1 y2
  go_wp2
  exact bodyPost_ret (v:=.tuple #[.int .i64 z2,.int .i64 tp]) (by simp[results,Tryz.results247,go_sem]) rfl ⟨rfl,uH BF⟩
theorem aG.limbs{w:World}{n:Bool}{a:Option Addr}{l c:Nat}{X m Y:Int}(h:aG w (.agg #[.bool n,.slice a l c,.int .i64 X]) m Y)(t:m.natAbs<dy):
  ∃L,l=L.length∧ag w a c L∧av false L=true∧an L=m.natAbs∧L.length≤512:=by
 obtain⟨G,H,I,L,f,z,d,A,D,K⟩:=h.right t
 simp only[Value.agg.injEq,Array.mk.injEq,List.cons.injEq,Value.bool.injEq,Value.slice.injEq,and_true]at f
 obtain⟨rfl,⟨rfl,F,rfl⟩,_⟩:=f
 have y:av false L=true:=by
  simp only[av,Bool.and_eq_true,decide_eq_true_eq,Bool.not_eq_true',Bool.and_eq_false_iff,decide_eq_false_iff_not,Bool.or_eq_true]at d⊢
  exact⟨⟨d.1.1,Or.inr trivial⟩,d.2⟩
 exact⟨L,F,z,y,by rw[←A,aR],D⟩
theorem Bu{B:Nat}{w:World}{v:Value}{x:Int}(m:aw B w v x)(D:-9223372036854775808≤x)(F:x≤9223372036854775807):
  Calls Tryz.prog 267 #[v] w fun e t=>e=.returned (.tuple #[.int .i64 x,.int .i64 0])∧Below w.heap.size w t:=by
 obtain⟨d,ao,y,A,rfl,z,h,l,G⟩:=m.right (cW _ (by omega))
 have:=pB d ao y A w z (by omega)
 have f:iH x=true:=by unfold iH;rw[decide_eq_true (by omega)]
 rwa[show rE d A=x by unfold rE;rw[h,l,f];rfl,show rD d A=0 by unfold rD;rw[h,l,f];rfl]at this
theorem nP(b:Nat)(w:World)(A:b<18446744073709551616)(D:aC b=true)(I:fK b≠0)(K:b7 w):
  Calls Tryz.prog 247 #[.int .u64 b] w fun r d=>r=.returned (.tuple #[.int .i64 (dS b:Nat),.int .i64 (dT b)])∧Below w.heap.size w d:=by
 obtain⟨N,O,Q,U,V,X,Y,Z⟩:=cT b A D I
 have z:(fD b).natAbs<dy:=cW _ (by omega)
 have M:(dS b:Int)=((fD b).natAbs*2^(53-(bl (fD b).natAbs:Int)).toNat:Nat):=by
  unfold dS
  rw[show(53-(bl (fD b).natAbs:Int)).toNat=53-bl (fD b).natAbs by omega]
 refine sR b (fD b) (fX b) (dS b:Nat) (bl (fD b).natAbs:Nat) (dT b) w (by omega) (fun d h=>df b d A D (K.all h)) ?_ ?_ ?_ ?_
 ·intro d n a l c h
  obtain⟨L,rfl,f,t,y,H⟩:=h.limbs z
  have:=qw false a c L d f (by omega)
  rwa[iN f.2.1 t,y]at this
 ·intro d n a l c h
  obtain⟨L,rfl,f,t,y,H⟩:=h.limbs z
  have:=ia false a c L (53-(bl (fD b).natAbs:Int)) d f (by omega) (by omega)
  have F:oR false L (53-(bl (fD b).natAbs:Int))=(dS b:Int):=by
   unfold oR
   rw[if_pos (by omega),y,M];rfl
  have m:lg false L (53-(bl (fD b).natAbs:Int))=true:=by unfold lg;rw[t,decide_eq_true (by omega)];rfl
  have G:((dS b:Nat):Int).natAbs<dy:=cW _ (by omega)
  rwa[show uw false L (53-(bl (fD b).natAbs:Int))=0 by unfold uw;rw[m,if_pos rfl,F,fj _ G],show rU false L (53-(bl (fD b).natAbs:Int))=(dS b:Nat) by unfold rU;rw[m,if_pos rfl,F,fk _ G]]at this
 ·intro B d v h
  exact Bu h (by omega) (by omega)
 ·intro d n a l c h
  obtain⟨L,rfl,f,t,y,H⟩:=h.limbs z
  have:=kx false a c L (fX b) d f (by omega)
  rwa[iN f.2.1 t,y,aW _ (by omega)]at this
theorem sT(a b:Nat)(x y m t q E M X N:Int)(w:World)(r o:Nat)(ht:-3000≤m∧m≤3000∧-3000≤t∧t≤3000)(V:E=m-t-55)
  (Y:∀f,Below w.heap.size w f→Calls Tryz.prog 247 #[.int .u64 a] f fun r h=>r=.returned (.tuple #[.int .i64 x,.int .i64 m])∧Below f.heap.size f h)
  (Z:∀f,Below w.heap.size w f→Calls Tryz.prog 247 #[.int .u64 b] f fun r h=>r=.returned (.tuple #[.int .i64 y,.int .i64 t])∧Below f.heap.size f h)
  (C3:∀f,Calls Tryz.prog 248 #[.int .i64 x,.int .i64 y] f fun r h=>r=.returned (.int .i64 q)∧f=h)
  (C4:∀f,Calls Tryz.prog 230 #[.int .i64 q] f fun r h=>∃v,r=.returned v∧aw f.heap.size h v q∧Below f.heap.size f h)
  (C5:∀B f v,Below w.heap.size w f→aw B f v q→Calls Tryz.prog 229 #[v,.int .i64 E] f fun r h=>mn h r 0 M X∧Below f.heap.size f h)
  (C6:∀f v,Below w.heap.size w f→aG f v M X→Calls Tryz.prog 205 #[v] f fun s h=>s=.returned (.tuple #[.int .u64 (r:Nat),.int .u8 N,.int .i64 0])∧Below f.heap.size f h)
  (C7:∀f,Calls Tryz.prog 225 #[.int .u64 (r:Nat),.int .u64 a,.int .u64 b] f fun s h=>s=.returned (.int .u64 (o:Nat))∧Below f.heap.size f h):
  Calls Tryz.prog 227 #[.int .u64 a,.int .u64 b] w fun s f=>s=.returned (.tuple #[.int .u64 (o:Nat),.int .u8 N])∧Below w.heap.size w f:=by
 have K1:=aa Y;have K2:=aa Z;have K3:=aa C3;have K4:=aa C4;have K5:=aa C5;have K6:=aa C6;have K7:=aa C7
 clear Y Z C3 C4 C5 C6 C7
 have e1:=aW (m-t) (by omega)
 have e2:=aW (m-t-55) (by omega)
 rw[←V]at e2
 go_enter Tryz.func227,Tryz.ntmps227
 go_wp2_with fail
 refine(uH K1 _ (Below.refl _ _)).mono ?_
 rintro e w1 ⟨rfl,d⟩
 have D:=aa d
 clear d K1
 go_wp2_with fail
 refine(uH K2 _ (uH D)).mono ?_
 rintro e w2 ⟨rfl,d⟩
 have O:=aa ((uH D).trans (d.mono (uH D).size))
 clear d K2 D
 go_wp2_with fail
 refine(uH K3 _).mono ?_
 rintro e wk ⟨rfl,rfl⟩
 go_wp2_with fail
 refine(uH K4 _).mono ?_
 rintro e w3 ⟨v,rfl,⟨n3,a3,c3,U,rfl,i3⟩,d⟩
 have F:=aa ((uH O).trans (d.mono (uH O).size))
 have I3:=aa (show aw w2.heap.size w3 (.agg #[.bool n3,.slice a3 U.length c3]) q from⟨n3,a3,c3,U,rfl,i3⟩)
 clear d K3 K4 O i3
 generalize U.length=l3 at*
 subst V
 go_wp2_with fail
 refine(uH K5 _ _ _ (uH F) (uH I3)).mono ?_
 rintro e A ⟨⟨v,rfl,hv⟩,d⟩
 obtain⟨I,K,L,z,rfl,i1⟩:=hv
 have l:Below A.heap.size A (A.alloc (.cells #[.bool I,.slice K z.length L,.int .i64 X] 47)):=(Below.refl _ _).alloc (Nat.le_refl _) _
 have HX:=aa ((show aG A (.agg #[.bool I,.slice K z.length L,.int .i64 X]) M X from⟨I,K,L,z,rfl,i1⟩).below l)
 have G:=aa ((uH F).trans ((d.trans (l.mono d.size)).mono (uH F).size))
 have H:=az.new A (.bool I) (.slice K z.length L) (.int .i64 X)
 have y0:=H.c0;have y1:=H.c1;have y2:=H.c2
 clear i1 d l K5 F H I3
 generalize z.length=l1 at*
 go_wp2_with fail
 refine(uH K6 _ _ (uH G) (uH HX)).mono ?_
 rintro e w5 ⟨rfl,d⟩
 have Q:=aa ((uH G).trans (d.mono (uH G).size))
 clear d K6 G y0 y1 y2 HX
 go_wp2_with fail
 refine(uH K7 _).mono ?_
 rintro e w6 ⟨rfl,d⟩
 have B6:=aa ((uH Q).trans (d.mono (uH Q).size))
 clear d K7 Q
 go_wp2
 exact bodyPost_ret (v:=.tuple #[.int .u64 o,.int .u8 N]) (by simp[results,Tryz.results227,go_sem]) rfl ⟨rfl,uH B6⟩
theorem Jj{S:Nat}(h:S<144115188075855872):S<2^57:=by
 have:(2:Nat)^57=144115188075855872:=by decide
 omega
theorem qR(a b S y z r:Nat)(l m H:Int)(w:World)(Q:a<18446744073709551616)(U:b<18446744073709551616)(hr:r≤9218868437227405312)
  (ht:-1100≤l∧l≤1100∧-1100≤m∧m≤1100) (s1:S≠0) (V:S<144115188075855872)
  (I:bX S (l-m-55)=r) (K:bM (oM (S:Nat)).natAbs (oE (S:Nat) (l-m-55))=H) (L:b7 w)
  (X:∀d,Below w.heap.size w d→Calls Tryz.prog 247 #[.int .u64 a] d fun r f=>r=.returned (.tuple #[.int .i64 (y:Nat),.int .i64 l])∧Below d.heap.size d f)
  (Y:∀d,Below w.heap.size w d→Calls Tryz.prog 247 #[.int .u64 b] d fun r f=>r=.returned (.tuple #[.int .i64 (z:Nat),.int .i64 m])∧Below d.heap.size d f)
  (Z:∀d,Calls Tryz.prog 248 #[.int .i64 (y:Nat),.int .i64 (z:Nat)] d fun r f=>r=.returned (.int .i64 (S:Nat))∧d=f):
  Calls Tryz.prog 227 #[.int .u64 a,.int .u64 b] w fun s d=>s=.returned (.tuple #[.int .u64 (cr (fS a^^fS b) r:Nat),.int .u8 H])∧Below w.heap.size w d:=by
 have M:((S:Nat):Int).natAbs<dy:=cW _ (by omega)
 have t:((S:Nat):Int)≠0:=by omega
 have ae:tz ((S:Nat):Int).natAbs<57:=lU _ 57 (by omega) (by rw[Int.natAbs_natCast];exact Jj V)
 obtain⟨E,O⟩:∃E,E=l-m-55:=⟨_,rfl⟩
 rw[←O]at I K
 have aj:-2300≤E∧E≤2300:=by omega
 have D:lh (S:Nat) E=true:=by
  unfold lh
  rw[decide_eq_true (show-32768≤E∧E≤32768 by omega),decide_eq_true (show-16384≤E+(tz ((S:Nat):Int).natAbs:Int)∧E+(tz ((S:Nat):Int).natAbs:Int)≤16384 by omega),Bool.or_true]
  rfl
 have F:qz (oM (S:Nat)) (oE (S:Nat) E)=true:=by
  unfold qz
  rw[if_neg (gJ _ t).1,dI _ _ t,decide_eq_true (gJ _ t).2,decide_eq_true (by omega)]
  rfl
 have G:(oM (S:Nat)).natAbs<dy:=Nat.lt_of_le_of_lt (wI _) M
 have N:∀d v,Below w.heap.size w d→aG d v (oM (S:Nat)) (oE (S:Nat) E)→_:=fun d v h A=>jh A G F (L.all h)
 rw[(jG ((S:Nat):Int) E).1,jF,decide_eq_false (show¬((S:Nat):Int)<0 by omega),a8,Int.natAbs_natCast,I,K]at N
 refine sT a b (y:Nat) (z:Nat) l m (S:Nat) E _ _ _ w _ _ (by omega) O X Y Z
  (fun d=>uG _ d (by omega) (by omega)) (fun B d v h A=>?_) N (fun d=>fp r a b d Q U (by omega))
 have:=jf E A M (by omega) (L.all h)
 unfold cP dM dX at this
 rw[D]at this
 exact this.mono fun r f ⟨u,g1,g2,g3⟩=>⟨⟨u,g1,g2⟩,g3⟩
theorem Hy(a b:Nat):cE (dS a*2^54) (dS b)=pS a b:=by unfold pS;rfl
theorem Gq(b:Nat)(d:b<18446744073709551616)(f:aC b=true)(h:fK b≠0):-1100≤dT b∧dT b≤1100:=by
 obtain⟨l,m,t,y,z,A,D,F⟩:=cT b d f h
 unfold dT
 omega
theorem o0(a b:Nat)(w:World)(z:a<18446744073709551616)(m:b<18446744073709551616)(t:aC a=true)(d:aC b=true)(y:fK a≠0)(f:fK b≠0)(A:b7 w):
  Calls Tryz.prog 227 #[.int .u64 a,.int .u64 b] w fun r l=>r=.returned (.tuple #[.int .u64 (dV a b:Nat),.int .u8 (dF a b)])∧Below w.heap.size w l:=by
 obtain⟨V,X,Y,L,Z,y6,y7,y8⟩:=cT b m d f
 obtain⟨M,N,O⟩:=Bi a b z m t d y f
 obtain⟨Q,U⟩:=Bh a b z m t d y f
 have H:qV a b≤9218868437227405312:=eM _ _
 have D:=fun l=>qQ (dS a) (dS b) l L O
 have F:=Gq a z t y
 have G:=Gq b m d f
 have I:=(AX a b t d y f).1
 have K:=(AX a b t d y f).2
 rw[Hy]at D
 rw[I,K]
 exact qR a b (pS a b) (dS a) (dS b) (qV a b) (dT a) (dT b) (qF a b) w z m H ⟨F.1,F.2,G.1,G.2⟩ M N Q U A (fun l h=>nP a l z t y (A.all h)) (fun l h=>nP b l m d f (A.all h)) D
theorem Fd(a b:Nat)(A:Int)(w:World)
  (m:∀d,Calls Tryz.prog 103 #[.int .u64 a] d fun r f=>r=.returned (.int .i64 4)∧Below d.heap.size d f)
  (t:∀d,Calls Tryz.prog 103 #[.int .u64 b] d fun r f=>r=.returned (.int .i64 A)∧Below d.heap.size d f):
  Calls Tryz.prog 202 #[.int .u64 a,.int .u64 b] w fun r d=>r=.returned (.tuple #[.int .u64 9221120237041090560,.int .u8 0])∧Below w.heap.size w d:=by
 have y:=aa m;have z:=aa t
 clear m t
 go_enter Tryz.func202,Tryz.ntmps202
 go_wp2_with fail
 refine(uH y _).mono ?_
 rintro e D ⟨rfl,h⟩
 go_wp2_with fail
 refine(uH z _).mono ?_
 rintro e F ⟨rfl,l⟩
 have B:=aa (h.trans (l.mono h.size))
 clear h l y z
 go_wp2
 exact bodyPost_ret (v:=.tuple #[.int .u64 9221120237041090560,.int .u8 0]) (by simp[results,Tryz.results202,go_sem]) rfl ⟨rfl,uH B⟩
theorem Fe(a b:Nat)(m:Int)(w:World)(D:(m==4)=false)
  (t:∀d,Calls Tryz.prog 103 #[.int .u64 a] d fun r f=>r=.returned (.int .i64 m)∧Below d.heap.size d f)
  (y:∀d,Calls Tryz.prog 103 #[.int .u64 b] d fun r f=>r=.returned (.int .i64 4)∧Below d.heap.size d f):
  Calls Tryz.prog 202 #[.int .u64 a,.int .u64 b] w fun r d=>r=.returned (.tuple #[.int .u64 9221120237041090560,.int .u8 0])∧Below w.heap.size w d:=by
 have z:=aa t;have A:=aa y
 clear t y
 go_enter Tryz.func202,Tryz.ntmps202
 go_wp2_with fail
 refine(uH z _).mono ?_
 rintro e F ⟨rfl,h⟩
 go_wp2_with fail
 refine(uH A _).mono ?_
 rintro e G ⟨rfl,l⟩
 have B:=aa (h.trans (l.mono h.size))
 clear h l z A
 go_wp2
 exact bodyPost_ret (v:=.tuple #[.int .u64 9221120237041090560,.int .u8 0]) (by simp[results,Tryz.results202,go_sem]) rfl ⟨rfl,uH B⟩
theorem Ff(a b:Nat)(w:World)
  (m:∀d,Calls Tryz.prog 103 #[.int .u64 a] d fun r f=>r=.returned (.int .i64 3)∧Below d.heap.size d f)
  (t:∀d,Calls Tryz.prog 103 #[.int .u64 b] d fun r f=>r=.returned (.int .i64 3)∧Below d.heap.size d f):
  Calls Tryz.prog 202 #[.int .u64 a,.int .u64 b] w fun r d=>r=.returned (.tuple #[.int .u64 9221120237041090560,.int .u8 16])∧Below w.heap.size w d:=by
 have y:=aa m;have z:=aa t
 clear m t
 go_enter Tryz.func202,Tryz.ntmps202
 go_wp2_with fail
 refine(uH y _).mono ?_
 rintro e A ⟨rfl,h⟩
 go_wp2_with fail
 refine(uH z _).mono ?_
 rintro e D ⟨rfl,l⟩
 have B:=aa (h.trans (l.mono h.size))
 clear h l y z
 go_wp2
 exact bodyPost_ret (v:=.tuple #[.int .u64 9221120237041090560,.int .u8 16]) (by simp[results,Tryz.results202,go_sem]) rfl ⟨rfl,uH B⟩
theorem Fg(a b:Nat)(w:World)
  (m:∀d,Calls Tryz.prog 103 #[.int .u64 a] d fun r f=>r=.returned (.int .i64 0)∧Below d.heap.size d f)
  (t:∀d,Calls Tryz.prog 103 #[.int .u64 b] d fun r f=>r=.returned (.int .i64 0)∧Below d.heap.size d f):
  Calls Tryz.prog 202 #[.int .u64 a,.int .u64 b] w fun r d=>r=.returned (.tuple #[.int .u64 9221120237041090560,.int .u8 16])∧Below w.heap.size w d:=by
 have y:=aa m;have z:=aa t
 clear m t
 go_enter Tryz.func202,Tryz.ntmps202
 go_wp2_with fail
 refine(uH y _).mono ?_
 rintro e A ⟨rfl,h⟩
 go_wp2_with fail
 refine(uH z _).mono ?_
 rintro e D ⟨rfl,l⟩
 have B:=aa (h.trans (l.mono h.size))
 clear h l y z
 go_wp2
 exact bodyPost_ret (v:=.tuple #[.int .u64 9221120237041090560,.int .u8 16]) (by simp[results,Tryz.results202,go_sem]) rfl ⟨rfl,uH B⟩
theorem Hz(a b:Nat)(t:Int)(o:Nat)(w:World)(H:(t==4)=false)(I:(t==3)=false)
  (y:∀d,Calls Tryz.prog 103 #[.int .u64 a] d fun r f=>r=.returned (.int .i64 3)∧Below d.heap.size d f)
  (z:∀d,Calls Tryz.prog 103 #[.int .u64 b] d fun r f=>r=.returned (.int .i64 t)∧Below d.heap.size d f)
  (A:∀d,Calls Tryz.prog 225 #[.int .u64 9218868437227405312,.int .u64 a,.int .u64 b] d fun r f=>r=.returned (.int .u64 (o:Nat))∧Below d.heap.size d f):
  Calls Tryz.prog 202 #[.int .u64 a,.int .u64 b] w fun r d=>r=.returned (.tuple #[.int .u64 (o:Nat),.int .u8 0])∧Below w.heap.size w d:=by
 have D:=aa y;have F:=aa z
 clear y z
 go_enter Tryz.func202,Tryz.ntmps202
 go_wp2_with fail
 refine(uH D _).mono ?_
 rintro e K ⟨rfl,h⟩
 go_wp2_with fail
 refine(uH F _).mono ?_
 rintro e L ⟨rfl,l⟩
 have B:=aa (h.trans (l.mono h.size))
 clear h l D F
 have G:=aa A
 clear A
 go_wp2_with fail
 refine(uH G _).mono ?_
 rintro e M ⟨rfl,m⟩
 have B:=aa ((uH B).trans (m.mono (uH B).size))
 clear m G
 go_wp2
 exact bodyPost_ret (v:=.tuple #[.int .u64 (o:Nat),.int .u8 0]) (by simp[results,Tryz.results202,go_sem]) rfl ⟨rfl,uH B⟩
theorem H6(a b:Nat)(t:Int)(o:Nat)(w:World)(H:(t==4)=false)(I:(t==0)=false)
  (y:∀d,Calls Tryz.prog 103 #[.int .u64 a] d fun r f=>r=.returned (.int .i64 0)∧Below d.heap.size d f)
  (z:∀d,Calls Tryz.prog 103 #[.int .u64 b] d fun r f=>r=.returned (.int .i64 t)∧Below d.heap.size d f)
  (A:∀d,Calls Tryz.prog 225 #[.int .u64 0,.int .u64 a,.int .u64 b] d fun r f=>r=.returned (.int .u64 (o:Nat))∧Below d.heap.size d f):
  Calls Tryz.prog 202 #[.int .u64 a,.int .u64 b] w fun r d=>r=.returned (.tuple #[.int .u64 (o:Nat),.int .u8 0])∧Below w.heap.size w d:=by
 have D:=aa y;have F:=aa z
 clear y z
 go_enter Tryz.func202,Tryz.ntmps202
 go_wp2_with fail
 refine(uH D _).mono ?_
 rintro e K ⟨rfl,h⟩
 go_wp2_with fail
 refine(uH F _).mono ?_
 rintro e L ⟨rfl,l⟩
 have B:=aa (h.trans (l.mono h.size))
 clear h l D F
 have G:=aa A
 clear A
 go_wp2_with fail
 refine(uH G _).mono ?_
 rintro e M ⟨rfl,m⟩
 have B:=aa ((uH B).trans (m.mono (uH B).size))
 clear m G
 go_wp2
 exact bodyPost_ret (v:=.tuple #[.int .u64 (o:Nat),.int .u8 0]) (by simp[results,Tryz.results202,go_sem]) rfl ⟨rfl,uH B⟩
theorem H7(a b:Nat)(t:Int)(o:Nat)(w:World)(H:(t==4)=false)(I:(t==3)=false)(K:(t==0)=false)
  (y:∀d,Calls Tryz.prog 103 #[.int .u64 a] d fun r f=>r=.returned (.int .i64 t)∧Below d.heap.size d f)
  (z:∀d,Calls Tryz.prog 103 #[.int .u64 b] d fun r f=>r=.returned (.int .i64 3)∧Below d.heap.size d f)
  (A:∀d,Calls Tryz.prog 225 #[.int .u64 0,.int .u64 a,.int .u64 b] d fun r f=>r=.returned (.int .u64 (o:Nat))∧Below d.heap.size d f):
  Calls Tryz.prog 202 #[.int .u64 a,.int .u64 b] w fun r d=>r=.returned (.tuple #[.int .u64 (o:Nat),.int .u8 0])∧Below w.heap.size w d:=by
 have D:=aa y;have F:=aa z
 clear y z
 go_enter Tryz.func202,Tryz.ntmps202
 go_wp2_with fail
 refine(uH D _).mono ?_
 rintro e L ⟨rfl,h⟩
 go_wp2_with fail
 refine(uH F _).mono ?_
 rintro e M ⟨rfl,l⟩
 have B:=aa (h.trans (l.mono h.size))
 clear h l D F
 have G:=aa A
 clear A
 go_wp2_with fail
 refine(uH G _).mono ?_
 rintro e N ⟨rfl,m⟩
 have B:=aa ((uH B).trans (m.mono (uH B).size))
 clear m G
 go_wp2
 exact bodyPost_ret (v:=.tuple #[.int .u64 (o:Nat),.int .u8 0]) (by simp[results,Tryz.results202,go_sem]) rfl ⟨rfl,uH B⟩
theorem H8(a b:Nat)(t:Int)(o:Nat)(w:World)(H:(t==4)=false)(I:(t==3)=false)(K:(t==0)=false)
  (y:∀d,Calls Tryz.prog 103 #[.int .u64 a] d fun r f=>r=.returned (.int .i64 t)∧Below d.heap.size d f)
  (z:∀d,Calls Tryz.prog 103 #[.int .u64 b] d fun r f=>r=.returned (.int .i64 0)∧Below d.heap.size d f)
  (A:∀d,Calls Tryz.prog 225 #[.int .u64 9218868437227405312,.int .u64 a,.int .u64 b] d fun r f=>r=.returned (.int .u64 (o:Nat))∧Below d.heap.size d f):
  Calls Tryz.prog 202 #[.int .u64 a,.int .u64 b] w fun r d=>r=.returned (.tuple #[.int .u64 (o:Nat),.int .u8 8])∧Below w.heap.size w d:=by
 have D:=aa y;have F:=aa z
 clear y z
 go_enter Tryz.func202,Tryz.ntmps202
 go_wp2_with fail
 refine(uH D _).mono ?_
 rintro e L ⟨rfl,h⟩
 go_wp2_with fail
 refine(uH F _).mono ?_
 rintro e M ⟨rfl,l⟩
 have B:=aa (h.trans (l.mono h.size))
 clear h l D F
 have G:=aa A
 clear A
 go_wp2_with fail
 refine(uH G _).mono ?_
 rintro e N ⟨rfl,m⟩
 have B:=aa ((uH B).trans (m.mono (uH B).size))
 clear m G
 go_wp2
 exact bodyPost_ret (v:=.tuple #[.int .u64 (o:Nat),.int .u8 8]) (by simp[results,Tryz.results202,go_sem]) rfl ⟨rfl,uH B⟩
theorem H9(a b:Nat)(t y:Int)(z:Int)(o:Nat)(w:World)(M:(t==4)=false)(N:(t==3)=false)(O:(t==0)=false)(Q:(y==4)=false)(U:(y==3)=false)(V:(y==0)=false)(A:b7 w)
  (D:∀d,Calls Tryz.prog 103 #[.int .u64 a] d fun r f=>r=.returned (.int .i64 t)∧Below d.heap.size d f)
  (F:∀d,Calls Tryz.prog 103 #[.int .u64 b] d fun r f=>r=.returned (.int .i64 y)∧Below d.heap.size d f)
  (G:∀d,b7 d→Calls Tryz.prog 227 #[.int .u64 a,.int .u64 b] d fun r f=>r=.returned (.tuple #[.int .u64 (o:Nat),.int .u8 z])∧Below d.heap.size d f):
  Calls Tryz.prog 202 #[.int .u64 a,.int .u64 b] w fun r d=>r=.returned (.tuple #[.int .u64 (o:Nat),.int .u8 z])∧Below w.heap.size w d:=by
 have H:=aa D;have I:=aa F
 clear D F
 go_enter Tryz.func202,Tryz.ntmps202
 go_wp2_with fail
 refine(uH H _).mono ?_
 rintro e X ⟨rfl,h⟩
 go_wp2_with fail
 refine(uH I _).mono ?_
 rintro e Y ⟨rfl,l⟩
 have B:=aa (h.trans (l.mono h.size))
 clear h l H I
 have K:=aa G;have L:=aa (A.all (uH B))
 clear G A
 go_wp2_with fail
 refine(uH K _ (uH L)).mono ?_
 rintro e Z ⟨rfl,m⟩
 have B:=aa ((uH B).trans (m.mono (uH B).size))
 clear m K L
 go_wp2
 exact bodyPost_ret (v:=.tuple #[.int .u64 (o:Nat),.int .u8 z]) (by simp[results,Tryz.results202,go_sem]) rfl ⟨rfl,uH B⟩
theorem Bv(a b:Nat)(w:World)(G:a<18446744073709551616)(H:b<18446744073709551616)(O:b7 w):
  Calls Tryz.prog 202 #[.int .u64 a,.int .u64 b] w fun r h=>r=.returned (.tuple #[.int .u64 (dV a b:Nat),.int .u8 (dF a b)])∧Below w.heap.size w h:=by
 have d:=fun h=>cu a h G
 have f:=fun h=>cu b h H
 have I:=fun h=>fp 9218868437227405312 a b h G H (by decide)
 have K:=fun h=>fp 0 a b h G H (by decide)
 by_cases y:fK a=4
 ·rw[show dV a b=9221120237041090560 by unfold dV;rw[if_pos (Or.inl y)],show dF a b=0 by unfold dF;rw[if_pos (Or.inl y)]]
  rw[y]at d
  exact Fd a b _ w d f
 by_cases A:fK b=4
 ·rw[show dV a b=9221120237041090560 by unfold dV;rw[if_pos (Or.inr A)],show dF a b=0 by unfold dF;rw[if_pos (Or.inr A)]]
  rw[A]at f
  exact Fe a b _ w (by simp[y]) d f
 have z:¬(fK a=4∨fK b=4):=by omega
 by_cases m:fK a=fK b∧(fK a=3∨fK a=0)
 ·rw[show dV a b=9221120237041090560 by unfold dV;rw[if_neg z,if_pos m],show dF a b=16 by unfold dF;rw[if_neg z,if_pos m]]
  rcases m with⟨M,D|N⟩
  ·rw[D]at d
   rw[←M,D]at f
   exact Ff a b w d f
  ·rw[N]at d
   rw[←M,N]at f
   exact Fg a b w d f
 by_cases l:fK a=3
 ·rw[show dV a b=cr (fS a^^fS b) 9218868437227405312 by unfold dV;rw[if_neg z,if_neg m,if_pos l],show dF a b=0 by unfold dF;rw[if_neg z,if_neg m,if_pos l]]
  rw[l]at d
  exact Hz a b _ _ w (by simp[A]) (by simp;omega) d f I
 by_cases D:fK b=3∨fK a=0
 ·rw[show dV a b=cr (fS a^^fS b) 0 by unfold dV;rw[if_neg z,if_neg m,if_neg l,if_pos D],show dF a b=0 by unfold dF;rw[if_neg z,if_neg m,if_neg l,if_pos D]]
  by_cases L:fK a=0
  ·rw[L]at d
   exact H6 a b _ _ w (by simp[A]) (by simp;omega) d f K
  ·have Q:fK b=3:=by omega
   rw[Q]at f
   exact H7 a b _ _ w (by simp[y]) (by simp[l]) (by simp[L]) d f K
 by_cases F:fK b=0
 ·rw[show dV a b=cr (fS a^^fS b) 9218868437227405312 by unfold dV;rw[if_neg z,if_neg m,if_neg l,if_neg D,if_pos F],show dF a b=8 by unfold dF;rw[if_neg z,if_neg m,if_neg l,if_neg D,if_pos F]]
  rw[F]at f
  exact H8 a b _ _ w (by simp[y]) (by simp[l]) (by simp;omega) d f I
 ·exact H9 a b _ _ _ _ w (by simp[y]) (by simp[l]) (by simp;omega) (by simp[A]) (by simp;omega) (by simp[F]) O d f (fun h t=>o0 a b h G H (bh a l y) (bh b (by omega) A) (by omega) F t)
theorem sU(t:TypeId)(x y:Nat)(w:World):(binOp .mul t (.float .f64 x) (.float .f64 y)).run Tryz.prog w=.ok (.float .f64 (fC (Ieee.double.mul x y) x y w)) (lC (Ieee.double.mul x y) w):=by
 have d:FloatKind.f64.format=Ieee.double:=rfl
 cases h:Ieee.double.mul x y with
 |some r=>exact run_float_arith w .mul t .f64 x y r (by unfold floatBits;rw[d];exact h)
 |none=>
  simp only[binOp,Op.floatArith,d,h]
  rfl
theorem Bw(t:TypeId)(x y:Nat)(w:World):(binOp .quo t (.float .f64 x) (.float .f64 y)).run Tryz.prog w=.ok (.float .f64 (fC (Ieee.double.div x y) x y w)) (lC (Ieee.double.div x y) w):=by
 have d:FloatKind.f64.format=Ieee.double:=rfl
 cases h:Ieee.double.div x y with
 |some r=>exact run_float_arith w .quo t .f64 x y r (by unfold floatBits;rw[d];exact h)
 |none=>
  simp only[binOp,Op.floatArith,d,h]
  rfl
theorem gy(n:Bool)(r:Nat)(h:r≤9218868437227405312):fK (cr n r)≠4:=fun d=>by
 have:=(bu _).1.1 d
 have e:fR (cr n r)=r:=by unfold fR;exact(ii n r (by omega)).2
 omega
theorem Fh(a b:Nat)(h:mN a b=false):fK (mV a b)≠4:=by
 have d:=of_decide_eq_false h
 have l:¬(fK a=4∨fK b=4):=fun e=>d (Or.inl e)
 unfold mV
 rw[if_neg l]
 split
 ·rename_i m
  rw[if_neg (fun f=>d (Or.inr ⟨m,f⟩))]
  exact gy _ _ (by decide)
 ·exact gy _ _ (eM _ _)
theorem Fi(a b:Nat)(h:dN a b=false):fK (dV a b)≠4:=by
 have d:=of_decide_eq_false h
 have f:¬(fK a=4∨fK b=4):=fun e=>d (Or.inl e)
 have l:¬(fK a=fK b∧(fK a=3∨fK a=0)):=fun e=>d (Or.inr e)
 unfold dV
 rw[if_neg f,if_neg l]
 repeat' split
 ·exact gy _ _ (by decide)
 ·exact gy _ _ (by decide)
 ·exact gy _ _ (by decide)
 ·exact gy _ _ (eM _ _)
theorem nQ(o:Option Nat)(v x y:Nat)(w d:World)(l:v<18446744073709551616)(m:o=none→v=9221120237041090560)(t:∀r,o=some r→r=v∧fK v≠4):
  Calls Tryz.prog 129 #[.int .u64 (fC o x y w:Nat)] d fun r f=>r=.returned (.int .u64 (v:Nat))∧d=f:=by
 cases o with
 |none=>
  rw[m rfl]
  obtain⟨z,h⟩:=lE x y w
  have:=eZ _ d z
  rw[if_pos h]at this
  exact this
 |some r=>
  obtain⟨rfl,h⟩:=t r rfl
  have:=eZ r d l
  rw[if_neg h]at this
  exact this
theorem yA(a b:Nat)(w l:World)(d:a<18446744073709551616)(f:b<18446744073709551616):
  Calls Tryz.prog 129 #[.int .u64 (fC (Ieee.double.mul a b) a b w:Nat)] l fun r m=>r=.returned (.int .u64 (mV a b:Nat))∧l=m:=by
 refine nQ _ (mV a b) a b w l (gp a b) (fun h=>?_) (fun r h=>?_)
 ·cases e:mN a b with
  |true=>exact(pI a b d f e).2
  |false=>rw[lu a b d f e]at h;cases h
 ·cases e:mN a b with
  |true=>rw[(pI a b d f e).1]at h;cases h
  |false=>
   rw[lu a b d f e]at h
   exact⟨(Option.some.inj h).symm,Fh a b e⟩
theorem yB(a b:Nat)(w l:World)(d:a<18446744073709551616)(f:b<18446744073709551616):
  Calls Tryz.prog 129 #[.int .u64 (fC (Ieee.double.div a b) a b w:Nat)] l fun r m=>r=.returned (.int .u64 (dV a b:Nat))∧l=m:=by
 refine nQ _ (dV a b) a b w l (nA a b) (fun h=>?_) (fun r h=>?_)
 ·cases e:dN a b with
  |true=>exact(pJ a b d f e).2
  |false=>rw[pK a b d f e]at h;cases h
 ·cases e:dN a b with
  |true=>rw[(pJ a b d f e).1]at h;cases h
  |false=>
   rw[pK a b d f e]at h
   exact⟨(Option.some.inj h).symm,Fi a b e⟩
end Go.Proofs.YtlnphkioddknfaaGreatDoor
