/- Part 42 of the texts. -/
import Derived.Test.YtnnfjeieennffaaGreatDoorPartc41
set_option maxHeartbeats 32000000
set_option maxRecDepth 20000
namespace Go.Proofs.YtnnfjeieennffaaGreatDoor
open Go.RowKit
attribute [local go_sem ↓] Go.wp_at_zero Go.wp_at_succ
structure mB (w wr:World) (h r nq:Nat) (S:List Nat) (qo:Option Addr) (qc:Nat) (v:Value) (R:List Mr):Prop where
 bel:Below w.heap.size w wr
 hh:w.heap.size+1≤h
 res:aw wr w.heap.size (.int .i64 0) (.int .i64 0) (.slice none 0 0)
 qb:aw wr h (.int .i64 r) (.int .i64 r) (.slice qo nq qc)
 bits:ad wr qo qc (az S)
 new:bD w.heap.size qo (az S)
 len:S.length=nq
 l:bI 0 wr v R
theorem mB.all{w wr w':World}{h r nq:Nat}{S:List Nat}{f:Option Addr}{m:Nat}{v:Value}{R:List Mr}(t:mB w wr h r nq S f m v R)(d:Below wr.heap.size wr w'):mB w w' h r nq S f m v R:=
 ⟨t.bel.trans (d.mono t.bel.size),t.hh,t.res.all d,t.qb.all d,t.bits.below d,t.new,t.len,t.l.below d⟩
theorem mB.put{w wr:World}{h r nq:Nat}{S U:List Nat}{m d:Option Addr}{z f:Nat}{v:Value}{R:List Mr}(t:mB w wr h r nq S m z v R)(A:ad wr d f (az U))(D:bD w.heap.size d (az U))(F:U.length=nq):
  mB w (((wr.setCell ⟨h,0,none⟩ (.int .i64 r)).setCell ⟨h,1,none⟩ (.int .i64 r)).setCell ⟨h,2,none⟩ (.slice d nq f)) h r nq U d f v R:=by
 have G:=t.hh
 have H:w.heap.size≠h:=by omega
 exact⟨aA t.bel (by omega) _ _ _,G,t.res.three14 H _ _ _,t.qb.put _ _ _,A.putM t.qb _ _ _,D,F,t.l.putQ t.qb _ _ _⟩
theorem mB.start{w d:World}{r nq:Nat}{S:List Nat}{f:Option Addr}{l:Nat}{v:Value}{R:List Mr}(h:Below (w.heap.size+1) (w.alloc (.cells #[.int .i64 0,.int .i64 0,.slice none 0 0] 24)) d)(D:ad d f l (az S))(F:bD w.heap.size f (az S))(G:S.length=nq)(H:bI 0 w v R):
  mB w (d.alloc (.cells #[.int .i64 r,.int .i64 r,.slice f nq l] 24)) d.heap.size r nq S f l v R:=by
 have m:=ac w (.cells #[.int .i64 0,.int .i64 0,.slice none 0 0] 24)
 have t:=an w (.cells #[.int .i64 0,.int .i64 0,.slice none 0 0] 24)
 have K:=aw.new w (.int .i64 0) (.int .i64 0) (.slice none 0 0)
 rw[←t]at h
 have b:=ac d (.cells #[.int .i64 r,.int .i64 r,.slice f nq l] 24)
 have z:=m.trans (h.mono m.size)
 have A:=h.size
 rw[t]at A
 exact⟨z.trans (b.mono z.size),A,(K.all h).all b,aw.new d _ _ _,D.below b,F,G,((H.below m).below h).below b⟩
theorem bI.apart{d:Nat}{w:World}{b l m:Nat}{R:List Mr}(h:bI d w (.slice (some ⟨b,0,none⟩) l m) R){g:Nat}{x y z:Value}(t:aw w g x y z):b≠g:=by
 rcases h.1.2 with⟨e,_⟩|⟨k,A,D,f,G,F,rest⟩
 ·cases e
 ·simp only[Value.slice.injEq,Option.some.injEq,Addr.mk.injEq]at f
  obtain⟨⟨rfl,_⟩,_⟩:=f
  rintro rfl
  have e:=F.symm.trans t
  simp at e
theorem vR(r nq K lc:Nat)(lo:Option Addr)(V Q:Nat→List Nat)(aj:Nat→Nat)(R:List Mr)(w:World)(bn:nq≤36)(bo:K≤6)(hl:bI 0 w (.slice lo K lc) R)(am:R.length=K)(ax:∀k,k<K→(bO R k).V=V k∧(bO R k).tau=aj k)
  (lQ:∀t,(Q t).length=nq) (lV:∀j,(V j).length=r-j)
  (C1:∀w',Calls Tryz.prog 75 #[.int .i64 r] w' fun e F=>∃z D,e=.returned (.tuple #[.agg #[.int .i64 r,.int .i64 r,.slice z nq D],.int .i64 0])∧bD w'.heap.size z (az (Q 0))∧ad F z D (az (Q 0))∧Below w'.heap.size w' F)
  (C2:∀w' t j po pc Y Z,t<K→j=K-1-t→Below w.heap.size w w'→ad w' po pc (az (Q t))→ad w' Y Z (az (V j))→Calls Tryz.prog 76 #[.agg #[.int .i64 r,.int .i64 r,.slice po nq pc],.int .i64 (j:Nat),.int .i64 0,.slice Y (r-j) Z,.int .u64 (aj j:Nat)] w' fun e F=>∃z D,e=.returned (.tuple #[.agg #[.int .i64 r,.int .i64 r,.slice z nq D],.int .i64 0])∧bD w'.heap.size z (az (Q (t+1)))∧ad F z D (az (Q (t+1)))∧Below w'.heap.size w' F)
  (C3:∀w' x,x<18446744073709551616→Calls Tryz.prog 68 #[.int .u64 (x:Nat)] w' fun e F=>e=.returned (.bool (ap x))∧Below w'.heap.size w' F):
  Calls Tryz.prog 32 #[.int .i64 r,.slice lo K lc] w fun e w'=>∃t z D,t≤K∧(t=K∨gA (az (Q t)) nq=false)∧e=.returned (.agg #[.int .i64 r,.int .i64 r,.slice z nq D])∧bD w.heap.size z (az (Q t))∧ad w' z D (az (Q t))∧Below w.heap.size w w':=by
 have K1:=aa (C1 (w.alloc (.cells #[.int .i64 0,.int .i64 0,.slice none 0 0] 24)))
 simp only[an]at K1
 have K2:=aa C2;have K3:=aa C3;have LQ:=aa lQ;have LV:=aa lV;have HL:=aa hl;have a4:=aa am;have a5:=aa ax
 have a6:IntKind.i64.wrap ((K:Int)-1)=(K:Int)-1:=aR _ (by omega)
 clear C1 C2 C3 lQ lV hl am ax
 go_enter Tryz.func32,Tryz.ntmps32
 go_wp2_with fail
 go_step3
 go_wp2_with fail
 refine(uH K1).mono ?_
 rintro e w1 ⟨z,D,rfl,hn,hq,U⟩
 have X:=aa (mB.start (r:=r) (v:=.slice lo K lc) (R:=R) U hq (hn.least (by omega)) (uH LQ 0) (uH HL))
 clear U hq hn K1 HL
 go_wp2_with fail
 go_step3
 go_wp2_with fail
 generalize w1.heap.size=h at*
 go_loopg [7] K (fun g a wr=>∃(t:Nat) (z:Option Addr) (D:Nat),t+g=K∧a=.int .i64 ((K:Int)-1-(t:Int))∧Hid (mB w wr h r nq (Q t) z D (.slice lo K lc) R))
 case atStart=>exact⟨0,z,D,by omega,by simp,X⟩
 case round=>
  clear X a6
  obtain⟨t,z,D,bx,rfl,H⟩:=hrel
  cases gk with
  |zero=>
   have a7:t=K:=by omega
   subst a7
   have hz:(t:Int)-1-(t:Int)= -1:=by omega
   rw[hz]
   have f:=uH H
   have q0:=f.qb.c0;have q1:=f.qb.c1;have q2:=f.qb.c2
   have s0:=f.res.c0;have s1:=f.res.c1;have s2:=f.res.c2
   have f0:=f.res.free 0;have f1:=f.res.free 1;have f2:=f.res.free 2
   have XP:=f.res.put (.int .i64 r) (.int .i64 r) (.slice z nq D)
   have z0:=XP.c0;have z1:=XP.c1;have z2:=XP.c2
   have BP:=aa (aA f.bel (b:=w.heap.size) (Nat.le_refl _) (.int .i64 r) (.int .i64 r) (.slice z nq D))
   have QB:=aa (f.bits.putM f.res (.int .i64 r) (.int .i64 r) (.slice z nq D))
   have HN:=aa f.new
   clear XP f H
   go_wp2_with fail
   try rw[Exit.noGoto_ret]
   exact bodyPost_ret (v:=.agg #[.int .i64 r,.int .i64 r,.slice z nq D]) (by simp[results,Tryz.results32,go_sem,z0,z1,z2]) rfl ⟨t,_,_,by omega,.inl rfl,rfl,uH HN,uH QB,uH BP⟩
  |succ g=>
   have a9:t<K:=by omega
   obtain⟨m,hm⟩:∃m,K-1-t=m:=⟨_,rfl⟩
   have ba:(K:Int)-1-(t:Int)=(m:Int):=by omega
   rw[ba]
   have bp:(m:Int)<(K:Int):=by omega
   obtain⟨L,cl,el,bi,bj,M,N,kb⟩:=(uH H).l.at (k:=m) (by rw[uH a4];omega)
   simp only[Value.slice.injEq]at el
   obtain⟨rfl,bm,rfl⟩:=el
   clear bm bi bj
   obtain⟨ev,et⟩:=uH a5 m (by omega)
   rw[ev]at M kb
   rw[et]at N
   rw[uH LV m]at M
   have GQ:=aa (fun w' po pc Y Z U hp hv=>uH K2 w' t m po pc Y Z a9 hm.symm U hp hv)
   have KB:=aa kb
   have LN:=aa (uH LQ (t+1))
   generalize (bO R m).ao=Y at*
   generalize (bO R m).cap=Z at*
   generalize aj m=tm at*
   generalize V m=vm at*
   generalize ae:Q (t+1)=nt at*
   clear kb ev et
   go_wp2_with fail
   refine aq (fun W=>mB w W h r nq (Q t) z D (.slice (some ⟨L,0,none⟩) K lc) R∧(W.cell? ⟨L,m*2,none⟩=some (.slice Y (r-m) Z)∧W.cell? ⟨L,m*2+1,none⟩=some (.int .u64 (tm:Nat)))∧ad W Y Z (az vm)) ⟨uH H,⟨M,N⟩,uH KB⟩ ?_
   clear H M N KB
   rintro W ⟨st,⟨M,N⟩,kb⟩
   have hd:=(Below.refl W.heap.size W).drew
   have X:=aa (st.all hd);have KB:=aa (kb.below hd)
   replace M:=ai M hd
   replace N:=ai N hd
   clear st kb hd
   have q0:=(uH X).qb.c0;have q1:=(uH X).qb.c1;have q2:=(uH X).qb.c2
   refine wp_region_held_drew (S:=(fun w'=>w'.cell? ⟨L,m*2,none⟩=some (.slice Y (r-m) Z)∧w'.cell? ⟨L,m*2+1,none⟩=some (.int .u64 (tm:Nat)))) (by kernel_rfl) ?_ (fun G=>?_)
   ·exact⟨M,N⟩
   refine wpAnyH_take (i:=1) (oi:={dst:=some 24,op:=Op.move (Operand.tmp 7),type:=3,pos:= "mirrors.go:42",after:=#[],guard:=none}) (v:=(Value.int .i64 (m:Int))) rfl (by kernel_rfl) (by kernel_rfl) (by kernel_rfl) (fun _ _ _ h=>h) (Or.inl ⟨by rfl,?_⟩) (by assumption) ?_
   ·(intro w d;(try dsimp only at d);go_simp)
   simp only[Act.put,List.setIfInBounds_toArray,List.set_cons_zero,List.set_cons_succ]
   refine wpAnyH_take (i:=2) (oi:={dst:=some 25,op:=Op.move (Operand.tmp 1),type:=64,pos:= "mirrors.go:42",after:=#[],guard:=none}) (v:=(Value.slice (some ⟨L,0,none⟩) K lc)) rfl (by kernel_rfl) (by kernel_rfl) (by kernel_rfl) (fun _ _ _ h=>h) (Or.inl ⟨by rfl,?_⟩) (by assumption) ?_
   ·(intro w d;(try dsimp only at d);go_simp)
   simp only[Act.put,List.setIfInBounds_toArray,List.set_cons_zero,List.set_cons_succ]
   refine wpAnyH_take (i:=3) (oi:={dst:=some 26,op:=Op.move (Operand.tmp 7),type:=3,pos:= "mirrors.go:42",after:=#[],guard:=none}) (v:=(Value.int .i64 (m:Int))) rfl (by kernel_rfl) (by kernel_rfl) (by kernel_rfl) (fun _ _ _ h=>h) (Or.inl ⟨by rfl,?_⟩) (by assumption) ?_
   ·(intro w d;(try dsimp only at d);go_simp)
   simp only[Act.put,List.setIfInBounds_toArray,List.set_cons_zero,List.set_cons_succ]
   refine wpAnyH_take (i:=4) (oi:={dst:=some 27,op:=Op.indexAddr 64 (Operand.tmp 25) (Operand.tmp 26),type:=0,pos:= "mirrors.go:42",after:=#[{on:=2,ground:=Ground.data},{on:=3,ground:=Ground.data}],guard:=none}) (v:=(Value.pointer (some ⟨L,m*2,none⟩))) rfl (by kernel_rfl) (by kernel_rfl) (by kernel_rfl) (fun _ _ _ h=>h) (Or.inl ⟨by rfl,?_⟩) (by assumption) ?_
   ·(intro w d;(try dsimp only at d);go_simp)
   simp only[Act.put,List.setIfInBounds_toArray,List.set_cons_zero,List.set_cons_succ]
   refine wpAnyH_take (i:=5) (oi:={dst:=some 28,op:=Op.fieldAddr 105 (Operand.tmp 27) 0,type:=0,pos:= "mirrors.go:42",after:=#[{on:=4,ground:=Ground.data}],guard:=none}) (v:=(Value.pointer (some ⟨L,m*2,none⟩))) rfl (by kernel_rfl) (by kernel_rfl) (by kernel_rfl) (fun _ _ _ h=>h) (Or.inl ⟨by rfl,?_⟩) (by assumption) ?_
   ·(intro w d;(try dsimp only at d);go_simp)
   simp only[Act.put,List.setIfInBounds_toArray,List.set_cons_zero,List.set_cons_succ]
   refine wpAnyH_take (i:=6) (oi:={dst:=some 29,op:=Op.load 22 (Operand.tmp 28),type:=22,pos:= "mirrors.go:42",after:=#[{on:=5,ground:=Ground.data}],guard:=none}) (v:=(Value.slice Y (r-m) Z)) rfl (by kernel_rfl) (by kernel_rfl) (by kernel_rfl) (fun _ _ _ h=>h) (Or.inl ⟨by rfl,?_⟩) (by assumption) ?_
   ·(intro w d;(try dsimp only at d);go_simp)
   simp only[Act.put,List.setIfInBounds_toArray,List.set_cons_zero,List.set_cons_succ]
   refine wpAnyH_take (i:=7) (oi:={dst:=some 30,op:=Op.move (Operand.tmp 1),type:=64,pos:= "mirrors.go:42",after:=#[],guard:=none}) (v:=(Value.slice (some ⟨L,0,none⟩) K lc)) rfl (by kernel_rfl) (by kernel_rfl) (by kernel_rfl) (fun _ _ _ h=>h) (Or.inl ⟨by rfl,?_⟩) (by assumption) ?_
   ·(intro w d;(try dsimp only at d);go_simp)
   simp only[Act.put,List.setIfInBounds_toArray,List.set_cons_zero,List.set_cons_succ]
   refine wpAnyH_take (i:=8) (oi:={dst:=some 31,op:=Op.move (Operand.tmp 7),type:=3,pos:= "mirrors.go:42",after:=#[],guard:=none}) (v:=(Value.int .i64 (m:Int))) rfl (by kernel_rfl) (by kernel_rfl) (by kernel_rfl) (fun _ _ _ h=>h) (Or.inl ⟨by rfl,?_⟩) (by assumption) ?_
   ·(intro w d;(try dsimp only at d);go_simp)
   simp only[Act.put,List.setIfInBounds_toArray,List.set_cons_zero,List.set_cons_succ]
   refine wpAnyH_take (i:=9) (oi:={dst:=some 32,op:=Op.indexAddr 64 (Operand.tmp 30) (Operand.tmp 31),type:=0,pos:= "mirrors.go:42",after:=#[{on:=7,ground:=Ground.data},{on:=8,ground:=Ground.data}],guard:=none}) (v:=(Value.pointer (some ⟨L,m*2,none⟩))) rfl (by kernel_rfl) (by kernel_rfl) (by kernel_rfl) (fun _ _ _ h=>h) (Or.inl ⟨by rfl,?_⟩) (by assumption) ?_
   ·(intro w d;(try dsimp only at d);go_simp)
   simp only[Act.put,List.setIfInBounds_toArray,List.set_cons_zero,List.set_cons_succ]
   refine wpAnyH_take (i:=10) (oi:={dst:=some 33,op:=Op.fieldAddr 105 (Operand.tmp 32) 1,type:=0,pos:= "mirrors.go:42",after:=#[{on:=9,ground:=Ground.data}],guard:=none}) (v:=(Value.pointer (some ⟨L,m*2+1,none⟩))) rfl (by kernel_rfl) (by kernel_rfl) (by kernel_rfl) (fun _ _ _ h=>h) (Or.inl ⟨by rfl,?_⟩) (by assumption) ?_
   ·(intro w d;(try dsimp only at d);go_simp)
   simp only[Act.put,List.setIfInBounds_toArray,List.set_cons_zero,List.set_cons_succ]
   refine wpAnyH_take (i:=11) (oi:={dst:=some 34,op:=Op.load 31 (Operand.tmp 33),type:=31,pos:= "mirrors.go:42",after:=#[{on:=10,ground:=Ground.data}],guard:=none}) (v:=(Value.int .u64 (tm:Int))) rfl (by kernel_rfl) (by kernel_rfl) (by kernel_rfl) (fun _ _ _ h=>h) (Or.inl ⟨by rfl,?_⟩) (by assumption) ?_
   ·(intro w d;(try dsimp only at d);go_simp)
   simp only[Act.put,List.setIfInBounds_toArray,List.set_cons_zero,List.set_cons_succ]
   refine wpAnyH_ready (rs:=[0]) (by kernel_rfl) (by simp) ?_
   refine AllReadyH.cons (o:={dst:=some 23,op:=Op.load 24 (Operand.tmp 5),type:=24,pos:= "mirrors.go:42",after:=#[],guard:=none}) rfl (fun KK hK=>?_) AllReadyH.nil
   go_simp
   refine hK.out _ _ ?_ (fun G=>?_)
   ·exact⟨M,N⟩
   clear hK KK
   refine wpAnyH_ready (rs:=[12]) (by kernel_rfl) (by simp) ?_
   refine AllReadyH.cons (o:={dst:=some 35,op:=Op.call {callee:=Callee.value (Operand.func 76),args:=#[Operand.tmp 23,Operand.tmp 24,Operand.const (Value.int IntKind.i64 0),Operand.tmp 29,Operand.tmp 34],argTypes:=#[24,3,3,22,31]},type:=43,pos:= "mirrors.go:42",after:=#[{on:=0,ground:=Ground.data},{on:=1,ground:=Ground.data},{on:=6,ground:=Ground.data},{on:=11,ground:=Ground.data}],guard:=none}) rfl (fun KK hK=>?_) AllReadyH.nil
   go_simp
   refine(uH GQ _ _ _ _ _ (uH X).bel (uH X).bits (uH KB)).mono ?_
   rintro e w5 ⟨O,A,rfl,a2,a3,U⟩
   clear q0 q1 q2
   have S5:=(uH X).all U
   replace M:=ai M U
   replace N:=ai N U
   have aI:=aa (And.intro M N)
   have ha:=S5.l.apart S5.qb
   have a0:=aa (And.intro (show(((w5.setCell ⟨h,0,none⟩ (.int .i64 r)).setCell ⟨h,1,none⟩ (.int .i64 r)).setCell ⟨h,2,none⟩ (.slice O nq A)).cell? ⟨L,m*2,none⟩=some (.slice Y (r-m) Z) by rw[ah _ _ _ _ ha,ah _ _ _ _ ha,ah _ _ _ _ ha];exact M) (show(((w5.setCell ⟨h,0,none⟩ (.int .i64 r)).setCell ⟨h,1,none⟩ (.int .i64 r)).setCell ⟨h,2,none⟩ (.slice O nq A)).cell? ⟨L,m*2+1,none⟩=some (.int .u64 (tm:Nat)) by rw[ah _ _ _ _ ha,ah _ _ _ _ ha,ah _ _ _ _ ha];exact N))
   have q0:=S5.qb.c0;have q1:=S5.qb.c1;have q2:=S5.qb.c2
   have f0:=S5.qb.free 0;have f1:=S5.qb.free 1;have f2:=S5.qb.free 2
   have P5:=aa (S5.put a3 (a2.least (uH X).bel.size) (uH LN))
   clear U a3 a2 S5 GQ X KB ha M N
   go_wp2_with fail
   refine hK.out _ _ ?_ (fun G=>?_)
   ·exact uH aI
   clear hK KK
   refine wpAnyH_take (i:=13) (oi:={dst:=some 22,op:=Op.move (Operand.tmp 35),type:=43,pos:= "mirrors.go:42",after:=#[{on:=12,ground:=Ground.data}],guard:=none}) (v:=(Value.tuple #[(Value.agg #[.int .i64 (r:Int),.int .i64 (r:Int),.slice O nq A]),.int .i64 0])) rfl (by kernel_rfl) (by kernel_rfl) (by kernel_rfl) (fun _ _ _ h=>h) (Or.inl ⟨by rfl,?_⟩) (by assumption) ?_
   ·(intro w d;(try dsimp only at d);go_simp)
   simp only[Act.put,List.setIfInBounds_toArray,List.set_cons_zero,List.set_cons_succ]
   refine wpAnyH_take (i:=14) (oi:={dst:=some 36,op:=Op.extract (Operand.tmp 22) 0,type:=24,pos:= "mirrors.go:42",after:=#[{on:=13,ground:=Ground.data}],guard:=none}) (v:=(Value.agg #[.int .i64 (r:Int),.int .i64 (r:Int),.slice O nq A])) rfl (by kernel_rfl) (by kernel_rfl) (by kernel_rfl) (fun _ _ _ h=>h) (Or.inl ⟨by rfl,?_⟩) (by assumption) ?_
   ·(intro w d;(try dsimp only at d);go_simp)
   simp only[Act.put,List.setIfInBounds_toArray,List.set_cons_zero,List.set_cons_succ]
   refine wpAnyH_take (i:=15) (oi:={dst:=some 37,op:=Op.extract (Operand.tmp 22) 1,type:=27,pos:= "mirrors.go:42",after:=#[{on:=13,ground:=Ground.data},{on:=16,ground:=Ground.gcOnly Departure.lateStores}],guard:=none}) (v:=(Value.int .i64 0)) rfl (by kernel_rfl) (by kernel_rfl) (by kernel_rfl) (fun _ _ _ h=>h) (Or.inl ⟨by rfl,?_⟩) (by assumption) ?_
   ·(intro w d;(try dsimp only at d);go_simp)
   simp only[Act.put,List.setIfInBounds_toArray,List.set_cons_zero,List.set_cons_succ]
   refine wpAnyH_ready (rs:=[16]) (by kernel_rfl) (by simp) ?_
   refine AllReadyH.cons (o:={dst:=none,op:=Op.store 24 (Operand.tmp 5) (Operand.tmp 36),type:=0,pos:= "mirrors.go:42",after:=#[{on:=14,ground:=Ground.data},{on:=12,ground:=Ground.chain},{on:=0,ground:=Ground.phase},{on:=1,ground:=Ground.phase},{on:=2,ground:=Ground.phase},{on:=3,ground:=Ground.phase},{on:=4,ground:=Ground.phase},{on:=5,ground:=Ground.phase},{on:=6,ground:=Ground.phase},{on:=7,ground:=Ground.phase},{on:=8,ground:=Ground.phase},{on:=9,ground:=Ground.phase},{on:=10,ground:=Ground.phase},{on:=11,ground:=Ground.phase},{on:=12,ground:=Ground.phase},{on:=13,ground:=Ground.phase},{on:=14,ground:=Ground.phase},{on:=15,ground:=Ground.textOnly Departure.lateStores}],guard:=none}) rfl (fun KK hK=>?_) AllReadyH.nil
   go_simp
   refine hK.out _ _ ?_ (fun G=>?_)
   ·exact uH a0
   clear hK KK
   refine wpAnyH_done (by kernel_rfl) ?_ _
   clear q0 q1 q2 f0 f1 f2 aI a0
   have z2:=(uH P5).qb.c2
   go_wp2_with fail
   clear z2
   go_loopg [41] nq (fun g2 a wr=>∃i:Nat,i+g2=nq∧a=.int .i64 i∧Hid (∀k,k<i→ap (aL (az nt) k)=true)∧Hid (mB w wr h r nq nt O A (.slice (some ⟨L,0,none⟩) K lc) R))
   case atStart=>exact⟨0,by omega,rfl,fun k hk=>absurd hk (Nat.not_lt_zero k),by first|exact P5|exact aa (uH P5)⟩
   case round=>
    clear P5
    obtain⟨i,bz,rfl,hF,H⟩:=hrel
    cases gk with
    |zero=>
     have bq:¬((i:Int)<(nq:Int)):=by omega
     have bt:IntKind.i64.wrap ((m:Int)-1)=(m:Int)-1:=aR _ (by omega)
     go_wp2_with fail
     go_roundg g
     case measure=>omega
     case rel=>exact⟨t+1,O,A,by omega,by rw[show(m:Int)-1=(K:Int)-1-((t+1:Nat):Int) by omega],by rw[ae];exact H⟩
    |succ g2=>
     have bv:(i:Int)<(nq:Int):=by omega
     obtain⟨b5,o5,rfl,_,a1⟩:=(uH H).bits.ne (by rw[al,(uH H).len];omega)
     have c5:=a1 i (by rw[al,(uH H).len];omega)
     have hx:=(uH H).bits.lt i
     have ec:(az nt)[i]?.getD 0=(aL (az nt) i:Int):=((uH H).bits.wf i).1
     have bb:=aa (fun(e:ap (aL (az nt) i)=true)=>(show∀k,k<i+1→ap (aL (az nt) k)=true from fun k hk=>by
      rcases Nat.lt_or_ge k i with g|g
      ·exact uH hF k g
      ·rw[show k=i by omega];exact e))
     have bc:=aa (fun(e:ap (aL (az nt) i)=false)=>Ce (az nt) nq i (by omega) e)
     have KX:=aa (fun w'=>uH K3 w' _ hx)
     generalize aL (az nt) i=x at*
     clear hx a1 ec
     go_wp2_with fail
     clear c5
     refine(uH KX _).mono ?_
     rintro e w6 ⟨rfl,U⟩
     have S6:=aa ((uH H).all U)
     clear U H KX
     cases hfx:ap x with
     |true=>
      go_wp2_with fail
      go_roundg g2
      case measure=>omega
      case rel=>exact⟨i+1,by omega,by go_num,aa (uH bb hfx),S6⟩
     |false=>
      have f:=uH S6
      have be:=aa (uH bc hfx)
      have q0:=f.qb.c0;have q1:=f.qb.c1;have q2:=f.qb.c2
      have s0:=f.res.c0;have s1:=f.res.c1;have s2:=f.res.c2
      have f0:=f.res.free 0;have f1:=f.res.free 1;have f2:=f.res.free 2
      have XP:=f.res.put (.int .i64 r) (.int .i64 r) (.slice (some ⟨b5,o5,none⟩) nq A)
      have z0:=XP.c0;have z1:=XP.c1;have z2:=XP.c2
      have BP:=aa (aA f.bel (b:=w.heap.size) (Nat.le_refl _) (.int .i64 r) (.int .i64 r) (.slice (some ⟨b5,o5,none⟩) nq A))
      have QB:=aa (f.bits.putM f.res (.int .i64 r) (.int .i64 r) (.slice (some ⟨b5,o5,none⟩) nq A))
      have HN:=aa f.new
      clear XP f S6
      go_wp2_with fail
      try rw[Exit.noGoto_ret]
      exact bodyPost_ret (v:=.agg #[.int .i64 r,.int .i64 r,.slice (some ⟨b5,o5,none⟩) nq A]) (by simp[results,Tryz.results32,go_sem,z0,z1,z2]) rfl ⟨t+1,_,_,by omega,.inr (by rw[ae];exact uH be),rfl,by rw[ae];exact uH HN,by rw[ae];exact uH QB,uH BP⟩
theorem cU{w:World}{b g j:Nat}{u u' u'' v:Value}(d:b≠g)(h:w.cell? ⟨b,j,none⟩=some v):(((w.setCell ⟨g,0,none⟩ u).setCell ⟨g,1,none⟩ u').setCell ⟨g,2,none⟩ u'').cell? ⟨b,j,none⟩=some v:=by
 rw[ah _ _ _ _ d,ah _ _ _ _ d,ah _ _ _ _ d]
 exact h
theorem dt{w:World}{a:Addr}{v:Value}(h:w.cell? a=some v):w.drew.cell? a=some v:=h
theorem br{w:World}{b g j:Nat}{u u' u'' v:Value}(d:b≠g)(h:w.cell? ⟨b,j,none⟩=some v):(((w.setCell ⟨g,0,none⟩ u).setCell ⟨g,1,none⟩ u').setCell ⟨g,2,none⟩ u'').drew.cell? ⟨b,j,none⟩=some v:=dt (cU d h)
structure t5 (w wr:World) (x y:Int) (ao:Option Addr) (n cap:Nat):Prop where
 bel:Below w.heap.size w wr
 a:aw wr w.heap.size (.int .i64 x) (.int .i64 y) (.slice ao n cap)
 r1:aw wr (w.heap.size+1) (.int .i64 0) (.int .i64 0) (.slice none 0 0)
 r2:aw wr (w.heap.size+1+1) (.int .i64 0) (.int .i64 0) (.slice none 0 0)
theorem t5.all{w wr w':World}{x y:Int}{h:Option Addr}{n d:Nat}(t:t5 w wr x y h n d)(f:Below wr.heap.size wr w'):t5 w w' x y h n d:=⟨t.bel.trans (f.mono t.bel.size),t.a.all f,t.r1.all f,t.r2.all f⟩
theorem t5.start(w:World)(x y:Int)(f:Option Addr)(n d:Nat):t5 w (((w.alloc (.cells #[.int .i64 x,.int .i64 y,.slice f n d] 24)).alloc (.cells #[.int .i64 0,.int .i64 0,.slice none 0 0] 24)).alloc (.cells #[.int .i64 0,.int .i64 0,.slice none 0 0] 24)) x y f n d:=by
 obtain⟨h,l,m,t⟩:=Il w (.int .i64 x) (.int .i64 y) (.slice f n d) (.int .i64 0) (.int .i64 0) (.slice none 0 0) (.int .i64 0) (.int .i64 0) (.slice none 0 0) _ (Below.refl _ _)
 exact⟨h,l,m,t⟩
theorem t6(r c:Int)(z:Option Addr)(n h:Nat)(er:Int)(w:World)(A:er=1∨er=4)
  (F:∀w',Below w.heap.size w w'→Calls Tryz.prog 30 #[.agg #[.int .i64 r,.int .i64 c,.slice z n h]] w' fun e D=>e=.returned (.int .i64 er)∧Below w'.heap.size w' D):
  Calls Tryz.prog 9 #[.agg #[.int .i64 r,.int .i64 c,.slice z n h]] w fun e w'=>∃v u,e=.returned (.tuple #[v,u,.slice none 0 0,.int .i64 er])∧bS w.heap.size w' 0 0 [] v∧bS w.heap.size w' 0 0 [] u∧Below w.heap.size w w':=by
 have l:=aa (t5.start w r c z n h)
 have G:=aa (F _ (uH l).bel)
 clear F
 rcases A with rfl|rfl
 all_goals
  go_enter Tryz.func9,Tryz.ntmps9
  go_wp2_with fail
  refine(uH G).mono ?_
  rintro e w1 ⟨rfl,L⟩
  replace l:=aa ((uH l).all L)
  clear L G
  have d:=(uH l).r1;have H:=(uH l).r2
  have V:=d.c0;have X:=d.c1;have Y:=d.c2
  have Z:=d.free 0;have f1:=d.free 1;have f2:=d.free 2
  have K:=d.put (.int .i64 0) (.int .i64 0) (.slice none 0 0)
  have f:=H.three14 (g:=w.heap.size+1) (by omega) (.int .i64 0) (.int .i64 0) (.slice none 0 0)
  have s3:=f.c0;have s4:=f.c1;have s5:=f.c2
  have f3:=f.free 0;have f4:=f.free 1;have f5:=f.free 2
  have m:=K.three14 (g:=w.heap.size+1+1) (by omega) (.int .i64 0) (.int .i64 0) (.slice none 0 0)
  have t:=f.put (.int .i64 0) (.int .i64 0) (.slice none 0 0)
  have M:=m.c0;have z1:=m.c1;have z2:=m.c2;have N:=t.c0;have O:=t.c1;have Q:=t.c2
  have U:=aa (aA (aA (uH l).bel (b:=w.heap.size+1) (by omega) (.int .i64 0) (.int .i64 0) (.slice none 0 0)) (b:=w.heap.size+1+1) (by omega) (.int .i64 0) (.int .i64 0) (.slice none 0 0))
  clear d H K f m t l
  go_wp2_with fail
  exact bodyPost_ret (v:=.tuple #[.agg #[.int .i64 0,.int .i64 0,.slice none 0 0],.agg #[.int .i64 0,.int .i64 0,.slice none 0 0],.slice none 0 0,.int .i64 _]) (by simp[results,Tryz.results9,go_sem,M,z1,z2,N,O,Q]) rfl ⟨_,_,rfl,bS.zero _ _,bS.zero _ _,uH U⟩
theorem vS(r c n nq K ae:Nat)(ao:Option Addr)(S QF P:List Nat)(V:Nat→List Nat)(a7:Nat→Nat)(ok fq fr:Bool)(w:World)(lS:S.length=n)(lQ:QF.length=nq)(aj:gA (az QF) nq=fq)
  (C1:∀w',Below w.heap.size w w'→Calls Tryz.prog 30 #[.agg #[.int .i64 r,.int .i64 c,.slice ao n ae]] w' fun e F=>e=.returned (.int .i64 0)∧Below w'.heap.size w' F)
  (C2:∀w',Below w.heap.size w w'→Calls Tryz.prog 31 #[.agg #[.int .i64 r,.int .i64 c,.slice ao n ae]] w' fun e F=>Db w' F ok r c n K S P V a7 e∧Below w'.heap.size w' F)
  (C3:∀w' lo lc R,Below w.heap.size w w'→bI 0 w' (.slice lo K lc) R→R.length=K→(∀k,k<K→(bO R k).V=V k∧(bO R k).tau=a7 k)→Calls Tryz.prog 32 #[.int .i64 r,.slice lo K lc] w' fun e F=>∃Q l t,(Q=QF∨(gA (az Q) nq=false∧fq=false))∧Q.length=nq∧e=.returned (.agg #[.int .i64 r,.int .i64 r,.slice l nq t])∧bD w'.heap.size l (az Q)∧ad F l t (az Q)∧Below w'.heap.size w' F)
  (C4:∀w' Q l t,ad w' l t (az Q)→Q.length=nq→Calls Tryz.prog 33 #[.slice l nq t] w' fun e F=>e=.returned (.bool (gA (az Q) nq))∧Below w'.heap.size w' F)
  (C5:∀w' A D,ad w' A D (az S)→Calls Tryz.prog 33 #[.slice A n D] w' fun e F=>e=.returned (.bool fr)∧Below w'.heap.size w' F):
  Calls Tryz.prog 9 #[.agg #[.int .i64 r,.int .i64 c,.slice ao n ae]] w fun e w'=>(((ok&&(fq&&fr))=true∧∃v u pg,e=.returned (.tuple #[v,u,.slice (some ⟨pg,0,none⟩) c c,.int .i64 0])∧bS w.heap.size w' r r QF v∧bS w.heap.size w' r c S u∧w.heap.size≤pg∧bM w' pg P)∨((ok&&(fq&&fr))=false∧∃v u,e=.returned (.tuple #[v,u,.slice none 0 0,.int .i64 2])∧bS w.heap.size w' 0 0 [] v∧bS w.heap.size w' 0 0 [] u))∧Below w.heap.size w w':=by
 have ST:=aa (t5.start w r c ao n ae)
 have K1:=aa (C1 _ (uH ST).bel);have K2:=aa C2;have K3:=aa C3;have K4:=aa C4;have K5:=aa C5;have LS:=aa lS;have LQ:=aa lQ;have a2:=aa aj
 clear C1 C2 C3 C4 C5 lS lQ aj
 go_enter Tryz.func9,Tryz.ntmps9
 go_wp2_with fail
 refine(uH K1).mono ?_
 rintro e w1 ⟨rfl,z⟩
 replace ST:=aa ((uH ST).all z)
 clear z K1
 have y0:=(uH ST).a.c0;have y1:=(uH ST).a.c1;have y2:=(uH ST).a.c2
 go_wp2_with fail
 clear y0 y1 y2
 refine(uH K2 _ (uH ST).bel).mono ?_
 rintro e X ⟨bi,z⟩
 have m:=aa ((uH ST).all z)
 have HZ:=aa (show w.heap.size≤w1.heap.size from(uH ST).bel.size)
 have a3:=aa (show w.heap.size+1+1<w1.heap.size from(uH ST).r2.lt)
 clear z ST K2
 rcases bi with⟨a0,A,D,pg,v,R,rfl,hn,hq,bm,ax,hl,a6,bn⟩|⟨a0,rfl⟩
 ·obtain⟨lo,lc,be⟩:=hl.slice
  rw[a6]at be
  subst be
  have Y:=ac X (.cells #[.int .i64 r,.int .i64 c,.slice A n D] 24)
  have H:=aa (uH m).r2.lt
  have RB:=aa (aw.new X (.int .i64 r) (.int .i64 c) (.slice A n D))
  replace m:=aa ((uH m).all Y)
  have HQ:=aa (hq.below Y)
  have U:=aa (ax.all Y)
  have a4:=aa (show w.heap.size+1+1<pg from Nat.lt_of_lt_of_le (uH a3) bm)
  have HN:=aa (hn.least (uH HZ))
  have HL:=aa ((hl.least (Nat.zero_le _)).below Y)
  have bo:=aa a6;have bp:=aa bn;have bq:=aa a0
  clear Y hq hn hl a6 bn a0 HZ a3 bm ax
  have y0:=(uH m).a.c0
  go_wp2_with fail
  clear y0
  refine(uH K3 _ lo lc R (uH m).bel (uH HL) (uH bo) (uH bp)).mono ?_
  rintro e w3 ⟨Q,l,t,hQ,lQ,rfl,hn,hq,z⟩
  have Y:=ac w3 (.cells #[.int .i64 r,.int .i64 r,.slice l nq t] 24)
  have L:=aa ((uH m).all z).r2.lt
  have QB:=aa (aw.new w3 (.int .i64 r) (.int .i64 r) (.slice l nq t))
  have bt:=aa (hn.least (uH m).bel.size)
  replace m:=aa (((uH m).all z).all Y)
  replace RB:=aa (((uH RB).all z).all Y)
  replace HQ:=aa (((uH HQ).below z).below Y)
  replace U:=aa (((uH U).all z).all Y)
  have M:=aa (hq.below Y)
  have a5:=aa hQ;have bv:=aa lQ
  clear z Y hn hq HL hQ lQ K3
  have y2:=(uH QB).c2
  go_wp2_with fail
  clear y2
  refine(uH K4 _ Q l t (uH M) (uH bv)).mono ?_
  rintro e w4 ⟨rfl,z⟩
  replace m:=aa ((uH m).all z)
  replace RB:=aa ((uH RB).all z)
  replace QB:=aa ((uH QB).all z)
  replace HQ:=aa ((uH HQ).below z)
  replace U:=aa ((uH U).all z)
  replace M:=aa ((uH M).below z)
  clear z K4
  cases hfQ:gA (az Q) nq with
  |false=>
   have am:Hid ((ok&&(fq&&fr))=false):=aa (by
    rcases uH a5 with e|e
    ·rw[e,uH a2]at hfQ
     rw[hfQ];cases ok<;>rfl
    ·rw[e.2];cases ok<;>rfl)
   clear RB QB HQ M
   have d:=(uH m).r1;have X2:=(uH m).r2
   have s0:=d.c0;have s1:=d.c1;have s2:=d.c2
   have f0:=d.free 0;have f1:=d.free 1;have f2:=d.free 2
   have Y1:=d.put (.int .i64 0) (.int .i64 0) (.slice none 0 0)
   have f:=X2.three14 (g:=w.heap.size+1) (by omega) (.int .i64 0) (.int .i64 0) (.slice none 0 0)
   have s3:=f.c0;have s4:=f.c1;have s5:=f.c2
   have f3:=f.free 0;have f4:=f.free 1;have f5:=f.free 2
   have N:=Y1.three14 (g:=w.heap.size+1+1) (by omega) (.int .i64 0) (.int .i64 0) (.slice none 0 0)
   have O:=f.put (.int .i64 0) (.int .i64 0) (.slice none 0 0)
   have z0:=N.c0;have z1:=N.c1;have z2:=N.c2;have z3:=O.c0;have z4:=O.c1;have z5:=O.c2
   have BP:=aa (aA (aA (uH m).bel (b:=w.heap.size+1) (by omega) (.int .i64 0) (.int .i64 0) (.slice none 0 0)) (b:=w.heap.size+1+1) (by omega) (.int .i64 0) (.int .i64 0) (.slice none 0 0))
   clear d X2 Y1 f N O m
   go_wp2_with fail
   exact bodyPost_ret (v:=.tuple #[.agg #[.int .i64 0,.int .i64 0,.slice none 0 0],.agg #[.int .i64 0,.int .i64 0,.slice none 0 0],.slice none 0 0,.int .i64 2]) (by simp[results,Tryz.results9,go_sem,z0,z1,z2,z3,z4,z5]) rfl ⟨.inr ⟨uH am,_,_,rfl,bS.zero _ _,bS.zero _ _⟩,uH BP⟩
  |true=>
   have bx:Q=QF:=by
    rcases uH a5 with e|e
    ·exact e
    ·rw[e.1]at hfQ;cases hfQ
   subst bx
   have aj:fq=true:=by rw[←uH a2];exact hfQ
   have y2:=(uH RB).c2
   go_wp2_with fail
   clear y2
   refine(uH K5 _ A D (uH HQ)).mono ?_
   rintro e w5 ⟨rfl,z⟩
   replace m:=aa ((uH m).all z)
   replace RB:=aa ((uH RB).all z)
   replace QB:=aa ((uH QB).all z)
   replace HQ:=aa ((uH HQ).below z)
   replace U:=aa ((uH U).all z)
   replace M:=aa ((uH M).below z)
   clear z K5
   cases hfr:fr with
   |false=>
    have am:Hid ((ok&&(fq&&fr))=false):=aa (by rw[hfr];cases ok<;>cases fq<;>rfl)
    clear RB QB HQ M
    have d:=(uH m).r1;have X2:=(uH m).r2
    have s0:=d.c0;have s1:=d.c1;have s2:=d.c2
    have f0:=d.free 0;have f1:=d.free 1;have f2:=d.free 2
    have Y1:=d.put (.int .i64 0) (.int .i64 0) (.slice none 0 0)
    have f:=X2.three14 (g:=w.heap.size+1) (by omega) (.int .i64 0) (.int .i64 0) (.slice none 0 0)
    have s3:=f.c0;have s4:=f.c1;have s5:=f.c2
    have f3:=f.free 0;have f4:=f.free 1;have f5:=f.free 2
    have N:=Y1.three14 (g:=w.heap.size+1+1) (by omega) (.int .i64 0) (.int .i64 0) (.slice none 0 0)
    have O:=f.put (.int .i64 0) (.int .i64 0) (.slice none 0 0)
    have z0:=N.c0;have z1:=N.c1;have z2:=N.c2;have z3:=O.c0;have z4:=O.c1;have z5:=O.c2
    have BP:=aa (aA (aA (uH m).bel (b:=w.heap.size+1) (by omega) (.int .i64 0) (.int .i64 0) (.slice none 0 0)) (b:=w.heap.size+1+1) (by omega) (.int .i64 0) (.int .i64 0) (.slice none 0 0))
    clear d X2 Y1 f N O m
    go_wp2_with fail
    exact bodyPost_ret (v:=.tuple #[.agg #[.int .i64 0,.int .i64 0,.slice none 0 0],.agg #[.int .i64 0,.int .i64 0,.slice none 0 0],.slice none 0 0,.int .i64 2]) (by simp[results,Tryz.results9,go_sem,z0,z1,z2,z3,z4,z5]) rfl ⟨.inr ⟨uH am,_,_,rfl,bS.zero _ _,bS.zero _ _⟩,uH BP⟩
   |true=>
    have a9:Hid ((ok&&(fq&&fr))=true):=aa (by rw[uH bq,aj,hfr];rfl)
    clear hfQ a2 a5 aj hfr
    go_wp2_with fail
    refine aq (fun W=>t5 w W r c ao n ae∧aw W X.heap.size (.int .i64 r) (.int .i64 c) (.slice A n D)∧aw W w3.heap.size (.int .i64 r) (.int .i64 r) (.slice l nq t)∧ad W A D (az S)∧ad W l t (az Q)∧bM W pg P) ⟨uH m,uH RB,uH QB,uH HQ,uH M,uH U⟩ ?_
    clear m RB QB HQ M U
    rintro W ⟨s2,rb,qb,hq,bj,ax⟩
    have m:=aa (s2)
    have y0:=(rb).c0;have y1:=(rb).c1;have y2:=(rb).c2
    have y3:=(qb).c0;have y4:=(qb).c1;have y5:=(qb).c2
    have Q1:=hq;have Q3:=bj
    clear s2 rb qb hq bj
    have d:=(uH m).r1;have X2:=(uH m).r2
    have s0:=d.c0;have s1:=d.c1;have s2:=d.c2
    have f0:=d.free 0;have f1:=d.free 1;have f2:=d.free 2
    have Y1:=d.put (.int .i64 r) (.int .i64 r) (.slice l nq t)
    have f:=X2.three14 (g:=w.heap.size+1) (by omega) (.int .i64 r) (.int .i64 r) (.slice l nq t)
    have s3:=f.c0;have s4:=f.c1;have s5:=f.c2
    have f3:=f.free 0;have f4:=f.free 1;have f5:=f.free 2
    have N:=Y1.three14 (g:=w.heap.size+1+1) (by omega) (.int .i64 r) (.int .i64 c) (.slice A n D)
    have O:=f.put (.int .i64 r) (.int .i64 c) (.slice A n D)
    have z0:=N.c0;have z1:=N.c1;have z2:=N.c2;have z3:=O.c0;have z4:=O.c1;have z5:=O.c2
    have BP:=aa (aA (aA (uH m).bel (b:=w.heap.size+1) (by omega) (.int .i64 r) (.int .i64 r) (.slice l nq t)) (b:=w.heap.size+1+1) (by omega) (.int .i64 r) (.int .i64 c) (.slice A n D))
    have PR:=aa ((Q1.putM d (.int .i64 r) (.int .i64 r) (.slice l nq t)).putM f (.int .i64 r) (.int .i64 c) (.slice A n D))
    have PQ:=aa ((Q3.putM d (.int .i64 r) (.int .i64 r) (.slice l nq t)).putM f (.int .i64 r) (.int .i64 c) (.slice A n D))
    have PP:=aa ((ax.three (g:=w.heap.size+1) (by have:=uH a4;omega) (.int .i64 r) (.int .i64 r) (.slice l nq t)).three (g:=w.heap.size+1+1) (by have:=uH a4;omega) (.int .i64 r) (.int .i64 c) (.slice A n D))
    clear d X2 Y1 f N O m Q1 Q3 ax
    have bb:=aa (show _∧_∧_∧_∧_∧_ from⟨dt y3,dt y4,dt y5,dt y0,dt y1,dt y2⟩)
    have Z:=aa (show _∧_∧_∧_∧_∧_ from⟨cU (u:=.int .i64 r) (u':=.int .i64 r) (u'':=.slice l nq t) (show w3.heap.size≠w.heap.size+1 by have:=uH L;omega) y3,cU (u:=.int .i64 r) (u':=.int .i64 r) (u'':=.slice l nq t) (show w3.heap.size≠w.heap.size+1 by have:=uH L;omega) y4,cU (u:=.int .i64 r) (u':=.int .i64 r) (u'':=.slice l nq t) (show w3.heap.size≠w.heap.size+1 by have:=uH L;omega) y5,cU (u:=.int .i64 r) (u':=.int .i64 r) (u'':=.slice l nq t) (show X.heap.size≠w.heap.size+1 by have:=uH H;omega) y0,cU (u:=.int .i64 r) (u':=.int .i64 r) (u'':=.slice l nq t) (show X.heap.size≠w.heap.size+1 by have:=uH H;omega) y1,cU (u:=.int .i64 r) (u':=.int .i64 r) (u'':=.slice l nq t) (show X.heap.size≠w.heap.size+1 by have:=uH H;omega) y2⟩)
    have bc:=aa (show _∧_∧_∧_∧_∧_ from⟨br (u:=.int .i64 r) (u':=.int .i64 r) (u'':=.slice l nq t) (show w3.heap.size≠w.heap.size+1 by have:=uH L;omega) y3,br (u:=.int .i64 r) (u':=.int .i64 r) (u'':=.slice l nq t) (show w3.heap.size≠w.heap.size+1 by have:=uH L;omega) y4,br (u:=.int .i64 r) (u':=.int .i64 r) (u'':=.slice l nq t) (show w3.heap.size≠w.heap.size+1 by have:=uH L;omega) y5,br (u:=.int .i64 r) (u':=.int .i64 r) (u'':=.slice l nq t) (show X.heap.size≠w.heap.size+1 by have:=uH H;omega) y0,br (u:=.int .i64 r) (u':=.int .i64 r) (u'':=.slice l nq t) (show X.heap.size≠w.heap.size+1 by have:=uH H;omega) y1,br (u:=.int .i64 r) (u':=.int .i64 r) (u'':=.slice l nq t) (show X.heap.size≠w.heap.size+1 by have:=uH H;omega) y2⟩)
    have a1:=aa (show _∧_∧_∧_∧_∧_ from⟨br (u:=.int .i64 r) (u':=.int .i64 c) (u'':=.slice A n D) (show w3.heap.size≠w.heap.size+1+1 by have:=uH L;omega) (uH Z).1,br (u:=.int .i64 r) (u':=.int .i64 c) (u'':=.slice A n D) (show w3.heap.size≠w.heap.size+1+1 by have:=uH L;omega) (uH Z).2.1,br (u:=.int .i64 r) (u':=.int .i64 c) (u'':=.slice A n D) (show w3.heap.size≠w.heap.size+1+1 by have:=uH L;omega) (uH Z).2.2.1,br (u:=.int .i64 r) (u':=.int .i64 c) (u'':=.slice A n D) (show X.heap.size≠w.heap.size+1+1 by have:=uH H;omega) (uH Z).2.2.2.1,br (u:=.int .i64 r) (u':=.int .i64 c) (u'':=.slice A n D) (show X.heap.size≠w.heap.size+1+1 by have:=uH H;omega) (uH Z).2.2.2.2.1,br (u:=.int .i64 r) (u':=.int .i64 c) (u'':=.slice A n D) (show X.heap.size≠w.heap.size+1+1 by have:=uH H;omega) (uH Z).2.2.2.2.2⟩)
    clear y0 y1 y2 y3 y4 y5
    refine wp_region_held_drew (S:=(fun w'=>w'.cell? ⟨w3.heap.size,0,none⟩=some (.int .i64 (r:Int))∧w'.cell? ⟨w3.heap.size,1,none⟩=some (.int .i64 (r:Int))∧w'.cell? ⟨w3.heap.size,2,none⟩=some (.slice l nq t)∧w'.cell? ⟨X.heap.size,0,none⟩=some (.int .i64 (r:Int))∧w'.cell? ⟨X.heap.size,1,none⟩=some (.int .i64 (c:Int))∧w'.cell? ⟨X.heap.size,2,none⟩=some (.slice A n D))) (by kernel_rfl) ?_ (fun G=>?_)
    ·exact uH bb
    refine wpAnyH_take (i:=0) (oi:={dst:=some 47,op:=Op.load 24 (Operand.tmp 11),type:=24,pos:= "pivot.go:30",after:=#[],guard:=none}) (v:=(Value.agg #[.int .i64 (r:Int),.int .i64 (r:Int),.slice l nq t])) rfl (by kernel_rfl) (by kernel_rfl) (by kernel_rfl) (fun _ _ _ h=>h) (Or.inl ⟨by rfl,?_⟩) (by assumption) ?_
    ·(intro w aI;(try dsimp only at aI);go_simp)
    simp only[Act.put,List.setIfInBounds_toArray,List.set_cons_zero,List.set_cons_succ]
    refine wpAnyH_take (i:=1) (oi:={dst:=some 48,op:=Op.load 24 (Operand.tmp 7),type:=24,pos:= "pivot.go:30",after:=#[{on:=3,ground:=Ground.gcOnly Departure.lateStores}],guard:=none}) (v:=(Value.agg #[.int .i64 (r:Int),.int .i64 (c:Int),.slice A n D])) rfl (by kernel_rfl) (by kernel_rfl) (by kernel_rfl) (fun _ _ _ h=>h) (Or.inl ⟨by rfl,?_⟩) (by assumption) ?_
    ·(intro w aI;(try dsimp only at aI);go_simp)
    simp only[Act.put,List.setIfInBounds_toArray,List.set_cons_zero,List.set_cons_succ]
    refine wpAnyH_take (i:=2) (oi:={dst:=some 49,op:=Op.move (Operand.tmp 8),type:=26,pos:= "pivot.go:30",after:=#[{on:=4,ground:=Ground.gcOnly Departure.lateStores}],guard:=none}) (v:=(Value.slice (some ⟨pg,0,none⟩) c c)) rfl (by kernel_rfl) (by kernel_rfl) (by kernel_rfl) (fun _ _ _ h=>h) (Or.inl ⟨by rfl,?_⟩) (by assumption) ?_
    ·(intro w aI;(try dsimp only at aI);go_simp)
    simp only[Act.put,List.setIfInBounds_toArray,List.set_cons_zero,List.set_cons_succ]
    refine wpAnyH_ready (rs:=[3]) (by kernel_rfl) (by simp) ?_
    refine AllReadyH.cons (o:={dst:=none,op:=Op.store 24 (Operand.tmp 2) (Operand.tmp 47),type:=0,pos:= "pivot.go:30",after:=#[{on:=0,ground:=Ground.data},{on:=0,ground:=Ground.phase},{on:=1,ground:=Ground.textOnly Departure.lateStores},{on:=2,ground:=Ground.textOnly Departure.lateStores}],guard:=none}) rfl (fun KK hK=>?_) AllReadyH.nil
    go_simp
    refine hK.out _ _ ?_ (fun G=>?_)
    ·exact uH bc
    clear hK KK
    refine wpAnyH_ready (rs:=[4]) (by kernel_rfl) (by simp) ?_
    refine AllReadyH.cons (o:={dst:=none,op:=Op.store 24 (Operand.tmp 3) (Operand.tmp 48),type:=0,pos:= "pivot.go:30",after:=#[{on:=1,ground:=Ground.data},{on:=3,ground:=Ground.chain},{on:=0,ground:=Ground.phase},{on:=1,ground:=Ground.phase},{on:=2,ground:=Ground.textOnly Departure.lateStores},{on:=3,ground:=Ground.phase}],guard:=none}) rfl (fun KK hK=>?_) AllReadyH.nil
    go_simp
    refine hK.out _ _ ?_ (fun G=>?_)
    ·exact uH a1
    clear hK KK
    refine wpAnyH_ready (rs:=[5]) (by kernel_rfl) (by simp) ?_
    refine AllReadyH.cons (o:={dst:=some 4,op:=Op.assign (Operand.tmp 49),type:=26,pos:= "pivot.go:30",after:=#[{on:=2,ground:=Ground.data},{on:=4,ground:=Ground.chain},{on:=0,ground:=Ground.phase},{on:=1,ground:=Ground.phase},{on:=2,ground:=Ground.phase},{on:=3,ground:=Ground.phase},{on:=4,ground:=Ground.phase}],guard:=none}) rfl (fun KK hK=>?_) AllReadyH.nil
    go_simp
    refine hK.out _ _ ?_ (fun G=>?_)
    ·exact uH a1
    clear hK KK
    refine wpAnyH_ready (rs:=[6]) (by kernel_rfl) (by simp) ?_
    refine AllReadyH.cons (o:={dst:=some 5,op:=Op.assign (Operand.const (Value.int IntKind.i64 0)),type:=27,pos:= "pivot.go:30",after:=#[{on:=5,ground:=Ground.chain},{on:=0,ground:=Ground.phase},{on:=1,ground:=Ground.phase},{on:=2,ground:=Ground.phase},{on:=3,ground:=Ground.phase},{on:=4,ground:=Ground.phase},{on:=5,ground:=Ground.phase}],guard:=none}) rfl (fun KK hK=>?_) AllReadyH.nil
    go_simp
    refine hK.out _ _ ?_ (fun G=>?_)
    ·exact uH a1
    clear hK KK
    refine wpAnyH_done (by kernel_rfl) ?_ _
    clear bb bc a1 Z
    go_wp2_with fail
    refine bodyPost_ret (v:=.tuple #[.agg #[.int .i64 r,.int .i64 r,.slice l nq t],.agg #[.int .i64 r,.int .i64 c,.slice A n D],.slice (some ⟨pg,0,none⟩) c c,.int .i64 0]) (by simp[results,Tryz.results9,go_sem,z0,z1,z2,z3,z4,z5]) rfl ⟨.inl ⟨uH a9,_,_,pg,rfl,⟨l,t,by rw[uH LQ],uH bt,(uH PQ).below (Below.refl _ _).drew⟩,⟨A,D,by rw[uH LS],uH HN,(uH PR).below (Below.refl _ _).drew⟩,by have:=uH a4;omega,(uH PP).all (Below.refl _ _).drew⟩,(uH BP).drew⟩
 ·have am:Hid ((ok&&(fq&&fr))=false):=aa (by rw[a0];rfl)
  have Y:=ac X (.cells #[.int .i64 0,.int .i64 0,.slice none 0 0] 24)
  replace m:=aa ((uH m).all Y)
  clear Y a0 HZ a3
  have d:=(uH m).r1;have X2:=(uH m).r2
  have s0:=d.c0;have s1:=d.c1;have s2:=d.c2
  have f0:=d.free 0;have f1:=d.free 1;have f2:=d.free 2
  have Y1:=d.put (.int .i64 0) (.int .i64 0) (.slice none 0 0)
  have f:=X2.three14 (g:=w.heap.size+1) (by omega) (.int .i64 0) (.int .i64 0) (.slice none 0 0)
  have s3:=f.c0;have s4:=f.c1;have s5:=f.c2
  have f3:=f.free 0;have f4:=f.free 1;have f5:=f.free 2
  have N:=Y1.three14 (g:=w.heap.size+1+1) (by omega) (.int .i64 0) (.int .i64 0) (.slice none 0 0)
  have O:=f.put (.int .i64 0) (.int .i64 0) (.slice none 0 0)
  have z0:=N.c0;have z1:=N.c1;have z2:=N.c2;have z3:=O.c0;have z4:=O.c1;have z5:=O.c2
  have BP:=aa (aA (aA (uH m).bel (b:=w.heap.size+1) (by omega) (.int .i64 0) (.int .i64 0) (.slice none 0 0)) (b:=w.heap.size+1+1) (by omega) (.int .i64 0) (.int .i64 0) (.slice none 0 0))
  clear d X2 Y1 f N O m
  go_wp2_with fail
  exact bodyPost_ret (v:=.tuple #[.agg #[.int .i64 0,.int .i64 0,.slice none 0 0],.agg #[.int .i64 0,.int .i64 0,.slice none 0 0],.slice none 0 0,.int .i64 2]) (by simp[results,Tryz.results9,go_sem,z0,z1,z2,z3,z4,z5]) rfl ⟨.inr ⟨uH am,_,_,rfl,bS.zero _ _,bS.zero _ _⟩,uH BP⟩
theorem ge{w:World}{a:Addr}{z:Int}{b:Nat}{x y:Int}{o:Option Addr}{n d:Nat}(h:w.cell? a=some (.int .u64 z))(l:aw w b (.int .i64 x) (.int .i64 y) (.slice o n d))(u u' u'':Value):(((w.setCell ⟨b,0,none⟩ u).setCell ⟨b,1,none⟩ u').setCell ⟨b,2,none⟩ u'').cell? a=some (.int .u64 z):=by
 obtain⟨g,k,m⟩:=a
 have e:m=none:=World.cell?_spot h
 subst e
 have f:b≠g:=l.away h
 rw[ah _ _ _ _ (show g≠b from fun e=>f e.symm),ah _ _ _ _ (show g≠b from fun e=>f e.symm),ah _ _ _ _ (show g≠b from fun e=>f e.symm)]
 exact h
theorem t7(r c n ae i k m aI:Nat)(ao vo:Option Addr)(vc:Nat)(TJ:Nat→Nat→List Nat)(CL:Nat→List Nat)(V:Nat→Nat)(w0 t:Nat→Nat)(p u:Nat→Nat→Nat)(w:World)(hc:c≤6)(hr:r≤6)(a7:k≤c)(bm:i+m≤r)
  (h0:ad w ao ae (az (TJ k 0))) (lJ:∀d j,(TJ d j).length=n) (hN:∀d,TJ d m=TJ (d+1) 0) (a0:∀d,(CL d).length=r-i)
  (HV:∀w',Below w.heap.size w w'→∀j,j<m→∃b a1,vo=some ⟨b,a1,none⟩∧w'.cell? ⟨b,a1+j,none⟩=some (.int .u64 (V j:Nat)))
  (A1:∀w' d,Below w.heap.size w w'→d<c→Calls Tryz.prog 39 #[.agg #[.int .i64 r,.int .i64 c,.slice ao n ae],.int .i64 (d:Nat),.int .i64 i] w' fun e N=>∃bo dd,e=.returned (.slice bo (r-i) dd)∧ad N bo dd (az (CL d))∧Below w'.heap.size w' N)
  (A2:∀w' d bo dd,Below w.heap.size w w'→d<c→ad w' bo dd (az (CL d))→Calls Tryz.prog 87 #[.slice vo m vc,.slice bo m dd] w' fun e N=>e=.returned (.int .u64 (w0 d:Nat))∧Below w'.heap.size w' N)
  (A3:∀w' d,d<c→Calls Tryz.prog 86 #[.int .u64 aI,.int .u64 (w0 d:Nat)] w' fun e N=>e=.returned (.int .u64 (t d:Nat))∧Below w'.heap.size w' N)
  (A4:∀w' d j,d<c→j<m→Calls Tryz.prog 86 #[.int .u64 (t d:Nat),.int .u64 (V j:Nat)] w' fun e N=>e=.returned (.int .u64 (p d j:Nat))∧Below w'.heap.size w' N)
  (A5:∀w' d j,d<c→j<m→Calls Tryz.prog 84 #[.int .u64 ((CL d).getD j 0:Nat),.int .u64 (p d j:Nat)] w' fun e N=>e=.returned (.int .u64 (u d j:Nat))∧Below w'.heap.size w' N)
  (A6:∀w' d j qo qc,k≤d→d<c→j<m→ad w' qo qc (az (TJ d j))→Calls Tryz.prog 52 #[.agg #[.int .i64 r,.int .i64 c,.slice qo n qc],.int .i64 ((i+j:Nat):Int),.int .i64 (d:Nat),.int .u64 (u d j:Nat)] w' fun e N=>∃v,e=.returned v∧(∃po pc,v=.agg #[.int .i64 r,.int .i64 c,.slice po n pc]∧ad N po pc (az (TJ d (j+1))))∧Below w'.heap.size w' N):
  Calls Tryz.prog 41 #[.agg #[.int .i64 r,.int .i64 c,.slice ao n ae],.int .i64 i,.int .i64 k,.slice vo m vc,.int .u64 aI] w fun e w'=>∃po pc,e=.returned (.agg #[.int .i64 r,.int .i64 c,.slice po n pc])∧ad w' po pc (az (TJ c 0))∧Below w.heap.size w w':=by
 have ST:=aa (lM.start w r c n ae ao (TJ k 0) h0 (lJ k 0))
 have KV:=aa HV;have K1:=aa A1;have K2:=aa A2;have K3:=aa A3;have K4:=aa A4;have K5:=aa A5;have K6:=aa A6;have LJ:=aa lJ;have NX:=aa hN;have LC:=aa a0
 clear HV A1 A2 A3 A4 A5 A6 lJ h0 hN a0
 have O:=(uH ST).1.c0;have U:=(uH ST).1.c1;have X:=(uH ST).1.c2
 go_enter Tryz.func41,Tryz.ntmps41
 go_wp2_with fail
 clear O U X
 go_loopw[12] (fun a wr=>∃(d:Nat) (po:Option Addr) (pc:Nat),k≤d∧d≤c∧a=.int .i64 d∧Hid (lM w wr r c n ae ao (TJ d 0) po pc)) (fun a _=>c-(intOf a).toNat)
 case atStart=>exact⟨k,ao,ae,Nat.le_refl _,a7,rfl,ST⟩
 case round=>
  clear ST
  obtain⟨d,po,pc,be,hd,rfl,hS⟩:=hrel
  have O:=(uH hS).1.c0;have U:=(uH hS).1.c1;have X:=(uH hS).1.c2
  by_cases am:d<c
  ·have bn:(d:Int)<(c:Int):=by omega
   have W1:=aa (fun w' h=>uH K1 w' d h am);have W2:=aa (fun w' bo dd h l=>uH K2 w' d bo dd h am l);have W3:=aa (fun w'=>uH K3 w' d am);have W4:=aa (fun w' j hj=>uH K4 w' d j am hj);have W5:=aa (fun w' j hj=>uH K5 w' d j am hj);have W6:=aa (fun w' j qo qc hj l=>uH K6 w' d j qo qc be am hj l);have WN:=aa (uH NX d);have WL:=aa (fun j=>uH LJ d j);have WC:=aa (uH LC d)
   generalize a6:TJ (d+1) 0=TN at*
   generalize bi:TJ d=Td at*
   generalize CL d=Cd at*
   generalize p d=pd at*
   generalize u d=ud at*
   generalize t d=td at*
   generalize w0 d=wd at*
   clear K1 K2 K3 K4 K5 K6 NX
   go_wp2_with fail
   refine(uH W1 _ (uH hS).2.2.2.2.2).mono ?_
   rintro e w1 ⟨bo,dd,rfl,bc,l⟩
   have bp:(m:Int)≤(dd:Int):=by have:=bc.1;rw[al,uH WC]at this;omega
   replace hS:=aa ((uH hS).all l)
   have BC:=aa bc
   clear l bc O U X W1
   go_wp2_with fail
   refine(uH W2 _ _ _ (uH hS).2.2.2.2.2 (uH BC)).mono ?_
   rintro e w2 ⟨rfl,l⟩
   replace hS:=aa ((uH hS).all l)
   replace BC:=aa ((uH BC).below l)
   clear l W2
   go_wp2_with fail
   refine(uH W3 _).mono ?_
   rintro e w3 ⟨rfl,l⟩
   replace hS:=aa ((uH hS).all l)
   replace BC:=aa ((uH BC).below l)
   clear l W3
   go_wp2_with fail
   go_loopw[15] (fun a wr=>∃(j:Nat) (po:Option Addr) (pc:Nat),j≤m∧a=.int .i64 j∧Hid (lM w wr r c n ae ao (Td j) po pc)∧Hid (ad wr bo dd (az Cd))) (fun a _=>m-(intOf a).toNat)
   case atStart=>exact⟨0,po,pc,Nat.zero_le _,rfl,hS,BC⟩
   case round=>
    clear hS BC
    obtain⟨j,qo,qc,hj,rfl,hS,BC⟩:=hrel
    by_cases ax:j<m
    ·have a9:(j:Int)<(m:Int):=by omega
     have bq:(j:Int)<(r-i:Nat):=by omega
     have bt:(i:Int)+(j:Int)=((i+j:Nat):Int):=by omega
     obtain⟨b1,o1,e1,Z⟩:=uH KV _ (uH hS).2.2.2.2.2 j ax
     obtain⟨b2,o2,e2,_,a2⟩:=(uH BC).ne (by rw[al,uH WC];omega)
     subst e1 e2
     have Y:=a2 j (by rw[al,uH WC];omega)
     rw[fG]at Y
     have V4:=aa (fun w'=>uH W4 w' j ax);have V5:=aa (fun w'=>uH W5 w' j ax);have V6:=aa (fun w' qo qc l=>uH W6 w' j qo qc ax l);have VL:=aa (uH WL (j+1))
     have bj:IntKind.i64.wrap ((i+j:Nat):Int)=((i+j:Nat):Int):=aR _ (by omega)
     generalize i+j=ij at*
     generalize V j=vj at*
     generalize Cd.getD j 0=cj at*
     generalize pd j=pj at*
     generalize ud j=uj at*
     go_wp2_with fail
     refine aq (fun W=>lM w W r c n ae ao (Td j) qo qc∧W.cell? ⟨b1,o1+j,none⟩=some (.int .u64 (vj:Nat))∧W.cell? ⟨b2,o2+j,none⟩=some (.int .u64 (cj:Nat))∧ad W (some ⟨b2,o2,none⟩) dd (az Cd)) ⟨uH hS,Z,Y,uH BC⟩ ?_
     clear hS BC Z Y a2
     rintro W0 ⟨s0,a3,a4,a5⟩
     have f:=aa (show lM w W0.drew r c n ae ao (Td j) qo qc∧W0.drew.cell? ⟨b1,o1+j,none⟩=some (.int .u64 (vj:Nat))∧W0.drew.cell? ⟨b2,o2+j,none⟩=some (.int .u64 (cj:Nat))∧ad W0.drew (some ⟨b2,o2,none⟩) dd (az Cd)from⟨s0.all ((Below.refl W0.heap.size W0).drew),a3,a4,a5.below ((Below.refl W0.heap.size W0).drew)⟩)
     clear s0 a3 a4 a5 KV W4 W5 W6 WN WL WC LC LJ a6 bi
     have O:=(uH f).1.2.2.1.c0;have U:=(uH f).1.2.2.1.c1;have X:=(uH f).1.2.2.1.c2;have Z:=(uH f).2.1;have Y:=(uH f).2.2.1
     refine wp_region_held_drew (S:=(fun w'=>w'.cell? ⟨b1,o1+j,none⟩=some (.int .u64 (vj:Nat))∧w'.cell? ⟨b2,o2+j,none⟩=some (.int .u64 (cj:Nat)))) (by kernel_rfl) ?_ (fun z=>?_)
     ·exact⟨(uH f).2.1,(uH f).2.2.1⟩
     refine wpAnyH_take (i:=1) (oi:={dst:=some 43,op:=Op.move (Operand.tmp 1),type:=3,pos:= "ref.go:72",after:=#[],guard:=none}) (v:=(Value.int .i64 (i:Int))) rfl (by kernel_rfl) (by kernel_rfl) (by kernel_rfl) (fun _ _ _ h=>h) (Or.inl ⟨by rfl,?_⟩) (by assumption) ?_
     ·(intro w A;(try dsimp only at A);go_simp)
     simp only[Act.put,List.setIfInBounds_toArray,List.set_cons_zero,List.set_cons_succ]
     refine wpAnyH_take (i:=2) (oi:={dst:=some 44,op:=Op.move (Operand.tmp 15),type:=3,pos:= "ref.go:72",after:=#[],guard:=none}) (v:=(Value.int .i64 (j:Int))) rfl (by kernel_rfl) (by kernel_rfl) (by kernel_rfl) (fun _ _ _ h=>h) (Or.inl ⟨by rfl,?_⟩) (by assumption) ?_
     ·(intro w A;(try dsimp only at A);go_simp)
     simp only[Act.put,List.setIfInBounds_toArray,List.set_cons_zero,List.set_cons_succ]
     refine wpAnyH_take (i:=3) (oi:={dst:=some 45,op:=Op.binOp BinOp.add 3 (Operand.tmp 43) (Operand.tmp 44) 3,type:=3,pos:= "ref.go:72",after:=#[{on:=1,ground:=Ground.data},{on:=2,ground:=Ground.data}],guard:=none}) (v:=(Value.int .i64 (ij:Int))) rfl (by kernel_rfl) (by kernel_rfl) (by kernel_rfl) (fun _ _ _ h=>h) (Or.inl ⟨by rfl,?_⟩) (by assumption) ?_
     ·(intro w A;(try dsimp only at A);go_simp)
     simp only[Act.put,List.setIfInBounds_toArray,List.set_cons_zero,List.set_cons_succ]
     refine wpAnyH_take (i:=4) (oi:={dst:=some 46,op:=Op.move (Operand.tmp 12),type:=3,pos:= "ref.go:72",after:=#[],guard:=none}) (v:=(Value.int .i64 (d:Int))) rfl (by kernel_rfl) (by kernel_rfl) (by kernel_rfl) (fun _ _ _ h=>h) (Or.inl ⟨by rfl,?_⟩) (by assumption) ?_
     ·(intro w A;(try dsimp only at A);go_simp)
     simp only[Act.put,List.setIfInBounds_toArray,List.set_cons_zero,List.set_cons_succ]
     refine wpAnyH_take (i:=5) (oi:={dst:=some 47,op:=Op.move (Operand.tmp 13),type:=22,pos:= "ref.go:72",after:=#[],guard:=none}) (v:=(Value.slice (some ⟨b2,o2,none⟩) (r-i) dd)) rfl (by kernel_rfl) (by kernel_rfl) (by kernel_rfl) (fun _ _ _ h=>h) (Or.inl ⟨by rfl,?_⟩) (by assumption) ?_
     ·(intro w A;(try dsimp only at A);go_simp)
     simp only[Act.put,List.setIfInBounds_toArray,List.set_cons_zero,List.set_cons_succ]
     refine wpAnyH_take (i:=6) (oi:={dst:=some 48,op:=Op.move (Operand.tmp 15),type:=3,pos:= "ref.go:72",after:=#[],guard:=none}) (v:=(Value.int .i64 (j:Int))) rfl (by kernel_rfl) (by kernel_rfl) (by kernel_rfl) (fun _ _ _ h=>h) (Or.inl ⟨by rfl,?_⟩) (by assumption) ?_
     ·(intro w A;(try dsimp only at A);go_simp)
     simp only[Act.put,List.setIfInBounds_toArray,List.set_cons_zero,List.set_cons_succ]
     refine wpAnyH_take (i:=7) (oi:={dst:=some 49,op:=Op.indexAddr 22 (Operand.tmp 47) (Operand.tmp 48),type:=0,pos:= "ref.go:72",after:=#[{on:=5,ground:=Ground.data},{on:=6,ground:=Ground.data}],guard:=none}) (v:=(Value.pointer (some ⟨b2,o2+j,none⟩))) rfl (by kernel_rfl) (by kernel_rfl) (by kernel_rfl) (fun _ _ _ h=>h) (Or.inl ⟨by rfl,?_⟩) (by assumption) ?_
     ·(intro w A;(try dsimp only at A);go_simp)
     simp only[Act.put,List.setIfInBounds_toArray,List.set_cons_zero,List.set_cons_succ]
     refine wpAnyH_take (i:=8) (oi:={dst:=some 50,op:=Op.load 31 (Operand.tmp 49),type:=31,pos:= "ref.go:72",after:=#[{on:=7,ground:=Ground.data}],guard:=none}) (v:=(Value.int .u64 (cj:Int))) rfl (by kernel_rfl) (by kernel_rfl) (by kernel_rfl) (fun _ _ _ h=>h) (Or.inl ⟨by rfl,?_⟩) (by assumption) ?_
     ·(intro w A;(try dsimp only at A);go_simp)
     simp only[Act.put,List.setIfInBounds_toArray,List.set_cons_zero,List.set_cons_succ]
     refine wpAnyH_take (i:=9) (oi:={dst:=some 51,op:=Op.move (Operand.tmp 14),type:=31,pos:= "ref.go:72",after:=#[],guard:=none}) (v:=(Value.int .u64 (td:Int))) rfl (by kernel_rfl) (by kernel_rfl) (by kernel_rfl) (fun _ _ _ h=>h) (Or.inl ⟨by rfl,?_⟩) (by assumption) ?_
     ·(intro w A;(try dsimp only at A);go_simp)
     simp only[Act.put,List.setIfInBounds_toArray,List.set_cons_zero,List.set_cons_succ]
     refine wpAnyH_take (i:=10) (oi:={dst:=some 52,op:=Op.move (Operand.tmp 3),type:=22,pos:= "ref.go:72",after:=#[],guard:=none}) (v:=(Value.slice (some ⟨b1,o1,none⟩) m vc)) rfl (by kernel_rfl) (by kernel_rfl) (by kernel_rfl) (fun _ _ _ h=>h) (Or.inl ⟨by rfl,?_⟩) (by assumption) ?_
     ·(intro w A;(try dsimp only at A);go_simp)
     simp only[Act.put,List.setIfInBounds_toArray,List.set_cons_zero,List.set_cons_succ]
     refine wpAnyH_take (i:=11) (oi:={dst:=some 53,op:=Op.move (Operand.tmp 15),type:=3,pos:= "ref.go:72",after:=#[],guard:=none}) (v:=(Value.int .i64 (j:Int))) rfl (by kernel_rfl) (by kernel_rfl) (by kernel_rfl) (fun _ _ _ h=>h) (Or.inl ⟨by rfl,?_⟩) (by assumption) ?_
     ·(intro w A;(try dsimp only at A);go_simp)
     simp only[Act.put,List.setIfInBounds_toArray,List.set_cons_zero,List.set_cons_succ]
     refine wpAnyH_take (i:=12) (oi:={dst:=some 54,op:=Op.indexAddr 22 (Operand.tmp 52) (Operand.tmp 53),type:=0,pos:= "ref.go:72",after:=#[{on:=10,ground:=Ground.data},{on:=11,ground:=Ground.data}],guard:=none}) (v:=(Value.pointer (some ⟨b1,o1+j,none⟩))) rfl (by kernel_rfl) (by kernel_rfl) (by kernel_rfl) (fun _ _ _ h=>h) (Or.inl ⟨by rfl,?_⟩) (by assumption) ?_
     ·(intro w A;(try dsimp only at A);go_simp)
     simp only[Act.put,List.setIfInBounds_toArray,List.set_cons_zero,List.set_cons_succ]
     refine wpAnyH_take (i:=13) (oi:={dst:=some 55,op:=Op.load 31 (Operand.tmp 54),type:=31,pos:= "ref.go:72",after:=#[{on:=12,ground:=Ground.data}],guard:=none}) (v:=(Value.int .u64 (vj:Int))) rfl (by kernel_rfl) (by kernel_rfl) (by kernel_rfl) (fun _ _ _ h=>h) (Or.inl ⟨by rfl,?_⟩) (by assumption) ?_
     ·(intro w A;(try dsimp only at A);go_simp)
     simp only[Act.put,List.setIfInBounds_toArray,List.set_cons_zero,List.set_cons_succ]
     refine wpAnyH_ready (rs:=[0,14]) (by kernel_rfl) (by simp) ?_
     refine AllReadyH.cons (o:={dst:=some 42,op:=Op.load 24 (Operand.tmp 11),type:=24,pos:= "ref.go:72",after:=#[],guard:=none}) rfl (fun K D=>?_) (AllReadyH.cons (o:={dst:=some 56,op:=Op.call {callee:=Callee.value (Operand.func 86),args:=#[Operand.tmp 51,Operand.tmp 55],argTypes:=#[31,31]},type:=31,pos:= "ref.go:72",after:=#[{on:=9,ground:=Ground.data},{on:=13,ground:=Ground.data}],guard:=none}) rfl (fun K D=>?_) AllReadyH.nil)
     ·go_simp
      refine D.out _ _ ?_ (fun z=>?_)
      ·exact⟨(uH f).2.1,(uH f).2.2.1⟩
      clear D K
      refine wpAnyH_ready (rs:=[14]) (by kernel_rfl) (by simp) ?_
      refine AllReadyH.cons (o:={dst:=some 56,op:=Op.call {callee:=Callee.value (Operand.func 86),args:=#[Operand.tmp 51,Operand.tmp 55],argTypes:=#[31,31]},type:=31,pos:= "ref.go:72",after:=#[{on:=9,ground:=Ground.data},{on:=13,ground:=Ground.data}],guard:=none}) rfl (fun K D=>?_) AllReadyH.nil
      go_simp
      refine(uH V4 _).mono ?_
      rintro e w4 ⟨rfl,l⟩
      clear O U X Z Y
      have G:=(uH f).1.all l
      have O:=G.2.2.1.c0
      have U:=G.2.2.1.c1
      have X:=G.2.2.1.c2
      have Z:=ai (uH f).2.1 l
      have Y:=ai (uH f).2.2.1 l
      replace f:=aa (And.intro G (And.intro Z (And.intro Y ((uH f).2.2.2.below l))))
      clear G l
      go_wp2_with fail
      refine D.out _ _ ?_ (fun z=>?_)
      ·exact⟨(uH f).2.1,(uH f).2.2.1⟩
      clear D K
      refine wpAnyH_ready (rs:=[15]) (by kernel_rfl) (by simp) ?_
      refine AllReadyH.cons (o:={dst:=some 57,op:=Op.call {callee:=Callee.value (Operand.func 84),args:=#[Operand.tmp 50,Operand.tmp 56],argTypes:=#[31,31]},type:=31,pos:= "ref.go:72",after:=#[{on:=8,ground:=Ground.data},{on:=14,ground:=Ground.data},{on:=14,ground:=Ground.chain}],guard:=none}) rfl (fun K D=>?_) AllReadyH.nil
      go_simp
      refine(uH V5 _).mono ?_
      rintro e w5 ⟨rfl,l⟩
      clear O U X Z Y
      have G:=(uH f).1.all l
      have O:=G.2.2.1.c0
      have U:=G.2.2.1.c1
      have X:=G.2.2.1.c2
      have Z:=ai (uH f).2.1 l
      have Y:=ai (uH f).2.2.1 l
      replace f:=aa (And.intro G (And.intro Z (And.intro Y ((uH f).2.2.2.below l))))
      clear G l
      go_wp2_with fail
      refine D.out _ _ ?_ (fun z=>?_)
      ·exact⟨(uH f).2.1,(uH f).2.2.1⟩
      clear D K
      refine wpAnyH_ready (rs:=[16]) (by kernel_rfl) (by simp) ?_
      refine AllReadyH.cons (o:={dst:=some 58,op:=Op.call {callee:=Callee.value (Operand.func 52),args:=#[Operand.tmp 42,Operand.tmp 45,Operand.tmp 46,Operand.tmp 57],argTypes:=#[24,3,3,31]},type:=24,pos:= "ref.go:72",after:=#[{on:=0,ground:=Ground.data},{on:=3,ground:=Ground.data},{on:=4,ground:=Ground.data},{on:=15,ground:=Ground.data},{on:=15,ground:=Ground.chain}],guard:=none}) rfl (fun K D=>?_) AllReadyH.nil
      go_simp
      refine(uH V6 _ _ _ (uH f).1.2.2.2.1).mono ?_
      rintro e w6 ⟨v6,rfl,⟨L,M,rfl,b6⟩,l⟩
      clear O U X Z Y
      have F:=(uH f).1.all l
      have O:=F.2.2.1.c0;have U:=F.2.2.1.c1;have X:=F.2.2.1.c2
      have f0:=F.2.2.1.free 0;have f1:=F.2.2.1.free 1;have f2:=F.2.2.1.free 2
      have P6:=aa (F.put b6 (uH VL))
      have PC:=aa (((uH f).2.2.2.below l).putM F.2.2.1 (.int .i64 r) (.int .i64 c) (.slice L n M))
      have H:=aa (And.intro (ai (uH f).2.1 l) (ai (uH f).2.2.1 l))
      have aj:=aa (And.intro (ge (uH H).1 F.2.2.1 (.int .i64 r) (.int .i64 c) (.slice L n M)) (ge (uH H).2 F.2.2.1 (.int .i64 r) (.int .i64 c) (.slice L n M)))
      clear F l b6 f
      go_wp2_with fail
      refine D.out _ _ ?_ (fun z=>?_)
      ·exact uH H
      clear D K
      refine wpAnyH_ready (rs:=[17]) (by kernel_rfl) (by simp) ?_
      refine AllReadyH.cons (o:={dst:=none,op:=Op.store 24 (Operand.tmp 11) (Operand.tmp 58),type:=0,pos:= "ref.go:72",after:=#[{on:=16,ground:=Ground.data},{on:=16,ground:=Ground.chain},{on:=0,ground:=Ground.phase},{on:=1,ground:=Ground.phase},{on:=2,ground:=Ground.phase},{on:=3,ground:=Ground.phase},{on:=4,ground:=Ground.phase},{on:=5,ground:=Ground.phase},{on:=6,ground:=Ground.phase},{on:=7,ground:=Ground.phase},{on:=8,ground:=Ground.phase},{on:=9,ground:=Ground.phase},{on:=10,ground:=Ground.phase},{on:=11,ground:=Ground.phase},{on:=12,ground:=Ground.phase},{on:=13,ground:=Ground.phase},{on:=14,ground:=Ground.phase},{on:=15,ground:=Ground.phase},{on:=16,ground:=Ground.phase}],guard:=none}) rfl (fun K D=>?_) AllReadyH.nil
      go_simp
      refine D.out _ _ ?_ (fun z=>?_)
      ·exact uH aj
      clear D K
      refine wpAnyH_done (by kernel_rfl) ?_ _
      clear O U X f0 f1 f2 H aj
      go_wp2_with fail
      go_round
      case rel=>exact⟨j+1,L,M,by omega,by go_num,P6,PC⟩
      case measure=>simp[intOf];omega
     ·go_simp
      refine(uH V4 _).mono ?_
      rintro e w4 ⟨rfl,l⟩
      clear O U X Z Y
      have G:=(uH f).1.all l
      have O:=G.2.2.1.c0
      have U:=G.2.2.1.c1
      have X:=G.2.2.1.c2
      have Z:=ai (uH f).2.1 l
      have Y:=ai (uH f).2.2.1 l
      replace f:=aa (And.intro G (And.intro Z (And.intro Y ((uH f).2.2.2.below l))))
      clear G l
      go_wp2_with fail
      refine D.out _ _ ?_ (fun z=>?_)
      ·exact⟨(uH f).2.1,(uH f).2.2.1⟩
      clear D K
      refine wpAnyH_ready (rs:=[0,15]) (by kernel_rfl) (by simp) ?_
      refine AllReadyH.cons (o:={dst:=some 42,op:=Op.load 24 (Operand.tmp 11),type:=24,pos:= "ref.go:72",after:=#[],guard:=none}) rfl (fun K D=>?_) (AllReadyH.cons (o:={dst:=some 57,op:=Op.call {callee:=Callee.value (Operand.func 84),args:=#[Operand.tmp 50,Operand.tmp 56],argTypes:=#[31,31]},type:=31,pos:= "ref.go:72",after:=#[{on:=8,ground:=Ground.data},{on:=14,ground:=Ground.data},{on:=14,ground:=Ground.chain}],guard:=none}) rfl (fun K D=>?_) AllReadyH.nil)
      ·go_simp
       refine D.out _ _ ?_ (fun z=>?_)
       ·exact⟨(uH f).2.1,(uH f).2.2.1⟩
       clear D K
       refine wpAnyH_ready (rs:=[15]) (by kernel_rfl) (by simp) ?_
       refine AllReadyH.cons (o:={dst:=some 57,op:=Op.call {callee:=Callee.value (Operand.func 84),args:=#[Operand.tmp 50,Operand.tmp 56],argTypes:=#[31,31]},type:=31,pos:= "ref.go:72",after:=#[{on:=8,ground:=Ground.data},{on:=14,ground:=Ground.data},{on:=14,ground:=Ground.chain}],guard:=none}) rfl (fun K D=>?_) AllReadyH.nil
       go_simp
       refine(uH V5 _).mono ?_
       rintro e w5 ⟨rfl,l⟩
       clear O U X Z Y
       have G:=(uH f).1.all l
       have O:=G.2.2.1.c0
       have U:=G.2.2.1.c1
       have X:=G.2.2.1.c2
       have Z:=ai (uH f).2.1 l
       have Y:=ai (uH f).2.2.1 l
       replace f:=aa (And.intro G (And.intro Z (And.intro Y ((uH f).2.2.2.below l))))
       clear G l
       go_wp2_with fail
       refine D.out _ _ ?_ (fun z=>?_)
       ·exact⟨(uH f).2.1,(uH f).2.2.1⟩
       clear D K
       refine wpAnyH_ready (rs:=[16]) (by kernel_rfl) (by simp) ?_
       refine AllReadyH.cons (o:={dst:=some 58,op:=Op.call {callee:=Callee.value (Operand.func 52),args:=#[Operand.tmp 42,Operand.tmp 45,Operand.tmp 46,Operand.tmp 57],argTypes:=#[24,3,3,31]},type:=24,pos:= "ref.go:72",after:=#[{on:=0,ground:=Ground.data},{on:=3,ground:=Ground.data},{on:=4,ground:=Ground.data},{on:=15,ground:=Ground.data},{on:=15,ground:=Ground.chain}],guard:=none}) rfl (fun K D=>?_) AllReadyH.nil
       go_simp
       refine(uH V6 _ _ _ (uH f).1.2.2.2.1).mono ?_
       rintro e w6 ⟨v6,rfl,⟨L,M,rfl,b6⟩,l⟩
       clear O U X Z Y
       have F:=(uH f).1.all l
       have O:=F.2.2.1.c0;have U:=F.2.2.1.c1;have X:=F.2.2.1.c2
       have f0:=F.2.2.1.free 0;have f1:=F.2.2.1.free 1;have f2:=F.2.2.1.free 2
       have P6:=aa (F.put b6 (uH VL))
       have PC:=aa (((uH f).2.2.2.below l).putM F.2.2.1 (.int .i64 r) (.int .i64 c) (.slice L n M))
       have H:=aa (And.intro (ai (uH f).2.1 l) (ai (uH f).2.2.1 l))
       have aj:=aa (And.intro (ge (uH H).1 F.2.2.1 (.int .i64 r) (.int .i64 c) (.slice L n M)) (ge (uH H).2 F.2.2.1 (.int .i64 r) (.int .i64 c) (.slice L n M)))
       clear F l b6 f
       go_wp2_with fail
       refine D.out _ _ ?_ (fun z=>?_)
       ·exact uH H
       clear D K
       refine wpAnyH_ready (rs:=[17]) (by kernel_rfl) (by simp) ?_
       refine AllReadyH.cons (o:={dst:=none,op:=Op.store 24 (Operand.tmp 11) (Operand.tmp 58),type:=0,pos:= "ref.go:72",after:=#[{on:=16,ground:=Ground.data},{on:=16,ground:=Ground.chain},{on:=0,ground:=Ground.phase},{on:=1,ground:=Ground.phase},{on:=2,ground:=Ground.phase},{on:=3,ground:=Ground.phase},{on:=4,ground:=Ground.phase},{on:=5,ground:=Ground.phase},{on:=6,ground:=Ground.phase},{on:=7,ground:=Ground.phase},{on:=8,ground:=Ground.phase},{on:=9,ground:=Ground.phase},{on:=10,ground:=Ground.phase},{on:=11,ground:=Ground.phase},{on:=12,ground:=Ground.phase},{on:=13,ground:=Ground.phase},{on:=14,ground:=Ground.phase},{on:=15,ground:=Ground.phase},{on:=16,ground:=Ground.phase}],guard:=none}) rfl (fun K D=>?_) AllReadyH.nil
       go_simp
       refine D.out _ _ ?_ (fun z=>?_)
       ·exact uH aj
       clear D K
       refine wpAnyH_done (by kernel_rfl) ?_ _
       clear O U X f0 f1 f2 H aj
       go_wp2_with fail
       go_round
       case rel=>exact⟨j+1,L,M,by omega,by go_num,P6,PC⟩
       case measure=>simp[intOf];omega
      ·go_simp
       refine(uH V5 _).mono ?_
       rintro e w5 ⟨rfl,l⟩
       clear O U X Z Y
       have G:=(uH f).1.all l
       have O:=G.2.2.1.c0
       have U:=G.2.2.1.c1
       have X:=G.2.2.1.c2
       have Z:=ai (uH f).2.1 l
       have Y:=ai (uH f).2.2.1 l
       replace f:=aa (And.intro G (And.intro Z (And.intro Y ((uH f).2.2.2.below l))))
       clear G l
       go_wp2_with fail
       refine D.out _ _ ?_ (fun z=>?_)
       ·exact⟨(uH f).2.1,(uH f).2.2.1⟩
       clear D K
       refine wpAnyH_ready (rs:=[0]) (by kernel_rfl) (by simp) ?_
       refine AllReadyH.cons (o:={dst:=some 42,op:=Op.load 24 (Operand.tmp 11),type:=24,pos:= "ref.go:72",after:=#[],guard:=none}) rfl (fun K D=>?_) AllReadyH.nil
       go_simp
       refine D.out _ _ ?_ (fun z=>?_)
       ·exact⟨(uH f).2.1,(uH f).2.2.1⟩
       clear D K
       refine wpAnyH_ready (rs:=[16]) (by kernel_rfl) (by simp) ?_
       refine AllReadyH.cons (o:={dst:=some 58,op:=Op.call {callee:=Callee.value (Operand.func 52),args:=#[Operand.tmp 42,Operand.tmp 45,Operand.tmp 46,Operand.tmp 57],argTypes:=#[24,3,3,31]},type:=24,pos:= "ref.go:72",after:=#[{on:=0,ground:=Ground.data},{on:=3,ground:=Ground.data},{on:=4,ground:=Ground.data},{on:=15,ground:=Ground.data},{on:=15,ground:=Ground.chain}],guard:=none}) rfl (fun K D=>?_) AllReadyH.nil
       go_simp
       refine(uH V6 _ _ _ (uH f).1.2.2.2.1).mono ?_
       rintro e w6 ⟨v6,rfl,⟨L,M,rfl,b6⟩,l⟩
       clear O U X Z Y
       have F:=(uH f).1.all l
       have O:=F.2.2.1.c0;have U:=F.2.2.1.c1;have X:=F.2.2.1.c2
       have f0:=F.2.2.1.free 0;have f1:=F.2.2.1.free 1;have f2:=F.2.2.1.free 2
       have P6:=aa (F.put b6 (uH VL))
       have PC:=aa (((uH f).2.2.2.below l).putM F.2.2.1 (.int .i64 r) (.int .i64 c) (.slice L n M))
       have H:=aa (And.intro (ai (uH f).2.1 l) (ai (uH f).2.2.1 l))
       have aj:=aa (And.intro (ge (uH H).1 F.2.2.1 (.int .i64 r) (.int .i64 c) (.slice L n M)) (ge (uH H).2 F.2.2.1 (.int .i64 r) (.int .i64 c) (.slice L n M)))
       clear F l b6 f
       go_wp2_with fail
       refine D.out _ _ ?_ (fun z=>?_)
       ·exact uH H
       clear D K
       refine wpAnyH_ready (rs:=[17]) (by kernel_rfl) (by simp) ?_
       refine AllReadyH.cons (o:={dst:=none,op:=Op.store 24 (Operand.tmp 11) (Operand.tmp 58),type:=0,pos:= "ref.go:72",after:=#[{on:=16,ground:=Ground.data},{on:=16,ground:=Ground.chain},{on:=0,ground:=Ground.phase},{on:=1,ground:=Ground.phase},{on:=2,ground:=Ground.phase},{on:=3,ground:=Ground.phase},{on:=4,ground:=Ground.phase},{on:=5,ground:=Ground.phase},{on:=6,ground:=Ground.phase},{on:=7,ground:=Ground.phase},{on:=8,ground:=Ground.phase},{on:=9,ground:=Ground.phase},{on:=10,ground:=Ground.phase},{on:=11,ground:=Ground.phase},{on:=12,ground:=Ground.phase},{on:=13,ground:=Ground.phase},{on:=14,ground:=Ground.phase},{on:=15,ground:=Ground.phase},{on:=16,ground:=Ground.phase}],guard:=none}) rfl (fun K D=>?_) AllReadyH.nil
       go_simp
       refine D.out _ _ ?_ (fun z=>?_)
       ·exact uH aj
       clear D K
       refine wpAnyH_done (by kernel_rfl) ?_ _
       clear O U X f0 f1 f2 H aj
       go_wp2_with fail
       go_round
       case rel=>exact⟨j+1,L,M,by omega,by go_num,P6,PC⟩
       case measure=>simp[intOf];omega
    ·have ba:j=m:=by omega
     subst ba
     have a9:¬(j:Int)<(j:Int):=by omega
     rw[uH WN]at hS
     go_wp2_with fail
     go_round
     case rel=>exact⟨d+1,qo,qc,by omega,by omega,by go_num,by rw[a6];exact hS⟩
     case measure=>simp[intOf];omega
  ·have bb:d=c:=by omega
   subst bb
   obtain⟨h1,h2,h3,h4,h5,h6⟩:=uH hS
   have t1:=h1.c1
   have bv:=h3.c0;have bx:=h3.c1;have bz:=h3.c2
   have r0:=h2.c0;have r1:=h2.c1;have r2:=h2.c2
   have f0:=h2.free 0;have f1:=h2.free 1;have f2:=h2.free 2
   have XP:=h2.put (.int .i64 r) (.int .i64 d) (.slice po n pc)
   have z0:=XP.c0;have z1:=XP.c1;have z2:=XP.c2
   have Q:=aa (h4.putM h2 (.int .i64 r) (.int .i64 d) (.slice po n pc))
   have BP:=aa (aA h6 (b:=w.heap.size+1) (by omega) (.int .i64 r) (.int .i64 d) (.slice po n pc))
   clear XP hS h1 h2 h3 h4 h5 h6
   go_wp2_with fail
   exact bodyPost_ret (v:=.agg #[.int .i64 r,.int .i64 d,.slice po n pc]) (by simp[results,Tryz.results41,go_sem,z0,z1,z2]) rfl ⟨po,pc,rfl,uH Q,uH BP⟩
end Go.Proofs.YtnnfjeieennffaaGreatDoor
namespace Go.Proofs.YtnnfjeieennffaaGreatDoor
open Go.RowKit
theorem ad.front{w:World}{m:Option Addr}{d:Nat}{I J:List Int}(h:ad w m d I)(t:J.length≤I.length)(z:∀j,j<J.length→J[j]? =I[j]?):ad w m d J:=by
 refine⟨Nat.le_trans t h.1,fun x A=>?_,?_⟩
 ·obtain⟨j,f,rfl⟩:=List.getElem_of_mem A
  have e:=z j f
  rw[List.getElem?_eq_getElem f]at e
  exact h.2.1 _ (List.mem_of_getElem? e.symm)
 ·rcases Nat.eq_zero_or_pos J.length with g|g
  ·exact .inl (List.eq_nil_of_length_eq_zero g)
  ·obtain⟨b,l,D,F,G⟩:=h.2.2.resolve_left (fun e=>by rw[e,List.length_nil]at t;omega)
   refine .inr ⟨b,l,D,F,fun j f=>?_⟩
   rw[G j (by omega),z j f]
theorem Iv:∀(f d:List Nat) (s:Nat),s<18446744073709551616→vB s f d<18446744073709551616:=by
 intro f
 induction f with
 |nil=>intro d s h;exact h
 |cons x f ih=>
  intro d s h
  match d with
  | []=>exact h
  |y::d=>exact ih d _ (nI _ _ h (iZ _ _))
theorem zk(c:Nat)(S:List Nat)(i q:Nat){m l:Nat}(h:m≤l):∀j,j<(az (dg c S i m q)).length→(az (dg c S i m q))[j]? =(az (dg c S i l q))[j]?:=by
 intro j d
 rw[al,bh]at d
 unfold az dg
 rw[List.getElem?_map,List.getElem?_map,List.getElem?_map,List.getElem?_map,List.getElem?_range d,List.getElem?_range (show j<l by omega)]
theorem kS(r c m i k f:Nat)(D F:Option Addr)(G:Nat)(S l:List Nat)(w:World)(h:Mx w D m r c S)(L:ad w F G (az l))(U:i+l.length≤r)(hk:k≤c)(ht:f<18446744073709551616):
  Calls Tryz.prog 41 #[.agg #[.int .i64 r,.int .i64 c,.slice D S.length m],.int .i64 i,.int .i64 k,.slice F l.length G,.int .u64 f] w fun e w'=>∃H K,e=.returned (.agg #[.int .i64 r,.int .i64 c,.slice H S.length K])∧ad w' H K (az (mT r c S i k l f))∧Below w.heap.size w w':=by
 have Y:=h.2.2.2
 have Z:=h.2.2.1
 have N:∀d j,(tG r c S i k l f d j).length=S.length:=fun d j=>by rw[rh,h.2.1]
 have O:∀j,l.getD j 0<18446744073709551616:=fun j=>by
  have:=L.lt j
  rwa[fG]at this
 rw[←wX r c S i k l f c (Nat.le_refl _)]
 refine t7 r c S.length m i k l.length f D F G (fun d j=>tG r c S i k l f d j) (fun d=>dg c S i (r-i) d) (fun j=>l.getD j 0) (fun d=>vB 0 l (dg c S i l.length d)) (fun d=>mV f (vB 0 l (dg c S i l.length d))) (fun d j=>mV (mV f (vB 0 l (dg c S i l.length d))) (l.getD j 0)) (fun d j=>(Cs c S i d l f).getD j 0) w Y Z hk U (by show ad w D m (az (tG r c S i k l f k 0));rw[Gk r c S i k l f h.2.1];exact h.1) N (fun d=>tH r c S i k l f d) (fun d=>bh _ _ _ _ _) (fun w' z j A=>?_) (fun w' d z t=>?_) (fun w' d bo dd z t hc=>?_) (fun w' d t=>?_) (fun w' d j t A=>?_) (fun w' d j t A=>?_) (fun w' d j V X M t A hq=>?_)
 ·obtain⟨b,Q,e1,_,e3⟩:=(L.below z).ne (by rw[al];omega)
  refine⟨b,Q,e1,?_⟩
  rw[e3 j (by rw[al];exact A),fG]
 ·exact lN r c m d i D S w' (h.below z) t (by omega)
 ·have hf:=hc.front (J:=az (dg c S i l.length d)) (by rw[al,al,bh,bh];omega) (zk c S i d (by omega))
  have:=yX F bo G dd (az l) (az (dg c S i l.length d)) w' (L.below z) hf (by rw[al,al,bh]) (by rw[al];omega)
  rw[rk (az l) (az (dg c S i l.length d)) (az l).length (Nat.le_refl _) (by rw[al,al,bh];exact Nat.le_refl _),cE,cE,al,al,bh,List.take_of_length_le (Nat.le_refl _),List.take_of_length_le (by rw[bh];exact Nat.le_refl _)]at this
  exact this
 ·exact jo f _ w' ht (Iv _ _ _ (by decide))
 ·exact jo _ _ w' (iZ _ _) (O j)
 ·show Calls Tryz.prog 84 #[.int .u64 ((dg c S i (r-i) d).getD j 0:Nat),_] w' _
  rw[rg c S i (r-i) d (show j<r-i by omega),ri c S i d l f A]
  exact js _ _ w' (h.el_lt _ _) (iZ _ _)
 ·have hX:Mx w' V X r c (tG r c S i k l f d j):=⟨hq,rh _ _ _ _ _ _ _ _ _,Z,Y⟩
  have:=ic r c X (i+j) d ((Cs c S i d l f).getD j 0) V _ w' hX (by omega) t (vF c S i d l f A (fun p q=>h.el_lt p q))
  rw[N d j]at this
  refine this.mono ?_
  rintro e ae ⟨v,rfl,⟨H,K,rfl,_,b5⟩,z⟩
  rw[wY r c S U t M A]at b5⊢
  exact⟨_,rfl,⟨H,K,by rw[N d (j+1)],b5⟩,z⟩
end Go.Proofs.YtnnfjeieennffaaGreatDoor
