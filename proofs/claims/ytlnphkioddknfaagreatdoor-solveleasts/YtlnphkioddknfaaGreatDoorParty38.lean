/- Part 38 of the texts. -/
import Derived.Test.YtlnphkioddknfaaGreatDoorParty37
set_option maxHeartbeats 32000000
set_option maxRecDepth 20000
namespace Go.Proofs.YtlnphkioddknfaaGreatDoor
open Go.RowKit
attribute [local go_sem ↓] Go.wp_at_zero Go.wp_at_succ
theorem aq.three14{w:World}{b g:Nat}{x y z:Value}(h:aq w b x y z)(d:b≠g)(u u' u'':Value):aq (((w.setCell ⟨g,0,none⟩ u).setCell ⟨g,1,none⟩ u').setCell ⟨g,2,none⟩ u'') b x y z:=
 ((h.other (p:=⟨g,0,none⟩) d _).other (p:=⟨g,1,none⟩) d _).other (p:=⟨g,2,none⟩) d _
structure kV (w wr:World) (h r c n cap:Nat) (ao:Option Addr) (S:List Nat) (ro:Option Addr) (rc:Nat) (v:Value) (R:List Mr):Prop where
 bel:Below w.heap.size w wr
 hh:w.heap.size+1+1≤h
 a:aq wr w.heap.size (.int .i64 r) (.int .i64 c) (.slice ao n cap)
 res:aq wr (w.heap.size+1) (.int .i64 0) (.int .i64 0) (.slice none 0 0)
 rb:aq wr h (.int .i64 r) (.int .i64 c) (.slice ro n rc)
 bits:ac wr ro rc (ar S)
 new:bH w.heap.size ro (ar S)
 len:S.length=n
 l:bZ (w.heap.size+1+1) wr v R
 off:gD v.ownBlock ro (ar S)
theorem kV.all{w wr f:World}{h r c n cap:Nat}{ao:Option Addr}{S:List Nat}{m:Option Addr}{y:Nat}{v:Value}{R:List Mr}(t:kV w wr h r c n cap ao S m y v R)(d:Below wr.heap.size wr f):kV w f h r c n cap ao S m y v R:=
 ⟨t.bel.trans (d.mono t.bel.size),t.hh,t.a.all d,t.res.all d,t.rb.all d,t.bits.below d,t.new,t.len,t.l.below d,t.off⟩
theorem kV.start{w d:World}{r c n cap:Nat}{ao:Option Addr}{S:List Nat}{f:Option Addr}{h:Nat}(l:Below w.heap.size w d)(y:aq d w.heap.size (.int .i64 r) (.int .i64 c) (.slice ao n cap))(m:aq d (w.heap.size+1) (.int .i64 0) (.int .i64 0) (.slice none 0 0))(t:ac d f h (ar S))(z:bH w.heap.size f (ar S))(A:S.length=n):
  kV w (d.alloc (.cells #[.int .i64 r,.int .i64 c,.slice f n h] 24)) d.heap.size r c n cap ao S f h (.slice none 0 0) []:=by
 have b:=ab d (.cells #[.int .i64 r,.int .i64 c,.slice f n h] 24)
 exact⟨l.trans (b.mono l.size),m.lt,y.all b,m.all b,aq.new d _ _ _,t.below b,z,A,bZ.start _ _,gD.old t (fun k D=>by simp[Value.ownBlock]at D)⟩
theorem vM(R:List Mr)(x:Mr):∀k,k<R.length+1→bQ (R++[x]) k=if k<R.length then bQ R k else x:=by
 intro k d
 unfold bQ
 by_cases g:k<R.length
 ·rw[if_pos g,List.getElem?_append_left g]
 ·rw[if_neg g,show k=R.length by omega,List.getElem?_append_right (Nat.le_refl _)]
  simp
def jv(K n:Nat)(w:World)(ro:Option Addr)(rc:Nat)(S:List Nat):Prop:=0<K→∃g,ro=some ⟨g,0,none⟩∧rc=n∧aY w g S
theorem jv.all{K n:Nat}{w d:World}{f:Option Addr}{l:Nat}{S:List Nat}(h:jv K n w f l S)(m:Below w.heap.size w d):jv K n d f l S:=fun t=>by
 obtain⟨g,e,y,q⟩:=h t
 exact⟨g,e,y,q.below m q.lt⟩
theorem jv.putM{K n:Nat}{w:World}{d:Option Addr}{f:Nat}{S:List Nat}(h:jv K n w d f S){b:Nat}{x y z:Value}(l:aq w b x y z)(u u' u'':Value):jv K n (((w.setCell ⟨b,0,none⟩ u).setCell ⟨b,1,none⟩ u').setCell ⟨b,2,none⟩ u'') d f S:=fun m=>by
 obtain⟨g,e,t,q⟩:=h m
 exact⟨g,e,t,q.three (tI q l) _ _ _⟩
def vN(w w':World)(ok:Bool)(r c n K:Nat)(S:List Nat)(V:Nat→List Nat)(tau:Nat→Nat)(e:Ending):Prop:=
 (ok=true∧∃ro rc v R,e=.returned (.tuple #[.agg #[.int .i64 r,.int .i64 c,.slice ro n rc],v,.int .i64 0])∧bH w.heap.size ro (ar S)∧ac w' ro rc (ar S)∧bZ (w.heap.size+1+1) w' v R∧R.length=K∧(∀k,k<K→(bQ R k).V=V k∧(bQ R k).tau=tau k)∧jv K n w' ro rc S)∨
 (ok=false∧e=.returned (.tuple #[.agg #[.int .i64 0,.int .i64 0,.slice none 0 0],.slice none 0 0,.int .i64 2]))
structure ms (w wr:World) (h r nq:Nat) (S:List Nat) (qo:Option Addr) (qc:Nat) (v:Value) (R:List Mr):Prop where
 bel:Below w.heap.size w wr
 hh:w.heap.size+1≤h
 res:aq wr w.heap.size (.int .i64 0) (.int .i64 0) (.slice none 0 0)
 qb:aq wr h (.int .i64 r) (.int .i64 r) (.slice qo nq qc)
 bits:ac wr qo qc (ar S)
 new:bH w.heap.size qo (ar S)
 len:S.length=nq
 l:bZ 0 wr v R
theorem ms.all{w wr f:World}{h r nq:Nat}{S:List Nat}{m:Option Addr}{y:Nat}{v:Value}{R:List Mr}(t:ms w wr h r nq S m y v R)(d:Below wr.heap.size wr f):ms w f h r nq S m y v R:=
 ⟨t.bel.trans (d.mono t.bel.size),t.hh,t.res.all d,t.qb.all d,t.bits.below d,t.new,t.len,t.l.below d⟩
theorem ms.put{w wr:World}{h r nq:Nat}{S U:List Nat}{m d:Option Addr}{y f:Nat}{v:Value}{R:List Mr}(t:ms w wr h r nq S m y v R)(z:ac wr d f (ar U))(A:bH w.heap.size d (ar U))(D:U.length=nq):
  ms w (((wr.setCell ⟨h,0,none⟩ (.int .i64 r)).setCell ⟨h,1,none⟩ (.int .i64 r)).setCell ⟨h,2,none⟩ (.slice d nq f)) h r nq U d f v R:=by
 have F:=t.hh
 have G:w.heap.size≠h:=by omega
 exact⟨ai t.bel (by omega) _ _ _,F,t.res.three14 G _ _ _,t.qb.put _ _ _,z.putM t.qb _ _ _,A,D,t.l.putQ t.qb _ _ _⟩
theorem ms.start{w d:World}{r nq:Nat}{S:List Nat}{f:Option Addr}{l:Nat}{v:Value}{R:List Mr}(h:Below (w.heap.size+1) (w.alloc (.cells #[.int .i64 0,.int .i64 0,.slice none 0 0] 24)) d)(A:ac d f l (ar S))(D:bH w.heap.size f (ar S))(F:S.length=nq)(G:bZ 0 w v R):
  ms w (d.alloc (.cells #[.int .i64 r,.int .i64 r,.slice f nq l] 24)) d.heap.size r nq S f l v R:=by
 have m:=ab w (.cells #[.int .i64 0,.int .i64 0,.slice none 0 0] 24)
 have t:=ad w (.cells #[.int .i64 0,.int .i64 0,.slice none 0 0] 24)
 have H:=aq.new w (.int .i64 0) (.int .i64 0) (.slice none 0 0)
 rw[←t]at h
 have b:=ab d (.cells #[.int .i64 r,.int .i64 r,.slice f nq l] 24)
 have y:=m.trans (h.mono m.size)
 have z:=h.size
 rw[t]at z
 exact⟨y.trans (b.mono y.size),z,(H.all h).all b,aq.new d _ _ _,A.below b,D,F,((G.below m).below h).below b⟩
theorem bZ.apart{d:Nat}{w:World}{b l m:Nat}{R:List Mr}(h:bZ d w (.slice (some ⟨b,0,none⟩) l m) R){g:Nat}{x y z:Value}(t:aq w g x y z):b≠g:=by
 rcases h.1.2 with⟨e,_⟩|⟨k,cap,A,f,F,D,rest⟩
 ·cases e
 ·simp only[Value.slice.injEq,Option.some.injEq,Addr.mk.injEq]at f
  obtain⟨⟨rfl,_⟩,_⟩:=f
  rintro rfl
  have e:=D.symm.trans t
  simp at e
theorem vO(r nq K lc:Nat)(lo:Option Addr)(V O:Nat→List Nat)(aj:Nat→Nat)(R:List Mr)(w:World)(bm:nq≤36)(bn:K≤6)(hl:bZ 0 w (.slice lo K lc) R)(ak:R.length=K)(am:∀k,k<K→(bQ R k).V=V k∧(bQ R k).tau=aj k)
  (lQ:∀t,(O t).length=nq) (lV:∀j,(V j).length=r-j)
  (C1:∀y,Calls Tryz.prog 149 #[.int .i64 r] y fun e F=>∃z D,e=.returned (.tuple #[.agg #[.int .i64 r,.int .i64 r,.slice z nq D],.int .i64 0])∧bH y.heap.size z (ar (O 0))∧ac F z D (ar (O 0))∧Below y.heap.size y F)
  (C2:∀y t j po pc X Y,t<K→j=K-1-t→Below w.heap.size w y→ac y po pc (ar (O t))→ac y X Y (ar (V j))→Calls Tryz.prog 213 #[.agg #[.int .i64 r,.int .i64 r,.slice po nq pc],.int .i64 (j:Nat),.int .i64 0,.slice X (r-j) Y,.int .u64 (aj j:Nat)] y fun e F=>∃z D,e=.returned (.tuple #[.agg #[.int .i64 r,.int .i64 r,.slice z nq D],.int .i64 0])∧bH y.heap.size z (ar (O (t+1)))∧ac F z D (ar (O (t+1)))∧Below y.heap.size y F)
  (C3:∀y x,x<18446744073709551616→Calls Tryz.prog 111 #[.int .u64 (x:Nat)] y fun e F=>e=.returned (.bool (aC x))∧Below y.heap.size y F):
  Calls Tryz.prog 175 #[.int .i64 r,.slice lo K lc] w fun e y=>∃t z D,t≤K∧(t=K∨fu (ar (O t)) nq=false)∧e=.returned (.agg #[.int .i64 r,.int .i64 r,.slice z nq D])∧bH w.heap.size z (ar (O t))∧ac y z D (ar (O t))∧Below w.heap.size w y:=by
 have K1:=aa (C1 (w.alloc (.cells #[.int .i64 0,.int .i64 0,.slice none 0 0] 24)))
 simp only[ad]at K1
 have K2:=aa C2;have K3:=aa C3;have LQ:=aa lQ;have LV:=aa lV;have HL:=aa hl;have a3:=aa ak;have a4:=aa am
 have a5:IntKind.i64.wrap ((K:Int)-1)=(K:Int)-1:=aP _ (by omega)
 clear C1 C2 C3 lQ lV hl ak am
 go_enter Tryz.func175,Tryz.ntmps175
 go_wp2_with fail
 go_step3
 go_wp2_with fail
 refine(uH K1).mono ?_
 rintro e w1 ⟨z,D,rfl,hn,hq,Q⟩
 have U:=aa (ms.start (r:=r) (v:=.slice lo K lc) (R:=R) Q hq (hn.least (by omega)) (uH LQ 0) (uH HL))
 clear Q hq hn K1 HL
 go_wp2_with fail
 go_step3
 go_wp2_with fail
 generalize w1.heap.size=h at*
 go_loopg [7] K (fun g a wr=>∃(t:Nat) (z:Option Addr) (D:Nat),t+g=K∧a=.int .i64 ((K:Int)-1-(t:Int))∧Hid (ms w wr h r nq (O t) z D (.slice lo K lc) R))
 case atStart=>exact⟨0,z,D,by omega,by simp,U⟩
 case round=>
  clear U a5
  obtain⟨t,z,D,bv,rfl,H⟩:=hrel
  cases gk with
  |zero=>
   have a6:t=K:=by omega
   subst a6
   have hz:(t:Int)-1-(t:Int)= -1:=by omega
   rw[hz]
   have f:=uH H
   have q0:=f.qb.c0;have q1:=f.qb.c1;have q2:=f.qb.c2
   have s0:=f.res.c0;have s1:=f.res.c1;have s2:=f.res.c2
   have f0:=f.res.free 0;have f1:=f.res.free 1;have f2:=f.res.free 2
   have XP:=f.res.put (.int .i64 r) (.int .i64 r) (.slice z nq D)
   have z0:=XP.c0;have z1:=XP.c1;have z2:=XP.c2
   have BP:=aa (ai f.bel (b:=w.heap.size) (Nat.le_refl _) (.int .i64 r) (.int .i64 r) (.slice z nq D))
   have QB:=aa (f.bits.putM f.res (.int .i64 r) (.int .i64 r) (.slice z nq D))
   have HN:=aa f.new
   clear XP f H
   go_wp2_with fail
   try rw[Exit.noGoto_ret]
   exact bodyPost_ret (v:=.agg #[.int .i64 r,.int .i64 r,.slice z nq D]) (by simp[results,Tryz.results175,go_sem,z0,z1,z2]) rfl ⟨t,_,_,by omega,.inl rfl,rfl,uH HN,uH QB,uH BP⟩
  |succ g=>
   have a7:t<K:=by omega
   obtain⟨m,hm⟩:∃m,K-1-t=m:=⟨_,rfl⟩
   have a9:(K:Int)-1-(t:Int)=(m:Int):=by omega
   rw[a9]
   have bo:(m:Int)<(K:Int):=by omega
   obtain⟨I,cl,el,be,bi,L,M,kb⟩:=(uH H).l.at (k:=m) (by rw[uH a3];omega)
   simp only[Value.slice.injEq]at el
   obtain⟨rfl,bj,rfl⟩:=el
   clear bj be bi
   obtain⟨ev,et⟩:=uH a4 m (by omega)
   rw[ev]at L kb
   rw[et]at M
   rw[uH LV m]at L
   have GQ:=aa (fun y po pc X Y Q hp hv=>uH K2 y t m po pc X Y a7 hm.symm Q hp hv)
   have KB:=aa kb
   have LN:=aa (uH LQ (t+1))
   generalize (bQ R m).ao=X at*
   generalize (bQ R m).cap=Y at*
   generalize aj m=tm at*
   generalize V m=vm at*
   generalize ae:O (t+1)=nt at*
   clear kb ev et
   go_wp2_with fail
   refine au (fun W=>ms w W h r nq (O t) z D (.slice (some ⟨I,0,none⟩) K lc) R∧(W.cell? ⟨I,m*2,none⟩=some (.slice X (r-m) Y)∧W.cell? ⟨I,m*2+1,none⟩=some (.int .u64 (tm:Nat)))∧ac W X Y (ar vm)) ⟨uH H,⟨L,M⟩,uH KB⟩ ?_
   clear H L M KB
   rintro W ⟨st,⟨L,M⟩,kb⟩
   have hd:=(Below.refl W.heap.size W).drew
   have U:=aa (st.all hd);have KB:=aa (kb.below hd)
   replace L:=ah L hd
   replace M:=ah M hd
   clear st kb hd
   have q0:=(uH U).qb.c0;have q1:=(uH U).qb.c1;have q2:=(uH U).qb.c2
   refine wp_region_held_drew (S:=(fun y=>y.cell? ⟨I,m*2,none⟩=some (.slice X (r-m) Y)∧y.cell? ⟨I,m*2+1,none⟩=some (.int .u64 (tm:Nat)))) (by kernel_rfl) ?_ (fun G=>?_)
   ·exact⟨L,M⟩
   refine wpAnyH_take (i:=1) (oi:={dst:=some 24,op:=Op.move (Operand.tmp 7),type:=3,pos:= "mirrors.go:42",after:=#[],guard:=none}) (v:=(Value.int .i64 (m:Int))) rfl (by kernel_rfl) (by kernel_rfl) (by kernel_rfl) (fun _ _ _ h=>h) (Or.inl ⟨by rfl,?_⟩) (by assumption) ?_
   ·(intro w d;(try dsimp only at d);go_simp)
   simp only[Act.put,List.setIfInBounds_toArray,List.set_cons_zero,List.set_cons_succ]
   refine wpAnyH_take (i:=2) (oi:={dst:=some 25,op:=Op.move (Operand.tmp 1),type:=168,pos:= "mirrors.go:42",after:=#[],guard:=none}) (v:=(Value.slice (some ⟨I,0,none⟩) K lc)) rfl (by kernel_rfl) (by kernel_rfl) (by kernel_rfl) (fun _ _ _ h=>h) (Or.inl ⟨by rfl,?_⟩) (by assumption) ?_
   ·(intro w d;(try dsimp only at d);go_simp)
   simp only[Act.put,List.setIfInBounds_toArray,List.set_cons_zero,List.set_cons_succ]
   refine wpAnyH_take (i:=3) (oi:={dst:=some 26,op:=Op.move (Operand.tmp 7),type:=3,pos:= "mirrors.go:42",after:=#[],guard:=none}) (v:=(Value.int .i64 (m:Int))) rfl (by kernel_rfl) (by kernel_rfl) (by kernel_rfl) (fun _ _ _ h=>h) (Or.inl ⟨by rfl,?_⟩) (by assumption) ?_
   ·(intro w d;(try dsimp only at d);go_simp)
   simp only[Act.put,List.setIfInBounds_toArray,List.set_cons_zero,List.set_cons_succ]
   refine wpAnyH_take (i:=4) (oi:={dst:=some 27,op:=Op.indexAddr 168 (Operand.tmp 25) (Operand.tmp 26),type:=0,pos:= "mirrors.go:42",after:=#[{on:=2,ground:=Ground.data},{on:=3,ground:=Ground.data}],guard:=none}) (v:=(Value.pointer (some ⟨I,m*2,none⟩))) rfl (by kernel_rfl) (by kernel_rfl) (by kernel_rfl) (fun _ _ _ h=>h) (Or.inl ⟨by rfl,?_⟩) (by assumption) ?_
   ·(intro w d;(try dsimp only at d);go_simp)
   simp only[Act.put,List.setIfInBounds_toArray,List.set_cons_zero,List.set_cons_succ]
   refine wpAnyH_take (i:=5) (oi:={dst:=some 28,op:=Op.fieldAddr 201 (Operand.tmp 27) 0,type:=0,pos:= "mirrors.go:42",after:=#[{on:=4,ground:=Ground.data}],guard:=none}) (v:=(Value.pointer (some ⟨I,m*2,none⟩))) rfl (by kernel_rfl) (by kernel_rfl) (by kernel_rfl) (fun _ _ _ h=>h) (Or.inl ⟨by rfl,?_⟩) (by assumption) ?_
   ·(intro w d;(try dsimp only at d);go_simp)
   simp only[Act.put,List.setIfInBounds_toArray,List.set_cons_zero,List.set_cons_succ]
   refine wpAnyH_take (i:=6) (oi:={dst:=some 29,op:=Op.load 22 (Operand.tmp 28),type:=22,pos:= "mirrors.go:42",after:=#[{on:=5,ground:=Ground.data}],guard:=none}) (v:=(Value.slice X (r-m) Y)) rfl (by kernel_rfl) (by kernel_rfl) (by kernel_rfl) (fun _ _ _ h=>h) (Or.inl ⟨by rfl,?_⟩) (by assumption) ?_
   ·(intro w d;(try dsimp only at d);go_simp)
   simp only[Act.put,List.setIfInBounds_toArray,List.set_cons_zero,List.set_cons_succ]
   refine wpAnyH_take (i:=7) (oi:={dst:=some 30,op:=Op.move (Operand.tmp 1),type:=168,pos:= "mirrors.go:42",after:=#[],guard:=none}) (v:=(Value.slice (some ⟨I,0,none⟩) K lc)) rfl (by kernel_rfl) (by kernel_rfl) (by kernel_rfl) (fun _ _ _ h=>h) (Or.inl ⟨by rfl,?_⟩) (by assumption) ?_
   ·(intro w d;(try dsimp only at d);go_simp)
   simp only[Act.put,List.setIfInBounds_toArray,List.set_cons_zero,List.set_cons_succ]
   refine wpAnyH_take (i:=8) (oi:={dst:=some 31,op:=Op.move (Operand.tmp 7),type:=3,pos:= "mirrors.go:42",after:=#[],guard:=none}) (v:=(Value.int .i64 (m:Int))) rfl (by kernel_rfl) (by kernel_rfl) (by kernel_rfl) (fun _ _ _ h=>h) (Or.inl ⟨by rfl,?_⟩) (by assumption) ?_
   ·(intro w d;(try dsimp only at d);go_simp)
   simp only[Act.put,List.setIfInBounds_toArray,List.set_cons_zero,List.set_cons_succ]
   refine wpAnyH_take (i:=9) (oi:={dst:=some 32,op:=Op.indexAddr 168 (Operand.tmp 30) (Operand.tmp 31),type:=0,pos:= "mirrors.go:42",after:=#[{on:=7,ground:=Ground.data},{on:=8,ground:=Ground.data}],guard:=none}) (v:=(Value.pointer (some ⟨I,m*2,none⟩))) rfl (by kernel_rfl) (by kernel_rfl) (by kernel_rfl) (fun _ _ _ h=>h) (Or.inl ⟨by rfl,?_⟩) (by assumption) ?_
   ·(intro w d;(try dsimp only at d);go_simp)
   simp only[Act.put,List.setIfInBounds_toArray,List.set_cons_zero,List.set_cons_succ]
   refine wpAnyH_take (i:=10) (oi:={dst:=some 33,op:=Op.fieldAddr 201 (Operand.tmp 32) 1,type:=0,pos:= "mirrors.go:42",after:=#[{on:=9,ground:=Ground.data}],guard:=none}) (v:=(Value.pointer (some ⟨I,m*2+1,none⟩))) rfl (by kernel_rfl) (by kernel_rfl) (by kernel_rfl) (fun _ _ _ h=>h) (Or.inl ⟨by rfl,?_⟩) (by assumption) ?_
   ·(intro w d;(try dsimp only at d);go_simp)
   simp only[Act.put,List.setIfInBounds_toArray,List.set_cons_zero,List.set_cons_succ]
   refine wpAnyH_take (i:=11) (oi:={dst:=some 34,op:=Op.load 37 (Operand.tmp 33),type:=37,pos:= "mirrors.go:42",after:=#[{on:=10,ground:=Ground.data}],guard:=none}) (v:=(Value.int .u64 (tm:Int))) rfl (by kernel_rfl) (by kernel_rfl) (by kernel_rfl) (fun _ _ _ h=>h) (Or.inl ⟨by rfl,?_⟩) (by assumption) ?_
   ·(intro w d;(try dsimp only at d);go_simp)
   simp only[Act.put,List.setIfInBounds_toArray,List.set_cons_zero,List.set_cons_succ]
   refine wpAnyH_ready (rs:=[0]) (by kernel_rfl) (by simp) ?_
   refine AllReadyH.cons (o:={dst:=some 23,op:=Op.load 24 (Operand.tmp 5),type:=24,pos:= "mirrors.go:42",after:=#[],guard:=none}) rfl (fun KK hK=>?_) AllReadyH.nil
   go_simp
   refine hK.out _ _ ?_ (fun G=>?_)
   ·exact⟨L,M⟩
   clear hK KK
   refine wpAnyH_ready (rs:=[12]) (by kernel_rfl) (by simp) ?_
   refine AllReadyH.cons (o:={dst:=some 35,op:=Op.call {callee:=Callee.value (Operand.func 213),args:=#[Operand.tmp 23,Operand.tmp 24,Operand.const (Value.int IntKind.i64 0),Operand.tmp 29,Operand.tmp 34],argTypes:=#[24,3,3,22,37]},type:=26,pos:= "mirrors.go:42",after:=#[{on:=0,ground:=Ground.data},{on:=1,ground:=Ground.data},{on:=6,ground:=Ground.data},{on:=11,ground:=Ground.data}],guard:=none}) rfl (fun KK hK=>?_) AllReadyH.nil
   go_simp
   refine(uH GQ _ _ _ _ _ (uH U).bel (uH U).bits (uH KB)).mono ?_
   rintro e w5 ⟨N,A,rfl,a1,a2,Q⟩
   clear q0 q1 q2
   have Z:=(uH U).all Q
   replace L:=ah L Q
   replace M:=ah M Q
   have ax:=aa (And.intro L M)
   have ha:=Z.l.apart Z.qb
   have aI:=aa (And.intro (show(((w5.setCell ⟨h,0,none⟩ (.int .i64 r)).setCell ⟨h,1,none⟩ (.int .i64 r)).setCell ⟨h,2,none⟩ (.slice N nq A)).cell? ⟨I,m*2,none⟩=some (.slice X (r-m) Y) by rw[ap _ _ _ _ ha,ap _ _ _ _ ha,ap _ _ _ _ ha];exact L) (show(((w5.setCell ⟨h,0,none⟩ (.int .i64 r)).setCell ⟨h,1,none⟩ (.int .i64 r)).setCell ⟨h,2,none⟩ (.slice N nq A)).cell? ⟨I,m*2+1,none⟩=some (.int .u64 (tm:Nat)) by rw[ap _ _ _ _ ha,ap _ _ _ _ ha,ap _ _ _ _ ha];exact M))
   have q0:=Z.qb.c0;have q1:=Z.qb.c1;have q2:=Z.qb.c2
   have f0:=Z.qb.free 0;have f1:=Z.qb.free 1;have f2:=Z.qb.free 2
   have P5:=aa (Z.put a2 (a1.least (uH U).bel.size) (uH LN))
   clear Q a2 a1 Z GQ U KB ha L M
   go_wp2_with fail
   refine hK.out _ _ ?_ (fun G=>?_)
   ·exact uH ax
   clear hK KK
   refine wpAnyH_take (i:=13) (oi:={dst:=some 22,op:=Op.move (Operand.tmp 35),type:=26,pos:= "mirrors.go:42",after:=#[{on:=12,ground:=Ground.data}],guard:=none}) (v:=(Value.tuple #[(Value.agg #[.int .i64 (r:Int),.int .i64 (r:Int),.slice N nq A]),.int .i64 0])) rfl (by kernel_rfl) (by kernel_rfl) (by kernel_rfl) (fun _ _ _ h=>h) (Or.inl ⟨by rfl,?_⟩) (by assumption) ?_
   ·(intro w d;(try dsimp only at d);go_simp)
   simp only[Act.put,List.setIfInBounds_toArray,List.set_cons_zero,List.set_cons_succ]
   refine wpAnyH_take (i:=14) (oi:={dst:=some 36,op:=Op.extract (Operand.tmp 22) 0,type:=24,pos:= "mirrors.go:42",after:=#[{on:=13,ground:=Ground.data}],guard:=none}) (v:=(Value.agg #[.int .i64 (r:Int),.int .i64 (r:Int),.slice N nq A])) rfl (by kernel_rfl) (by kernel_rfl) (by kernel_rfl) (fun _ _ _ h=>h) (Or.inl ⟨by rfl,?_⟩) (by assumption) ?_
   ·(intro w d;(try dsimp only at d);go_simp)
   simp only[Act.put,List.setIfInBounds_toArray,List.set_cons_zero,List.set_cons_succ]
   refine wpAnyH_take (i:=15) (oi:={dst:=some 37,op:=Op.extract (Operand.tmp 22) 1,type:=25,pos:= "mirrors.go:42",after:=#[{on:=13,ground:=Ground.data},{on:=16,ground:=Ground.gcOnly Departure.lateStores}],guard:=none}) (v:=(Value.int .i64 0)) rfl (by kernel_rfl) (by kernel_rfl) (by kernel_rfl) (fun _ _ _ h=>h) (Or.inl ⟨by rfl,?_⟩) (by assumption) ?_
   ·(intro w d;(try dsimp only at d);go_simp)
   simp only[Act.put,List.setIfInBounds_toArray,List.set_cons_zero,List.set_cons_succ]
   refine wpAnyH_ready (rs:=[16]) (by kernel_rfl) (by simp) ?_
   refine AllReadyH.cons (o:={dst:=none,op:=Op.store 24 (Operand.tmp 5) (Operand.tmp 36),type:=0,pos:= "mirrors.go:42",after:=#[{on:=14,ground:=Ground.data},{on:=12,ground:=Ground.chain},{on:=0,ground:=Ground.phase},{on:=1,ground:=Ground.phase},{on:=2,ground:=Ground.phase},{on:=3,ground:=Ground.phase},{on:=4,ground:=Ground.phase},{on:=5,ground:=Ground.phase},{on:=6,ground:=Ground.phase},{on:=7,ground:=Ground.phase},{on:=8,ground:=Ground.phase},{on:=9,ground:=Ground.phase},{on:=10,ground:=Ground.phase},{on:=11,ground:=Ground.phase},{on:=12,ground:=Ground.phase},{on:=13,ground:=Ground.phase},{on:=14,ground:=Ground.phase},{on:=15,ground:=Ground.textOnly Departure.lateStores}],guard:=none}) rfl (fun KK hK=>?_) AllReadyH.nil
   go_simp
   refine hK.out _ _ ?_ (fun G=>?_)
   ·exact uH aI
   clear hK KK
   refine wpAnyH_done (by kernel_rfl) ?_ _
   clear q0 q1 q2 f0 f1 f2 ax aI
   have z2:=(uH P5).qb.c2
   go_wp2_with fail
   clear z2
   go_loopg [41] nq (fun g2 a wr=>∃i:Nat,i+g2=nq∧a=.int .i64 i∧Hid (∀k,k<i→aC (aM (ar nt) k)=true)∧Hid (ms w wr h r nq nt N A (.slice (some ⟨I,0,none⟩) K lc) R))
   case atStart=>exact⟨0,by omega,rfl,fun k hk=>absurd hk (Nat.not_lt_zero k),by first|exact P5|exact aa (uH P5)⟩
   case round=>
    clear P5
    obtain⟨i,bw,rfl,hF,H⟩:=hrel
    cases gk with
    |zero=>
     have bq:¬((i:Int)<(nq:Int)):=by omega
     have br:IntKind.i64.wrap ((m:Int)-1)=(m:Int)-1:=aP _ (by omega)
     go_wp2_with fail
     go_roundg g
     case measure=>omega
     case rel=>exact⟨t+1,N,A,by omega,by rw[show(m:Int)-1=(K:Int)-1-((t+1:Nat):Int) by omega],by rw[ae];exact H⟩
    |succ g2=>
     have bt:(i:Int)<(nq:Int):=by omega
     obtain⟨b5,o5,rfl,_,a0⟩:=(uH H).bits.ne (by rw[al,(uH H).len];omega)
     have c5:=a0 i (by rw[al,(uH H).len];omega)
     have hx:=(uH H).bits.lt i
     have ec:(ar nt)[i]?.getD 0=(aM (ar nt) i:Int):=((uH H).bits.wf i).1
     have ba:=aa (fun(e:aC (aM (ar nt) i)=true)=>(show∀k,k<i+1→aC (aM (ar nt) k)=true from fun k hk=>by
      rcases Nat.lt_or_ge k i with g|g
      ·exact uH hF k g
      ·rw[show k=i by omega];exact e))
     have bb:=aa (fun(e:aC (aM (ar nt) i)=false)=>Cm (ar nt) nq i (by omega) e)
     have KX:=aa (fun y=>uH K3 y _ hx)
     generalize aM (ar nt) i=x at*
     clear hx a0 ec
     go_wp2_with fail
     clear c5
     refine(uH KX _).mono ?_
     rintro e w6 ⟨rfl,Q⟩
     have S6:=aa ((uH H).all Q)
     clear Q H KX
     cases hfx:aC x with
     |true=>
      go_wp2_with fail
      go_roundg g2
      case measure=>omega
      case rel=>exact⟨i+1,by omega,by go_num,aa (uH ba hfx),S6⟩
     |false=>
      have f:=uH S6
      have bc:=aa (uH bb hfx)
      have q0:=f.qb.c0;have q1:=f.qb.c1;have q2:=f.qb.c2
      have s0:=f.res.c0;have s1:=f.res.c1;have s2:=f.res.c2
      have f0:=f.res.free 0;have f1:=f.res.free 1;have f2:=f.res.free 2
      have XP:=f.res.put (.int .i64 r) (.int .i64 r) (.slice (some ⟨b5,o5,none⟩) nq A)
      have z0:=XP.c0;have z1:=XP.c1;have z2:=XP.c2
      have BP:=aa (ai f.bel (b:=w.heap.size) (Nat.le_refl _) (.int .i64 r) (.int .i64 r) (.slice (some ⟨b5,o5,none⟩) nq A))
      have QB:=aa (f.bits.putM f.res (.int .i64 r) (.int .i64 r) (.slice (some ⟨b5,o5,none⟩) nq A))
      have HN:=aa f.new
      clear XP f S6
      go_wp2_with fail
      try rw[Exit.noGoto_ret]
      exact bodyPost_ret (v:=.agg #[.int .i64 r,.int .i64 r,.slice (some ⟨b5,o5,none⟩) nq A]) (by simp[results,Tryz.results175,go_sem,z0,z1,z2]) rfl ⟨t+1,_,_,by omega,.inr (by rw[ae];exact uH bc),rfl,by rw[ae];exact uH HN,by rw[ae];exact uH QB,uH BP⟩
theorem bF{w:World}{b g j:Nat}{u u' u'' v:Value}(d:b≠g)(h:w.cell? ⟨b,j,none⟩=some v):(((w.setCell ⟨g,0,none⟩ u).setCell ⟨g,1,none⟩ u').setCell ⟨g,2,none⟩ u'').cell? ⟨b,j,none⟩=some v:=by
 rw[ap _ _ _ _ d,ap _ _ _ _ d,ap _ _ _ _ d]
 exact h
theorem bL{w:World}{a:Addr}{v:Value}(h:w.cell? a=some v):w.drew.cell? a=some v:=h
theorem aB{w:World}{b g j:Nat}{u u' u'' v:Value}(d:b≠g)(h:w.cell? ⟨b,j,none⟩=some v):(((w.setCell ⟨g,0,none⟩ u).setCell ⟨g,1,none⟩ u').setCell ⟨g,2,none⟩ u'').drew.cell? ⟨b,j,none⟩=some v:=bL (bF d h)
structure ow (w wr:World) (x y:Int) (ao:Option Addr) (n cap:Nat):Prop where
 bel:Below w.heap.size w wr
 a:aq wr w.heap.size (.int .i64 x) (.int .i64 y) (.slice ao n cap)
 r1:aq wr (w.heap.size+1) (.int .i64 0) (.int .i64 0) (.slice none 0 0)
 r2:aq wr (w.heap.size+1+1) (.int .i64 0) (.int .i64 0) (.slice none 0 0)
theorem ow.all{w wr f:World}{x y:Int}{ao:Option Addr}{n cap:Nat}(t:ow w wr x y ao n cap)(d:Below wr.heap.size wr f):ow w f x y ao n cap:=⟨t.bel.trans (d.mono t.bel.size),t.a.all d,t.r1.all d,t.r2.all d⟩
theorem ow.start(w:World)(x y:Int)(ao:Option Addr)(n cap:Nat):ow w (((w.alloc (.cells #[.int .i64 x,.int .i64 y,.slice ao n cap] 24)).alloc (.cells #[.int .i64 0,.int .i64 0,.slice none 0 0] 24)).alloc (.cells #[.int .i64 0,.int .i64 0,.slice none 0 0] 24)) x y ao n cap:=by
 obtain⟨d,f,h,l⟩:=qY w (.int .i64 x) (.int .i64 y) (.slice ao n cap) (.int .i64 0) (.int .i64 0) (.slice none 0 0) (.int .i64 0) (.int .i64 0) (.slice none 0 0) _ (Below.refl _ _)
 exact⟨d,f,h,l⟩
theorem Iz(r c:Int)(ao:Option Addr)(n cap:Nat)(er:Int)(w:World)(y:er=1∨er=4)
  (A:∀d,Below w.heap.size w d→Calls Tryz.prog 56 #[.agg #[.int .i64 r,.int .i64 c,.slice ao n cap]] d fun e z=>e=.returned (.int .i64 er)∧Below d.heap.size d z):
  Calls Tryz.prog 124 #[.agg #[.int .i64 r,.int .i64 c,.slice ao n cap]] w fun e d=>∃v u,e=.returned (.tuple #[v,u,.int .i64 er])∧aS w.heap.size d 0 0 [] v∧aS w.heap.size d 0 0 [] u∧Below w.heap.size w d:=by
 have l:=aa (ow.start w r c ao n cap)
 have D:=aa (A _ (uH l).bel)
 clear A
 rcases y with rfl|rfl
 all_goals
  go_enter Tryz.func124,Tryz.ntmps124
  go_wp2_with fail
  refine(uH D).mono ?_
  rintro e w1 ⟨rfl,H⟩
  replace l:=aa ((uH l).all H)
  clear H D
  have f:=(uH l).r1;have F:=(uH l).r2
  have O:=f.c0;have Q:=f.c1;have U:=f.c2
  have V:=f.free 0;have X:=f.free 1;have Y:=f.free 2
  have G:=f.put (.int .i64 0) (.int .i64 0) (.slice none 0 0)
  have h:=F.three14 (g:=w.heap.size+1) (by omega) (.int .i64 0) (.int .i64 0) (.slice none 0 0)
  have Z:=h.c0;have s4:=h.c1;have s5:=h.c2
  have f3:=h.free 0;have f4:=h.free 1;have f5:=h.free 2
  have m:=G.three14 (g:=w.heap.size+1+1) (by omega) (.int .i64 0) (.int .i64 0) (.slice none 0 0)
  have t:=h.put (.int .i64 0) (.int .i64 0) (.slice none 0 0)
  have I:=m.c0;have z1:=m.c1;have z2:=m.c2;have K:=t.c0;have L:=t.c1;have M:=t.c2
  have N:=aa (ai (ai (uH l).bel (b:=w.heap.size+1) (by omega) (.int .i64 0) (.int .i64 0) (.slice none 0 0)) (b:=w.heap.size+1+1) (by omega) (.int .i64 0) (.int .i64 0) (.slice none 0 0))
  clear f F G h m t l
  go_wp2_with fail
  exact bodyPost_ret (v:=.tuple #[.agg #[.int .i64 0,.int .i64 0,.slice none 0 0],.agg #[.int .i64 0,.int .i64 0,.slice none 0 0],.int .i64 _]) (by simp[results,Tryz.results124,go_sem,I,z1,z2,K,L,M]) rfl ⟨_,_,rfl,aS.zero _ _,aS.zero _ _,uH N⟩
def rk(w w':World)(r c n nq K:Nat)(Q S:List Nat)(e:Ending):Prop:=
 ∃qo qc ro rc,e=.returned (.tuple #[.agg #[.int .i64 r,.int .i64 r,.slice qo nq qc],.agg #[.int .i64 r,.int .i64 c,.slice ro n rc],.int .i64 0])∧bH w.heap.size qo (ar Q)∧ac w' qo qc (ar Q)∧bH w.heap.size ro (ar S)∧ac w' ro rc (ar S)∧jv K n w' ro rc S∧(0<K→∀g,ro=some ⟨g,0,none⟩→gD (some g) qo (ar Q))
theorem rk.two{w d:World}{r c n nq K:Nat}{Q S:List Nat}{e:Ending}(h:rk w d r c n nq K Q S e)(lQ:Q.length=nq)(f:S.length=n):∃v u,e=.returned (.tuple #[v,u,.int .i64 0])∧aS w.heap.size d r r Q v∧aS w.heap.size d r c S u:=by
 obtain⟨l,m,t,y,rfl,z,A,D,F,_,_⟩:=h
 exact⟨_,_,rfl,⟨l,m,by rw[lQ],z,A⟩,⟨t,y,by rw[f],D,F⟩⟩
theorem zh(r c n nq K cap:Nat)(ao:Option Addr)(S QF:List Nat)(V:Nat→List Nat)(a2:Nat→Nat)(ok fq fr:Bool)(w:World)(lS:S.length=n)(lQ:QF.length=nq)(ae:fu (ar QF) nq=fq)
  (C1:∀d,Below w.heap.size w d→Calls Tryz.prog 56 #[.agg #[.int .i64 r,.int .i64 c,.slice ao n cap]] d fun e F=>e=.returned (.int .i64 0)∧Below d.heap.size d F)
  (C2:∀d,Below w.heap.size w d→Calls Tryz.prog 174 #[.agg #[.int .i64 r,.int .i64 c,.slice ao n cap]] d fun e F=>vN d F ok r c n K S V a2 e∧Below d.heap.size d F)
  (C3:∀d lo lc R,Below w.heap.size w d→bZ 0 d (.slice lo K lc) R→R.length=K→(∀k,k<K→(bQ R k).V=V k∧(bQ R k).tau=a2 k)→Calls Tryz.prog 175 #[.int .i64 r,.slice lo K lc] d fun e F=>∃Q m y,(Q=QF∨(fu (ar Q) nq=false∧fq=false))∧Q.length=nq∧e=.returned (.agg #[.int .i64 r,.int .i64 r,.slice m nq y])∧bH d.heap.size m (ar Q)∧ac F m y (ar Q)∧Below d.heap.size d F)
  (C4:∀d Q m y,ac d m y (ar Q)→Q.length=nq→Calls Tryz.prog 153 #[.slice m nq y] d fun e F=>e=.returned (.bool (fu (ar Q) nq))∧Below d.heap.size d F)
  (C5:∀d A D,ac d A D (ar S)→Calls Tryz.prog 153 #[.slice A n D] d fun e F=>e=.returned (.bool fr)∧Below d.heap.size d F):
  Calls Tryz.prog 124 #[.agg #[.int .i64 r,.int .i64 c,.slice ao n cap]] w fun e d=>(((ok&&(fq&&fr))=true∧rk w d r c n nq K QF S e)∨((ok&&(fq&&fr))=false∧∃v u,e=.returned (.tuple #[v,u,.int .i64 2])∧aS w.heap.size d 0 0 [] v∧aS w.heap.size d 0 0 [] u))∧Below w.heap.size w d:=by
 have ST:=aa (ow.start w r c ao n cap)
 have K1:=aa (C1 _ (uH ST).bel);have K2:=aa C2;have K3:=aa C3;have K4:=aa C4;have K5:=aa C5;have LS:=aa lS;have LQ:=aa lQ;have am:=aa ae
 clear C1 C2 C3 C4 C5 lS lQ ae
 go_enter Tryz.func124,Tryz.ntmps124
 go_wp2_with fail
 refine(uH K1).mono ?_
 rintro e w1 ⟨rfl,z⟩
 replace ST:=aa ((uH ST).all z)
 clear z K1
 have y0:=(uH ST).a.c0;have y1:=(uH ST).a.c1;have y2:=(uH ST).a.c2
 go_wp2_with fail
 clear y0 y1 y2
 refine(uH K2 _ (uH ST).bel).mono ?_
 rintro e O ⟨a7,z⟩
 have t:=aa ((uH ST).all z)
 have HZ:=aa (show w.heap.size≤w1.heap.size from(uH ST).bel.size)
 clear z ST K2
 rcases a7 with⟨ak,A,D,v,R,rfl,hn,hq,hl,a1,bc,be⟩|⟨ak,rfl⟩
 ·obtain⟨lo,lc,a6⟩:=hl.slice
  rw[a1]at a6
  subst a6
  have X:=ab O (.cells #[.int .i64 r,.int .i64 c,.slice A n D] 24)
  have G:=aa (uH t).r2.lt
  have RB:=aa (aq.new O (.int .i64 r) (.int .i64 c) (.slice A n D))
  replace t:=aa ((uH t).all X)
  have HQ:=aa (hq.below X)
  have H:=aa (jv.all be X)
  have HN:=aa (hn.least (uH HZ))
  have HL:=aa ((hl.least (Nat.zero_le _)).below X)
  have bi:=aa a1;have bj:=aa bc;have bm:=aa ak
  clear X hq hn hl a1 bc ak HZ be
  have y0:=(uH t).a.c0
  go_wp2_with fail
  clear y0
  refine(uH K3 _ lo lc R (uH t).bel (uH HL) (uH bi) (uH bj)).mono ?_
  rintro e Z ⟨Q,m,y,hQ,lQ,rfl,hn,hq,z⟩
  have X:=ab Z (.cells #[.int .i64 r,.int .i64 r,.slice m nq y] 24)
  have I:=aa ((uH t).all z).r2.lt
  have QB:=aa (aq.new Z (.int .i64 r) (.int .i64 r) (.slice m nq y))
  have bn:=aa (hn.least (uH t).bel.size)
  have bo:=aa (show 0<K→∀g,A=some ⟨g,0,none⟩→gD (some g) m (ar Q)from fun hk g e=>gD.new hn (fun k ek=>by
   obtain⟨g',e',_,q⟩:=uH H hk
   rw[e']at e
   cases e
   cases ek
   exact q.lt))
  replace H:=aa (((uH H).all z).all X)
  replace t:=aa (((uH t).all z).all X)
  replace RB:=aa (((uH RB).all z).all X)
  replace HQ:=aa (((uH HQ).below z).below X)
  have L:=aa (hq.below X)
  have ax:=aa hQ;have bq:=aa lQ
  clear z X hn hq HL hQ lQ K3
  have y2:=(uH QB).c2
  go_wp2_with fail
  clear y2
  refine(uH K4 _ Q m y (uH L) (uH bq)).mono ?_
  rintro e w4 ⟨rfl,z⟩
  replace t:=aa ((uH t).all z)
  replace RB:=aa ((uH RB).all z)
  replace QB:=aa ((uH QB).all z)
  replace HQ:=aa ((uH HQ).below z)
  replace L:=aa ((uH L).below z)
  replace H:=aa ((uH H).all z)
  clear z K4
  cases hfQ:fu (ar Q) nq with
  |false=>
   have aj:Hid ((ok&&(fq&&fr))=false):=aa (by
    rcases uH ax with e|e
    ·rw[e,uH am]at hfQ
     rw[hfQ];cases ok<;>rfl
    ·rw[e.2];cases ok<;>rfl)
   clear RB QB HQ L
   have f:=(uH t).r1;have X2:=(uH t).r2
   have s0:=f.c0;have s1:=f.c1;have s2:=f.c2
   have f0:=f.free 0;have f1:=f.free 1;have f2:=f.free 2
   have Y1:=f.put (.int .i64 0) (.int .i64 0) (.slice none 0 0)
   have l:=X2.three14 (g:=w.heap.size+1) (by omega) (.int .i64 0) (.int .i64 0) (.slice none 0 0)
   have s3:=l.c0;have s4:=l.c1;have s5:=l.c2
   have f3:=l.free 0;have f4:=l.free 1;have f5:=l.free 2
   have M:=Y1.three14 (g:=w.heap.size+1+1) (by omega) (.int .i64 0) (.int .i64 0) (.slice none 0 0)
   have N:=l.put (.int .i64 0) (.int .i64 0) (.slice none 0 0)
   have z0:=M.c0;have z1:=M.c1;have z2:=M.c2;have z3:=N.c0;have z4:=N.c1;have z5:=N.c2
   have BP:=aa (ai (ai (uH t).bel (b:=w.heap.size+1) (by omega) (.int .i64 0) (.int .i64 0) (.slice none 0 0)) (b:=w.heap.size+1+1) (by omega) (.int .i64 0) (.int .i64 0) (.slice none 0 0))
   clear f X2 Y1 l M N t
   go_wp2_with fail
   exact bodyPost_ret (v:=.tuple #[.agg #[.int .i64 0,.int .i64 0,.slice none 0 0],.agg #[.int .i64 0,.int .i64 0,.slice none 0 0],.int .i64 2]) (by simp[results,Tryz.results124,go_sem,z0,z1,z2,z3,z4,z5]) rfl ⟨.inr ⟨uH aj,_,_,rfl,aS.zero _ _,aS.zero _ _⟩,uH BP⟩
  |true=>
   have br:Q=QF:=by
    rcases uH ax with e|e
    ·exact e
    ·rw[e.1]at hfQ;cases hfQ
   subst br
   have ae:fq=true:=by rw[←uH am];exact hfQ
   have y2:=(uH RB).c2
   go_wp2_with fail
   clear y2
   refine(uH K5 _ A D (uH HQ)).mono ?_
   rintro e w5 ⟨rfl,z⟩
   replace t:=aa ((uH t).all z)
   replace RB:=aa ((uH RB).all z)
   replace QB:=aa ((uH QB).all z)
   replace HQ:=aa ((uH HQ).below z)
   replace L:=aa ((uH L).below z)
   replace H:=aa ((uH H).all z)
   clear z K5
   cases hfr:fr with
   |false=>
    have aj:Hid ((ok&&(fq&&fr))=false):=aa (by rw[hfr];cases ok<;>cases fq<;>rfl)
    clear RB QB HQ L
    have f:=(uH t).r1;have X2:=(uH t).r2
    have s0:=f.c0;have s1:=f.c1;have s2:=f.c2
    have f0:=f.free 0;have f1:=f.free 1;have f2:=f.free 2
    have Y1:=f.put (.int .i64 0) (.int .i64 0) (.slice none 0 0)
    have l:=X2.three14 (g:=w.heap.size+1) (by omega) (.int .i64 0) (.int .i64 0) (.slice none 0 0)
    have s3:=l.c0;have s4:=l.c1;have s5:=l.c2
    have f3:=l.free 0;have f4:=l.free 1;have f5:=l.free 2
    have M:=Y1.three14 (g:=w.heap.size+1+1) (by omega) (.int .i64 0) (.int .i64 0) (.slice none 0 0)
    have N:=l.put (.int .i64 0) (.int .i64 0) (.slice none 0 0)
    have z0:=M.c0;have z1:=M.c1;have z2:=M.c2;have z3:=N.c0;have z4:=N.c1;have z5:=N.c2
    have BP:=aa (ai (ai (uH t).bel (b:=w.heap.size+1) (by omega) (.int .i64 0) (.int .i64 0) (.slice none 0 0)) (b:=w.heap.size+1+1) (by omega) (.int .i64 0) (.int .i64 0) (.slice none 0 0))
    clear f X2 Y1 l M N t
    go_wp2_with fail
    exact bodyPost_ret (v:=.tuple #[.agg #[.int .i64 0,.int .i64 0,.slice none 0 0],.agg #[.int .i64 0,.int .i64 0,.slice none 0 0],.int .i64 2]) (by simp[results,Tryz.results124,go_sem,z0,z1,z2,z3,z4,z5]) rfl ⟨.inr ⟨uH aj,_,_,rfl,aS.zero _ _,aS.zero _ _⟩,uH BP⟩
   |true=>
    have a3:Hid ((ok&&(fq&&fr))=true):=aa (by rw[uH bm,ae,hfr];rfl)
    clear hfQ am ax ae hfr
    go_wp2_with fail
    refine au (fun W=>ow w W r c ao n cap∧aq W O.heap.size (.int .i64 r) (.int .i64 c) (.slice A n D)∧aq W Z.heap.size (.int .i64 r) (.int .i64 r) (.slice m nq y)∧ac W A D (ar S)∧ac W m y (ar Q)∧jv K n W A D S) ⟨uH t,uH RB,uH QB,uH HQ,uH L,uH H⟩ ?_
    clear t RB QB HQ L H
    rintro W ⟨s2,rb,qb,hq,a9,bb⟩
    have t:=aa (s2)
    have y0:=(rb).c0;have y1:=(rb).c1;have y2:=(rb).c2
    have y3:=(qb).c0;have y4:=(qb).c1;have y5:=(qb).c2
    have Q1:=hq;have Q3:=a9
    clear s2 rb qb hq a9
    have f:=(uH t).r1;have X2:=(uH t).r2
    have s0:=f.c0;have s1:=f.c1;have s2:=f.c2
    have f0:=f.free 0;have f1:=f.free 1;have f2:=f.free 2
    have Y1:=f.put (.int .i64 r) (.int .i64 r) (.slice m nq y)
    have l:=X2.three14 (g:=w.heap.size+1) (by omega) (.int .i64 r) (.int .i64 r) (.slice m nq y)
    have s3:=l.c0;have s4:=l.c1;have s5:=l.c2
    have f3:=l.free 0;have f4:=l.free 1;have f5:=l.free 2
    have M:=Y1.three14 (g:=w.heap.size+1+1) (by omega) (.int .i64 r) (.int .i64 c) (.slice A n D)
    have N:=l.put (.int .i64 r) (.int .i64 c) (.slice A n D)
    have z0:=M.c0;have z1:=M.c1;have z2:=M.c2;have z3:=N.c0;have z4:=N.c1;have z5:=N.c2
    have BP:=aa (ai (ai (uH t).bel (b:=w.heap.size+1) (by omega) (.int .i64 r) (.int .i64 r) (.slice m nq y)) (b:=w.heap.size+1+1) (by omega) (.int .i64 r) (.int .i64 c) (.slice A n D))
    have PR:=aa ((Q1.putM f (.int .i64 r) (.int .i64 r) (.slice m nq y)).putM l (.int .i64 r) (.int .i64 c) (.slice A n D))
    have PW:=aa ((bb.putM f (.int .i64 r) (.int .i64 r) (.slice m nq y)).putM l (.int .i64 r) (.int .i64 c) (.slice A n D))
    have PQ:=aa ((Q3.putM f (.int .i64 r) (.int .i64 r) (.slice m nq y)).putM l (.int .i64 r) (.int .i64 c) (.slice A n D))
    clear f X2 Y1 l M N t Q1 Q3 bb
    have a4:=aa (show _∧_∧_∧_∧_∧_ from⟨bL y3,bL y4,bL y5,bL y0,bL y1,bL y2⟩)
    have Y:=aa (show _∧_∧_∧_∧_∧_ from⟨bF (u:=.int .i64 r) (u':=.int .i64 r) (u'':=.slice m nq y) (show Z.heap.size≠w.heap.size+1 by have:=uH I;omega) y3,bF (u:=.int .i64 r) (u':=.int .i64 r) (u'':=.slice m nq y) (show Z.heap.size≠w.heap.size+1 by have:=uH I;omega) y4,bF (u:=.int .i64 r) (u':=.int .i64 r) (u'':=.slice m nq y) (show Z.heap.size≠w.heap.size+1 by have:=uH I;omega) y5,bF (u:=.int .i64 r) (u':=.int .i64 r) (u'':=.slice m nq y) (show O.heap.size≠w.heap.size+1 by have:=uH G;omega) y0,bF (u:=.int .i64 r) (u':=.int .i64 r) (u'':=.slice m nq y) (show O.heap.size≠w.heap.size+1 by have:=uH G;omega) y1,bF (u:=.int .i64 r) (u':=.int .i64 r) (u'':=.slice m nq y) (show O.heap.size≠w.heap.size+1 by have:=uH G;omega) y2⟩)
    have a5:=aa (show _∧_∧_∧_∧_∧_ from⟨aB (u:=.int .i64 r) (u':=.int .i64 r) (u'':=.slice m nq y) (show Z.heap.size≠w.heap.size+1 by have:=uH I;omega) y3,aB (u:=.int .i64 r) (u':=.int .i64 r) (u'':=.slice m nq y) (show Z.heap.size≠w.heap.size+1 by have:=uH I;omega) y4,aB (u:=.int .i64 r) (u':=.int .i64 r) (u'':=.slice m nq y) (show Z.heap.size≠w.heap.size+1 by have:=uH I;omega) y5,aB (u:=.int .i64 r) (u':=.int .i64 r) (u'':=.slice m nq y) (show O.heap.size≠w.heap.size+1 by have:=uH G;omega) y0,aB (u:=.int .i64 r) (u':=.int .i64 r) (u'':=.slice m nq y) (show O.heap.size≠w.heap.size+1 by have:=uH G;omega) y1,aB (u:=.int .i64 r) (u':=.int .i64 r) (u'':=.slice m nq y) (show O.heap.size≠w.heap.size+1 by have:=uH G;omega) y2⟩)
    have aI:=aa (show _∧_∧_∧_∧_∧_ from⟨aB (u:=.int .i64 r) (u':=.int .i64 c) (u'':=.slice A n D) (show Z.heap.size≠w.heap.size+1+1 by have:=uH I;omega) (uH Y).1,aB (u:=.int .i64 r) (u':=.int .i64 c) (u'':=.slice A n D) (show Z.heap.size≠w.heap.size+1+1 by have:=uH I;omega) (uH Y).2.1,aB (u:=.int .i64 r) (u':=.int .i64 c) (u'':=.slice A n D) (show Z.heap.size≠w.heap.size+1+1 by have:=uH I;omega) (uH Y).2.2.1,aB (u:=.int .i64 r) (u':=.int .i64 c) (u'':=.slice A n D) (show O.heap.size≠w.heap.size+1+1 by have:=uH G;omega) (uH Y).2.2.2.1,aB (u:=.int .i64 r) (u':=.int .i64 c) (u'':=.slice A n D) (show O.heap.size≠w.heap.size+1+1 by have:=uH G;omega) (uH Y).2.2.2.2.1,aB (u:=.int .i64 r) (u':=.int .i64 c) (u'':=.slice A n D) (show O.heap.size≠w.heap.size+1+1 by have:=uH G;omega) (uH Y).2.2.2.2.2⟩)
    clear y0 y1 y2 y3 y4 y5
    refine wp_region_held_drew (S:=(fun d=>d.cell? ⟨Z.heap.size,0,none⟩=some (.int .i64 (r:Int))∧d.cell? ⟨Z.heap.size,1,none⟩=some (.int .i64 (r:Int))∧d.cell? ⟨Z.heap.size,2,none⟩=some (.slice m nq y)∧d.cell? ⟨O.heap.size,0,none⟩=some (.int .i64 (r:Int))∧d.cell? ⟨O.heap.size,1,none⟩=some (.int .i64 (c:Int))∧d.cell? ⟨O.heap.size,2,none⟩=some (.slice A n D))) (by kernel_rfl) ?_ (fun U=>?_)
    ·exact uH a4
    refine wpAnyH_take (i:=0) (oi:={dst:=some 44,op:=Op.load 24 (Operand.tmp 9),type:=24,pos:= "qr.go:25",after:=#[],guard:=none}) (v:=(Value.agg #[.int .i64 (r:Int),.int .i64 (r:Int),.slice m nq y])) rfl (by kernel_rfl) (by kernel_rfl) (by kernel_rfl) (fun _ _ _ h=>h) (Or.inl ⟨by rfl,?_⟩) (by assumption) ?_
    ·(intro w a0;(try dsimp only at a0);go_simp)
    simp only[Act.put,List.setIfInBounds_toArray,List.set_cons_zero,List.set_cons_succ]
    refine wpAnyH_take (i:=1) (oi:={dst:=some 45,op:=Op.load 24 (Operand.tmp 6),type:=24,pos:= "qr.go:25",after:=#[{on:=2,ground:=Ground.gcOnly Departure.lateStores}],guard:=none}) (v:=(Value.agg #[.int .i64 (r:Int),.int .i64 (c:Int),.slice A n D])) rfl (by kernel_rfl) (by kernel_rfl) (by kernel_rfl) (fun _ _ _ h=>h) (Or.inl ⟨by rfl,?_⟩) (by assumption) ?_
    ·(intro w a0;(try dsimp only at a0);go_simp)
    simp only[Act.put,List.setIfInBounds_toArray,List.set_cons_zero,List.set_cons_succ]
    refine wpAnyH_ready (rs:=[2]) (by kernel_rfl) (by simp) ?_
    refine AllReadyH.cons (o:={dst:=none,op:=Op.store 24 (Operand.tmp 2) (Operand.tmp 44),type:=0,pos:= "qr.go:25",after:=#[{on:=0,ground:=Ground.data},{on:=0,ground:=Ground.phase},{on:=1,ground:=Ground.textOnly Departure.lateStores}],guard:=none}) rfl (fun KK hK=>?_) AllReadyH.nil
    go_simp
    refine hK.out _ _ ?_ (fun U=>?_)
    ·exact uH a5
    clear hK KK
    refine wpAnyH_ready (rs:=[3]) (by kernel_rfl) (by simp) ?_
    refine AllReadyH.cons (o:={dst:=none,op:=Op.store 24 (Operand.tmp 3) (Operand.tmp 45),type:=0,pos:= "qr.go:25",after:=#[{on:=1,ground:=Ground.data},{on:=2,ground:=Ground.chain},{on:=0,ground:=Ground.phase},{on:=1,ground:=Ground.phase},{on:=2,ground:=Ground.phase}],guard:=none}) rfl (fun KK hK=>?_) AllReadyH.nil
    go_simp
    refine hK.out _ _ ?_ (fun U=>?_)
    ·exact uH aI
    clear hK KK
    refine wpAnyH_ready (rs:=[4]) (by kernel_rfl) (by simp) ?_
    refine AllReadyH.cons (o:={dst:=some 4,op:=Op.assign (Operand.const (Value.int IntKind.i64 0)),type:=25,pos:= "qr.go:25",after:=#[{on:=3,ground:=Ground.chain},{on:=0,ground:=Ground.phase},{on:=1,ground:=Ground.phase},{on:=2,ground:=Ground.phase},{on:=3,ground:=Ground.phase}],guard:=none}) rfl (fun KK hK=>?_) AllReadyH.nil
    go_simp
    refine hK.out _ _ ?_ (fun U=>?_)
    ·exact uH aI
    clear hK KK
    refine wpAnyH_done (by kernel_rfl) ?_ _
    clear a4 a5 aI Y
    go_wp2_with fail
    refine bodyPost_ret (v:=.tuple #[.agg #[.int .i64 r,.int .i64 r,.slice m nq y],.agg #[.int .i64 r,.int .i64 c,.slice A n D],.int .i64 0]) (by simp[results,Tryz.results124,go_sem,z0,z1,z2,z3,z4,z5]) rfl ⟨.inl ⟨uH a3,m,y,A,D,rfl,uH bn,(uH PQ).below (Below.refl _ _).drew,uH HN,(uH PR).below (Below.refl _ _).drew,(uH PW).all (Below.refl _ _).drew,uH bo⟩,(uH BP).drew⟩
 ·have aj:Hid ((ok&&(fq&&fr))=false):=aa (by rw[ak];rfl)
  have X:=ab O (.cells #[.int .i64 0,.int .i64 0,.slice none 0 0] 24)
  replace t:=aa ((uH t).all X)
  clear X ak HZ
  have f:=(uH t).r1;have X2:=(uH t).r2
  have s0:=f.c0;have s1:=f.c1;have s2:=f.c2
  have f0:=f.free 0;have f1:=f.free 1;have f2:=f.free 2
  have Y1:=f.put (.int .i64 0) (.int .i64 0) (.slice none 0 0)
  have l:=X2.three14 (g:=w.heap.size+1) (by omega) (.int .i64 0) (.int .i64 0) (.slice none 0 0)
  have s3:=l.c0;have s4:=l.c1;have s5:=l.c2
  have f3:=l.free 0;have f4:=l.free 1;have f5:=l.free 2
  have M:=Y1.three14 (g:=w.heap.size+1+1) (by omega) (.int .i64 0) (.int .i64 0) (.slice none 0 0)
  have N:=l.put (.int .i64 0) (.int .i64 0) (.slice none 0 0)
  have z0:=M.c0;have z1:=M.c1;have z2:=M.c2;have z3:=N.c0;have z4:=N.c1;have z5:=N.c2
  have BP:=aa (ai (ai (uH t).bel (b:=w.heap.size+1) (by omega) (.int .i64 0) (.int .i64 0) (.slice none 0 0)) (b:=w.heap.size+1+1) (by omega) (.int .i64 0) (.int .i64 0) (.slice none 0 0))
  clear f X2 Y1 l M N t
  go_wp2_with fail
  exact bodyPost_ret (v:=.tuple #[.agg #[.int .i64 0,.int .i64 0,.slice none 0 0],.agg #[.int .i64 0,.int .i64 0,.slice none 0 0],.int .i64 2]) (by simp[results,Tryz.results124,go_sem,z0,z1,z2,z3,z4,z5]) rfl ⟨.inr ⟨uH aj,_,_,rfl,aS.zero _ _,aS.zero _ _⟩,uH BP⟩
theorem Dm(r c:Int)(ao:Option Addr)(n cap:Nat)(er:Int)(w:World)(z:er=1∨er=4∨er=2)
  (A:∀d,Below w.heap.size w d→Calls Tryz.prog 124 #[.agg #[.int .i64 r,.int .i64 c,.slice ao n cap]] d fun e l=>∃v u,e=.returned (.tuple #[v,u,.int .i64 er])∧aS d.heap.size l 0 0 [] v∧aS d.heap.size l 0 0 [] u∧Below d.heap.size d l):
  Calls Tryz.prog 71 #[.agg #[.int .i64 r,.int .i64 c,.slice ao n cap]] w fun e d=>∃v u,e=.returned (.tuple #[v,u,.int .i64 er])∧aS w.heap.size d 0 0 [] v∧aS w.heap.size d 0 0 [] u∧Below w.heap.size w d:=by
 have m:=aa (ow.start w r c ao n cap)
 have D:=aa (A _ (uH m).bel)
 clear A
 rcases z with rfl|rfl|rfl
 all_goals
  go_enter Tryz.func71,Tryz.ntmps71
  go_wp2_with fail
  refine(uH D).mono ?_
  rintro e K ⟨v,u,rfl,⟨L,M,rfl,_,_⟩,⟨Y,Z,rfl,_,_⟩,N⟩
  simp only[List.length_nil]
  have F:=ab K (.cells #[.int .i64 0,.int .i64 0,.slice L 0 M] 24)
  have G:=ab (K.alloc (.cells #[.int .i64 0,.int .i64 0,.slice L 0 M] 24)) (.cells #[.int .i64 0,.int .i64 0,.slice Y 0 Z] 24)
  replace m:=aa ((((uH m).all N).all F).all G)
  clear N D F G
  have f:=(uH m).r1;have H:=(uH m).r2
  have s0:=f.c0;have s1:=f.c1;have s2:=f.c2
  have f0:=f.free 0;have f1:=f.free 1;have f2:=f.free 2
  have I:=f.put (.int .i64 0) (.int .i64 0) (.slice none 0 0)
  have h:=H.three14 (g:=w.heap.size+1) (by omega) (.int .i64 0) (.int .i64 0) (.slice none 0 0)
  have s3:=h.c0;have s4:=h.c1;have s5:=h.c2
  have f3:=h.free 0;have f4:=h.free 1;have f5:=h.free 2
  have t:=I.three14 (g:=w.heap.size+1+1) (by omega) (.int .i64 0) (.int .i64 0) (.slice none 0 0)
  have y:=h.put (.int .i64 0) (.int .i64 0) (.slice none 0 0)
  have O:=t.c0;have z1:=t.c1;have z2:=t.c2;have Q:=y.c0;have U:=y.c1;have V:=y.c2
  have X:=aa (ai (ai (uH m).bel (b:=w.heap.size+1) (by omega) (.int .i64 0) (.int .i64 0) (.slice none 0 0)) (b:=w.heap.size+1+1) (by omega) (.int .i64 0) (.int .i64 0) (.slice none 0 0))
  clear f H I h t y m
  go_wp2_with fail
  exact bodyPost_ret (v:=.tuple #[.agg #[.int .i64 0,.int .i64 0,.slice none 0 0],.agg #[.int .i64 0,.int .i64 0,.slice none 0 0],.int .i64 _]) (by simp[results,Tryz.results71,go_sem,O,z1,z2,Q,U,V]) rfl ⟨_,_,rfl,aS.zero _ _,aS.zero _ _,uH X⟩
theorem F3(r c n cap m n1 n2 z H:Nat)(ao:Option Addr)(Q R Q2 R2:List Nat)(w:World)(hm:(m:Int)=min (r:Int) (c:Int))(l1:Q.length=n1)(l2:R.length=n2)(l3:Q2.length=z)(l4:R2.length=H)
  (C1:∀f,Below w.heap.size w f→Calls Tryz.prog 124 #[.agg #[.int .i64 r,.int .i64 c,.slice ao n cap]] f fun e A=>∃v u,e=.returned (.tuple #[v,u,.int .i64 0])∧aS f.heap.size A r r Q v∧aS f.heap.size A r c R u∧Below f.heap.size f A)
  (C2:∀f Z qc,ac f Z qc (ar Q)→Calls Tryz.prog 125 #[.agg #[.int .i64 r,.int .i64 r,.slice Z n1 qc],.int .i64 0,.int .i64 0,.int .i64 r,.int .i64 m] f fun e A=>∃v,e=.returned (.tuple #[v,.int .i64 0])∧aS f.heap.size A r m Q2 v∧Below f.heap.size f A)
  (C3:∀f ro rc,ac f ro rc (ar R)→Calls Tryz.prog 125 #[.agg #[.int .i64 r,.int .i64 c,.slice ro n2 rc],.int .i64 0,.int .i64 0,.int .i64 m,.int .i64 c] f fun e A=>∃v,e=.returned (.tuple #[v,.int .i64 0])∧aS f.heap.size A m c R2 v∧Below f.heap.size f A):
  Calls Tryz.prog 71 #[.agg #[.int .i64 r,.int .i64 c,.slice ao n cap]] w fun e f=>∃v u,e=.returned (.tuple #[v,u,.int .i64 0])∧aS w.heap.size f r m Q2 v∧aS w.heap.size f m c R2 u∧Below w.heap.size w f:=by
 have ak:∀(W:World) ts t,(Builtin.min_ ts t #[.int .i64 (r:Int),.int .i64 (c:Int)]).run Tryz.prog W=.ok (.int .i64 (m:Int)) W:=fun W ts t=>by rw[hm];exact kJ _ W ts t _ _
 have K:=aa (ow.start w r c ao n cap)
 have K1:=aa (C1 _ (uH K).bel);have K2:=aa C2;have K3:=aa C3;have L1:=aa l1;have L2:=aa l2;have L3:=aa l3;have L4:=aa l4
 clear C1 C2 C3 l1 l2 l3 l4 hm
 go_enter Tryz.func71,Tryz.ntmps71
 go_wp2_with fail
 refine(uH K1).mono ?_
 rintro e w1 ⟨v,u,rfl,⟨Z,qc,rfl,_,V⟩,⟨ro,rc,rfl,_,hr⟩,O⟩
 rw[uH L1,uH L2]
 have b1:=ab w1 (.cells #[.int .i64 r,.int .i64 r,.slice Z n1 qc] 24)
 have s1:=ad w1 (.cells #[.int .i64 r,.int .i64 r,.slice Z n1 qc] 24)
 have b2:=ab (w1.alloc (.cells #[.int .i64 r,.int .i64 r,.slice Z n1 qc] 24)) (.cells #[.int .i64 r,.int .i64 c,.slice ro n2 rc] 24)
 have QB:=aa ((aq.new w1 (.int .i64 r) (.int .i64 r) (.slice Z n1 qc)).all b2)
 have RB:=aa (aq.new (w1.alloc (.cells #[.int .i64 r,.int .i64 r,.slice Z n1 qc] 24)) (.int .i64 r) (.int .i64 c) (.slice ro n2 rc))
 rw[s1]at RB
 replace K:=aa ((((uH K).all O).all b1).all b2)
 have HQ:=aa ((V.below b1).below b2)
 have HR:=aa ((hr.below b1).below b2)
 clear O b1 b2 s1 V hr K1
 have y0:=(uH K).a.c0;have y1:=(uH K).a.c1
 have q0:=(uH QB).c0;have q1:=(uH QB).c1;have q2:=(uH QB).c2
 go_wp2_with fail
 clear y0 y1 q0 q1 q2 ak
 refine(uH K2 _ Z qc (uH HQ)).mono ?_
 rintro e M ⟨v,rfl,⟨l,y,rfl,hn,V⟩,O⟩
 rw[uH L3]
 have U:=ab M (.cells #[.int .i64 r,.int .i64 m,.slice l z y] 24)
 have D:=aa ((uH K).all O).r2.lt
 have CB:=aa (aq.new M (.int .i64 r) (.int .i64 m) (.slice l z y))
 have a0:=aa (hn.least (uH K).bel.size)
 replace K:=aa (((uH K).all O).all U)
 replace RB:=aa (((uH RB).all O).all U)
 replace HR:=aa (((uH HR).below O).below U)
 have HC:=aa (V.below U)
 clear O U hn V K2 QB HQ
 have q0:=(uH RB).c0;have q1:=(uH RB).c1;have q2:=(uH RB).c2
 go_wp2_with fail
 clear q0 q1 q2
 refine(uH K3 _ ro rc (uH HR)).mono ?_
 rintro e N ⟨v,rfl,⟨d,G,rfl,hn,V⟩,O⟩
 rw[uH L4]
 have U:=ab N (.cells #[.int .i64 m,.int .i64 c,.slice d H G] 24)
 have F:=aa ((uH K).all O).r2.lt
 have TB:=aa (aq.new N (.int .i64 m) (.int .i64 c) (.slice d H G))
 have a1:=aa (hn.least (uH K).bel.size)
 replace K:=aa (((uH K).all O).all U)
 replace CB:=aa (((uH CB).all O).all U)
 replace HC:=aa (((uH HC).below O).below U)
 have HT:=aa (V.below U)
 clear O U hn V K3 RB HR
 go_wp2_with fail
 refine au (fun W=>ow w W r c ao n cap∧aq W M.heap.size (.int .i64 r) (.int .i64 m) (.slice l z y)∧aq W N.heap.size (.int .i64 m) (.int .i64 c) (.slice d H G)∧ac W l y (ar Q2)∧ac W d G (ar R2)) ⟨uH K,uH CB,uH TB,uH HC,uH HT⟩ ?_
 clear K CB TB HC HT
 rintro W ⟨s2,cb,tb,V,aI⟩
 have S2:=aa (s2)
 have y3:=(cb).c0;have y4:=(cb).c1;have y5:=(cb).c2
 have y0:=(tb).c0;have y1:=(tb).c1;have y2:=(tb).c2
 have Q1:=V;have Q3:=aI
 clear s2 cb tb V aI
 have X:=(uH S2).r1;have X2:=(uH S2).r2
 have s0:=X.c0;have s1:=X.c1;have s2:=X.c2
 have f0:=X.free 0;have f1:=X.free 1;have f2:=X.free 2
 have Y1:=X.put (.int .i64 r) (.int .i64 m) (.slice l z y)
 have Y:=X2.three14 (g:=w.heap.size+1) (by omega) (.int .i64 r) (.int .i64 m) (.slice l z y)
 have s3:=Y.c0;have s4:=Y.c1;have s5:=Y.c2
 have f3:=Y.free 0;have f4:=Y.free 1;have f5:=Y.free 2
 have Z1:=Y1.three14 (g:=w.heap.size+1+1) (by omega) (.int .i64 m) (.int .i64 c) (.slice d H G)
 have Z2:=Y.put (.int .i64 m) (.int .i64 c) (.slice d H G)
 have z0:=Z1.c0;have z1:=Z1.c1;have z2:=Z1.c2;have z3:=Z2.c0;have z4:=Z2.c1;have z5:=Z2.c2
 have BP:=aa (ai (ai (uH S2).bel (b:=w.heap.size+1) (by omega) (.int .i64 r) (.int .i64 m) (.slice l z y)) (b:=w.heap.size+1+1) (by omega) (.int .i64 m) (.int .i64 c) (.slice d H G))
 have PQ:=aa ((Q1.putM X (.int .i64 r) (.int .i64 m) (.slice l z y)).putM Y (.int .i64 m) (.int .i64 c) (.slice d H G))
 have PR:=aa ((Q3.putM X (.int .i64 r) (.int .i64 m) (.slice l z y)).putM Y (.int .i64 m) (.int .i64 c) (.slice d H G))
 clear X X2 Y1 Y Z1 Z2 S2 Q1 Q3
 have am:=aa (show _∧_∧_∧_∧_∧_ from⟨bL y3,bL y4,bL y5,bL y0,bL y1,bL y2⟩)
 have L:=aa (show _∧_∧_∧_∧_∧_ from⟨bF (u:=.int .i64 r) (u':=.int .i64 m) (u'':=.slice l z y) (show M.heap.size≠w.heap.size+1 by have:=uH D;omega) y3,bF (u:=.int .i64 r) (u':=.int .i64 m) (u'':=.slice l z y) (show M.heap.size≠w.heap.size+1 by have:=uH D;omega) y4,bF (u:=.int .i64 r) (u':=.int .i64 m) (u'':=.slice l z y) (show M.heap.size≠w.heap.size+1 by have:=uH D;omega) y5,bF (u:=.int .i64 r) (u':=.int .i64 m) (u'':=.slice l z y) (show N.heap.size≠w.heap.size+1 by have:=uH F;omega) y0,bF (u:=.int .i64 r) (u':=.int .i64 m) (u'':=.slice l z y) (show N.heap.size≠w.heap.size+1 by have:=uH F;omega) y1,bF (u:=.int .i64 r) (u':=.int .i64 m) (u'':=.slice l z y) (show N.heap.size≠w.heap.size+1 by have:=uH F;omega) y2⟩)
 have ax:=aa (show _∧_∧_∧_∧_∧_ from⟨aB (u:=.int .i64 r) (u':=.int .i64 m) (u'':=.slice l z y) (show M.heap.size≠w.heap.size+1 by have:=uH D;omega) y3,aB (u:=.int .i64 r) (u':=.int .i64 m) (u'':=.slice l z y) (show M.heap.size≠w.heap.size+1 by have:=uH D;omega) y4,aB (u:=.int .i64 r) (u':=.int .i64 m) (u'':=.slice l z y) (show M.heap.size≠w.heap.size+1 by have:=uH D;omega) y5,aB (u:=.int .i64 r) (u':=.int .i64 m) (u'':=.slice l z y) (show N.heap.size≠w.heap.size+1 by have:=uH F;omega) y0,aB (u:=.int .i64 r) (u':=.int .i64 m) (u'':=.slice l z y) (show N.heap.size≠w.heap.size+1 by have:=uH F;omega) y1,aB (u:=.int .i64 r) (u':=.int .i64 m) (u'':=.slice l z y) (show N.heap.size≠w.heap.size+1 by have:=uH F;omega) y2⟩)
 have ae:=aa (show _∧_∧_∧_∧_∧_ from⟨aB (u:=.int .i64 m) (u':=.int .i64 c) (u'':=.slice d H G) (show M.heap.size≠w.heap.size+1+1 by have:=uH D;omega) (uH L).1,aB (u:=.int .i64 m) (u':=.int .i64 c) (u'':=.slice d H G) (show M.heap.size≠w.heap.size+1+1 by have:=uH D;omega) (uH L).2.1,aB (u:=.int .i64 m) (u':=.int .i64 c) (u'':=.slice d H G) (show M.heap.size≠w.heap.size+1+1 by have:=uH D;omega) (uH L).2.2.1,aB (u:=.int .i64 m) (u':=.int .i64 c) (u'':=.slice d H G) (show N.heap.size≠w.heap.size+1+1 by have:=uH F;omega) (uH L).2.2.2.1,aB (u:=.int .i64 m) (u':=.int .i64 c) (u'':=.slice d H G) (show N.heap.size≠w.heap.size+1+1 by have:=uH F;omega) (uH L).2.2.2.2.1,aB (u:=.int .i64 m) (u':=.int .i64 c) (u'':=.slice d H G) (show N.heap.size≠w.heap.size+1+1 by have:=uH F;omega) (uH L).2.2.2.2.2⟩)
 clear y0 y1 y2 y3 y4 y5
 refine wp_region_held_drew (S:=(fun f=>f.cell? ⟨M.heap.size,0,none⟩=some (.int .i64 (r:Int))∧f.cell? ⟨M.heap.size,1,none⟩=some (.int .i64 (m:Int))∧f.cell? ⟨M.heap.size,2,none⟩=some (.slice l z y)∧f.cell? ⟨N.heap.size,0,none⟩=some (.int .i64 (m:Int))∧f.cell? ⟨N.heap.size,1,none⟩=some (.int .i64 (c:Int))∧f.cell? ⟨N.heap.size,2,none⟩=some (.slice d H G))) (by kernel_rfl) ?_ (fun I=>?_)
 ·exact uH am
 refine wpAnyH_take (i:=0) (oi:={dst:=some 45,op:=Op.load 24 (Operand.tmp 9),type:=24,pos:= "qr.go:51",after:=#[],guard:=none}) (v:=(Value.agg #[.int .i64 (r:Int),.int .i64 (m:Int),.slice l z y])) rfl (by kernel_rfl) (by kernel_rfl) (by kernel_rfl) (fun _ _ _ h=>h) (Or.inl ⟨by rfl,?_⟩) (by assumption) ?_
 ·(intro w aj;(try dsimp only at aj);go_simp)
 simp only[Act.put,List.setIfInBounds_toArray,List.set_cons_zero,List.set_cons_succ]
 refine wpAnyH_take (i:=1) (oi:={dst:=some 46,op:=Op.load 24 (Operand.tmp 11),type:=24,pos:= "qr.go:51",after:=#[{on:=2,ground:=Ground.gcOnly Departure.lateStores}],guard:=none}) (v:=(Value.agg #[.int .i64 (m:Int),.int .i64 (c:Int),.slice d H G])) rfl (by kernel_rfl) (by kernel_rfl) (by kernel_rfl) (fun _ _ _ h=>h) (Or.inl ⟨by rfl,?_⟩) (by assumption) ?_
 ·(intro w aj;(try dsimp only at aj);go_simp)
 simp only[Act.put,List.setIfInBounds_toArray,List.set_cons_zero,List.set_cons_succ]
 refine wpAnyH_ready (rs:=[2]) (by kernel_rfl) (by simp) ?_
 refine AllReadyH.cons (o:={dst:=none,op:=Op.store 24 (Operand.tmp 2) (Operand.tmp 45),type:=0,pos:= "qr.go:51",after:=#[{on:=0,ground:=Ground.data},{on:=0,ground:=Ground.phase},{on:=1,ground:=Ground.textOnly Departure.lateStores}],guard:=none}) rfl (fun KK hK=>?_) AllReadyH.nil
 go_simp
 refine hK.out _ _ ?_ (fun I=>?_)
 ·exact uH ax
 clear hK KK
 refine wpAnyH_ready (rs:=[3]) (by kernel_rfl) (by simp) ?_
 refine AllReadyH.cons (o:={dst:=none,op:=Op.store 24 (Operand.tmp 3) (Operand.tmp 46),type:=0,pos:= "qr.go:51",after:=#[{on:=1,ground:=Ground.data},{on:=2,ground:=Ground.chain},{on:=0,ground:=Ground.phase},{on:=1,ground:=Ground.phase},{on:=2,ground:=Ground.phase}],guard:=none}) rfl (fun KK hK=>?_) AllReadyH.nil
 go_simp
 refine hK.out _ _ ?_ (fun I=>?_)
 ·exact uH ae
 clear hK KK
 refine wpAnyH_ready (rs:=[4]) (by kernel_rfl) (by simp) ?_
 refine AllReadyH.cons (o:={dst:=some 4,op:=Op.assign (Operand.const (Value.int IntKind.i64 0)),type:=25,pos:= "qr.go:51",after:=#[{on:=3,ground:=Ground.chain},{on:=0,ground:=Ground.phase},{on:=1,ground:=Ground.phase},{on:=2,ground:=Ground.phase},{on:=3,ground:=Ground.phase}],guard:=none}) rfl (fun KK hK=>?_) AllReadyH.nil
 go_simp
 refine hK.out _ _ ?_ (fun I=>?_)
 ·exact uH ae
 clear hK KK
 refine wpAnyH_done (by kernel_rfl) ?_ _
 clear am ax ae L
 go_wp2_with fail
 refine bodyPost_ret (v:=.tuple #[.agg #[.int .i64 r,.int .i64 m,.slice l z y],.agg #[.int .i64 m,.int .i64 c,.slice d H G],.int .i64 0]) (by simp[results,Tryz.results71,go_sem,z0,z1,z2,z3,z4,z5]) rfl ⟨_,_,rfl,⟨l,y,by rw[uH L3],uH a0,(uH PQ).below (Below.refl _ _).drew⟩,⟨d,G,by rw[uH L4],uH a1,(uH PR).below (Below.refl _ _).drew⟩,(uH BP).drew⟩
theorem vP(r c:Int)(ao:Option Addr)(n cap:Nat)(p s:Int)(U:Option Addr)(m d L F x y u v:Nat)(T M:List Nat)(er:Int)(w:World)(Z:T.length=L)(l2:M.length=F)
  (C1:∀f,Below w.heap.size w f→Calls Tryz.prog 126 #[.agg #[.int .i64 r,.int .i64 c,.slice ao n cap]] f fun e h=>∃v,e=.returned (.tuple #[v,.int .i64 0])∧aS f.heap.size h x y T v∧Below f.heap.size f h)
  (C2:∀f po pc,Below w.heap.size w f→ac f po pc (ar T)→Calls Tryz.prog 127 #[.agg #[.int .i64 x,.int .i64 y,.slice po L pc],.agg #[.int .i64 p,.int .i64 s,.slice U m d]] f fun e h=>∃k,e=.returned (.tuple #[k,.int .i64 er])∧aS f.heap.size h u v M k∧Below f.heap.size f h):
  Calls Tryz.prog 72 #[.agg #[.int .i64 r,.int .i64 c,.slice ao n cap],.agg #[.int .i64 p,.int .i64 s,.slice U m d]] w fun e f=>∃k,e=.returned (.tuple #[k,.int .i64 er])∧aS w.heap.size f u v M k∧Below w.heap.size w f:=by
 have l:=qY w (.int .i64 r) (.int .i64 c) (.slice ao n cap) (.int .i64 p) (.int .i64 s) (.slice U m d) (.int .i64 0) (.int .i64 0) (.slice none 0 0) _ (Below.refl _ _)
 have K1:=aa (C1 _ l.1);have K2:=aa C2;have L1:=aa Z;have L2:=aa l2
 have z:=aa l.1;have N:=aa l.2.2.2;have D:=aa l.2.2.1
 clear C1 C2 l Z l2
 go_enter Tryz.func72,Tryz.ntmps72
 go_wp2_with fail
 refine(uH K1).mono ?_
 rintro e w1 ⟨v1,rfl,⟨X,Y,rfl,_,H⟩,A⟩
 rw[uH L1]
 have G:=ab w1 (.cells #[.int .i64 x,.int .i64 y,.slice X L Y] 24)
 have O:=aa (aq.new w1 (.int .i64 x) (.int .i64 y) (.slice X L Y))
 replace N:=aa (((uH N).all A).all G)
 replace D:=aa (((uH D).all A).all G)
 have HQ:=aa (H.below G)
 have V:=(uH z).trans (A.mono (uH z).size)
 replace z:=aa (V.trans (G.mono V.size))
 clear K1 A G V H
 have q0:=(uH O).c0;have q1:=(uH O).c1;have q2:=(uH O).c2
 have q3:=(uH D).c0;have q4:=(uH D).c1;have q5:=(uH D).c2
 go_wp2_with fail
 clear q0 q1 q2 q3 q4 q5
 refine(uH K2 _ X Y (uH z) (uH HQ)).mono ?_
 rintro e w2 ⟨k,rfl,⟨I,K,rfl,hn,H⟩,A⟩
 rw[uH L2]
 have t:=(uH N).all A
 have HN:=aa (hn.least (uH z).size)
 have hB:=(uH z).trans (A.mono (uH z).size)
 have f0:=t.free 0;have f1:=t.free 1;have f2:=t.free 2
 have s0:=t.c0;have s1:=t.c1;have s2:=t.c2
 have Q:=t.put (.int .i64 u) (.int .i64 v) (.slice I F K)
 have z0:=Q.c0;have z1:=Q.c1;have z2:=Q.c2
 have BP:=aa (ai hB (b:=w.heap.size+1+1) (by omega) (.int .i64 u) (.int .i64 v) (.slice I F K))
 have QP:=aa (H.putM t (.int .i64 u) (.int .i64 v) (.slice I F K))
 clear Q t hB A hn H z N D O HQ K2
 go_wp2_with fail
 refine bodyPost_ret (v:=.tuple #[.agg #[.int .i64 u,.int .i64 v,.slice I F K],.int .i64 er]) (by simp[results,Tryz.results72,go_sem,z0,z1,z2]) rfl ⟨_,rfl,⟨I,K,by rw[uH L2],uH HN,uH QP⟩,uH BP⟩
def cZ(w:World)(b:Nat)(x y:Value):Prop:=w.heap[b]? =some (.cells #[x,y] 201 (0,0))
theorem cZ.c0{w:World}{b:Nat}{x y:Value}(h:cZ w b x y):w.cell? ⟨b,0,none⟩=some x:=by rw[cell_of_row w b 0 _ _ _ h];rfl
theorem cZ.c1{w:World}{b:Nat}{x y:Value}(h:cZ w b x y):w.cell? ⟨b,1,none⟩=some y:=by rw[cell_of_row w b 1 _ _ _ h];rfl
theorem cZ.free{w:World}{b:Nat}{x y:Value}(h:cZ w b x y)(j:Nat):w.frozen? ⟨b,j,none⟩=false:=frozen_of_row w b j _ _ h
theorem cZ.lt{w:World}{b:Nat}{x y:Value}(h:cZ w b x y):b<w.heap.size:=(Array.getElem?_eq_some_iff.1 h).1
theorem cZ.below{w f:World}{b:Nat}{x y:Value}(h:cZ w b x y){B:Nat}(l:Below B w f)(d:b<B):cZ f b x y:=(l.block b d).trans h
theorem cZ.new(w:World)(x y:Value):cZ (w.alloc (.cells #[x,y] 201)) w.heap.size x y:=heap_alloc_new w _
theorem cZ.all{w d:World}{b:Nat}{x y:Value}(h:cZ w b x y)(f:Below w.heap.size w d):cZ d b x y:=h.below f h.lt
theorem cZ.other{w:World}{b:Nat}{x y:Value}(h:cZ w b x y){p:Addr}(d:b≠p.block)(u:Value):cZ (w.setCell p u) b x y:=(Below.heap_setCell w p u b d).trans h
theorem cZ.three{w:World}{b g:Nat}{x y:Value}(h:cZ w b x y)(d:b≠g)(u u' u'':Value):cZ (((w.setCell ⟨g,0,none⟩ u).setCell ⟨g,1,none⟩ u').setCell ⟨g,2,none⟩ u'') b x y:=
 ((h.other (p:=⟨g,0,none⟩) d _).other (p:=⟨g,1,none⟩) d _).other (p:=⟨g,2,none⟩) d _
theorem cZ.put{w:World}{b:Nat}{x y:Value}(h:cZ w b x y)(u u':Value):cZ ((w.setCell ⟨b,0,none⟩ u).setCell ⟨b,1,none⟩ u') b u u':=by
 have d:=heap_setCell_same w b 0 _ _ u h
 have f:=heap_setCell_same (w.setCell ⟨b,0,none⟩ u) b 1 _ _ u' d
 unfold cZ
 rw[f]
 simp
theorem cZ.grown{w d:World}{b:Nat}{x y:Value}(h:cZ w b x y){o:Option Nat}(f:w.grownBy d o)(l:o≠some b):cZ d b x y:=
 (f.block b h.lt l.symm).trans h
theorem aq.two16{w:World}{b g:Nat}{x y z:Value}(h:aq w b x y z)(d:b≠g)(u u':Value):aq ((w.setCell ⟨g,0,none⟩ u).setCell ⟨g,1,none⟩ u') b x y z:=
 (h.other (p:=⟨g,0,none⟩) d _).other (p:=⟨g,1,none⟩) d _
theorem aY.two16{w:World}{b g:Nat}{S:List Nat}(h:aY w b S)(d:b≠g)(u u':Value):aY ((w.setCell ⟨g,0,none⟩ u).setCell ⟨g,1,none⟩ u') b S:=by
 unfold aY
 rw[Below.heap_setCell _ ⟨g,1,none⟩ u' b d,Below.heap_setCell _ ⟨g,0,none⟩ u b d]
 exact h
theorem oy{w d:World}{B b:Nat}(h:Below B w d)(f:B≤b)(u u':Value):Below B w ((d.setCell ⟨b,0,none⟩ u).setCell ⟨b,1,none⟩ u'):=
 (h.setCell f _).setCell f _
theorem zi{w:World}{g:Nat}{ao:Option Addr}{cap:Nat}{I:List Int}(h:ac w ao cap I)(d:gD (some g) ao I)(u u':Value):ac ((w.setCell ⟨g,0,none⟩ u).setCell ⟨g,1,none⟩ u') ao cap I:=
 ff (ff h d (jt w g 0 u)) d (jt _ g 1 u')
structure zj (w wr:World) (r c n cap:Nat) (ro:Option Addr) (S:List Nat):Prop where
 bel:Below w.heap.size w wr
 a:aq wr w.heap.size (.int .i64 r) (.int .i64 c) (.slice ro n cap)
 res:aq wr (w.heap.size+1) (.int .i64 0) (.int .i64 0) (.slice none 0 0)
 mi:cZ wr (w.heap.size+1+1) (.slice none 0 0) (.int .u64 0)
 bits:ac wr ro cap (ar S)
theorem zj.all{w wr f:World}{r c n cap:Nat}{h:Option Addr}{S:List Nat}(t:zj w wr r c n cap h S)(d:Below wr.heap.size wr f):zj w f r c n cap h S:=
 ⟨t.bel.trans (d.mono t.bel.size),t.a.all d,t.res.all d,t.mi.all d,t.bits.below d⟩
theorem zj.start{w:World}{r c n cap:Nat}{d:Option Addr}{S:List Nat}(F:ac w d cap (ar S)):zj w (((w.alloc (.cells #[.int .i64 r,.int .i64 c,.slice d n cap] 24)).alloc (.cells #[.int .i64 0,.int .i64 0,.slice none 0 0] 24)).alloc (.cells #[.slice none 0 0,.int .u64 0] 201)) r c n cap d S:=by
 have l:=ab w (.cells #[.int .i64 r,.int .i64 c,.slice d n cap] 24)
 have G:=ad w (.cells #[.int .i64 r,.int .i64 c,.slice d n cap] 24)
 have H:=aq.new w (.int .i64 r) (.int .i64 c) (.slice d n cap)
 generalize w.alloc (.cells #[.int .i64 r,.int .i64 c,.slice d n cap] 24)=h at*
 have m:=ab h (.cells #[.int .i64 0,.int .i64 0,.slice none 0 0] 24)
 have t:=ad h (.cells #[.int .i64 0,.int .i64 0,.slice none 0 0] 24)
 have y:=aq.new h (.int .i64 0) (.int .i64 0) (.slice none 0 0)
 generalize h.alloc (.cells #[.int .i64 0,.int .i64 0,.slice none 0 0] 24)=D at*
 have f:=ab D (.cells #[.slice none 0 0,.int .u64 0] 201)
 have z:=cZ.new D (.slice none 0 0) (.int .u64 0)
 rw[G]at y t
 rw[t]at z
 have A:=l.trans (m.mono l.size)
 exact⟨A.trans (f.mono A.size),(H.all m).all f,y.all f,z,((F.below l).below m).below f⟩
def Gx(w w':World)(ok:Bool)(r c n L:Nat)(S V:List Nat)(tau:Nat)(e:Ending):Prop:=
 (ok=true∧∃g vo vc,e=.returned (.tuple #[.agg #[.int .i64 r,.int .i64 c,.slice (some ⟨g,0,none⟩) n n],.agg #[.slice vo L vc,.int .u64 tau],.int .i64 0])∧w.heap.size≤g∧aY w' g S∧bH w.heap.size vo (ar V)∧ac w' vo vc (ar V)∧gD (some g) vo (ar V))∨
 (ok=false∧e=.returned (.tuple #[.agg #[.int .i64 0,.int .i64 0,.slice none 0 0],.agg #[.slice none 0 0,.int .u64 0],.int .i64 2]))
theorem F4(r c n cap j L t M:Nat)(U:Option Addr)(S AP NX X V:List Nat)(Z:Bool)(w:World)(hr:r≤6)(hj:j<r)(hL:r-j=L)(hS:ac w U cap (ar S))
  (C2:∀f,ac f U cap (ar S)→Calls Tryz.prog 125 #[.agg #[.int .i64 r,.int .i64 c,.slice U n cap],.int .i64 (j:Nat),.int .i64 (j:Nat),.int .i64 (L:Nat),.int .i64 1] f fun e l=>∃A d,e=.returned (.tuple #[.agg #[.int .i64 (L:Nat),.int .i64 1,.slice A L d],.int .i64 0])∧ac l A d (ar X)∧Below f.heap.size f l)
  (C3:∀f A d,Z=true→Below w.heap.size w f→ac f A d (ar X)→Calls Tryz.prog 235 #[.slice A L d] f fun e l=>∃y z,e=.returned (.tuple #[.slice y L z,.int .u64 (t:Nat),.int .u64 (M:Nat),.int .i64 0])∧bH f.heap.size y (ar V)∧ac l y z (ar V)∧Below f.heap.size f l)
  (C4:∀f A d,Z=false→Below w.heap.size w f→ac f A d (ar X)→Calls Tryz.prog 235 #[.slice A L d] f fun e l=>∃so cs er,e=.returned (.tuple #[.slice so 0 cs,.int .u64 0,.int .u64 0,.int .i64 er])∧(er=2∨er=4)∧Below f.heap.size f l)
  (C5:∀f y z,Below w.heap.size w f→ac f U cap (ar S)→ac f y z (ar V)→Calls Tryz.prog 213 #[.agg #[.int .i64 r,.int .i64 c,.slice U n cap],.int .i64 (j:Nat),.int .i64 (j:Nat),.slice y L z,.int .u64 (t:Nat)] f fun e l=>∃g,e=.returned (.tuple #[.agg #[.int .i64 r,.int .i64 c,.slice (some ⟨g,0,none⟩) n n],.int .i64 0])∧f.heap.size≤g∧aY l g AP∧Below f.heap.size f l)
  (C6:∀f g,aY f g AP→Calls Tryz.prog 236 #[.agg #[.int .i64 r,.int .i64 c,.slice (some ⟨g,0,none⟩) n n],.int .i64 (j:Nat),.int .u64 (M:Nat)] f fun e l=>e=.returned (.tuple #[])∧aY l g NX∧f.grownBy l (some g)):
  Calls Tryz.prog 212 #[.agg #[.int .i64 r,.int .i64 c,.slice U n cap],.int .i64 (j:Nat)] w fun e f=>Gx w f Z r c n L NX V t e∧Below w.heap.size w f:=by
 have h:=aa (zj.start (r:=r) (c:=c) (n:=n) hS)
 have K2:=aa (C2 _ (uH h).bits);have K3:=aa C3;have K4:=aa C4;have K5:=aa C5;have K6:=aa C6
 have eL:IntKind.i64.wrap ((r:Int)-(j:Int))=(L:Int):=(aP _ (by omega)).trans (by omega)
 have ae:(r:Int)-(j:Int)=(L:Int):=by omega
 have y0:=(uH h).a.c0;have y1:=(uH h).a.c1;have y2:=(uH h).a.c2
 clear C2 C3 C4 C5 C6 hS hL
 go_enter Tryz.func212,Tryz.ntmps212
 go_wp2_with fail
 clear y0 y1 y2 eL ae
 refine(uH K2).mono ?_
 rintro e w1 ⟨A,d,rfl,hx,G⟩
 have N:=ab w1 (.cells #[.int .i64 (L:Int),.int .i64 1,.slice A L d] 24)
 have CB:=aq.new w1 (.int .i64 (L:Int)) (.int .i64 1) (.slice A L d)
 replace h:=aa (((uH h).all G).all N)
 have HX:=aa (hx.below N)
 have y2:=CB.c2
 clear G hx N K2 CB
 go_wp2_with fail
 clear y2
 cases Z with
 |false=>
  refine(uH K4 _ A d rfl (uH h).bel (uH HX)).mono ?_
  rintro e w2 ⟨so,cs,er,rfl,ak,G⟩
  have H:=(uH h).all G
  have s0:=H.res.c0;have s1:=H.res.c1;have s2:=H.res.c2
  have f0:=H.res.free 0;have f1:=H.res.free 1;have f2:=H.res.free 2
  have Y:=H.res.put (.int .i64 0) (.int .i64 0) (.slice none 0 0)
  have D:=H.mi.three (g:=w.heap.size+1) (by omega) (.int .i64 0) (.int .i64 0) (.slice none 0 0)
  have s3:=D.c0;have s4:=D.c1
  have f3:=D.free 0;have f4:=D.free 1
  have I:=Y.two16 (g:=w.heap.size+1+1) (by omega) (.slice none 0 0) (.int .u64 0)
  have O:=D.put (.slice none 0 0) (.int .u64 0)
  have z0:=I.c0;have z1:=I.c1;have z2:=I.c2;have z3:=O.c0;have z4:=O.c1
  have BP:=aa (oy (ai H.bel (b:=w.heap.size+1) (by omega) (.int .i64 0) (.int .i64 0) (.slice none 0 0)) (b:=w.heap.size+1+1) (by omega) (.slice none 0 0) (.int .u64 0))
  clear Y D I O H h G HX K3 K4 K5 K6
  rcases ak with rfl|rfl
  all_goals
   go_wp2_with fail
   exact bodyPost_ret (v:=.tuple #[.agg #[.int .i64 0,.int .i64 0,.slice none 0 0],.agg #[.slice none 0 0,.int .u64 0],.int .i64 2]) (by simp[results,Tryz.results212,go_sem,z0,z1,z2,z3,z4]) rfl ⟨.inr ⟨rfl,rfl⟩,uH BP⟩
 |true=>
  refine(uH K3 _ A d rfl (uH h).bel (uH HX)).mono ?_
  rintro e w2 ⟨y,z,rfl,hn,hv,G⟩
  have HZ:=aa ((uH h).bel.size)
  have HM:=aa ((uH h).mi.lt)
  have Q:=aa hn
  replace h:=aa ((uH h).all G)
  have HV:=aa hv
  clear hn hv G HX K3 K4
  have q0:=(uH h).a.c0;have q1:=(uH h).a.c1;have q2:=(uH h).a.c2
  go_wp2_with fail
  clear q0 q1 q2
  refine(uH K5 _ y z (uH h).bel (uH h).bits (uH HV)).mono ?_
  rintro e w3 ⟨g,rfl,hg,m,G⟩
  have O4:=aa (gD.old (uH HV) (g:=some g) (fun k hk=>by cases hk;exact hg))
  have HG:=aa (show w.heap.size+1+1<g from Nat.lt_of_lt_of_le (uH h).mi.lt hg)
  replace h:=aa ((uH h).all G)
  have N:=ab w3 (.cells #[.int .i64 r,.int .i64 c,.slice (some ⟨g,0,none⟩) n n] 24)
  have NB:=aa (aq.new w3 (.int .i64 r) (.int .i64 c) (.slice (some ⟨g,0,none⟩) n n))
  have aj:=aa (show g≠w3.heap.size from Nat.ne_of_lt m.lt)
  replace h:=aa ((uH h).all N)
  have V4:=aa (((uH HV).below G).below N)
  have R4:=aa (m.below N m.lt)
  have q0:=(uH NB).c0;have q1:=(uH NB).c1;have q2:=(uH NB).c2
  clear G N m hg K5 HV
  go_wp2_with fail
  clear q0 q1 q2
  refine(uH K6 _ g (uH R4)).mono ?_
  rintro e w4 ⟨rfl,m,F⟩
  have V5:=ff (uH V4) (uH O4) F
  have N5:=(uH NB).grown F (fun e=>by cases e;exact uH aj rfl)
  have ax:=uH HG
  have B5:Below w.heap.size w w4:=(uH h).bel.grown F (uH h).bel.size (fun k hk=>by cases hk;omega)
  have K:=(uH h).res.grown F (fun e=>by cases e;omega)
  have M5:=(uH h).mi.grown F (fun e=>by cases e;omega)
  have q0:=N5.c0;have q1:=N5.c1;have q2:=N5.c2
  have s0:=K.c0;have s1:=K.c1;have s2:=K.c2
  have f0:=K.free 0;have f1:=K.free 1;have f2:=K.free 2
  have Y:=K.put (.int .i64 r) (.int .i64 c) (.slice (some ⟨g,0,none⟩) n n)
  have D:=M5.three (g:=w.heap.size+1) (by omega) (.int .i64 r) (.int .i64 c) (.slice (some ⟨g,0,none⟩) n n)
  have s3:=D.c0;have s4:=D.c1
  have f3:=D.free 0;have f4:=D.free 1
  have I:=Y.two16 (g:=w.heap.size+1+1) (by omega) (.slice y L z) (.int .u64 t)
  have O:=D.put (.slice y L z) (.int .u64 t)
  have z0:=I.c0;have z1:=I.c1;have z2:=I.c2;have z3:=O.c0;have z4:=O.c1
  have BP:=aa (oy (ai B5 (b:=w.heap.size+1) (by omega) (.int .i64 r) (.int .i64 c) (.slice (some ⟨g,0,none⟩) n n)) (b:=w.heap.size+1+1) (by omega) (.slice y L z) (.int .u64 t))
  have RP:=aa ((m.three (g:=w.heap.size+1) (by omega) (.int .i64 r) (.int .i64 c) (.slice (some ⟨g,0,none⟩) n n)).two16 (g:=w.heap.size+1+1) (by omega) (.slice y L z) (.int .u64 t))
  have OM:gD (some (w.heap.size+1+1)) y (ar V):=by
   rcases uH Q with e|⟨b,am,rfl,aI⟩
   ·exact .inl e
   ·exact .inr ⟨b,am,rfl,fun e=>by cases e;have:=uH HM;omega⟩
  have VP:=aa (zi (V5.putM K (.int .i64 r) (.int .i64 c) (.slice (some ⟨g,0,none⟩) n n)) OM (.slice y L z) (.int .u64 t))
  have HN:=aa ((uH Q).least (uH HZ))
  clear Y D I O K M5 B5 N5 V5 m F h V4 R4 NB K6 OM Q
  go_wp2_with fail
  exact bodyPost_ret (v:=.tuple #[.agg #[.int .i64 r,.int .i64 c,.slice (some ⟨g,0,none⟩) n n],.agg #[.slice y L z,.int .u64 t],.int .i64 0]) (by simp[results,Tryz.results212,go_sem,z0,z1,z2,z3,z4]) rfl ⟨.inl ⟨rfl,g,y,z,rfl,by omega,uH RP,uH HN,uH VP,uH O4⟩,uH BP⟩
end Go.Proofs.YtlnphkioddknfaaGreatDoor
