/- Part 30 of the texts. -/
import Derived.Test.YtcbcmlaogehimaaGreatDoorPartu29
set_option maxHeartbeats 32000000
set_option maxRecDepth 20000
namespace Go.Proofs.YtcbcmlaogehimaaGreatDoor
open Go.RowKit
attribute [local go_sem ↓] Go.wp_at_zero Go.wp_at_succ
theorem aE.three14{w:World}{b g:Nat}{x y z:Value}(h:aE w b x y z)(l:b≠g)(u u' u'':Value):aE (((w.setCell ⟨g,0,none⟩ u).setCell ⟨g,1,none⟩ u').setCell ⟨g,2,none⟩ u'') b x y z:=
 ((h.other (p:=⟨g,0,none⟩) l _).other (p:=⟨g,1,none⟩) l _).other (p:=⟨g,2,none⟩) l _
structure oo (w wr:World) (h r c n cap:Nat) (ao:GY) (S:H3) (ro:GY) (rc:Nat) (v:Value) (R:List Mr):Prop where
 bel:H8 w wr
 hh:w.heap.size+1+1<=h
 a:aE wr w.heap.size (C0 r) (C0 c) (.slice ao n cap)
 res:aE wr (w.heap.size+1) (C0 0) (C0 0) (.slice none 0 0)
 rb:aE wr h (C0 r) (C0 c) (.slice ro n rc)
 bits:ag wr ro rc (aX S)
 new:dw w.heap.size ro (aX S)
 len:S.length=n
 l:cW (w.heap.size+1+1) wr v R
 off:k9 v.ownBlock ro (aX S)
theorem oo.all{w wr F:World}{h r c n cap:Nat}{ao:GY}{S:H3}{G:GY}{H:Nat}{v:Value}{R:List Mr}(t:oo w wr h r c n cap ao S G H v R)(D:H8 wr F):oo w F h r c n cap ao S G H v R:=
 ⟨t.bel.trans (D.mono t.bel.size),t.hh,t.a.all D,t.res.all D,t.rb.all D,t.bits.below D,t.new,t.len,t.l.below D,t.off⟩
theorem oo.start{w h:World}{r c n cap:Nat}{ao:GY}{S:H3}{l:GY}{t:Nat}(D:H8 w h)(H:aE h w.heap.size (C0 r) (C0 c) (.slice ao n cap))(F:aE h (w.heap.size+1) (C0 0) (C0 0) (.slice none 0 0))(G:ag h l t (aX S))(I:dw w.heap.size l (aX S))(J:S.length=n):
  oo w (h.alloc (.cells #[C0 r,C0 c,.slice l n t] 24)) h.heap.size r c n cap ao S l t (.slice none 0 0) []:=by
 have b:=ad h (.cells #[C0 r,C0 c,.slice l n t] 24);exact⟨D.trans (b.mono D.size),F.lt,H.all b,F.all b,aE.new h _ _ _,G.below b,I,J,cW.start _ _,k9.old G (fun k K=>by simp[Value.ownBlock]at K)⟩
theorem Aa(R:List Mr)(x:Mr):∀k,k<R.length+1->gJ (R++[x]) k=if k<R.length then gJ R k else x:=by
 intro k h;unfold gJ
 by_cases g:k<R.length
 ·rw[if_pos g,List.getElem?_append_left g]
 ·rw[if_neg g,show k=R.length by omega,List.getElem?_append_right (Nat.le_refl _)]
  simp
def lf(K n:Nat)(w:World)(ro:GY)(rc:Nat)(S:H3):Prop:=0<K->∃g,ro=some ⟨g,0,none⟩/\rc=n/\bS w g S
theorem lf.all{K n:Nat}{w l:World}{t:GY}{D:Nat}{S:H3}(h:lf K n w t D S)(F:H8 w l):lf K n l t D S:=fun G=>by
 obtain⟨g,e,H,q⟩:=h G;exact⟨g,e,H,q.below F q.lt⟩
theorem lf.putM{K n:Nat}{w:World}{l:GY}{t:Nat}{S:H3}(h:lf K n w l t S){b:Nat}{x y z:Value}(D:aE w b x y z)(u u' u'':Value):lf K n (((w.setCell ⟨b,0,none⟩ u).setCell ⟨b,1,none⟩ u').setCell ⟨b,2,none⟩ u'') l t S:=fun F=>by
 obtain⟨g,e,G,q⟩:=h F;exact⟨g,e,G,q.three (xC q D) _ _ _⟩
def Ab(w w':World)(ok:Bool)(r c n K:Nat)(S:H3)(V:Nat->H3)(tau:Nat->Nat)(e:Ending):Prop:=
 (ok=true/\∃ro rc v R,e=.returned (.tuple #[.agg #[C0 r,C0 c,.slice ro n rc],v,C0 0])/\dw w.heap.size ro (aX S)/\ag w' ro rc (aX S)/\cW (w.heap.size+1+1) w' v R/\R.length=K/\(∀k,k<K->(gJ R k).V=V k/\(gJ R k).tau=tau k)/\lf K n w' ro rc S)\/
 (ok=false/\e=.returned (.tuple #[.agg #[C0 0,C0 0,.slice none 0 0],.slice none 0 0,C0 2]))
structure pJ (w wr:World) (h r nq:Nat) (S:H3) (qo:GY) (qc:Nat) (v:Value) (R:List Mr):Prop where
 bel:H8 w wr
 hh:w.heap.size+1<=h
 res:aE wr w.heap.size (C0 0) (C0 0) (.slice none 0 0)
 qb:aE wr h (C0 r) (C0 r) (.slice qo nq qc)
 bits:ag wr qo qc (aX S)
 new:dw w.heap.size qo (aX S)
 len:S.length=nq
 l:cW 0 wr v R
theorem pJ.all{w wr F:World}{h r nq:Nat}{S:H3}{G:GY}{H:Nat}{v:Value}{R:List Mr}(t:pJ w wr h r nq S G H v R)(D:H8 wr F):pJ w F h r nq S G H v R:=
 ⟨t.bel.trans (D.mono t.bel.size),t.hh,t.res.all D,t.qb.all D,t.bits.below D,t.new,t.len,t.l.below D⟩
theorem pJ.put{w wr:World}{h r nq:Nat}{S U:H3}{G D:GY}{H F:Nat}{v:Value}{R:List Mr}(t:pJ w wr h r nq S G H v R)(I:ag wr D F (aX U))(J:dw w.heap.size D (aX U))(K:U.length=nq):
  pJ w (((wr.setCell ⟨h,0,none⟩ (C0 r)).setCell ⟨h,1,none⟩ (C0 r)).setCell ⟨h,2,none⟩ (.slice D nq F)) h r nq U D F v R:=by
 have L:=t.hh;have M:w.heap.size≠h:=by omega
 exact⟨az t.bel (by omega) _ _ _,L,t.res.three14 M _ _ _,t.qb.put _ _ _,I.putM t.qb _ _ _,J,K,t.l.putQ t.qb _ _ _⟩
theorem pJ.start{w h:World}{r nq:Nat}{S:H3}{l:GY}{D:Nat}{v:Value}{R:List Mr}(t:Below (w.heap.size+1) (w.alloc (.cells #[C0 0,C0 0,.slice none 0 0] 24)) h)(J:ag h l D (aX S))(K:dw w.heap.size l (aX S))(L:S.length=nq)(M:cW 0 w v R):
  pJ w (h.alloc (.cells #[C0 r,C0 r,.slice l nq D] 24)) h.heap.size r nq S l D v R:=by
 have F:=ad w (.cells #[C0 0,C0 0,.slice none 0 0] 24);have G:=an w (.cells #[C0 0,C0 0,.slice none 0 0] 24);have N:=aE.new w (C0 0) (C0 0) (.slice none 0 0);rw[<-G]at t;have b:=ad h (.cells #[C0 r,C0 r,.slice l nq D] 24);have H:=F.trans (t.mono F.size);have I:=t.size;rw[G]at I;exact⟨H.trans (b.mono H.size),I,(N.all t).all b,aE.new h _ _ _,J.below b,K,L,((M.below F).below t).below b⟩
theorem cW.apart{l:Nat}{w:World}{b D F:Nat}{R:List Mr}(h:cW l w (.slice (some ⟨b,0,none⟩) D F) R){g:Nat}{x y z:Value}(G:aE w g x y z):b≠g:=by
 rcases h.1.2 with⟨e,_⟩|⟨k,cap,H,t,J,I,rest⟩
 ·cases e
 ·simp only[Value.slice.injEq,Option.some.injEq,Addr.mk.injEq]at t
  obtain⟨⟨rfl,_⟩,_⟩:=t;rintro rfl;have e:=I.symm.trans G
  simp at e
theorem Ac(r nq K lc:Nat)(lo:GY)(V QT:Nat->H3)(ae:Nat->Nat)(R:List Mr)(w:World)(bm:nq<=36)(bn:K<=6)(hl:cW 0 w (.slice lo K lc) R)(am:R.length=K)(ap:∀k,k<K->(gJ R k).V=V k/\(gJ R k).tau=ae k)
  (lQ:∀t,(QT t).length=nq) (lV:∀j,(V j).length=r-j)
  (C1:∀G,GF 170 #[C0 r] G fun e L=>∃H J,e=.returned (.tuple #[.agg #[C0 r,C0 r,.slice H nq J],C0 0])/\dw G.heap.size H (aX (QT 0))/\ag L H J (aX (QT 0))/\H8 G L)
  (C2:∀G t j po pc vo vc,t<K->j=K-1-t->H8 w G->ag G po pc (aX (QT t))->ag G vo vc (aX (V j))->GF 196 #[.agg #[C0 r,C0 r,.slice po nq pc],C0 (j:Nat),C0 0,.slice vo (r-j) vc,CI (ae j:Nat)] G fun e L=>∃H J,e=.returned (.tuple #[.agg #[C0 r,C0 r,.slice H nq J],C0 0])/\dw G.heap.size H (aX (QT (t+1)))/\ag L H J (aX (QT (t+1)))/\H8 G L)
  (C3:∀G x,x<18446744073709551616->BS 118 #[CI (x:Nat)] G (.bool (ah x))):
  GF 152 #[C0 r,.slice lo K lc] w fun e G=>∃t H J,t<=K/\(t=K\/iD (aX (QT t)) nq=false)/\e=.returned (.agg #[C0 r,C0 r,.slice H nq J])/\dw w.heap.size H (aX (QT t))/\ag G H J (aX (QT t))/\H8 w G:=by
 have K1:=ac (C1 (w.alloc (.cells #[C0 0,C0 0,.slice none 0 0] 24)));(try unfold BS at K1);(try unfold H8 at K1);simp only[an]at K1;have K2:=ac C2;have K3:=ac C3;have LQ:=ac lQ;have LV:=ac lV;have HL:=ac hl;have a3:=ac am;have a4:=ac ap;have a5:IntKind.i64.wrap ((K:Int)-1)=(K:Int)-1:=bF _ (by omega);clear C1 C2 C3 lQ lV hl am ap
 go_enter Tryz.func152,Tryz.ntmps152
 go_wp2_with fail
 go_step3
 go_wp2_with fail;refine(uH K1).mono ?_;rintro e w1 ⟨H,J,rfl,hn,hq,hb⟩;have ST:=ac (pJ.start (r:=r) (v:=.slice lo K lc) (R:=R) hb hq (hn.least (by omega)) (uH LQ 0) (uH HL));clear hb hq hn K1 HL;go_wp2_with fail
 go_step3
 go_wp2_with fail;generalize w1.heap.size=h at*
 go_loopg [7] K (fun g a wr=>∃(t:Nat) (H:GY) (J:Nat),t+g=K/\a=.int .i64 ((K:Int)-1-(t:Int))/\Hid (pJ w wr h r nq (QT t) H J (.slice lo K lc) R))
 case atStart=>exact⟨0,H,J,by omega,by simp,ST⟩
 case round=>
  clear ST a5;obtain⟨t,H,J,bs,rfl,N⟩:=hrel
  cases gk with
  |zero=>
   have a6:t=K:=by omega
   subst a6;have hz:(t:Int)-1-(t:Int)= -1:=by omega
   rw[hz];have F:=uH N;have q0:=F.qb.c0;have q1:=F.qb.c1;have q2:=F.qb.c2;have s0:=F.res.c0;have s1:=F.res.c1;have s2:=F.res.c2;have f0:=F.res.free 0;have f1:=F.res.free 1;have f2:=F.res.free 2;have XP:=F.res.put (C0 r) (C0 r) (.slice H nq J);have z0:=XP.c0;have z1:=XP.c1;have z2:=XP.c2;have BP:=ac (az F.bel (b:=w.heap.size) (Nat.le_refl _) (C0 r) (C0 r) (.slice H nq J));have QB:=ac (F.bits.putM F.res (C0 r) (C0 r) (.slice H nq J));have HN:=ac F.new;clear XP F N;go_wp2_with fail
   try rw[Exit.noGoto_ret]
   exact bodyPost_ret (v:=.agg #[C0 r,C0 r,.slice H nq J]) (by simp[results,Tryz.results152,go_sem,z0,z1,z2]) rfl ⟨t,_,_,by omega,.inl rfl,rfl,uH HN,uH QB,uH BP⟩
  |succ g=>
   have a7:t<K:=by omega
   obtain⟨m,hm⟩:∃m,K-1-t=m:=⟨_,rfl⟩;have a9:(K:Int)-1-(t:Int)=(m:Int):=by omega
   rw[a9];have bo:(m:Int)<(K:Int):=by omega
   obtain⟨O,cl,el,bd,be,Q,U,kb⟩:=(uH N).l.at (k:=m) (by rw[uH a3];omega);simp only[Value.slice.injEq]at el;obtain⟨rfl,bi,rfl⟩:=el;clear bi bd be;obtain⟨ev,et⟩:=uH a4 m (by omega);rw[ev]at Q kb;rw[et]at U;rw[uH LV m]at Q;have GQ:=ac (fun G po pc vo vc hb hp hv=>uH K2 G t m po pc vo vc a7 hm.symm hb hp hv);have KB:=ac kb;have LN:=ac (uH LQ (t+1));generalize (gJ R m).ao=vo at*;generalize (gJ R m).cap=vc at*;generalize ae m=tm at*;generalize V m=vm at*;generalize aa:QT (t+1)=nt at*;clear kb ev et;go_wp2_with fail;refine aB (fun W=>pJ w W h r nq (QT t) H J (.slice (some ⟨O,0,none⟩) K lc) R/\(W.cell? ⟨O,m*2,none⟩=some (.slice vo (r-m) vc)/\W.cell? ⟨O,m*2+1,none⟩=some (CI (tm:Nat)))/\ag W vo vc (aX vm)) ⟨uH N,⟨Q,U⟩,uH KB⟩ ?_;clear N Q U KB;rintro W ⟨st,⟨Q,U⟩,kb⟩;have hd:=(Below.refl W.heap.size W).drew;have ST:=ac (st.all hd);have KB:=ac (kb.below hd);replace Q:=ay Q hd;replace U:=ay U hd;clear st kb hd;have q0:=(uH ST).qb.c0;have q1:=(uH ST).qb.c1;have q2:=(uH ST).qb.c2;refine wp_region_held_drew (S:=(fun G=>G.cell? ⟨O,m*2,none⟩=some (.slice vo (r-m) vc)/\G.cell? ⟨O,m*2+1,none⟩=some (CI (tm:Nat)))) (by kernel_rfl) ?_ (fun M=>?_)
   ·exact⟨Q,U⟩
   refine wpAnyH_take (i:=1) (oi:={dst:=some 24,op:=Op.move (Operand.tmp 7),type:=3,pos:= "mirrors.go:42",after:=#[],guard:=none}) (v:=(Value.int .i64 (m:Int))) rfl (by kernel_rfl) (by kernel_rfl) (by kernel_rfl) (fun _ _ _ h=>h) (Or.inl ⟨by rfl,?_⟩) (by assumption) ?_
   ·(intro w D;(try dsimp only at D);go_simp)
   simp only[Act.put,List.setIfInBounds_toArray,List.set_cons_zero,List.set_cons_succ];refine wpAnyH_take (i:=2) (oi:={dst:=some 25,op:=Op.move (Operand.tmp 1),type:=147,pos:= "mirrors.go:42",after:=#[],guard:=none}) (v:=(Value.slice (some ⟨O,0,none⟩) K lc)) rfl (by kernel_rfl) (by kernel_rfl) (by kernel_rfl) (fun _ _ _ h=>h) (Or.inl ⟨by rfl,?_⟩) (by assumption) ?_
   ·(intro w D;(try dsimp only at D);go_simp)
   simp only[Act.put,List.setIfInBounds_toArray,List.set_cons_zero,List.set_cons_succ];refine wpAnyH_take (i:=3) (oi:={dst:=some 26,op:=Op.move (Operand.tmp 7),type:=3,pos:= "mirrors.go:42",after:=#[],guard:=none}) (v:=(Value.int .i64 (m:Int))) rfl (by kernel_rfl) (by kernel_rfl) (by kernel_rfl) (fun _ _ _ h=>h) (Or.inl ⟨by rfl,?_⟩) (by assumption) ?_
   ·(intro w D;(try dsimp only at D);go_simp)
   simp only[Act.put,List.setIfInBounds_toArray,List.set_cons_zero,List.set_cons_succ];refine wpAnyH_take (i:=4) (oi:={dst:=some 27,op:=Op.indexAddr 147 (Operand.tmp 25) (Operand.tmp 26),type:=0,pos:= "mirrors.go:42",after:=#[{on:=2,ground:=Ground.data},{on:=3,ground:=Ground.data}],guard:=none}) (v:=(Value.pointer (some ⟨O,m*2,none⟩))) rfl (by kernel_rfl) (by kernel_rfl) (by kernel_rfl) (fun _ _ _ h=>h) (Or.inl ⟨by rfl,?_⟩) (by assumption) ?_
   ·(intro w D;(try dsimp only at D);go_simp)
   simp only[Act.put,List.setIfInBounds_toArray,List.set_cons_zero,List.set_cons_succ];refine wpAnyH_take (i:=5) (oi:={dst:=some 28,op:=Op.fieldAddr 176 (Operand.tmp 27) 0,type:=0,pos:= "mirrors.go:42",after:=#[{on:=4,ground:=Ground.data}],guard:=none}) (v:=(Value.pointer (some ⟨O,m*2,none⟩))) rfl (by kernel_rfl) (by kernel_rfl) (by kernel_rfl) (fun _ _ _ h=>h) (Or.inl ⟨by rfl,?_⟩) (by assumption) ?_
   ·(intro w D;(try dsimp only at D);go_simp)
   simp only[Act.put,List.setIfInBounds_toArray,List.set_cons_zero,List.set_cons_succ];refine wpAnyH_take (i:=6) (oi:={dst:=some 29,op:=Op.load 22 (Operand.tmp 28),type:=22,pos:= "mirrors.go:42",after:=#[{on:=5,ground:=Ground.data}],guard:=none}) (v:=(Value.slice vo (r-m) vc)) rfl (by kernel_rfl) (by kernel_rfl) (by kernel_rfl) (fun _ _ _ h=>h) (Or.inl ⟨by rfl,?_⟩) (by assumption) ?_
   ·(intro w D;(try dsimp only at D);go_simp)
   simp only[Act.put,List.setIfInBounds_toArray,List.set_cons_zero,List.set_cons_succ];refine wpAnyH_take (i:=7) (oi:={dst:=some 30,op:=Op.move (Operand.tmp 1),type:=147,pos:= "mirrors.go:42",after:=#[],guard:=none}) (v:=(Value.slice (some ⟨O,0,none⟩) K lc)) rfl (by kernel_rfl) (by kernel_rfl) (by kernel_rfl) (fun _ _ _ h=>h) (Or.inl ⟨by rfl,?_⟩) (by assumption) ?_
   ·(intro w D;(try dsimp only at D);go_simp)
   simp only[Act.put,List.setIfInBounds_toArray,List.set_cons_zero,List.set_cons_succ];refine wpAnyH_take (i:=8) (oi:={dst:=some 31,op:=Op.move (Operand.tmp 7),type:=3,pos:= "mirrors.go:42",after:=#[],guard:=none}) (v:=(Value.int .i64 (m:Int))) rfl (by kernel_rfl) (by kernel_rfl) (by kernel_rfl) (fun _ _ _ h=>h) (Or.inl ⟨by rfl,?_⟩) (by assumption) ?_
   ·(intro w D;(try dsimp only at D);go_simp)
   simp only[Act.put,List.setIfInBounds_toArray,List.set_cons_zero,List.set_cons_succ];refine wpAnyH_take (i:=9) (oi:={dst:=some 32,op:=Op.indexAddr 147 (Operand.tmp 30) (Operand.tmp 31),type:=0,pos:= "mirrors.go:42",after:=#[{on:=7,ground:=Ground.data},{on:=8,ground:=Ground.data}],guard:=none}) (v:=(Value.pointer (some ⟨O,m*2,none⟩))) rfl (by kernel_rfl) (by kernel_rfl) (by kernel_rfl) (fun _ _ _ h=>h) (Or.inl ⟨by rfl,?_⟩) (by assumption) ?_
   ·(intro w D;(try dsimp only at D);go_simp)
   simp only[Act.put,List.setIfInBounds_toArray,List.set_cons_zero,List.set_cons_succ];refine wpAnyH_take (i:=10) (oi:={dst:=some 33,op:=Op.fieldAddr 176 (Operand.tmp 32) 1,type:=0,pos:= "mirrors.go:42",after:=#[{on:=9,ground:=Ground.data}],guard:=none}) (v:=(Value.pointer (some ⟨O,m*2+1,none⟩))) rfl (by kernel_rfl) (by kernel_rfl) (by kernel_rfl) (fun _ _ _ h=>h) (Or.inl ⟨by rfl,?_⟩) (by assumption) ?_
   ·(intro w D;(try dsimp only at D);go_simp)
   simp only[Act.put,List.setIfInBounds_toArray,List.set_cons_zero,List.set_cons_succ];refine wpAnyH_take (i:=11) (oi:={dst:=some 34,op:=Op.load 69 (Operand.tmp 33),type:=69,pos:= "mirrors.go:42",after:=#[{on:=10,ground:=Ground.data}],guard:=none}) (v:=(Value.int .u64 (tm:Int))) rfl (by kernel_rfl) (by kernel_rfl) (by kernel_rfl) (fun _ _ _ h=>h) (Or.inl ⟨by rfl,?_⟩) (by assumption) ?_
   ·(intro w D;(try dsimp only at D);go_simp)
   simp only[Act.put,List.setIfInBounds_toArray,List.set_cons_zero,List.set_cons_succ];refine wpAnyH_ready (rs:=[0]) (by kernel_rfl) (by simp) ?_;refine AllReadyH.cons (o:={dst:=some 23,op:=Op.load 24 (Operand.tmp 5),type:=24,pos:= "mirrors.go:42",after:=#[],guard:=none}) rfl (fun KK hK=>?_) AllReadyH.nil;go_simp;refine hK.out _ _ ?_ (fun M=>?_)
   ·exact⟨Q,U⟩
   clear hK KK;refine wpAnyH_ready (rs:=[12]) (by kernel_rfl) (by simp) ?_;refine AllReadyH.cons (o:={dst:=some 35,op:=Op.call {callee:=Callee.value (Operand.func 196),args:=#[Operand.tmp 23,Operand.tmp 24,Operand.const (Value.int IntKind.i64 0),Operand.tmp 29,Operand.tmp 34],argTypes:=#[24,3,3,22,69]},type:=28,pos:= "mirrors.go:42",after:=#[{on:=0,ground:=Ground.data},{on:=1,ground:=Ground.data},{on:=6,ground:=Ground.data},{on:=11,ground:=Ground.data}],guard:=none}) rfl (fun KK hK=>?_) AllReadyH.nil;go_simp;refine(uH GQ _ _ _ _ _ (uH ST).bel (uH ST).bits (uH KB)).mono ?_;rintro e w5 ⟨Z,I,rfl,a1,a2,hb⟩;clear q0 q1 q2;have S5:=(uH ST).all hb;replace Q:=ay Q hb;replace U:=ay U hb;have ax:=ac (And.intro Q U);have ha:=S5.l.apart S5.qb;have aI:=ac (And.intro (show(((w5.setCell ⟨h,0,none⟩ (C0 r)).setCell ⟨h,1,none⟩ (C0 r)).setCell ⟨h,2,none⟩ (.slice Z nq I)).cell? ⟨O,m*2,none⟩=some (.slice vo (r-m) vc) by rw[au _ _ _ _ ha,au _ _ _ _ ha,au _ _ _ _ ha];exact Q) (show(((w5.setCell ⟨h,0,none⟩ (C0 r)).setCell ⟨h,1,none⟩ (C0 r)).setCell ⟨h,2,none⟩ (.slice Z nq I)).cell? ⟨O,m*2+1,none⟩=some (CI (tm:Nat)) by rw[au _ _ _ _ ha,au _ _ _ _ ha,au _ _ _ _ ha];exact U));have q0:=S5.qb.c0;have q1:=S5.qb.c1;have q2:=S5.qb.c2;have f0:=S5.qb.free 0;have f1:=S5.qb.free 1;have f2:=S5.qb.free 2;have P5:=ac (S5.put a2 (a1.least (uH ST).bel.size) (uH LN));clear hb a2 a1 S5 GQ ST KB ha Q U;go_wp2_with fail;refine hK.out _ _ ?_ (fun M=>?_)
   ·exact uH ax
   clear hK KK;refine wpAnyH_take (i:=13) (oi:={dst:=some 22,op:=Op.move (Operand.tmp 35),type:=28,pos:= "mirrors.go:42",after:=#[{on:=12,ground:=Ground.data}],guard:=none}) (v:=(Value.tuple #[(Value.agg #[C0 (r:Int),C0 (r:Int),.slice Z nq I]),C0 0])) rfl (by kernel_rfl) (by kernel_rfl) (by kernel_rfl) (fun _ _ _ h=>h) (Or.inl ⟨by rfl,?_⟩) (by assumption) ?_
   ·(intro w D;(try dsimp only at D);go_simp)
   simp only[Act.put,List.setIfInBounds_toArray,List.set_cons_zero,List.set_cons_succ];refine wpAnyH_take (i:=14) (oi:={dst:=some 36,op:=Op.extract (Operand.tmp 22) 0,type:=24,pos:= "mirrors.go:42",after:=#[{on:=13,ground:=Ground.data}],guard:=none}) (v:=(Value.agg #[C0 (r:Int),C0 (r:Int),.slice Z nq I])) rfl (by kernel_rfl) (by kernel_rfl) (by kernel_rfl) (fun _ _ _ h=>h) (Or.inl ⟨by rfl,?_⟩) (by assumption) ?_
   ·(intro w D;(try dsimp only at D);go_simp)
   simp only[Act.put,List.setIfInBounds_toArray,List.set_cons_zero,List.set_cons_succ];refine wpAnyH_take (i:=15) (oi:={dst:=some 37,op:=Op.extract (Operand.tmp 22) 1,type:=27,pos:= "mirrors.go:42",after:=#[{on:=13,ground:=Ground.data},{on:=16,ground:=Ground.gcOnly Departure.lateStores}],guard:=none}) (v:=(Value.int .i64 0)) rfl (by kernel_rfl) (by kernel_rfl) (by kernel_rfl) (fun _ _ _ h=>h) (Or.inl ⟨by rfl,?_⟩) (by assumption) ?_
   ·(intro w D;(try dsimp only at D);go_simp)
   simp only[Act.put,List.setIfInBounds_toArray,List.set_cons_zero,List.set_cons_succ];refine wpAnyH_ready (rs:=[16]) (by kernel_rfl) (by simp) ?_;refine AllReadyH.cons (o:={dst:=none,op:=Op.store 24 (Operand.tmp 5) (Operand.tmp 36),type:=0,pos:= "mirrors.go:42",after:=#[{on:=14,ground:=Ground.data},{on:=12,ground:=Ground.chain},{on:=0,ground:=Ground.phase},{on:=1,ground:=Ground.phase},{on:=2,ground:=Ground.phase},{on:=3,ground:=Ground.phase},{on:=4,ground:=Ground.phase},{on:=5,ground:=Ground.phase},{on:=6,ground:=Ground.phase},{on:=7,ground:=Ground.phase},{on:=8,ground:=Ground.phase},{on:=9,ground:=Ground.phase},{on:=10,ground:=Ground.phase},{on:=11,ground:=Ground.phase},{on:=12,ground:=Ground.phase},{on:=13,ground:=Ground.phase},{on:=14,ground:=Ground.phase},{on:=15,ground:=Ground.textOnly Departure.lateStores}],guard:=none}) rfl (fun KK hK=>?_) AllReadyH.nil;go_simp;refine hK.out _ _ ?_ (fun M=>?_)
   ·exact uH aI
   clear hK KK;refine wpAnyH_done (by kernel_rfl) ?_ _;clear q0 q1 q2 f0 f1 f2 ax aI;have z2:=(uH P5).qb.c2;go_wp2_with fail;clear z2
   go_loopg [41] nq (fun g2 a wr=>∃i:Nat,i+g2=nq/\a=.int .i64 i/\Hid (∀k,k<i->ah (bg (aX nt) k)=true)/\Hid (pJ w wr h r nq nt Z I (.slice (some ⟨O,0,none⟩) K lc) R))
   case atStart=>exact⟨0,by omega,rfl,fun k hk=>absurd hk (Nat.not_lt_zero k),by first|exact P5|exact ac (uH P5)⟩
   case round=>
    clear P5;obtain⟨i,bt,rfl,hF,N⟩:=hrel
    cases gk with
    |zero=>
     have bp:¬((i:Int)<(nq:Int)):=by omega
     have bq:IntKind.i64.wrap ((m:Int)-1)=(m:Int)-1:=bF _ (by omega);go_wp2_with fail
     go_roundg g
     case measure=>omega
     case rel=>exact⟨t+1,Z,I,by omega,by rw[show(m:Int)-1=(K:Int)-1-((t+1:Nat):Int) by omega],by rw[aa];exact N⟩
    |succ g2=>
     have br:(i:Int)<(nq:Int):=by omega
     obtain⟨b5,o5,rfl,_,a0⟩:=(uH N).bits.ne (by rw[aC,(uH N).len];omega);have c5:=a0 i (by rw[aC,(uH N).len];omega);have hx:=(uH N).bits.lt i;have ec:(aX nt)[i]?.getD 0=(bg (aX nt) i:Int):=((uH N).bits.wf i).1;have ba:=ac (fun(e:ah (bg (aX nt) i)=true)=>(show∀k,k<i+1->ah (bg (aX nt) k)=true from fun k hk=>by
      rcases Nat.lt_or_ge k i with g|g
      ·exact uH hF k g
      ·rw[show k=i by omega];exact e))
     have bb:=ac (fun(e:ah (bg (aX nt) i)=false)=>Gw (aX nt) nq i (by omega) e);have KX:=ac (fun G=>uH K3 G _ hx);generalize bg (aX nt) i=x at*;clear hx a0 ec;go_wp2_with fail;clear c5;refine(uH KX _).mono ?_;rintro e w6 ⟨rfl,hb⟩;have S6:=ac ((uH N).all hb);clear hb N KX
     cases hfx:ah x with
     |true=>
      go_wp2_with fail
      go_roundg g2
      case measure=>omega
      case rel=>exact⟨i+1,by omega,by go_num,ac (uH ba hfx),S6⟩
     |false=>
      have F:=uH S6;have bc:=ac (uH bb hfx);have q0:=F.qb.c0;have q1:=F.qb.c1;have q2:=F.qb.c2;have s0:=F.res.c0;have s1:=F.res.c1;have s2:=F.res.c2;have f0:=F.res.free 0;have f1:=F.res.free 1;have f2:=F.res.free 2;have XP:=F.res.put (C0 r) (C0 r) (.slice (some ⟨b5,o5,none⟩) nq I);have z0:=XP.c0;have z1:=XP.c1;have z2:=XP.c2;have BP:=ac (az F.bel (b:=w.heap.size) (Nat.le_refl _) (C0 r) (C0 r) (.slice (some ⟨b5,o5,none⟩) nq I));have QB:=ac (F.bits.putM F.res (C0 r) (C0 r) (.slice (some ⟨b5,o5,none⟩) nq I));have HN:=ac F.new;clear XP F S6;go_wp2_with fail
      try rw[Exit.noGoto_ret]
      exact bodyPost_ret (v:=.agg #[C0 r,C0 r,.slice (some ⟨b5,o5,none⟩) nq I]) (by simp[results,Tryz.results152,go_sem,z0,z1,z2]) rfl ⟨t+1,_,_,by omega,.inr (by rw[aa];exact uH bc),rfl,by rw[aa];exact uH HN,by rw[aa];exact uH QB,uH BP⟩
theorem cg{w:World}{b g j:Nat}{u u' u'' v:Value}(l:b≠g)(h:w.cell? ⟨b,j,none⟩=some v):(((w.setCell ⟨g,0,none⟩ u).setCell ⟨g,1,none⟩ u').setCell ⟨g,2,none⟩ u'').cell? ⟨b,j,none⟩=some v:=by
 rw[au _ _ _ _ l,au _ _ _ _ l,au _ _ _ _ l];exact h
theorem cw{w:World}{a:Addr}{v:Value}(h:w.cell? a=some v):w.drew.cell? a=some v:=h
theorem aR{w:World}{b g j:Nat}{u u' u'' v:Value}(l:b≠g)(h:w.cell? ⟨b,j,none⟩=some v):(((w.setCell ⟨g,0,none⟩ u).setCell ⟨g,1,none⟩ u').setCell ⟨g,2,none⟩ u'').drew.cell? ⟨b,j,none⟩=some v:=cw (cg l h)
structure rW (w wr:World) (x y:Int) (ao:GY) (n cap:Nat):Prop where
 bel:H8 w wr
 a:aE wr w.heap.size (C0 x) (C0 y) (.slice ao n cap)
 r1:aE wr (w.heap.size+1) (C0 0) (C0 0) (.slice none 0 0)
 r2:aE wr (w.heap.size+1+1) (C0 0) (C0 0) (.slice none 0 0)
theorem rW.all{w wr l:World}{x y:Int}{ao:GY}{n cap:Nat}(t:rW w wr x y ao n cap)(h:H8 wr l):rW w l x y ao n cap:=⟨t.bel.trans (h.mono t.bel.size),t.a.all h,t.r1.all h,t.r2.all h⟩
theorem rW.start(w:World)(x y:Int)(ao:GY)(n cap:Nat):rW w (((w.alloc (.cells #[C0 x,C0 y,.slice ao n cap] 24)).alloc (.cells #[C0 0,C0 0,.slice none 0 0] 24)).alloc (.cells #[C0 0,C0 0,.slice none 0 0] 24)) x y ao n cap:=by
 obtain⟨h,l,t,D⟩:=zT w (C0 x) (C0 y) (.slice ao n cap) (C0 0) (C0 0) (.slice none 0 0) (C0 0) (C0 0) (.slice none 0 0) _ (Below.refl _ _);exact⟨h,l,t,D⟩
theorem OU(r c:Int)(ao:GY)(n cap:Nat)(er:Int)(w:World)(H:er=1\/er=4)
  (J:∀h,H8 w h->BS 63 #[.agg #[C0 r,C0 c,.slice ao n cap]] h (C0 er)):
  GF 94 #[.agg #[C0 r,C0 c,.slice ao n cap]] w fun e h=>∃v u,e=.returned (.tuple #[v,u,C0 er])/\bO w.heap.size h 0 0 [] v/\bO w.heap.size h 0 0 [] u/\H8 w h:=by
 have D:=ac (rW.start w r c ao n cap);have K:=ac (J _ (uH D).bel);clear J;rcases H with rfl|rfl
 all_goals
  go_enter Tryz.func94,Tryz.ntmps94
  go_wp2_with fail;refine(uH K).mono ?_;rintro e w1 ⟨rfl,N⟩;replace D:=ac ((uH D).all N);clear N K;have l:=(uH D).r1;have L:=(uH D).r2;have s0:=l.c0;have s1:=l.c1;have s2:=l.c2;have f0:=l.free 0;have f1:=l.free 1;have f2:=l.free 2;have M:=l.put (C0 0) (C0 0) (.slice none 0 0);have t:=L.three14 (g:=w.heap.size+1) (by omega) (C0 0) (C0 0) (.slice none 0 0);have s3:=t.c0;have s4:=t.c1;have s5:=t.c2;have f3:=t.free 0;have f4:=t.free 1;have f5:=t.free 2;have F:=M.three14 (g:=w.heap.size+1+1) (by omega) (C0 0) (C0 0) (.slice none 0 0);have G:=t.put (C0 0) (C0 0) (.slice none 0 0);have O:=F.c0;have z1:=F.c1;have z2:=F.c2;have Q:=G.c0;have U:=G.c1;have Z:=G.c2;have BP:=ac (az (az (uH D).bel (b:=w.heap.size+1) (by omega) (C0 0) (C0 0) (.slice none 0 0)) (b:=w.heap.size+1+1) (by omega) (C0 0) (C0 0) (.slice none 0 0));clear l L M t F G D;go_wp2_with fail;exact bodyPost_ret (v:=.tuple #[.agg #[C0 0,C0 0,.slice none 0 0],.agg #[C0 0,C0 0,.slice none 0 0],C0 _]) (by simp[results,Tryz.results94,go_sem,O,z1,z2,Q,U,Z]) rfl ⟨_,_,rfl,bO.zero _ _,bO.zero _ _,uH BP⟩
def u5(w w':World)(r c n nq K:Nat)(Q S:H3)(e:Ending):Prop:=
 ∃qo qc ro rc,e=.returned (.tuple #[.agg #[C0 r,C0 r,.slice qo nq qc],.agg #[C0 r,C0 c,.slice ro n rc],C0 0])/\dw w.heap.size qo (aX Q)/\ag w' qo qc (aX Q)/\dw w.heap.size ro (aX S)/\ag w' ro rc (aX S)/\lf K n w' ro rc S/\(0<K->∀g,ro=some ⟨g,0,none⟩->k9 (some g) qo (aX Q))
theorem u5.two{w l:World}{r c n nq K:Nat}{Q S:H3}{e:Ending}(h:u5 w l r c n nq K Q S e)(lQ:Q.length=nq)(t:S.length=n):∃v u,e=.returned (.tuple #[v,u,C0 0])/\bO w.heap.size l r r Q v/\bO w.heap.size l r c S u:=by
 obtain⟨D,F,G,H,rfl,I,J,L,M,_,_⟩:=h;exact⟨_,_,rfl,⟨D,F,by rw[lQ],I,J⟩,⟨G,H,by rw[t],L,M⟩⟩
theorem DI(r c n nq K cap:Nat)(ao:GY)(S QF:H3)(V:Nat->H3)(a4:Nat->Nat)(ok fq fr:Bool)(w:World)(lS:S.length=n)(lQ:QF.length=nq)(am:iD (aX QF) nq=fq)
  (C1:∀l,H8 w l->BS 63 #[.agg #[C0 r,C0 c,.slice ao n cap]] l (C0 0))
  (C2:∀l,H8 w l->GF 151 #[.agg #[C0 r,C0 c,.slice ao n cap]] l fun e M=>Ab l M ok r c n K S V a4 e/\H8 l M)
  (C3:∀l lo lc R,H8 w l->cW 0 l (.slice lo K lc) R->R.length=K->(∀k,k<K->(gJ R k).V=V k/\(gJ R k).tau=a4 k)->GF 152 #[C0 r,.slice lo K lc] l fun e M=>∃Q F H,(Q=QF\/(iD (aX Q) nq=false/\fq=false))/\Q.length=nq/\e=.returned (.agg #[C0 r,C0 r,.slice F nq H])/\dw l.heap.size F (aX Q)/\ag M F H (aX Q)/\H8 l M)
  (C4:∀l Q F H,ag l F H (aX Q)->Q.length=nq->BS 125 #[.slice F nq H] l (.bool (iD (aX Q) nq)))
  (C5:∀l J L,ag l J L (aX S)->BS 125 #[.slice J n L] l (.bool fr)):
  GF 94 #[.agg #[C0 r,C0 c,.slice ao n cap]] w fun e l=>(((ok&&(fq&&fr))=true/\u5 w l r c n nq K QF S e)\/((ok&&(fq&&fr))=false/\∃v u,e=.returned (.tuple #[v,u,C0 2])/\bO w.heap.size l 0 0 [] v/\bO w.heap.size l 0 0 [] u))/\H8 w l:=by
 have ST:=ac (rW.start w r c ao n cap);have K1:=ac (C1 _ (uH ST).bel);have K2:=ac C2;have K3:=ac C3;have K4:=ac C4;have K5:=ac C5;have LS:=ac lS;have LQ:=ac lQ;have aI:=ac am;clear C1 C2 C3 C4 C5 lS lQ am
 go_enter Tryz.func94,Tryz.ntmps94
 go_wp2_with fail;refine(uH K1).mono ?_;rintro e w1 ⟨rfl,I⟩;replace ST:=ac ((uH ST).all I);clear I K1;have y0:=(uH ST).a.c0;have y1:=(uH ST).a.c1;have y2:=(uH ST).a.c2;go_wp2_with fail;clear y0 y1 y2;refine(uH K2 _ (uH ST).bel).mono ?_;rintro e w2 ⟨bb,I⟩;have G:=ac ((uH ST).all I);have HZ:=ac (show w.heap.size<=w1.heap.size from(uH ST).bel.size);clear I ST K2;rcases bb with⟨ax,J,L,v,R,rfl,hn,hq,hl,a3,be,bi⟩|⟨ax,rfl⟩
 ·obtain⟨lo,lc,a9⟩:=hl.slice
  rw[a3]at a9;subst a9;have ba:=ad w2 (.cells #[C0 r,C0 c,.slice J n L] 24);have N:=ac (uH G).r2.lt;have RB:=ac (aE.new w2 (C0 r) (C0 c) (.slice J n L));replace G:=ac ((uH G).all ba);have HQ:=ac (hq.below ba);have O:=ac (lf.all bi ba);have HN:=ac (hn.least (uH HZ));have HL:=ac ((hl.least (Nat.zero_le _)).below ba);have bm:=ac a3;have bn:=ac be;have bo:=ac ax;clear ba hq hn hl a3 be ax HZ bi;have y0:=(uH G).a.c0;go_wp2_with fail;clear y0;refine(uH K3 _ lo lc R (uH G).bel (uH HL) (uH bm) (uH bn)).mono ?_;rintro e w3 ⟨Q,F,H,hQ,lQ,rfl,hn,hq,I⟩;have ba:=ad w3 (.cells #[C0 r,C0 r,.slice F nq H] 24);have U:=ac ((uH G).all I).r2.lt;have QB:=ac (aE.new w3 (C0 r) (C0 r) (.slice F nq H));have bp:=ac (hn.least (uH G).bel.size);have bq:=ac (show 0<K->∀g,J=some ⟨g,0,none⟩->k9 (some g) F (aX Q)from fun hk g e=>k9.new hn (fun k ek=>by
   obtain⟨g',e',_,q⟩:=uH O hk;rw[e']at e
   cases e
   cases ek
   exact q.lt))
  replace O:=ac (((uH O).all I).all ba);replace G:=ac (((uH G).all I).all ba);replace RB:=ac (((uH RB).all I).all ba);replace HQ:=ac (((uH HQ).below I).below ba);have Z:=ac (hq.below ba);have a0:=ac hQ;have br:=ac lQ;clear I ba hn hq HL hQ lQ K3;have y2:=(uH QB).c2;go_wp2_with fail;clear y2;refine(uH K4 _ Q F H (uH Z) (uH br)).mono ?_;rintro e w4 ⟨rfl,I⟩;replace G:=ac ((uH G).all I);replace RB:=ac ((uH RB).all I);replace QB:=ac ((uH QB).all I);replace HQ:=ac ((uH HQ).below I);replace Z:=ac ((uH Z).below I);replace O:=ac ((uH O).all I);clear I K4
  cases hfQ:iD (aX Q) nq with
  |false=>
   have ap:Hid ((ok&&(fq&&fr))=false):=ac (by
    rcases uH a0 with e|e
    ·rw[e,uH aI]at hfQ
     rw[hfQ];cases ok<;>rfl
    ·rw[e.2];cases ok<;>rfl)
   clear RB QB HQ Z;have t:=(uH G).r1;have X2:=(uH G).r2;have s0:=t.c0;have s1:=t.c1;have s2:=t.c2;have f0:=t.free 0;have f1:=t.free 1;have f2:=t.free 2;have Y1:=t.put (C0 0) (C0 0) (.slice none 0 0);have D:=X2.three14 (g:=w.heap.size+1) (by omega) (C0 0) (C0 0) (.slice none 0 0);have s3:=D.c0;have s4:=D.c1;have s5:=D.c2;have f3:=D.free 0;have f4:=D.free 1;have f5:=D.free 2;have Z1:=Y1.three14 (g:=w.heap.size+1+1) (by omega) (C0 0) (C0 0) (.slice none 0 0);have Z2:=D.put (C0 0) (C0 0) (.slice none 0 0);have z0:=Z1.c0;have z1:=Z1.c1;have z2:=Z1.c2;have z3:=Z2.c0;have z4:=Z2.c1;have z5:=Z2.c2;have BP:=ac (az (az (uH G).bel (b:=w.heap.size+1) (by omega) (C0 0) (C0 0) (.slice none 0 0)) (b:=w.heap.size+1+1) (by omega) (C0 0) (C0 0) (.slice none 0 0));clear t X2 Y1 D Z1 Z2 G;go_wp2_with fail;exact bodyPost_ret (v:=.tuple #[.agg #[C0 0,C0 0,.slice none 0 0],.agg #[C0 0,C0 0,.slice none 0 0],C0 2]) (by simp[results,Tryz.results94,go_sem,z0,z1,z2,z3,z4,z5]) rfl ⟨.inr ⟨uH ap,_,_,rfl,bO.zero _ _,bO.zero _ _⟩,uH BP⟩
  |true=>
   have bs:Q=QF:=by
    rcases uH a0 with e|e
    ·exact e
    ·rw[e.1]at hfQ;cases hfQ
   subst bs;have am:fq=true:=by rw[<-uH aI];exact hfQ
   have y2:=(uH RB).c2;go_wp2_with fail;clear y2;refine(uH K5 _ J L (uH HQ)).mono ?_;rintro e w5 ⟨rfl,I⟩;replace G:=ac ((uH G).all I);replace RB:=ac ((uH RB).all I);replace QB:=ac ((uH QB).all I);replace HQ:=ac ((uH HQ).below I);replace Z:=ac ((uH Z).below I);replace O:=ac ((uH O).all I);clear I K5
   cases hfr:fr with
   |false=>
    have ap:Hid ((ok&&(fq&&fr))=false):=ac (by rw[hfr];cases ok<;>cases fq<;>rfl);clear RB QB HQ Z;have t:=(uH G).r1;have X2:=(uH G).r2;have s0:=t.c0;have s1:=t.c1;have s2:=t.c2;have f0:=t.free 0;have f1:=t.free 1;have f2:=t.free 2;have Y1:=t.put (C0 0) (C0 0) (.slice none 0 0);have D:=X2.three14 (g:=w.heap.size+1) (by omega) (C0 0) (C0 0) (.slice none 0 0);have s3:=D.c0;have s4:=D.c1;have s5:=D.c2;have f3:=D.free 0;have f4:=D.free 1;have f5:=D.free 2;have Z1:=Y1.three14 (g:=w.heap.size+1+1) (by omega) (C0 0) (C0 0) (.slice none 0 0);have Z2:=D.put (C0 0) (C0 0) (.slice none 0 0);have z0:=Z1.c0;have z1:=Z1.c1;have z2:=Z1.c2;have z3:=Z2.c0;have z4:=Z2.c1;have z5:=Z2.c2;have BP:=ac (az (az (uH G).bel (b:=w.heap.size+1) (by omega) (C0 0) (C0 0) (.slice none 0 0)) (b:=w.heap.size+1+1) (by omega) (C0 0) (C0 0) (.slice none 0 0));clear t X2 Y1 D Z1 Z2 G;go_wp2_with fail;exact bodyPost_ret (v:=.tuple #[.agg #[C0 0,C0 0,.slice none 0 0],.agg #[C0 0,C0 0,.slice none 0 0],C0 2]) (by simp[results,Tryz.results94,go_sem,z0,z1,z2,z3,z4,z5]) rfl ⟨.inr ⟨uH ap,_,_,rfl,bO.zero _ _,bO.zero _ _⟩,uH BP⟩
   |true=>
    have a5:Hid ((ok&&(fq&&fr))=true):=ac (by rw[uH bo,am,hfr];rfl);clear hfQ aI a0 am hfr;go_wp2_with fail;refine aB (fun W=>rW w W r c ao n cap/\aE W w2.heap.size (C0 r) (C0 c) (.slice J n L)/\aE W w3.heap.size (C0 r) (C0 r) (.slice F nq H)/\ag W J L (aX S)/\ag W F H (aX Q)/\lf K n W J L S) ⟨uH G,uH RB,uH QB,uH HQ,uH Z,uH O⟩ ?_;clear G RB QB HQ Z O;rintro W ⟨s2,rb,qb,hq,bc,bd⟩;have G:=ac (s2);have y0:=(rb).c0;have y1:=(rb).c1;have y2:=(rb).c2;have y3:=(qb).c0;have y4:=(qb).c1;have y5:=(qb).c2;have Q1:=hq;have Q3:=bc;clear s2 rb qb hq bc;have t:=(uH G).r1;have X2:=(uH G).r2;have s0:=t.c0;have s1:=t.c1;have s2:=t.c2;have f0:=t.free 0;have f1:=t.free 1;have f2:=t.free 2;have Y1:=t.put (C0 r) (C0 r) (.slice F nq H);have D:=X2.three14 (g:=w.heap.size+1) (by omega) (C0 r) (C0 r) (.slice F nq H);have s3:=D.c0;have s4:=D.c1;have s5:=D.c2;have f3:=D.free 0;have f4:=D.free 1;have f5:=D.free 2;have Z1:=Y1.three14 (g:=w.heap.size+1+1) (by omega) (C0 r) (C0 c) (.slice J n L);have Z2:=D.put (C0 r) (C0 c) (.slice J n L);have z0:=Z1.c0;have z1:=Z1.c1;have z2:=Z1.c2;have z3:=Z2.c0;have z4:=Z2.c1;have z5:=Z2.c2;have BP:=ac (az (az (uH G).bel (b:=w.heap.size+1) (by omega) (C0 r) (C0 r) (.slice F nq H)) (b:=w.heap.size+1+1) (by omega) (C0 r) (C0 c) (.slice J n L));have PR:=ac ((Q1.putM t (C0 r) (C0 r) (.slice F nq H)).putM D (C0 r) (C0 c) (.slice J n L));have PW:=ac ((bd.putM t (C0 r) (C0 r) (.slice F nq H)).putM D (C0 r) (C0 c) (.slice J n L));have PQ:=ac ((Q3.putM t (C0 r) (C0 r) (.slice F nq H)).putM D (C0 r) (C0 c) (.slice J n L));clear t X2 Y1 D Z1 Z2 G Q1 Q3 bd;have a6:=ac (show _/\_/\_/\_/\_/\_ from⟨cw y3,cw y4,cw y5,cw y0,cw y1,cw y2⟩);have ae:=ac (show _/\_/\_/\_/\_/\_ from⟨cg (u:=.int .i64 r) (u':=.int .i64 r) (u'':=.slice F nq H) (show w3.heap.size≠w.heap.size+1 by have:=uH U;omega) y3,cg (u:=.int .i64 r) (u':=.int .i64 r) (u'':=.slice F nq H) (show w3.heap.size≠w.heap.size+1 by have:=uH U;omega) y4,cg (u:=.int .i64 r) (u':=.int .i64 r) (u'':=.slice F nq H) (show w3.heap.size≠w.heap.size+1 by have:=uH U;omega) y5,cg (u:=.int .i64 r) (u':=.int .i64 r) (u'':=.slice F nq H) (show w2.heap.size≠w.heap.size+1 by have:=uH N;omega) y0,cg (u:=.int .i64 r) (u':=.int .i64 r) (u'':=.slice F nq H) (show w2.heap.size≠w.heap.size+1 by have:=uH N;omega) y1,cg (u:=.int .i64 r) (u':=.int .i64 r) (u'':=.slice F nq H) (show w2.heap.size≠w.heap.size+1 by have:=uH N;omega) y2⟩);have a7:=ac (show _/\_/\_/\_/\_/\_ from⟨aR (u:=.int .i64 r) (u':=.int .i64 r) (u'':=.slice F nq H) (show w3.heap.size≠w.heap.size+1 by have:=uH U;omega) y3,aR (u:=.int .i64 r) (u':=.int .i64 r) (u'':=.slice F nq H) (show w3.heap.size≠w.heap.size+1 by have:=uH U;omega) y4,aR (u:=.int .i64 r) (u':=.int .i64 r) (u'':=.slice F nq H) (show w3.heap.size≠w.heap.size+1 by have:=uH U;omega) y5,aR (u:=.int .i64 r) (u':=.int .i64 r) (u'':=.slice F nq H) (show w2.heap.size≠w.heap.size+1 by have:=uH N;omega) y0,aR (u:=.int .i64 r) (u':=.int .i64 r) (u'':=.slice F nq H) (show w2.heap.size≠w.heap.size+1 by have:=uH N;omega) y1,aR (u:=.int .i64 r) (u':=.int .i64 r) (u'':=.slice F nq H) (show w2.heap.size≠w.heap.size+1 by have:=uH N;omega) y2⟩);have a1:=ac (show _/\_/\_/\_/\_/\_ from⟨aR (u:=.int .i64 r) (u':=.int .i64 c) (u'':=.slice J n L) (show w3.heap.size≠w.heap.size+1+1 by have:=uH U;omega) (uH ae).1,aR (u:=.int .i64 r) (u':=.int .i64 c) (u'':=.slice J n L) (show w3.heap.size≠w.heap.size+1+1 by have:=uH U;omega) (uH ae).2.1,aR (u:=.int .i64 r) (u':=.int .i64 c) (u'':=.slice J n L) (show w3.heap.size≠w.heap.size+1+1 by have:=uH U;omega) (uH ae).2.2.1,aR (u:=.int .i64 r) (u':=.int .i64 c) (u'':=.slice J n L) (show w2.heap.size≠w.heap.size+1+1 by have:=uH N;omega) (uH ae).2.2.2.1,aR (u:=.int .i64 r) (u':=.int .i64 c) (u'':=.slice J n L) (show w2.heap.size≠w.heap.size+1+1 by have:=uH N;omega) (uH ae).2.2.2.2.1,aR (u:=.int .i64 r) (u':=.int .i64 c) (u'':=.slice J n L) (show w2.heap.size≠w.heap.size+1+1 by have:=uH N;omega) (uH ae).2.2.2.2.2⟩);clear y0 y1 y2 y3 y4 y5;refine wp_region_held_drew (S:=(fun l=>l.cell? ⟨w3.heap.size,0,none⟩=some (C0 (r:Int))/\l.cell? ⟨w3.heap.size,1,none⟩=some (C0 (r:Int))/\l.cell? ⟨w3.heap.size,2,none⟩=some (.slice F nq H)/\l.cell? ⟨w2.heap.size,0,none⟩=some (C0 (r:Int))/\l.cell? ⟨w2.heap.size,1,none⟩=some (C0 (c:Int))/\l.cell? ⟨w2.heap.size,2,none⟩=some (.slice J n L))) (by kernel_rfl) ?_ (fun aa=>?_)
    ·exact uH a6
    refine wpAnyH_take (i:=0) (oi:={dst:=some 44,op:=Op.load 24 (Operand.tmp 9),type:=24,pos:= "qr.go:25",after:=#[],guard:=none}) (v:=(Value.agg #[C0 (r:Int),C0 (r:Int),.slice F nq H])) rfl (by kernel_rfl) (by kernel_rfl) (by kernel_rfl) (fun _ _ _ h=>h) (Or.inl ⟨by rfl,?_⟩) (by assumption) ?_
    ·(intro w a2;(try dsimp only at a2);go_simp)
    simp only[Act.put,List.setIfInBounds_toArray,List.set_cons_zero,List.set_cons_succ];refine wpAnyH_take (i:=1) (oi:={dst:=some 45,op:=Op.load 24 (Operand.tmp 6),type:=24,pos:= "qr.go:25",after:=#[{on:=2,ground:=Ground.gcOnly Departure.lateStores}],guard:=none}) (v:=(Value.agg #[C0 (r:Int),C0 (c:Int),.slice J n L])) rfl (by kernel_rfl) (by kernel_rfl) (by kernel_rfl) (fun _ _ _ h=>h) (Or.inl ⟨by rfl,?_⟩) (by assumption) ?_
    ·(intro w a2;(try dsimp only at a2);go_simp)
    simp only[Act.put,List.setIfInBounds_toArray,List.set_cons_zero,List.set_cons_succ];refine wpAnyH_ready (rs:=[2]) (by kernel_rfl) (by simp) ?_;refine AllReadyH.cons (o:={dst:=none,op:=Op.store 24 (Operand.tmp 2) (Operand.tmp 44),type:=0,pos:= "qr.go:25",after:=#[{on:=0,ground:=Ground.data},{on:=0,ground:=Ground.phase},{on:=1,ground:=Ground.textOnly Departure.lateStores}],guard:=none}) rfl (fun KK hK=>?_) AllReadyH.nil;go_simp;refine hK.out _ _ ?_ (fun aa=>?_)
    ·exact uH a7
    clear hK KK;refine wpAnyH_ready (rs:=[3]) (by kernel_rfl) (by simp) ?_;refine AllReadyH.cons (o:={dst:=none,op:=Op.store 24 (Operand.tmp 3) (Operand.tmp 45),type:=0,pos:= "qr.go:25",after:=#[{on:=1,ground:=Ground.data},{on:=2,ground:=Ground.chain},{on:=0,ground:=Ground.phase},{on:=1,ground:=Ground.phase},{on:=2,ground:=Ground.phase}],guard:=none}) rfl (fun KK hK=>?_) AllReadyH.nil;go_simp;refine hK.out _ _ ?_ (fun aa=>?_)
    ·exact uH a1
    clear hK KK;refine wpAnyH_ready (rs:=[4]) (by kernel_rfl) (by simp) ?_;refine AllReadyH.cons (o:={dst:=some 4,op:=Op.assign (Operand.const (Value.int IntKind.i64 0)),type:=27,pos:= "qr.go:25",after:=#[{on:=3,ground:=Ground.chain},{on:=0,ground:=Ground.phase},{on:=1,ground:=Ground.phase},{on:=2,ground:=Ground.phase},{on:=3,ground:=Ground.phase}],guard:=none}) rfl (fun KK hK=>?_) AllReadyH.nil;go_simp;refine hK.out _ _ ?_ (fun aa=>?_)
    ·exact uH a1
    clear hK KK;refine wpAnyH_done (by kernel_rfl) ?_ _;clear a6 a7 a1 ae;go_wp2_with fail;refine bodyPost_ret (v:=.tuple #[.agg #[C0 r,C0 r,.slice F nq H],.agg #[C0 r,C0 c,.slice J n L],C0 0]) (by simp[results,Tryz.results94,go_sem,z0,z1,z2,z3,z4,z5]) rfl ⟨.inl ⟨uH a5,F,H,J,L,rfl,uH bp,(uH PQ).below (Below.refl _ _).drew,uH HN,(uH PR).below (Below.refl _ _).drew,(uH PW).all (Below.refl _ _).drew,uH bq⟩,(uH BP).drew⟩
 ·have ap:Hid ((ok&&(fq&&fr))=false):=ac (by rw[ax];rfl)
  have ba:=ad w2 (.cells #[C0 0,C0 0,.slice none 0 0] 24);replace G:=ac ((uH G).all ba);clear ba ax HZ;have t:=(uH G).r1;have X2:=(uH G).r2;have s0:=t.c0;have s1:=t.c1;have s2:=t.c2;have f0:=t.free 0;have f1:=t.free 1;have f2:=t.free 2;have Y1:=t.put (C0 0) (C0 0) (.slice none 0 0);have D:=X2.three14 (g:=w.heap.size+1) (by omega) (C0 0) (C0 0) (.slice none 0 0);have s3:=D.c0;have s4:=D.c1;have s5:=D.c2;have f3:=D.free 0;have f4:=D.free 1;have f5:=D.free 2;have Z1:=Y1.three14 (g:=w.heap.size+1+1) (by omega) (C0 0) (C0 0) (.slice none 0 0);have Z2:=D.put (C0 0) (C0 0) (.slice none 0 0);have z0:=Z1.c0;have z1:=Z1.c1;have z2:=Z1.c2;have z3:=Z2.c0;have z4:=Z2.c1;have z5:=Z2.c2;have BP:=ac (az (az (uH G).bel (b:=w.heap.size+1) (by omega) (C0 0) (C0 0) (.slice none 0 0)) (b:=w.heap.size+1+1) (by omega) (C0 0) (C0 0) (.slice none 0 0));clear t X2 Y1 D Z1 Z2 G;go_wp2_with fail;exact bodyPost_ret (v:=.tuple #[.agg #[C0 0,C0 0,.slice none 0 0],.agg #[C0 0,C0 0,.slice none 0 0],C0 2]) (by simp[results,Tryz.results94,go_sem,z0,z1,z2,z3,z4,z5]) rfl ⟨.inr ⟨uH ap,_,_,rfl,bO.zero _ _,bO.zero _ _⟩,uH BP⟩
theorem Hc(r c:Int)(ao:GY)(n cap:Nat)(er:Int)(w:World)(I:er=1\/er=4\/er=2)
  (J:∀h,H8 w h->GF 94 #[.agg #[C0 r,C0 c,.slice ao n cap]] h fun e D=>∃v u,e=.returned (.tuple #[v,u,C0 er])/\bO h.heap.size D 0 0 [] v/\bO h.heap.size D 0 0 [] u/\H8 h D):
  GF 49 #[.agg #[C0 r,C0 c,.slice ao n cap]] w fun e h=>∃v u,e=.returned (.tuple #[v,u,C0 er])/\bO w.heap.size h 0 0 [] v/\bO w.heap.size h 0 0 [] u/\H8 w h:=by
 have F:=ac (rW.start w r c ao n cap);have K:=ac (J _ (uH F).bel);clear J;rcases I with rfl|rfl|rfl
 all_goals
  go_enter Tryz.func49,Tryz.ntmps49
  go_wp2_with fail;refine(uH K).mono ?_;rintro e Q ⟨v,u,rfl,⟨U,Z,rfl,_,_⟩,⟨uo,uc,rfl,_,_⟩,hb⟩;simp only[List.length_nil];have L:=ad Q (.cells #[C0 0,C0 0,.slice U 0 Z] 24);have M:=ad (Q.alloc (.cells #[C0 0,C0 0,.slice U 0 Z] 24)) (.cells #[C0 0,C0 0,.slice uo 0 uc] 24);replace F:=ac ((((uH F).all hb).all L).all M);clear hb K L M;have l:=(uH F).r1;have N:=(uH F).r2;have s0:=l.c0;have s1:=l.c1;have s2:=l.c2;have f0:=l.free 0;have f1:=l.free 1;have f2:=l.free 2;have O:=l.put (C0 0) (C0 0) (.slice none 0 0);have t:=N.three14 (g:=w.heap.size+1) (by omega) (C0 0) (C0 0) (.slice none 0 0);have s3:=t.c0;have s4:=t.c1;have s5:=t.c2;have f3:=t.free 0;have f4:=t.free 1;have f5:=t.free 2;have G:=O.three14 (g:=w.heap.size+1+1) (by omega) (C0 0) (C0 0) (.slice none 0 0);have H:=t.put (C0 0) (C0 0) (.slice none 0 0);have z0:=G.c0;have z1:=G.c1;have z2:=G.c2;have z3:=H.c0;have z4:=H.c1;have z5:=H.c2;have BP:=ac (az (az (uH F).bel (b:=w.heap.size+1) (by omega) (C0 0) (C0 0) (.slice none 0 0)) (b:=w.heap.size+1+1) (by omega) (C0 0) (C0 0) (.slice none 0 0));clear l N O t G H F;go_wp2_with fail;exact bodyPost_ret (v:=.tuple #[.agg #[C0 0,C0 0,.slice none 0 0],.agg #[C0 0,C0 0,.slice none 0 0],C0 _]) (by simp[results,Tryz.results49,go_sem,z0,z1,z2,z3,z4,z5]) rfl ⟨_,_,rfl,bO.zero _ _,bO.zero _ _,uH BP⟩
theorem Ls(r c n cap m n1 n2 H M:Nat)(ao:GY)(Q R Q2 R2:H3)(w:World)(hm:(m:Int)=min (r:Int) (c:Int))(l1:Q.length=n1)(l2:R.length=n2)(l3:Q2.length=H)(l4:R2.length=M)
  (C1:∀D,H8 w D->GF 94 #[.agg #[C0 r,C0 c,.slice ao n cap]] D fun e I=>∃v u,e=.returned (.tuple #[v,u,C0 0])/\bO D.heap.size I r r Q v/\bO D.heap.size I r c R u/\H8 D I)
  (C2:∀D qo qc,ag D qo qc (aX Q)->GF 95 #[.agg #[C0 r,C0 r,.slice qo n1 qc],C0 0,C0 0,C0 r,C0 m] D fun e I=>∃v,e=.returned (.tuple #[v,C0 0])/\bO D.heap.size I r m Q2 v/\H8 D I)
  (C3:∀D ro rc,ag D ro rc (aX R)->GF 95 #[.agg #[C0 r,C0 c,.slice ro n2 rc],C0 0,C0 0,C0 m,C0 c] D fun e I=>∃v,e=.returned (.tuple #[v,C0 0])/\bO D.heap.size I m c R2 v/\H8 D I):
  GF 49 #[.agg #[C0 r,C0 c,.slice ao n cap]] w fun e D=>∃v u,e=.returned (.tuple #[v,u,C0 0])/\bO w.heap.size D r m Q2 v/\bO w.heap.size D m c R2 u/\H8 w D:=by
 have am:∀(W:World) ts t,(Builtin.min_ ts t #[C0 (r:Int),C0 (c:Int)]).run Tryz.prog W=.ok (C0 (m:Int)) W:=fun W ts t=>by rw[hm];exact nN _ W ts t _ _
 have O:=ac (rW.start w r c ao n cap);have K1:=ac (C1 _ (uH O).bel);have K2:=ac C2;have K3:=ac C3;have L1:=ac l1;have L2:=ac l2;have L3:=ac l3;have L4:=ac l4;clear C1 C2 C3 l1 l2 l3 l4 hm
 go_enter Tryz.func49,Tryz.ntmps49
 go_wp2_with fail;refine(uH K1).mono ?_;rintro e w1 ⟨v,u,rfl,⟨qo,qc,rfl,_,hq⟩,⟨ro,rc,rfl,_,hr⟩,hb⟩;rw[uH L1,uH L2];have b1:=ad w1 (.cells #[C0 r,C0 r,.slice qo n1 qc] 24);have s1:=an w1 (.cells #[C0 r,C0 r,.slice qo n1 qc] 24);have b2:=ad (w1.alloc (.cells #[C0 r,C0 r,.slice qo n1 qc] 24)) (.cells #[C0 r,C0 c,.slice ro n2 rc] 24);have QB:=ac ((aE.new w1 (C0 r) (C0 r) (.slice qo n1 qc)).all b2);have RB:=ac (aE.new (w1.alloc (.cells #[C0 r,C0 r,.slice qo n1 qc] 24)) (C0 r) (C0 c) (.slice ro n2 rc));rw[s1]at RB;replace O:=ac ((((uH O).all hb).all b1).all b2);have HQ:=ac ((hq.below b1).below b2);have HR:=ac ((hr.below b1).below b2);clear hb b1 b2 s1 hq hr K1;have y0:=(uH O).a.c0;have y1:=(uH O).a.c1;have q0:=(uH QB).c0;have q1:=(uH QB).c1;have q2:=(uH QB).c2;go_wp2_with fail;clear y0 y1 q0 q1 q2 am;refine(uH K2 _ qo qc (uH HQ)).mono ?_;rintro e Z ⟨v,rfl,⟨F,G,rfl,hn,hq⟩,hb⟩;rw[uH L3];have ba:=ad Z (.cells #[C0 r,C0 m,.slice F H G] 24);have J:=ac ((uH O).all hb).r2.lt;have CB:=ac (aE.new Z (C0 r) (C0 m) (.slice F H G));have a0:=ac (hn.least (uH O).bel.size);replace O:=ac (((uH O).all hb).all ba);replace RB:=ac (((uH RB).all hb).all ba);replace HR:=ac (((uH HR).below hb).below ba);have HC:=ac (hq.below ba);clear hb ba hn hq K2 QB HQ;have q0:=(uH RB).c0;have q1:=(uH RB).c1;have q2:=(uH RB).c2;go_wp2_with fail;clear q0 q1 q2;refine(uH K3 _ ro rc (uH HR)).mono ?_;rintro e w3 ⟨v,rfl,⟨l,L,rfl,hn,hq⟩,hb⟩;rw[uH L4];have ba:=ad w3 (.cells #[C0 m,C0 c,.slice l M L] 24);have K:=ac ((uH O).all hb).r2.lt;have TB:=ac (aE.new w3 (C0 m) (C0 c) (.slice l M L));have a1:=ac (hn.least (uH O).bel.size);replace O:=ac (((uH O).all hb).all ba);replace CB:=ac (((uH CB).all hb).all ba);replace HC:=ac (((uH HC).below hb).below ba);have HT:=ac (hq.below ba);clear hb ba hn hq K3 RB HR;go_wp2_with fail;refine aB (fun W=>rW w W r c ao n cap/\aE W Z.heap.size (C0 r) (C0 m) (.slice F H G)/\aE W w3.heap.size (C0 m) (C0 c) (.slice l M L)/\ag W F G (aX Q2)/\ag W l L (aX R2)) ⟨uH O,uH CB,uH TB,uH HC,uH HT⟩ ?_;clear O CB TB HC HT;rintro W ⟨s2,cb,tb,hq,aI⟩;have S2:=ac (s2);have y3:=(cb).c0;have y4:=(cb).c1;have y5:=(cb).c2;have y0:=(tb).c0;have y1:=(tb).c1;have y2:=(tb).c2;have Q1:=hq;have Q3:=aI;clear s2 cb tb hq aI;have X1:=(uH S2).r1;have X2:=(uH S2).r2;have s0:=X1.c0;have s1:=X1.c1;have s2:=X1.c2;have f0:=X1.free 0;have f1:=X1.free 1;have f2:=X1.free 2;have Y1:=X1.put (C0 r) (C0 m) (.slice F H G);have Y2:=X2.three14 (g:=w.heap.size+1) (by omega) (C0 r) (C0 m) (.slice F H G);have s3:=Y2.c0;have s4:=Y2.c1;have s5:=Y2.c2;have f3:=Y2.free 0;have f4:=Y2.free 1;have f5:=Y2.free 2;have Z1:=Y1.three14 (g:=w.heap.size+1+1) (by omega) (C0 m) (C0 c) (.slice l M L);have Z2:=Y2.put (C0 m) (C0 c) (.slice l M L);have z0:=Z1.c0;have z1:=Z1.c1;have z2:=Z1.c2;have z3:=Z2.c0;have z4:=Z2.c1;have z5:=Z2.c2;have BP:=ac (az (az (uH S2).bel (b:=w.heap.size+1) (by omega) (C0 r) (C0 m) (.slice F H G)) (b:=w.heap.size+1+1) (by omega) (C0 m) (C0 c) (.slice l M L));have PQ:=ac ((Q1.putM X1 (C0 r) (C0 m) (.slice F H G)).putM Y2 (C0 m) (C0 c) (.slice l M L));have PR:=ac ((Q3.putM X1 (C0 r) (C0 m) (.slice F H G)).putM Y2 (C0 m) (C0 c) (.slice l M L));clear X1 X2 Y1 Y2 Z1 Z2 S2 Q1 Q3;have ap:=ac (show _/\_/\_/\_/\_/\_ from⟨cw y3,cw y4,cw y5,cw y0,cw y1,cw y2⟩);have U:=ac (show _/\_/\_/\_/\_/\_ from⟨cg (u:=.int .i64 r) (u':=.int .i64 m) (u'':=.slice F H G) (show Z.heap.size≠w.heap.size+1 by have:=uH J;omega) y3,cg (u:=.int .i64 r) (u':=.int .i64 m) (u'':=.slice F H G) (show Z.heap.size≠w.heap.size+1 by have:=uH J;omega) y4,cg (u:=.int .i64 r) (u':=.int .i64 m) (u'':=.slice F H G) (show Z.heap.size≠w.heap.size+1 by have:=uH J;omega) y5,cg (u:=.int .i64 r) (u':=.int .i64 m) (u'':=.slice F H G) (show w3.heap.size≠w.heap.size+1 by have:=uH K;omega) y0,cg (u:=.int .i64 r) (u':=.int .i64 m) (u'':=.slice F H G) (show w3.heap.size≠w.heap.size+1 by have:=uH K;omega) y1,cg (u:=.int .i64 r) (u':=.int .i64 m) (u'':=.slice F H G) (show w3.heap.size≠w.heap.size+1 by have:=uH K;omega) y2⟩);have ax:=ac (show _/\_/\_/\_/\_/\_ from⟨aR (u:=.int .i64 r) (u':=.int .i64 m) (u'':=.slice F H G) (show Z.heap.size≠w.heap.size+1 by have:=uH J;omega) y3,aR (u:=.int .i64 r) (u':=.int .i64 m) (u'':=.slice F H G) (show Z.heap.size≠w.heap.size+1 by have:=uH J;omega) y4,aR (u:=.int .i64 r) (u':=.int .i64 m) (u'':=.slice F H G) (show Z.heap.size≠w.heap.size+1 by have:=uH J;omega) y5,aR (u:=.int .i64 r) (u':=.int .i64 m) (u'':=.slice F H G) (show w3.heap.size≠w.heap.size+1 by have:=uH K;omega) y0,aR (u:=.int .i64 r) (u':=.int .i64 m) (u'':=.slice F H G) (show w3.heap.size≠w.heap.size+1 by have:=uH K;omega) y1,aR (u:=.int .i64 r) (u':=.int .i64 m) (u'':=.slice F H G) (show w3.heap.size≠w.heap.size+1 by have:=uH K;omega) y2⟩);have aa:=ac (show _/\_/\_/\_/\_/\_ from⟨aR (u:=.int .i64 m) (u':=.int .i64 c) (u'':=.slice l M L) (show Z.heap.size≠w.heap.size+1+1 by have:=uH J;omega) (uH U).1,aR (u:=.int .i64 m) (u':=.int .i64 c) (u'':=.slice l M L) (show Z.heap.size≠w.heap.size+1+1 by have:=uH J;omega) (uH U).2.1,aR (u:=.int .i64 m) (u':=.int .i64 c) (u'':=.slice l M L) (show Z.heap.size≠w.heap.size+1+1 by have:=uH J;omega) (uH U).2.2.1,aR (u:=.int .i64 m) (u':=.int .i64 c) (u'':=.slice l M L) (show w3.heap.size≠w.heap.size+1+1 by have:=uH K;omega) (uH U).2.2.2.1,aR (u:=.int .i64 m) (u':=.int .i64 c) (u'':=.slice l M L) (show w3.heap.size≠w.heap.size+1+1 by have:=uH K;omega) (uH U).2.2.2.2.1,aR (u:=.int .i64 m) (u':=.int .i64 c) (u'':=.slice l M L) (show w3.heap.size≠w.heap.size+1+1 by have:=uH K;omega) (uH U).2.2.2.2.2⟩);clear y0 y1 y2 y3 y4 y5;refine wp_region_held_drew (S:=(fun D=>D.cell? ⟨Z.heap.size,0,none⟩=some (C0 (r:Int))/\D.cell? ⟨Z.heap.size,1,none⟩=some (C0 (m:Int))/\D.cell? ⟨Z.heap.size,2,none⟩=some (.slice F H G)/\D.cell? ⟨w3.heap.size,0,none⟩=some (C0 (m:Int))/\D.cell? ⟨w3.heap.size,1,none⟩=some (C0 (c:Int))/\D.cell? ⟨w3.heap.size,2,none⟩=some (.slice l M L))) (by kernel_rfl) ?_ (fun N=>?_)
 ·exact uH ap
 refine wpAnyH_take (i:=0) (oi:={dst:=some 45,op:=Op.load 24 (Operand.tmp 9),type:=24,pos:= "qr.go:51",after:=#[],guard:=none}) (v:=(Value.agg #[C0 (r:Int),C0 (m:Int),.slice F H G])) rfl (by kernel_rfl) (by kernel_rfl) (by kernel_rfl) (fun _ _ _ h=>h) (Or.inl ⟨by rfl,?_⟩) (by assumption) ?_
 ·(intro w ae;(try dsimp only at ae);go_simp)
 simp only[Act.put,List.setIfInBounds_toArray,List.set_cons_zero,List.set_cons_succ];refine wpAnyH_take (i:=1) (oi:={dst:=some 46,op:=Op.load 24 (Operand.tmp 11),type:=24,pos:= "qr.go:51",after:=#[{on:=2,ground:=Ground.gcOnly Departure.lateStores}],guard:=none}) (v:=(Value.agg #[C0 (m:Int),C0 (c:Int),.slice l M L])) rfl (by kernel_rfl) (by kernel_rfl) (by kernel_rfl) (fun _ _ _ h=>h) (Or.inl ⟨by rfl,?_⟩) (by assumption) ?_
 ·(intro w ae;(try dsimp only at ae);go_simp)
 simp only[Act.put,List.setIfInBounds_toArray,List.set_cons_zero,List.set_cons_succ];refine wpAnyH_ready (rs:=[2]) (by kernel_rfl) (by simp) ?_;refine AllReadyH.cons (o:={dst:=none,op:=Op.store 24 (Operand.tmp 2) (Operand.tmp 45),type:=0,pos:= "qr.go:51",after:=#[{on:=0,ground:=Ground.data},{on:=0,ground:=Ground.phase},{on:=1,ground:=Ground.textOnly Departure.lateStores}],guard:=none}) rfl (fun KK hK=>?_) AllReadyH.nil;go_simp;refine hK.out _ _ ?_ (fun N=>?_)
 ·exact uH ax
 clear hK KK;refine wpAnyH_ready (rs:=[3]) (by kernel_rfl) (by simp) ?_;refine AllReadyH.cons (o:={dst:=none,op:=Op.store 24 (Operand.tmp 3) (Operand.tmp 46),type:=0,pos:= "qr.go:51",after:=#[{on:=1,ground:=Ground.data},{on:=2,ground:=Ground.chain},{on:=0,ground:=Ground.phase},{on:=1,ground:=Ground.phase},{on:=2,ground:=Ground.phase}],guard:=none}) rfl (fun KK hK=>?_) AllReadyH.nil;go_simp;refine hK.out _ _ ?_ (fun N=>?_)
 ·exact uH aa
 clear hK KK;refine wpAnyH_ready (rs:=[4]) (by kernel_rfl) (by simp) ?_;refine AllReadyH.cons (o:={dst:=some 4,op:=Op.assign (Operand.const (Value.int IntKind.i64 0)),type:=27,pos:= "qr.go:51",after:=#[{on:=3,ground:=Ground.chain},{on:=0,ground:=Ground.phase},{on:=1,ground:=Ground.phase},{on:=2,ground:=Ground.phase},{on:=3,ground:=Ground.phase}],guard:=none}) rfl (fun KK hK=>?_) AllReadyH.nil;go_simp;refine hK.out _ _ ?_ (fun N=>?_)
 ·exact uH aa
 clear hK KK;refine wpAnyH_done (by kernel_rfl) ?_ _;clear ap ax aa U;go_wp2_with fail;refine bodyPost_ret (v:=.tuple #[.agg #[C0 r,C0 m,.slice F H G],.agg #[C0 m,C0 c,.slice l M L],C0 0]) (by simp[results,Tryz.results49,go_sem,z0,z1,z2,z3,z4,z5]) rfl ⟨_,_,rfl,⟨F,G,by rw[uH L3],uH a0,(uH PQ).below (Below.refl _ _).drew⟩,⟨l,L,by rw[uH L4],uH a1,(uH PR).below (Below.refl _ _).drew⟩,(uH BP).drew⟩
theorem Ad(r c:Int)(ao:GY)(n cap:Nat)(p s:Int)(bo:GY)(m d O I x y u v:Nat)(T M:H3)(er:Int)(w:World)(l1:T.length=O)(l2:M.length=I)
  (C1:∀h,H8 w h->GF 103 #[.agg #[C0 r,C0 c,.slice ao n cap]] h fun e l=>∃v,e=.returned (.tuple #[v,C0 0])/\bO h.heap.size l x y T v/\H8 h l)
  (C2:∀h po pc,H8 w h->ag h po pc (aX T)->GF 75 #[.agg #[C0 x,C0 y,.slice po O pc],.agg #[C0 p,C0 s,.slice bo m d]] h fun e l=>∃k,e=.returned (.tuple #[k,C0 er])/\bO h.heap.size l u v M k/\H8 h l):
  GF 51 #[.agg #[C0 r,C0 c,.slice ao n cap],.agg #[C0 p,C0 s,.slice bo m d]] w fun e h=>∃k,e=.returned (.tuple #[k,C0 er])/\bO w.heap.size h u v M k/\H8 w h:=by
 have t:=zT w (C0 r) (C0 c) (.slice ao n cap) (C0 p) (C0 s) (.slice bo m d) (C0 0) (C0 0) (.slice none 0 0) _ (Below.refl _ _);have K1:=ac (C1 _ t.1);have K2:=ac C2;have L1:=ac l1;have L2:=ac l2;have F:=ac t.1;have Q:=ac t.2.2.2;have H:=ac t.2.2.1;clear C1 C2 t l1 l2
 go_enter Tryz.func51,Tryz.ntmps51
 go_wp2_with fail;refine(uH K1).mono ?_;rintro e w1 ⟨v1,rfl,⟨vo,vc,rfl,_,K⟩,G⟩;rw[uH L1];have J:=ad w1 (.cells #[C0 x,C0 y,.slice vo O vc] 24);have U:=ac (aE.new w1 (C0 x) (C0 y) (.slice vo O vc));replace Q:=ac (((uH Q).all G).all J);replace H:=ac (((uH H).all G).all J);have HQ:=ac (K.below J);have b1:=(uH F).trans (G.mono (uH F).size);replace F:=ac (b1.trans (J.mono b1.size));clear K1 G J b1 K;have q0:=(uH U).c0;have q1:=(uH U).c1;have q2:=(uH U).c2;have q3:=(uH H).c0;have q4:=(uH H).c1;have q5:=(uH H).c2;go_wp2_with fail;clear q0 q1 q2 q3 q4 q5;refine(uH K2 _ vo vc (uH F) (uH HQ)).mono ?_;rintro e w2 ⟨k,rfl,⟨L,N,rfl,hn,K⟩,G⟩;rw[uH L2];have D:=(uH Q).all G;have HN:=ac (hn.least (uH F).size);have hB:=(uH F).trans (G.mono (uH F).size);have f0:=D.free 0;have f1:=D.free 1;have f2:=D.free 2;have s0:=D.c0;have s1:=D.c1;have s2:=D.c2;have Z:=D.put (C0 u) (C0 v) (.slice L I N);have z0:=Z.c0;have z1:=Z.c1;have z2:=Z.c2;have BP:=ac (az hB (b:=w.heap.size+1+1) (by omega) (C0 u) (C0 v) (.slice L I N));have QP:=ac (K.putM D (C0 u) (C0 v) (.slice L I N));clear Z D hB G hn K F Q H U HQ K2;go_wp2_with fail;refine bodyPost_ret (v:=.tuple #[.agg #[C0 u,C0 v,.slice L I N],C0 er]) (by simp[results,Tryz.results51,go_sem,z0,z1,z2]) rfl ⟨_,rfl,⟨L,N,by rw[uH L2],uH HN,uH QP⟩,uH BP⟩
def eG(w:World)(b:Nat)(x y:Value):Prop:=w.heap[b]? =some (.cells #[x,y] 176 (0,0))
theorem eG.c0{w:World}{b:Nat}{x y:Value}(h:eG w b x y):w.cell? ⟨b,0,none⟩=some x:=by rw[cell_of_row w b 0 _ _ _ h];rfl
theorem eG.c1{w:World}{b:Nat}{x y:Value}(h:eG w b x y):w.cell? ⟨b,1,none⟩=some y:=by rw[cell_of_row w b 1 _ _ _ h];rfl
theorem eG.free{w:World}{b:Nat}{x y:Value}(h:eG w b x y)(j:Nat):w.frozen? ⟨b,j,none⟩=false:=frozen_of_row w b j _ _ h
theorem eG.lt{w:World}{b:Nat}{x y:Value}(h:eG w b x y):b<w.heap.size:=(Array.getElem?_eq_some_iff.1 h).1
theorem eG.below{w t:World}{b:Nat}{x y:Value}(h:eG w b x y){B:Nat}(D:Below B w t)(l:b<B):eG t b x y:=(D.block b l).trans h
theorem eG.new(w:World)(x y:Value):eG (w.alloc (.cells #[x,y] 176)) w.heap.size x y:=heap_alloc_new w _
theorem eG.all{w l:World}{b:Nat}{x y:Value}(h:eG w b x y)(t:H8 w l):eG l b x y:=h.below t h.lt
theorem eG.other{w:World}{b:Nat}{x y:Value}(h:eG w b x y){p:Addr}(l:b≠p.block)(u:Value):eG (w.setCell p u) b x y:=(Below.heap_setCell w p u b l).trans h
theorem eG.three{w:World}{b g:Nat}{x y:Value}(h:eG w b x y)(l:b≠g)(u u' u'':Value):eG (((w.setCell ⟨g,0,none⟩ u).setCell ⟨g,1,none⟩ u').setCell ⟨g,2,none⟩ u'') b x y:=
 ((h.other (p:=⟨g,0,none⟩) l _).other (p:=⟨g,1,none⟩) l _).other (p:=⟨g,2,none⟩) l _
theorem eG.put{w:World}{b:Nat}{x y:Value}(h:eG w b x y)(u u':Value):eG ((w.setCell ⟨b,0,none⟩ u).setCell ⟨b,1,none⟩ u') b u u':=by
 have l:=heap_setCell_same w b 0 _ _ u h;have t:=heap_setCell_same (w.setCell ⟨b,0,none⟩ u) b 1 _ _ u' l;unfold eG;rw[t]
 simp
theorem eG.grown{w l:World}{b:Nat}{x y:Value}(h:eG w b x y){o:Option Nat}(t:w.grownBy l o)(D:o≠some b):eG l b x y:=
 (t.block b h.lt D.symm).trans h
theorem aE.two16{w:World}{b g:Nat}{x y z:Value}(h:aE w b x y z)(l:b≠g)(u u':Value):aE ((w.setCell ⟨g,0,none⟩ u).setCell ⟨g,1,none⟩ u') b x y z:=
 (h.other (p:=⟨g,0,none⟩) l _).other (p:=⟨g,1,none⟩) l _
theorem bS.two16{w:World}{b g:Nat}{S:H3}(h:bS w b S)(l:b≠g)(u u':Value):bS ((w.setCell ⟨g,0,none⟩ u).setCell ⟨g,1,none⟩ u') b S:=by
 unfold bS;rw[Below.heap_setCell _ ⟨g,1,none⟩ u' b l,Below.heap_setCell _ ⟨g,0,none⟩ u b l];exact h
theorem rX{w l:World}{B b:Nat}(h:Below B w l)(t:B<=b)(u u':Value):Below B w ((l.setCell ⟨b,0,none⟩ u).setCell ⟨b,1,none⟩ u'):=
 (h.setCell t _).setCell t _
theorem DJ{w:World}{g:Nat}{ao:GY}{cap:Nat}{I:List Int}(h:ag w ao cap I)(l:k9 (some g) ao I)(u u':Value):ag ((w.setCell ⟨g,0,none⟩ u).setCell ⟨g,1,none⟩ u') ao cap I:=
 jA (jA h l (k8 w g 0 u)) l (k8 _ g 1 u')
structure DK (w wr:World) (r c n cap:Nat) (ro:GY) (S:H3):Prop where
 bel:H8 w wr
 a:aE wr w.heap.size (C0 r) (C0 c) (.slice ro n cap)
 res:aE wr (w.heap.size+1) (C0 0) (C0 0) (.slice none 0 0)
 mi:eG wr (w.heap.size+1+1) (.slice none 0 0) (CI 0)
 bits:ag wr ro cap (aX S)
theorem DK.all{w wr l:World}{r c n cap:Nat}{D:GY}{S:H3}(t:DK w wr r c n cap D S)(h:H8 wr l):DK w l r c n cap D S:=
 ⟨t.bel.trans (h.mono t.bel.size),t.a.all h,t.res.all h,t.mi.all h,t.bits.below h⟩
theorem DK.start{w:World}{r c n cap:Nat}{h:GY}{S:H3}(L:ag w h cap (aX S)):DK w (((w.alloc (.cells #[C0 r,C0 c,.slice h n cap] 24)).alloc (.cells #[C0 0,C0 0,.slice none 0 0] 24)).alloc (.cells #[.slice none 0 0,CI 0] 176)) r c n cap h S:=by
 have D:=ad w (.cells #[C0 r,C0 c,.slice h n cap] 24);have M:=an w (.cells #[C0 r,C0 c,.slice h n cap] 24);have N:=aE.new w (C0 r) (C0 c) (.slice h n cap);generalize w.alloc (.cells #[C0 r,C0 c,.slice h n cap] 24)=t at*;have F:=ad t (.cells #[C0 0,C0 0,.slice none 0 0] 24);have G:=an t (.cells #[C0 0,C0 0,.slice none 0 0] 24);have H:=aE.new t (C0 0) (C0 0) (.slice none 0 0);generalize t.alloc (.cells #[C0 0,C0 0,.slice none 0 0] 24)=K at*;have l:=ad K (.cells #[.slice none 0 0,CI 0] 176);have I:=eG.new K (.slice none 0 0) (CI 0);rw[M]at H G;rw[G]at I;have J:=D.trans (F.mono D.size);exact⟨J.trans (l.mono J.size),(N.all F).all l,H.all l,I,((L.below D).below F).below l⟩
def MQ(w w':World)(ok:Bool)(r c n L:Nat)(S V:H3)(tau:Nat)(e:Ending):Prop:=
 (ok=true/\∃g vo vc,e=.returned (.tuple #[.agg #[C0 r,C0 c,.slice (some ⟨g,0,none⟩) n n],.agg #[.slice vo L vc,CI tau],C0 0])/\w.heap.size<=g/\bS w' g S/\dw w.heap.size vo (aX V)/\ag w' vo vc (aX V)/\k9 (some g) vo (aX V))\/
 (ok=false/\e=.returned (.tuple #[.agg #[C0 0,C0 0,.slice none 0 0],.agg #[.slice none 0 0,CI 0],C0 2]))
theorem Lt(r c n cap j L F U:Nat)(ro:GY)(S AP NX X V:H3)(ok:Bool)(w:World)(hr:r<=6)(hj:j<r)(hL:r-j=L)(hS:ag w ro cap (aX S))
  (C2:∀h,ag h ro cap (aX S)->GF 95 #[.agg #[C0 r,C0 c,.slice ro n cap],C0 (j:Nat),C0 (j:Nat),C0 (L:Nat),C0 1] h fun e t=>∃I d,e=.returned (.tuple #[.agg #[C0 (L:Nat),C0 1,.slice I L d],C0 0])/\ag t I d (aX X)/\H8 h t)
  (C3:∀h I d,ok=true->H8 w h->ag h I d (aX X)->GF 225 #[.slice I L d] h fun e t=>∃G H,e=.returned (.tuple #[.slice G L H,CI (F:Nat),CI (U:Nat),C0 0])/\dw h.heap.size G (aX V)/\ag t G H (aX V)/\H8 h t)
  (C4:∀h I d,ok=false->H8 w h->ag h I d (aX X)->GF 225 #[.slice I L d] h fun e t=>∃so cs er,e=.returned (.tuple #[.slice so 0 cs,CI 0,CI 0,C0 er])/\(er=2\/er=4)/\H8 h t)
  (C5:∀h G H,H8 w h->ag h ro cap (aX S)->ag h G H (aX V)->GF 196 #[.agg #[C0 r,C0 c,.slice ro n cap],C0 (j:Nat),C0 (j:Nat),.slice G L H,CI (F:Nat)] h fun e t=>∃g,e=.returned (.tuple #[.agg #[C0 r,C0 c,.slice (some ⟨g,0,none⟩) n n],C0 0])/\h.heap.size<=g/\bS t g AP/\H8 h t)
  (C6:∀h g,bS h g AP->GF 226 #[.agg #[C0 r,C0 c,.slice (some ⟨g,0,none⟩) n n],C0 (j:Nat),CI (U:Nat)] h fun e t=>e=.returned (.tuple #[])/\bS t g NX/\h.grownBy t (some g)):
  GF 195 #[.agg #[C0 r,C0 c,.slice ro n cap],C0 (j:Nat)] w fun e h=>MQ w h ok r c n L NX V F e/\H8 w h:=by
 have l:=ac (DK.start (r:=r) (c:=c) (n:=n) hS);have K2:=ac (C2 _ (uH l).bits);have K3:=ac C3;have K4:=ac C4;have K5:=ac C5;have K6:=ac C6;have eL:IntKind.i64.wrap ((r:Int)-(j:Int))=(L:Int):=(bF _ (by omega)).trans (by omega);have ae:(r:Int)-(j:Int)=(L:Int):=by omega
 have y0:=(uH l).a.c0;have y1:=(uH l).a.c1;have y2:=(uH l).a.c2;clear C2 C3 C4 C5 C6 hS hL
 go_enter Tryz.func195,Tryz.ntmps195
 go_wp2_with fail;clear y0 y1 y2 eL ae;refine(uH K2).mono ?_;rintro e w1 ⟨I,d,rfl,hx,M⟩;have Z:=ad w1 (.cells #[C0 (L:Int),C0 1,.slice I L d] 24);have CB:=aE.new w1 (C0 (L:Int)) (C0 1) (.slice I L d);replace l:=ac (((uH l).all M).all Z);have HX:=ac (hx.below Z);have y2:=CB.c2;clear M hx Z K2 CB;go_wp2_with fail;clear y2
 cases ok with
 |false=>
  refine(uH K4 _ I d rfl (uH l).bel (uH HX)).mono ?_;rintro e w2 ⟨so,cs,er,rfl,ap,M⟩;have N:=(uH l).all M;have s0:=N.res.c0;have s1:=N.res.c1;have s2:=N.res.c2;have f0:=N.res.free 0;have f1:=N.res.free 1;have f2:=N.res.free 2;have Y1:=N.res.put (C0 0) (C0 0) (.slice none 0 0);have J:=N.mi.three (g:=w.heap.size+1) (by omega) (C0 0) (C0 0) (.slice none 0 0);have s3:=J.c0;have s4:=J.c1;have f3:=J.free 0;have f4:=J.free 1;have O:=Y1.two16 (g:=w.heap.size+1+1) (by omega) (.slice none 0 0) (CI 0);have Z2:=J.put (.slice none 0 0) (CI 0);have z0:=O.c0;have z1:=O.c1;have z2:=O.c2;have z3:=Z2.c0;have z4:=Z2.c1;have BP:=ac (rX (az N.bel (b:=w.heap.size+1) (by omega) (C0 0) (C0 0) (.slice none 0 0)) (b:=w.heap.size+1+1) (by omega) (.slice none 0 0) (CI 0));clear Y1 J O Z2 N l M HX K3 K4 K5 K6;rcases ap with rfl|rfl
  all_goals
   go_wp2_with fail;exact bodyPost_ret (v:=.tuple #[.agg #[C0 0,C0 0,.slice none 0 0],.agg #[.slice none 0 0,CI 0],C0 2]) (by simp[results,Tryz.results195,go_sem,z0,z1,z2,z3,z4]) rfl ⟨.inr ⟨rfl,rfl⟩,uH BP⟩
 |true=>
  refine(uH K3 _ I d rfl (uH l).bel (uH HX)).mono ?_;rintro e w2 ⟨G,H,rfl,hn,hv,M⟩;have HZ:=ac ((uH l).bel.size);have HM:=ac ((uH l).mi.lt);have aa:=ac hn;replace l:=ac ((uH l).all M);have HV:=ac hv;clear hn hv M HX K3 K4;have q0:=(uH l).a.c0;have q1:=(uH l).a.c1;have q2:=(uH l).a.c2;go_wp2_with fail;clear q0 q1 q2;refine(uH K5 _ G H (uH l).bel (uH l).bits (uH HV)).mono ?_;rintro e w3 ⟨g,rfl,hg,D,M⟩;have O4:=ac (k9.old (uH HV) (g:=some g) (fun k hk=>by cases hk;exact hg));have HG:=ac (show w.heap.size+1+1<g from Nat.lt_of_lt_of_le (uH l).mi.lt hg);replace l:=ac ((uH l).all M);have Z:=ad w3 (.cells #[C0 r,C0 c,.slice (some ⟨g,0,none⟩) n n] 24);have NB:=ac (aE.new w3 (C0 r) (C0 c) (.slice (some ⟨g,0,none⟩) n n));have am:=ac (show g≠w3.heap.size from Nat.ne_of_lt D.lt);replace l:=ac ((uH l).all Z);have V4:=ac (((uH HV).below M).below Z);have R4:=ac (D.below Z D.lt);have q0:=(uH NB).c0;have q1:=(uH NB).c1;have q2:=(uH NB).c2;clear M Z D hg K5 HV;go_wp2_with fail;clear q0 q1 q2;refine(uH K6 _ g (uH R4)).mono ?_;rintro e w4 ⟨rfl,D,K⟩;have V5:=jA (uH V4) (uH O4) K;have N5:=(uH NB).grown K (fun e=>by cases e;exact uH am rfl);have aI:=uH HG;have B5:H8 w w4:=(uH l).bel.grown K (uH l).bel.size (fun k hk=>by cases hk;omega);have Q:=(uH l).res.grown K (fun e=>by cases e;omega);have M5:=(uH l).mi.grown K (fun e=>by cases e;omega);have q0:=N5.c0;have q1:=N5.c1;have q2:=N5.c2;have s0:=Q.c0;have s1:=Q.c1;have s2:=Q.c2;have f0:=Q.free 0;have f1:=Q.free 1;have f2:=Q.free 2;have Y1:=Q.put (C0 r) (C0 c) (.slice (some ⟨g,0,none⟩) n n);have J:=M5.three (g:=w.heap.size+1) (by omega) (C0 r) (C0 c) (.slice (some ⟨g,0,none⟩) n n);have s3:=J.c0;have s4:=J.c1;have f3:=J.free 0;have f4:=J.free 1;have O:=Y1.two16 (g:=w.heap.size+1+1) (by omega) (.slice G L H) (CI F);have Z2:=J.put (.slice G L H) (CI F);have z0:=O.c0;have z1:=O.c1;have z2:=O.c2;have z3:=Z2.c0;have z4:=Z2.c1;have BP:=ac (rX (az B5 (b:=w.heap.size+1) (by omega) (C0 r) (C0 c) (.slice (some ⟨g,0,none⟩) n n)) (b:=w.heap.size+1+1) (by omega) (.slice G L H) (CI F));have RP:=ac ((D.three (g:=w.heap.size+1) (by omega) (C0 r) (C0 c) (.slice (some ⟨g,0,none⟩) n n)).two16 (g:=w.heap.size+1+1) (by omega) (.slice G L H) (CI F));have OM:k9 (some (w.heap.size+1+1)) G (aX V):=by
   rcases uH aa with e|⟨b,ax,rfl,a0⟩
   ·exact .inl e
   ·exact .inr ⟨b,ax,rfl,fun e=>by cases e;have:=uH HM;omega⟩
  have VP:=ac (DJ (V5.putM Q (C0 r) (C0 c) (.slice (some ⟨g,0,none⟩) n n)) OM (.slice G L H) (CI F));have HN:=ac ((uH aa).least (uH HZ));clear Y1 J O Z2 Q M5 B5 N5 V5 D K l V4 R4 NB K6 OM aa;go_wp2_with fail;exact bodyPost_ret (v:=.tuple #[.agg #[C0 r,C0 c,.slice (some ⟨g,0,none⟩) n n],.agg #[.slice G L H,CI F],C0 0]) (by simp[results,Tryz.results195,go_sem,z0,z1,z2,z3,z4]) rfl ⟨.inl ⟨rfl,g,G,H,rfl,by omega,uH RP,uH HN,uH VP,uH O4⟩,uH BP⟩
theorem tf{P:Program}(w:World){G:Array Oper}{o:Oper}{a:Act}{K:Act->World->Prop}{Q:Exit->Act->World->Prop}{E:Prop}(I:o.guard=none)(s x:Operand)(t:TypeId)
  (M:o.op=.call {callee:=.builtin .append,args:=#[s,x],argTypes:=#[t,t]}) (J L:Value) (F:Value->World->Prop) (N:a.eval s=J) (O:a.eval x=L)
  (U:∃l D,(Builtin.append_ #[t,t] o.type #[J,L]).run P w=.ok l D/\F l D) (h:∀l D,F l D->K (a.put o.dst l) D):
  if Region.wanted o (yielded G a.tmps)=true then Oper.wp P o a w K Q else E:=by
 have Z:Region.wanted o (yielded G a.tmps)=true:=by simp[Region.wanted,I]
 rw[if_pos Z];obtain⟨l,D,H,hF⟩:=U;unfold Oper.wp execOp;simp only[M,resolve,invoke,builtin,Sem.run_bind,Sem.run_pure,Result.andThen_ok,List.map_toArray,List.map_cons,List.map_nil,N,O,H];exact h l D hF
theorem Lu{x:Mr}{g:Option Nat}(h:k9 g x.ao (aX x.V)):MP g x:=by
 rcases h with e|e
 ·exact .inl (by cases hV:x.V with
   |nil=>rfl
   |cons y ys=>rw[hV]at e;cases e)
 ·exact .inr e
theorem cW.apartM{l:Nat}{w:World}{v:Value}{R:List Mr}(h:cW l w v R){g:Nat}{x y z:Value}(t:aE w g x y z):v.ownBlock≠some g:=by
 intro e;rcases h.1.2 with⟨D,_⟩|⟨k,cap,F,G,I,H,rest⟩
 ·rw[D]at e;simp[Value.ownBlock]at e
 ·rw[G]at e
  simp[Value.ownBlock]at e
  subst e;have e:=H.symm.trans t
  simp at e
theorem gW{w:World}{b g j:Nat}{u u' u'' v:Value}(l:b≠g)(h:w.cell? ⟨b,j,none⟩=some v):(((w.setCell ⟨g,0,none⟩ u).setCell ⟨g,1,none⟩ u').setCell ⟨g,2,none⟩ u'').cell? ⟨b,j,none⟩=some v:=by
 rw[au _ _ _ _ l,au _ _ _ _ l,au _ _ _ _ l];exact h
theorem oo.pushed{w wr:World}{h r c n cap:Nat}{ao:GY}{S U:H3}{ro:GY}{rc:Nat}{v:Value}{R:List Mr}(t:oo w wr h r c n cap ao S ro rc v R)(x:Mr)(hx:ag wr x.ao x.cap (aX x.V))(ha:k9 v.ownBlock x.ao (aX x.V))(hl:R.length<=1000000){g nb N:Nat}(G:bS wr g U)(H:v.ownBlock≠some g)(aa:w.heap.size+1+1<=g)(hf:∀x∈U,x<18446744073709551616)(I:U.length=n){y1 y2 y3 y4 y5:Value}(hN:aE wr nb y1 y2 y3)(hM:eG wr N y4 y5)(O:v.ownBlock≠some N)(ty:TypeId):
  ∃L F,(Builtin.append_ #[147,147] ty #[v,.slice (some ⟨wr.heap.size,0,none⟩) 1 1]).run Tryz.prog (wr.alloc (.cells #[.slice x.ao x.V.length x.cap,CI (x.tau:Nat)] 176))=.ok L F/\aE F h (C0 r) (C0 c) (.slice ro n rc)/\(oo w (((F.setCell ⟨h,0,none⟩ (C0 r)).setCell ⟨h,1,none⟩ (C0 c)).setCell ⟨h,2,none⟩ (.slice (some ⟨g,0,none⟩) n n)) h r c n cap ao U (some ⟨g,0,none⟩) n L (R++[x])/\bS (((F.setCell ⟨h,0,none⟩ (C0 r)).setCell ⟨h,1,none⟩ (C0 c)).setCell ⟨h,2,none⟩ (.slice (some ⟨g,0,none⟩) n n)) g U)/\aE F nb y1 y2 y3/\eG F N y4 y5:=by
 have ae:=t.rb.lt;have hh:=t.hh;have hv:=t.l.apartM t.rb;obtain⟨L,F,e1,e2,Z,M,e5⟩:=t.l.push x hx (Lu ha) hl (by omega) ty;have J:=ad wr (.cells #[.slice x.ao x.V.length x.cap,CI (x.tau:Nat)] 176);have t1:=t.all J;have K:=t1.rb.grown M hv;have Q:bS F g U:=(M.block g (G.below J G.lt).lt (fun e=>H e.symm)).trans (G.below J G.lt);have n0:w.heap.size≠h:=by omega
 have n1:w.heap.size+1≠h:=by omega
 have D:=Q.bits hf;rw[I]at D;have q:ag F (some ⟨g,0,none⟩) n (aX U):=D;have am:=G.lt;refine⟨L,F,e1,K,⟨⟨az (t.bel.trans (Z.mono (by omega))) (by omega) _ _ _,hh,(t.a.below Z (by omega)).three14 n0 _ _ _,(t.res.below Z (by omega)).three14 n1 _ _ _,K.put _ _ _,q.putM K _ _ _,.inr ⟨g,0,rfl,by omega⟩,I,e2.putQ K _ _ _,.inr ⟨g,0,rfl,fun e=>?_⟩⟩,Q.three (xC Q K) _ _ _⟩,(hN.all J).grown M (t.l.apartM hN),(hM.all J).grown M O⟩;rcases e5 with z|z
 ·rw[z]at e;exact H e.symm
 ·rw[z]at e;cases e;omega
theorem Lv(r c n cap K:Nat)(m:Int)(ao:GY)(RJ V:Nat->H3)(a7:Nat->Nat)(o:Nat->Bool)(ok:Bool)(w:World)(hr:r<=6)(hc:c<=6)(hm:m=min (c:Int) ((r:Int)-1))(hK:∀j:Nat,j<K↔(j:Int)<m)
  (lR:∀j,(RJ j).length=n) (lV:∀j,(V j).length=r-j) (hf:∀j,j<K->∀x∈RJ (j+1),x<18446744073709551616)
  (bo:ok=true↔∀j,j<K->o j=true)
  (C1:∀F,H8 w F->GF 95 #[.agg #[C0 r,C0 c,.slice ao n cap],C0 0,C0 0,C0 r,C0 c] F fun e ax=>∃po pc,e=.returned (.tuple #[.agg #[C0 r,C0 c,.slice po n pc],C0 0])/\dw F.heap.size po (aX (RJ 0))/\ag ax po pc (aX (RJ 0))/\H8 F ax)
  (C5:∀F j po pc,j<K->H8 w F->ag F po pc (aX (RJ j))->GF 195 #[.agg #[C0 r,C0 c,.slice po n pc],C0 (j:Nat)] F fun e ax=>MQ F ax (o j) r c n (r-j) (RJ (j+1)) (V j) (a7 j) e/\H8 F ax):
  GF 151 #[.agg #[C0 r,C0 c,.slice ao n cap]] w fun e F=>Ab w F ok r c n K (RJ K) V a7 e/\H8 w F:=by
 have bp:∀(W:World) ts t,(Builtin.min_ ts t #[C0 (c:Int),C0 ((r:Int)-1)]).run Tryz.prog W=.ok (C0 m) W:=fun W ts t=>by rw[hm];exact nN _ W ts t _ _
 have b3:IntKind.i64.wrap ((r:Int)-1)=(r:Int)-1:=bF _ (by omega);have ce:K<=6:=by
  rcases Nat.lt_or_ge 6 K with g|g
  ·have:=(hK 6).1 g
   omega
  ·exact g
 have b4:=ac (show∀j,j<K->j<r from fun j hj=>by have:=(hK j).1 hj;omega);have HK:=ac hK;have LR:=ac lR;have LV:=ac lV;have HF:=ac hf;have bq:=ac bo;have K1:=ac (C1 ((w.alloc (.cells #[C0 r,C0 c,.slice ao n cap] 24)).alloc (.cells #[C0 0,C0 0,.slice none 0 0] 24)) (by
  have b1:=ad w (.cells #[C0 r,C0 c,.slice ao n cap] 24);have b2:=ad (w.alloc (.cells #[C0 r,C0 c,.slice ao n cap] 24)) (.cells #[C0 0,C0 0,.slice none 0 0] 24);exact b1.trans (b2.mono b1.size)))
 (try unfold BS at K1);(try unfold H8 at K1);simp only[an]at K1;have KB:=ac (jf w (C0 r) (C0 c) (.slice ao n cap) (C0 0) (C0 0) (.slice none 0 0));have K5:=ac C5;clear hm hK lR lV hf bo C1 C5
 go_enter Tryz.func151,Tryz.ntmps151
 go_wp2_with fail;refine(uH K1).mono ?_;rintro e w1 ⟨po,pc,rfl,hn,hq,bG⟩;obtain⟨hB,hA,hX⟩:=uH KB w1 bG;have ST:=ac (oo.start hB hA hX hq (hn.least (by omega)) (uH LR 0));have y0:=(uH ST).a.c0;have y1:=(uH ST).a.c1;clear K1 KB bG hB hA hX hn hq;go_wp2_with fail;clear y0 y1 bp b3;generalize w1.heap.size=h at*
 go_loopw[7,27] (fun v a wr=>∃(j:Nat) (ro:GY) (rc:Nat) (R:List Mr),j<=K/\a=.int .i64 j/\Hid (R.length=j)/\Hid (∀k,k<j->(gJ R k).V=V k/\(gJ R k).tau=a7 k)/\Hid (∀k,k<j->o k=true)/\Hid (oo w wr h r c n cap ao (RJ j) ro rc v R)/\Hid (lf j n wr ro rc (RJ j))) (fun _ a _=>K-(intOf a).toNat)
 case atStart=>exact⟨0,po,pc,[],Nat.zero_le _,rfl,rfl,fun k H=>absurd H (Nat.not_lt_zero k),fun k H=>absurd H (Nat.not_lt_zero k),ST,fun H=>absurd H (Nat.lt_irrefl 0)⟩
 case round=>
  clear ST;obtain⟨j,ro,rc,R,ci,rfl,ap,bE,hO,hS,bm⟩:=hrel
  by_cases ae:j<K
  ·have b5:=(uH HK j).1 ae
   clear bm;have cf:=uH b4 j ae;obtain⟨L,hL⟩:∃L,r-j=L:=⟨_,rfl⟩;have G5:=ac (fun F po pc=>uH K5 F j po pc ae);have br:=ac (uH LV j);have b6:=ac (uH LR (j+1));have b7:=ac (uH HF j ae);rw[hL]at G5 br;generalize cc:a7 j=tj at*;generalize cd:V j=vj at*;generalize b0:RJ (j+1)=nj at*;generalize ck:RJ j=rj at*;have q0:=(uH hS).rb.c0;have q1:=(uH hS).rb.c1;have q2:=(uH hS).rb.c2;clear hL;go_wp2_with fail;clear q0 q1 q2;refine(uH G5 _ ro rc (uH hS).bel (uH hS).bits).mono ?_;rintro e D ⟨bI,hb⟩;have aa:=ac (fun k H=>((uH hS).l.lt k H).2);have bs:=ac (show w.heap.size+1+1<=_ from Nat.le_trans (uH hS).hh (Nat.le_of_lt (uH hS).rb.lt));have bt:=ac hb.size;have bc:=ac (uH hS).rb.lt;have P4:=ac ((uH hS).all hb);clear hb G5 hS;rcases bI with⟨ho,G,vo,vc,rfl,bV,Q,hn,hv,cb⟩|⟨ho,rfl⟩
   ·have N:=ad D (.cells #[C0 r,C0 c,.slice (some ⟨G,0,none⟩) n n] 24)
    have bv:=an D (.cells #[C0 r,C0 c,.slice (some ⟨G,0,none⟩) n n] 24);have bw:=aE.new D (C0 r) (C0 c) (.slice (some ⟨G,0,none⟩) n n);have O:=ad (D.alloc (.cells #[C0 r,C0 c,.slice (some ⟨G,0,none⟩) n n] 24)) (.cells #[.slice vo L vc,CI (tj:Nat)] 176);have bd:=eG.new (D.alloc (.cells #[C0 r,C0 c,.slice (some ⟨G,0,none⟩) n n] 24)) (.slice vo L vc) (CI (tj:Nat));rw[bv]at bd;have bx:=ac (show oo _ _ _ _ _ _ _ _ _ _ _ _ _/\aE _ _ _ _ _/\eG _ _ _ _/\bS _ _ _/\ag _ _ _ _ from⟨((uH P4).all N).all O,bw.all O,bd,(Q.below N Q.lt).below O (Q.below N Q.lt).lt,(hv.below N).below O⟩);have HO:=ac ho;have be:=ac bV;have HN:=ac hn;have a9:=ac (show _<=D.heap.size from uH bt);clear N bv bw O bd Q hv bV hn cb ho P4;go_wp2_with fail;refine aB (fun W=>oo w W h r c n cap ao rj ro rc u7 R/\aE W D.heap.size (C0 r) (C0 c) (.slice (some ⟨G,0,none⟩) n n)/\eG W (D.heap.size+1) (.slice vo L vc) (CI (tj:Nat))/\bS W G nj/\ag W vo vc (aX vj)) (uH bx) ?_;clear bx;rintro W6 ⟨p6,n6,m6,a6,v6⟩;have aI:∀q,(∀k,u7.ownBlock=some k->k<q)->u7.ownBlock≠some q:=fun q hq e=>Nat.lt_irrefl q (hq q e)
    have hd:=(Below.refl W6.heap.size W6).drew;have am:=oo.pushed (p6.all hd) ⟨vo,vc,vj,tj,0⟩ (v6.below hd) (k9.new (uH HN) (fun k H=>uH aa k H)) (by rw[uH ap];omega) (a6.below hd a6.lt) (aI _ (fun k H=>Nat.lt_of_lt_of_le (uH aa k H) (uH be))) (Nat.le_trans (uH bs) (uH be)) (uH b7) (uH b6) (n6.all hd) (m6.all hd) (aI _ (fun k H=>Nat.lt_of_lt_of_le (uH aa k H) (Nat.le_trans (uH a9) (Nat.le_succ _)))) 147
    dsimp only at am
    rw[uH br]at am;obtain⟨v9,w9,a1,a2,a3,a4,a5⟩:=am;have am:=ac (show∃v' F,_=_/\(aE F h (C0 r) (C0 c) (.slice ro n rc)/\(oo w (((F.setCell ⟨h,0,none⟩ (C0 r)).setCell ⟨h,1,none⟩ (C0 c)).setCell ⟨h,2,none⟩ (.slice (some ⟨G,0,none⟩) n n)) h r c n cap ao nj (some ⟨G,0,none⟩) n v' (R++[⟨vo,vc,vj,tj,0⟩])/\bS (((F.setCell ⟨h,0,none⟩ (C0 r)).setCell ⟨h,1,none⟩ (C0 c)).setCell ⟨h,2,none⟩ (.slice (some ⟨G,0,none⟩) n n)) G nj)/\(F.cell? ⟨D.heap.size,0,none⟩=some (C0 (r:Nat))/\F.cell? ⟨D.heap.size,1,none⟩=some (C0 (c:Nat))/\F.cell? ⟨D.heap.size,2,none⟩=some (.slice (some ⟨G,0,none⟩) n n))/\F.cell? ⟨D.heap.size+1,0,none⟩=some (.slice vo L vc)/\F.cell? ⟨D.heap.size+1,1,none⟩=some (CI (tj:Nat)))from⟨v9,w9,a1,a2,a3,⟨a4.c0,a4.c1,a4.c2⟩,a5.c0,a5.c1⟩);clear a1 a2 a3 a4 a5;have bb:=ac (fun J (hb:Below W6.drew.heap.size W6.drew J)=>(show(J.cell? ⟨D.heap.size,0,none⟩=some (C0 (r:Nat))/\J.cell? ⟨D.heap.size,1,none⟩=some (C0 (c:Nat))/\J.cell? ⟨D.heap.size,2,none⟩=some (.slice (some ⟨G,0,none⟩) n n))/\J.cell? ⟨D.heap.size+1,0,none⟩=some (.slice vo L vc)/\J.cell? ⟨D.heap.size+1,1,none⟩=some (CI (tj:Nat))from
     have x:=(n6.all hd).all hb;have y:=(m6.all hd).all hb;⟨⟨x.c0,x.c1,x.c2⟩,y.c0,y.c1⟩))
    have ba:D.heap.size≠h:=fun e=>by have:=uH bc;have:=uH a9;omega
    have bi:D.heap.size+1≠h:=fun e=>by have:=uH bc;have:=uH a9;omega
    have a0:=ac (fun(J:World) (k:(J.cell? ⟨D.heap.size,0,none⟩=some (C0 (r:Nat))/\J.cell? ⟨D.heap.size,1,none⟩=some (C0 (c:Nat))/\J.cell? ⟨D.heap.size,2,none⟩=some (.slice (some ⟨G,0,none⟩) n n))/\J.cell? ⟨D.heap.size+1,0,none⟩=some (.slice vo L vc)/\J.cell? ⟨D.heap.size+1,1,none⟩=some (CI (tj:Nat)))=>(show((((J.setCell ⟨h,0,none⟩ (C0 r)).setCell ⟨h,1,none⟩ (C0 c)).setCell ⟨h,2,none⟩ (.slice (some ⟨G,0,none⟩) n n)).cell? ⟨D.heap.size,0,none⟩=some (C0 (r:Nat))/\(((J.setCell ⟨h,0,none⟩ (C0 r)).setCell ⟨h,1,none⟩ (C0 c)).setCell ⟨h,2,none⟩ (.slice (some ⟨G,0,none⟩) n n)).cell? ⟨D.heap.size,1,none⟩=some (C0 (c:Nat))/\(((J.setCell ⟨h,0,none⟩ (C0 r)).setCell ⟨h,1,none⟩ (C0 c)).setCell ⟨h,2,none⟩ (.slice (some ⟨G,0,none⟩) n n)).cell? ⟨D.heap.size,2,none⟩=some (.slice (some ⟨G,0,none⟩) n n))/\(((J.setCell ⟨h,0,none⟩ (C0 r)).setCell ⟨h,1,none⟩ (C0 c)).setCell ⟨h,2,none⟩ (.slice (some ⟨G,0,none⟩) n n)).cell? ⟨D.heap.size+1,0,none⟩=some (.slice vo L vc)/\(((J.setCell ⟨h,0,none⟩ (C0 r)).setCell ⟨h,1,none⟩ (C0 c)).setCell ⟨h,2,none⟩ (.slice (some ⟨G,0,none⟩) n n)).cell? ⟨D.heap.size+1,1,none⟩=some (CI (tj:Nat))from
     ⟨⟨gW (u:=.int .i64 r) (u':=.int .i64 c) (u'':=.slice (some ⟨G,0,none⟩) n n) ba k.1.1,gW ba k.1.2.1,gW ba k.1.2.2⟩,gW bi k.2.1,gW bi k.2.2⟩))
    have NB:=ac (n6.all hd);have MB:=ac (m6.all hd);generalize D.heap.size=nb at*;clear p6 n6 m6 a6 v6 hd ba bi aI bc a9 be aa bs bt HN;refine wp_region_held_drew (S:=fun F=>(F.cell? ⟨nb,0,none⟩=some (C0 (r:Nat))/\F.cell? ⟨nb,1,none⟩=some (C0 (c:Nat))/\F.cell? ⟨nb,2,none⟩=some (.slice (some ⟨G,0,none⟩) n n))/\F.cell? ⟨nb+1,0,none⟩=some (.slice vo L vc)/\F.cell? ⟨nb+1,1,none⟩=some (CI (tj:Nat))) (by kernel_rfl) ?_ (fun U=>?_)
    ·exact⟨⟨(uH NB).c0,(uH NB).c1,(uH NB).c2⟩,(uH MB).c0,(uH MB).c1⟩
    refine wpAnyH_take (i:=0) (oi:={dst:=some 41,op:=Op.load 24 (Operand.tmp 9),type:=24,pos:= "qr.go:37",after:=#[],guard:=none}) (v:=Value.agg #[C0 r,C0 c,.slice (some ⟨G,0,none⟩) n n]) rfl (by kernel_rfl) (by kernel_rfl) (by kernel_rfl) (fun _ _ _ h=>h) (Or.inl ⟨by rfl,?_⟩) (by assumption) ?_
    ·(intro w Z;(try dsimp only at Z);go_simp)
    simp only[Act.put,List.setIfInBounds_toArray,List.set_cons_zero,List.set_cons_succ];refine wpAnyH_take (i:=1) (oi:={dst:=some 42,op:=Op.move (Operand.tmp 7),type:=147,pos:= "qr.go:37",after:=#[],guard:=none}) (v:=u7) rfl (by kernel_rfl) (by kernel_rfl) (by kernel_rfl) (fun _ _ _ h=>h) (Or.inl ⟨by rfl,?_⟩) (by assumption) ?_
    ·(intro w Z;(try dsimp only at Z);go_simp)
    simp only[Act.put,List.setIfInBounds_toArray,List.set_cons_zero,List.set_cons_succ];refine wpAnyH_take (i:=2) (oi:={dst:=some 43,op:=Op.load 176 (Operand.tmp 10),type:=176,pos:= "qr.go:37",after:=#[],guard:=none}) (v:=Value.agg #[.slice vo L vc,CI (tj:Nat)]) rfl (by kernel_rfl) (by kernel_rfl) (by kernel_rfl) (fun _ _ _ h=>h) (Or.inl ⟨by rfl,?_⟩) (by assumption) ?_
    ·(intro w Z;(try dsimp only at Z);go_simp)
    simp only[Act.put,List.setIfInBounds_toArray,List.set_cons_zero,List.set_cons_succ];refine wpAnyH_ready (rs:=[3]) (by kernel_rfl) (by simp) ?_;refine AllReadyH.cons (o:={dst:=some 44,op:=Op.buildSlice 147 1 #[(0,Operand.tmp 43)],type:=147,pos:= "qr.go:37",after:=#[{on:=2,ground:=Ground.data}],guard:=none}) rfl (fun K0 M=>?_) AllReadyH.nil;go_simp;refine M.out _ _ ?_ (fun U=>?_)
    ·exact uH bb _ (ad _ _)
    clear M K0;refine wpAnyH_ready (rs:=[4]) (by kernel_rfl) (by simp) ?_;refine AllReadyH.cons (o:={dst:=some 45,op:=Op.call {callee:=Callee.builtin Builtin.append,args:=#[Operand.tmp 42,Operand.tmp 44],argTypes:=#[147,147]},type:=147,pos:= "qr.go:37",after:=#[{on:=1,ground:=Ground.data},{on:=3,ground:=Ground.data}],guard:=none}) rfl (fun K0 M=>?_) AllReadyH.nil;refine tf _ (by rfl) _ _ 147 (by rfl) _ _ _ (by rfl) (by rfl) (uH am) ?_;clear am;rintro v9 w9 ⟨bJ,bU,bn⟩;have BX:=ac bJ;have P9:=ac bU;clear bJ bU;refine M.out _ _ ?_ (fun U=>?_)
    ·exact bn
    have bz:=ac bn;clear M K0 bn;refine wpAnyH_ready (rs:=[5]) (by kernel_rfl) (by simp) ?_;refine AllReadyH.cons (o:={dst:=none,op:=Op.store 24 (Operand.tmp 5) (Operand.tmp 41),type:=0,pos:= "qr.go:37",after:=#[{on:=0,ground:=Ground.data},{on:=4,ground:=Ground.chain},{on:=0,ground:=Ground.phase},{on:=1,ground:=Ground.textOnly Departure.lateStores},{on:=2,ground:=Ground.textOnly Departure.lateStores},{on:=3,ground:=Ground.textOnly Departure.lateStores},{on:=4,ground:=Ground.textOnly Departure.lateStoresUnsure}],guard:=none}) rfl (fun K0 M=>?_) AllReadyH.nil;have q0:=(uH BX).c0;have q1:=(uH BX).c1;have q2:=(uH BX).c2;have f0:=(uH BX).free 0;have f1:=(uH BX).free 1;have f2:=(uH BX).free 2;go_simp;clear q0 q1 q2 f0 f1 f2;refine M.out _ _ ?_ (fun U=>?_)
    ·exact uH a0 _ (uH bz)
    clear M K0;refine wpAnyH_take (i:=6) (oi:={dst:=some 7,op:=Op.assign (Operand.tmp 45),type:=147,pos:= "qr.go:37",after:=#[{on:=4,ground:=Ground.data},{on:=5,ground:=Ground.chain},{on:=0,ground:=Ground.phase},{on:=1,ground:=Ground.phase},{on:=2,ground:=Ground.phase},{on:=3,ground:=Ground.phase},{on:=4,ground:=Ground.phase},{on:=5,ground:=Ground.phase}],guard:=none}) (v:=v9) rfl (by kernel_rfl) (by kernel_rfl) (by kernel_rfl) (fun _ _ _ h=>h) (Or.inl ⟨by rfl,?_⟩) (by assumption) ?_
    ·(intro w Z;(try dsimp only at Z);go_simp)
    simp only[Act.put,List.setIfInBounds_toArray,List.set_cons_zero,List.set_cons_succ];refine wpAnyH_done (by kernel_rfl) ?_ _;clear bb a0 BX bz NB MB;go_wp2_with fail
    go_round
    case rel=>
     refine⟨j+1,some ⟨G,0,none⟩,n,R++[⟨vo,vc,vj,tj,0⟩],by omega,by go_num,?_,?_,?_,by rw[b0];exact ac (uH P9).1,ac (fun _=>⟨G,rfl,rfl,by rw[b0];exact(uH P9).2⟩)⟩
     ·show(R++[_]).length=j+1
      rw[List.length_append,uH ap];rfl
     ·show∀k,k<j+1->_
      intro k H;rw[Aa R _ k (by rw[uH ap];exact H)]
      by_cases g:k<R.length
      ·rw[if_pos g];exact uH bE k (by rw[<-uH ap];exact g)
      ·rw[if_neg g,show k=j by have:=uH ap;omega,cd,cc];exact⟨rfl,rfl⟩
     ·show∀k,k<j+1->_
      intro k H
      by_cases g:k<j
      ·exact uH hO k g
      ·rw[show k=j by omega];exact uH HO
    case measure=>first|(simp[intOf];done)|(simp[intOf];omega)
   ·have b8:Hid (ok=false):=ac (by
     cases H:ok with
     |false=>rfl
     |true=>exact absurd ((uH bq).1 H j ae) (by rw[ho];decide))
    have N:=ad D (.cells #[C0 0,C0 0,.slice none 0 0] 24);have O:=ad (D.alloc (.cells #[C0 0,C0 0,.slice none 0 0] 24)) (.cells #[.slice none 0 0,CI 0] 176);have X3:=((uH P4).all N).all O;have s0:=X3.res.c0;have s1:=X3.res.c1;have s2:=X3.res.c2;have f0:=X3.res.free 0;have f1:=X3.res.free 1;have f2:=X3.res.free 2;have XP:=X3.res.put (C0 0) (C0 0) (.slice none 0 0);have z0:=XP.c0;have z1:=XP.c1;have z2:=XP.c2;have BP:=ac (az X3.bel (b:=w.heap.size+1) (by omega) (C0 0) (C0 0) (.slice none 0 0));clear N O ho XP X3 P4;go_wp2_with fail;exact bodyPost_ret (v:=.tuple #[.agg #[C0 0,C0 0,.slice none 0 0],.slice none 0 0,C0 2]) (by simp[results,Tryz.results151,go_sem,z0,z1,z2]) rfl ⟨.inr ⟨uH b8,rfl⟩,uH BP⟩
  ·have b9:j=K:=by omega
   subst b9;have b5:¬((j:Int)<m):=fun q=>ae ((uH HK j).2 q)
   have bA:Hid (ok=true):=ac ((uH bq).2 (uH hO));have I:=uH hS;have q0:=I.rb.c0;have q1:=I.rb.c1;have q2:=I.rb.c2;have s0:=I.res.c0;have s1:=I.res.c1;have s2:=I.res.c2;have f0:=I.res.free 0;have f1:=I.res.free 1;have f2:=I.res.free 2;have XP:=I.res.put (C0 r) (C0 c) (.slice ro n rc);have z0:=XP.c0;have z1:=XP.c1;have z2:=XP.c2;have BP:=ac (az I.bel (b:=w.heap.size+1) (by omega) (C0 r) (C0 c) (.slice ro n rc));have QB:=ac (I.bits.putM I.res (C0 r) (C0 c) (.slice ro n rc));have QL:=ac (I.l.putQ I.res (C0 r) (C0 c) (.slice ro n rc));have HN:=ac I.new;have ca:=ac ((uH bm).putM I.res (C0 r) (C0 c) (.slice ro n rc));clear XP I hS bm;go_wp2_with fail;exact bodyPost_ret (v:=.tuple #[.agg #[C0 r,C0 c,.slice ro n rc],_,C0 0]) (by simp[results,Tryz.results151,go_sem,z0,z1,z2]) rfl ⟨.inl ⟨uH bA,_,_,_,R,rfl,uH HN,uH QB,uH QL,uH ap,uH bE,uH ca⟩,uH BP⟩
def nilAt(N:List Rw)(i c:Nat):Prop:=(Q7 (Q8 N i).R c).L.length=0
end Go.Proofs.YtcbcmlaogehimaaGreatDoor
