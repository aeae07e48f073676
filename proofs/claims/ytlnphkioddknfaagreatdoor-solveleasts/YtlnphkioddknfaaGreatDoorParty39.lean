/- Part 39 of the texts. -/
import Derived.Test.YtlnphkioddknfaaGreatDoorParty38
set_option maxHeartbeats 32000000
set_option maxRecDepth 20000
namespace Go.Proofs.YtlnphkioddknfaaGreatDoor
open Go.RowKit
attribute [local go_sem ↓] Go.wp_at_zero Go.wp_at_succ
theorem pg{P:Program}(w:World){l:Array Oper}{o:Oper}{a:Act}{K:Act→World→Prop}{Q:Exit→Act→World→Prop}{E:Prop}(y:o.guard=none)(s x:Operand)(t:TypeId)
  (D:o.op=.call {callee:=.builtin .append,args:=#[s,x],argTypes:=#[t,t]}) (z A:Value) (F:Value→World→Prop) (G:a.eval s=z) (H:a.eval x=A)
  (I:∃d f,(Builtin.append_ #[t,t] o.type #[z,A]).run P w=.ok d f∧F d f) (h:∀d f,F d f→K (a.put o.dst d) f):
  if Region.wanted o (yielded l a.tmps)=true then Oper.wp P o a w K Q else E:=by
 have L:Region.wanted o (yielded l a.tmps)=true:=by simp[Region.wanted,y]
 rw[if_pos L]
 obtain⟨d,f,m,hF⟩:=I
 unfold Oper.wp execOp
 simp only[D,resolve,invoke,builtin,Sem.run_bind,Sem.run_pure,Result.andThen_ok,List.map_toArray,List.map_cons,List.map_nil,G,H,m]
 exact h d f hF
theorem F5{x:Mr}{g:Option Nat}(h:gD g x.ao (ar x.V)):zS g x:=by
 rcases h with e|e
 ·exact .inl (by cases hV:x.V with
   |nil=>rfl
   |cons y ys=>rw[hV]at e;cases e)
 ·exact .inr e
theorem bZ.apartM{d:Nat}{w:World}{v:Value}{R:List Mr}(h:bZ d w v R){g:Nat}{x y z:Value}(f:aq w g x y z):v.ownBlock≠some g:=by
 intro e
 rcases h.1.2 with⟨l,_⟩|⟨k,cap,m,t,D,A,rest⟩
 ·rw[l]at e;simp[Value.ownBlock]at e
 ·rw[t]at e
  simp[Value.ownBlock]at e
  subst e
  have e:=A.symm.trans f
  simp at e
theorem eC{w:World}{b g j:Nat}{u u' u'' v:Value}(d:b≠g)(h:w.cell? ⟨b,j,none⟩=some v):(((w.setCell ⟨g,0,none⟩ u).setCell ⟨g,1,none⟩ u').setCell ⟨g,2,none⟩ u'').cell? ⟨b,j,none⟩=some v:=by
 rw[ap _ _ _ _ d,ap _ _ _ _ d,ap _ _ _ _ d]
 exact h
theorem kV.pushed{w wr:World}{h r c n cap:Nat}{ao:Option Addr}{S U:List Nat}{N:Option Addr}{O:Nat}{v:Value}{R:List Mr}(t:kV w wr h r c n cap ao S N O v R)(x:Mr)(hx:ac wr x.ao x.cap (ar x.V))(ha:gD v.ownBlock x.ao (ar x.V))(hl:R.length≤1000000){g Q I:Nat}(m:aY wr g U)(y:v.ownBlock≠some g)(ae:w.heap.size+1+1≤g)(hf:∀x∈U,x<18446744073709551616)(A:U.length=n){X Y Z y4 y5:Value}(hN:aq wr Q X Y Z)(hM:cZ wr I y4 y5)(K:v.ownBlock≠some I)(ty:TypeId):
  ∃G f,(Builtin.append_ #[168,168] ty #[v,.slice (some ⟨wr.heap.size,0,none⟩) 1 1]).run Tryz.prog (wr.alloc (.cells #[.slice x.ao x.V.length x.cap,.int .u64 (x.tau:Nat)] 201))=.ok G f∧aq f h (.int .i64 r) (.int .i64 c) (.slice N n O)∧(kV w (((f.setCell ⟨h,0,none⟩ (.int .i64 r)).setCell ⟨h,1,none⟩ (.int .i64 c)).setCell ⟨h,2,none⟩ (.slice (some ⟨g,0,none⟩) n n)) h r c n cap ao U (some ⟨g,0,none⟩) n G (R++[x])∧aY (((f.setCell ⟨h,0,none⟩ (.int .i64 r)).setCell ⟨h,1,none⟩ (.int .i64 c)).setCell ⟨h,2,none⟩ (.slice (some ⟨g,0,none⟩) n n)) g U)∧aq f Q X Y Z∧cZ f I y4 y5:=by
 have aj:=t.rb.lt
 have hh:=t.hh
 have hv:=t.l.apartM t.rb
 obtain⟨G,f,e1,e2,M,H,e5⟩:=t.l.push x hx (F5 ha) hl (by omega) ty
 have D:=ab wr (.cells #[.slice x.ao x.V.length x.cap,.int .u64 (x.tau:Nat)] 201)
 have t1:=t.all D
 have F:=t1.rb.grown H hv
 have L:aY f g U:=(H.block g (m.below D m.lt).lt (fun e=>y e.symm)).trans (m.below D m.lt)
 have n0:w.heap.size≠h:=by omega
 have n1:w.heap.size+1≠h:=by omega
 have d:=L.bits hf
 rw[A]at d
 have q:ac f (some ⟨g,0,none⟩) n (ar U):=d
 have ak:=m.lt
 refine⟨G,f,e1,F,⟨⟨ai (t.bel.trans (M.mono (by omega))) (by omega) _ _ _,hh,(t.a.below M (by omega)).three14 n0 _ _ _,(t.res.below M (by omega)).three14 n1 _ _ _,F.put _ _ _,q.putM F _ _ _,.inr ⟨g,0,rfl,by omega⟩,A,e2.putQ F _ _ _,.inr ⟨g,0,rfl,fun e=>?_⟩⟩,L.three (tI L F) _ _ _⟩,(hN.all D).grown H (t.l.apartM hN),(hM.all D).grown H K⟩
 rcases e5 with z|z
 ·rw[z]at e;exact y e.symm
 ·rw[z]at e;cases e;omega
theorem F6(r c n cap K:Nat)(m:Int)(ao:Option Addr)(RJ V:Nat→List Nat)(ax:Nat→Nat)(o:Nat→Bool)(ok:Bool)(w:World)(hr:r≤6)(hc:c≤6)(hm:m=min (c:Int) ((r:Int)-1))(hK:∀j:Nat,j<K↔(j:Int)<m)
  (lR:∀j,(RJ j).length=n) (lV:∀j,(V j).length=r-j) (hf:∀j,j<K→∀x∈RJ (j+1),x<18446744073709551616)
  (bi:ok=true↔∀j,j<K→o j=true)
  (C1:∀f,Below w.heap.size w f→Calls Tryz.prog 125 #[.agg #[.int .i64 r,.int .i64 c,.slice ao n cap],.int .i64 0,.int .i64 0,.int .i64 r,.int .i64 c] f fun e ae=>∃po pc,e=.returned (.tuple #[.agg #[.int .i64 r,.int .i64 c,.slice po n pc],.int .i64 0])∧bH f.heap.size po (ar (RJ 0))∧ac ae po pc (ar (RJ 0))∧Below f.heap.size f ae)
  (C5:∀f j po pc,j<K→Below w.heap.size w f→ac f po pc (ar (RJ j))→Calls Tryz.prog 212 #[.agg #[.int .i64 r,.int .i64 c,.slice po n pc],.int .i64 (j:Nat)] f fun e ae=>Gx f ae (o j) r c n (r-j) (RJ (j+1)) (V j) (ax j) e∧Below f.heap.size f ae):
  Calls Tryz.prog 174 #[.agg #[.int .i64 r,.int .i64 c,.slice ao n cap]] w fun e f=>vN w f ok r c n K (RJ K) V ax e∧Below w.heap.size w f:=by
 have bj:∀(W:World) ts t,(Builtin.min_ ts t #[.int .i64 (c:Int),.int .i64 ((r:Int)-1)]).run Tryz.prog W=.ok (.int .i64 m) W:=fun W ts t=>by rw[hm];exact kJ _ W ts t _ _
 have b6:IntKind.i64.wrap ((r:Int)-1)=(r:Int)-1:=aP _ (by omega)
 have cl:K≤6:=by
  rcases Nat.lt_or_ge 6 K with g|g
  ·have:=(hK 6).1 g
   omega
  ·exact g
 have b9:=aa (show∀j,j<K→j<r from fun j hj=>by have:=(hK j).1 hj;omega)
 have HK:=aa hK;have LR:=aa lR;have LV:=aa lV;have HF:=aa hf;have bm:=aa bi
 have K1:=aa (C1 ((w.alloc (.cells #[.int .i64 r,.int .i64 c,.slice ao n cap] 24)).alloc (.cells #[.int .i64 0,.int .i64 0,.slice none 0 0] 24)) (by
  have b1:=ab w (.cells #[.int .i64 r,.int .i64 c,.slice ao n cap] 24)
  have b2:=ab (w.alloc (.cells #[.int .i64 r,.int .i64 c,.slice ao n cap] 24)) (.cells #[.int .i64 0,.int .i64 0,.slice none 0 0] 24)
  exact b1.trans (b2.mono b1.size)))
 simp only[ad]at K1
 have KB:=aa (dE w (.int .i64 r) (.int .i64 c) (.slice ao n cap) (.int .i64 0) (.int .i64 0) (.slice none 0 0))
 have K5:=aa C5
 clear hm hK lR lV hf bi C1 C5
 go_enter Tryz.func174,Tryz.ntmps174
 go_wp2_with fail
 refine(uH K1).mono ?_
 rintro e w1 ⟨po,pc,rfl,hn,hq,bA⟩
 obtain⟨hB,hA,hX⟩:=uH KB w1 bA
 have ST:=aa (kV.start hB hA hX hq (hn.least (by omega)) (uH LR 0))
 have y0:=(uH ST).a.c0;have y1:=(uH ST).a.c1
 clear K1 KB bA hB hA hX hn hq
 go_wp2_with fail
 clear y0 y1 bj b6
 generalize w1.heap.size=h at*
 go_loopw[7,27] (fun v a wr=>∃(j:Nat) (ro:Option Addr) (rc:Nat) (R:List Mr),j≤K∧a=.int .i64 j∧Hid (R.length=j)∧Hid (∀k,k<j→(bQ R k).V=V k∧(bQ R k).tau=ax k)∧Hid (∀k,k<j→o k=true)∧Hid (kV w wr h r c n cap ao (RJ j) ro rc v R)∧Hid (jv j n wr ro rc (RJ j))) (fun _ a _=>K-(intOf a).toNat)
 case atStart=>exact⟨0,po,pc,[],Nat.zero_le _,rfl,rfl,fun k A=>absurd A (Nat.not_lt_zero k),fun k A=>absurd A (Nat.not_lt_zero k),ST,fun A=>absurd A (Nat.lt_irrefl 0)⟩
 case round=>
  clear ST
  obtain⟨j,ro,rc,R,co,rfl,Y,bz,hO,Z,bc⟩:=hrel
  by_cases U:j<K
  ·have ca:=(uH HK j).1 U
   clear bc
   have cm:=uH b9 j U
   obtain⟨L,hL⟩:∃L,r-j=L:=⟨_,rfl⟩
   have G5:=aa (fun f po pc=>uH K5 f j po pc U)
   have bn:=aa (uH LV j);have cb:=aa (uH LR (j+1));have cc:=aa (uH HF j U)
   rw[hL]at G5 bn
   generalize cj:ax j=tj at*
   generalize ck:V j=vj at*
   generalize b5:RJ (j+1)=nj at*
   generalize cp:RJ j=rj at*
   have q0:=(uH Z).rb.c0;have q1:=(uH Z).rb.c1;have q2:=(uH Z).rb.c2
   clear hL
   go_wp2_with fail
   clear q0 q1 q2
   refine(uH G5 _ ro rc (uH Z).bel (uH Z).bits).mono ?_
   rintro e d ⟨bE,hb⟩
   have Q:=aa (fun k A=>((uH Z).l.lt k A).2)
   have bo:=aa (show w.heap.size+1+1≤_ from Nat.le_trans (uH Z).hh (Nat.le_of_lt (uH Z).rb.lt))
   have bq:=aa hb.size
   have a7:=aa (uH Z).rb.lt
   have P4:=aa ((uH Z).all hb)
   clear hb G5 Z
   rcases bE with⟨ho,z,vo,vc,rfl,b4,M,hn,hv,ci⟩|⟨ho,rfl⟩
   ·have H:=ab d (.cells #[.int .i64 r,.int .i64 c,.slice (some ⟨z,0,none⟩) n n] 24)
    have br:=ad d (.cells #[.int .i64 r,.int .i64 c,.slice (some ⟨z,0,none⟩) n n] 24)
    have bt:=aq.new d (.int .i64 r) (.int .i64 c) (.slice (some ⟨z,0,none⟩) n n)
    have I:=ab (d.alloc (.cells #[.int .i64 r,.int .i64 c,.slice (some ⟨z,0,none⟩) n n] 24)) (.cells #[.slice vo L vc,.int .u64 (tj:Nat)] 201)
    have a9:=cZ.new (d.alloc (.cells #[.int .i64 r,.int .i64 c,.slice (some ⟨z,0,none⟩) n n] 24)) (.slice vo L vc) (.int .u64 (tj:Nat))
    rw[br]at a9
    have bv:=aa (show kV _ _ _ _ _ _ _ _ _ _ _ _ _∧aq _ _ _ _ _∧cZ _ _ _ _∧aY _ _ _∧ac _ _ _ _ from⟨((uH P4).all H).all I,bt.all I,a9,(M.below H M.lt).below I (M.below H M.lt).lt,(hv.below H).below I⟩)
    have HO:=aa ho
    have ba:=aa b4;have HN:=aa hn
    have aI:=aa (show _≤d.heap.size from uH bq)
    clear H br bt I a9 M hv b4 hn ci ho P4
    go_wp2_with fail
    refine au (fun W=>kV w W h r c n cap ao rj ro rc u7 R∧aq W d.heap.size (.int .i64 r) (.int .i64 c) (.slice (some ⟨z,0,none⟩) n n)∧cZ W (d.heap.size+1) (.slice vo L vc) (.int .u64 (tj:Nat))∧aY W z nj∧ac W vo vc (ar vj)) (uH bv) ?_
    clear bv
    rintro W6 ⟨p6,n6,m6,am,v6⟩
    have aj:∀q,(∀k,u7.ownBlock=some k→k<q)→u7.ownBlock≠some q:=fun q hq e=>Nat.lt_irrefl q (hq q e)
    have hd:=(Below.refl W6.heap.size W6).drew
    have X:=kV.pushed (p6.all hd) ⟨vo,vc,vj,tj,0⟩ (v6.below hd) (gD.new (uH HN) (fun k A=>uH Q k A)) (by rw[uH Y];omega) (am.below hd am.lt) (aj _ (fun k A=>Nat.lt_of_lt_of_le (uH Q k A) (uH ba))) (Nat.le_trans (uH bo) (uH ba)) (uH cc) (uH cb) (n6.all hd) (m6.all hd) (aj _ (fun k A=>Nat.lt_of_lt_of_le (uH Q k A) (Nat.le_trans (uH aI) (Nat.le_succ _)))) 168
    dsimp only at X
    rw[uH bn]at X
    obtain⟨v9,w9,a1,a2,a3,a4,a5⟩:=X
    have X:=aa (show∃v' f,_=_∧(aq f h (.int .i64 r) (.int .i64 c) (.slice ro n rc)∧(kV w (((f.setCell ⟨h,0,none⟩ (.int .i64 r)).setCell ⟨h,1,none⟩ (.int .i64 c)).setCell ⟨h,2,none⟩ (.slice (some ⟨z,0,none⟩) n n)) h r c n cap ao nj (some ⟨z,0,none⟩) n v' (R++[⟨vo,vc,vj,tj,0⟩])∧aY (((f.setCell ⟨h,0,none⟩ (.int .i64 r)).setCell ⟨h,1,none⟩ (.int .i64 c)).setCell ⟨h,2,none⟩ (.slice (some ⟨z,0,none⟩) n n)) z nj)∧(f.cell? ⟨d.heap.size,0,none⟩=some (.int .i64 (r:Nat))∧f.cell? ⟨d.heap.size,1,none⟩=some (.int .i64 (c:Nat))∧f.cell? ⟨d.heap.size,2,none⟩=some (.slice (some ⟨z,0,none⟩) n n))∧f.cell? ⟨d.heap.size+1,0,none⟩=some (.slice vo L vc)∧f.cell? ⟨d.heap.size+1,1,none⟩=some (.int .u64 (tj:Nat)))from⟨v9,w9,a1,a2,a3,⟨a4.c0,a4.c1,a4.c2⟩,a5.c0,a5.c1⟩)
    clear a1 a2 a3 a4 a5
    have a6:=aa (fun F (hb:Below W6.drew.heap.size W6.drew F)=>(show(F.cell? ⟨d.heap.size,0,none⟩=some (.int .i64 (r:Nat))∧F.cell? ⟨d.heap.size,1,none⟩=some (.int .i64 (c:Nat))∧F.cell? ⟨d.heap.size,2,none⟩=some (.slice (some ⟨z,0,none⟩) n n))∧F.cell? ⟨d.heap.size+1,0,none⟩=some (.slice vo L vc)∧F.cell? ⟨d.heap.size+1,1,none⟩=some (.int .u64 (tj:Nat))from
     have x:=(n6.all hd).all hb;have y:=(m6.all hd).all hb;⟨⟨x.c0,x.c1,x.c2⟩,y.c0,y.c1⟩))
    have a0:d.heap.size≠h:=fun e=>by have:=uH a7;have:=uH aI;omega
    have bb:d.heap.size+1≠h:=fun e=>by have:=uH a7;have:=uH aI;omega
    have ak:=aa (fun(F:World) (k:(F.cell? ⟨d.heap.size,0,none⟩=some (.int .i64 (r:Nat))∧F.cell? ⟨d.heap.size,1,none⟩=some (.int .i64 (c:Nat))∧F.cell? ⟨d.heap.size,2,none⟩=some (.slice (some ⟨z,0,none⟩) n n))∧F.cell? ⟨d.heap.size+1,0,none⟩=some (.slice vo L vc)∧F.cell? ⟨d.heap.size+1,1,none⟩=some (.int .u64 (tj:Nat)))=>(show((((F.setCell ⟨h,0,none⟩ (.int .i64 r)).setCell ⟨h,1,none⟩ (.int .i64 c)).setCell ⟨h,2,none⟩ (.slice (some ⟨z,0,none⟩) n n)).cell? ⟨d.heap.size,0,none⟩=some (.int .i64 (r:Nat))∧(((F.setCell ⟨h,0,none⟩ (.int .i64 r)).setCell ⟨h,1,none⟩ (.int .i64 c)).setCell ⟨h,2,none⟩ (.slice (some ⟨z,0,none⟩) n n)).cell? ⟨d.heap.size,1,none⟩=some (.int .i64 (c:Nat))∧(((F.setCell ⟨h,0,none⟩ (.int .i64 r)).setCell ⟨h,1,none⟩ (.int .i64 c)).setCell ⟨h,2,none⟩ (.slice (some ⟨z,0,none⟩) n n)).cell? ⟨d.heap.size,2,none⟩=some (.slice (some ⟨z,0,none⟩) n n))∧(((F.setCell ⟨h,0,none⟩ (.int .i64 r)).setCell ⟨h,1,none⟩ (.int .i64 c)).setCell ⟨h,2,none⟩ (.slice (some ⟨z,0,none⟩) n n)).cell? ⟨d.heap.size+1,0,none⟩=some (.slice vo L vc)∧(((F.setCell ⟨h,0,none⟩ (.int .i64 r)).setCell ⟨h,1,none⟩ (.int .i64 c)).setCell ⟨h,2,none⟩ (.slice (some ⟨z,0,none⟩) n n)).cell? ⟨d.heap.size+1,1,none⟩=some (.int .u64 (tj:Nat))from
     ⟨⟨eC (u:=.int .i64 r) (u':=.int .i64 c) (u'':=.slice (some ⟨z,0,none⟩) n n) a0 k.1.1,eC a0 k.1.2.1,eC a0 k.1.2.2⟩,eC bb k.2.1,eC bb k.2.2⟩))
    have NB:=aa (n6.all hd);have MB:=aa (m6.all hd)
    generalize d.heap.size=nb at*
    clear p6 n6 m6 am v6 hd a0 bb aj a7 aI ba Q bo bq HN
    refine wp_region_held_drew (S:=fun f=>(f.cell? ⟨nb,0,none⟩=some (.int .i64 (r:Nat))∧f.cell? ⟨nb,1,none⟩=some (.int .i64 (c:Nat))∧f.cell? ⟨nb,2,none⟩=some (.slice (some ⟨z,0,none⟩) n n))∧f.cell? ⟨nb+1,0,none⟩=some (.slice vo L vc)∧f.cell? ⟨nb+1,1,none⟩=some (.int .u64 (tj:Nat))) (by kernel_rfl) ?_ (fun N=>?_)
    ·exact⟨⟨(uH NB).c0,(uH NB).c1,(uH NB).c2⟩,(uH MB).c0,(uH MB).c1⟩
    refine wpAnyH_take (i:=0) (oi:={dst:=some 41,op:=Op.load 24 (Operand.tmp 9),type:=24,pos:= "qr.go:37",after:=#[],guard:=none}) (v:=Value.agg #[.int .i64 r,.int .i64 c,.slice (some ⟨z,0,none⟩) n n]) rfl (by kernel_rfl) (by kernel_rfl) (by kernel_rfl) (fun _ _ _ h=>h) (Or.inl ⟨by rfl,?_⟩) (by assumption) ?_
    ·(intro w O;(try dsimp only at O);go_simp)
    simp only[Act.put,List.setIfInBounds_toArray,List.set_cons_zero,List.set_cons_succ]
    refine wpAnyH_take (i:=1) (oi:={dst:=some 42,op:=Op.move (Operand.tmp 7),type:=168,pos:= "qr.go:37",after:=#[],guard:=none}) (v:=u7) rfl (by kernel_rfl) (by kernel_rfl) (by kernel_rfl) (fun _ _ _ h=>h) (Or.inl ⟨by rfl,?_⟩) (by assumption) ?_
    ·(intro w O;(try dsimp only at O);go_simp)
    simp only[Act.put,List.setIfInBounds_toArray,List.set_cons_zero,List.set_cons_succ]
    refine wpAnyH_take (i:=2) (oi:={dst:=some 43,op:=Op.load 201 (Operand.tmp 10),type:=201,pos:= "qr.go:37",after:=#[],guard:=none}) (v:=Value.agg #[.slice vo L vc,.int .u64 (tj:Nat)]) rfl (by kernel_rfl) (by kernel_rfl) (by kernel_rfl) (fun _ _ _ h=>h) (Or.inl ⟨by rfl,?_⟩) (by assumption) ?_
    ·(intro w O;(try dsimp only at O);go_simp)
    simp only[Act.put,List.setIfInBounds_toArray,List.set_cons_zero,List.set_cons_succ]
    refine wpAnyH_ready (rs:=[3]) (by kernel_rfl) (by simp) ?_
    refine AllReadyH.cons (o:={dst:=some 44,op:=Op.buildSlice 168 1 #[(0,Operand.tmp 43)],type:=168,pos:= "qr.go:37",after:=#[{on:=2,ground:=Ground.data}],guard:=none}) rfl (fun K0 G=>?_) AllReadyH.nil
    go_simp
    refine G.out _ _ ?_ (fun N=>?_)
    ·exact uH a6 _ (ab _ _)
    clear G K0
    refine wpAnyH_ready (rs:=[4]) (by kernel_rfl) (by simp) ?_
    refine AllReadyH.cons (o:={dst:=some 45,op:=Op.call {callee:=Callee.builtin Builtin.append,args:=#[Operand.tmp 42,Operand.tmp 44],argTypes:=#[168,168]},type:=168,pos:= "qr.go:37",after:=#[{on:=1,ground:=Ground.data},{on:=3,ground:=Ground.data}],guard:=none}) rfl (fun K0 G=>?_) AllReadyH.nil
    refine pg _ (by rfl) _ _ 168 (by rfl) _ _ _ (by rfl) (by rfl) (uH X) ?_
    clear X
    rintro v9 w9 ⟨b0,b3,be⟩
    have BX:=aa b0;have P9:=aa b3
    clear b0 b3
    refine G.out _ _ ?_ (fun N=>?_)
    ·exact be
    have bw:=aa be
    clear G K0 be
    refine wpAnyH_ready (rs:=[5]) (by kernel_rfl) (by simp) ?_
    refine AllReadyH.cons (o:={dst:=none,op:=Op.store 24 (Operand.tmp 5) (Operand.tmp 41),type:=0,pos:= "qr.go:37",after:=#[{on:=0,ground:=Ground.data},{on:=4,ground:=Ground.chain},{on:=0,ground:=Ground.phase},{on:=1,ground:=Ground.textOnly Departure.lateStores},{on:=2,ground:=Ground.textOnly Departure.lateStores},{on:=3,ground:=Ground.textOnly Departure.lateStores},{on:=4,ground:=Ground.textOnly Departure.lateStoresUnsure}],guard:=none}) rfl (fun K0 G=>?_) AllReadyH.nil
    have q0:=(uH BX).c0;have q1:=(uH BX).c1;have q2:=(uH BX).c2
    have f0:=(uH BX).free 0;have f1:=(uH BX).free 1;have f2:=(uH BX).free 2
    go_simp
    clear q0 q1 q2 f0 f1 f2
    refine G.out _ _ ?_ (fun N=>?_)
    ·exact uH ak _ (uH bw)
    clear G K0
    refine wpAnyH_take (i:=6) (oi:={dst:=some 7,op:=Op.assign (Operand.tmp 45),type:=168,pos:= "qr.go:37",after:=#[{on:=4,ground:=Ground.data},{on:=5,ground:=Ground.chain},{on:=0,ground:=Ground.phase},{on:=1,ground:=Ground.phase},{on:=2,ground:=Ground.phase},{on:=3,ground:=Ground.phase},{on:=4,ground:=Ground.phase},{on:=5,ground:=Ground.phase}],guard:=none}) (v:=v9) rfl (by kernel_rfl) (by kernel_rfl) (by kernel_rfl) (fun _ _ _ h=>h) (Or.inl ⟨by rfl,?_⟩) (by assumption) ?_
    ·(intro w O;(try dsimp only at O);go_simp)
    simp only[Act.put,List.setIfInBounds_toArray,List.set_cons_zero,List.set_cons_succ]
    refine wpAnyH_done (by kernel_rfl) ?_ _
    clear a6 ak BX bw NB MB
    go_wp2_with fail
    go_round
    case rel=>
     refine⟨j+1,some ⟨z,0,none⟩,n,R++[⟨vo,vc,vj,tj,0⟩],by omega,by go_num,?_,?_,?_,by rw[b5];exact aa (uH P9).1,aa (fun _=>⟨z,rfl,rfl,by rw[b5];exact(uH P9).2⟩)⟩
     ·show(R++[_]).length=j+1
      rw[List.length_append,uH Y];rfl
     ·show∀k,k<j+1→_
      intro k A
      rw[vM R _ k (by rw[uH Y];exact A)]
      by_cases g:k<R.length
      ·rw[if_pos g];exact uH bz k (by rw[←uH Y];exact g)
      ·rw[if_neg g,show k=j by have:=uH Y;omega,ck,cj];exact⟨rfl,rfl⟩
     ·show∀k,k<j+1→_
      intro k A
      by_cases g:k<j
      ·exact uH hO k g
      ·rw[show k=j by omega];exact uH HO
    case measure=>first|(simp[intOf];done)|(simp[intOf];omega)
   ·have cd:Hid (ok=false):=aa (by
     cases A:ok with
     |false=>rfl
     |true=>exact absurd ((uH bm).1 A j U) (by rw[ho];decide))
    have H:=ab d (.cells #[.int .i64 0,.int .i64 0,.slice none 0 0] 24)
    have I:=ab (d.alloc (.cells #[.int .i64 0,.int .i64 0,.slice none 0 0] 24)) (.cells #[.slice none 0 0,.int .u64 0] 201)
    have X3:=((uH P4).all H).all I
    have s0:=X3.res.c0;have s1:=X3.res.c1;have s2:=X3.res.c2
    have f0:=X3.res.free 0;have f1:=X3.res.free 1;have f2:=X3.res.free 2
    have XP:=X3.res.put (.int .i64 0) (.int .i64 0) (.slice none 0 0)
    have z0:=XP.c0;have z1:=XP.c1;have z2:=XP.c2
    have BP:=aa (ai X3.bel (b:=w.heap.size+1) (by omega) (.int .i64 0) (.int .i64 0) (.slice none 0 0))
    clear H I ho XP X3 P4
    go_wp2_with fail
    exact bodyPost_ret (v:=.tuple #[.agg #[.int .i64 0,.int .i64 0,.slice none 0 0],.slice none 0 0,.int .i64 2]) (by simp[results,Tryz.results174,go_sem,z0,z1,z2]) rfl ⟨.inr ⟨uH cd,rfl⟩,uH BP⟩
  ·have ce:j=K:=by omega
   subst ce
   have ca:¬((j:Int)<m):=fun q=>U ((uH HK j).2 q)
   have bx:Hid (ok=true):=aa ((uH bm).2 (uH hO))
   have D:=uH Z
   have q0:=D.rb.c0;have q1:=D.rb.c1;have q2:=D.rb.c2
   have s0:=D.res.c0;have s1:=D.res.c1;have s2:=D.res.c2
   have f0:=D.res.free 0;have f1:=D.res.free 1;have f2:=D.res.free 2
   have XP:=D.res.put (.int .i64 r) (.int .i64 c) (.slice ro n rc)
   have z0:=XP.c0;have z1:=XP.c1;have z2:=XP.c2
   have BP:=aa (ai D.bel (b:=w.heap.size+1) (by omega) (.int .i64 r) (.int .i64 c) (.slice ro n rc))
   have QB:=aa (D.bits.putM D.res (.int .i64 r) (.int .i64 c) (.slice ro n rc))
   have QL:=aa (D.l.putQ D.res (.int .i64 r) (.int .i64 c) (.slice ro n rc))
   have HN:=aa D.new
   have cf:=aa ((uH bc).putM D.res (.int .i64 r) (.int .i64 c) (.slice ro n rc))
   clear XP D Z bc
   go_wp2_with fail
   exact bodyPost_ret (v:=.tuple #[.agg #[.int .i64 r,.int .i64 c,.slice ro n rc],_,.int .i64 0]) (by simp[results,Tryz.results174,go_sem,z0,z1,z2]) rfl ⟨.inl ⟨uH bx,_,_,_,R,rfl,uH HN,uH QB,uH QL,uH Y,uH bz,uH cf⟩,uH BP⟩
theorem dC.slice{d:Nat}{w:World}{v:Value}{R:List Mr}(h:dC d w v R):∃lo f,v=.slice lo R.length f:=by
 rcases h.1.2 with⟨l,m⟩|⟨g,cap,t,y,_⟩
 ·exact⟨none,0,by rw[l,m]⟩
 ·exact⟨_,_,y⟩
theorem zk(R:List Mr)(x:Mr):∀k,k<R.length+1→bQ (R++[x]) k=if k<R.length then bQ R k else x:=by
 intro k d
 unfold bQ
 by_cases g:k<R.length
 ·rw[if_pos g,List.getElem?_append_left g]
 ·rw[if_neg g,show k=R.length by omega,List.getElem?_append_right (Nat.le_refl _)]
  simp
theorem vQ(r c n nq cap K:Nat)(ao:Option Addr)(RJ AP X V QT:Nat→List Nat)(Q ae:Nat→Nat)(o1 o2:Nat→Bool)(fq fr ok:Bool)(w:World)(hr:r≤6)(hc:c≤6)(hK:∀j:Nat,j<K↔((j:Int)<(c:Int)∧(j:Int)<(r:Int)-1))
  (h0:ac w ao cap (ar (RJ 0))) (lR:∀j,(RJ j).length=n) (lV:∀j,(V j).length=r-j)
  (a9:ok=true↔((∀j,j<K→o1 j=true∧o2 j=true)∧fq=true∧fr=true))
  (C1:∀y j N O,j<K→ac y N O (ar (RJ j))→Calls Tryz.prog 80 #[.agg #[.int .i64 r,.int .i64 c,.slice N n O],.int .i64 (j:Nat),.int .i64 (j:Nat)] y fun e z=>∃bo d,e=.returned (.slice bo (r-j) d)∧ac z bo d (ar (X j))∧Below y.heap.size y z)
  (C2:∀y j bo d,j<K→ac y bo d (ar (X j))→Calls Tryz.prog 65 #[.slice bo (r-j) d] y fun e z=>e=.returned (.bool (o1 j))∧Below y.heap.size y z)
  (C3:∀y j bo d,j<K→o2 j=true→ac y bo d (ar (X j))→Calls Tryz.prog 154 #[.slice bo (r-j) d] y fun e z=>∃H L,e=.returned (.tuple #[.agg #[.slice H (r-j) L,.int .u64 (Q j:Nat),.int .u64 (ae j:Nat)],.bool true])∧bH y.heap.size H (ar (V j))∧ac z H L (ar (V j))∧Below y.heap.size y z)
  (C4:∀y j bo d,j<K→o2 j=false→ac y bo d (ar (X j))→Calls Tryz.prog 154 #[.slice bo (r-j) d] y fun e z=>e=.returned (.tuple #[.agg #[.slice none 0 0,.int .u64 0,.int .u64 0],.bool false])∧Below y.heap.size y z)
  (C5:∀y j N O H L,j<K→ac y N O (ar (RJ j))→ac y H L (ar (V j))→Calls Tryz.prog 156 #[.agg #[.int .i64 r,.int .i64 c,.slice N n O],.int .i64 (j:Nat),.int .i64 (j:Nat),.slice H (r-j) L,.int .u64 (Q j:Nat)] y fun e z=>∃I M,e=.returned (.agg #[.int .i64 r,.int .i64 c,.slice I n M])∧ac z I M (ar (AP j))∧Below y.heap.size y z)
  (C6:∀y j N O,j<K→ac y N O (ar (AP j))→Calls Tryz.prog 155 #[.agg #[.int .i64 r,.int .i64 c,.slice N n O],.int .i64 (j:Nat),.int .u64 (ae j:Nat)] y fun e z=>∃I M,e=.returned (.agg #[.int .i64 r,.int .i64 c,.slice I n M])∧bH y.heap.size I (ar (RJ (j+1)))∧ac z I M (ar (RJ (j+1)))∧Below y.heap.size y z)
  (C7:∀y,Calls Tryz.prog 25 #[.int .i64 r] y fun e z=>∃I M,e=.returned (.agg #[.int .i64 r,.int .i64 r,.slice I nq M])∧ac z I M (ar (QT 0))∧Below y.heap.size y z)
  (C8:∀y t j N O H L,t<K→j=K-1-t→ac y N O (ar (QT t))→ac y H L (ar (V j))→Calls Tryz.prog 156 #[.agg #[.int .i64 r,.int .i64 r,.slice N nq O],.int .i64 (j:Nat),.int .i64 0,.slice H (r-j) L,.int .u64 (Q j:Nat)] y fun e z=>∃I M,e=.returned (.agg #[.int .i64 r,.int .i64 r,.slice I nq M])∧ac z I M (ar (QT (t+1)))∧Below y.heap.size y z)
  (C9:∀y N O,ac y N O (ar (QT K))→Calls Tryz.prog 65 #[.slice N nq O] y fun e z=>e=.returned (.bool fq)∧Below y.heap.size y z)
  (CA:∀y N O,ac y N O (ar (RJ K))→Calls Tryz.prog 65 #[.slice N n O] y fun e z=>e=.returned (.bool fr)∧Below y.heap.size y z):
  Calls Tryz.prog 99 #[.agg #[.int .i64 r,.int .i64 c,.slice ao n cap]] w fun e y=>vL y ok r c nq n (QT K) (RJ K) e∧Below w.heap.size w y:=by
 have G:=aa (iD.start w r c n cap ao (RJ 0) h0 (lR 0))
 have HK:=aa hK;have LR:=aa lR;have LV:=aa lV;have a1:=aa a9
 have K1:=aa C1;have K2:=aa C2;have K3:=aa C3;have K4:=aa C4;have K5:=aa C5;have K6:=aa C6;have K7:=aa C7;have K8:=aa C8;have K9:=aa C9;have KA:=aa CA
 have ca:K≤5:=by
  rcases Nat.lt_or_ge 5 K with g|g
  ·have:=((hK 5).1 g).2
   omega
  ·exact g
 have cb:IntKind.i64.wrap ((r:Int)-1)=(r:Int)-1:=aP _ (by omega)
 clear hK lR lV a9 C1 C2 C3 C4 C5 C6 C7 C8 C9 CA h0
 have y0:=(uH G).a.c0;have y1:=(uH G).a.c1;have y2:=(uH G).a.c2
 go_enter Tryz.func99,Tryz.ntmps99
 go_wp2_with fail
 clear y0 y1 y2
 go_loopw[4,5] (fun v a wr=>∃(j:Nat) (ro:Option Addr) (rc:Nat) (R:List Mr),j≤K∧a=.int .i64 j∧Hid (R.length=j)∧Hid (∀k,k<j→(bQ R k).V=V k∧(bQ R k).tau=Q k)∧Hid (∀k,k<j→o1 k=true∧o2 k=true)∧Hid (iD w wr r c n cap ao (RJ j) ro rc v R)) (fun _ a _=>K-(intOf a).toNat)
 case atStart=>exact⟨0,ao,cap,[],Nat.zero_le _,rfl,rfl,fun k hk=>absurd hk (Nat.not_lt_zero k),fun k hk=>absurd hk (Nat.not_lt_zero k),G⟩
 case round=>
  clear G
  obtain⟨j,ro,rc,R,ci,rfl,ax,bq,hO,U⟩:=hrel
  have y0:=(uH U).a.c0;have y1:=(uH U).a.c1;have y2:=(uH U).a.c2
  by_cases Y:j<K
  ·obtain⟨cj,ck⟩:=(uH HK j).1 Y
   have q0:=(uH U).rb.c0;have q1:=(uH U).rb.c1;have q2:=(uH U).rb.c2
   go_wp2_with fail
   clear y0 y1 y2 q0 q1 q2
   refine(uH K1 _ j _ _ Y (uH U).bits).mono ?_
   rintro e w1 ⟨bo,d,rfl,hx,D⟩
   have S1:=aa ((uH U).all D)
   have HX:=aa hx
   clear D U hx
   go_wp2_with fail
   refine(uH K2 _ j _ _ Y (uH HX)).mono ?_
   rintro e w2 ⟨rfl,D⟩
   have S2:=aa ((uH S1).all D)
   replace HX:=aa ((uH HX).below D)
   clear D S1
   cases h1:o1 j with
   |false=>
    clear HX
    have f:=(uH S2).res
    have r0:=f.c0;have r1:=f.c1;have r2:=f.c2;have r3:=f.c3;have r4:=f.c4;have r5:=f.c5;have r6:=f.c6
    have f0:=f.free 0;have f1:=f.free 1;have f2:=f.free 2;have f3:=f.free 3;have f4:=f.free 4;have f5:=f.free 5;have f6:=f.free 6
    have A:=f.put (.int .i64 0) (.int .i64 0) (.slice none 0 0) (.int .i64 0) (.int .i64 0) (.slice none 0 0) (.bool false)
    have z0:=A.c0;have z1:=A.c1;have z2:=A.c2;have z3:=A.c3;have z4:=A.c4;have z5:=A.c5;have z6:=A.c6
    have BP:=aa (dj (uH S2).bel (g:=w.heap.size+1) (by omega) (.int .i64 0) (.int .i64 0) (.slice none 0 0) (.int .i64 0) (.int .i64 0) (.slice none 0 0) (.bool false))
    have am:Hid (ok=false):=aa (by
     cases hk:ok with
     |false=>rfl
     |true=>exact absurd ((uH a1).1 hk) (fun q=>by have:=(q.1 j Y).1;rw[h1]at this;cases this))
    clear f A S2
    go_wp2_with fail
    exact bodyPost_ret (v:=.agg #[.int .i64 0,.int .i64 0,.slice none 0 0,.int .i64 0,.int .i64 0,.slice none 0 0,.bool false]) (by simp[results,Tryz.results99,go_sem,z0,z1,z2,z3,z4,z5,z6]) rfl ⟨.inr ⟨uH am,rfl⟩,uH BP⟩
   |true=>
    go_wp2_with fail
    cases h2:o2 j with
    |false=>
     refine(uH K4 _ j _ _ Y h2 (uH HX)).mono ?_
     rintro e w3 ⟨rfl,D⟩
     have S3:=aa (((uH S2).all D).all (ab w3 (.cells #[.slice none 0 0,.int .u64 0,.int .u64 0] 150)))
     clear D S2 HX
     have f:=(uH S3).res
     have r0:=f.c0;have r1:=f.c1;have r2:=f.c2;have r3:=f.c3;have r4:=f.c4;have r5:=f.c5;have r6:=f.c6
     have f0:=f.free 0;have f1:=f.free 1;have f2:=f.free 2;have f3:=f.free 3;have f4:=f.free 4;have f5:=f.free 5;have f6:=f.free 6
     have A:=f.put (.int .i64 0) (.int .i64 0) (.slice none 0 0) (.int .i64 0) (.int .i64 0) (.slice none 0 0) (.bool false)
     have z0:=A.c0;have z1:=A.c1;have z2:=A.c2;have z3:=A.c3;have z4:=A.c4;have z5:=A.c5;have z6:=A.c6
     have BP:=aa (dj (uH S3).bel (g:=w.heap.size+1) (by omega) (.int .i64 0) (.int .i64 0) (.slice none 0 0) (.int .i64 0) (.int .i64 0) (.slice none 0 0) (.bool false))
     have am:Hid (ok=false):=aa (by
      cases hk:ok with
      |false=>rfl
      |true=>exact absurd ((uH a1).1 hk) (fun q=>by have:=(q.1 j Y).2;rw[h2]at this;cases this))
     clear f A S3
     go_wp2_with fail
     exact bodyPost_ret (v:=.agg #[.int .i64 0,.int .i64 0,.slice none 0 0,.int .i64 0,.int .i64 0,.slice none 0 0,.bool false]) (by simp[results,Tryz.results99,go_sem,z0,z1,z2,z3,z4,z5,z6]) rfl ⟨.inr ⟨uH am,rfl⟩,uH BP⟩
    |true=>
     refine(uH K3 _ j _ _ Y h2 (uH HX)).mono ?_
     rintro e w3 ⟨H,L,rfl,hn,hv,D⟩
     have ba:=ab w3 (.cells #[.slice H (r-j) L,.int .u64 (Q j:Nat),.int .u64 (ae j:Nat)] 150)
     have HM:=aa (eh.new 150 w3 (.slice H (r-j) L) (.int .u64 (Q j:Nat)) (.int .u64 (ae j:Nat)))
     have HF:=aa (gD.new hn (fun k hk=>((uH S2).l.1.lt k hk).2))
     have S3:=aa (((uH S2).all D).all ba)
     have HV:=aa (hv.below ba)
     have a7:=aa (show w.heap.size+1+1+1≤w3.heap.size from Nat.lt_of_lt_of_le (uH S2).rb.lt D.size)
     clear D hn hv ba S2 HX
     have G5:=aa (fun y N O H L hp hv=>uH K5 y j N O H L Y hp hv)
     have G6:=aa (fun y N O hp=>uH K6 y j N O Y hp)
     have bx:=aa (uH LV j);have bz:=aa (uH LR (j+1))
     have HT:=aa (show Q j=Q j from rfl)
     generalize b3:Q j=tj at*
     generalize cq:ae j=bj at*
     generalize b4:V j=vj at*
     generalize cs:AP j=aj at*
     generalize b5:RJ (j+1)=nj at*
     generalize ct:RJ j=rj at*
     go_wp2_with fail
     refine au (fun W=>iD w W r c n cap ao rj ro rc _ R∧eh 150 W w3.heap.size (.slice H (r-j) L) (.int .u64 (tj:Nat)) (.int .u64 (bj:Nat))∧ac W H L (ar vj)) ⟨uH S3,uH HM,uH HV⟩ ?_
     clear S3 HM HV
     generalize w3.heap.size=gm at*
     rintro W ⟨st,sm,sv⟩
     have hd:=(Below.refl W.heap.size W).drew
     have G:=aa (st.all hd)
     have SM:=aa (sm.all hd)
     have SV:=aa (sv.below hd)
     clear st sm sv hd
     have q0:=(uH G).rb.c0;have q1:=(uH G).rb.c1;have q2:=(uH G).rb.c2
     have m0:=(uH SM).c0;have m1:=(uH SM).c1;have m2:=(uH SM).c2
     go_region_with (first
      |(go_at_call 156;refine(uH G5 _ _ _ _ _ (uH G).bits (uH SV)).mono ?_;rintro e w5 ⟨aI,a0,rfl,a2,D⟩;clear q0 q1 q2 m0 m1 m2;replace G:=aa ((uH G).all D);replace SM:=aa ((uH SM).all D);replace SV:=aa ((uH SV).below D);have m0:=(uH SM).c0;have m1:=(uH SM).c1;have m2:=(uH SM).c2;have bb:=aa a2;clear D a2 G5)
      |(go_at_call 155;refine(uH G6 _ _ _ (uH bb)).mono ?_;rintro e w6 ⟨a4,a5,rfl,bv,bw,D⟩;clear m0 m1 m2 bb;have bc:=gD.new bv (fun k hk=>((uH G).l.1.lt k hk).2);have S6:=(uH G).all D;have M6:=(uH SM).all D;have V6:=(uH SV).below D;have q0:=S6.rb.c0;have q1:=S6.rb.c1;have q2:=S6.rb.c2;have f0:=S6.rb.free 0;have f1:=S6.rb.free 1;have f2:=S6.rb.free 2;have P6:=aa (S6.put bw (uH bz) bc);have PM:=aa (((M6.other (p:=⟨w.heap.size+1+1,0,none⟩) (by have:=uH a7;show gm≠w.heap.size+1+1;omega) (.int .i64 r)).other (p:=⟨w.heap.size+1+1,1,none⟩) (by have:=uH a7;show gm≠w.heap.size+1+1;omega) (.int .i64 c)).other (p:=⟨w.heap.size+1+1,2,none⟩) (by have:=uH a7;show gm≠w.heap.size+1+1;omega) (.slice a4 n a5));have PV:=aa (V6.putM S6.rb (.int .i64 r) (.int .i64 c) (.slice a4 n a5));clear S6 M6 V6 D bv bw bc G SM SV G6)
      |fail "NO ARM")
     all_goals
      clear q0 q1 q2 f0 f1 f2
      refine zg (fun W=>iD w W r c n cap ao nj a4 a5 _ R∧eh 150 W gm (.slice H (r-j) L) (.int .u64 (tj:Nat)) (.int .u64 (bj:Nat))∧ac W H L (ar vj)) ⟨uH P6,uH PM,uH PV⟩ ?_
      clear P6 PM PV
      rintro W2 ⟨st,sm,sv⟩
      obtain⟨v9,w9,a6,br⟩:=st.push ⟨H,L,vj,tj,bj⟩ sv (uH HF) (by rw[uH ax];omega) 148
      have a3:=aa a6
      dsimp only at a3
      rw[uH bx]at a3
      have P9:=aa br
      have m0:=sm.c0;have m1:=sm.c1;have m2:=sm.c2
      clear st sm sv a6 br
      go_wp2_with(at_builtin;refine aT _ rfl _ _ 148 rfl _ _ _ _ rfl rfl (uH a3) ?_;clear a3)
      go_round
      case rel=>
       refine⟨j+1,a4,a5,R++[⟨H,L,vj,tj,bj⟩],by omega,by go_num,?_,?_,?_,by rw[b5];exact P9⟩
       ·show(R++[_]).length=j+1
        rw[List.length_append,uH ax];rfl
       ·show∀k,k<j+1→_
        intro k hk
        rw[zk R _ k (by rw[uH ax];exact hk)]
        by_cases g:k<R.length
        ·rw[if_pos g];exact uH bq k (by rw[←uH ax];exact g)
        ·rw[if_neg g,show k=j by have:=uH ax;omega,b4,b3];exact⟨rfl,rfl⟩
       ·show∀k,k<j+1→_
        intro k hk
        by_cases g:k<j
        ·exact uH hO k g
        ·rw[show k=j by omega];exact⟨h1,h2⟩
      case measure=>simp[intOf];omega
  ·have bA:j=K:=by omega
   subst bA
   have b9:¬((j:Int)<(c:Int)∧(j:Int)<(r:Int)-1):=fun q=>Nat.lt_irrefl j ((uH HK j).2 q)
   obtain⟨lo,lc,bt⟩:=(uH U).l.slice
   rw[uH ax]at bt
   subst bt
   have G8:=K8
   rcases(show(c:Int)≤(j:Int)∨((j:Int)<(c:Int)∧(r:Int)-1≤(j:Int)) by omega)with g1|⟨g1,g2⟩
   all_goals
    go_wp2_with fail
    clear y0 y1 y2
    refine(uH K7 _).mono ?_
    rintro e w1 ⟨I,M,rfl,hq,D⟩
    have ba:=ab w1 (.cells #[.int .i64 r,.int .i64 r,.slice I nq M] 24)
    have HQ:=aa (aq.new w1 (.int .i64 r) (.int .i64 r) (.slice I nq M))
    have S1:=aa (((uH U).all D).all ba)
    have HB:=aa (hq.below ba)
    have bE:=aa (show w.heap.size+1+1+1≤w1.heap.size from Nat.lt_of_lt_of_le (uH U).rb.lt D.size)
    clear D hq ba U
    have cc:IntKind.i64.wrap ((j:Int)-1)=(j:Int)-1:=aP _ (by omega)
    go_wp2_with fail
    generalize w1.heap.size=gq at*
    go_loopw[10] (fun a wr=>∃(t:Nat) (I:Option Addr) (M:Nat),t≤j∧a=.int .i64 ((j:Int)-1-(t:Int))∧Hid (iD w wr r c n cap ao (RJ j) ro rc (.slice lo j lc) R∧aq wr gq (.int .i64 r) (.int .i64 r) (.slice I nq M)∧ac wr I M (ar (QT t)))) (fun a _=>(intOf a+1).toNat)
    case atStart=>exact⟨0,I,M,Nat.zero_le _,by simp,aa ⟨uH S1,uH HQ,uH HB⟩⟩
    case round=>
     clear S1 HQ HB
     obtain⟨t,I,M,cm,rfl,U⟩:=hrel
     by_cases be:t<j
     ·obtain⟨m,hm⟩:∃m,j-1-t=m:=⟨_,rfl⟩
      have b0:(j:Int)-1-(t:Int)=(m:Int):=by omega
      rw[b0]
      have cd:(m:Int)<(j:Int):=by omega
      obtain⟨gl,cl,el,co,cp,k0,k1,kb⟩:=(uH U).1.l.at (k:=m) (by rw[uH ax];omega)
      simp only[Value.slice.injEq]at el
      obtain⟨rfl,b2,rfl⟩:=el
      clear b2
      obtain⟨ev,et⟩:=uH bq m (by omega)
      rw[ev]at k0 kb
      rw[et]at k1
      rw[uH LV m]at k0
      have GQ:=aa (fun y N O H L hp hv=>uH G8 y t m N O H L be hm.symm hp hv)
      have KB:=aa kb
      have ce:=aa hm
      generalize (bQ R m).ao=H at*
      generalize (bQ R m).cap=L at*
      generalize Q m=tm at*
      generalize V m=vm at*
      generalize b6:QT (t+1)=nt at*
      clear kb ev et
      go_wp2_with fail
      refine au (fun W=>(iD w W r c n cap ao (RJ j) ro rc (.slice (some ⟨gl,0,none⟩) j lc) R∧aq W gq (.int .i64 r) (.int .i64 r) (.slice I nq M)∧ac W I M (ar (QT t)))∧(W.cell? ⟨gl,m*3,none⟩=some (.slice H (r-m) L)∧W.cell? ⟨gl,m*3+1,none⟩=some (.int .u64 (tm:Nat)))∧ac W H L (ar vm)) ⟨uH U,⟨k0,k1⟩,uH KB⟩ ?_
      clear U k0 k1 KB
      rintro W ⟨⟨st,sq,sb⟩,⟨k0,k1⟩,kb⟩
      have hd:=(Below.refl W.heap.size W).drew
      have G:=aa (st.all hd);have Z:=aa (sq.all hd);have SB:=aa (sb.below hd);have KB:=aa (kb.below hd)
      replace k0:=ah k0 hd
      replace k1:=ah k1 hd
      clear st sq sb kb hd
      have q0:=(uH Z).c0;have q1:=(uH Z).c1;have q2:=(uH Z).c2
      refine wp_region_held_drew (S:=(fun y=>y.cell? ⟨gl,m*3,none⟩=some (.slice H (r-m) L)∧y.cell? ⟨gl,m*3+1,none⟩=some (.int .u64 (tm:Nat)))) (by kernel_rfl) ?_ (fun ak=>?_)
      ·exact⟨k0,k1⟩
      refine wpAnyH_take (i:=1) (oi:={dst:=some 69,op:=Op.move (Operand.tmp 10),type:=3,pos:= "ref.go:44",after:=#[],guard:=none}) (v:=(Value.int .i64 (m:Int))) rfl (by kernel_rfl) (by kernel_rfl) (by kernel_rfl) (fun _ _ _ h=>h) (Or.inl ⟨by rfl,?_⟩) (by assumption) ?_
      ·(intro w F;(try dsimp only at F);go_simp)
      simp only[Act.put,List.setIfInBounds_toArray,List.set_cons_zero,List.set_cons_succ]
      refine wpAnyH_take (i:=2) (oi:={dst:=some 70,op:=Op.move (Operand.tmp 4),type:=148,pos:= "ref.go:44",after:=#[],guard:=none}) (v:=(Value.slice (some ⟨gl,0,none⟩) j lc)) rfl (by kernel_rfl) (by kernel_rfl) (by kernel_rfl) (fun _ _ _ h=>h) (Or.inl ⟨by rfl,?_⟩) (by assumption) ?_
      ·(intro w F;(try dsimp only at F);go_simp)
      simp only[Act.put,List.setIfInBounds_toArray,List.set_cons_zero,List.set_cons_succ]
      refine wpAnyH_take (i:=3) (oi:={dst:=some 71,op:=Op.move (Operand.tmp 10),type:=3,pos:= "ref.go:44",after:=#[],guard:=none}) (v:=(Value.int .i64 (m:Int))) rfl (by kernel_rfl) (by kernel_rfl) (by kernel_rfl) (fun _ _ _ h=>h) (Or.inl ⟨by rfl,?_⟩) (by assumption) ?_
      ·(intro w F;(try dsimp only at F);go_simp)
      simp only[Act.put,List.setIfInBounds_toArray,List.set_cons_zero,List.set_cons_succ]
      refine wpAnyH_take (i:=4) (oi:={dst:=some 72,op:=Op.indexAddr 148 (Operand.tmp 70) (Operand.tmp 71),type:=0,pos:= "ref.go:44",after:=#[{on:=2,ground:=Ground.data},{on:=3,ground:=Ground.data}],guard:=none}) (v:=(Value.pointer (some ⟨gl,m*3,none⟩))) rfl (by kernel_rfl) (by kernel_rfl) (by kernel_rfl) (fun _ _ _ h=>h) (Or.inl ⟨by rfl,?_⟩) (by assumption) ?_
      ·(intro w F;(try dsimp only at F);go_simp)
      simp only[Act.put,List.setIfInBounds_toArray,List.set_cons_zero,List.set_cons_succ]
      refine wpAnyH_take (i:=5) (oi:={dst:=some 73,op:=Op.fieldAddr 150 (Operand.tmp 72) 0,type:=0,pos:= "ref.go:44",after:=#[{on:=4,ground:=Ground.data}],guard:=none}) (v:=(Value.pointer (some ⟨gl,m*3,none⟩))) rfl (by kernel_rfl) (by kernel_rfl) (by kernel_rfl) (fun _ _ _ h=>h) (Or.inl ⟨by rfl,?_⟩) (by assumption) ?_
      ·(intro w F;(try dsimp only at F);go_simp)
      simp only[Act.put,List.setIfInBounds_toArray,List.set_cons_zero,List.set_cons_succ]
      refine wpAnyH_take (i:=6) (oi:={dst:=some 74,op:=Op.load 22 (Operand.tmp 73),type:=22,pos:= "ref.go:44",after:=#[{on:=5,ground:=Ground.data}],guard:=none}) (v:=(Value.slice H (r-m) L)) rfl (by kernel_rfl) (by kernel_rfl) (by kernel_rfl) (fun _ _ _ h=>h) (Or.inl ⟨by rfl,?_⟩) (by assumption) ?_
      ·(intro w F;(try dsimp only at F);go_simp)
      simp only[Act.put,List.setIfInBounds_toArray,List.set_cons_zero,List.set_cons_succ]
      refine wpAnyH_take (i:=7) (oi:={dst:=some 75,op:=Op.move (Operand.tmp 4),type:=148,pos:= "ref.go:44",after:=#[],guard:=none}) (v:=(Value.slice (some ⟨gl,0,none⟩) j lc)) rfl (by kernel_rfl) (by kernel_rfl) (by kernel_rfl) (fun _ _ _ h=>h) (Or.inl ⟨by rfl,?_⟩) (by assumption) ?_
      ·(intro w F;(try dsimp only at F);go_simp)
      simp only[Act.put,List.setIfInBounds_toArray,List.set_cons_zero,List.set_cons_succ]
      refine wpAnyH_take (i:=8) (oi:={dst:=some 76,op:=Op.move (Operand.tmp 10),type:=3,pos:= "ref.go:44",after:=#[],guard:=none}) (v:=(Value.int .i64 (m:Int))) rfl (by kernel_rfl) (by kernel_rfl) (by kernel_rfl) (fun _ _ _ h=>h) (Or.inl ⟨by rfl,?_⟩) (by assumption) ?_
      ·(intro w F;(try dsimp only at F);go_simp)
      simp only[Act.put,List.setIfInBounds_toArray,List.set_cons_zero,List.set_cons_succ]
      refine wpAnyH_take (i:=9) (oi:={dst:=some 77,op:=Op.indexAddr 148 (Operand.tmp 75) (Operand.tmp 76),type:=0,pos:= "ref.go:44",after:=#[{on:=7,ground:=Ground.data},{on:=8,ground:=Ground.data}],guard:=none}) (v:=(Value.pointer (some ⟨gl,m*3,none⟩))) rfl (by kernel_rfl) (by kernel_rfl) (by kernel_rfl) (fun _ _ _ h=>h) (Or.inl ⟨by rfl,?_⟩) (by assumption) ?_
      ·(intro w F;(try dsimp only at F);go_simp)
      simp only[Act.put,List.setIfInBounds_toArray,List.set_cons_zero,List.set_cons_succ]
      refine wpAnyH_take (i:=10) (oi:={dst:=some 78,op:=Op.fieldAddr 150 (Operand.tmp 77) 1,type:=0,pos:= "ref.go:44",after:=#[{on:=9,ground:=Ground.data}],guard:=none}) (v:=(Value.pointer (some ⟨gl,m*3+1,none⟩))) rfl (by kernel_rfl) (by kernel_rfl) (by kernel_rfl) (fun _ _ _ h=>h) (Or.inl ⟨by rfl,?_⟩) (by assumption) ?_
      ·(intro w F;(try dsimp only at F);go_simp)
      simp only[Act.put,List.setIfInBounds_toArray,List.set_cons_zero,List.set_cons_succ]
      refine wpAnyH_take (i:=11) (oi:={dst:=some 79,op:=Op.load 37 (Operand.tmp 78),type:=37,pos:= "ref.go:44",after:=#[{on:=10,ground:=Ground.data}],guard:=none}) (v:=(Value.int .u64 (tm:Int))) rfl (by kernel_rfl) (by kernel_rfl) (by kernel_rfl) (fun _ _ _ h=>h) (Or.inl ⟨by rfl,?_⟩) (by assumption) ?_
      ·(intro w F;(try dsimp only at F);go_simp)
      simp only[Act.put,List.setIfInBounds_toArray,List.set_cons_zero,List.set_cons_succ]
      refine wpAnyH_ready (rs:=[0]) (by kernel_rfl) (by simp) ?_
      refine AllReadyH.cons (o:={dst:=some 68,op:=Op.load 24 (Operand.tmp 9),type:=24,pos:= "ref.go:44",after:=#[],guard:=none}) rfl (fun K hK=>?_) AllReadyH.nil
      go_simp
      refine hK.out _ _ ?_ (fun ak=>?_)
      ·exact⟨k0,k1⟩
      clear hK K
      refine wpAnyH_ready (rs:=[12]) (by kernel_rfl) (by simp) ?_
      refine AllReadyH.cons (o:={dst:=some 80,op:=Op.call {callee:=Callee.value (Operand.func 156),args:=#[Operand.tmp 68,Operand.tmp 69,Operand.const (Value.int IntKind.i64 0),Operand.tmp 74,Operand.tmp 79],argTypes:=#[24,3,3,22,37]},type:=24,pos:= "ref.go:44",after:=#[{on:=0,ground:=Ground.data},{on:=1,ground:=Ground.data},{on:=6,ground:=Ground.data},{on:=11,ground:=Ground.data}],guard:=none}) rfl (fun K hK=>?_) AllReadyH.nil
      go_simp
      refine(uH GQ _ _ _ _ _ (uH SB) (uH KB)).mono ?_
      rintro e w5 ⟨aI,a0,rfl,a2,D⟩
      clear q0 q1 q2
      have S5:=(uH G).all D
      have Q5:=(uH Z).all D
      replace k0:=ah k0 D
      replace k1:=ah k1 D
      have bi:=aa (And.intro k0 k1)
      have ha:=S5.l.apart Q5
      have bm:=aa (And.intro (show(((w5.setCell ⟨gq,0,none⟩ (.int .i64 r)).setCell ⟨gq,1,none⟩ (.int .i64 r)).setCell ⟨gq,2,none⟩ (.slice aI nq a0)).cell? ⟨gl,m*3,none⟩=some (.slice H (r-m) L) by rw[ap _ _ _ _ ha,ap _ _ _ _ ha,ap _ _ _ _ ha];exact k0) (show(((w5.setCell ⟨gq,0,none⟩ (.int .i64 r)).setCell ⟨gq,1,none⟩ (.int .i64 r)).setCell ⟨gq,2,none⟩ (.slice aI nq a0)).cell? ⟨gl,m*3+1,none⟩=some (.int .u64 (tm:Nat)) by rw[ap _ _ _ _ ha,ap _ _ _ _ ha,ap _ _ _ _ ha];exact k1))
      have q0:=Q5.c0;have q1:=Q5.c1;have q2:=Q5.c2
      have f0:=Q5.free 0;have f1:=Q5.free 1;have f2:=Q5.free 2
      have P5:=aa (S5.far Q5 (uH bE) (.int .i64 r) (.int .i64 r) (.slice aI nq a0))
      have PQ:=aa (Q5.put (.int .i64 r) (.int .i64 r) (.slice aI nq a0))
      have PB:=aa (a2.putM Q5 (.int .i64 r) (.int .i64 r) (.slice aI nq a0))
      clear D a2 S5 Q5 GQ G Z SB KB ha k0 k1
      go_wp2_with fail
      refine hK.out _ _ ?_ (fun ak=>?_)
      ·exact uH bi
      clear hK K
      refine wpAnyH_ready (rs:=[13]) (by kernel_rfl) (by simp) ?_
      refine AllReadyH.cons (o:={dst:=none,op:=Op.store 24 (Operand.tmp 9) (Operand.tmp 80),type:=0,pos:= "ref.go:44",after:=#[{on:=12,ground:=Ground.data},{on:=12,ground:=Ground.chain},{on:=0,ground:=Ground.phase},{on:=1,ground:=Ground.phase},{on:=2,ground:=Ground.phase},{on:=3,ground:=Ground.phase},{on:=4,ground:=Ground.phase},{on:=5,ground:=Ground.phase},{on:=6,ground:=Ground.phase},{on:=7,ground:=Ground.phase},{on:=8,ground:=Ground.phase},{on:=9,ground:=Ground.phase},{on:=10,ground:=Ground.phase},{on:=11,ground:=Ground.phase},{on:=12,ground:=Ground.phase}],guard:=none}) rfl (fun K hK=>?_) AllReadyH.nil
      go_simp
      refine hK.out _ _ ?_ (fun ak=>?_)
      ·exact uH bm
      clear hK K
      refine wpAnyH_done (by kernel_rfl) ?_ _
      clear q0 q1 q2 f0 f1 f2 bi bm
      have cf:IntKind.i64.wrap ((m:Int)-1)=(m:Int)-1:=aP _ (by omega)
      go_wp2_with fail
      go_round
      case rel=>exact⟨t+1,aI,a0,by omega,by rw[show(m:Int)-1=(j:Int)-1-((t+1:Nat):Int) by omega],by rw[b6];exact aa ⟨uH P5,uH PQ,uH PB⟩⟩
      case measure=>simp[intOf]<;>omega
     ·have b1:t=j:=by omega
      subst b1
      have hz:(t:Int)-1-(t:Int)= -1:=by omega
      rw[hz]
      have G:=aa (uH U).1;have Z:=aa (uH U).2.1;have SB:=aa (uH U).2.2
      clear U
      have q0:=(uH Z).c0;have q1:=(uH Z).c1;have q2:=(uH Z).c2
      go_wp2_with fail
      clear q0 q1 q2
      refine(uH K9 _ _ _ (uH SB)).mono ?_
      rintro e w2 ⟨rfl,D⟩
      replace G:=aa ((uH G).all D);replace Z:=aa ((uH Z).all D);replace SB:=aa ((uH SB).below D)
      clear D
      cases h1:fq with
      |false=>
       clear Z SB
       have f:=(uH G).res
       have r0:=f.c0;have r1:=f.c1;have r2:=f.c2;have r3:=f.c3;have r4:=f.c4;have r5:=f.c5;have r6:=f.c6
       have f0:=f.free 0;have f1:=f.free 1;have f2:=f.free 2;have f3:=f.free 3;have f4:=f.free 4;have f5:=f.free 5;have f6:=f.free 6
       have A:=f.put (.int .i64 0) (.int .i64 0) (.slice none 0 0) (.int .i64 0) (.int .i64 0) (.slice none 0 0) (.bool false)
       have z0:=A.c0;have z1:=A.c1;have z2:=A.c2;have z3:=A.c3;have z4:=A.c4;have z5:=A.c5;have z6:=A.c6
       have BP:=aa (dj (uH G).bel (g:=w.heap.size+1) (by omega) (.int .i64 0) (.int .i64 0) (.slice none 0 0) (.int .i64 0) (.int .i64 0) (.slice none 0 0) (.bool false))
       have am:Hid (ok=false):=aa (by
        cases hk:ok with
        |false=>rfl
        |true=>exact absurd ((uH a1).1 hk) (fun q=>by have:=q.2.1;rw[h1]at this;cases this))
       clear f A G
       go_wp2_with fail
       exact bodyPost_ret (v:=.agg #[.int .i64 0,.int .i64 0,.slice none 0 0,.int .i64 0,.int .i64 0,.slice none 0 0,.bool false]) (by simp[results,Tryz.results99,go_sem,z0,z1,z2,z3,z4,z5,z6]) rfl ⟨.inr ⟨uH am,rfl⟩,uH BP⟩
      |true=>
       have q0:=(uH G).rb.c0;have q1:=(uH G).rb.c1;have q2:=(uH G).rb.c2
       go_wp2_with fail
       clear q0 q1 q2
       refine(uH KA _ _ _ (uH G).bits).mono ?_
       rintro e w3 ⟨rfl,D⟩
       replace G:=aa ((uH G).all D);replace Z:=aa ((uH Z).all D);replace SB:=aa ((uH SB).below D)
       clear D
       cases h2:fr with
       |false=>
        clear Z SB
        have f:=(uH G).res
        have r0:=f.c0;have r1:=f.c1;have r2:=f.c2;have r3:=f.c3;have r4:=f.c4;have r5:=f.c5;have r6:=f.c6
        have f0:=f.free 0;have f1:=f.free 1;have f2:=f.free 2;have f3:=f.free 3;have f4:=f.free 4;have f5:=f.free 5;have f6:=f.free 6
        have A:=f.put (.int .i64 0) (.int .i64 0) (.slice none 0 0) (.int .i64 0) (.int .i64 0) (.slice none 0 0) (.bool false)
        have z0:=A.c0;have z1:=A.c1;have z2:=A.c2;have z3:=A.c3;have z4:=A.c4;have z5:=A.c5;have z6:=A.c6
        have BP:=aa (dj (uH G).bel (g:=w.heap.size+1) (by omega) (.int .i64 0) (.int .i64 0) (.slice none 0 0) (.int .i64 0) (.int .i64 0) (.slice none 0 0) (.bool false))
        have am:Hid (ok=false):=aa (by
         cases hk:ok with
         |false=>rfl
         |true=>exact absurd ((uH a1).1 hk) (fun q=>by have:=q.2.2;rw[h2]at this;cases this))
        clear f A G
        go_wp2_with fail
        exact bodyPost_ret (v:=.agg #[.int .i64 0,.int .i64 0,.slice none 0 0,.int .i64 0,.int .i64 0,.slice none 0 0,.bool false]) (by simp[results,Tryz.results99,go_sem,z0,z1,z2,z3,z4,z5,z6]) rfl ⟨.inr ⟨uH am,rfl⟩,uH BP⟩
       |true=>
        have bn:Hid (ok=true):=aa ((uH a1).2 ⟨uH hO,h1,h2⟩)
        have q0:=(uH Z).c0;have q1:=(uH Z).c1;have q2:=(uH Z).c2
        have p0:=(uH G).rb.c0;have p1:=(uH G).rb.c1;have p2:=(uH G).rb.c2
        have f:=(uH G).res
        have r0:=f.c0;have r1:=f.c1;have r2:=f.c2;have r3:=f.c3;have r4:=f.c4;have r5:=f.c5;have r6:=f.c6
        have f0:=f.free 0;have f1:=f.free 1;have f2:=f.free 2;have f3:=f.free 3;have f4:=f.free 4;have f5:=f.free 5;have f6:=f.free 6
        have A:=f.put (.int .i64 r) (.int .i64 r) (.slice I nq M) (.int .i64 r) (.int .i64 c) (.slice ro n rc) (.bool true)
        have z0:=A.c0;have z1:=A.c1;have z2:=A.c2;have z3:=A.c3;have z4:=A.c4;have z5:=A.c5;have z6:=A.c6
        have BP:=aa (dj (uH G).bel (g:=w.heap.size+1) (by omega) (.int .i64 r) (.int .i64 r) (.slice I nq M) (.int .i64 r) (.int .i64 c) (.slice ro n rc) (.bool true))
        have PQ:=aa (ga (uH SB) f (.int .i64 r) (.int .i64 r) (.slice I nq M) (.int .i64 r) (.int .i64 c) (.slice ro n rc) (.bool true))
        have PR:=aa (ga (uH G).bits f (.int .i64 r) (.int .i64 r) (.slice I nq M) (.int .i64 r) (.int .i64 c) (.slice ro n rc) (.bool true))
        clear f A G Z SB
        go_wp2_with fail
        exact bodyPost_ret (v:=.agg #[.int .i64 r,.int .i64 r,.slice I nq M,.int .i64 r,.int .i64 c,.slice ro n rc,.bool true]) (by simp[results,Tryz.results99,go_sem,z0,z1,z2,z3,z4,z5,z6]) rfl ⟨.inl ⟨uH bn,I,M,ro,rc,rfl,uH PQ,uH PR⟩,uH BP⟩
def nilAt(N:List Rw)(i c:Nat):Prop:=(JK (JL N i).R c).L.length=0
end Go.Proofs.YtlnphkioddknfaaGreatDoor
namespace Go.Proofs.YtlnphkioddknfaaGreatDoor
open Go.RowKit
def KK:Nat→Nat
 |0=>2098
 |c+1=>2*KK c+1
end Go.Proofs.YtlnphkioddknfaaGreatDoor
