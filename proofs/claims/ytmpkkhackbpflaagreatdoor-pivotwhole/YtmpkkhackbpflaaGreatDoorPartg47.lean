/- Part 47 of the texts. -/
import Derived.Test.YtmpkkhackbpflaaGreatDoorPartg46
set_option maxHeartbeats 32000000
set_option maxRecDepth 20000
namespace Go.Proofs.YtmpkkhackbpflaaGreatDoor
open Go.RowKit
attribute [local go_sem ↓] Go.wp_at_zero Go.wp_at_succ
theorem rf{P:Program}(w:World){l:Array Oper}{o:Oper}{a:Act}{K:Act→World→Prop}{Q:Exit→Act→World→Prop}{E:Prop}(D:o.guard=none)(s x:Operand)(t:TypeId)
  (I:o.op=.call {callee:=.builtin .append,args:=#[s,x],argTypes:=#[t,t]}) (G H:Value) (F:Value→World→Prop) (J:a.eval s=G) (L:a.eval x=H)
  (M:∃v' d,(Builtin.append_ #[t,t] o.type #[G,H]).run P w=.ok v' d∧F v' d) (h:∀v' d,F v' d→K (a.put o.dst v') d):
  if Region.wanted o (yielded l a.tmps)=true then Oper.wp P o a w K Q else E:=by
 have N:Region.wanted o (yielded l a.tmps)=true:=by simp[Region.wanted,D]
 rw[if_pos N]
 obtain⟨v',d,z,hF⟩:=M
 unfold Oper.wp execOp
 simp only[I,resolve,invoke,builtin,Sem.run_bind,Sem.run_pure,Result.andThen_ok,List.map_toArray,List.map_cons,List.map_nil,J,L,z]
 exact h v' d hF
theorem sc{w:World}{z:Option Addr}{c:Nat}{I:List Int}(h:ak w z c I){g:Nat}{x y:Int}{a:Option Addr}{n d:Nat}(F:aT w g (.int .i64 x) (.int .i64 y) (.slice a n d)):lw (some g) z I:=by
 rcases h.2.2 with H|⟨b,l,J,M,L⟩
 ·exact .inl H
 ·by_cases D:I= []
  ·exact .inl D
  ·have G:0<I.length:=List.length_pos_iff.2 D
   refine .inr ⟨b,l,J,fun e=>?_⟩
   cases e
   have t:=L 0 G
   rw[cell_of_row w g (l+0) _ _ _ F]at t
   rcases(show l=0∨l=1∨l=2∨3≤l by omega)with e|e|e|e
   ·subst e;simp at t
   ·subst e;simp at t
   ·subst e;simp at t
   ·rw[Array.getElem?_eq_none (by simp;omega)]at t;simp at t
theorem Ab{x:Mr}{g:Option Nat}(h:lw g x.ao (bs x.V)):Ik g x:=by
 rcases h with e|e
 ·exact .inl (by cases hV:x.V with
   |nil=>rfl
   |cons y ys=>rw[hV]at e;cases e)
 ·exact .inr e
theorem ch.apartM{d:Nat}{w:World}{v:Value}{R:List Mr}(h:ch d w v R){g:Nat}{x y z:Value}(l:aT w g x y z):v.ownBlock≠some g:=by
 intro e
 rcases h.1.2 with⟨t,_⟩|⟨k,D,F,G,I,H,rest⟩
 ·rw[t]at e;simp[Value.ownBlock]at e
 ·rw[G]at e
  simp[Value.ownBlock]at e
  subst e
  have e:=H.symm.trans l
  simp at e
theorem ch.putOne{l:Nat}{w:World}{v:Value}{R:List Mr}(h:ch l w v R){g:Nat}{x y:Int}{o:Option Addr}{n d:Nat}(t:aT w g (.int .i64 x) (.int .i64 y) (.slice o n d))(j:Nat)(u:Value):ch l (w.setCell ⟨g,j,none⟩ u) v R:=
 h.grown (h.apartM t) (fun z D=>Ab (sc (h.2 z D).1 t)) (gP w g j u)
theorem aT.putc16{w:World}{b:Nat}{x y z:Value}(h:aT w b x y z)(u:Value):aT (w.setCell ⟨b,2,none⟩ u) b x y u:=by
 have d:=heap_setCell_same w b 2 _ _ u h
 unfold aT
 rw[d]
 simp
theorem ga{w:World}{b g j:Nat}{u u' u'' v:Value}(d:b≠g)(h:w.cell? ⟨b,j,none⟩=some v):(((w.setCell ⟨g,0,none⟩ u).setCell ⟨g,1,none⟩ u').setCell ⟨g,2,none⟩ u'').cell? ⟨b,j,none⟩=some v:=by
 rw[an _ _ _ _ d,an _ _ _ _ d,an _ _ _ _ d]
 exact h
structure ly (w wr:World) (h r c n cap:Nat) (ao:Option Addr) (S:List Nat) (ro:Option Addr) (rc:Nat) (v:Value) (R:List Mr) (pg:Nat) (L:List Nat):Prop where
 st:yp w wr h r c n cap ao S ro rc v R
 pl:cw wr pg L
 hp:w.heap.size+1+1≤pg
 ph:pg≠h
 pv:v.ownBlock≠some pg
theorem ly.all{w wr l:World}{h r c n d:Nat}{z:Option Addr}{S:List Nat}{D:Option Addr}{F:Nat}{v:Value}{R:List Mr}{G:Nat}{L:List Nat}(t:ly w wr h r c n d z S D F v R G L)(H:Below wr.heap.size wr l):ly w l h r c n d z S D F v R G L:=
 ⟨t.st.all H,t.pl.below H t.pl.lt,t.hp,t.ph,t.pv⟩
theorem ly.changed{w wr D:World}{h r c n F:Nat}{G:Option Addr}{S U:List Nat}{N:Option Addr}{O:Nat}{v:Value}{R:List Mr}{Q:Nat}{L H:List Nat}(t:ly w wr h r c n F G S N O v R Q L)(T:Below wr.heap.size wr D){g p2:Nat}(hg:wr.heap.size≤g)(V:bI D g U)(X:∀x∈U,x<18446744073709551616)(I:U.length=n)(Y:wr.heap.size≤p2)(Z:cw D p2 H):
  ly w (D.setCell ⟨h,2,none⟩ (.slice (some ⟨g,0,none⟩) n n)) h r c n F G U (some ⟨g,0,none⟩) n v R p2 H:=by
 have z:=t.st.all T
 have aa:=t.st.rb.lt
 have hh:=t.st.hh
 have n0:w.heap.size≠h:=by omega
 have n1:w.heap.size+1≠h:=by omega
 have ng:g≠h:=by omega
 have J:p2≠h:=by omega
 have d:=V.bits X
 rw[I]at d
 have M:∀k,v.ownBlock=some k→k<wr.heap.size:=fun k hk=>(t.st.l.lt k hk).2
 have q:ak D (some ⟨g,0,none⟩) n (bs U):=d
 refine⟨⟨z.bel.setCell (p:=⟨h,2,none⟩) (by show w.heap.size≤h;omega) _,hh,z.a.other (p:=⟨h,2,none⟩) n0 _,z.res.other (p:=⟨h,2,none⟩) n1 _,z.rb.putc16 _,gC q (sc q z.rb) (gP _ _ _ _),.inr ⟨g,0,rfl,by omega⟩,I,z.l.putOne z.rb _ _,.inr ⟨g,0,rfl,fun e=>?_⟩⟩,Z.other (p:=⟨h,2,none⟩) J _,by omega,J,fun e=>?_⟩
 ·have:=M g e.symm;omega
 ·have:=M p2 e;omega
theorem ly.push{w wr:World}{h r c n F:Nat}{X:Option Addr}{S U:List Nat}{Y:Option Addr}{Z:Nat}{v:Value}{R:List Mr}{pg:Nat}{L:List Nat}(t:ly w wr h r c n F X S Y Z v R pg L)(x:Mr)(hx:ak wr x.ao x.cap (bs x.V))(ha:lw v.ownBlock x.ao (bs x.V))(hl:R.length≤1000000){g nb O:Nat}(G:bI wr g U)(H:v.ownBlock≠some g)(aa:w.heap.size+1+1≤g)(hf:∀x∈U,x<18446744073709551616)(I:U.length=n){y1 y2 y3 y4 y5:Value}(hN:aT wr nb y1 y2 y3)(hM:dZ wr O y4 y5)(Q:v.ownBlock≠some O)(ty:TypeId):
  ∃v' D,(Builtin.append_ #[66,66] ty #[v,.slice (some ⟨wr.heap.size,0,none⟩) 1 1]).run Tryz.prog (wr.alloc (.cells #[.slice x.ao x.V.length x.cap,.int .u64 (x.tau:Nat)] 121))=.ok v' D∧aT D h (.int .i64 r) (.int .i64 c) (.slice Y n Z)∧ly w (((D.setCell ⟨h,0,none⟩ (.int .i64 r)).setCell ⟨h,1,none⟩ (.int .i64 c)).setCell ⟨h,2,none⟩ (.slice (some ⟨g,0,none⟩) n n)) h r c n F X U (some ⟨g,0,none⟩) n v' (R++[x]) pg L∧aT D nb y1 y2 y3∧dZ D O y4 y5:=by
 have ad:=t.st.rb.lt
 have hh:=t.st.hh
 have hv:=t.st.l.apartM t.st.rb
 obtain⟨v',D,e1,e2,T,M,e5⟩:=t.st.l.push x hx (Ab ha) hl (by omega) ty
 have J:=ag wr (.cells #[.slice x.ao x.V.length x.cap,.int .u64 (x.tau:Nat)] 121)
 have t1:=t.all J
 have N:=t1.st.rb.grown M hv
 have G1:bI D g U:=(M.block g (G.below J G.lt).lt (fun e=>H e.symm)).trans (G.below J G.lt)
 have n0:w.heap.size≠h:=by omega
 have n1:w.heap.size+1≠h:=by omega
 have d:=G1.bits hf
 rw[I]at d
 have q:ak D (some ⟨g,0,none⟩) n (bs U):=d
 have ae:=t.pl.lt
 have ai:=G.lt
 refine⟨v',D,e1,N,⟨⟨aW (t.st.bel.trans (T.mono (by omega))) (by omega) _ _ _,hh,(t.st.a.below T (by omega)).three14 n0 _ _ _,(t.st.res.below T (by omega)).three14 n1 _ _ _,N.put _ _ _,q.putM N _ _ _,.inr ⟨g,0,rfl,by omega⟩,I,e2.putQ N _ _ _,.inr ⟨g,0,rfl,fun e=>?_⟩⟩,(t1.pl.grown M t.pv).three t.ph _ _ _,t.hp,t.ph,fun e=>?_⟩,(hN.all J).grown M (t.st.l.apartM hN),(hM.all J).grown M Q⟩
 ·rcases e5 with z|z
  ·rw[z]at e;exact H e.symm
  ·rw[z]at e;cases e;omega
 ·rcases e5 with z|z
  ·rw[z]at e;exact t.pv e
  ·rw[z]at e;cases e;omega
def Ff(w w':World)(ok:Bool)(r c n K:Nat)(S P:List Nat)(V:Nat→List Nat)(tau:Nat→Nat)(e:Ending):Prop:=
 (ok=true∧∃ro rc pg v R,e=.returned (.tuple #[.agg #[.int .i64 r,.int .i64 c,.slice ro n rc],.slice (some ⟨pg,0,none⟩) c c,v,.int .i64 0])∧dJ w.heap.size ro (bs S)∧ak w' ro rc (bs S)∧w.heap.size≤pg∧cw w' pg P∧ch (w.heap.size+1+1) w' v R∧R.length=K∧∀k,k<K→(fo R k).V=V k∧(fo R k).tau=tau k)∨
 (ok=false∧e=.returned (.tuple #[.agg #[.int .i64 0,.int .i64 0,.slice none 0 0],.slice none 0 0,.slice none 0 0,.int .i64 2]))
theorem IA(r c n T m K:Nat)(ao:Option Addr)(RJ W V PL:Nat→List Nat)(A ba:Nat→Nat)(gk o:Nat→Bool)(ok:Bool)(w:World)(hr:r≤6)(hc:c≤6)(hm:(m:Int)=min (c:Int) (r:Int))(hK:∀j:Nat,j<K↔(j<m∧j+1<r))(bV:K≤m)
  (lR:∀j,(RJ j).length=n) (lW:∀j,(W j).length=n) (lV:∀j,(V j).length=r-j) (b0:∀j,j<m→∀x∈W j,x<18446744073709551616) (hf:∀j,j<m→∀x∈RJ (j+1),x<18446744073709551616)
  (G:∀j,j<m→¬j+1<r→RJ (j+1)=W j) (b3:PL 0=List.range c)
  (b4:ok=true↔∀j,j<m→gk j=true∧(j+1<r→o j=true))
  (C1:∀D,Below w.heap.size w D→Calls Tryz.prog 99 #[.agg #[.int .i64 r,.int .i64 c,.slice ao n T],.int .i64 0,.int .i64 0,.int .i64 r,.int .i64 c] D fun e M=>∃po pc,e=.returned (.tuple #[.agg #[.int .i64 r,.int .i64 c,.slice po n pc],.int .i64 0])∧dJ D.heap.size po (bs (RJ 0))∧ak M po pc (bs (RJ 0))∧Below D.heap.size D M)
  (C2:∀D j po pc,j<m→Below w.heap.size w D→ak D po pc (bs (RJ j))→Calls Tryz.prog 101 #[.agg #[.int .i64 r,.int .i64 c,.slice po n pc],.int .i64 (j:Nat)] D fun e M=>((gk j=true∧e=.returned (.tuple #[.int .i64 (A j:Nat),.int .i64 0]))∨(gk j=false∧e=.returned (.tuple #[.int .i64 0,.int .i64 2])))∧Below D.heap.size D M)
  (C3:∀D j po pc,j<m→ak D po pc (bs (RJ j))→Calls Tryz.prog 102 #[.slice po n pc,.int .i64 c,.int .i64 (j:Nat),.int .i64 (A j:Nat)] D fun e M=>∃g,e=.returned (.slice (some ⟨g,0,none⟩) n n)∧D.heap.size≤g∧bI M g (W j)∧Below D.heap.size D M)
  (C4:∀D j pg,j<m→cw D pg (PL j)→Calls Tryz.prog 103 #[.slice (some ⟨pg,0,none⟩) c c,.int .i64 c,.int .i64 (j:Nat),.int .i64 (A j:Nat)] D fun e M=>∃g,e=.returned (.slice (some ⟨g,0,none⟩) c c)∧D.heap.size≤g∧cw M g (PL (j+1))∧Below D.heap.size D M)
  (C5:∀D j g,j<m→j+1<r→Below w.heap.size w D→ak D (some ⟨g,0,none⟩) n (bs (W j))→Calls Tryz.prog 104 #[.agg #[.int .i64 r,.int .i64 c,.slice (some ⟨g,0,none⟩) n n],.int .i64 (j:Nat)] D fun e M=>E8 D M (o j) r c n (r-j) (RJ (j+1)) (V j) (ba j) e∧Below D.heap.size D M):
  Calls Tryz.prog 42 #[.agg #[.int .i64 r,.int .i64 c,.slice ao n T]] w fun e D=>Ff w D ok r c n K (RJ m) (PL m) V ba e∧Below w.heap.size w D:=by
 have b5:∀(W:World) ts t,(Builtin.min_ ts t #[.int .i64 (c:Int),.int .i64 (r:Int)]).run Tryz.prog W=.ok (.int .i64 (m:Int)) W:=fun W ts t=>by rw[hm];exact pH _ W ts t _ _
 have dB:m≤6:=by omega
 have dD:m≤r:=by omega
 have cz:=ac hK;have LR:=ac lR;have LW:=ac lW;have LV:=ac lV;have HF:=ac hf;have cA:=ac b0;have bq:=ac G;have bb:=ac b4;have b6:=ac bV
 have K1:=ac (C1 ((w.alloc (.cells #[.int .i64 r,.int .i64 c,.slice ao n T] 25)).alloc (.cells #[.int .i64 0,.int .i64 0,.slice none 0 0] 25)) (by
  have b1:=ag w (.cells #[.int .i64 r,.int .i64 c,.slice ao n T] 25)
  have b2:=ag (w.alloc (.cells #[.int .i64 r,.int .i64 c,.slice ao n T] 25)) (.cells #[.int .i64 0,.int .i64 0,.slice none 0 0] 25)
  exact b1.trans (b2.mono b1.size)))
 simp only[aH]at K1
 have KB:=ac (tC w (.int .i64 r) (.int .i64 c) (.slice ao n T) (.int .i64 0) (.int .i64 0) (.slice none 0 0))
 have KI:=ac (fun D=>wl c D (by omega))
 rw[←b3]at KI
 have K2:=ac C2;have K3:=ac C3;have K4:=ac C4;have K5:=ac C5
 clear hm hK lR lW lV hf b0 G b4 C1 C2 C3 C4 C5 b3 bV
 go_enter Tryz.func42,Tryz.ntmps42
 go_wp2_with fail
 refine(uH K1).mono ?_
 rintro e w1 ⟨po,pc,rfl,hn,hq,cq⟩
 obtain⟨hB,hA,hX⟩:=uH KB w1 cq
 have ST:=ac (yp.start hB hA hX hq (hn.least (by omega)) (uH LR 0))
 have y1:=(uH ST).a.c1
 clear K1 KB cq hB hA hX hn hq
 go_wp2_with fail
 clear y1
 refine(uH KI _).mono ?_
 rintro e w2 ⟨pg,rfl,hg,I,Y⟩
 have SP:Hid (ly w w2 w1.heap.size r c n T ao (RJ 0) po pc (.slice none 0 0) [] pg (PL 0)):=ac (by
  have x:=(uH ST).rb.lt
  have hh:=(uH ST).hh
  exact⟨(uH ST).all Y,I,by omega,by omega,by simp[Value.ownBlock]⟩)
 have y0:=(uH SP).st.a.c0;have y1:=(uH SP).st.a.c1
 clear KI hg I Y ST
 generalize w1.heap.size=h at*
 go_wp2_with fail
 clear y0 y1 b5
 go_loopw[8,9,32] (fun pv v a wr=>∃(j:Nat) (ro:Option Addr) (rc:Nat) (R:List Mr) (pg:Nat),j≤K∧pv=.slice (some ⟨pg,0,none⟩) c c∧a=.int .i64 j∧Hid (R.length=j)∧Hid (∀k,k<j→(fo R k).V=V k∧(fo R k).tau=ba k)∧Hid (∀k,k<j→gk k=true∧(k+1<r→o k=true))∧Hid (ly w wr h r c n T ao (RJ j) ro rc v R pg (PL j))) (fun _ _ a _=>m-(intOf a).toNat)
 case atStart=>exact⟨0,po,pc,[],pg,Nat.zero_le _,rfl,rfl,rfl,fun k X=>absurd X (Nat.not_lt_zero k),fun k X=>absurd X (Nat.not_lt_zero k),SP⟩
 case round=>
  clear SP
  obtain⟨j,ro,rc,R,pg,d2,rfl,rfl,aa,a6,hO,N⟩:=hrel
  by_cases U:j<m
  ·have c3:(j:Int)<(m:Int):=by omega
   have d0:j<r:=by omega
   have G2:=ac (fun D po pc=>uH K2 D j po pc U)
   have G3:=ac (fun D po pc=>uH K3 D j po pc U)
   have G4:=ac (fun D pg=>uH K4 D j pg U)
   have G5:=ac (fun D g=>uH K5 D j g U)
   have b7:=ac (uH LV j);have c4:=ac (uH LW j);have c5:=ac (uH LR (j+1));have c6:=ac (uH HF j U);have b8:=ac (uH cA j U);have c7:=ac (uH bq j U)
   have b9:=ac (uH cz j)
   have q0:=(uH N).st.rb.c0;have q1:=(uH N).st.rb.c1;have q2:=(uH N).st.rb.c2
   go_wp2_with fail
   clear q0 q1 q2
   refine(uH G2 _ ro rc (uH N).st.bel (uH N).st.bits).mono ?_
   rintro e w3 ⟨c9,Y⟩
   replace N:=ac ((uH N).all Y)
   clear Y G2
   rcases c9 with⟨bn,rfl⟩|⟨bn,rfl⟩
   ·generalize dl:A j=ka at*
    have ca:=ac bn
    generalize ds:ba j=tj at*
    generalize dv:V j=vj at*
    generalize d3:W j=wj at*
    generalize dx:RJ (j+1)=nj at*
    generalize d4:RJ j=rj at*
    generalize dA:PL (j+1)=pj at*
    generalize d5:PL j=pl at*
    have cb:=ac dx;have cc:=ac dA
    clear bn dl
    go_wp2_with fail
    replace N:=ac ((uH N).all (Below.refl w3.heap.size w3).drew)
    refine wp_region_held_drew (S:=fun D=>D.cell? ⟨w.heap.size,1,none⟩=some (.int .i64 (c:Nat))) (by kernel_rfl) ?_ (fun H=>?_)
    ·exact(uH N).st.a.c1
    refine wpAnyH_take (i:=0) (oi:={dst:=some 45,op:=Op.fieldAddr 25 (Operand.tmp 6) 2,type:=0,pos:= "greatest.go:22",after:=#[],guard:=none}) (v:=Value.pointer (some ⟨h,2,none⟩)) rfl (by kernel_rfl) (by kernel_rfl) (by kernel_rfl) (fun _ _ _ h=>h) (Or.inl ⟨by rfl,?_⟩) (by assumption) ?_
    ·(intro w z;(try dsimp only at z);go_simp)
    simp only[Act.put,List.setIfInBounds_toArray,List.set_cons_zero,List.set_cons_succ]
    refine wpAnyH_take (i:=2) (oi:={dst:=some 47,op:=Op.fieldAddr 25 (Operand.tmp 1) 1,type:=0,pos:= "greatest.go:22",after:=#[],guard:=none}) (v:=Value.pointer (some ⟨w.heap.size,1,none⟩)) rfl (by kernel_rfl) (by kernel_rfl) (by kernel_rfl) (fun _ _ _ h=>h) (Or.inl ⟨by rfl,?_⟩) (by assumption) ?_
    ·(intro w z;(try dsimp only at z);go_simp)
    simp only[Act.put,List.setIfInBounds_toArray,List.set_cons_zero,List.set_cons_succ]
    refine wpAnyH_take (i:=3) (oi:={dst:=some 48,op:=Op.load 3 (Operand.tmp 47),type:=3,pos:= "greatest.go:22",after:=#[{on:=2,ground:=Ground.data}],guard:=none}) (v:=Value.int .i64 (c:Nat)) rfl (by kernel_rfl) (by kernel_rfl) (by kernel_rfl) (fun _ _ _ h=>h) (Or.inl ⟨by rfl,?_⟩) (by assumption) ?_
    ·(intro w z;(try dsimp only at z);go_simp)
    simp only[Act.put,List.setIfInBounds_toArray,List.set_cons_zero,List.set_cons_succ]
    refine wpAnyH_take (i:=4) (oi:={dst:=some 49,op:=Op.move (Operand.tmp 10),type:=3,pos:= "greatest.go:22",after:=#[],guard:=none}) (v:=Value.int .i64 (j:Nat)) rfl (by kernel_rfl) (by kernel_rfl) (by kernel_rfl) (fun _ _ _ h=>h) (Or.inl ⟨by rfl,?_⟩) (by assumption) ?_
    ·(intro w z;(try dsimp only at z);go_simp)
    simp only[Act.put,List.setIfInBounds_toArray,List.set_cons_zero,List.set_cons_succ]
    refine wpAnyH_take (i:=5) (oi:={dst:=some 50,op:=Op.move (Operand.tmp 11),type:=3,pos:= "greatest.go:22",after:=#[],guard:=none}) (v:=Value.int .i64 (ka:Nat)) rfl (by kernel_rfl) (by kernel_rfl) (by kernel_rfl) (fun _ _ _ h=>h) (Or.inl ⟨by rfl,?_⟩) (by assumption) ?_
    ·(intro w z;(try dsimp only at z);go_simp)
    simp only[Act.put,List.setIfInBounds_toArray,List.set_cons_zero,List.set_cons_succ]
    refine wpAnyH_take (i:=7) (oi:={dst:=some 52,op:=Op.move (Operand.tmp 8),type:=32,pos:= "greatest.go:22",after:=#[],guard:=none}) (v:=Value.slice (some ⟨pg,0,none⟩) c c) rfl (by kernel_rfl) (by kernel_rfl) (by kernel_rfl) (fun _ _ _ h=>h) (Or.inl ⟨by rfl,?_⟩) (by assumption) ?_
    ·(intro w z;(try dsimp only at z);go_simp)
    simp only[Act.put,List.setIfInBounds_toArray,List.set_cons_zero,List.set_cons_succ]
    refine wpAnyH_take (i:=8) (oi:={dst:=some 53,op:=Op.fieldAddr 25 (Operand.tmp 1) 1,type:=0,pos:= "greatest.go:22",after:=#[],guard:=none}) (v:=Value.pointer (some ⟨w.heap.size,1,none⟩)) rfl (by kernel_rfl) (by kernel_rfl) (by kernel_rfl) (fun _ _ _ h=>h) (Or.inl ⟨by rfl,?_⟩) (by assumption) ?_
    ·(intro w z;(try dsimp only at z);go_simp)
    simp only[Act.put,List.setIfInBounds_toArray,List.set_cons_zero,List.set_cons_succ]
    refine wpAnyH_take (i:=9) (oi:={dst:=some 54,op:=Op.load 3 (Operand.tmp 53),type:=3,pos:= "greatest.go:22",after:=#[{on:=8,ground:=Ground.data}],guard:=none}) (v:=Value.int .i64 (c:Nat)) rfl (by kernel_rfl) (by kernel_rfl) (by kernel_rfl) (fun _ _ _ h=>h) (Or.inl ⟨by rfl,?_⟩) (by assumption) ?_
    ·(intro w z;(try dsimp only at z);go_simp)
    simp only[Act.put,List.setIfInBounds_toArray,List.set_cons_zero,List.set_cons_succ]
    refine wpAnyH_take (i:=10) (oi:={dst:=some 55,op:=Op.move (Operand.tmp 10),type:=3,pos:= "greatest.go:22",after:=#[],guard:=none}) (v:=Value.int .i64 (j:Nat)) rfl (by kernel_rfl) (by kernel_rfl) (by kernel_rfl) (fun _ _ _ h=>h) (Or.inl ⟨by rfl,?_⟩) (by assumption) ?_
    ·(intro w z;(try dsimp only at z);go_simp)
    simp only[Act.put,List.setIfInBounds_toArray,List.set_cons_zero,List.set_cons_succ]
    refine wpAnyH_take (i:=11) (oi:={dst:=some 56,op:=Op.move (Operand.tmp 11),type:=3,pos:= "greatest.go:22",after:=#[],guard:=none}) (v:=Value.int .i64 (ka:Nat)) rfl (by kernel_rfl) (by kernel_rfl) (by kernel_rfl) (fun _ _ _ h=>h) (Or.inl ⟨by rfl,?_⟩) (by assumption) ?_
    ·(intro w z;(try dsimp only at z);go_simp)
    simp only[Act.put,List.setIfInBounds_toArray,List.set_cons_zero,List.set_cons_succ]
    refine wpAnyH_ready (rs:=[1]) (by kernel_rfl) (by simp) ?_
    refine AllReadyH.cons (o:={dst:=some 46,op:=Op.load 23 (Operand.tmp 45),type:=23,pos:= "greatest.go:22",after:=#[{on:=0,ground:=Ground.data}],guard:=none}) rfl (fun K0 F=>?_) AllReadyH.nil
    have q2:=(uH N).st.rb.c2
    go_simp
    clear q2
    refine F.out _ _ ?_ (fun H=>?_)
    ·exact(uH N).st.a.c1
    clear F K0
    refine wpAnyH_ready (rs:=[6]) (by kernel_rfl) (by simp) ?_
    refine AllReadyH.cons (o:={dst:=some 51,op:=Op.call {callee:=Callee.value (Operand.func 102),args:=#[Operand.tmp 46,Operand.tmp 48,Operand.tmp 49,Operand.tmp 50],argTypes:=#[23,3,3,3]},type:=23,pos:= "greatest.go:22",after:=#[{on:=1,ground:=Ground.data},{on:=3,ground:=Ground.data},{on:=4,ground:=Ground.data},{on:=5,ground:=Ground.data}],guard:=none}) rfl (fun K0 F=>?_) AllReadyH.nil
    go_simp
    refine(uH G3 _ ro rc (uH N).st.bits).mono ?_
    rintro e w3 ⟨g,rfl,hg,I,Y⟩
    have S3:=ac ((uH N).all Y)
    have HW:=ac Y
    have HG:=ac hg;have ap:=ac I
    clear Y hg I G3
    go_wp2_with fail
    refine F.out _ _ ?_ (fun H=>?_)
    ·exact(uH S3).st.a.c1
    clear F K0
    refine wpAnyH_take (i:=13) (oi:={dst:=some 58,op:=Op.fieldAddr 25 (Operand.tmp 6) 2,type:=0,pos:= "greatest.go:22",after:=#[{on:=0,ground:=Ground.phase},{on:=1,ground:=Ground.phase},{on:=2,ground:=Ground.phase},{on:=3,ground:=Ground.phase},{on:=4,ground:=Ground.phase},{on:=5,ground:=Ground.phase},{on:=6,ground:=Ground.phase},{on:=7,ground:=Ground.textOnly Departure.lateStores},{on:=8,ground:=Ground.textOnly Departure.lateStores},{on:=9,ground:=Ground.textOnly Departure.lateStores},{on:=10,ground:=Ground.textOnly Departure.lateStores},{on:=11,ground:=Ground.textOnly Departure.lateStores},{on:=12,ground:=Ground.textOnly Departure.lateStoresUnsure}],guard:=none}) (v:=Value.pointer (some ⟨h,2,none⟩)) rfl (by kernel_rfl) (by kernel_rfl) (by kernel_rfl) (fun _ _ _ h=>h) (Or.inl ⟨by rfl,?_⟩) (by assumption) ?_
    ·(intro w z;(try dsimp only at z);go_simp)
    simp only[Act.put,List.setIfInBounds_toArray,List.set_cons_zero,List.set_cons_succ]
    refine wpAnyH_ready (rs:=[12]) (by kernel_rfl) (by simp) ?_
    refine AllReadyH.cons (o:={dst:=some 57,op:=Op.call {callee:=Callee.value (Operand.func 103),args:=#[Operand.tmp 52,Operand.tmp 54,Operand.tmp 55,Operand.tmp 56],argTypes:=#[32,3,3,3]},type:=32,pos:= "greatest.go:22",after:=#[{on:=7,ground:=Ground.data},{on:=9,ground:=Ground.data},{on:=10,ground:=Ground.data},{on:=11,ground:=Ground.data},{on:=6,ground:=Ground.chain}],guard:=none}) rfl (fun K0 F=>?_) AllReadyH.nil
    go_simp
    refine(uH G4 _ pg (uH S3).pl).mono ?_
    rintro e w4 ⟨p2,rfl,cr,a7,Y⟩
    have bd:=ac ((uH HW).trans (Y.mono (uH HW).size))
    have cd:=ac (show _≤p2 from Nat.le_trans (uH HW).size cr)
    have ce:=ac a7
    have aq:=ac ((uH ap).below Y (uH ap).lt)
    have T4:=(uH N).changed (uH bd) (uH HG) (uH aq) (uH b8) (uH c4) (uH cd) (uH ce)
    have X4:=((uH N).all (uH bd)).st.rb
    have X5:=((uH N).all (uH bd)).st.a
    have O:=ac T4
    have RB:=ac X4;have AB:=ac X5
    clear T4 X4 X5 Y cr a7 S3 HW ap cd ce aq bd HG N G4
    go_wp2_with fail
    refine F.out _ _ ?_ (fun H=>?_)
    ·exact(uH AB).c1
    clear F K0
    refine wpAnyH_ready (rs:=[14]) (by kernel_rfl) (by simp) ?_
    refine AllReadyH.cons (o:={dst:=none,op:=Op.store 23 (Operand.tmp 58) (Operand.tmp 51),type:=0,pos:= "greatest.go:22",after:=#[{on:=13,ground:=Ground.data},{on:=6,ground:=Ground.data},{on:=12,ground:=Ground.chain},{on:=0,ground:=Ground.phase},{on:=1,ground:=Ground.phase},{on:=2,ground:=Ground.phase},{on:=3,ground:=Ground.phase},{on:=4,ground:=Ground.phase},{on:=5,ground:=Ground.phase},{on:=6,ground:=Ground.phase},{on:=7,ground:=Ground.textOnly Departure.lateStores},{on:=8,ground:=Ground.textOnly Departure.lateStores},{on:=9,ground:=Ground.textOnly Departure.lateStores},{on:=10,ground:=Ground.textOnly Departure.lateStores},{on:=11,ground:=Ground.textOnly Departure.lateStores},{on:=12,ground:=Ground.textOnly Departure.lateStoresUnsure}],guard:=none}) rfl (fun K0 F=>?_) AllReadyH.nil
    have q2:=(uH RB).c2;have f2:=(uH RB).free 2
    go_simp
    clear q2 f2 RB AB
    refine F.out _ _ ?_ (fun H=>?_)
    ·exact(uH O).st.a.c1
    clear F K0
    refine wpAnyH_take (i:=15) (oi:={dst:=some 8,op:=Op.assign (Operand.tmp 57),type:=32,pos:= "greatest.go:22",after:=#[{on:=12,ground:=Ground.data},{on:=14,ground:=Ground.chain},{on:=0,ground:=Ground.phase},{on:=1,ground:=Ground.phase},{on:=2,ground:=Ground.phase},{on:=3,ground:=Ground.phase},{on:=4,ground:=Ground.phase},{on:=5,ground:=Ground.phase},{on:=6,ground:=Ground.phase},{on:=7,ground:=Ground.phase},{on:=8,ground:=Ground.phase},{on:=9,ground:=Ground.phase},{on:=10,ground:=Ground.phase},{on:=11,ground:=Ground.phase},{on:=12,ground:=Ground.phase},{on:=13,ground:=Ground.phase},{on:=14,ground:=Ground.phase}],guard:=none}) (v:=Value.slice (some ⟨p2,0,none⟩) c c) rfl (by kernel_rfl) (by kernel_rfl) (by kernel_rfl) (fun _ _ _ h=>h) (Or.inl ⟨by rfl,?_⟩) (by assumption) ?_
    ·(intro w z;(try dsimp only at z);go_simp)
    simp only[Act.put,List.setIfInBounds_toArray,List.set_cons_zero,List.set_cons_succ]
    refine wpAnyH_done (by kernel_rfl) ?_ _
    by_cases G:j+1<r
    ·have e1:((j:Int)==(r:Int)-1)=false:=by rw[beq_eq_false_iff_ne];omega
     have e2:¬((j:Int)=(r:Int)-1):=by omega
     have e3:IntKind.i64.wrap ((r:Int)-1)=(r:Int)-1:=br _ (by omega)
     obtain⟨L,hL⟩:∃L,r-j=L:=⟨_,rfl⟩
     rw[hL]at G5 b7
     have y0:=(uH O).st.a.c0
     have q0:=(uH O).st.rb.c0;have q1:=(uH O).st.rb.c1;have q2:=(uH O).st.rb.c2
     clear hL
     go_wp2_with fail
     clear y0 q0 q1 q2 e1 e2 e3
     refine(uH G5 _ g G (uH O).st.bel (uH O).st.bits).mono ?_
     rintro e J ⟨cs,Y⟩
     have ai:=ac (fun k X=>((uH O).st.l.lt k X).2)
     have cf:=ac (show w.heap.size+1+1≤_ from Nat.le_trans (uH O).st.hh (Nat.le_of_lt (uH O).st.rb.lt))
     have cg:=ac Y.size
     have bt:=ac (uH O).st.rb.lt
     replace O:=ac ((uH O).all Y)
     clear Y G5
     rcases cs with⟨ho,Q,vo,vc,rfl,cy,I,hn,hv,dd⟩|⟨ho,rfl⟩
     ·have ad:=ag J (.cells #[.int .i64 r,.int .i64 c,.slice (some ⟨Q,0,none⟩) n n] 25)
      have ci:=aH J (.cells #[.int .i64 r,.int .i64 c,.slice (some ⟨Q,0,none⟩) n n] 25)
      have ck:=aT.new J (.int .i64 r) (.int .i64 c) (.slice (some ⟨Q,0,none⟩) n n)
      have ae:=ag (J.alloc (.cells #[.int .i64 r,.int .i64 c,.slice (some ⟨Q,0,none⟩) n n] 25)) (.cells #[.slice vo L vc,.int .u64 (tj:Nat)] 121)
      have bv:=dZ.new (J.alloc (.cells #[.int .i64 r,.int .i64 c,.slice (some ⟨Q,0,none⟩) n n] 25)) (.slice vo L vc) (.int .u64 (tj:Nat))
      rw[ci]at bv
      have cl:=ac (show ly _ _ _ _ _ _ _ _ _ _ _ _ _ _ _∧aT _ _ _ _ _∧dZ _ _ _ _∧bI _ _ _∧ak _ _ _ _ from⟨((uH O).all ad).all ae,ck.all ae,bv,(I.below ad I.lt).below ae (I.below ad I.lt).lt,(hv.below ad).below ae⟩)
      have HO:=ac ho
      have bx:=ac cy;have HN:=ac hn
      have be:=ac (show _≤J.heap.size from uH cg)
      clear ad ci ck ae bv I hv cy hn dd ho O
      go_wp2_with fail
      refine aG (fun W=>ly w W h r c n T ao wj (some ⟨g,0,none⟩) n u9 R p2 pj∧aT W J.heap.size (.int .i64 r) (.int .i64 c) (.slice (some ⟨Q,0,none⟩) n n)∧dZ W (J.heap.size+1) (.slice vo L vc) (.int .u64 (tj:Nat))∧bI W Q nj∧ak W vo vc (bs vj)) (uH cl) ?_
      clear cl
      rintro W6 ⟨p6,n6,m6,a9,v6⟩
      have ax:∀q,(∀k,u9.ownBlock=some k→k<q)→u9.ownBlock≠some q:=fun q hq e=>Nat.lt_irrefl q (hq q e)
      have hd:=(Below.refl W6.heap.size W6).drew
      have am:=ly.push (p6.all hd) ⟨vo,vc,vj,tj,0⟩ (v6.below hd) (lw.new (uH HN) (fun k X=>uH ai k X)) (by rw[uH aa];omega) (a9.below hd a9.lt) (ax _ (fun k X=>Nat.lt_of_lt_of_le (uH ai k X) (uH bx))) (Nat.le_trans (uH cf) (uH bx)) (uH c6) (uH c5) (n6.all hd) (m6.all hd) (ax _ (fun k X=>Nat.lt_of_lt_of_le (uH ai k X) (Nat.le_trans (uH be) (Nat.le_succ _)))) 66
      dsimp only at am
      rw[uH b7]at am
      obtain⟨v9,w9,a1,a2,a3,a4,a5⟩:=am
      have am:=ac (show∃v' D,_=_∧(aT D h (.int .i64 r) (.int .i64 c) (.slice (some ⟨g,0,none⟩) n n)∧ly w (((D.setCell ⟨h,0,none⟩ (.int .i64 r)).setCell ⟨h,1,none⟩ (.int .i64 c)).setCell ⟨h,2,none⟩ (.slice (some ⟨Q,0,none⟩) n n)) h r c n T ao nj (some ⟨Q,0,none⟩) n v' (R++[⟨vo,vc,vj,tj,0⟩]) p2 pj∧(D.cell? ⟨J.heap.size,0,none⟩=some (.int .i64 (r:Nat))∧D.cell? ⟨J.heap.size,1,none⟩=some (.int .i64 (c:Nat))∧D.cell? ⟨J.heap.size,2,none⟩=some (.slice (some ⟨Q,0,none⟩) n n))∧D.cell? ⟨J.heap.size+1,0,none⟩=some (.slice vo L vc)∧D.cell? ⟨J.heap.size+1,1,none⟩=some (.int .u64 (tj:Nat)))from⟨v9,w9,a1,a2,a3,⟨a4.c0,a4.c1,a4.c2⟩,a5.c0,a5.c1⟩)
      clear a1 a2 a3 a4 a5
      have bo:=ac (fun W' (Y:Below W6.drew.heap.size W6.drew W')=>(show(W'.cell? ⟨J.heap.size,0,none⟩=some (.int .i64 (r:Nat))∧W'.cell? ⟨J.heap.size,1,none⟩=some (.int .i64 (c:Nat))∧W'.cell? ⟨J.heap.size,2,none⟩=some (.slice (some ⟨Q,0,none⟩) n n))∧W'.cell? ⟨J.heap.size+1,0,none⟩=some (.slice vo L vc)∧W'.cell? ⟨J.heap.size+1,1,none⟩=some (.int .u64 (tj:Nat))from
       have x:=(n6.all hd).all Y;have y:=(m6.all hd).all Y;⟨⟨x.c0,x.c1,x.c2⟩,y.c0,y.c1⟩))
      have bi:J.heap.size≠h:=fun e=>by have:=uH bt;have:=uH be;omega
      have bz:J.heap.size+1≠h:=fun e=>by have:=uH bt;have:=uH be;omega
      have ay:=ac (fun(W':World) (k:(W'.cell? ⟨J.heap.size,0,none⟩=some (.int .i64 (r:Nat))∧W'.cell? ⟨J.heap.size,1,none⟩=some (.int .i64 (c:Nat))∧W'.cell? ⟨J.heap.size,2,none⟩=some (.slice (some ⟨Q,0,none⟩) n n))∧W'.cell? ⟨J.heap.size+1,0,none⟩=some (.slice vo L vc)∧W'.cell? ⟨J.heap.size+1,1,none⟩=some (.int .u64 (tj:Nat)))=>(show((((W'.setCell ⟨h,0,none⟩ (.int .i64 r)).setCell ⟨h,1,none⟩ (.int .i64 c)).setCell ⟨h,2,none⟩ (.slice (some ⟨Q,0,none⟩) n n)).cell? ⟨J.heap.size,0,none⟩=some (.int .i64 (r:Nat))∧(((W'.setCell ⟨h,0,none⟩ (.int .i64 r)).setCell ⟨h,1,none⟩ (.int .i64 c)).setCell ⟨h,2,none⟩ (.slice (some ⟨Q,0,none⟩) n n)).cell? ⟨J.heap.size,1,none⟩=some (.int .i64 (c:Nat))∧(((W'.setCell ⟨h,0,none⟩ (.int .i64 r)).setCell ⟨h,1,none⟩ (.int .i64 c)).setCell ⟨h,2,none⟩ (.slice (some ⟨Q,0,none⟩) n n)).cell? ⟨J.heap.size,2,none⟩=some (.slice (some ⟨Q,0,none⟩) n n))∧(((W'.setCell ⟨h,0,none⟩ (.int .i64 r)).setCell ⟨h,1,none⟩ (.int .i64 c)).setCell ⟨h,2,none⟩ (.slice (some ⟨Q,0,none⟩) n n)).cell? ⟨J.heap.size+1,0,none⟩=some (.slice vo L vc)∧(((W'.setCell ⟨h,0,none⟩ (.int .i64 r)).setCell ⟨h,1,none⟩ (.int .i64 c)).setCell ⟨h,2,none⟩ (.slice (some ⟨Q,0,none⟩) n n)).cell? ⟨J.heap.size+1,1,none⟩=some (.int .u64 (tj:Nat))from
       ⟨⟨ga (u:=.int .i64 r) (u':=.int .i64 c) (u'':=.slice (some ⟨Q,0,none⟩) n n) bi k.1.1,ga bi k.1.2.1,ga bi k.1.2.2⟩,ga bz k.2.1,ga bz k.2.2⟩))
      have NB:=ac (n6.all hd);have MB:=ac (m6.all hd)
      generalize J.heap.size=nb at*
      clear p6 n6 m6 a9 v6 hd bi bz ax bt be bx ai cf cg HN
      refine wp_region_held_drew (S:=fun D=>(D.cell? ⟨nb,0,none⟩=some (.int .i64 (r:Nat))∧D.cell? ⟨nb,1,none⟩=some (.int .i64 (c:Nat))∧D.cell? ⟨nb,2,none⟩=some (.slice (some ⟨Q,0,none⟩) n n))∧D.cell? ⟨nb+1,0,none⟩=some (.slice vo L vc)∧D.cell? ⟨nb+1,1,none⟩=some (.int .u64 (tj:Nat))) (by kernel_rfl) ?_ (fun H=>?_)
      ·exact⟨⟨(uH NB).c0,(uH NB).c1,(uH NB).c2⟩,(uH MB).c0,(uH MB).c1⟩
      refine wpAnyH_take (i:=0) (oi:={dst:=some 75,op:=Op.load 25 (Operand.tmp 13),type:=25,pos:= "greatest.go:30",after:=#[],guard:=none}) (v:=Value.agg #[.int .i64 r,.int .i64 c,.slice (some ⟨Q,0,none⟩) n n]) rfl (by kernel_rfl) (by kernel_rfl) (by kernel_rfl) (fun _ _ _ h=>h) (Or.inl ⟨by rfl,?_⟩) (by assumption) ?_
      ·(intro w z;(try dsimp only at z);go_simp)
      simp only[Act.put,List.setIfInBounds_toArray,List.set_cons_zero,List.set_cons_succ]
      refine wpAnyH_take (i:=1) (oi:={dst:=some 76,op:=Op.move (Operand.tmp 9),type:=66,pos:= "greatest.go:30",after:=#[],guard:=none}) (v:=u9) rfl (by kernel_rfl) (by kernel_rfl) (by kernel_rfl) (fun _ _ _ h=>h) (Or.inl ⟨by rfl,?_⟩) (by assumption) ?_
      ·(intro w z;(try dsimp only at z);go_simp)
      simp only[Act.put,List.setIfInBounds_toArray,List.set_cons_zero,List.set_cons_succ]
      refine wpAnyH_take (i:=2) (oi:={dst:=some 77,op:=Op.load 121 (Operand.tmp 14),type:=121,pos:= "greatest.go:30",after:=#[],guard:=none}) (v:=Value.agg #[.slice vo L vc,.int .u64 (tj:Nat)]) rfl (by kernel_rfl) (by kernel_rfl) (by kernel_rfl) (fun _ _ _ h=>h) (Or.inl ⟨by rfl,?_⟩) (by assumption) ?_
      ·(intro w z;(try dsimp only at z);go_simp)
      simp only[Act.put,List.setIfInBounds_toArray,List.set_cons_zero,List.set_cons_succ]
      refine wpAnyH_ready (rs:=[3]) (by kernel_rfl) (by simp) ?_
      refine AllReadyH.cons (o:={dst:=some 78,op:=Op.buildSlice 66 1 #[(0,Operand.tmp 77)],type:=66,pos:= "greatest.go:30",after:=#[{on:=2,ground:=Ground.data}],guard:=none}) rfl (fun K0 F=>?_) AllReadyH.nil
      go_simp
      refine F.out _ _ ?_ (fun H=>?_)
      ·exact uH bo _ (ag _ _)
      clear F K0
      refine wpAnyH_ready (rs:=[4]) (by kernel_rfl) (by simp) ?_
      refine AllReadyH.cons (o:={dst:=some 79,op:=Op.call {callee:=Callee.builtin Builtin.append,args:=#[Operand.tmp 76,Operand.tmp 78],argTypes:=#[66,66]},type:=66,pos:= "greatest.go:30",after:=#[{on:=1,ground:=Ground.data},{on:=3,ground:=Ground.data}],guard:=none}) rfl (fun K0 F=>?_) AllReadyH.nil
      refine rf _ (by rfl) _ _ 66 (by rfl) _ _ _ (by rfl) (by rfl) (uH am) ?_
      clear am
      rintro v9 w9 ⟨ct,cx,bG⟩
      have BX:=ac ct;have P9:=ac cx
      clear ct cx
      refine F.out _ _ ?_ (fun H=>?_)
      ·exact bG
      have cm:=ac bG
      clear F K0 bG
      refine wpAnyH_ready (rs:=[5]) (by kernel_rfl) (by simp) ?_
      refine AllReadyH.cons (o:={dst:=none,op:=Op.store 25 (Operand.tmp 6) (Operand.tmp 75),type:=0,pos:= "greatest.go:30",after:=#[{on:=0,ground:=Ground.data},{on:=4,ground:=Ground.chain},{on:=0,ground:=Ground.phase},{on:=1,ground:=Ground.textOnly Departure.lateStores},{on:=2,ground:=Ground.textOnly Departure.lateStores},{on:=3,ground:=Ground.textOnly Departure.lateStores},{on:=4,ground:=Ground.textOnly Departure.lateStoresUnsure}],guard:=none}) rfl (fun K0 F=>?_) AllReadyH.nil
      have q0:=(uH BX).c0;have q1:=(uH BX).c1;have q2:=(uH BX).c2
      have f0:=(uH BX).free 0;have f1:=(uH BX).free 1;have f2:=(uH BX).free 2
      go_simp
      clear q0 q1 q2 f0 f1 f2
      refine F.out _ _ ?_ (fun H=>?_)
      ·exact uH ay _ (uH cm)
      clear F K0
      refine wpAnyH_take (i:=6) (oi:={dst:=some 9,op:=Op.assign (Operand.tmp 79),type:=66,pos:= "greatest.go:30",after:=#[{on:=4,ground:=Ground.data},{on:=5,ground:=Ground.chain},{on:=0,ground:=Ground.phase},{on:=1,ground:=Ground.phase},{on:=2,ground:=Ground.phase},{on:=3,ground:=Ground.phase},{on:=4,ground:=Ground.phase},{on:=5,ground:=Ground.phase}],guard:=none}) (v:=v9) rfl (by kernel_rfl) (by kernel_rfl) (by kernel_rfl) (fun _ _ _ h=>h) (Or.inl ⟨by rfl,?_⟩) (by assumption) ?_
      ·(intro w z;(try dsimp only at z);go_simp)
      simp only[Act.put,List.setIfInBounds_toArray,List.set_cons_zero,List.set_cons_succ]
      refine wpAnyH_done (by kernel_rfl) ?_ _
      clear bo ay BX cm NB MB
      go_wp2_with fail
      go_round
      case rel=>
       refine⟨j+1,some ⟨Q,0,none⟩,n,R++[⟨vo,vc,vj,tj,0⟩],p2,by have:=(uH b9).2 ⟨U,G⟩;omega,rfl,by go_num,?_,?_,?_,by rw[uH cb,uH cc];exact P9⟩
       ·show(R++[_]).length=j+1
        rw[List.length_append,uH aa];rfl
       ·show∀k,k<j+1→_
        intro k X
        rw[yq R _ k (by rw[uH aa];exact X)]
        by_cases g:k<R.length
        ·rw[if_pos g];exact uH a6 k (by rw[←uH aa];exact g)
        ·rw[if_neg g,show k=j by have:=uH aa;omega,dv,ds];exact⟨rfl,rfl⟩
       ·show∀k,k<j+1→_
        intro k X
        by_cases g:k<j
        ·exact uH hO k g
        ·rw[show k=j by omega];exact⟨uH ca,fun _=>uH HO⟩
      case measure=>first|(simp[intOf];done)|(simp[intOf];omega)
     ·have bA:Hid (ok=false):=ac (by
       cases X:ok with
       |false=>rfl
       |true=>exact absurd (((uH bb).1 X j U).2 G) (by rw[ho];decide))
      have ad:=ag J (.cells #[.int .i64 0,.int .i64 0,.slice none 0 0] 25)
      have ae:=ag (J.alloc (.cells #[.int .i64 0,.int .i64 0,.slice none 0 0] 25)) (.cells #[.slice none 0 0,.int .u64 0] 121)
      replace O:=ac (((uH O).all ad).all ae)
      clear ad ae ho
      have d:=(uH O).st
      have s0:=d.res.c0;have s1:=d.res.c1;have s2:=d.res.c2
      have f0:=d.res.free 0;have f1:=d.res.free 1;have f2:=d.res.free 2
      have Z:=d.res.put (.int .i64 0) (.int .i64 0) (.slice none 0 0)
      have z0:=Z.c0;have z1:=Z.c1;have z2:=Z.c2
      have BP:=ac (aW d.bel (b:=w.heap.size+1) (by omega) (.int .i64 0) (.int .i64 0) (.slice none 0 0))
      clear Z d O
      go_wp2_with fail
      exact bodyPost_ret (v:=.tuple #[.agg #[.int .i64 0,.int .i64 0,.slice none 0 0],.slice none 0 0,.slice none 0 0,.int .i64 2]) (by simp[results,Tryz.results42,go_sem,z0,z1,z2]) rfl ⟨.inr ⟨uH bA,rfl⟩,uH BP⟩
    ·have az:m=j+1:=by omega
     have cp:j=K:=by
      rcases Nat.lt_or_ge j K with q|q
      ·exact absurd ((uH b9).1 q).2 G
      ·omega
     have e1:((j:Int)==(r:Int)-1)=true:=by rw[beq_iff_eq];omega
     have e2:(j:Int)=(r:Int)-1:=by omega
     have e3:IntKind.i64.wrap ((r:Int)-1)=(j:Int):=(br _ (by omega)).trans (by omega)
     have e4:(r:Int)-1=(j:Int):=by omega
     have bm:Hid (RJ m=wj):=ac (by rw[az,uH cb];exact uH c7 G)
     have bp:Hid (PL m=pj):=ac (by rw[az];exact uH cc)
     have aD:Hid (ok=true):=ac ((uH bb).2 (fun k X=>by
      by_cases g:k<j
      ·exact uH hO k g
      ·rw[show k=j by omega];exact⟨uH ca,fun q=>absurd q G⟩))
     rw[cp]at aa a6
     have y0:=(uH O).st.a.c0
     clear az cp e2 G5
     have d:=uH O
     have q0:=d.st.rb.c0;have q1:=d.st.rb.c1;have q2:=d.st.rb.c2
     have s0:=d.st.res.c0;have s1:=d.st.res.c1;have s2:=d.st.res.c2
     have f0:=d.st.res.free 0;have f1:=d.st.res.free 1;have f2:=d.st.res.free 2
     have Z:=d.st.res.put (.int .i64 r) (.int .i64 c) (.slice (some ⟨g,0,none⟩) n n)
     have z0:=Z.c0;have z1:=Z.c1;have z2:=Z.c2
     have BP:=ac (aW d.st.bel (b:=w.heap.size+1) (by omega) (.int .i64 r) (.int .i64 c) (.slice (some ⟨g,0,none⟩) n n))
     have QB:=ac (d.st.bits.putM d.st.res (.int .i64 r) (.int .i64 c) (.slice (some ⟨g,0,none⟩) n n))
     have QL:=ac (d.st.l.putQ d.st.res (.int .i64 r) (.int .i64 c) (.slice (some ⟨g,0,none⟩) n n))
     have bE:=ac d.hp
     have QP:=ac (((d.pl.other (p:=⟨w.heap.size+1,0,none⟩) (by have:=d.hp;show p2≠w.heap.size+1;omega) (.int .i64 r)).other (p:=⟨w.heap.size+1,1,none⟩) (by have:=d.hp;show p2≠w.heap.size+1;omega) (.int .i64 c)).other (p:=⟨w.heap.size+1,2,none⟩) (by have:=d.hp;show p2≠w.heap.size+1;omega) (.slice (some ⟨g,0,none⟩) n n))
     have HN:=ac d.st.new
     clear Z d O
     go_wp2_with fail
     exact bodyPost_ret (v:=.tuple #[.agg #[.int .i64 r,.int .i64 c,.slice (some ⟨g,0,none⟩) n n],.slice (some ⟨p2,0,none⟩) c c,_,.int .i64 0]) (by simp[results,Tryz.results42,go_sem,z0,z1,z2]) rfl ⟨.inl ⟨uH aD,_,_,_,_,R,rfl,by first|exact uH HN|(rw[uH bm];exact uH HN),by first|exact uH QB|(rw[uH bm];exact uH QB),by have:=uH bE;omega,by first|exact uH QP|(rw[uH bp];exact uH QP),uH QL,uH aa,uH a6⟩,uH BP⟩
   ·have bA:Hid (ok=false):=ac (by
     cases X:ok with
     |false=>rfl
     |true=>exact absurd ((uH bb).1 X j U).1 (by rw[bn];decide))
    clear G3 G4 G5
    have d:=(uH N).st
    have s0:=d.res.c0;have s1:=d.res.c1;have s2:=d.res.c2
    have f0:=d.res.free 0;have f1:=d.res.free 1;have f2:=d.res.free 2
    have Z:=d.res.put (.int .i64 0) (.int .i64 0) (.slice none 0 0)
    have z0:=Z.c0;have z1:=Z.c1;have z2:=Z.c2
    have BP:=ac (aW d.bel (b:=w.heap.size+1) (by omega) (.int .i64 0) (.int .i64 0) (.slice none 0 0))
    clear Z d N
    go_wp2_with fail
    exact bodyPost_ret (v:=.tuple #[.agg #[.int .i64 0,.int .i64 0,.slice none 0 0],.slice none 0 0,.slice none 0 0,.int .i64 2]) (by simp[results,Tryz.results42,go_sem,z0,z1,z2]) rfl ⟨.inr ⟨uH bA,rfl⟩,uH BP⟩
  ·have aI:j=K:=by have:=uH b6;omega
   have a0:K=m:=by have:=uH b6;omega
   have c3:¬((j:Int)<(m:Int)):=by omega
   have aD:Hid (ok=true):=ac ((uH bb).2 (fun k X=>uH hO k (by omega)))
   rw[show RJ j=RJ m by rw[aI,a0],show PL j=PL m by rw[aI,a0]]at N
   rw[aI]at aa a6
   have d1:=ac aI
   clear aI a0
   have d:=uH N
   have q0:=d.st.rb.c0;have q1:=d.st.rb.c1;have q2:=d.st.rb.c2
   have s0:=d.st.res.c0;have s1:=d.st.res.c1;have s2:=d.st.res.c2
   have f0:=d.st.res.free 0;have f1:=d.st.res.free 1;have f2:=d.st.res.free 2
   have Z:=d.st.res.put (.int .i64 r) (.int .i64 c) (.slice ro n rc)
   have z0:=Z.c0;have z1:=Z.c1;have z2:=Z.c2
   have BP:=ac (aW d.st.bel (b:=w.heap.size+1) (by omega) (.int .i64 r) (.int .i64 c) (.slice ro n rc))
   have QB:=ac (d.st.bits.putM d.st.res (.int .i64 r) (.int .i64 c) (.slice ro n rc))
   have QL:=ac (d.st.l.putQ d.st.res (.int .i64 r) (.int .i64 c) (.slice ro n rc))
   have bE:=ac d.hp
   have QP:=ac (((d.pl.other (p:=⟨w.heap.size+1,0,none⟩) (by have:=d.hp;show pg≠w.heap.size+1;omega) (.int .i64 r)).other (p:=⟨w.heap.size+1,1,none⟩) (by have:=d.hp;show pg≠w.heap.size+1;omega) (.int .i64 c)).other (p:=⟨w.heap.size+1,2,none⟩) (by have:=d.hp;show pg≠w.heap.size+1;omega) (.slice ro n rc))
   have HN:=ac d.st.new
   clear Z d N
   go_wp2_with fail
   exact bodyPost_ret (v:=.tuple #[.agg #[.int .i64 r,.int .i64 c,.slice ro n rc],.slice (some ⟨pg,0,none⟩) c c,_,.int .i64 0]) (by simp[results,Tryz.results42,go_sem,z0,z1,z2]) rfl ⟨.inl ⟨uH aD,_,_,_,_,R,rfl,by first|exact uH HN|(rw[uH bm];exact uH HN),by first|exact uH QB|(rw[uH bm];exact uH QB),by have:=uH bE;omega,by first|exact uH QP|(rw[uH bp];exact uH QP),uH QL,uH aa,uH a6⟩,uH BP⟩
structure oz (w wr:World) (h r nq:Nat) (S:List Nat) (qo:Option Addr) (qc:Nat) (v:Value) (R:List Mr):Prop where
 bel:Below w.heap.size w wr
 hh:w.heap.size+1≤h
 res:aT wr w.heap.size (.int .i64 0) (.int .i64 0) (.slice none 0 0)
 qb:aT wr h (.int .i64 r) (.int .i64 r) (.slice qo nq qc)
 bits:ak wr qo qc (bs S)
 new:dJ w.heap.size qo (bs S)
 len:S.length=nq
 l:ch 0 wr v R
theorem oz.all{w wr z:World}{h r nq:Nat}{S:List Nat}{D:Option Addr}{F:Nat}{v:Value}{R:List Mr}(t:oz w wr h r nq S D F v R)(d:Below wr.heap.size wr z):oz w z h r nq S D F v R:=
 ⟨t.bel.trans (d.mono t.bel.size),t.hh,t.res.all d,t.qb.all d,t.bits.below d,t.new,t.len,t.l.below d⟩
theorem oz.put{w wr:World}{h r nq:Nat}{S U:List Nat}{D d:Option Addr}{F z:Nat}{v:Value}{R:List Mr}(t:oz w wr h r nq S D F v R)(G:ak wr d z (bs U))(H:dJ w.heap.size d (bs U))(I:U.length=nq):
  oz w (((wr.setCell ⟨h,0,none⟩ (.int .i64 r)).setCell ⟨h,1,none⟩ (.int .i64 r)).setCell ⟨h,2,none⟩ (.slice d nq z)) h r nq U d z v R:=by
 have J:=t.hh
 have L:w.heap.size≠h:=by omega
 exact⟨aW t.bel (by omega) _ _ _,J,t.res.three14 L _ _ _,t.qb.put _ _ _,G.putM t.qb _ _ _,H,I,t.l.putQ t.qb _ _ _⟩
theorem oz.start{w d:World}{r nq:Nat}{S:List Nat}{h:Option Addr}{t:Nat}{v:Value}{R:List Mr}(l:Below (w.heap.size+1) (w.alloc (.cells #[.int .i64 0,.int .i64 0,.slice none 0 0] 25)) d)(H:ak d h t (bs S))(I:dJ w.heap.size h (bs S))(J:S.length=nq)(L:ch 0 w v R):
  oz w (d.alloc (.cells #[.int .i64 r,.int .i64 r,.slice h nq t] 25)) d.heap.size r nq S h t v R:=by
 have z:=ag w (.cells #[.int .i64 0,.int .i64 0,.slice none 0 0] 25)
 have D:=aH w (.cells #[.int .i64 0,.int .i64 0,.slice none 0 0] 25)
 have M:=aT.new w (.int .i64 0) (.int .i64 0) (.slice none 0 0)
 rw[←D]at l
 have b:=ag d (.cells #[.int .i64 r,.int .i64 r,.slice h nq t] 25)
 have F:=z.trans (l.mono z.size)
 have G:=l.size
 rw[D]at G
 exact⟨F.trans (b.mono F.size),G,(M.all l).all b,aT.new d _ _ _,H.below b,I,J,((L.below z).below l).below b⟩
theorem ch.apart{d:Nat}{w:World}{b t D:Nat}{R:List Mr}(h:ch d w (.slice (some ⟨b,0,none⟩) t D) R){g:Nat}{x y z:Value}(F:aT w g x y z):b≠g:=by
 rcases h.1.2 with⟨e,_⟩|⟨k,G,H,l,J,I,rest⟩
 ·cases e
 ·simp only[Value.slice.injEq,Option.some.injEq,Addr.mk.injEq]at l
  obtain⟨⟨rfl,_⟩,_⟩:=l
  rintro rfl
  have e:=I.symm.trans F
  simp at e
theorem yz(r nq K lc:Nat)(lo:Option Addr)(V T:Nat→List Nat)(ad:Nat→Nat)(R:List Mr)(w:World)(ba:nq≤36)(bb:K≤6)(hl:ch 0 w (.slice lo K lc) R)(ae:R.length=K)(ai:∀k,k<K→(fo R k).V=V k∧(fo R k).tau=ad k)
  (lQ:∀t,(T t).length=nq) (lV:∀j,(V j).length=r-j)
  (C1:∀D,Calls Tryz.prog 105 #[.int .i64 r] D fun e I=>∃F H,e=.returned (.tuple #[.agg #[.int .i64 r,.int .i64 r,.slice F nq H],.int .i64 0])∧dJ D.heap.size F (bs (T 0))∧ak I F H (bs (T 0))∧Below D.heap.size D I)
  (C2:∀D t j po pc Y Z,t<K→j=K-1-t→Below w.heap.size w D→ak D po pc (bs (T t))→ak D Y Z (bs (V j))→Calls Tryz.prog 106 #[.agg #[.int .i64 r,.int .i64 r,.slice po nq pc],.int .i64 (j:Nat),.int .i64 0,.slice Y (r-j) Z,.int .u64 (ad j:Nat)] D fun e I=>∃F H,e=.returned (.tuple #[.agg #[.int .i64 r,.int .i64 r,.slice F nq H],.int .i64 0])∧dJ D.heap.size F (bs (T (t+1)))∧ak I F H (bs (T (t+1)))∧Below D.heap.size D I)
  (C3:∀D x,x<18446744073709551616→Calls Tryz.prog 98 #[.int .u64 (x:Nat)] D fun e I=>e=.returned (.bool (ah x))∧Below D.heap.size D I):
  Calls Tryz.prog 43 #[.int .i64 r,.slice lo K lc] w fun e D=>∃t F H,t≤K∧(t=K∨je (bs (T t)) nq=false)∧e=.returned (.agg #[.int .i64 r,.int .i64 r,.slice F nq H])∧dJ w.heap.size F (bs (T t))∧ak D F H (bs (T t))∧Below w.heap.size w D:=by
 have K1:=ac (C1 (w.alloc (.cells #[.int .i64 0,.int .i64 0,.slice none 0 0] 25)))
 simp only[aH]at K1
 have K2:=ac C2;have K3:=ac C3;have LQ:=ac lQ;have LV:=ac lV;have HL:=ac hl;have az:=ac ae;have aD:=ac ai
 have aI:IntKind.i64.wrap ((K:Int)-1)=(K:Int)-1:=br _ (by omega)
 clear C1 C2 C3 lQ lV hl ae ai
 go_enter Tryz.func43,Tryz.ntmps43
 go_wp2_with fail
 go_step3
 go_wp2_with fail
 refine(uH K1).mono ?_
 rintro e w1 ⟨F,H,rfl,hn,hq,U⟩
 have X:=ac (oz.start (r:=r) (v:=.slice lo K lc) (R:=R) U hq (hn.least (by omega)) (uH LQ 0) (uH HL))
 clear U hq hn K1 HL
 go_wp2_with fail
 go_step3
 go_wp2_with fail
 generalize w1.heap.size=h at*
 go_loopg [7] K (fun g a wr=>∃(t:Nat) (F:Option Addr) (H:Nat),t+g=K∧a=.int .i64 ((K:Int)-1-(t:Int))∧Hid (oz w wr h r nq (T t) F H (.slice lo K lc) R))
 case atStart=>exact⟨0,F,H,by omega,by simp,X⟩
 case round=>
  clear X aI
  obtain⟨t,F,H,bn,rfl,L⟩:=hrel
  cases gk with
  |zero=>
   have a0:t=K:=by omega
   subst a0
   have hz:(t:Int)-1-(t:Int)= -1:=by omega
   rw[hz]
   have z:=uH L
   have q0:=z.qb.c0;have q1:=z.qb.c1;have q2:=z.qb.c2
   have s0:=z.res.c0;have s1:=z.res.c1;have s2:=z.res.c2
   have f0:=z.res.free 0;have f1:=z.res.free 1;have f2:=z.res.free 2
   have XP:=z.res.put (.int .i64 r) (.int .i64 r) (.slice F nq H)
   have z0:=XP.c0;have z1:=XP.c1;have z2:=XP.c2
   have BP:=ac (aW z.bel (b:=w.heap.size) (Nat.le_refl _) (.int .i64 r) (.int .i64 r) (.slice F nq H))
   have QB:=ac (z.bits.putM z.res (.int .i64 r) (.int .i64 r) (.slice F nq H))
   have HN:=ac z.new
   clear XP z L
   go_wp2_with fail
   try rw[Exit.noGoto_ret]
   exact bodyPost_ret (v:=.agg #[.int .i64 r,.int .i64 r,.slice F nq H]) (by simp[results,Tryz.results43,go_sem,z0,z1,z2]) rfl ⟨t,_,_,by omega,.inl rfl,rfl,uH HN,uH QB,uH BP⟩
  |succ g=>
   have a1:t<K:=by omega
   obtain⟨m,hm⟩:∃m,K-1-t=m:=⟨_,rfl⟩
   have a2:(K:Int)-1-(t:Int)=(m:Int):=by omega
   rw[a2]
   have bd:(m:Int)<(K:Int):=by omega
   obtain⟨M,cl,el,a6,a7,N,O,kb⟩:=(uH L).l.at (k:=m) (by rw[uH az];omega)
   simp only[Value.slice.injEq]at el
   obtain⟨rfl,a9,rfl⟩:=el
   clear a9 a6 a7
   obtain⟨ev,et⟩:=uH aD m (by omega)
   rw[ev]at N kb
   rw[et]at O
   rw[uH LV m]at N
   have GQ:=ac (fun D po pc Y Z U hp hv=>uH K2 D t m po pc Y Z a1 hm.symm U hp hv)
   have KB:=ac kb
   have LN:=ac (uH LQ (t+1))
   generalize (fo R m).ao=Y at*
   generalize (fo R m).cap=Z at*
   generalize ad m=tm at*
   generalize V m=vm at*
   generalize aa:T (t+1)=nt at*
   clear kb ev et
   go_wp2_with fail
   refine aG (fun W=>oz w W h r nq (T t) F H (.slice (some ⟨M,0,none⟩) K lc) R∧(W.cell? ⟨M,m*2,none⟩=some (.slice Y (r-m) Z)∧W.cell? ⟨M,m*2+1,none⟩=some (.int .u64 (tm:Nat)))∧ak W Y Z (bs vm)) ⟨uH L,⟨N,O⟩,uH KB⟩ ?_
   clear L N O KB
   rintro W ⟨st,⟨N,O⟩,kb⟩
   have hd:=(Below.refl W.heap.size W).drew
   have X:=ac (st.all hd);have KB:=ac (kb.below hd)
   replace N:=av N hd
   replace O:=av O hd
   clear st kb hd
   have q0:=(uH X).qb.c0;have q1:=(uH X).qb.c1;have q2:=(uH X).qb.c2
   refine wp_region_held_drew (S:=(fun D=>D.cell? ⟨M,m*2,none⟩=some (.slice Y (r-m) Z)∧D.cell? ⟨M,m*2+1,none⟩=some (.int .u64 (tm:Nat)))) (by kernel_rfl) ?_ (fun J=>?_)
   ·exact⟨N,O⟩
   refine wpAnyH_take (i:=1) (oi:={dst:=some 24,op:=Op.move (Operand.tmp 7),type:=3,pos:= "mirrors.go:42",after:=#[],guard:=none}) (v:=(Value.int .i64 (m:Int))) rfl (by kernel_rfl) (by kernel_rfl) (by kernel_rfl) (fun _ _ _ h=>h) (Or.inl ⟨by rfl,?_⟩) (by assumption) ?_
   ·(intro w d;(try dsimp only at d);go_simp)
   simp only[Act.put,List.setIfInBounds_toArray,List.set_cons_zero,List.set_cons_succ]
   refine wpAnyH_take (i:=2) (oi:={dst:=some 25,op:=Op.move (Operand.tmp 1),type:=66,pos:= "mirrors.go:42",after:=#[],guard:=none}) (v:=(Value.slice (some ⟨M,0,none⟩) K lc)) rfl (by kernel_rfl) (by kernel_rfl) (by kernel_rfl) (fun _ _ _ h=>h) (Or.inl ⟨by rfl,?_⟩) (by assumption) ?_
   ·(intro w d;(try dsimp only at d);go_simp)
   simp only[Act.put,List.setIfInBounds_toArray,List.set_cons_zero,List.set_cons_succ]
   refine wpAnyH_take (i:=3) (oi:={dst:=some 26,op:=Op.move (Operand.tmp 7),type:=3,pos:= "mirrors.go:42",after:=#[],guard:=none}) (v:=(Value.int .i64 (m:Int))) rfl (by kernel_rfl) (by kernel_rfl) (by kernel_rfl) (fun _ _ _ h=>h) (Or.inl ⟨by rfl,?_⟩) (by assumption) ?_
   ·(intro w d;(try dsimp only at d);go_simp)
   simp only[Act.put,List.setIfInBounds_toArray,List.set_cons_zero,List.set_cons_succ]
   refine wpAnyH_take (i:=4) (oi:={dst:=some 27,op:=Op.indexAddr 66 (Operand.tmp 25) (Operand.tmp 26),type:=0,pos:= "mirrors.go:42",after:=#[{on:=2,ground:=Ground.data},{on:=3,ground:=Ground.data}],guard:=none}) (v:=(Value.pointer (some ⟨M,m*2,none⟩))) rfl (by kernel_rfl) (by kernel_rfl) (by kernel_rfl) (fun _ _ _ h=>h) (Or.inl ⟨by rfl,?_⟩) (by assumption) ?_
   ·(intro w d;(try dsimp only at d);go_simp)
   simp only[Act.put,List.setIfInBounds_toArray,List.set_cons_zero,List.set_cons_succ]
   refine wpAnyH_take (i:=5) (oi:={dst:=some 28,op:=Op.fieldAddr 121 (Operand.tmp 27) 0,type:=0,pos:= "mirrors.go:42",after:=#[{on:=4,ground:=Ground.data}],guard:=none}) (v:=(Value.pointer (some ⟨M,m*2,none⟩))) rfl (by kernel_rfl) (by kernel_rfl) (by kernel_rfl) (fun _ _ _ h=>h) (Or.inl ⟨by rfl,?_⟩) (by assumption) ?_
   ·(intro w d;(try dsimp only at d);go_simp)
   simp only[Act.put,List.setIfInBounds_toArray,List.set_cons_zero,List.set_cons_succ]
   refine wpAnyH_take (i:=6) (oi:={dst:=some 29,op:=Op.load 23 (Operand.tmp 28),type:=23,pos:= "mirrors.go:42",after:=#[{on:=5,ground:=Ground.data}],guard:=none}) (v:=(Value.slice Y (r-m) Z)) rfl (by kernel_rfl) (by kernel_rfl) (by kernel_rfl) (fun _ _ _ h=>h) (Or.inl ⟨by rfl,?_⟩) (by assumption) ?_
   ·(intro w d;(try dsimp only at d);go_simp)
   simp only[Act.put,List.setIfInBounds_toArray,List.set_cons_zero,List.set_cons_succ]
   refine wpAnyH_take (i:=7) (oi:={dst:=some 30,op:=Op.move (Operand.tmp 1),type:=66,pos:= "mirrors.go:42",after:=#[],guard:=none}) (v:=(Value.slice (some ⟨M,0,none⟩) K lc)) rfl (by kernel_rfl) (by kernel_rfl) (by kernel_rfl) (fun _ _ _ h=>h) (Or.inl ⟨by rfl,?_⟩) (by assumption) ?_
   ·(intro w d;(try dsimp only at d);go_simp)
   simp only[Act.put,List.setIfInBounds_toArray,List.set_cons_zero,List.set_cons_succ]
   refine wpAnyH_take (i:=8) (oi:={dst:=some 31,op:=Op.move (Operand.tmp 7),type:=3,pos:= "mirrors.go:42",after:=#[],guard:=none}) (v:=(Value.int .i64 (m:Int))) rfl (by kernel_rfl) (by kernel_rfl) (by kernel_rfl) (fun _ _ _ h=>h) (Or.inl ⟨by rfl,?_⟩) (by assumption) ?_
   ·(intro w d;(try dsimp only at d);go_simp)
   simp only[Act.put,List.setIfInBounds_toArray,List.set_cons_zero,List.set_cons_succ]
   refine wpAnyH_take (i:=9) (oi:={dst:=some 32,op:=Op.indexAddr 66 (Operand.tmp 30) (Operand.tmp 31),type:=0,pos:= "mirrors.go:42",after:=#[{on:=7,ground:=Ground.data},{on:=8,ground:=Ground.data}],guard:=none}) (v:=(Value.pointer (some ⟨M,m*2,none⟩))) rfl (by kernel_rfl) (by kernel_rfl) (by kernel_rfl) (fun _ _ _ h=>h) (Or.inl ⟨by rfl,?_⟩) (by assumption) ?_
   ·(intro w d;(try dsimp only at d);go_simp)
   simp only[Act.put,List.setIfInBounds_toArray,List.set_cons_zero,List.set_cons_succ]
   refine wpAnyH_take (i:=10) (oi:={dst:=some 33,op:=Op.fieldAddr 121 (Operand.tmp 32) 1,type:=0,pos:= "mirrors.go:42",after:=#[{on:=9,ground:=Ground.data}],guard:=none}) (v:=(Value.pointer (some ⟨M,m*2+1,none⟩))) rfl (by kernel_rfl) (by kernel_rfl) (by kernel_rfl) (fun _ _ _ h=>h) (Or.inl ⟨by rfl,?_⟩) (by assumption) ?_
   ·(intro w d;(try dsimp only at d);go_simp)
   simp only[Act.put,List.setIfInBounds_toArray,List.set_cons_zero,List.set_cons_succ]
   refine wpAnyH_take (i:=11) (oi:={dst:=some 34,op:=Op.load 28 (Operand.tmp 33),type:=28,pos:= "mirrors.go:42",after:=#[{on:=10,ground:=Ground.data}],guard:=none}) (v:=(Value.int .u64 (tm:Int))) rfl (by kernel_rfl) (by kernel_rfl) (by kernel_rfl) (fun _ _ _ h=>h) (Or.inl ⟨by rfl,?_⟩) (by assumption) ?_
   ·(intro w d;(try dsimp only at d);go_simp)
   simp only[Act.put,List.setIfInBounds_toArray,List.set_cons_zero,List.set_cons_succ]
   refine wpAnyH_ready (rs:=[0]) (by kernel_rfl) (by simp) ?_
   refine AllReadyH.cons (o:={dst:=some 23,op:=Op.load 25 (Operand.tmp 5),type:=25,pos:= "mirrors.go:42",after:=#[],guard:=none}) rfl (fun KK hK=>?_) AllReadyH.nil
   go_simp
   refine hK.out _ _ ?_ (fun J=>?_)
   ·exact⟨N,O⟩
   clear hK KK
   refine wpAnyH_ready (rs:=[12]) (by kernel_rfl) (by simp) ?_
   refine AllReadyH.cons (o:={dst:=some 35,op:=Op.call {callee:=Callee.value (Operand.func 106),args:=#[Operand.tmp 23,Operand.tmp 24,Operand.const (Value.int IntKind.i64 0),Operand.tmp 29,Operand.tmp 34],argTypes:=#[25,3,3,23,28]},type:=42,pos:= "mirrors.go:42",after:=#[{on:=0,ground:=Ground.data},{on:=1,ground:=Ground.data},{on:=6,ground:=Ground.data},{on:=11,ground:=Ground.data}],guard:=none}) rfl (fun KK hK=>?_) AllReadyH.nil
   go_simp
   refine(uH GQ _ _ _ _ _ (uH X).bel (uH X).bits (uH KB)).mono ?_
   rintro e w5 ⟨Q,G,rfl,ax,ay,U⟩
   clear q0 q1 q2
   have S5:=(uH X).all U
   replace N:=av N U
   replace O:=av O U
   have am:=ac (And.intro N O)
   have ha:=S5.l.apart S5.qb
   have ap:=ac (And.intro (show(((w5.setCell ⟨h,0,none⟩ (.int .i64 r)).setCell ⟨h,1,none⟩ (.int .i64 r)).setCell ⟨h,2,none⟩ (.slice Q nq G)).cell? ⟨M,m*2,none⟩=some (.slice Y (r-m) Z) by rw[an _ _ _ _ ha,an _ _ _ _ ha,an _ _ _ _ ha];exact N) (show(((w5.setCell ⟨h,0,none⟩ (.int .i64 r)).setCell ⟨h,1,none⟩ (.int .i64 r)).setCell ⟨h,2,none⟩ (.slice Q nq G)).cell? ⟨M,m*2+1,none⟩=some (.int .u64 (tm:Nat)) by rw[an _ _ _ _ ha,an _ _ _ _ ha,an _ _ _ _ ha];exact O))
   have q0:=S5.qb.c0;have q1:=S5.qb.c1;have q2:=S5.qb.c2
   have f0:=S5.qb.free 0;have f1:=S5.qb.free 1;have f2:=S5.qb.free 2
   have P5:=ac (S5.put ay (ax.least (uH X).bel.size) (uH LN))
   clear U ay ax S5 GQ X KB ha N O
   go_wp2_with fail
   refine hK.out _ _ ?_ (fun J=>?_)
   ·exact uH am
   clear hK KK
   refine wpAnyH_take (i:=13) (oi:={dst:=some 22,op:=Op.move (Operand.tmp 35),type:=42,pos:= "mirrors.go:42",after:=#[{on:=12,ground:=Ground.data}],guard:=none}) (v:=(Value.tuple #[(Value.agg #[.int .i64 (r:Int),.int .i64 (r:Int),.slice Q nq G]),.int .i64 0])) rfl (by kernel_rfl) (by kernel_rfl) (by kernel_rfl) (fun _ _ _ h=>h) (Or.inl ⟨by rfl,?_⟩) (by assumption) ?_
   ·(intro w d;(try dsimp only at d);go_simp)
   simp only[Act.put,List.setIfInBounds_toArray,List.set_cons_zero,List.set_cons_succ]
   refine wpAnyH_take (i:=14) (oi:={dst:=some 36,op:=Op.extract (Operand.tmp 22) 0,type:=25,pos:= "mirrors.go:42",after:=#[{on:=13,ground:=Ground.data}],guard:=none}) (v:=(Value.agg #[.int .i64 (r:Int),.int .i64 (r:Int),.slice Q nq G])) rfl (by kernel_rfl) (by kernel_rfl) (by kernel_rfl) (fun _ _ _ h=>h) (Or.inl ⟨by rfl,?_⟩) (by assumption) ?_
   ·(intro w d;(try dsimp only at d);go_simp)
   simp only[Act.put,List.setIfInBounds_toArray,List.set_cons_zero,List.set_cons_succ]
   refine wpAnyH_take (i:=15) (oi:={dst:=some 37,op:=Op.extract (Operand.tmp 22) 1,type:=33,pos:= "mirrors.go:42",after:=#[{on:=13,ground:=Ground.data},{on:=16,ground:=Ground.gcOnly Departure.lateStores}],guard:=none}) (v:=(Value.int .i64 0)) rfl (by kernel_rfl) (by kernel_rfl) (by kernel_rfl) (fun _ _ _ h=>h) (Or.inl ⟨by rfl,?_⟩) (by assumption) ?_
   ·(intro w d;(try dsimp only at d);go_simp)
   simp only[Act.put,List.setIfInBounds_toArray,List.set_cons_zero,List.set_cons_succ]
   refine wpAnyH_ready (rs:=[16]) (by kernel_rfl) (by simp) ?_
   refine AllReadyH.cons (o:={dst:=none,op:=Op.store 25 (Operand.tmp 5) (Operand.tmp 36),type:=0,pos:= "mirrors.go:42",after:=#[{on:=14,ground:=Ground.data},{on:=12,ground:=Ground.chain},{on:=0,ground:=Ground.phase},{on:=1,ground:=Ground.phase},{on:=2,ground:=Ground.phase},{on:=3,ground:=Ground.phase},{on:=4,ground:=Ground.phase},{on:=5,ground:=Ground.phase},{on:=6,ground:=Ground.phase},{on:=7,ground:=Ground.phase},{on:=8,ground:=Ground.phase},{on:=9,ground:=Ground.phase},{on:=10,ground:=Ground.phase},{on:=11,ground:=Ground.phase},{on:=12,ground:=Ground.phase},{on:=13,ground:=Ground.phase},{on:=14,ground:=Ground.phase},{on:=15,ground:=Ground.textOnly Departure.lateStores}],guard:=none}) rfl (fun KK hK=>?_) AllReadyH.nil
   go_simp
   refine hK.out _ _ ?_ (fun J=>?_)
   ·exact uH ap
   clear hK KK
   refine wpAnyH_done (by kernel_rfl) ?_ _
   clear q0 q1 q2 f0 f1 f2 am ap
   have z2:=(uH P5).qb.c2
   go_wp2_with fail
   clear z2
   go_loopg [41] nq (fun g2 a wr=>∃i:Nat,i+g2=nq∧a=.int .i64 i∧Hid (∀k,k<i→ah (bN (bs nt) k)=true)∧Hid (oz w wr h r nq nt Q G (.slice (some ⟨M,0,none⟩) K lc) R))
   case atStart=>exact⟨0,by omega,rfl,fun k hk=>absurd hk (Nat.not_lt_zero k),by first|exact P5|exact ac (uH P5)⟩
   case round=>
    clear P5
    obtain⟨i,bo,rfl,hF,L⟩:=hrel
    cases gk with
    |zero=>
     have be:¬((i:Int)<(nq:Int)):=by omega
     have bi:IntKind.i64.wrap ((m:Int)-1)=(m:Int)-1:=br _ (by omega)
     go_wp2_with fail
     go_roundg g
     case measure=>omega
     case rel=>exact⟨t+1,Q,G,by omega,by rw[show(m:Int)-1=(K:Int)-1-((t+1:Nat):Int) by omega],by rw[aa];exact L⟩
    |succ g2=>
     have bm:(i:Int)<(nq:Int):=by omega
     obtain⟨b5,o5,rfl,_,aq⟩:=(uH L).bits.ne (by rw[aM,(uH L).len];omega)
     have c5:=aq i (by rw[aM,(uH L).len];omega)
     have hx:=(uH L).bits.lt i
     have ec:(bs nt)[i]?.getD 0=(bN (bs nt) i:Int):=((uH L).bits.wf i).1
     have a3:=ac (fun(e:ah (bN (bs nt) i)=true)=>(show∀k,k<i+1→ah (bN (bs nt) k)=true from fun k hk=>by
      rcases Nat.lt_or_ge k i with g|g
      ·exact uH hF k g
      ·rw[show k=i by omega];exact e))
     have a4:=ac (fun(e:ah (bN (bs nt) i)=false)=>LA (bs nt) nq i (by omega) e)
     have KX:=ac (fun D=>uH K3 D _ hx)
     generalize bN (bs nt) i=x at*
     clear hx aq ec
     go_wp2_with fail
     clear c5
     refine(uH KX _).mono ?_
     rintro e w6 ⟨rfl,U⟩
     have S6:=ac ((uH L).all U)
     clear U L KX
     cases hfx:ah x with
     |true=>
      go_wp2_with fail
      go_roundg g2
      case measure=>omega
      case rel=>exact⟨i+1,by omega,by go_num,ac (uH a3 hfx),S6⟩
     |false=>
      have z:=uH S6
      have a5:=ac (uH a4 hfx)
      have q0:=z.qb.c0;have q1:=z.qb.c1;have q2:=z.qb.c2
      have s0:=z.res.c0;have s1:=z.res.c1;have s2:=z.res.c2
      have f0:=z.res.free 0;have f1:=z.res.free 1;have f2:=z.res.free 2
      have XP:=z.res.put (.int .i64 r) (.int .i64 r) (.slice (some ⟨b5,o5,none⟩) nq G)
      have z0:=XP.c0;have z1:=XP.c1;have z2:=XP.c2
      have BP:=ac (aW z.bel (b:=w.heap.size) (Nat.le_refl _) (.int .i64 r) (.int .i64 r) (.slice (some ⟨b5,o5,none⟩) nq G))
      have QB:=ac (z.bits.putM z.res (.int .i64 r) (.int .i64 r) (.slice (some ⟨b5,o5,none⟩) nq G))
      have HN:=ac z.new
      clear XP z S6
      go_wp2_with fail
      try rw[Exit.noGoto_ret]
      exact bodyPost_ret (v:=.agg #[.int .i64 r,.int .i64 r,.slice (some ⟨b5,o5,none⟩) nq G]) (by simp[results,Tryz.results43,go_sem,z0,z1,z2]) rfl ⟨t+1,_,_,by omega,.inr (by rw[aa];exact uH a5),rfl,by rw[aa];exact uH HN,by rw[aa];exact uH QB,uH BP⟩
theorem dH{w:World}{b g j:Nat}{u u' u'' v:Value}(d:b≠g)(h:w.cell? ⟨b,j,none⟩=some v):(((w.setCell ⟨g,0,none⟩ u).setCell ⟨g,1,none⟩ u').setCell ⟨g,2,none⟩ u'').cell? ⟨b,j,none⟩=some v:=by
 rw[an _ _ _ _ d,an _ _ _ _ d,an _ _ _ _ d]
 exact h
theorem en{w:World}{a:Addr}{v:Value}(h:w.cell? a=some v):w.drew.cell? a=some v:=h
theorem bL{w:World}{b g j:Nat}{u u' u'' v:Value}(d:b≠g)(h:w.cell? ⟨b,j,none⟩=some v):(((w.setCell ⟨g,0,none⟩ u).setCell ⟨g,1,none⟩ u').setCell ⟨g,2,none⟩ u'').drew.cell? ⟨b,j,none⟩=some v:=en (dH d h)
structure wv (w wr:World) (x y:Int) (ao:Option Addr) (n cap:Nat):Prop where
 bel:Below w.heap.size w wr
 a:aT wr w.heap.size (.int .i64 x) (.int .i64 y) (.slice ao n cap)
 r1:aT wr (w.heap.size+1) (.int .i64 0) (.int .i64 0) (.slice none 0 0)
 r2:aT wr (w.heap.size+1+1) (.int .i64 0) (.int .i64 0) (.slice none 0 0)
theorem wv.all{w wr l:World}{x y:Int}{z:Option Addr}{n d:Nat}(t:wv w wr x y z n d)(h:Below wr.heap.size wr l):wv w l x y z n d:=⟨t.bel.trans (h.mono t.bel.size),t.a.all h,t.r1.all h,t.r2.all h⟩
theorem wv.start(w:World)(x y:Int)(h:Option Addr)(n d:Nat):wv w (((w.alloc (.cells #[.int .i64 x,.int .i64 y,.slice h n d] 25)).alloc (.cells #[.int .i64 0,.int .i64 0,.slice none 0 0] 25)).alloc (.cells #[.int .i64 0,.int .i64 0,.slice none 0 0] 25)) x y h n d:=by
 obtain⟨l,t,z,D⟩:=LD w (.int .i64 x) (.int .i64 y) (.slice h n d) (.int .i64 0) (.int .i64 0) (.slice none 0 0) (.int .i64 0) (.int .i64 0) (.slice none 0 0) _ (Below.refl _ _)
 exact⟨l,t,z,D⟩
theorem JA(r c:Int)(G:Option Addr)(n t:Nat)(er:Int)(w:World)(H:er=1∨er=4)
  (J:∀d,Below w.heap.size w d→Calls Tryz.prog 41 #[.agg #[.int .i64 r,.int .i64 c,.slice G n t]] d fun e I=>e=.returned (.int .i64 er)∧Below d.heap.size d I):
  Calls Tryz.prog 11 #[.agg #[.int .i64 r,.int .i64 c,.slice G n t]] w fun e d=>∃v u,e=.returned (.tuple #[v,u,.slice none 0 0,.int .i64 er])∧dc w.heap.size d 0 0 [] v∧dc w.heap.size d 0 0 [] u∧Below w.heap.size w d:=by
 have z:=ac (wv.start w r c G n t)
 have L:=ac (J _ (uH z).bel)
 clear J
 rcases H with rfl|rfl
 all_goals
  go_enter Tryz.func11,Tryz.ntmps11
  go_wp2_with fail
  refine(uH L).mono ?_
  rintro e w1 ⟨rfl,O⟩
  replace z:=ac ((uH z).all O)
  clear O L
  have h:=(uH z).r1;have M:=(uH z).r2
  have Y:=h.c0;have Z:=h.c1;have s2:=h.c2
  have f0:=h.free 0;have f1:=h.free 1;have f2:=h.free 2
  have N:=h.put (.int .i64 0) (.int .i64 0) (.slice none 0 0)
  have l:=M.three14 (g:=w.heap.size+1) (by omega) (.int .i64 0) (.int .i64 0) (.slice none 0 0)
  have s3:=l.c0;have s4:=l.c1;have s5:=l.c2
  have f3:=l.free 0;have f4:=l.free 1;have f5:=l.free 2
  have D:=N.three14 (g:=w.heap.size+1+1) (by omega) (.int .i64 0) (.int .i64 0) (.slice none 0 0)
  have F:=l.put (.int .i64 0) (.int .i64 0) (.slice none 0 0)
  have Q:=D.c0;have z1:=D.c1;have z2:=D.c2;have T:=F.c0;have U:=F.c1;have V:=F.c2
  have X:=ac (aW (aW (uH z).bel (b:=w.heap.size+1) (by omega) (.int .i64 0) (.int .i64 0) (.slice none 0 0)) (b:=w.heap.size+1+1) (by omega) (.int .i64 0) (.int .i64 0) (.slice none 0 0))
  clear h M N l D F z
  go_wp2_with fail
  exact bodyPost_ret (v:=.tuple #[.agg #[.int .i64 0,.int .i64 0,.slice none 0 0],.agg #[.int .i64 0,.int .i64 0,.slice none 0 0],.slice none 0 0,.int .i64 _]) (by simp[results,Tryz.results11,go_sem,Q,z1,z2,T,U,V]) rfl ⟨_,_,rfl,dc.zero _ _,dc.zero _ _,uH X⟩
theorem yA(r c n nq K ad:Nat)(ao:Option Addr)(S QF P:List Nat)(V:Nat→List Nat)(a1:Nat→Nat)(ok fq fr:Bool)(w:World)(lS:S.length=n)(lQ:QF.length=nq)(ae:je (bs QF) nq=fq)
  (C1:∀d,Below w.heap.size w d→Calls Tryz.prog 41 #[.agg #[.int .i64 r,.int .i64 c,.slice ao n ad]] d fun e J=>e=.returned (.int .i64 0)∧Below d.heap.size d J)
  (C2:∀d,Below w.heap.size w d→Calls Tryz.prog 42 #[.agg #[.int .i64 r,.int .i64 c,.slice ao n ad]] d fun e J=>Ff d J ok r c n K S P V a1 e∧Below d.heap.size d J)
  (C3:∀d lo lc R,Below w.heap.size w d→ch 0 d (.slice lo K lc) R→R.length=K→(∀k,k<K→(fo R k).V=V k∧(fo R k).tau=a1 k)→Calls Tryz.prog 43 #[.int .i64 r,.slice lo K lc] d fun e J=>∃Q z F,(Q=QF∨(je (bs Q) nq=false∧fq=false))∧Q.length=nq∧e=.returned (.agg #[.int .i64 r,.int .i64 r,.slice z nq F])∧dJ d.heap.size z (bs Q)∧ak J z F (bs Q)∧Below d.heap.size d J)
  (C4:∀d Q z F,ak d z F (bs Q)→Q.length=nq→Calls Tryz.prog 44 #[.slice z nq F] d fun e J=>e=.returned (.bool (je (bs Q) nq))∧Below d.heap.size d J)
  (C5:∀d H I,ak d H I (bs S)→Calls Tryz.prog 44 #[.slice H n I] d fun e J=>e=.returned (.bool fr)∧Below d.heap.size d J):
  Calls Tryz.prog 11 #[.agg #[.int .i64 r,.int .i64 c,.slice ao n ad]] w fun e d=>(((ok&&(fq&&fr))=true∧∃v u pg,e=.returned (.tuple #[v,u,.slice (some ⟨pg,0,none⟩) c c,.int .i64 0])∧dc w.heap.size d r r QF v∧dc w.heap.size d r c S u∧w.heap.size≤pg∧cw d pg P)∨((ok&&(fq&&fr))=false∧∃v u,e=.returned (.tuple #[v,u,.slice none 0 0,.int .i64 2])∧dc w.heap.size d 0 0 [] v∧dc w.heap.size d 0 0 [] u))∧Below w.heap.size w d:=by
 have ST:=ac (wv.start w r c ao n ad)
 have K1:=ac (C1 _ (uH ST).bel);have K2:=ac C2;have K3:=ac C3;have K4:=ac C4;have K5:=ac C5;have LS:=ac lS;have LQ:=ac lQ;have ay:=ac ae
 clear C1 C2 C3 C4 C5 lS lQ ae
 go_enter Tryz.func11,Tryz.ntmps11
 go_wp2_with fail
 refine(uH K1).mono ?_
 rintro e w1 ⟨rfl,G⟩
 replace ST:=ac ((uH ST).all G)
 clear G K1
 have y0:=(uH ST).a.c0;have y1:=(uH ST).a.c1;have y2:=(uH ST).a.c2
 go_wp2_with fail
 clear y0 y1 y2
 refine(uH K2 _ (uH ST).bel).mono ?_
 rintro e Y ⟨a6,G⟩
 have D:=ac ((uH ST).all G)
 have HZ:=ac (show w.heap.size≤w1.heap.size from(uH ST).bel.size)
 have az:=ac (show w.heap.size+1+1<w1.heap.size from(uH ST).r2.lt)
 clear G ST K2
 rcases a6 with⟨aq,H,I,pg,v,R,rfl,hn,hq,a9,am,hl,a0,bb⟩|⟨aq,rfl⟩
 ·obtain⟨lo,lc,a5⟩:=hl.slice
  rw[a0]at a5
  subst a5
  have Z:=ag Y (.cells #[.int .i64 r,.int .i64 c,.slice H n I] 25)
  have M:=ac (uH D).r2.lt
  have RB:=ac (aT.new Y (.int .i64 r) (.int .i64 c) (.slice H n I))
  replace D:=ac ((uH D).all Z)
  have HQ:=ac (hq.below Z)
  have X:=ac (am.all Z)
  have aD:=ac (show w.heap.size+1+1<pg from Nat.lt_of_lt_of_le (uH az) a9)
  have HN:=ac (hn.least (uH HZ))
  have HL:=ac ((hl.least (Nat.zero_le _)).below Z)
  have bd:=ac a0;have be:=ac bb;have bi:=ac aq
  clear Z hq hn hl a0 bb aq HZ az a9 am
  have y0:=(uH D).a.c0
  go_wp2_with fail
  clear y0
  refine(uH K3 _ lo lc R (uH D).bel (uH HL) (uH bd) (uH be)).mono ?_
  rintro e w3 ⟨Q,z,F,hQ,lQ,rfl,hn,hq,G⟩
  have Z:=ag w3 (.cells #[.int .i64 r,.int .i64 r,.slice z nq F] 25)
  have N:=ac ((uH D).all G).r2.lt
  have QB:=ac (aT.new w3 (.int .i64 r) (.int .i64 r) (.slice z nq F))
  have bm:=ac (hn.least (uH D).bel.size)
  replace D:=ac (((uH D).all G).all Z)
  replace RB:=ac (((uH RB).all G).all Z)
  replace HQ:=ac (((uH HQ).below G).below Z)
  replace X:=ac (((uH X).all G).all Z)
  have O:=ac (hq.below Z)
  have aI:=ac hQ;have bn:=ac lQ
  clear G Z hn hq HL hQ lQ K3
  have y2:=(uH QB).c2
  go_wp2_with fail
  clear y2
  refine(uH K4 _ Q z F (uH O) (uH bn)).mono ?_
  rintro e w4 ⟨rfl,G⟩
  replace D:=ac ((uH D).all G)
  replace RB:=ac ((uH RB).all G)
  replace QB:=ac ((uH QB).all G)
  replace HQ:=ac ((uH HQ).below G)
  replace X:=ac ((uH X).all G)
  replace O:=ac ((uH O).below G)
  clear G K4
  cases hfQ:je (bs Q) nq with
  |false=>
   have ai:Hid ((ok&&(fq&&fr))=false):=ac (by
    rcases uH aI with e|e
    ·rw[e,uH ay]at hfQ
     rw[hfQ];cases ok<;>rfl
    ·rw[e.2];cases ok<;>rfl)
   clear RB QB HQ O
   have l:=(uH D).r1;have X2:=(uH D).r2
   have s0:=l.c0;have s1:=l.c1;have s2:=l.c2
   have f0:=l.free 0;have f1:=l.free 1;have f2:=l.free 2
   have Y1:=l.put (.int .i64 0) (.int .i64 0) (.slice none 0 0)
   have t:=X2.three14 (g:=w.heap.size+1) (by omega) (.int .i64 0) (.int .i64 0) (.slice none 0 0)
   have s3:=t.c0;have s4:=t.c1;have s5:=t.c2
   have f3:=t.free 0;have f4:=t.free 1;have f5:=t.free 2
   have T:=Y1.three14 (g:=w.heap.size+1+1) (by omega) (.int .i64 0) (.int .i64 0) (.slice none 0 0)
   have U:=t.put (.int .i64 0) (.int .i64 0) (.slice none 0 0)
   have z0:=T.c0;have z1:=T.c1;have z2:=T.c2;have z3:=U.c0;have z4:=U.c1;have z5:=U.c2
   have BP:=ac (aW (aW (uH D).bel (b:=w.heap.size+1) (by omega) (.int .i64 0) (.int .i64 0) (.slice none 0 0)) (b:=w.heap.size+1+1) (by omega) (.int .i64 0) (.int .i64 0) (.slice none 0 0))
   clear l X2 Y1 t T U D
   go_wp2_with fail
   exact bodyPost_ret (v:=.tuple #[.agg #[.int .i64 0,.int .i64 0,.slice none 0 0],.agg #[.int .i64 0,.int .i64 0,.slice none 0 0],.slice none 0 0,.int .i64 2]) (by simp[results,Tryz.results11,go_sem,z0,z1,z2,z3,z4,z5]) rfl ⟨.inr ⟨uH ai,_,_,rfl,dc.zero _ _,dc.zero _ _⟩,uH BP⟩
  |true=>
   have bo:Q=QF:=by
    rcases uH aI with e|e
    ·exact e
    ·rw[e.1]at hfQ;cases hfQ
   subst bo
   have ae:fq=true:=by rw[←uH ay];exact hfQ
   have y2:=(uH RB).c2
   go_wp2_with fail
   clear y2
   refine(uH K5 _ H I (uH HQ)).mono ?_
   rintro e w5 ⟨rfl,G⟩
   replace D:=ac ((uH D).all G)
   replace RB:=ac ((uH RB).all G)
   replace QB:=ac ((uH QB).all G)
   replace HQ:=ac ((uH HQ).below G)
   replace X:=ac ((uH X).all G)
   replace O:=ac ((uH O).below G)
   clear G K5
   cases hfr:fr with
   |false=>
    have ai:Hid ((ok&&(fq&&fr))=false):=ac (by rw[hfr];cases ok<;>cases fq<;>rfl)
    clear RB QB HQ O
    have l:=(uH D).r1;have X2:=(uH D).r2
    have s0:=l.c0;have s1:=l.c1;have s2:=l.c2
    have f0:=l.free 0;have f1:=l.free 1;have f2:=l.free 2
    have Y1:=l.put (.int .i64 0) (.int .i64 0) (.slice none 0 0)
    have t:=X2.three14 (g:=w.heap.size+1) (by omega) (.int .i64 0) (.int .i64 0) (.slice none 0 0)
    have s3:=t.c0;have s4:=t.c1;have s5:=t.c2
    have f3:=t.free 0;have f4:=t.free 1;have f5:=t.free 2
    have T:=Y1.three14 (g:=w.heap.size+1+1) (by omega) (.int .i64 0) (.int .i64 0) (.slice none 0 0)
    have U:=t.put (.int .i64 0) (.int .i64 0) (.slice none 0 0)
    have z0:=T.c0;have z1:=T.c1;have z2:=T.c2;have z3:=U.c0;have z4:=U.c1;have z5:=U.c2
    have BP:=ac (aW (aW (uH D).bel (b:=w.heap.size+1) (by omega) (.int .i64 0) (.int .i64 0) (.slice none 0 0)) (b:=w.heap.size+1+1) (by omega) (.int .i64 0) (.int .i64 0) (.slice none 0 0))
    clear l X2 Y1 t T U D
    go_wp2_with fail
    exact bodyPost_ret (v:=.tuple #[.agg #[.int .i64 0,.int .i64 0,.slice none 0 0],.agg #[.int .i64 0,.int .i64 0,.slice none 0 0],.slice none 0 0,.int .i64 2]) (by simp[results,Tryz.results11,go_sem,z0,z1,z2,z3,z4,z5]) rfl ⟨.inr ⟨uH ai,_,_,rfl,dc.zero _ _,dc.zero _ _⟩,uH BP⟩
   |true=>
    have a2:Hid ((ok&&(fq&&fr))=true):=ac (by rw[uH bi,ae,hfr];rfl)
    clear hfQ ay aI ae hfr
    go_wp2_with fail
    refine aG (fun W=>wv w W r c ao n ad∧aT W Y.heap.size (.int .i64 r) (.int .i64 c) (.slice H n I)∧aT W w3.heap.size (.int .i64 r) (.int .i64 r) (.slice z nq F)∧ak W H I (bs S)∧ak W z F (bs Q)∧cw W pg P) ⟨uH D,uH RB,uH QB,uH HQ,uH O,uH X⟩ ?_
    clear D RB QB HQ O X
    rintro W ⟨s2,rb,qb,hq,a7,am⟩
    have D:=ac (s2)
    have y0:=(rb).c0;have y1:=(rb).c1;have y2:=(rb).c2
    have y3:=(qb).c0;have y4:=(qb).c1;have y5:=(qb).c2
    have Q1:=hq;have Q3:=a7
    clear s2 rb qb hq a7
    have l:=(uH D).r1;have X2:=(uH D).r2
    have s0:=l.c0;have s1:=l.c1;have s2:=l.c2
    have f0:=l.free 0;have f1:=l.free 1;have f2:=l.free 2
    have Y1:=l.put (.int .i64 r) (.int .i64 r) (.slice z nq F)
    have t:=X2.three14 (g:=w.heap.size+1) (by omega) (.int .i64 r) (.int .i64 r) (.slice z nq F)
    have s3:=t.c0;have s4:=t.c1;have s5:=t.c2
    have f3:=t.free 0;have f4:=t.free 1;have f5:=t.free 2
    have T:=Y1.three14 (g:=w.heap.size+1+1) (by omega) (.int .i64 r) (.int .i64 c) (.slice H n I)
    have U:=t.put (.int .i64 r) (.int .i64 c) (.slice H n I)
    have z0:=T.c0;have z1:=T.c1;have z2:=T.c2;have z3:=U.c0;have z4:=U.c1;have z5:=U.c2
    have BP:=ac (aW (aW (uH D).bel (b:=w.heap.size+1) (by omega) (.int .i64 r) (.int .i64 r) (.slice z nq F)) (b:=w.heap.size+1+1) (by omega) (.int .i64 r) (.int .i64 c) (.slice H n I))
    have PR:=ac ((Q1.putM l (.int .i64 r) (.int .i64 r) (.slice z nq F)).putM t (.int .i64 r) (.int .i64 c) (.slice H n I))
    have PQ:=ac ((Q3.putM l (.int .i64 r) (.int .i64 r) (.slice z nq F)).putM t (.int .i64 r) (.int .i64 c) (.slice H n I))
    have PP:=ac ((am.three (g:=w.heap.size+1) (by have:=uH aD;omega) (.int .i64 r) (.int .i64 r) (.slice z nq F)).three (g:=w.heap.size+1+1) (by have:=uH aD;omega) (.int .i64 r) (.int .i64 c) (.slice H n I))
    clear l X2 Y1 t T U D Q1 Q3 am
    have a3:=ac (show _∧_∧_∧_∧_∧_ from⟨en y3,en y4,en y5,en y0,en y1,en y2⟩)
    have aa:=ac (show _∧_∧_∧_∧_∧_ from⟨dH (u:=.int .i64 r) (u':=.int .i64 r) (u'':=.slice z nq F) (show w3.heap.size≠w.heap.size+1 by have:=uH N;omega) y3,dH (u:=.int .i64 r) (u':=.int .i64 r) (u'':=.slice z nq F) (show w3.heap.size≠w.heap.size+1 by have:=uH N;omega) y4,dH (u:=.int .i64 r) (u':=.int .i64 r) (u'':=.slice z nq F) (show w3.heap.size≠w.heap.size+1 by have:=uH N;omega) y5,dH (u:=.int .i64 r) (u':=.int .i64 r) (u'':=.slice z nq F) (show Y.heap.size≠w.heap.size+1 by have:=uH M;omega) y0,dH (u:=.int .i64 r) (u':=.int .i64 r) (u'':=.slice z nq F) (show Y.heap.size≠w.heap.size+1 by have:=uH M;omega) y1,dH (u:=.int .i64 r) (u':=.int .i64 r) (u'':=.slice z nq F) (show Y.heap.size≠w.heap.size+1 by have:=uH M;omega) y2⟩)
    have a4:=ac (show _∧_∧_∧_∧_∧_ from⟨bL (u:=.int .i64 r) (u':=.int .i64 r) (u'':=.slice z nq F) (show w3.heap.size≠w.heap.size+1 by have:=uH N;omega) y3,bL (u:=.int .i64 r) (u':=.int .i64 r) (u'':=.slice z nq F) (show w3.heap.size≠w.heap.size+1 by have:=uH N;omega) y4,bL (u:=.int .i64 r) (u':=.int .i64 r) (u'':=.slice z nq F) (show w3.heap.size≠w.heap.size+1 by have:=uH N;omega) y5,bL (u:=.int .i64 r) (u':=.int .i64 r) (u'':=.slice z nq F) (show Y.heap.size≠w.heap.size+1 by have:=uH M;omega) y0,bL (u:=.int .i64 r) (u':=.int .i64 r) (u'':=.slice z nq F) (show Y.heap.size≠w.heap.size+1 by have:=uH M;omega) y1,bL (u:=.int .i64 r) (u':=.int .i64 r) (u'':=.slice z nq F) (show Y.heap.size≠w.heap.size+1 by have:=uH M;omega) y2⟩)
    have ax:=ac (show _∧_∧_∧_∧_∧_ from⟨bL (u:=.int .i64 r) (u':=.int .i64 c) (u'':=.slice H n I) (show w3.heap.size≠w.heap.size+1+1 by have:=uH N;omega) (uH aa).1,bL (u:=.int .i64 r) (u':=.int .i64 c) (u'':=.slice H n I) (show w3.heap.size≠w.heap.size+1+1 by have:=uH N;omega) (uH aa).2.1,bL (u:=.int .i64 r) (u':=.int .i64 c) (u'':=.slice H n I) (show w3.heap.size≠w.heap.size+1+1 by have:=uH N;omega) (uH aa).2.2.1,bL (u:=.int .i64 r) (u':=.int .i64 c) (u'':=.slice H n I) (show Y.heap.size≠w.heap.size+1+1 by have:=uH M;omega) (uH aa).2.2.2.1,bL (u:=.int .i64 r) (u':=.int .i64 c) (u'':=.slice H n I) (show Y.heap.size≠w.heap.size+1+1 by have:=uH M;omega) (uH aa).2.2.2.2.1,bL (u:=.int .i64 r) (u':=.int .i64 c) (u'':=.slice H n I) (show Y.heap.size≠w.heap.size+1+1 by have:=uH M;omega) (uH aa).2.2.2.2.2⟩)
    clear y0 y1 y2 y3 y4 y5
    refine wp_region_held_drew (S:=(fun d=>d.cell? ⟨w3.heap.size,0,none⟩=some (.int .i64 (r:Int))∧d.cell? ⟨w3.heap.size,1,none⟩=some (.int .i64 (r:Int))∧d.cell? ⟨w3.heap.size,2,none⟩=some (.slice z nq F)∧d.cell? ⟨Y.heap.size,0,none⟩=some (.int .i64 (r:Int))∧d.cell? ⟨Y.heap.size,1,none⟩=some (.int .i64 (c:Int))∧d.cell? ⟨Y.heap.size,2,none⟩=some (.slice H n I))) (by kernel_rfl) ?_ (fun L=>?_)
    ·exact uH a3
    refine wpAnyH_take (i:=0) (oi:={dst:=some 47,op:=Op.load 25 (Operand.tmp 11),type:=25,pos:= "pivot.go:30",after:=#[],guard:=none}) (v:=(Value.agg #[.int .i64 (r:Int),.int .i64 (r:Int),.slice z nq F])) rfl (by kernel_rfl) (by kernel_rfl) (by kernel_rfl) (fun _ _ _ h=>h) (Or.inl ⟨by rfl,?_⟩) (by assumption) ?_
    ·(intro w ap;(try dsimp only at ap);go_simp)
    simp only[Act.put,List.setIfInBounds_toArray,List.set_cons_zero,List.set_cons_succ]
    refine wpAnyH_take (i:=1) (oi:={dst:=some 48,op:=Op.load 25 (Operand.tmp 7),type:=25,pos:= "pivot.go:30",after:=#[{on:=3,ground:=Ground.gcOnly Departure.lateStores}],guard:=none}) (v:=(Value.agg #[.int .i64 (r:Int),.int .i64 (c:Int),.slice H n I])) rfl (by kernel_rfl) (by kernel_rfl) (by kernel_rfl) (fun _ _ _ h=>h) (Or.inl ⟨by rfl,?_⟩) (by assumption) ?_
    ·(intro w ap;(try dsimp only at ap);go_simp)
    simp only[Act.put,List.setIfInBounds_toArray,List.set_cons_zero,List.set_cons_succ]
    refine wpAnyH_take (i:=2) (oi:={dst:=some 49,op:=Op.move (Operand.tmp 8),type:=32,pos:= "pivot.go:30",after:=#[{on:=4,ground:=Ground.gcOnly Departure.lateStores}],guard:=none}) (v:=(Value.slice (some ⟨pg,0,none⟩) c c)) rfl (by kernel_rfl) (by kernel_rfl) (by kernel_rfl) (fun _ _ _ h=>h) (Or.inl ⟨by rfl,?_⟩) (by assumption) ?_
    ·(intro w ap;(try dsimp only at ap);go_simp)
    simp only[Act.put,List.setIfInBounds_toArray,List.set_cons_zero,List.set_cons_succ]
    refine wpAnyH_ready (rs:=[3]) (by kernel_rfl) (by simp) ?_
    refine AllReadyH.cons (o:={dst:=none,op:=Op.store 25 (Operand.tmp 2) (Operand.tmp 47),type:=0,pos:= "pivot.go:30",after:=#[{on:=0,ground:=Ground.data},{on:=0,ground:=Ground.phase},{on:=1,ground:=Ground.textOnly Departure.lateStores},{on:=2,ground:=Ground.textOnly Departure.lateStores}],guard:=none}) rfl (fun KK hK=>?_) AllReadyH.nil
    go_simp
    refine hK.out _ _ ?_ (fun L=>?_)
    ·exact uH a4
    clear hK KK
    refine wpAnyH_ready (rs:=[4]) (by kernel_rfl) (by simp) ?_
    refine AllReadyH.cons (o:={dst:=none,op:=Op.store 25 (Operand.tmp 3) (Operand.tmp 48),type:=0,pos:= "pivot.go:30",after:=#[{on:=1,ground:=Ground.data},{on:=3,ground:=Ground.chain},{on:=0,ground:=Ground.phase},{on:=1,ground:=Ground.phase},{on:=2,ground:=Ground.textOnly Departure.lateStores},{on:=3,ground:=Ground.phase}],guard:=none}) rfl (fun KK hK=>?_) AllReadyH.nil
    go_simp
    refine hK.out _ _ ?_ (fun L=>?_)
    ·exact uH ax
    clear hK KK
    refine wpAnyH_ready (rs:=[5]) (by kernel_rfl) (by simp) ?_
    refine AllReadyH.cons (o:={dst:=some 4,op:=Op.assign (Operand.tmp 49),type:=32,pos:= "pivot.go:30",after:=#[{on:=2,ground:=Ground.data},{on:=4,ground:=Ground.chain},{on:=0,ground:=Ground.phase},{on:=1,ground:=Ground.phase},{on:=2,ground:=Ground.phase},{on:=3,ground:=Ground.phase},{on:=4,ground:=Ground.phase}],guard:=none}) rfl (fun KK hK=>?_) AllReadyH.nil
    go_simp
    refine hK.out _ _ ?_ (fun L=>?_)
    ·exact uH ax
    clear hK KK
    refine wpAnyH_ready (rs:=[6]) (by kernel_rfl) (by simp) ?_
    refine AllReadyH.cons (o:={dst:=some 5,op:=Op.assign (Operand.const (Value.int IntKind.i64 0)),type:=33,pos:= "pivot.go:30",after:=#[{on:=5,ground:=Ground.chain},{on:=0,ground:=Ground.phase},{on:=1,ground:=Ground.phase},{on:=2,ground:=Ground.phase},{on:=3,ground:=Ground.phase},{on:=4,ground:=Ground.phase},{on:=5,ground:=Ground.phase}],guard:=none}) rfl (fun KK hK=>?_) AllReadyH.nil
    go_simp
    refine hK.out _ _ ?_ (fun L=>?_)
    ·exact uH ax
    clear hK KK
    refine wpAnyH_done (by kernel_rfl) ?_ _
    clear a3 a4 ax aa
    go_wp2_with fail
    refine bodyPost_ret (v:=.tuple #[.agg #[.int .i64 r,.int .i64 r,.slice z nq F],.agg #[.int .i64 r,.int .i64 c,.slice H n I],.slice (some ⟨pg,0,none⟩) c c,.int .i64 0]) (by simp[results,Tryz.results11,go_sem,z0,z1,z2,z3,z4,z5]) rfl ⟨.inl ⟨uH a2,_,_,pg,rfl,⟨z,F,by rw[uH LQ],uH bm,(uH PQ).below (Below.refl _ _).drew⟩,⟨H,I,by rw[uH LS],uH HN,(uH PR).below (Below.refl _ _).drew⟩,by have:=uH aD;omega,(uH PP).all (Below.refl _ _).drew⟩,(uH BP).drew⟩
 ·have ai:Hid ((ok&&(fq&&fr))=false):=ac (by rw[aq];rfl)
  have Z:=ag Y (.cells #[.int .i64 0,.int .i64 0,.slice none 0 0] 25)
  replace D:=ac ((uH D).all Z)
  clear Z aq HZ az
  have l:=(uH D).r1;have X2:=(uH D).r2
  have s0:=l.c0;have s1:=l.c1;have s2:=l.c2
  have f0:=l.free 0;have f1:=l.free 1;have f2:=l.free 2
  have Y1:=l.put (.int .i64 0) (.int .i64 0) (.slice none 0 0)
  have t:=X2.three14 (g:=w.heap.size+1) (by omega) (.int .i64 0) (.int .i64 0) (.slice none 0 0)
  have s3:=t.c0;have s4:=t.c1;have s5:=t.c2
  have f3:=t.free 0;have f4:=t.free 1;have f5:=t.free 2
  have T:=Y1.three14 (g:=w.heap.size+1+1) (by omega) (.int .i64 0) (.int .i64 0) (.slice none 0 0)
  have U:=t.put (.int .i64 0) (.int .i64 0) (.slice none 0 0)
  have z0:=T.c0;have z1:=T.c1;have z2:=T.c2;have z3:=U.c0;have z4:=U.c1;have z5:=U.c2
  have BP:=ac (aW (aW (uH D).bel (b:=w.heap.size+1) (by omega) (.int .i64 0) (.int .i64 0) (.slice none 0 0)) (b:=w.heap.size+1+1) (by omega) (.int .i64 0) (.int .i64 0) (.slice none 0 0))
  clear l X2 Y1 t T U D
  go_wp2_with fail
  exact bodyPost_ret (v:=.tuple #[.agg #[.int .i64 0,.int .i64 0,.slice none 0 0],.agg #[.int .i64 0,.int .i64 0,.slice none 0 0],.slice none 0 0,.int .i64 2]) (by simp[results,Tryz.results11,go_sem,z0,z1,z2,z3,z4,z5]) rfl ⟨.inr ⟨uH ai,_,_,rfl,dc.zero _ _,dc.zero _ _⟩,uH BP⟩
end Go.Proofs.YtmpkkhackbpflaaGreatDoor
