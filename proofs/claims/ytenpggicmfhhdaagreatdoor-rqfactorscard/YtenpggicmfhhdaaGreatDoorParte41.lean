/- Part 41 of the texts. -/
import Derived.Test.YtenpggicmfhhdaaGreatDoorParte40
import Derived.Laws.CopyOwn
set_option maxHeartbeats 32000000
set_option maxRecDepth 20000
namespace Go.Proofs.YtenpggicmfhhdaaGreatDoor
open Go.RowKit
attribute [local go_sem ↓] Go.wp_at_zero Go.wp_at_succ
theorem bT.three{w:World}{b g:Nat}{S:List Nat}(h:bT w b S)(d:b≠g)(u u' u'':Value):bT (((w.setCell ⟨g,0,none⟩ u).setCell ⟨g,1,none⟩ u').setCell ⟨g,2,none⟩ u'') b S:=by
 unfold bT
 rw[Below.heap_setCell _ ⟨g,2,none⟩ u'' b d,Below.heap_setCell _ ⟨g,1,none⟩ u' b d,Below.heap_setCell _ ⟨g,0,none⟩ u b d]
 exact h
theorem Ax(W:World)(g n f:Nat)(D:Option Addr)(S:List Nat)(h:bT W g (List.replicate n 0))(H:ab W D f (ar S))(F:S.length=n):
  ∃y,(∀m,(Builtin.copy_ #[22,22] m #[.slice (some ⟨g,0,none⟩) n n,.slice D n f]).run Tryz.prog W=.ok (.int .i64 (n:Int)) y)∧bT y g S∧Below g W y:=by
 rcases Nat.eq_zero_or_pos n with e|e
 ·subst e
  obtain rfl:S= []:=List.eq_nil_of_length_eq_zero F
  exact⟨W,fun m=>run_copy_none W _ _ m 30 _ _ 0 0 0 f Tryz.underlying22 (by kernel_rfl) rfl,h,Below.refl _ _⟩
 ·obtain⟨b,l,rfl,L,K⟩:=H.ne (by rw[aq];omega)
  have z:∀j v,(S.map fY)[j]? =some v→W.cell? ((⟨b,l,none⟩:Addr).add j)=some v:=by
   intro j v t
   rw[List.getElem?_map]at t
   obtain⟨x,G,rfl⟩:=Option.map_eq_some_iff.1 t
   have I:j<S.length:=(List.getElem?_eq_some_iff.1 G).1
   have:=K j (by rw[aq];exact I)
   rw[fc]at this
   rw[show(⟨b,l,none⟩:Addr).add j=⟨b,l+j,none⟩from by simp[Addr.add],this]
   rw[List.getD_eq_getElem?_getD,G]
   rfl
  have d:(S.map fY).length=n:=by rw[List.length_map,F]
  have A:=fun m=>run_copy_row Tryz.prog W 22 22 m 30 g 0 n n ⟨b,l,none⟩ n f ((List.replicate n 0).map fY).toArray 30 (S.map fY) Tryz.underlying22 (by kernel_rfl) h (by rw[d];exact(Nat.min_self n).symm) z (by rw[d];simp) (fun v t=>by obtain⟨x,_,rfl⟩:=List.mem_map.1 t;rfl)
  refine⟨_,fun m=>(A m).trans (by rw[d];rfl),?_,below_setRow (Below.refl _ _) (Nat.le_refl _) _⟩
  unfold bT
  rw[setRow_heap W g _ _ 30 _ h]
  congr 3
  simp
theorem au.three14{w:World}{b g:Nat}{x y z:Value}(h:au w b x y z)(d:b≠g)(u u' u'':Value):au (((w.setCell ⟨g,0,none⟩ u).setCell ⟨g,1,none⟩ u').setCell ⟨g,2,none⟩ u'') b x y z:=
 ((h.other (p:=⟨g,0,none⟩) d _).other (p:=⟨g,1,none⟩) d _).other (p:=⟨g,2,none⟩) d _
structure ki (w wr:World) (h r c n cap:Nat) (ao:Option Addr) (S:List Nat) (ro:Option Addr) (rc:Nat) (v:Value) (R:List Mr):Prop where
 bel:Below w.heap.size w wr
 hh:w.heap.size+1+1≤h
 a:au wr w.heap.size (.int .i64 r) (.int .i64 c) (.slice ao n cap)
 res:au wr (w.heap.size+1) (.int .i64 0) (.int .i64 0) (.slice none 0 0)
 rb:au wr h (.int .i64 r) (.int .i64 c) (.slice ro n rc)
 bits:ab wr ro rc (ar S)
 new:bR w.heap.size ro (ar S)
 len:S.length=n
 l:bV (w.heap.size+1+1) wr v R
 off:jg v.ownBlock ro (ar S)
theorem ki.all{w wr m:World}{h r c n f:Nat}{y:Option Addr}{S:List Nat}{z:Option Addr}{A:Nat}{v:Value}{R:List Mr}(t:ki w wr h r c n f y S z A v R)(d:Below wr.heap.size wr m):ki w m h r c n f y S z A v R:=
 ⟨t.bel.trans (d.mono t.bel.size),t.hh,t.a.all d,t.res.all d,t.rb.all d,t.bits.below d,t.new,t.len,t.l.below d,t.off⟩
theorem ki.start{w d:World}{r c n f:Nat}{m:Option Addr}{S:List Nat}{h:Option Addr}{l:Nat}(t:Below w.heap.size w d)(A:au d w.heap.size (.int .i64 r) (.int .i64 c) (.slice m n f))(y:au d (w.heap.size+1) (.int .i64 0) (.int .i64 0) (.slice none 0 0))(z:ab d h l (ar S))(D:bR w.heap.size h (ar S))(F:S.length=n):
  ki w (d.alloc (.cells #[.int .i64 r,.int .i64 c,.slice h n l] 24)) d.heap.size r c n f m S h l (.slice none 0 0) []:=by
 have b:=ac d (.cells #[.int .i64 r,.int .i64 c,.slice h n l] 24)
 exact⟨t.trans (b.mono t.size),y.lt,A.all b,y.all b,au.new d _ _ _,z.below b,D,F,bV.start _ _,jg.old z (fun k G=>by simp[Value.ownBlock]at G)⟩
structure FA (w wr:World) (h r c n cap:Nat) (ao:Option Addr) (S:List Nat) (g:Nat) (v:Value) (R:List Mr):Prop where
 st:ki w wr h r c n cap ao S (some ⟨g,0,none⟩) n v R
 row:bT wr g S
 hg:w.heap.size+1+1≤g
 ne:h≠g
 nv:v.ownBlock≠some g
 av:∀x∈R,tM (some g) x
theorem ki.applied{w wr y:World}{h r c n m:Nat}{z:Option Addr}{S U:List Nat}{G:Option Addr}{H g:Nat}{v:Value}{R:List Mr}(t:ki w wr h r c n m z S G H v R)(I:Below wr.heap.size wr y)(K:wr.heap.size≤g)(A:bT y g U)(L:∀x∈U,x<18446744073709551616)(D:U.length=n):
  FA w (((y.setCell ⟨h,0,none⟩ (.int .i64 r)).setCell ⟨h,1,none⟩ (.int .i64 c)).setCell ⟨h,2,none⟩ (.slice (some ⟨g,0,none⟩) n n)) h r c n m z U g v R:=by
 have f:=t.all I
 have M:=t.rb.lt
 have N:=t.hh
 have O:w.heap.size≠h:=by omega
 have Q:w.heap.size+1≠h:=by omega
 have T:g≠h:=by omega
 have d:=A.bits L
 rw[D]at d
 obtain⟨F,V⟩:=t.l.away K
 have q:ab y (some ⟨g,0,none⟩) n (ar U):=d
 refine⟨⟨al f.bel (by omega) _ _ _,N,f.a.three14 O _ _ _,f.res.three14 Q _ _ _,f.rb.put _ _ _,q.putM f.rb _ _ _,.inr ⟨g,0,rfl,by omega⟩,D,f.l.putQ f.rb _ _ _,?_⟩,A.three T _ _ _,by omega,by omega,F,V⟩
 exact .inr ⟨g,0,rfl,fun e=>F e.symm⟩
theorem FA.settled{w wr y:World}{h r c n f:Nat}{A:Option Addr}{S U:List Nat}{g:Nat}{v:Value}{R:List Mr}(t:FA w wr h r c n f A S g v R)(m:wr.grownBy y (some g))(F:bT y g U)(G:∀x∈U,x<18446744073709551616)(D:U.length=n):
  ki w y h r c n f A U (some ⟨g,0,none⟩) n v R:=by
 have I:=t.hg
 have z:=t.ne
 have d:=F.bits G
 rw[D]at d
 refine⟨t.st.bel.grown m t.st.bel.size (fun k H=>by cases H;omega),t.st.hh,t.st.a.grown m (by intro e;cases e;omega),t.st.res.grown m (by intro e;cases e;omega),t.st.rb.grown m (by intro e;cases e;exact z rfl),d,.inr ⟨g,0,rfl,by omega⟩,D,t.st.l.grown t.nv t.av m,.inr ⟨g,0,rfl,fun e=>t.nv e.symm⟩⟩
theorem ki.push{w wr:World}{h r c n d:Nat}{F:Option Addr}{S:List Nat}{G:Option Addr}{H:Nat}{v:Value}{R:List Mr}(t:ki w wr h r c n d F S G H v R)(x:Mr)(O:ab wr x.ao x.cap (ar x.V))(Q:jg v.ownBlock x.ao (ar x.V))(T:R.length≤1000000)(I:v.ownBlock≠some h)(K:TypeId):
  ∃f m,(Builtin.append_ #[52,52] K #[v,.slice (some ⟨wr.heap.size,0,none⟩) 1 1]).run Tryz.prog (wr.alloc (.cells #[.slice x.ao x.V.length x.cap,.int .u64 (x.tau:Nat)] 77))=.ok f m∧ki w m h r c n d F S G H f (R++[x])∧f.ownBlock≠some h:=by
 have U:=t.rb.lt
 have X:=t.hh
 obtain⟨f,m,Z,e2,A,M,N⟩:=t.l.push x O (by
  rcases Q with e|e
  ·exact .inl (by cases hV:x.V with
    |nil=>rfl
    |cons y ys=>rw[hV]at e;cases e)
  ·exact .inr e) T (by omega) K
 have Y:=ac wr (.cells #[.slice x.ao x.V.length x.cap,.int .u64 (x.tau:Nat)] 77)
 have L:=t.all Y
 refine⟨f,m,Z,⟨t.bel.trans (A.mono (by omega)),X,t.a.below A (by omega),t.res.below A (by omega),L.rb.grown M I,gv L.bits t.off M,t.new,t.len,e2,?_⟩,?_⟩
 ·rcases N with e|e
  ·rw[e];exact t.off
  ·rw[e]
   rcases t.bits.2.2 with z|⟨b,D,z1,z2,_⟩
   ·exact .inl z
   ·exact .inr ⟨b,D,z1,fun z=>by cases z;omega⟩
 ·rcases N with e|e
  ·rw[e];exact I
  ·rw[e];intro z;cases z;omega
theorem tY(R:List Mr)(x:Mr):∀k,k<R.length+1→bN (R++[x]) k=if k<R.length then bN R k else x:=by
 intro k d
 unfold bN
 by_cases g:k<R.length
 ·rw[if_pos g,List.getElem?_append_left g]
 ·rw[if_neg g,show k=R.length by omega,List.getElem?_append_right (Nat.le_refl _)]
  simp
def tZ(w w':World)(ok:Bool)(r c n K:Nat)(S:List Nat)(V:Nat→List Nat)(tau:Nat→Nat)(e:Ending):Prop:=
 (ok=true∧∃ro rc v R,e=.returned (.tuple #[.agg #[.int .i64 r,.int .i64 c,.slice ro n rc],v,.int .i64 0])∧bR w.heap.size ro (ar S)∧ab w' ro rc (ar S)∧bV (w.heap.size+1+1) w' v R∧R.length=K∧∀k,k<K→(bN R k).V=V k∧(bN R k).tau=tau k)∨
 (ok=false∧e=.returned (.tuple #[.agg #[.int .i64 0,.int .i64 0,.slice none 0 0],.slice none 0 0,.int .i64 2]))
theorem rW(r c n H K:Nat)(m:Int)(ao:Option Addr)(T AP X V:Nat→List Nat)(U Y:Nat→Nat)(o:Nat→Bool)(ok:Bool)(w:World)(hr:r≤6)(hc:c≤6)(hm:m=min (c:Int) ((r:Int)-1))(hK:∀j:Nat,j<K↔(j:Int)<m)
  (lR:∀j,(T j).length=n) (lA:∀j,(AP j).length=n) (lV:∀j,(V j).length=r-j) (hf:∀j,j<K→∀x∈T (j+1),x<18446744073709551616) (av:∀j,j<K→∀x∈AP j,x<18446744073709551616)
  (ax:ok=true↔∀j,j<K→o j=true)
  (C1:∀f,Below w.heap.size w f→Calls Tryz.prog 50 #[.agg #[.int .i64 r,.int .i64 c,.slice ao n H],.int .i64 0,.int .i64 0,.int .i64 r,.int .i64 c] f fun e z=>∃I O,e=.returned (.tuple #[.agg #[.int .i64 r,.int .i64 c,.slice I n O],.int .i64 0])∧bR f.heap.size I (ar (T 0))∧ab z I O (ar (T 0))∧Below f.heap.size f z)
  (C2:∀f j I O,j<K→ab f I O (ar (T j))→Calls Tryz.prog 50 #[.agg #[.int .i64 r,.int .i64 c,.slice I n O],.int .i64 (j:Nat),.int .i64 (j:Nat),.int .i64 ((r-j:Nat):Int),.int .i64 1] f fun e z=>∃G d,e=.returned (.tuple #[.agg #[.int .i64 ((r-j:Nat):Int),.int .i64 1,.slice G (r-j) d],.int .i64 0])∧ab z G d (ar (X j))∧Below f.heap.size f z)
  (C3:∀f j G d,j<K→o j=true→Below w.heap.size w f→ab f G d (ar (X j))→Calls Tryz.prog 51 #[.slice G (r-j) d] f fun e z=>∃Q Z,e=.returned (.tuple #[.slice Q (r-j) Z,.int .u64 (U j:Nat),.int .u64 (Y j:Nat),.int .i64 0])∧bR f.heap.size Q (ar (V j))∧ab z Q Z (ar (V j))∧Below f.heap.size f z)
  (C4:∀f j G d,j<K→o j=false→Below w.heap.size w f→ab f G d (ar (X j))→Calls Tryz.prog 51 #[.slice G (r-j) d] f fun e z=>∃so cs er,e=.returned (.tuple #[.slice so 0 cs,.int .u64 0,.int .u64 0,.int .i64 er])∧(er=2∨er=4)∧Below f.heap.size f z)
  (C5:∀f j I O Q Z,j<K→Below w.heap.size w f→ab f I O (ar (T j))→ab f Q Z (ar (V j))→Calls Tryz.prog 52 #[.agg #[.int .i64 r,.int .i64 c,.slice I n O],.int .i64 (j:Nat),.int .i64 (j:Nat),.slice Q (r-j) Z,.int .u64 (U j:Nat)] f fun e z=>∃g,e=.returned (.tuple #[.agg #[.int .i64 r,.int .i64 c,.slice (some ⟨g,0,none⟩) n n],.int .i64 0])∧f.heap.size≤g∧bT z g (AP j)∧Below f.heap.size f z)
  (C6:∀f j g,j<K→bT f g (AP j)→Calls Tryz.prog 53 #[.agg #[.int .i64 r,.int .i64 c,.slice (some ⟨g,0,none⟩) n n],.int .i64 (j:Nat),.int .u64 (Y j:Nat)] f fun e z=>e=.returned (.tuple #[])∧bT z g (T (j+1))∧f.grownBy z (some g)):
  Calls Tryz.prog 35 #[.agg #[.int .i64 r,.int .i64 c,.slice ao n H]] w fun e f=>tZ w f ok r c n K (T K) V U e∧Below w.heap.size w f:=by
 have aI:∀(W:World) ts t,(Builtin.min_ ts t #[.int .i64 (c:Int),.int .i64 ((r:Int)-1)]).run Tryz.prog W=.ok (.int .i64 m) W:=fun W ts t=>by rw[hm];exact rh _ W ts t _ _
 have a9:IntKind.i64.wrap ((r:Int)-1)=(r:Int)-1:=aW _ (by omega)
 have bA:K≤6:=by
  rcases Nat.lt_or_ge 6 K with g|g
  ·have:=(hK 6).1 g
   omega
  ·exact g
 have bb:=aa (show∀j,j<K→j<r from fun j hj=>by have:=(hK j).1 hj;omega)
 have HK:=aa hK;have LR:=aa lR;have LA:=aa lA;have LV:=aa lV;have HF:=aa hf;have bc:=aa av;have a0:=aa ax
 have K1:=aa (C1 ((w.alloc (.cells #[.int .i64 r,.int .i64 c,.slice ao n H] 24)).alloc (.cells #[.int .i64 0,.int .i64 0,.slice none 0 0] 24)) (by
  have b1:=ac w (.cells #[.int .i64 r,.int .i64 c,.slice ao n H] 24)
  have b2:=ac (w.alloc (.cells #[.int .i64 r,.int .i64 c,.slice ao n H] 24)) (.cells #[.int .i64 0,.int .i64 0,.slice none 0 0] 24)
  exact b1.trans (b2.mono b1.size)))
 simp only[ai]at K1
 have KB:=aa (f8 w (.int .i64 r) (.int .i64 c) (.slice ao n H) (.int .i64 0) (.int .i64 0) (.slice none 0 0))
 have K2:=aa C2;have K3:=aa C3;have K4:=aa C4;have K5:=aa C5;have K6:=aa C6
 clear hm hK lR lA lV hf av ax C1 C2 C3 C4 C5 C6
 go_enter Tryz.func35,Tryz.ntmps35
 go_wp2_with fail
 refine(uH K1).mono ?_
 rintro e w1 ⟨I,O,rfl,hn,hq,a7⟩
 obtain⟨hB,hA,hX⟩:=uH KB w1 a7
 have ST:=aa (ki.start hB hA hX hq (hn.least (by omega)) (uH LR 0))
 have y0:=(uH ST).a.c0;have y1:=(uH ST).a.c1
 clear K1 KB a7 hB hA hX hn hq
 go_wp2_with fail
 clear y0 y1 aI a9
 generalize w1.heap.size=h at*
 go_loopw[7,30] (fun v a wr=>∃(j:Nat) (ro:Option Addr) (rc:Nat) (R:List Mr),j≤K∧a=.int .i64 j∧Hid (R.length=j)∧Hid (∀k,k<j→(bN R k).V=V k∧(bN R k).tau=U k)∧Hid (∀k,k<j→o k=true)∧Hid (v.ownBlock≠some h)∧Hid (ki w wr h r c n H ao (T j) ro rc v R)) (fun _ a _=>K-(intOf a).toNat)
 case atStart=>exact⟨0,I,O,[],Nat.zero_le _,rfl,rfl,fun k N=>absurd N (Nat.not_lt_zero k),fun k N=>absurd N (Nat.not_lt_zero k),aa (by simp[Value.ownBlock]),ST⟩
 case round=>
  clear ST
  obtain⟨j,ro,rc,R,b3,rfl,M,a4,hO,hV,hS⟩:=hrel
  by_cases A:j<K
  ·have be:=(uH HK j).1 A
   have bE:=uH bb j A
   obtain⟨L,hL⟩:∃L,r-j=L:=⟨_,rfl⟩
   have eL:IntKind.i64.wrap ((r:Int)-(j:Int))=(L:Int):=(aW _ (by omega)).trans (by omega)
   have b0:(r:Int)-(j:Int)=(L:Int):=by omega
   have G2:=aa (uH K2 wr j ro rc A (uH hS).bits)
   have G3:=aa (fun f G d ho=>uH K3 f j G d A ho)
   have G4:=aa (fun f G d ho=>uH K4 f j G d A ho)
   have G5:=aa (fun f I O Q Z=>uH K5 f j I O Q Z A)
   have G6:=aa (fun f g=>uH K6 f j g A)
   have a1:=aa (uH LV j);have bi:=aa (uH LA j);have bm:=aa (uH LR (j+1));have bn:=aa (uH HF j A);have a2:=aa (uH bc j A)
   rw[hL]at G2 G3 G4 G5 a1
   have q0:=(uH hS).rb.c0;have q1:=(uH hS).rb.c1;have q2:=(uH hS).rb.c2
   go_wp2_with fail
   clear q0 q1 q2
   refine(uH G2).mono ?_
   rintro e w2 ⟨G,d,rfl,hx,D⟩
   have ba:=ac w2 (.cells #[.int .i64 (L:Int),.int .i64 1,.slice G L d] 24)
   have S2:=aa (((uH hS).all D).all ba)
   have HX:=aa (hx.below ba)
   clear D hx ba hS G2
   go_wp2_with fail
   cases ho:o j with
   |false=>
    refine(uH G4 _ G d ho (uH S2).bel (uH HX)).mono ?_
    rintro e w3 ⟨so,cs,er,rfl,bt,D⟩
    have y:=(uH S2).all D
    have bp:Hid (ok=false):=aa (by
     cases N:ok with
     |false=>rfl
     |true=>exact absurd ((uH a0).1 N j A) (by rw[ho];decide))
    have s0:=y.res.c0;have s1:=y.res.c1;have s2:=y.res.c2
    have f0:=y.res.free 0;have f1:=y.res.free 1;have f2:=y.res.free 2
    have XP:=y.res.put (.int .i64 0) (.int .i64 0) (.slice none 0 0)
    have z0:=XP.c0;have z1:=XP.c1;have z2:=XP.c2
    have BP:=aa (al y.bel (b:=w.heap.size+1) (by omega) (.int .i64 0) (.int .i64 0) (.slice none 0 0))
    clear XP y S2 D HX G3 G4 G5 G6
    rcases bt with rfl|rfl
    all_goals
     go_wp2_with fail
     exact bodyPost_ret (v:=.tuple #[.agg #[.int .i64 0,.int .i64 0,.slice none 0 0],.slice none 0 0,.int .i64 2]) (by simp[results,Tryz.results35,go_sem,z0,z1,z2]) rfl ⟨.inr ⟨uH bp,rfl⟩,uH BP⟩
   |true=>
    refine(uH G3 _ G d ho (uH S2).bel (uH HX)).mono ?_
    rintro e w3 ⟨Q,Z,rfl,hn,hv,D⟩
    have bq:=aa (jg.new hn (fun k N=>((uH S2).l.1.lt k N).2))
    have y:=aa ((uH S2).all D)
    have HV:=aa hv
    clear hn hv D S2 HX G3 G4
    generalize bv:U j=tj at*
    generalize b4:Y j=bj at*
    generalize bx:V j=vj at*
    generalize b5:AP j=aj at*
    generalize bz:T (j+1)=nj at*
    generalize b6:T j=rj at*
    have q0:=(uH y).rb.c0;have q1:=(uH y).rb.c1;have q2:=(uH y).rb.c2
    go_wp2_with fail
    clear q0 q1 q2
    refine(uH G5 _ ro rc Q Z (uH y).bel (uH y).bits (uH HV)).mono ?_
    rintro e w4 ⟨g,rfl,hg,F,D⟩
    have T4:=(uH y).applied D hg F (uH a2) (uH bi)
    have S4:=(uH y).all D
    have V4:=aa (((uH HV).below D).putM S4.rb (.int .i64 r) (.int .i64 c) (.slice (some ⟨g,0,none⟩) n n))
    have O4:=aa (jg.old (uH HV) (g:=some g) (fun k N=>by cases N;exact hg))
    have q0:=S4.rb.c0;have q1:=S4.rb.c1;have q2:=S4.rb.c2
    have f0:=S4.rb.free 0;have f1:=S4.rb.free 1;have f2:=S4.rb.free 2
    have z0:=T4.st.rb.c0;have z1:=T4.st.rb.c1;have z2:=T4.st.rb.c2
    have P4:=aa T4
    clear T4 S4 hg F D y HV G5
    go_wp2_with fail
    clear q0 q1 q2 f0 f1 f2 z0 z1 z2
    refine(uH G6 _ g (uH P4).row).mono ?_
    rintro e w5 ⟨rfl,F,D⟩
    have S5:=(uH P4).settled D F (uH bn) (uH bm)
    have V5:=gv (uH V4) (uH O4) D
    obtain⟨v9,w9,am,a5,a6⟩:=S5.push ⟨Q,Z,vj,tj,0⟩ V5 (uH bq) (by rw[uH M];omega) (uH hV) 52
    have ae:=aa am
    dsimp only at ae
    rw[uH a1]at ae
    have P9:=aa a5;have N9:=aa a6
    clear P4 S5 V5 V4 O4 D F am a5 a6 G6
    go_wp2_with(at_builtin;refine aX _ rfl _ _ 52 rfl _ _ _ _ rfl rfl (uH ae) ?_;clear ae)
    go_round
    case rel=>
     refine⟨j+1,some ⟨g,0,none⟩,n,R++[⟨Q,Z,vj,tj,0⟩],by omega,by go_num,?_,?_,?_,N9,by rw[bz];exact P9⟩
     ·show(R++[_]).length=j+1
      rw[List.length_append,uH M];rfl
     ·show∀k,k<j+1→_
      intro k N
      rw[tY R _ k (by rw[uH M];exact N)]
      by_cases g:k<R.length
      ·rw[if_pos g];exact uH a4 k (by rw[←uH M];exact g)
      ·rw[if_neg g,show k=j by have:=uH M;omega,bx,bv];exact⟨rfl,rfl⟩
     ·show∀k,k<j+1→_
      intro k N
      by_cases g:k<j
      ·exact uH hO k g
      ·rw[show k=j by omega];exact ho
    case measure=>simp[intOf];omega
  ·have br:j=K:=by omega
   subst br
   have be:¬((j:Int)<m):=fun q=>A ((uH HK j).2 q)
   have a3:Hid (ok=true):=aa ((uH a0).2 (uH hO))
   have y:=uH hS
   have q0:=y.rb.c0;have q1:=y.rb.c1;have q2:=y.rb.c2
   have s0:=y.res.c0;have s1:=y.res.c1;have s2:=y.res.c2
   have f0:=y.res.free 0;have f1:=y.res.free 1;have f2:=y.res.free 2
   have XP:=y.res.put (.int .i64 r) (.int .i64 c) (.slice ro n rc)
   have z0:=XP.c0;have z1:=XP.c1;have z2:=XP.c2
   have BP:=aa (al y.bel (b:=w.heap.size+1) (by omega) (.int .i64 r) (.int .i64 c) (.slice ro n rc))
   have QB:=aa (y.bits.putM y.res (.int .i64 r) (.int .i64 c) (.slice ro n rc))
   have QL:=aa (y.l.putQ y.res (.int .i64 r) (.int .i64 c) (.slice ro n rc))
   have HN:=aa y.new
   clear XP y hS
   go_wp2_with fail
   exact bodyPost_ret (v:=.tuple #[.agg #[.int .i64 r,.int .i64 c,.slice ro n rc],_,.int .i64 0]) (by simp[results,Tryz.results35,go_sem,z0,z1,z2]) rfl ⟨.inl ⟨uH a3,_,_,_,R,rfl,uH HN,uH QB,uH QL,uH M,uH a4⟩,uH BP⟩
structure lj (w wr:World) (h r nq:Nat) (S:List Nat) (qo:Option Addr) (qc:Nat) (v:Value) (R:List Mr):Prop where
 bel:Below w.heap.size w wr
 hh:w.heap.size+1≤h
 res:au wr w.heap.size (.int .i64 0) (.int .i64 0) (.slice none 0 0)
 qb:au wr h (.int .i64 r) (.int .i64 r) (.slice qo nq qc)
 bits:ab wr qo qc (ar S)
 new:bR w.heap.size qo (ar S)
 len:S.length=nq
 l:bV 0 wr v R
theorem lj.all{w wr f:World}{h r nq:Nat}{S:List Nat}{m:Option Addr}{y:Nat}{v:Value}{R:List Mr}(t:lj w wr h r nq S m y v R)(d:Below wr.heap.size wr f):lj w f h r nq S m y v R:=
 ⟨t.bel.trans (d.mono t.bel.size),t.hh,t.res.all d,t.qb.all d,t.bits.below d,t.new,t.len,t.l.below d⟩
theorem lj.put{w wr:World}{h r nq:Nat}{S U:List Nat}{m d:Option Addr}{y f:Nat}{v:Value}{R:List Mr}(t:lj w wr h r nq S m y v R)(z:ab wr d f (ar U))(A:bR w.heap.size d (ar U))(D:U.length=nq):
  lj w (((wr.setCell ⟨h,0,none⟩ (.int .i64 r)).setCell ⟨h,1,none⟩ (.int .i64 r)).setCell ⟨h,2,none⟩ (.slice d nq f)) h r nq U d f v R:=by
 have F:=t.hh
 have G:w.heap.size≠h:=by omega
 exact⟨al t.bel (by omega) _ _ _,F,t.res.three14 G _ _ _,t.qb.put _ _ _,z.putM t.qb _ _ _,A,D,t.l.putQ t.qb _ _ _⟩
theorem lj.start{w d:World}{r nq:Nat}{S:List Nat}{f:Option Addr}{l:Nat}{v:Value}{R:List Mr}(h:Below (w.heap.size+1) (w.alloc (.cells #[.int .i64 0,.int .i64 0,.slice none 0 0] 24)) d)(A:ab d f l (ar S))(D:bR w.heap.size f (ar S))(F:S.length=nq)(G:bV 0 w v R):
  lj w (d.alloc (.cells #[.int .i64 r,.int .i64 r,.slice f nq l] 24)) d.heap.size r nq S f l v R:=by
 have m:=ac w (.cells #[.int .i64 0,.int .i64 0,.slice none 0 0] 24)
 have t:=ai w (.cells #[.int .i64 0,.int .i64 0,.slice none 0 0] 24)
 have H:=au.new w (.int .i64 0) (.int .i64 0) (.slice none 0 0)
 rw[←t]at h
 have b:=ac d (.cells #[.int .i64 r,.int .i64 r,.slice f nq l] 24)
 have y:=m.trans (h.mono m.size)
 have z:=h.size
 rw[t]at z
 exact⟨y.trans (b.mono y.size),z,(H.all h).all b,au.new d _ _ _,A.below b,D,F,((G.below m).below h).below b⟩
theorem bV.apart{d:Nat}{w:World}{b l m:Nat}{R:List Mr}(h:bV d w (.slice (some ⟨b,0,none⟩) l m) R){g:Nat}{x y z:Value}(t:au w g x y z):b≠g:=by
 rcases h.1.2 with⟨e,_⟩|⟨k,A,D,f,G,F,rest⟩
 ·cases e
 ·simp only[Value.slice.injEq,Option.some.injEq,Addr.mk.injEq]at f
  obtain⟨⟨rfl,_⟩,_⟩:=f
  rintro rfl
  have e:=F.symm.trans t
  simp at e
theorem t7(r nq K lc:Nat)(lo:Option Addr)(V O:Nat→List Nat)(aj:Nat→Nat)(R:List Mr)(w:World)(bm:nq≤36)(bn:K≤6)(hl:bV 0 w (.slice lo K lc) R)(am:R.length=K)(av:∀k,k<K→(bN R k).V=V k∧(bN R k).tau=aj k)
  (lQ:∀t,(O t).length=nq) (lV:∀j,(V j).length=r-j)
  (C1:∀y,Calls Tryz.prog 54 #[.int .i64 r] y fun e F=>∃z D,e=.returned (.tuple #[.agg #[.int .i64 r,.int .i64 r,.slice z nq D],.int .i64 0])∧bR y.heap.size z (ar (O 0))∧ab F z D (ar (O 0))∧Below y.heap.size y F)
  (C2:∀y t j po pc U X,t<K→j=K-1-t→Below w.heap.size w y→ab y po pc (ar (O t))→ab y U X (ar (V j))→Calls Tryz.prog 52 #[.agg #[.int .i64 r,.int .i64 r,.slice po nq pc],.int .i64 (j:Nat),.int .i64 0,.slice U (r-j) X,.int .u64 (aj j:Nat)] y fun e F=>∃z D,e=.returned (.tuple #[.agg #[.int .i64 r,.int .i64 r,.slice z nq D],.int .i64 0])∧bR y.heap.size z (ar (O (t+1)))∧ab F z D (ar (O (t+1)))∧Below y.heap.size y F)
  (C3:∀y x,x<18446744073709551616→Calls Tryz.prog 49 #[.int .u64 (x:Nat)] y fun e F=>e=.returned (.bool (aD x))∧Below y.heap.size y F):
  Calls Tryz.prog 36 #[.int .i64 r,.slice lo K lc] w fun e y=>∃t z D,t≤K∧(t=K∨fu (ar (O t)) nq=false)∧e=.returned (.agg #[.int .i64 r,.int .i64 r,.slice z nq D])∧bR w.heap.size z (ar (O t))∧ab y z D (ar (O t))∧Below w.heap.size w y:=by
 have K1:=aa (C1 (w.alloc (.cells #[.int .i64 0,.int .i64 0,.slice none 0 0] 24)))
 simp only[ai]at K1
 have K2:=aa C2;have K3:=aa C3;have LQ:=aa lQ;have LV:=aa lV;have HL:=aa hl;have a3:=aa am;have a4:=aa av
 have a5:IntKind.i64.wrap ((K:Int)-1)=(K:Int)-1:=aW _ (by omega)
 clear C1 C2 C3 lQ lV hl am av
 go_enter Tryz.func36,Tryz.ntmps36
 go_wp2_with fail
 go_step3
 go_wp2_with fail
 refine(uH K1).mono ?_
 rintro e w1 ⟨z,D,rfl,hn,hq,Q⟩
 have T:=aa (lj.start (r:=r) (v:=.slice lo K lc) (R:=R) Q hq (hn.least (by omega)) (uH LQ 0) (uH HL))
 clear Q hq hn K1 HL
 go_wp2_with fail
 go_step3
 go_wp2_with fail
 generalize w1.heap.size=h at*
 go_loopg [7] K (fun g a wr=>∃(t:Nat) (z:Option Addr) (D:Nat),t+g=K∧a=.int .i64 ((K:Int)-1-(t:Int))∧Hid (lj w wr h r nq (O t) z D (.slice lo K lc) R))
 case atStart=>exact⟨0,z,D,by omega,by simp,T⟩
 case round=>
  clear T a5
  obtain⟨t,z,D,bt,rfl,H⟩:=hrel
  cases gk with
  |zero=>
   have a6:t=K:=by omega
   subst a6
   have hz:(t:Int)-1-(t:Int)= -1:=by omega
   rw[hz]
   have f:=uH H
   have q0:=f.qb.c0;have q1:=f.qb.c1;have q2:=f.qb.c2
   have s0:=f.res.c0;have s1:=f.res.c1;have s2:=f.res.c2
   have f0:=f.res.free 0;have f1:=f.res.free 1;have f2:=f.res.free 2
   have Z:=f.res.put (.int .i64 r) (.int .i64 r) (.slice z nq D)
   have z0:=Z.c0;have z1:=Z.c1;have z2:=Z.c2
   have BP:=aa (al f.bel (b:=w.heap.size) (Nat.le_refl _) (.int .i64 r) (.int .i64 r) (.slice z nq D))
   have QB:=aa (f.bits.putM f.res (.int .i64 r) (.int .i64 r) (.slice z nq D))
   have HN:=aa f.new
   clear Z f H
   go_wp2_with fail
   try rw[Exit.noGoto_ret]
   exact bodyPost_ret (v:=.agg #[.int .i64 r,.int .i64 r,.slice z nq D]) (by simp[results,Tryz.results36,go_sem,z0,z1,z2]) rfl ⟨t,_,_,by omega,.inl rfl,rfl,uH HN,uH QB,uH BP⟩
  |succ g=>
   have a7:t<K:=by omega
   obtain⟨m,hm⟩:∃m,K-1-t=m:=⟨_,rfl⟩
   have a9:(K:Int)-1-(t:Int)=(m:Int):=by omega
   rw[a9]
   have bo:(m:Int)<(K:Int):=by omega
   obtain⟨I,cl,el,be,bi,L,M,kb⟩:=(uH H).l.at (k:=m) (by rw[uH a3];omega)
   simp only[Value.slice.injEq]at el
   obtain⟨rfl,bj,rfl⟩:=el
   clear bj be bi
   obtain⟨ev,et⟩:=uH a4 m (by omega)
   rw[ev]at L kb
   rw[et]at M
   rw[uH LV m]at L
   have GQ:=aa (fun y po pc U X Q hp hv=>uH K2 y t m po pc U X a7 hm.symm Q hp hv)
   have KB:=aa kb
   have LN:=aa (uH LQ (t+1))
   generalize (bN R m).ao=U at*
   generalize (bN R m).cap=X at*
   generalize aj m=tm at*
   generalize V m=vm at*
   generalize ae:O (t+1)=nt at*
   clear kb ev et
   go_wp2_with fail
   refine ap (fun W=>lj w W h r nq (O t) z D (.slice (some ⟨I,0,none⟩) K lc) R∧(W.cell? ⟨I,m*2,none⟩=some (.slice U (r-m) X)∧W.cell? ⟨I,m*2+1,none⟩=some (.int .u64 (tm:Nat)))∧ab W U X (ar vm)) ⟨uH H,⟨L,M⟩,uH KB⟩ ?_
   clear H L M KB
   rintro W ⟨st,⟨L,M⟩,kb⟩
   have hd:=(Below.refl W.heap.size W).drew
   have T:=aa (st.all hd);have KB:=aa (kb.below hd)
   replace L:=ag L hd
   replace M:=ag M hd
   clear st kb hd
   have q0:=(uH T).qb.c0;have q1:=(uH T).qb.c1;have q2:=(uH T).qb.c2
   refine wp_region_held_drew (S:=(fun y=>y.cell? ⟨I,m*2,none⟩=some (.slice U (r-m) X)∧y.cell? ⟨I,m*2+1,none⟩=some (.int .u64 (tm:Nat)))) (by kernel_rfl) ?_ (fun G=>?_)
   ·exact⟨L,M⟩
   refine wpAnyH_take (i:=1) (oi:={dst:=some 24,op:=Op.move (Operand.tmp 7),type:=3,pos:= "mirrors.go:46",after:=#[],guard:=none}) (v:=(Value.int .i64 (m:Int))) rfl (by kernel_rfl) (by kernel_rfl) (by kernel_rfl) (fun _ _ _ h=>h) (Or.inl ⟨by rfl,?_⟩) (by assumption) ?_
   ·(intro w d;(try dsimp only at d);go_simp)
   simp only[Act.put,List.setIfInBounds_toArray,List.set_cons_zero,List.set_cons_succ]
   refine wpAnyH_take (i:=2) (oi:={dst:=some 25,op:=Op.move (Operand.tmp 1),type:=52,pos:= "mirrors.go:46",after:=#[],guard:=none}) (v:=(Value.slice (some ⟨I,0,none⟩) K lc)) rfl (by kernel_rfl) (by kernel_rfl) (by kernel_rfl) (fun _ _ _ h=>h) (Or.inl ⟨by rfl,?_⟩) (by assumption) ?_
   ·(intro w d;(try dsimp only at d);go_simp)
   simp only[Act.put,List.setIfInBounds_toArray,List.set_cons_zero,List.set_cons_succ]
   refine wpAnyH_take (i:=3) (oi:={dst:=some 26,op:=Op.move (Operand.tmp 7),type:=3,pos:= "mirrors.go:46",after:=#[],guard:=none}) (v:=(Value.int .i64 (m:Int))) rfl (by kernel_rfl) (by kernel_rfl) (by kernel_rfl) (fun _ _ _ h=>h) (Or.inl ⟨by rfl,?_⟩) (by assumption) ?_
   ·(intro w d;(try dsimp only at d);go_simp)
   simp only[Act.put,List.setIfInBounds_toArray,List.set_cons_zero,List.set_cons_succ]
   refine wpAnyH_take (i:=4) (oi:={dst:=some 27,op:=Op.indexAddr 52 (Operand.tmp 25) (Operand.tmp 26),type:=0,pos:= "mirrors.go:46",after:=#[{on:=2,ground:=Ground.data},{on:=3,ground:=Ground.data}],guard:=none}) (v:=(Value.pointer (some ⟨I,m*2,none⟩))) rfl (by kernel_rfl) (by kernel_rfl) (by kernel_rfl) (fun _ _ _ h=>h) (Or.inl ⟨by rfl,?_⟩) (by assumption) ?_
   ·(intro w d;(try dsimp only at d);go_simp)
   simp only[Act.put,List.setIfInBounds_toArray,List.set_cons_zero,List.set_cons_succ]
   refine wpAnyH_take (i:=5) (oi:={dst:=some 28,op:=Op.fieldAddr 77 (Operand.tmp 27) 0,type:=0,pos:= "mirrors.go:46",after:=#[{on:=4,ground:=Ground.data}],guard:=none}) (v:=(Value.pointer (some ⟨I,m*2,none⟩))) rfl (by kernel_rfl) (by kernel_rfl) (by kernel_rfl) (fun _ _ _ h=>h) (Or.inl ⟨by rfl,?_⟩) (by assumption) ?_
   ·(intro w d;(try dsimp only at d);go_simp)
   simp only[Act.put,List.setIfInBounds_toArray,List.set_cons_zero,List.set_cons_succ]
   refine wpAnyH_take (i:=6) (oi:={dst:=some 29,op:=Op.load 22 (Operand.tmp 28),type:=22,pos:= "mirrors.go:46",after:=#[{on:=5,ground:=Ground.data}],guard:=none}) (v:=(Value.slice U (r-m) X)) rfl (by kernel_rfl) (by kernel_rfl) (by kernel_rfl) (fun _ _ _ h=>h) (Or.inl ⟨by rfl,?_⟩) (by assumption) ?_
   ·(intro w d;(try dsimp only at d);go_simp)
   simp only[Act.put,List.setIfInBounds_toArray,List.set_cons_zero,List.set_cons_succ]
   refine wpAnyH_take (i:=7) (oi:={dst:=some 30,op:=Op.move (Operand.tmp 1),type:=52,pos:= "mirrors.go:46",after:=#[],guard:=none}) (v:=(Value.slice (some ⟨I,0,none⟩) K lc)) rfl (by kernel_rfl) (by kernel_rfl) (by kernel_rfl) (fun _ _ _ h=>h) (Or.inl ⟨by rfl,?_⟩) (by assumption) ?_
   ·(intro w d;(try dsimp only at d);go_simp)
   simp only[Act.put,List.setIfInBounds_toArray,List.set_cons_zero,List.set_cons_succ]
   refine wpAnyH_take (i:=8) (oi:={dst:=some 31,op:=Op.move (Operand.tmp 7),type:=3,pos:= "mirrors.go:46",after:=#[],guard:=none}) (v:=(Value.int .i64 (m:Int))) rfl (by kernel_rfl) (by kernel_rfl) (by kernel_rfl) (fun _ _ _ h=>h) (Or.inl ⟨by rfl,?_⟩) (by assumption) ?_
   ·(intro w d;(try dsimp only at d);go_simp)
   simp only[Act.put,List.setIfInBounds_toArray,List.set_cons_zero,List.set_cons_succ]
   refine wpAnyH_take (i:=9) (oi:={dst:=some 32,op:=Op.indexAddr 52 (Operand.tmp 30) (Operand.tmp 31),type:=0,pos:= "mirrors.go:46",after:=#[{on:=7,ground:=Ground.data},{on:=8,ground:=Ground.data}],guard:=none}) (v:=(Value.pointer (some ⟨I,m*2,none⟩))) rfl (by kernel_rfl) (by kernel_rfl) (by kernel_rfl) (fun _ _ _ h=>h) (Or.inl ⟨by rfl,?_⟩) (by assumption) ?_
   ·(intro w d;(try dsimp only at d);go_simp)
   simp only[Act.put,List.setIfInBounds_toArray,List.set_cons_zero,List.set_cons_succ]
   refine wpAnyH_take (i:=10) (oi:={dst:=some 33,op:=Op.fieldAddr 77 (Operand.tmp 32) 1,type:=0,pos:= "mirrors.go:46",after:=#[{on:=9,ground:=Ground.data}],guard:=none}) (v:=(Value.pointer (some ⟨I,m*2+1,none⟩))) rfl (by kernel_rfl) (by kernel_rfl) (by kernel_rfl) (fun _ _ _ h=>h) (Or.inl ⟨by rfl,?_⟩) (by assumption) ?_
   ·(intro w d;(try dsimp only at d);go_simp)
   simp only[Act.put,List.setIfInBounds_toArray,List.set_cons_zero,List.set_cons_succ]
   refine wpAnyH_take (i:=11) (oi:={dst:=some 34,op:=Op.load 30 (Operand.tmp 33),type:=30,pos:= "mirrors.go:46",after:=#[{on:=10,ground:=Ground.data}],guard:=none}) (v:=(Value.int .u64 (tm:Int))) rfl (by kernel_rfl) (by kernel_rfl) (by kernel_rfl) (fun _ _ _ h=>h) (Or.inl ⟨by rfl,?_⟩) (by assumption) ?_
   ·(intro w d;(try dsimp only at d);go_simp)
   simp only[Act.put,List.setIfInBounds_toArray,List.set_cons_zero,List.set_cons_succ]
   refine wpAnyH_ready (rs:=[0]) (by kernel_rfl) (by simp) ?_
   refine AllReadyH.cons (o:={dst:=some 23,op:=Op.load 24 (Operand.tmp 5),type:=24,pos:= "mirrors.go:46",after:=#[],guard:=none}) rfl (fun KK hK=>?_) AllReadyH.nil
   go_simp
   refine hK.out _ _ ?_ (fun G=>?_)
   ·exact⟨L,M⟩
   clear hK KK
   refine wpAnyH_ready (rs:=[12]) (by kernel_rfl) (by simp) ?_
   refine AllReadyH.cons (o:={dst:=some 35,op:=Op.call {callee:=Callee.value (Operand.func 52),args:=#[Operand.tmp 23,Operand.tmp 24,Operand.const (Value.int IntKind.i64 0),Operand.tmp 29,Operand.tmp 34],argTypes:=#[24,3,3,22,30]},type:=27,pos:= "mirrors.go:46",after:=#[{on:=0,ground:=Ground.data},{on:=1,ground:=Ground.data},{on:=6,ground:=Ground.data},{on:=11,ground:=Ground.data}],guard:=none}) rfl (fun KK hK=>?_) AllReadyH.nil
   go_simp
   refine(uH GQ _ _ _ _ _ (uH T).bel (uH T).bits (uH KB)).mono ?_
   rintro e w5 ⟨N,A,rfl,a1,a2,Q⟩
   clear q0 q1 q2
   have Y:=(uH T).all Q
   replace L:=ag L Q
   replace M:=ag M Q
   have ax:=aa (And.intro L M)
   have ha:=Y.l.apart Y.qb
   have aI:=aa (And.intro (show(((w5.setCell ⟨h,0,none⟩ (.int .i64 r)).setCell ⟨h,1,none⟩ (.int .i64 r)).setCell ⟨h,2,none⟩ (.slice N nq A)).cell? ⟨I,m*2,none⟩=some (.slice U (r-m) X) by rw[ak _ _ _ _ ha,ak _ _ _ _ ha,ak _ _ _ _ ha];exact L) (show(((w5.setCell ⟨h,0,none⟩ (.int .i64 r)).setCell ⟨h,1,none⟩ (.int .i64 r)).setCell ⟨h,2,none⟩ (.slice N nq A)).cell? ⟨I,m*2+1,none⟩=some (.int .u64 (tm:Nat)) by rw[ak _ _ _ _ ha,ak _ _ _ _ ha,ak _ _ _ _ ha];exact M))
   have q0:=Y.qb.c0;have q1:=Y.qb.c1;have q2:=Y.qb.c2
   have f0:=Y.qb.free 0;have f1:=Y.qb.free 1;have f2:=Y.qb.free 2
   have P5:=aa (Y.put a2 (a1.least (uH T).bel.size) (uH LN))
   clear Q a2 a1 Y GQ T KB ha L M
   go_wp2_with fail
   refine hK.out _ _ ?_ (fun G=>?_)
   ·exact uH ax
   clear hK KK
   refine wpAnyH_take (i:=13) (oi:={dst:=some 22,op:=Op.move (Operand.tmp 35),type:=27,pos:= "mirrors.go:46",after:=#[{on:=12,ground:=Ground.data}],guard:=none}) (v:=(Value.tuple #[(Value.agg #[.int .i64 (r:Int),.int .i64 (r:Int),.slice N nq A]),.int .i64 0])) rfl (by kernel_rfl) (by kernel_rfl) (by kernel_rfl) (fun _ _ _ h=>h) (Or.inl ⟨by rfl,?_⟩) (by assumption) ?_
   ·(intro w d;(try dsimp only at d);go_simp)
   simp only[Act.put,List.setIfInBounds_toArray,List.set_cons_zero,List.set_cons_succ]
   refine wpAnyH_take (i:=14) (oi:={dst:=some 36,op:=Op.extract (Operand.tmp 22) 0,type:=24,pos:= "mirrors.go:46",after:=#[{on:=13,ground:=Ground.data}],guard:=none}) (v:=(Value.agg #[.int .i64 (r:Int),.int .i64 (r:Int),.slice N nq A])) rfl (by kernel_rfl) (by kernel_rfl) (by kernel_rfl) (fun _ _ _ h=>h) (Or.inl ⟨by rfl,?_⟩) (by assumption) ?_
   ·(intro w d;(try dsimp only at d);go_simp)
   simp only[Act.put,List.setIfInBounds_toArray,List.set_cons_zero,List.set_cons_succ]
   refine wpAnyH_take (i:=15) (oi:={dst:=some 37,op:=Op.extract (Operand.tmp 22) 1,type:=26,pos:= "mirrors.go:46",after:=#[{on:=13,ground:=Ground.data},{on:=16,ground:=Ground.gcOnly Departure.lateStores}],guard:=none}) (v:=(Value.int .i64 0)) rfl (by kernel_rfl) (by kernel_rfl) (by kernel_rfl) (fun _ _ _ h=>h) (Or.inl ⟨by rfl,?_⟩) (by assumption) ?_
   ·(intro w d;(try dsimp only at d);go_simp)
   simp only[Act.put,List.setIfInBounds_toArray,List.set_cons_zero,List.set_cons_succ]
   refine wpAnyH_ready (rs:=[16]) (by kernel_rfl) (by simp) ?_
   refine AllReadyH.cons (o:={dst:=none,op:=Op.store 24 (Operand.tmp 5) (Operand.tmp 36),type:=0,pos:= "mirrors.go:46",after:=#[{on:=14,ground:=Ground.data},{on:=12,ground:=Ground.chain},{on:=0,ground:=Ground.phase},{on:=1,ground:=Ground.phase},{on:=2,ground:=Ground.phase},{on:=3,ground:=Ground.phase},{on:=4,ground:=Ground.phase},{on:=5,ground:=Ground.phase},{on:=6,ground:=Ground.phase},{on:=7,ground:=Ground.phase},{on:=8,ground:=Ground.phase},{on:=9,ground:=Ground.phase},{on:=10,ground:=Ground.phase},{on:=11,ground:=Ground.phase},{on:=12,ground:=Ground.phase},{on:=13,ground:=Ground.phase},{on:=14,ground:=Ground.phase},{on:=15,ground:=Ground.textOnly Departure.lateStores}],guard:=none}) rfl (fun KK hK=>?_) AllReadyH.nil
   go_simp
   refine hK.out _ _ ?_ (fun G=>?_)
   ·exact uH aI
   clear hK KK
   refine wpAnyH_done (by kernel_rfl) ?_ _
   clear q0 q1 q2 f0 f1 f2 ax aI
   have z2:=(uH P5).qb.c2
   go_wp2_with fail
   clear z2
   go_loopg [41] nq (fun g2 a wr=>∃i:Nat,i+g2=nq∧a=.int .i64 i∧Hid (∀k,k<i→aD (aP (ar nt) k)=true)∧Hid (lj w wr h r nq nt N A (.slice (some ⟨I,0,none⟩) K lc) R))
   case atStart=>exact⟨0,by omega,rfl,fun k hk=>absurd hk (Nat.not_lt_zero k),by first|exact P5|exact aa (uH P5)⟩
   case round=>
    clear P5
    obtain⟨i,bv,rfl,hF,H⟩:=hrel
    cases gk with
    |zero=>
     have bp:¬((i:Int)<(nq:Int)):=by omega
     have bq:IntKind.i64.wrap ((m:Int)-1)=(m:Int)-1:=aW _ (by omega)
     go_wp2_with fail
     go_roundg g
     case measure=>omega
     case rel=>exact⟨t+1,N,A,by omega,by rw[show(m:Int)-1=(K:Int)-1-((t+1:Nat):Int) by omega],by rw[ae];exact H⟩
    |succ g2=>
     have br:(i:Int)<(nq:Int):=by omega
     obtain⟨b5,o5,rfl,_,a0⟩:=(uH H).bits.ne (by rw[aq,(uH H).len];omega)
     have c5:=a0 i (by rw[aq,(uH H).len];omega)
     have hx:=(uH H).bits.lt i
     have ec:(ar nt)[i]?.getD 0=(aP (ar nt) i:Int):=((uH H).bits.wf i).1
     have ba:=aa (fun(e:aD (aP (ar nt) i)=true)=>(show∀k,k<i+1→aD (aP (ar nt) k)=true from fun k hk=>by
      rcases Nat.lt_or_ge k i with g|g
      ·exact uH hF k g
      ·rw[show k=i by omega];exact e))
     have bb:=aa (fun(e:aD (aP (ar nt) i)=false)=>zJ (ar nt) nq i (by omega) e)
     have KX:=aa (fun y=>uH K3 y _ hx)
     generalize aP (ar nt) i=x at*
     clear hx a0 ec
     go_wp2_with fail
     clear c5
     refine(uH KX _).mono ?_
     rintro e w6 ⟨rfl,Q⟩
     have S6:=aa ((uH H).all Q)
     clear Q H KX
     cases hfx:aD x with
     |true=>
      go_wp2_with fail
      go_roundg g2
      case measure=>omega
      case rel=>exact⟨i+1,by omega,by go_num,aa (uH ba hfx),S6⟩
     |false=>
      have f:=uH S6
      have bc:=aa (uH bb hfx)
      have q0:=f.qb.c0;have q1:=f.qb.c1;have q2:=f.qb.c2
      have s0:=f.res.c0;have s1:=f.res.c1;have s2:=f.res.c2
      have f0:=f.res.free 0;have f1:=f.res.free 1;have f2:=f.res.free 2
      have Z:=f.res.put (.int .i64 r) (.int .i64 r) (.slice (some ⟨b5,o5,none⟩) nq A)
      have z0:=Z.c0;have z1:=Z.c1;have z2:=Z.c2
      have BP:=aa (al f.bel (b:=w.heap.size) (Nat.le_refl _) (.int .i64 r) (.int .i64 r) (.slice (some ⟨b5,o5,none⟩) nq A))
      have QB:=aa (f.bits.putM f.res (.int .i64 r) (.int .i64 r) (.slice (some ⟨b5,o5,none⟩) nq A))
      have HN:=aa f.new
      clear Z f S6
      go_wp2_with fail
      try rw[Exit.noGoto_ret]
      exact bodyPost_ret (v:=.agg #[.int .i64 r,.int .i64 r,.slice (some ⟨b5,o5,none⟩) nq A]) (by simp[results,Tryz.results36,go_sem,z0,z1,z2]) rfl ⟨t+1,_,_,by omega,.inr (by rw[ae];exact uH bc),rfl,by rw[ae];exact uH HN,by rw[ae];exact uH QB,uH BP⟩
theorem aR{w:World}{b g j:Nat}{u u' u'' v:Value}(d:b≠g)(h:w.cell? ⟨b,j,none⟩=some v):(((w.setCell ⟨g,0,none⟩ u).setCell ⟨g,1,none⟩ u').setCell ⟨g,2,none⟩ u'').cell? ⟨b,j,none⟩=some v:=by
 rw[ak _ _ _ _ d,ak _ _ _ _ d,ak _ _ _ _ d]
 exact h
theorem aT{w:World}{a:Addr}{v:Value}(h:w.cell? a=some v):w.drew.cell? a=some v:=h
theorem an{w:World}{b g j:Nat}{u u' u'' v:Value}(d:b≠g)(h:w.cell? ⟨b,j,none⟩=some v):(((w.setCell ⟨g,0,none⟩ u).setCell ⟨g,1,none⟩ u').setCell ⟨g,2,none⟩ u'').drew.cell? ⟨b,j,none⟩=some v:=aT (aR d h)
structure iP (w wr:World) (x y:Int) (ao:Option Addr) (n cap:Nat):Prop where
 bel:Below w.heap.size w wr
 a:au wr w.heap.size (.int .i64 x) (.int .i64 y) (.slice ao n cap)
 r1:au wr (w.heap.size+1) (.int .i64 0) (.int .i64 0) (.slice none 0 0)
 r2:au wr (w.heap.size+1+1) (.int .i64 0) (.int .i64 0) (.slice none 0 0)
theorem iP.all{w wr h:World}{x y:Int}{l:Option Addr}{n d:Nat}(t:iP w wr x y l n d)(f:Below wr.heap.size wr h):iP w h x y l n d:=⟨t.bel.trans (f.mono t.bel.size),t.a.all f,t.r1.all f,t.r2.all f⟩
theorem iP.start(w:World)(x y:Int)(f:Option Addr)(n d:Nat):iP w (((w.alloc (.cells #[.int .i64 x,.int .i64 y,.slice f n d] 24)).alloc (.cells #[.int .i64 0,.int .i64 0,.slice none 0 0] 24)).alloc (.cells #[.int .i64 0,.int .i64 0,.slice none 0 0] 24)) x y f n d:=by
 obtain⟨h,l,m,t⟩:=Fn w (.int .i64 x) (.int .i64 y) (.slice f n d) (.int .i64 0) (.int .i64 0) (.slice none 0 0) (.int .i64 0) (.int .i64 0) (.slice none 0 0) _ (Below.refl _ _)
 exact⟨h,l,m,t⟩
theorem t8(r c:Int)(z:Option Addr)(n l:Nat)(er:Int)(w:World)(A:er=1∨er=4)
  (F:∀d,Below w.heap.size w d→Calls Tryz.prog 34 #[.agg #[.int .i64 r,.int .i64 c,.slice z n l]] d fun e D=>e=.returned (.int .i64 er)∧Below d.heap.size d D):
  Calls Tryz.prog 25 #[.agg #[.int .i64 r,.int .i64 c,.slice z n l]] w fun e d=>∃v u,e=.returned (.tuple #[v,u,.int .i64 er])∧az w.heap.size d 0 0 [] v∧az w.heap.size d 0 0 [] u∧Below w.heap.size w d:=by
 have m:=aa (iP.start w r c z n l)
 have G:=aa (F _ (uH m).bel)
 clear F
 rcases A with rfl|rfl
 all_goals
  go_enter Tryz.func25,Tryz.ntmps25
  go_wp2_with fail
  refine(uH G).mono ?_
  rintro e w1 ⟨rfl,K⟩
  replace m:=aa ((uH m).all K)
  clear K G
  have f:=(uH m).r1;have H:=(uH m).r2
  have T:=f.c0;have U:=f.c1;have V:=f.c2
  have X:=f.free 0;have Y:=f.free 1;have Z:=f.free 2
  have I:=f.put (.int .i64 0) (.int .i64 0) (.slice none 0 0)
  have h:=H.three14 (g:=w.heap.size+1) (by omega) (.int .i64 0) (.int .i64 0) (.slice none 0 0)
  have s3:=h.c0;have s4:=h.c1;have s5:=h.c2
  have f3:=h.free 0;have f4:=h.free 1;have f5:=h.free 2
  have t:=I.three14 (g:=w.heap.size+1+1) (by omega) (.int .i64 0) (.int .i64 0) (.slice none 0 0)
  have y:=h.put (.int .i64 0) (.int .i64 0) (.slice none 0 0)
  have L:=t.c0;have z1:=t.c1;have z2:=t.c2;have M:=y.c0;have N:=y.c1;have O:=y.c2
  have Q:=aa (al (al (uH m).bel (b:=w.heap.size+1) (by omega) (.int .i64 0) (.int .i64 0) (.slice none 0 0)) (b:=w.heap.size+1+1) (by omega) (.int .i64 0) (.int .i64 0) (.slice none 0 0))
  clear f H I h t y m
  go_wp2_with fail
  exact bodyPost_ret (v:=.tuple #[.agg #[.int .i64 0,.int .i64 0,.slice none 0 0],.agg #[.int .i64 0,.int .i64 0,.slice none 0 0],.int .i64 _]) (by simp[results,Tryz.results25,go_sem,L,z1,z2,M,N,O]) rfl ⟨_,_,rfl,az.zero _ _,az.zero _ _,uH Q⟩
theorem wW(r c n nq K Y:Nat)(ao:Option Addr)(S QF:List Nat)(V:Nat→List Nat)(a1:Nat→Nat)(ok fq fr:Bool)(w:World)(lS:S.length=n)(lQ:QF.length=nq)(Z:fu (ar QF) nq=fq)
  (C1:∀d,Below w.heap.size w d→Calls Tryz.prog 34 #[.agg #[.int .i64 r,.int .i64 c,.slice ao n Y]] d fun e A=>e=.returned (.int .i64 0)∧Below d.heap.size d A)
  (C2:∀d,Below w.heap.size w d→Calls Tryz.prog 35 #[.agg #[.int .i64 r,.int .i64 c,.slice ao n Y]] d fun e A=>tZ d A ok r c n K S V a1 e∧Below d.heap.size d A)
  (C3:∀d lo lc R,Below w.heap.size w d→bV 0 d (.slice lo K lc) R→R.length=K→(∀k,k<K→(bN R k).V=V k∧(bN R k).tau=a1 k)→Calls Tryz.prog 36 #[.int .i64 r,.slice lo K lc] d fun e A=>∃Q t y,(Q=QF∨(fu (ar Q) nq=false∧fq=false))∧Q.length=nq∧e=.returned (.agg #[.int .i64 r,.int .i64 r,.slice t nq y])∧bR d.heap.size t (ar Q)∧ab A t y (ar Q)∧Below d.heap.size d A)
  (C4:∀d Q t y,ab d t y (ar Q)→Q.length=nq→Calls Tryz.prog 37 #[.slice t nq y] d fun e A=>e=.returned (.bool (fu (ar Q) nq))∧Below d.heap.size d A)
  (C5:∀d D F,ab d D F (ar S)→Calls Tryz.prog 37 #[.slice D n F] d fun e A=>e=.returned (.bool fr)∧Below d.heap.size d A):
  Calls Tryz.prog 25 #[.agg #[.int .i64 r,.int .i64 c,.slice ao n Y]] w fun e d=>(((ok&&(fq&&fr))=true∧∃v u,e=.returned (.tuple #[v,u,.int .i64 0])∧az w.heap.size d r r QF v∧az w.heap.size d r c S u)∨((ok&&(fq&&fr))=false∧∃v u,e=.returned (.tuple #[v,u,.int .i64 2])∧az w.heap.size d 0 0 [] v∧az w.heap.size d 0 0 [] u))∧Below w.heap.size w d:=by
 have ST:=aa (iP.start w r c ao n Y)
 have K1:=aa (C1 _ (uH ST).bel);have K2:=aa C2;have K3:=aa C3;have K4:=aa C4;have K5:=aa C5;have LS:=aa lS;have LQ:=aa lQ;have am:=aa Z
 clear C1 C2 C3 C4 C5 lS lQ Z
 go_enter Tryz.func25,Tryz.ntmps25
 go_wp2_with fail
 refine(uH K1).mono ?_
 rintro e w1 ⟨rfl,z⟩
 replace ST:=aa ((uH ST).all z)
 clear z K1
 have y0:=(uH ST).a.c0;have y1:=(uH ST).a.c1;have y2:=(uH ST).a.c2
 go_wp2_with fail
 clear y0 y1 y2
 refine(uH K2 _ (uH ST).bel).mono ?_
 rintro e N ⟨a6,z⟩
 have m:=aa ((uH ST).all z)
 have HZ:=aa (show w.heap.size≤w1.heap.size from(uH ST).bel.size)
 clear z ST K2
 rcases a6 with⟨aj,D,F,v,R,rfl,hn,hq,hl,a0,a9⟩|⟨aj,rfl⟩
 ·obtain⟨lo,lc,a5⟩:=hl.slice
  rw[a0]at a5
  subst a5
  have X:=ac N (.cells #[.int .i64 r,.int .i64 c,.slice D n F] 24)
  have G:=aa (uH m).r2.lt
  have RB:=aa (au.new N (.int .i64 r) (.int .i64 c) (.slice D n F))
  replace m:=aa ((uH m).all X)
  have HQ:=aa (hq.below X)
  have HN:=aa (hn.least (uH HZ))
  have HL:=aa ((hl.least (Nat.zero_le _)).below X)
  have bb:=aa a0;have bc:=aa a9;have be:=aa aj
  clear X hq hn hl a0 a9 aj HZ
  have y0:=(uH m).a.c0
  go_wp2_with fail
  clear y0
  refine(uH K3 _ lo lc R (uH m).bel (uH HL) (uH bb) (uH bc)).mono ?_
  rintro e U ⟨Q,t,y,hQ,lQ,rfl,hn,hq,z⟩
  have X:=ac U (.cells #[.int .i64 r,.int .i64 r,.slice t nq y] 24)
  have H:=aa ((uH m).all z).r2.lt
  have QB:=aa (au.new U (.int .i64 r) (.int .i64 r) (.slice t nq y))
  have bi:=aa (hn.least (uH m).bel.size)
  replace m:=aa (((uH m).all z).all X)
  replace RB:=aa (((uH RB).all z).all X)
  replace HQ:=aa (((uH HQ).below z).below X)
  have I:=aa (hq.below X)
  have av:=aa hQ;have bj:=aa lQ
  clear z X hn hq HL hQ lQ K3
  have y2:=(uH QB).c2
  go_wp2_with fail
  clear y2
  refine(uH K4 _ Q t y (uH I) (uH bj)).mono ?_
  rintro e w4 ⟨rfl,z⟩
  replace m:=aa ((uH m).all z)
  replace RB:=aa ((uH RB).all z)
  replace QB:=aa ((uH QB).all z)
  replace HQ:=aa ((uH HQ).below z)
  replace I:=aa ((uH I).below z)
  clear z K4
  cases hfQ:fu (ar Q) nq with
  |false=>
   have ae:Hid ((ok&&(fq&&fr))=false):=aa (by
    rcases uH av with e|e
    ·rw[e,uH am]at hfQ
     rw[hfQ];cases ok<;>rfl
    ·rw[e.2];cases ok<;>rfl)
   clear RB QB HQ I
   have f:=(uH m).r1;have X2:=(uH m).r2
   have s0:=f.c0;have s1:=f.c1;have s2:=f.c2
   have f0:=f.free 0;have f1:=f.free 1;have f2:=f.free 2
   have Y1:=f.put (.int .i64 0) (.int .i64 0) (.slice none 0 0)
   have l:=X2.three14 (g:=w.heap.size+1) (by omega) (.int .i64 0) (.int .i64 0) (.slice none 0 0)
   have s3:=l.c0;have s4:=l.c1;have s5:=l.c2
   have f3:=l.free 0;have f4:=l.free 1;have f5:=l.free 2
   have L:=Y1.three14 (g:=w.heap.size+1+1) (by omega) (.int .i64 0) (.int .i64 0) (.slice none 0 0)
   have M:=l.put (.int .i64 0) (.int .i64 0) (.slice none 0 0)
   have z0:=L.c0;have z1:=L.c1;have z2:=L.c2;have z3:=M.c0;have z4:=M.c1;have z5:=M.c2
   have BP:=aa (al (al (uH m).bel (b:=w.heap.size+1) (by omega) (.int .i64 0) (.int .i64 0) (.slice none 0 0)) (b:=w.heap.size+1+1) (by omega) (.int .i64 0) (.int .i64 0) (.slice none 0 0))
   clear f X2 Y1 l L M m
   go_wp2_with fail
   exact bodyPost_ret (v:=.tuple #[.agg #[.int .i64 0,.int .i64 0,.slice none 0 0],.agg #[.int .i64 0,.int .i64 0,.slice none 0 0],.int .i64 2]) (by simp[results,Tryz.results25,go_sem,z0,z1,z2,z3,z4,z5]) rfl ⟨.inr ⟨uH ae,_,_,rfl,az.zero _ _,az.zero _ _⟩,uH BP⟩
  |true=>
   have bm:Q=QF:=by
    rcases uH av with e|e
    ·exact e
    ·rw[e.1]at hfQ;cases hfQ
   subst bm
   have Z:fq=true:=by rw[←uH am];exact hfQ
   have y2:=(uH RB).c2
   go_wp2_with fail
   clear y2
   refine(uH K5 _ D F (uH HQ)).mono ?_
   rintro e w5 ⟨rfl,z⟩
   replace m:=aa ((uH m).all z)
   replace RB:=aa ((uH RB).all z)
   replace QB:=aa ((uH QB).all z)
   replace HQ:=aa ((uH HQ).below z)
   replace I:=aa ((uH I).below z)
   clear z K5
   cases hfr:fr with
   |false=>
    have ae:Hid ((ok&&(fq&&fr))=false):=aa (by rw[hfr];cases ok<;>cases fq<;>rfl)
    clear RB QB HQ I
    have f:=(uH m).r1;have X2:=(uH m).r2
    have s0:=f.c0;have s1:=f.c1;have s2:=f.c2
    have f0:=f.free 0;have f1:=f.free 1;have f2:=f.free 2
    have Y1:=f.put (.int .i64 0) (.int .i64 0) (.slice none 0 0)
    have l:=X2.three14 (g:=w.heap.size+1) (by omega) (.int .i64 0) (.int .i64 0) (.slice none 0 0)
    have s3:=l.c0;have s4:=l.c1;have s5:=l.c2
    have f3:=l.free 0;have f4:=l.free 1;have f5:=l.free 2
    have L:=Y1.three14 (g:=w.heap.size+1+1) (by omega) (.int .i64 0) (.int .i64 0) (.slice none 0 0)
    have M:=l.put (.int .i64 0) (.int .i64 0) (.slice none 0 0)
    have z0:=L.c0;have z1:=L.c1;have z2:=L.c2;have z3:=M.c0;have z4:=M.c1;have z5:=M.c2
    have BP:=aa (al (al (uH m).bel (b:=w.heap.size+1) (by omega) (.int .i64 0) (.int .i64 0) (.slice none 0 0)) (b:=w.heap.size+1+1) (by omega) (.int .i64 0) (.int .i64 0) (.slice none 0 0))
    clear f X2 Y1 l L M m
    go_wp2_with fail
    exact bodyPost_ret (v:=.tuple #[.agg #[.int .i64 0,.int .i64 0,.slice none 0 0],.agg #[.int .i64 0,.int .i64 0,.slice none 0 0],.int .i64 2]) (by simp[results,Tryz.results25,go_sem,z0,z1,z2,z3,z4,z5]) rfl ⟨.inr ⟨uH ae,_,_,rfl,az.zero _ _,az.zero _ _⟩,uH BP⟩
   |true=>
    have a2:Hid ((ok&&(fq&&fr))=true):=aa (by rw[uH be,Z,hfr];rfl)
    clear hfQ am av Z hfr
    go_wp2_with fail
    refine ap (fun W=>iP w W r c ao n Y∧au W N.heap.size (.int .i64 r) (.int .i64 c) (.slice D n F)∧au W U.heap.size (.int .i64 r) (.int .i64 r) (.slice t nq y)∧ab W D F (ar S)∧ab W t y (ar Q)) ⟨uH m,uH RB,uH QB,uH HQ,uH I⟩ ?_
    clear m RB QB HQ I
    rintro W ⟨s2,rb,qb,hq,a7⟩
    have m:=aa (s2)
    have y0:=(rb).c0;have y1:=(rb).c1;have y2:=(rb).c2
    have y3:=(qb).c0;have y4:=(qb).c1;have y5:=(qb).c2
    have Q1:=hq;have Q3:=a7
    clear s2 rb qb hq a7
    have f:=(uH m).r1;have X2:=(uH m).r2
    have s0:=f.c0;have s1:=f.c1;have s2:=f.c2
    have f0:=f.free 0;have f1:=f.free 1;have f2:=f.free 2
    have Y1:=f.put (.int .i64 r) (.int .i64 r) (.slice t nq y)
    have l:=X2.three14 (g:=w.heap.size+1) (by omega) (.int .i64 r) (.int .i64 r) (.slice t nq y)
    have s3:=l.c0;have s4:=l.c1;have s5:=l.c2
    have f3:=l.free 0;have f4:=l.free 1;have f5:=l.free 2
    have L:=Y1.three14 (g:=w.heap.size+1+1) (by omega) (.int .i64 r) (.int .i64 c) (.slice D n F)
    have M:=l.put (.int .i64 r) (.int .i64 c) (.slice D n F)
    have z0:=L.c0;have z1:=L.c1;have z2:=L.c2;have z3:=M.c0;have z4:=M.c1;have z5:=M.c2
    have BP:=aa (al (al (uH m).bel (b:=w.heap.size+1) (by omega) (.int .i64 r) (.int .i64 r) (.slice t nq y)) (b:=w.heap.size+1+1) (by omega) (.int .i64 r) (.int .i64 c) (.slice D n F))
    have PR:=aa ((Q1.putM f (.int .i64 r) (.int .i64 r) (.slice t nq y)).putM l (.int .i64 r) (.int .i64 c) (.slice D n F))
    have PQ:=aa ((Q3.putM f (.int .i64 r) (.int .i64 r) (.slice t nq y)).putM l (.int .i64 r) (.int .i64 c) (.slice D n F))
    clear f X2 Y1 l L M m Q1 Q3
    have a3:=aa (show _∧_∧_∧_∧_∧_ from⟨aT y3,aT y4,aT y5,aT y0,aT y1,aT y2⟩)
    have T:=aa (show _∧_∧_∧_∧_∧_ from⟨aR (u:=.int .i64 r) (u':=.int .i64 r) (u'':=.slice t nq y) (show U.heap.size≠w.heap.size+1 by have:=uH H;omega) y3,aR (u:=.int .i64 r) (u':=.int .i64 r) (u'':=.slice t nq y) (show U.heap.size≠w.heap.size+1 by have:=uH H;omega) y4,aR (u:=.int .i64 r) (u':=.int .i64 r) (u'':=.slice t nq y) (show U.heap.size≠w.heap.size+1 by have:=uH H;omega) y5,aR (u:=.int .i64 r) (u':=.int .i64 r) (u'':=.slice t nq y) (show N.heap.size≠w.heap.size+1 by have:=uH G;omega) y0,aR (u:=.int .i64 r) (u':=.int .i64 r) (u'':=.slice t nq y) (show N.heap.size≠w.heap.size+1 by have:=uH G;omega) y1,aR (u:=.int .i64 r) (u':=.int .i64 r) (u'':=.slice t nq y) (show N.heap.size≠w.heap.size+1 by have:=uH G;omega) y2⟩)
    have a4:=aa (show _∧_∧_∧_∧_∧_ from⟨an (u:=.int .i64 r) (u':=.int .i64 r) (u'':=.slice t nq y) (show U.heap.size≠w.heap.size+1 by have:=uH H;omega) y3,an (u:=.int .i64 r) (u':=.int .i64 r) (u'':=.slice t nq y) (show U.heap.size≠w.heap.size+1 by have:=uH H;omega) y4,an (u:=.int .i64 r) (u':=.int .i64 r) (u'':=.slice t nq y) (show U.heap.size≠w.heap.size+1 by have:=uH H;omega) y5,an (u:=.int .i64 r) (u':=.int .i64 r) (u'':=.slice t nq y) (show N.heap.size≠w.heap.size+1 by have:=uH G;omega) y0,an (u:=.int .i64 r) (u':=.int .i64 r) (u'':=.slice t nq y) (show N.heap.size≠w.heap.size+1 by have:=uH G;omega) y1,an (u:=.int .i64 r) (u':=.int .i64 r) (u'':=.slice t nq y) (show N.heap.size≠w.heap.size+1 by have:=uH G;omega) y2⟩)
    have ax:=aa (show _∧_∧_∧_∧_∧_ from⟨an (u:=.int .i64 r) (u':=.int .i64 c) (u'':=.slice D n F) (show U.heap.size≠w.heap.size+1+1 by have:=uH H;omega) (uH T).1,an (u:=.int .i64 r) (u':=.int .i64 c) (u'':=.slice D n F) (show U.heap.size≠w.heap.size+1+1 by have:=uH H;omega) (uH T).2.1,an (u:=.int .i64 r) (u':=.int .i64 c) (u'':=.slice D n F) (show U.heap.size≠w.heap.size+1+1 by have:=uH H;omega) (uH T).2.2.1,an (u:=.int .i64 r) (u':=.int .i64 c) (u'':=.slice D n F) (show N.heap.size≠w.heap.size+1+1 by have:=uH G;omega) (uH T).2.2.2.1,an (u:=.int .i64 r) (u':=.int .i64 c) (u'':=.slice D n F) (show N.heap.size≠w.heap.size+1+1 by have:=uH G;omega) (uH T).2.2.2.2.1,an (u:=.int .i64 r) (u':=.int .i64 c) (u'':=.slice D n F) (show N.heap.size≠w.heap.size+1+1 by have:=uH G;omega) (uH T).2.2.2.2.2⟩)
    clear y0 y1 y2 y3 y4 y5
    refine wp_region_held_drew (S:=(fun d=>d.cell? ⟨U.heap.size,0,none⟩=some (.int .i64 (r:Int))∧d.cell? ⟨U.heap.size,1,none⟩=some (.int .i64 (r:Int))∧d.cell? ⟨U.heap.size,2,none⟩=some (.slice t nq y)∧d.cell? ⟨N.heap.size,0,none⟩=some (.int .i64 (r:Int))∧d.cell? ⟨N.heap.size,1,none⟩=some (.int .i64 (c:Int))∧d.cell? ⟨N.heap.size,2,none⟩=some (.slice D n F))) (by kernel_rfl) ?_ (fun O=>?_)
    ·exact uH a3
    refine wpAnyH_take (i:=0) (oi:={dst:=some 44,op:=Op.load 24 (Operand.tmp 9),type:=24,pos:= "qr.go:24",after:=#[],guard:=none}) (v:=(Value.agg #[.int .i64 (r:Int),.int .i64 (r:Int),.slice t nq y])) rfl (by kernel_rfl) (by kernel_rfl) (by kernel_rfl) (fun _ _ _ h=>h) (Or.inl ⟨by rfl,?_⟩) (by assumption) ?_
    ·(intro w aI;(try dsimp only at aI);go_simp)
    simp only[Act.put,List.setIfInBounds_toArray,List.set_cons_zero,List.set_cons_succ]
    refine wpAnyH_take (i:=1) (oi:={dst:=some 45,op:=Op.load 24 (Operand.tmp 6),type:=24,pos:= "qr.go:24",after:=#[{on:=2,ground:=Ground.gcOnly Departure.lateStores}],guard:=none}) (v:=(Value.agg #[.int .i64 (r:Int),.int .i64 (c:Int),.slice D n F])) rfl (by kernel_rfl) (by kernel_rfl) (by kernel_rfl) (fun _ _ _ h=>h) (Or.inl ⟨by rfl,?_⟩) (by assumption) ?_
    ·(intro w aI;(try dsimp only at aI);go_simp)
    simp only[Act.put,List.setIfInBounds_toArray,List.set_cons_zero,List.set_cons_succ]
    refine wpAnyH_ready (rs:=[2]) (by kernel_rfl) (by simp) ?_
    refine AllReadyH.cons (o:={dst:=none,op:=Op.store 24 (Operand.tmp 2) (Operand.tmp 44),type:=0,pos:= "qr.go:24",after:=#[{on:=0,ground:=Ground.data},{on:=0,ground:=Ground.phase},{on:=1,ground:=Ground.textOnly Departure.lateStores}],guard:=none}) rfl (fun KK hK=>?_) AllReadyH.nil
    go_simp
    refine hK.out _ _ ?_ (fun O=>?_)
    ·exact uH a4
    clear hK KK
    refine wpAnyH_ready (rs:=[3]) (by kernel_rfl) (by simp) ?_
    refine AllReadyH.cons (o:={dst:=none,op:=Op.store 24 (Operand.tmp 3) (Operand.tmp 45),type:=0,pos:= "qr.go:24",after:=#[{on:=1,ground:=Ground.data},{on:=2,ground:=Ground.chain},{on:=0,ground:=Ground.phase},{on:=1,ground:=Ground.phase},{on:=2,ground:=Ground.phase}],guard:=none}) rfl (fun KK hK=>?_) AllReadyH.nil
    go_simp
    refine hK.out _ _ ?_ (fun O=>?_)
    ·exact uH ax
    clear hK KK
    refine wpAnyH_ready (rs:=[4]) (by kernel_rfl) (by simp) ?_
    refine AllReadyH.cons (o:={dst:=some 4,op:=Op.assign (Operand.const (Value.int IntKind.i64 0)),type:=26,pos:= "qr.go:24",after:=#[{on:=3,ground:=Ground.chain},{on:=0,ground:=Ground.phase},{on:=1,ground:=Ground.phase},{on:=2,ground:=Ground.phase},{on:=3,ground:=Ground.phase}],guard:=none}) rfl (fun KK hK=>?_) AllReadyH.nil
    go_simp
    refine hK.out _ _ ?_ (fun O=>?_)
    ·exact uH ax
    clear hK KK
    refine wpAnyH_done (by kernel_rfl) ?_ _
    clear a3 a4 ax T
    go_wp2_with fail
    refine bodyPost_ret (v:=.tuple #[.agg #[.int .i64 r,.int .i64 r,.slice t nq y],.agg #[.int .i64 r,.int .i64 c,.slice D n F],.int .i64 0]) (by simp[results,Tryz.results25,go_sem,z0,z1,z2,z3,z4,z5]) rfl ⟨.inl ⟨uH a2,_,_,rfl,⟨t,y,by rw[uH LQ],uH bi,(uH PQ).below (Below.refl _ _).drew⟩,⟨D,F,by rw[uH LS],uH HN,(uH PR).below (Below.refl _ _).drew⟩⟩,(uH BP).drew⟩
 ·have ae:Hid ((ok&&(fq&&fr))=false):=aa (by rw[aj];rfl)
  have X:=ac N (.cells #[.int .i64 0,.int .i64 0,.slice none 0 0] 24)
  replace m:=aa ((uH m).all X)
  clear X aj HZ
  have f:=(uH m).r1;have X2:=(uH m).r2
  have s0:=f.c0;have s1:=f.c1;have s2:=f.c2
  have f0:=f.free 0;have f1:=f.free 1;have f2:=f.free 2
  have Y1:=f.put (.int .i64 0) (.int .i64 0) (.slice none 0 0)
  have l:=X2.three14 (g:=w.heap.size+1) (by omega) (.int .i64 0) (.int .i64 0) (.slice none 0 0)
  have s3:=l.c0;have s4:=l.c1;have s5:=l.c2
  have f3:=l.free 0;have f4:=l.free 1;have f5:=l.free 2
  have L:=Y1.three14 (g:=w.heap.size+1+1) (by omega) (.int .i64 0) (.int .i64 0) (.slice none 0 0)
  have M:=l.put (.int .i64 0) (.int .i64 0) (.slice none 0 0)
  have z0:=L.c0;have z1:=L.c1;have z2:=L.c2;have z3:=M.c0;have z4:=M.c1;have z5:=M.c2
  have BP:=aa (al (al (uH m).bel (b:=w.heap.size+1) (by omega) (.int .i64 0) (.int .i64 0) (.slice none 0 0)) (b:=w.heap.size+1+1) (by omega) (.int .i64 0) (.int .i64 0) (.slice none 0 0))
  clear f X2 Y1 l L M m
  go_wp2_with fail
  exact bodyPost_ret (v:=.tuple #[.agg #[.int .i64 0,.int .i64 0,.slice none 0 0],.agg #[.int .i64 0,.int .i64 0,.slice none 0 0],.int .i64 2]) (by simp[results,Tryz.results25,go_sem,z0,z1,z2,z3,z4,z5]) rfl ⟨.inr ⟨uH ae,_,_,rfl,az.zero _ _,az.zero _ _⟩,uH BP⟩
theorem t9(X:Option Addr)(c:Nat)(I:List Int)(w:World)(Y:ab w X c I)(hn:I.length≤64):
  Calls Tryz.prog 93 #[.slice X I.length c] w fun e y=>e=.returned (.bool (lf (aU I)))∧Below w.heap.size w y:=by
 have N:=aa Y
 obtain⟨L,h⟩:∃L:Nat→Bool,L=fun j=>lf ((aU I).drop j):=⟨_,rfl⟩
 have Z:lf (aU I)=L 0:=by rw[h];rfl
 have LE:∀j,I.length≤j→L j=false:=fun j z=>by
  rw[h]
  show lf ((aU I).drop j)=false
  rw[List.drop_eq_nil_of_le (by rw[cP];exact z)]
  rfl
 have LS:∀j,j<I.length→L j=if fK (aP I j)=0 then L (j+1)else fS (aP I j):=fun j z=>by
  rw[h]
  show lf ((aU I).drop j)=_
  rw[rK (aU I) (by rw[cP];exact z),m9 I j z]
 rw[Z]
 obtain⟨v,T⟩:∃v,L 0=v:=⟨_,rfl⟩
 have HE:=aa LE;have HS:=aa LS
 obtain⟨n,t⟩:∃n,I.length=n:=⟨_,rfl⟩
 rw[t]at hn HE HS⊢
 rw[T]
 have HN:=aa t
 have HV:=aa T
 clear Y h Z LE LS t T
 go_enter Tryz.func93,Tryz.ntmps93
 go_wp2_with fail
 go_loopw[7] (fun i wr=>∃j:Nat,j≤n∧i=.int .i64 j∧Hid (L j=v)∧Hid (Below w.heap.size w wr)) (fun i _=>n-(intOf i).toNat)
 case atStart=>exact⟨0,Nat.zero_le _,rfl,HV,Below.refl _ _⟩
 case round=>
  obtain⟨j,z,rfl,h,l⟩:=hrel
  by_cases A:j<n
  ·have O:(j:Int)<(n:Int):=by omega
   obtain⟨b,aj,U,hb,hc⟩:=((uH N).below l.out).ne (by rw[uH HN];omega)
   have f:=aa (hc j (by rw[uH HN];exact A))
   have D:=aa (fun y=>cu (aP I j) y ((uH N).lt j))
   have H:=aa (fun y=>dG (aP I j) y ((uH N).lt j))
   have K:=aa (uH HS j A)
   subst U
   clear hc
   by_cases F:fK (aP I j)=0
   ·have M:=aa (show L (j+1)=v from by have:=uH K;rw[uH h,if_pos F]at this;exact this.symm)
    rw[F]at D
    clear K F H
    generalize aP I j=x at*
    have m:=uH f
    go_wp2_with fail
    refine(uH D _).mono ?_
    rintro e V ⟨rfl,d⟩
    have G:Hid (Below w.heap.size w V):=l.out.trans (d.mono l.out.size)
    clear D d f m l
    go_wp2_with fail
    go_round
    case rel=>exact⟨j+1,by omega,by go_num,M,G⟩
    case measure=>simp[intOf];omega
   ·have M:fS (aP I j)=v:=by have:=uH K;rw[uH h,if_neg F]at this;exact this.symm
    have ae:(fK (aP I j)==0)=false:=by rw[beq_eq_false_iff_ne];exact F
    rw[M]at H
    clear K M
    generalize fK (aP I j)=kd at*
    generalize aP I j=x at*
    have m:=uH f
    go_wp2_with fail
    refine(uH D _).mono ?_
    rintro e V ⟨rfl,d⟩
    have G:Hid (Below w.heap.size w V):=l.out.trans (d.mono l.out.size)
    clear D d f m l
    go_wp2_with fail
    refine(uH H _).mono ?_
    rintro e w3 ⟨rfl,d⟩
    have B3:Hid (Below w.heap.size w w3):=G.out.trans (d.mono G.out.size)
    clear H d G
    go_wp2_with fail
    exact bodyPost_ret (v:=.bool v) (by simp[results,Tryz.results93,go_sem]) rfl ⟨rfl,B3.out⟩
  ·have Q:v=false:=by have:=uH HE j (by omega);rw[uH h]at this;exact this
   subst Q
   have O:(n:Int)≤(j:Int):=by omega
   go_wp2_with fail
   exact bodyPost_ret (v:=.bool false) (by simp[results,Tryz.results93,go_sem]) rfl ⟨rfl,l.out⟩
theorem Ay(D:Option Addr)(n c m o:Nat)(s:Bool)(w:World)(h:(s=true∧o=m)∨(s=false∧o=fN m))(H:m<18446744073709551616)
  (I:Calls Tryz.prog 92 #[.slice D n c] w fun e y=>e=.returned (.tuple #[.int .u64 (m:Nat),.int .i64 0])∧Below w.heap.size w y)
  (K:∀t,Below w.heap.size w t→Calls Tryz.prog 93 #[.slice D n c] t fun e y=>e=.returned (.bool s)∧Below t.heap.size t y):
  Calls Tryz.prog 73 #[.slice D n c] w fun e t=>e=.returned (.int .u64 (o:Nat))∧Below w.heap.size w t:=by
 have z:=aa I;have A:=aa K
 have F:=aa (fun t=>fG m t H)
 clear I K H
 rcases h with⟨rfl,rfl⟩|⟨rfl,rfl⟩
 ·clear F
  go_enter Tryz.func73,Tryz.ntmps73
  go_wp2_with fail
  refine Calls.mono (uH z) ?_
  rintro e L ⟨rfl,d⟩
  have l:=aa d
  clear z d
  go_wp2_with fail
  refine(uH A _ (uH l)).mono ?_
  rintro e M ⟨rfl,f⟩
  have G:=aa ((uH l).trans (f.mono (uH l).size))
  clear A f l
  go_wp2
  go_ret
  exact⟨rfl,uH G⟩
 ·generalize fN m=o at*
  go_enter Tryz.func73,Tryz.ntmps73
  go_wp2_with fail
  refine Calls.mono (uH z) ?_
  rintro e L ⟨rfl,d⟩
  have l:=aa d
  clear z d
  go_wp2_with fail
  refine(uH A _ (uH l)).mono ?_
  rintro e M ⟨rfl,f⟩
  have G:=aa ((uH l).trans (f.mono (uH l).size))
  clear A f l
  go_wp2_with fail
  refine(uH F _).mono ?_
  rintro e N ⟨rfl,rfl⟩
  clear F
  go_wp2
  go_ret
  exact⟨rfl,uH G⟩
theorem pa(d:Option Addr)(c:Nat)(I:List Int)(w:World)(h:ab w d c I)(l:I.length≤64)(t:cd w):
  Calls Tryz.prog 73 #[.slice d I.length c] w fun e f=>e=.returned (.int .u64 ((if lf (aU I)=true then nF (aU I)else fN (nF (aU I)):Nat):Nat))∧Below w.heap.size w f:=by
 have m:=zI d c I w h l t
 rw[lF]at m
 refine Ay d I.length c (nF (aU I)) _ (lf (aU I)) w ?_ (m7 _) m (fun f y=>t9 d c I f (h.below y) l)
 cases lf (aU I)
 ·exact .inr ⟨rfl,if_neg (by decide)⟩
 ·exact .inl ⟨rfl,if_pos rfl⟩
theorem nm(x:Nat)(w:World):
  Calls Tryz.prog 72 #[.int .u64 x] w fun e d=>e=.returned (.int .u64 (0:Nat))∧Below w.heap.size w d:=by
 go_enter Tryz.func72,Tryz.ntmps72
 go_wp2
 go_ret
 exact⟨rfl,Below.refl _ _⟩
theorem ue(x d g:Nat)(w:World)(h:x<18446744073709551616)(l:d<18446744073709551616)(y:w.cell? ⟨g,0,none⟩=some (.int .u64 (d:Nat)))(m:cd w):
  Calls Tryz.prog 75 #[.int .u64 x,.pointer (some ⟨g,0,none⟩)] w fun e t=>e=.returned (.int .u64 (dV x d:Nat))∧Below w.heap.size w t:=by
 have K:=aa (rV x d w h l m)
 generalize dV x d=o at*
 clear h l m
 go_enter Tryz.func75,Tryz.ntmps75
 go_wp2_with fail
 refine Calls.mono (uH K) ?_
 rintro e z ⟨rfl,f⟩
 clear K
 go_wp2
 go_ret
 exact⟨rfl,f⟩
def DM(f:Nat→Nat)(k:Nat):List Nat:=4607182418800017408::ib f k
theorem vf(f:Nat→Nat)(k:Nat):(DM f k).length=k+1:=by
 show(ib f k).length+1=_
 rw[eD]
theorem Az(f:Nat→Nat)(k:Nat):DM f (k+1)=DM f k++[f k]:=by
 show 4607182418800017408::ib f (k+1)=(4607182418800017408::ib f k)++[f k]
 rw[iG]
 rfl
theorem jB(fn:Nat)(A:Array Value)(ao:Option Addr)(c:Nat)(J:List Int)(f:Nat→Nat)(w:World)
  (a2:∀D w,(callFunc fn D).run Tryz.prog w=.ok (.enter fn D) w) (hJ:ab w ao c J) (hn:J.length≤64) (hf:∀k,k<J.length→f k<18446744073709551616)
  (t:∀z k,Below w.heap.size w z→k<J.length→Calls Tryz.prog fn (#[.int .u64 (aP J k:Nat)]++A) z fun e ae=>e=.returned (.int .u64 (f k:Nat))∧Below z.heap.size z ae):
  Calls Tryz.prog 71 #[.slice ao J.length c,.func (.func fn) #[] A] w fun e z=>∃bo d,e=.returned (.slice bo (J.length+1:Nat) d)∧bR w.heap.size bo (ar (DM f J.length))∧ab z bo d (ar (DM f J.length))∧Below w.heap.size w z:=by
 obtain⟨i0,av,ax,aI,a0⟩:=info_parts gO
 have HS:=aa t;have HF:=aa hf;have HJ:=aa hJ
 obtain⟨n,O⟩:∃n,J.length=n:=⟨_,rfl⟩
 rw[O]at hn HS HF⊢
 have HN:=aa O
 obtain⟨m,hm⟩:∃m,n+1=m:=⟨_,rfl⟩
 have a3:(1:Int)+(n:Int)=(m:Int):=by omega
 obtain⟨w1,X,G,Y⟩:=run_make_own (P:=Tryz.prog) w w.heap.size 22 30 i0 (.int .u64 0) 1 Tryz.underlying22 av ax aI .i64 .i64 m (by rw[a0];omega) (by unfold maxLen;omega) (by simp)
 have B1:Below w.heap.size w w1:=(Below.refl w.heap.size w).grown Y (by simp) (fun g hg=>by cases hg)
 have O1:bK w.heap.size w1 (.slice (some ⟨w.heap.size,0,none⟩) 0 m) []:=⟨by simpa using G,by intro x hx;cases hx⟩
 generalize Value.slice (some ⟨w.heap.size,0,none⟩) 0 m=v1 at X O1
 obtain⟨v2,w2,H,l,I,_,_⟩:=O1.push 4607182418800017408 (by decide) (by simp) B1.size 22
 have y:=aa (show(Builtin.append_ #[22,22] 22 #[v1,.slice (some ⟨w1.heap.size,0,none⟩) 1 1]).run Tryz.prog (w1.alloc (.cells #[.int .u64 4607182418800017408] 30))=.ok v2 w2 from H)
 have O2:=aa (show bK w.heap.size w2 v2 (DM f 0)from l)
 have T:=aa (B1.trans I)
 clear G Y O1 B1 H l I t hf hJ O
 go_enter Tryz.func71,Tryz.ntmps71
 go_wp2_with(at_builtin;refine aX _ rfl _ _ 22 rfl _ _ _ _ rfl rfl (uH y) ?_;clear y)
 clear X
 go_loopw[5,17] (fun v i wr=>∃k:Nat,k≤n∧i=.int .i64 k∧Hid (bK w.heap.size wr v (DM f k))∧Hid (Below w.heap.size w wr)) (fun _ i _=>n-(intOf i).toNat)
 case atStart=>exact⟨0,Nat.zero_le _,rfl,O2,T⟩
 case round=>
  clear O2 T
  obtain⟨k,hk,rfl,Z,U⟩:=hrel
  by_cases N:k<n
  ·have a4:(k:Int)<(n:Int):=by omega
   obtain⟨b,a5,a1,hb,hc⟩:=((uH HJ).below U.out).ne (by rw[uH HN];omega)
   have aj:=hc k (by rw[uH HN];exact N)
   have C:=aa (fun z h=>uH HS z k h N)
   have ho:=aa (uH HF k N)
   have eo:=aa (show f k=f k from rfl)
   have F:=aa (show(DM f k).length≤1000000 from by rw[vf];omega)
   subst a1
   clear hc
   obtain⟨o,eo⟩:∃o,f k=o:=⟨_,rfl⟩
   rw[eo]at C ho
   have eV:=aa eo
   clear eo
   generalize aP J k=x at*
   go_wp2_with fail
   refine(uH C _ U.out).mono ?_
   rintro e w2 ⟨rfl,Q⟩
   have l:=(uH Z).below Q
   have T:=U.out.trans (Q.mono U.out.size)
   obtain⟨v3,w3,K,L,M,_,_⟩:=l.push o (uH ho) (uH F) T.size 22
   have y:=aa K
   have O3:=aa (show bK w.heap.size w3 v3 (DM f (k+1))from by
    rw[Az,uH eV];exact L)
   have B3:=aa (T.trans M)
   clear Q C Z U l T K L M ho eV F aj
   go_wp2_with(at_builtin;refine aX _ rfl _ _ 22 rfl _ _ _ _ rfl rfl (uH y) ?_;clear y)
   go_round
   case rel=>exact⟨k+1,by omega,by go_num,O3,B3⟩
   case measure=>simp[intOf];omega
  ·have am:k=n:=by omega
   subst am
   obtain⟨b1,d1,e1,q1⟩:=(uH Z).bits
   rw[vf,hm]at e1
   subst e1
   have V:=aa (uH Z).newB
   have Q1:=aa q1
   clear q1 Z
   go_wp2_with fail
   exact bodyPost_ret (v:=.slice b1 m d1) (by simp[results,Tryz.results71,go_sem]) rfl ⟨b1,d1,by rw[hm],uH V,uH Q1,U.out⟩
end Go.Proofs.YtenpggicmfhhdaaGreatDoor
