/- Part 36 of the texts. -/
import Derived.Test.YtnnfjeieennffaaGreatDoorPartc35
set_option maxHeartbeats 8000000
set_option maxRecDepth 20000
namespace Go.Proofs.YtnnfjeieennffaaGreatDoor
def dg(c:Nat)(S:List Nat)(i n q:Nat):List Nat:=(List.range n).map (fun j=>gJ c S (i+j) q)
def Cs(c:Nat)(S:List Nat)(i q:Nat)(vs:List Nat)(tau:Nat):List Nat:=Jt (mV tau (vB 0 vs (dg c S i vs.length q))) vs (dg c S i vs.length q)
def mT(r c:Nat)(S:List Nat)(i k:Nat)(vs:List Nat)(tau:Nat):List Nat:=fu r c (fun p q=>if k≤q∧i≤p∧p<i+vs.length then(Cs c S i q vs tau).getD (p-i) 0 else gJ c S p q)
theorem bh(c:Nat)(S:List Nat)(i n q:Nat):(dg c S i n q).length=n:=by simp[dg]
theorem gL(r c:Nat)(S:List Nat)(i k:Nat)(f:List Nat)(d:Nat):(mT r c S i k f d).length=r*c:=cT _ _ _
theorem JD(t:Nat):∀(d f:List Nat),d.length=f.length→(Jt t d f).length=d.length:=by
 intro d
 induction d with
 |nil=>intro f _;rfl
 |cons v d ih=>
  intro f h
  match f with
  | []=>cases h
  |y::f=>
   show(Jt t d f).length+1=d.length+1
   rw[ih f (by simpa using h)]
theorem Iq(t:Nat):∀(f d:List Nat) (j:Nat),f.length=d.length→j<f.length→(Jt t f d).getD j 0=aV (d.getD j 0) (fN (mV t (f.getD j 0))):=by
 intro f
 induction f with
 |nil=>intro d j _ l;exact absurd l (Nat.not_lt_zero j)
 |cons v f ih=>
  intro d j h l
  match d with
  | []=>cases h
  |y::d=>
   match j with
   |0=>rfl
   |j+1=>exact ih d j (by simpa using h) (by simpa using l)
theorem rg(c:Nat)(S:List Nat)(i n q:Nat){j:Nat}(d:j<n):(dg c S i n q).getD j 0=gJ c S (i+j) q:=by
 simp[dg,List.getD_eq_getElem?_getD,d]
theorem Jv(r c:Nat)(S:List Nat)(i k:Nat)(f:List Nat)(d:Nat){p q:Nat}(h:p<r)(l:q<c):gJ c (mT r c S i k f d) p q=if k≤q∧i≤p∧p<i+f.length then(Cs c S i q f d).getD (p-i) 0 else gJ c S p q:=Gh r c _ h l
theorem vE(L:List Nat):L=(List.range L.length).map (fun j=>L.getD j 0):=by
 refine List.ext_getElem (by simp) (fun j d f=>?_)
 simp[List.getD_eq_getElem?_getD,d]
open Go.RowKit
attribute [local go_sem ↓] Go.wp_at_zero Go.wp_at_succ
structure mz (w wr:World) (g gr p q:Nat) (mo:Option Addr) (mc:Nat) (S:List Nat):Prop where
 bel:Below w.heap.size w wr
 box:aw wr g (.int .i64 p) (.int .i64 q) (.slice mo S.length mc)
 res:aw wr gr (.int .i64 0) (.int .i64 0) (.slice none 0 0)
 bits:ad wr mo mc (az S)
 ne:gr≠g
 lo:w.heap.size≤g
theorem mz.all{w wr w':World}{g f p q:Nat}{l:Option Addr}{m:Nat}{S:List Nat}(h:mz w wr g f p q l m S)(d:Below wr.heap.size wr w'):mz w w' g f p q l m S:=
 ⟨h.bel.trans (d.mono h.bel.size),h.box.all d,h.res.all d,h.bits.below d,h.ne,h.lo⟩
theorem mz.put{w wr:World}{g l p q:Nat}{m:Option Addr}{t:Nat}{S:List Nat}(h:mz w wr g l p q m t S){d:Option Addr}{f:Nat}{T:List Nat}(z:ad wr d f (az T)):
  mz w (((wr.setCell ⟨g,0,none⟩ (.int .i64 p)).setCell ⟨g,1,none⟩ (.int .i64 q)).setCell ⟨g,2,none⟩ (.slice d T.length f)) g l p q d f T:=
 ⟨aA h.bel h.lo _ _ _,h.box.put _ _ _,((h.res.other (p:=⟨g,0,none⟩) h.ne _).other (p:=⟨g,1,none⟩) h.ne _).other (p:=⟨g,2,none⟩) h.ne _,z.putM h.box _ _ _,h.ne,h.lo⟩
theorem bS.any{w:World}{r c:Nat}{S:List Nat}{f:Option Addr}{d:Nat}(h:ad w f d (az S)):bS 0 w r c S (.agg #[.int .i64 r,.int .i64 c,.slice f S.length d]):=by
 refine⟨f,d,rfl,?_,h⟩
 rcases h.2.2 with e|⟨b,l,m,_,_⟩
 ·exact .inl e
 ·exact .inr ⟨b,l,m,Nat.zero_le _⟩
def Ct(n j:Nat):List Nat:=fu n n (fun i k=>if k=i∧i<j then 4607182418800017408 else 0)
theorem Gj(n:Nat):Ct n 0=List.replicate (n*n) 0:=by
 rw[mj]
 exact bC (fun i k _ _=>if_neg (by omega))
theorem Fx(n j:Nat)(d:j<n):(Ct n j).set (j*n+j) 4607182418800017408=Ct n (j+1):=by
 unfold Ct
 rw[iH n n _ _ d d]
 refine bC (fun x y _ _=>?_)
 by_cases h:x=j∧y=j
 ·rw[if_pos h,if_pos (by omega)]
 ·rw[if_neg h]
  by_cases e:y=x∧x<j
  ·rw[if_pos e,if_pos (by omega)]
  ·rw[if_neg e,if_neg (by omega)]
theorem Fy(n:Nat):Ct n n=yT n:=bC (fun i k d _=>by
 by_cases e:k=i
 ·rw[if_pos ⟨e,d⟩,if_pos e]
 ·rw[if_neg (fun h=>e h.1),if_neg e])
theorem Fz(n j:Nat):(Ct n j).length=n*n:=cT _ _ _
theorem Cu(n:Nat)(w:World)(K:n≤6):
  Calls Tryz.prog 42 #[.int .i64 n] w fun e w'=>∃v,e=.returned v∧bS 0 w' n n (yT n) v∧Below w.heap.size w w':=by
 have Z:=aa (fun w'=>oB n n w' K K)
 have b0:=ac w (.cells #[.int .i64 0,.int .i64 0,.slice none 0 0] 24)
 have X0:=aw.new w (.int .i64 0) (.int .i64 0) (.slice none 0 0)
 have s0:=an w (.cells #[.int .i64 0,.int .i64 0,.slice none 0 0] 24)
 have z:=aa b0;have D:=aa X0;have F:=aa s0
 clear b0 X0 s0
 go_enter Tryz.func42,Tryz.ntmps42
 go_wp2_with fail
 refine(uH Z _).mono ?_
 rintro e G ⟨v,rfl,⟨O,U,rfl,nw,qs⟩,f⟩
 have L:=ac G (.cells #[.int .i64 n,.int .i64 n,.slice O (List.replicate (n*n) 0).length U] 24)
 have M:=(uH z).trans (f.mono (uH z).size)
 have L0:=aa (show mz w (G.alloc (.cells #[.int .i64 n,.int .i64 n,.slice O (Ct n 0).length U] 24)) G.heap.size w.heap.size n n O U (Ct n 0)from by
  rw[Gj]
  exact⟨M.trans (L.mono M.size),aw.new G _ _ _,((uH D).all f).all L,qs.below L,by have:=f.size;rw[uH F]at this;omega,M.size⟩)
 rw[←Gj]
 clear Z f L M nw qs z D F
 go_wp2_with fail
 generalize G.heap.size=g at*
 go_loopw[4] (fun i wr=>∃(j:Nat) (m:Option Addr) (t:Nat),j≤n∧i=.int .i64 j∧Hid (mz w wr g w.heap.size n n m t (Ct n j))) (fun i _=>n-(intOf i).toNat)
 case atStart=>exact⟨0,O,U,Nat.zero_le _,rfl,L0⟩
 case round=>
  clear L0
  obtain⟨j,m,t,hj,rfl,d⟩:=hrel
  have y0:=(uH d).box.c0;have y1:=(uH d).box.c1;have y2:=(uH d).box.c2
  by_cases A:j<n
  ·have ae:(j:Int)<(n:Int):=by omega
   have C:=aa (ic n n t j j 4607182418800017408 m (Ct n j) _ ⟨(uH d).bits,Fz n j,K,K⟩ A A (by decide))
   rw[Fx n j A,show((4607182418800017408:Nat):Int)=4607182418800017408 from rfl]at C
   generalize (Ct n j).length=l at*
   go_wp2_with fail
   refine Calls.mono (uH C) ?_
   rintro e w2 ⟨v,rfl,⟨X,Y,rfl,_,q2⟩,H⟩
   have h:=(uH d).all H
   have f0:=h.box.free 0;have f1:=h.box.free 1;have f2:=h.box.free 2
   have u0:=h.box.c0;have u1:=h.box.c1;have u2:=h.box.c2
   have L3:=aa (h.put q2)
   clear C H h d y0 y1 y2 q2
   go_wp2_with fail
   go_round
   case rel=>exact⟨j+1,X,Y,by omega,by go_num,L3⟩
   case measure=>simp[intOf];omega
  ·have V:j=n:=by omega
   subst V
   rw[Fy]at d y2
   have r0:=(uH d).res.c0;have r1:=(uH d).res.c1;have r2:=(uH d).res.c2
   have f0:=(uH d).res.free 0;have f1:=(uH d).res.free 1;have f2:=(uH d).res.free 2
   have N:=(uH d).res.put (.int .i64 j) (.int .i64 j) (.slice m (yT j).length t)
   have z0:=N.c0;have z1:=N.c1;have z2:=N.c2
   have Q:=aa (ad.putM (uH d).bits (uH d).res (.int .i64 j) (.int .i64 j) (.slice m (yT j).length t))
   have BP:=aa (aA (uH d).bel (Nat.le_refl _) (.int .i64 j) (.int .i64 j) (.slice m (yT j).length t))
   clear N d
   go_wp2
   exact bodyPost_ret (v:=.agg #[.int .i64 j,.int .i64 j,.slice m (yT j).length t]) (by simp[results,Tryz.results42,go_sem,z0,z1,z2]) rfl ⟨_,rfl,bS.any (uH Q),uH BP⟩
theorem bL.least{f d:Nat}{w:World}{v:Value}{S:List Nat}(h:bL f w v S)(t:d≤f):bL d w v S:=by
 refine⟨⟨h.1.1,?_⟩,h.2⟩
 rcases h.1.2 with e|⟨g,l,m,z,A,rest⟩
 ·exact .inl e
 ·exact .inr ⟨g,l,m,z,Nat.le_trans t A,rest⟩
theorem bL.putM{d:Nat}{w:World}{v:Value}{S:List Nat}(h:bL d w v S){b:Nat}{x y z:Value}(_hx:aw w b x y z)(F:b<d)(u u' u'':Value):bL d (((w.setCell ⟨b,0,none⟩ u).setCell ⟨b,1,none⟩ u').setCell ⟨b,2,none⟩ u'') v S:=by
 refine⟨⟨h.1.1,?_⟩,h.2⟩
 rcases h.1.2 with e|⟨g,l,m,t,A,D,rest⟩
 ·exact .inl e
 ·refine .inr ⟨g,l,m,t,A,?_,rest⟩
  have f:g≠b:=by omega
  rw[Below.heap_setCell _ ⟨b,2,none⟩ u'' g f,Below.heap_setCell _ ⟨b,1,none⟩ u' g f,Below.heap_setCell _ ⟨b,0,none⟩ u g f]
  exact D
theorem yW(r c:Int)(f:Option Addr)(d:Nat)(I:List Int)(w:World)(h:ad w f d I)(hl:I.length≤17592186043904):
  Calls Tryz.prog 8 #[.agg #[.int .i64 r,.int .i64 c,.slice f I.length d]] w fun e w'=>∃m t,e=.returned (.agg #[.int .i64 r,.int .i64 c,.slice m I.length t])∧bL w.heap.size w' (.slice m I.length t) (df I)∧Below w.heap.size w w':=by
 have U:=ac w (.cells #[.int .i64 r,.int .i64 c,.slice f I.length d] 24)
 have s0:=an w (.cells #[.int .i64 r,.int .i64 c,.slice f I.length d] 24)
 have b1:=ac (w.alloc (.cells #[.int .i64 r,.int .i64 c,.slice f I.length d] 24)) (.cells #[.int .i64 0,.int .i64 0,.slice none 0 0] 24)
 have V:=an (w.alloc (.cells #[.int .i64 r,.int .i64 c,.slice f I.length d] 24)) (.cells #[.int .i64 0,.int .i64 0,.slice none 0 0] 24)
 have bb:=U.trans (b1.mono U.size)
 have A:=h.below bb
 have L:=aa (fun Q=>lI w (.int .i64 r) (.int .i64 c) (.slice f I.length d) (.int .i64 0) (.int .i64 0) (.slice none 0 0) Q)
 rw[s0]at V
 have KC:=aa (fun w' (z:Below (w.heap.size+1+1) ((w.alloc (.cells #[.int .i64 r,.int .i64 c,.slice f I.length d] 24)).alloc (.cells #[.int .i64 0,.int .i64 0,.slice none 0 0] 24)) w') (hz:w'.heap.size=w.heap.size+1+1)=>(show∃m t H,(Builtin.append_ #[22,22] 22 #[.slice (some ⟨w.heap.size+1+1,0,none⟩) 0 0,.slice f I.length d]).run Tryz.prog (w'.alloc (.cells #[] 31))=.ok (.slice m I.length t) H∧(bL (w.heap.size+1+1) H (.slice m I.length t) (df I)∧Below (w.heap.size+1+1) ((w.alloc (.cells #[.int .i64 r,.int .i64 c,.slice f I.length d] 24)).alloc (.cells #[.int .i64 0,.int .i64 0,.slice none 0 0] 24)) H)from by
  have b2:=ac w' (.cells #[] 31)
  have on:=bL.nil w' (w.heap.size+1+1) (by omega)
  have bt:=(A.below (by rw[V];exact z)).below b2
  obtain⟨m,t,Q,M,ae,gr⟩:=qg _ (w.heap.size+1+1) 22 f d I _ bt hl on.1 (by simp;omega)
  rw[hz]at M
  exact⟨m,t,Q,M,ae,z.trans ((b2.mono (by omega)).grown gr (by simp;omega) (fun g hg=>by cases hg;omega))⟩))
 clear U b1 s0 V bb A h
 obtain⟨l,K⟩:∃l,I.length=l:=⟨_,rfl⟩
 have HL:=aa K
 rw[K]at L KC hl⊢
 clear K
 have Z:=aa (fun w' (z:Below (w.heap.size+1+1) ((w.alloc (.cells #[.int .i64 r,.int .i64 c,.slice f l d] 24)).alloc (.cells #[.int .i64 0,.int .i64 0,.slice none 0 0] 24)) w')=>(show w'.cell? ⟨w.heap.size,0,none⟩=some (.int .i64 r)∧w'.cell? ⟨w.heap.size,1,none⟩=some (.int .i64 c)∧w'.cell? ⟨w.heap.size,2,none⟩=some (.slice f l d)from
  ⟨(uH L w' z).2.1.c0,(uH L w' z).2.1.c1,(uH L w' z).2.1.c2⟩))
 have HP:=aa (fun G (u u' u'':Value) (z:Below (w.heap.size+1+1) ((w.alloc (.cells #[.int .i64 r,.int .i64 c,.slice f l d] 24)).alloc (.cells #[.int .i64 0,.int .i64 0,.slice none 0 0] 24)) G)=>(show(((G.setCell ⟨w.heap.size+1,0,none⟩ u).setCell ⟨w.heap.size+1,1,none⟩ u').setCell ⟨w.heap.size+1,2,none⟩ u'').cell? ⟨w.heap.size,0,none⟩=some (.int .i64 r)∧(((G.setCell ⟨w.heap.size+1,0,none⟩ u).setCell ⟨w.heap.size+1,1,none⟩ u').setCell ⟨w.heap.size+1,2,none⟩ u'').cell? ⟨w.heap.size,1,none⟩=some (.int .i64 c)∧(((G.setCell ⟨w.heap.size+1,0,none⟩ u).setCell ⟨w.heap.size+1,1,none⟩ u').setCell ⟨w.heap.size+1,2,none⟩ u'').cell? ⟨w.heap.size,2,none⟩=some (.slice f l d)from by
  have X:=(uH L G z).2.1
  have Y:=((X.other (p:=⟨w.heap.size+1,0,none⟩) (by show w.heap.size≠w.heap.size+1;omega) u).other (p:=⟨w.heap.size+1,1,none⟩) (by show w.heap.size≠w.heap.size+1;omega) u').other (p:=⟨w.heap.size+1,2,none⟩) (by show w.heap.size≠w.heap.size+1;omega) u''
  exact⟨Y.c0,Y.c1,Y.c2⟩))
 go_enter Tryz.func8,Tryz.ntmps8
 go_wp2_with fail
 go_region_held3(fun w'=>w'.cell? ⟨w.heap.size,0,none⟩=some (.int .i64 r)∧w'.cell? ⟨w.heap.size,1,none⟩=some (.int .i64 c)∧w'.cell? ⟨w.heap.size,2,none⟩=some (.slice f l d))
  (first|exact uH Z _ (Below.refl _ _).drew|exact uH Z _ (by assumption)|exact uH Z _ ((Below.refl _ _).drew.alloc (by simp) _)|exact uH HP _ _ _ _ (by assumption)|fail "KK")
  (first|(refine oC _ (by rfl) _ _ 22 (by rfl) _ _ _ _ (by rfl) (by rfl) (uH KC _ (Below.refl _ _).drew (by first|rfl|simp)) ?_;rintro m t G ⟨F,N⟩;obtain⟨B5,A5,D⟩:=uH L G N;have u0:=D.c0;have u1:=D.c1;have u2:=D.c2;have f0:=D.free 0;have f1:=D.free 1;have f2:=D.free 2;have HO:=aa F;have HB:=aa B5;have HX:=aa D;clear F A5 D B5)|fail "NO ARM")
 all_goals
  have O:=(uH HX).put (.int .i64 r) (.int .i64 c) (.slice m l t)
  have z0:=O.c0;have z1:=O.c1;have z2:=O.c2
  have OP:=aa ((uH HO).putM (uH HX) (by omega) (.int .i64 r) (.int .i64 c) (.slice m l t))
  have BP:=aa (aA (uH HB) (b:=w.heap.size+1) (by omega) (.int .i64 r) (.int .i64 c) (.slice m l t))
  clear O HX HO HB
  go_wp2
  exact bodyPost_ret (v:=.agg #[.int .i64 r,.int .i64 c,.slice m l t]) (by simp[results,Tryz.results8,go_sem,z0,z1,z2]) rfl ⟨m,t,rfl,(uH OP).least (by omega),uH BP⟩
theorem aw.away{w:World}{g b k:Nat}{x y:Int}{a:Option Addr}{n d:Nat}{z:Int}(h:aw w b (.int .i64 x) (.int .i64 y) (.slice a n d))(f:w.cell? ⟨g,k,none⟩=some (.int .u64 z)):b≠g:=by
 rintro rfl
 rw[cell_of_row w b k _ _ _ h]at f
 rcases(show k=0∨k=1∨k=2∨3≤k by omega)with e|e|e|e
 ·subst e;simp at f
 ·subst e;simp at f
 ·subst e;simp at f
 ·rw[Array.getElem?_eq_none (by simp;omega)]at f;simp at f
theorem yX(M N:Option Addr)(c d:Nat)(I J:List Int)(w:World)(O:ad w M c I)(Q:ad w N d J)(G:I.length=J.length)(hn:I.length≤35184372088830):
  Calls Tryz.prog 87 #[.slice M I.length c,.slice N J.length d] w fun e w'=>e=.returned (.int .u64 (jH I J I.length:Nat))∧Below w.heap.size w w':=by
 have U:=aa O;have V:=aa Q
 obtain⟨n,f⟩:∃n,I.length=n:=⟨_,rfl⟩
 rw[←G,f]
 rw[f]at hn G
 have X:=aa f;have Y:=aa G.symm
 clear O Q f G
 go_enter Tryz.func87,Tryz.ntmps87
 go_wp2_with fail
 go_loopw[5,6] (fun t i wr=>∃k:Nat,k≤n∧i=.int .i64 k∧t=.int .u64 (jH I J k:Nat)∧Hid (Below w.heap.size w wr)) (fun _ i _=>n-(intOf i).toNat)
 case atStart=>exact⟨0,Nat.zero_le _,rfl,rfl,Below.refl _ _⟩
 case round=>
  obtain⟨k,hk,rfl,rfl,m⟩:=hrel
  by_cases l:k<n
  ·have ae:(k:Int)<(n:Int):=by omega
   obtain⟨b1,o1,K,ax,z⟩:=((uH U).below m.out).ne (by rw[uH X];omega)
   obtain⟨b2,o2,L,aI,A⟩:=((uH V).below m.out).ne (by rw[uH Y];omega)
   have Z:=z k (by rw[uH X];exact l)
   have cy:=A k (by rw[uH Y];exact l)
   have C1:=aa (fun w'=>jo (aL I k) (aL J k) w' ((uH U).lt k) ((uH V).lt k))
   have C2:=aa (fun w'=>qe (jH I J k) (mV (aL I k) (aL J k)) w' (iF I J k) (iZ _ _))
   have eV:Hid (jH I J (k+1)=aV (jH I J k) (mV (aL I k) (aL J k))):=rfl
   subst K
   subst L
   clear z A
   generalize aV (jH I J k) (mV (aL I k) (aL J k))=o at*
   generalize mV (aL I k) (aL J k)=p at*
   generalize aL I k=x at*
   generalize aL J k=y at*
   generalize jH I J k=s at*
   have HK:=aa (fun w' (h:Below wr.heap.size wr w')=>(show Below wr.heap.size wr w'∧w'.cell? ⟨b1,o1+k,none⟩=some (.int .u64 (x:Nat))∧w'.cell? ⟨b2,o2+k,none⟩=some (.int .u64 (y:Nat))from⟨h,ai Z h,ai cy h⟩))
   clear Z cy
   go_wp2_with fail
   go_region_held3(fun w'=>Below wr.heap.size wr w'∧w'.cell? ⟨b1,o1+k,none⟩=some (.int .u64 (x:Nat))∧w'.cell? ⟨b2,o2+k,none⟩=some (.int .u64 (y:Nat)))
    (first|exact uH HK _ (Below.refl _ _).drew|exact uH HK _ (by assumption)|fail "KK")
    (first|(go_at_call 86;refine(uH C1 _).mono ?_;rintro e w1 ⟨rfl,D⟩;have aj:Below wr.heap.size wr w1:=Below.trans (And.left (by assumption)) (D.mono (Below.size (And.left (by assumption))));clear D)|(go_at_call 126;refine(uH C2 _).mono ?_;rintro e w2 ⟨rfl,F⟩;have am:Below wr.heap.size wr w2:=Below.trans (And.left (by assumption)) (F.mono (Below.size (And.left (by assumption))));clear F)|fail "NO ARM")
   have B2:Hid (Below w.heap.size w _):=m.out.trans (Below.mono (And.left (by assumption)) m.out.size)
   go_wp2_with fail
   go_round
   case rel=>exact⟨k+1,by omega,by go_num,by rw[eV.out],B2⟩
   case measure=>simp[intOf];omega
  ·have H:k=n:=by omega
   subst H
   go_wp2_with fail
   exact bodyPost_ret (v:=.int .u64 (jH I J k:Nat)) (by simp[results,Tryz.results87,go_sem]) rfl ⟨rfl,m.out⟩
end Go.Proofs.YtnnfjeieennffaaGreatDoor
