/- Part 34 of the texts. -/
import Derived.Test.YtlnphkioddknfaaGreatDoorParty33
set_option maxHeartbeats 8000000
set_option maxRecDepth 20000
namespace Go.Proofs.YtlnphkioddknfaaGreatDoor
def eG(c:Nat)(S:List Nat)(i n q:Nat):List Nat:=(List.range n).map (fun j=>bB c S (i+j) q)
def Dd(c:Nat)(S:List Nat)(i q:Nat)(vs:List Nat)(tau:Nat):List Nat:=Je (mV tau (u9 0 vs (eG c S i vs.length q))) vs (eG c S i vs.length q)
def ot(r c:Nat)(S:List Nat)(i k:Nat)(vs:List Nat)(tau:Nat):List Nat:=bW r c (fun p q=>if k≤q∧i≤p∧p<i+vs.length then(Dd c S i q vs tau).getD (p-i) 0 else bB c S p q)
theorem bV(c:Nat)(S:List Nat)(i n q:Nat):(eG c S i n q).length=n:=by simp[eG]
theorem gP(r c:Nat)(S:List Nat)(i k:Nat)(f:List Nat)(d:Nat):(ot r c S i k f d).length=r*c:=bg _ _ _
theorem JC(t:Nat):∀(d f:List Nat),d.length=f.length→(Je t d f).length=d.length:=by
 intro d
 induction d with
 |nil=>intro f _;rfl
 |cons v d ih=>
  intro f h
  match f with
  | []=>cases h
  |y::f=>
   show(Je t d f).length+1=d.length+1
   rw[ih f (by simpa using h)]
theorem It(t:Nat):∀(f d:List Nat) (j:Nat),f.length=d.length→j<f.length→(Je t f d).getD j 0=aV (d.getD j 0) (fN (mV t (f.getD j 0))):=by
 intro f
 induction f with
 |nil=>intro d j _ l;exact absurd l (Nat.not_lt_zero j)
 |cons v f ih=>
  intro d j h l
  match d with
  | []=>cases h
  |y::d=>
   match j with
   |0=>rfl
   |j+1=>exact ih d j (by simpa using h) (by simpa using l)
theorem q9(c:Nat)(S:List Nat)(i n q:Nat){j:Nat}(d:j<n):(eG c S i n q).getD j 0=bB c S (i+j) q:=by
 simp[eG,List.getD_eq_getElem?_getD,d]
theorem Jq(r c:Nat)(S:List Nat)(i k:Nat)(f:List Nat)(d:Nat){p q:Nat}(h:p<r)(l:q<c):bB c (ot r c S i k f d) p q=if k≤q∧i≤p∧p<i+f.length then(Dd c S i q f d).getD (p-i) 0 else bB c S p q:=Cs r c _ h l
theorem vH(L:List Nat):L=(List.range L.length).map (fun j=>L.getD j 0):=by
 refine List.ext_getElem (by simp) (fun j d f=>?_)
 simp[List.getD_eq_getElem?_getD,d]
open Go.RowKit
attribute [local go_sem ↓] Go.wp_at_zero Go.wp_at_succ
structure iA (w wr:World) (g gr p q:Nat) (mo:Option Addr) (mc:Nat) (S:List Nat):Prop where
 bel:Below w.heap.size w wr
 box:aq wr g (.int .i64 p) (.int .i64 q) (.slice mo S.length mc)
 res:aq wr gr (.int .i64 0) (.int .i64 0) (.slice none 0 0)
 bits:ac wr mo mc (ar S)
 ne:gr≠g
 lo:w.heap.size≤g
theorem iA.all{w wr f:World}{g l p q:Nat}{m:Option Addr}{t:Nat}{S:List Nat}(h:iA w wr g l p q m t S)(d:Below wr.heap.size wr f):iA w f g l p q m t S:=
 ⟨h.bel.trans (d.mono h.bel.size),h.box.all d,h.res.all d,h.bits.below d,h.ne,h.lo⟩
theorem iA.put{w wr:World}{g l p q:Nat}{m:Option Addr}{t:Nat}{S:List Nat}(h:iA w wr g l p q m t S){d:Option Addr}{f:Nat}{T:List Nat}(y:ac wr d f (ar T)):
  iA w (((wr.setCell ⟨g,0,none⟩ (.int .i64 p)).setCell ⟨g,1,none⟩ (.int .i64 q)).setCell ⟨g,2,none⟩ (.slice d T.length f)) g l p q d f T:=
 ⟨ai h.bel h.lo _ _ _,h.box.put _ _ _,((h.res.other (p:=⟨g,0,none⟩) h.ne _).other (p:=⟨g,1,none⟩) h.ne _).other (p:=⟨g,2,none⟩) h.ne _,y.putM h.box _ _ _,h.ne,h.lo⟩
theorem aS.any{w:World}{r c:Nat}{S:List Nat}{ao:Option Addr}{cap:Nat}(h:ac w ao cap (ar S)):aS 0 w r c S (.agg #[.int .i64 r,.int .i64 c,.slice ao S.length cap]):=by
 refine⟨ao,cap,rfl,?_,h⟩
 rcases h.2.2 with e|⟨b,d,f,_,_⟩
 ·exact .inl e
 ·exact .inr ⟨b,d,f,Nat.zero_le _⟩
def De(n j:Nat):List Nat:=bW n n (fun i k=>if k=i∧i<j then 4607182418800017408 else 0)
theorem Gv(n:Nat):De n 0=List.replicate (n*n) 0:=by
 rw[gL]
 exact aX (fun i k _ _=>if_neg (by omega))
theorem FT(n j:Nat)(d:j<n):(De n j).set (j*n+j) 4607182418800017408=De n (j+1):=by
 unfold De
 rw[iR n n _ _ d d]
 refine aX (fun x y _ _=>?_)
 by_cases h:x=j∧y=j
 ·rw[if_pos h,if_pos (by omega)]
 ·rw[if_neg h]
  by_cases e:y=x∧x<j
  ·rw[if_pos e,if_pos (by omega)]
  ·rw[if_neg e,if_neg (by omega)]
theorem FU(n:Nat):De n n=Ct n:=aX (fun i k d _=>by
 by_cases e:k=i
 ·rw[if_pos ⟨e,d⟩,if_pos e]
 ·rw[if_neg (fun h=>e h.1),if_neg e])
theorem FW(n j:Nat):(De n j).length=n*n:=bg _ _ _
theorem Df(n:Nat)(w:World)(H:n≤6):
  Calls Tryz.prog 25 #[.int .i64 n] w fun e I=>∃v,e=.returned v∧aS 0 I n n (Ct n) v∧Below w.heap.size w I:=by
 have Y:=aa (fun I=>gA n n I H H)
 have Z:=ab w (.cells #[.int .i64 0,.int .i64 0,.slice none 0 0] 24)
 have X0:=aq.new w (.int .i64 0) (.int .i64 0) (.slice none 0 0)
 have s0:=ad w (.cells #[.int .i64 0,.int .i64 0,.slice none 0 0] 24)
 have y:=aa Z;have A:=aa X0;have D:=aa s0
 clear Z X0 s0
 go_enter Tryz.func25,Tryz.ntmps25
 go_wp2_with fail
 refine(uH Y _).mono ?_
 rintro e F ⟨v,rfl,⟨N,O,rfl,nw,qs⟩,f⟩
 have K:=ab F (.cells #[.int .i64 n,.int .i64 n,.slice N (List.replicate (n*n) 0).length O] 24)
 have L:=(uH y).trans (f.mono (uH y).size)
 have L0:=aa (show iA w (F.alloc (.cells #[.int .i64 n,.int .i64 n,.slice N (De n 0).length O] 24)) F.heap.size w.heap.size n n N O (De n 0)from by
  rw[Gv]
  exact⟨L.trans (K.mono L.size),aq.new F _ _ _,((uH A).all f).all K,qs.below K,by have:=f.size;rw[uH D]at this;omega,L.size⟩)
 rw[←Gv]
 clear Y f K L nw qs y A D
 go_wp2_with fail
 generalize F.heap.size=g at*
 go_loopw[4] (fun i wr=>∃(j:Nat) (m:Option Addr) (t:Nat),j≤n∧i=.int .i64 j∧Hid (iA w wr g w.heap.size n n m t (De n j))) (fun i _=>n-(intOf i).toNat)
 case atStart=>exact⟨0,N,O,Nat.zero_le _,rfl,L0⟩
 case round=>
  clear L0
  obtain⟨j,m,t,hj,rfl,d⟩:=hrel
  have y0:=(uH d).box.c0;have y1:=(uH d).box.c1;have y2:=(uH d).box.c2
  by_cases z:j<n
  ·have ae:(j:Int)<(n:Int):=by omega
   have C:=aa (ef n n t j j 4607182418800017408 m (De n j) _ ⟨(uH d).bits,FW n j,H,H⟩ z z (by decide))
   rw[FT n j z,show((4607182418800017408:Nat):Int)=4607182418800017408 from rfl]at C
   generalize (De n j).length=l at*
   go_wp2_with fail
   refine Calls.mono (uH C) ?_
   rintro e w2 ⟨v,rfl,⟨V,X,rfl,_,q2⟩,G⟩
   have h:=(uH d).all G
   have f0:=h.box.free 0;have f1:=h.box.free 1;have f2:=h.box.free 2
   have u0:=h.box.c0;have u1:=h.box.c1;have u2:=h.box.c2
   have L3:=aa (h.put q2)
   clear C G h d y0 y1 y2 q2
   go_wp2_with fail
   go_round
   case rel=>exact⟨j+1,V,X,by omega,by go_num,L3⟩
   case measure=>simp[intOf];omega
  ·have U:j=n:=by omega
   subst U
   rw[FU]at d y2
   have r0:=(uH d).res.c0;have r1:=(uH d).res.c1;have r2:=(uH d).res.c2
   have f0:=(uH d).res.free 0;have f1:=(uH d).res.free 1;have f2:=(uH d).res.free 2
   have M:=(uH d).res.put (.int .i64 j) (.int .i64 j) (.slice m (Ct j).length t)
   have z0:=M.c0;have z1:=M.c1;have z2:=M.c2
   have Q:=aa (ac.putM (uH d).bits (uH d).res (.int .i64 j) (.int .i64 j) (.slice m (Ct j).length t))
   have BP:=aa (ai (uH d).bel (Nat.le_refl _) (.int .i64 j) (.int .i64 j) (.slice m (Ct j).length t))
   clear M d
   go_wp2
   exact bodyPost_ret (v:=.agg #[.int .i64 j,.int .i64 j,.slice m (Ct j).length t]) (by simp[results,Tryz.results25,go_sem,z0,z1,z2]) rfl ⟨_,rfl,aS.any (uH Q),uH BP⟩
theorem zc(r c cap:Nat)(ao:Option Addr)(S:List Nat)(w:World)(h:Mx w ao cap r c S):
  Calls Tryz.prog 28 #[.agg #[.int .i64 r,.int .i64 c,.slice ao S.length cap]] w fun e D=>∃v,e=.returned v∧aS 0 D c r (bW c r (fun k i=>bB c S i k)) v∧Below w.heap.size w D:=by
 have HH:=aa h
 have a6:=h.2.2.1;have a7:=h.2.2.2
 have K1:=aa (fun D=>gA c r D (by omega) (by omega))
 have b0:=ab w (.cells #[.int .i64 r,.int .i64 c,.slice ao S.length cap] 24)
 have b1:=ab (w.alloc (.cells #[.int .i64 r,.int .i64 c,.slice ao S.length cap] 24)) (.cells #[.int .i64 0,.int .i64 0,.slice none 0 0] 24)
 have s0:=ad w (.cells #[.int .i64 r,.int .i64 c,.slice ao S.length cap] 24)
 have s1:=ad (w.alloc (.cells #[.int .i64 r,.int .i64 c,.slice ao S.length cap] 24)) (.cells #[.int .i64 0,.int .i64 0,.slice none 0 0] 24)
 have X0:=aq.new w (.int .i64 r) (.int .i64 c) (.slice ao S.length cap)
 have X1:=aq.new (w.alloc (.cells #[.int .i64 r,.int .i64 c,.slice ao S.length cap] 24)) (.int .i64 0) (.int .i64 0) (.slice none 0 0)
 have M:=aa (X0.all b1)
 rw[s0]at X1
 have N:=aa X1
 have F:=aa (b0.trans (b1.mono b0.size))
 have G:=aa (s1.trans (by rw[s0]))
 have HL:=aa h.2.1
 obtain⟨l,hl⟩:∃l,S.length=l:=⟨_,rfl⟩
 rw[hl]at M N F G
 rw[hl]
 have aI:=aa hl
 obtain⟨f,hf⟩:∃f:Nat→Nat→Nat,f=(fun k i=>bB c S i k):=⟨_,rfl⟩
 rw[←hf]
 have HF:=aa hf
 clear b0 b1 s0 s1 X0 X1 h hl hf
 go_enter Tryz.func28,Tryz.ntmps28
 go_wp2_with fail
 refine(uH K1 _).mono ?_
 rintro e V ⟨v,rfl,⟨mo,mc,rfl,nw,qs⟩,A⟩
 have ba:=ab V (.cells #[.int .i64 c,.int .i64 r,.slice mo (List.replicate (c*r) 0).length mc] 24)
 have BB:=(uH F).trans (A.mono (uH F).size)
 have L0:=aa (show iA w (V.alloc (.cells #[.int .i64 c,.int .i64 r,.slice mo (bW c r (o9 f 0 0)).length mc] 24)) V.heap.size (w.heap.size+1) c r mo mc (bW c r (o9 f 0 0))from by
  rw[Cq]
  exact⟨BB.trans (ba.mono BB.size),aq.new V _ _ _,((uH N).all A).all ba,qs.below ba,by have:=A.size;rw[uH G]at this;omega,BB.size⟩)
 have A0:=aa (show aq (V.alloc (.cells #[.int .i64 c,.int .i64 r,.slice mo (bW c r (o9 f 0 0)).length mc] 24)) w.heap.size (.int .i64 r) (.int .i64 c) (.slice ao l cap)from by
  rw[Cq]
  exact((uH M).all A).all ba)
 have NE:=aa (show w.heap.size≠V.heap.size from by have:=A.size;rw[uH G]at this;omega)
 rw[←Cq c r f]
 clear K1 A ba BB nw qs F M N G
 have H:=(uH A0).c0;have I:=(uH A0).c1;have K:=(uH A0).c2
 go_wp2_with fail
 generalize V.heap.size=g at*
 go_loopw[4] (fun i wr=>∃(j:Nat) (t:Option Addr) (y:Nat),j≤r∧i=.int .i64 j∧Hid (iA w wr g (w.heap.size+1) c r t y (bW c r (o9 f j 0)))∧Hid (aq wr w.heap.size (.int .i64 r) (.int .i64 c) (.slice ao l cap))) (fun i _=>r-(intOf i).toNat)
 case atStart=>exact⟨0,mo,mc,Nat.zero_le _,rfl,L0,A0⟩
 case round=>
  clear L0 A0 H I K
  obtain⟨j,t,y,hj,rfl,d,z⟩:=hrel
  by_cases a0:j<r
  ·have a9:(j:Int)<(r:Int):=by omega
   have H:=(uH z).c0;have I:=(uH z).c1;have K:=(uH z).c2
   go_wp2_with fail
   go_loopw[5] (fun i wr=>∃(k:Nat) (t:Option Addr) (y:Nat),k≤c∧i=.int .i64 k∧Hid (iA w wr g (w.heap.size+1) c r t y (bW c r (o9 f j k)))∧Hid (aq wr w.heap.size (.int .i64 r) (.int .i64 c) (.slice ao l cap))) (fun i _=>c-(intOf i).toNat)
   case atStart=>exact⟨0,t,y,Nat.zero_le _,rfl,d,z⟩
   case round=>
    clear d z H I K t y
    obtain⟨k,t,y,hk,rfl,d,z⟩:=hrel
    have H:=(uH z).c0;have I:=(uH z).c1;have K:=(uH z).c2
    by_cases a1:k<c
    ·have bb:(k:Int)<(c:Int):=by omega
     have Y:=(uH d).box.c0;have Z:=(uH d).box.c1;have y2:=(uH d).box.c2
     have C1:=aa (fun D (m:Mx D ao cap r c S)=>fW r c cap j k ao S D m (by omega) (by omega))
     have C2:=aa (fun D t y (m:Mx D t y c r (bW c r (o9 f j k)))=>ef c r y k j (f k j) t (bW c r (o9 f j k)) D m (by omega) (by omega) (by rw[uH HF];exact(uH HH).el_lt _ _))
     rw[Cr c r f a0 a1]at C2
     rw[uH aI,show bB c S j k=f k j from by rw[uH HF]]at C1
     have HM:=aa ((uH HH).below (uH d).bel)
     have HP:=aa (show(bW c r (o9 f j k)).length=c*r from bg _ _ _)
     generalize f k j=x at*
     generalize bW c r (o9 f j k)=T at*
     generalize ax:bW c r (o9 f j (k+1))=T2 at*
     have a2:=aa ax
     clear ax
     go_wp2_with fail
     go_region_with (first|(go_at_call 42;refine(uH C1 _ (by exact uH HM)).mono ?_;rintro e w4 ⟨rfl,aj⟩;have O:Below wr.heap.size wr w4:=((Below.refl wr.heap.size wr).drew).trans aj;clear aj H I K Y Z y2;have L4:=(uH d).all O;have A4:=(uH z).all O;have H:=A4.c0;have I:=A4.c1;have K:=A4.c2;have Y:=L4.box.c0;have Z:=L4.box.c1;have y2:=L4.box.c2;have U:=aa L4;have ae:=aa A4;clear O L4 A4)|(go_at_call 51;refine(uH C2 _ _ _ ⟨(uH U).bits,uH HP,by omega,by omega⟩).mono ?_;rintro e w5 ⟨v,rfl,⟨ak,am,rfl,_,q5⟩,X⟩;clear H I K Y Z y2;have L:=(uH U).all X;have A5:=(uH ae).all X;have Y:=L.box.c0;have Z:=L.box.c1;have y2:=L.box.c2;have f0:=L.box.free 0;have f1:=L.box.free 1;have f2:=L.box.free 2;have L6:=aa (L.put q5);have A6:=aa (((A5.other (p:=⟨g,0,none⟩) (uH NE) (.int .i64 c)).other (p:=⟨g,1,none⟩) (uH NE) (.int .i64 r)).other (p:=⟨g,2,none⟩) (uH NE) (.slice ak T2.length am));clear X L A5 q5 U ae)|fail "NO ARM")
     all_goals
      clear d z HM C1 C2 Y Z y2 f0 f1 f2
      go_wp2_with fail
      go_round
      case rel=>exact⟨k+1,ak,am,by omega,by go_num,by rw[uH a2];exact L6,A6⟩
      case measure=>simp[intOf];omega
    ·have a3:c=k:=by omega
     subst a3
     have a4:=aa (show iA w _ g (w.heap.size+1) c r t y (bW c r (o9 f (j+1) 0))from by rw[←FC c r f j];exact uH d)
     clear d
     go_wp2_with fail
     go_round
     case rel=>exact⟨j+1,t,y,by omega,by go_num,a4,z⟩
     case measure=>simp[intOf];omega
  ·have a5:r=j:=by omega
   subst a5
   rw[FG]at d
   have H:=(uH z).c0;have I:=(uH z).c1;have K:=(uH z).c2
   have Y:=(uH d).box.c0;have Z:=(uH d).box.c1;have y2:=(uH d).box.c2
   have r0:=(uH d).res.c0;have r1:=(uH d).res.c1;have r2:=(uH d).res.c2
   have f0:=(uH d).res.free 0;have f1:=(uH d).res.free 1;have f2:=(uH d).res.free 2
   have XP:=(uH d).res.put (.int .i64 c) (.int .i64 r) (.slice t (bW c r f).length y)
   have z0:=XP.c0;have z1:=XP.c1;have z2:=XP.c2
   have Q:=aa (ac.putM (uH d).bits (uH d).res (.int .i64 c) (.int .i64 r) (.slice t (bW c r f).length y))
   have BP:=aa (ai (uH d).bel (b:=w.heap.size+1) (by omega) (.int .i64 c) (.int .i64 r) (.slice t (bW c r f).length y))
   clear XP d
   go_wp2
   exact bodyPost_ret (v:=.agg #[.int .i64 c,.int .i64 r,.slice t (bW c r f).length y]) (by simp[results,Tryz.results28,go_sem,z0,z1,z2]) rfl ⟨_,rfl,aS.any (uH Q),uH BP⟩
theorem p7(r c cap i G a b:Nat)(ao:Option Addr)(S:List Nat)(w:World)(h:Mx w ao cap r c S)(a6:i+a≤r)(a7:G+b≤c):
  Calls Tryz.prog 128 #[.agg #[.int .i64 r,.int .i64 c,.slice ao S.length cap],.int .i64 i,.int .i64 G,.int .i64 a,.int .i64 b] w fun e F=>∃v,e=.returned v∧aS 0 F a b (bW a b (fun x y=>bB c S (i+x) (G+y))) v∧Below w.heap.size w F:=by
 have HH:=aa h
 have a9:=h.2.2.1;have bb:=h.2.2.2
 have K1:=aa (fun F=>gA a b F (by omega) (by omega))
 have b0:=ab w (.cells #[.int .i64 r,.int .i64 c,.slice ao S.length cap] 24)
 have b1:=ab (w.alloc (.cells #[.int .i64 r,.int .i64 c,.slice ao S.length cap] 24)) (.cells #[.int .i64 0,.int .i64 0,.slice none 0 0] 24)
 have s0:=ad w (.cells #[.int .i64 r,.int .i64 c,.slice ao S.length cap] 24)
 have s1:=ad (w.alloc (.cells #[.int .i64 r,.int .i64 c,.slice ao S.length cap] 24)) (.cells #[.int .i64 0,.int .i64 0,.slice none 0 0] 24)
 have X0:=aq.new w (.int .i64 r) (.int .i64 c) (.slice ao S.length cap)
 have X1:=aq.new (w.alloc (.cells #[.int .i64 r,.int .i64 c,.slice ao S.length cap] 24)) (.int .i64 0) (.int .i64 0) (.slice none 0 0)
 have O:=aa (X0.all b1)
 rw[s0]at X1
 have U:=aa X1
 have H:=aa (b0.trans (b1.mono b0.size))
 have I:=aa (s1.trans (by rw[s0]))
 have HL:=aa h.2.1
 obtain⟨l,hl⟩:∃l,S.length=l:=⟨_,rfl⟩
 rw[hl]at O U H I
 rw[hl]
 have aI:=aa hl
 obtain⟨f,hf⟩:∃f:Nat→Nat→Nat,f=(fun x y=>bB c S (i+x) (G+y)):=⟨_,rfl⟩
 rw[←hf]
 have HF:=aa hf
 clear b0 b1 s0 s1 X0 X1 h hl hf
 go_enter Tryz.func128,Tryz.ntmps128
 go_wp2_with fail
 refine(uH K1 _).mono ?_
 rintro e Y ⟨v,rfl,⟨mo,mc,rfl,nw,qs⟩,D⟩
 have ba:=ab Y (.cells #[.int .i64 a,.int .i64 b,.slice mo (List.replicate (a*b) 0).length mc] 24)
 have BB:=(uH H).trans (D.mono (uH H).size)
 have L0:=aa (show iA w (Y.alloc (.cells #[.int .i64 a,.int .i64 b,.slice mo (bW a b (jM f 0 0)).length mc] 24)) Y.heap.size (w.heap.size+1) a b mo mc (bW a b (jM f 0 0))from by
  rw[oh]
  exact⟨BB.trans (ba.mono BB.size),aq.new Y _ _ _,((uH U).all D).all ba,qs.below ba,by have:=D.size;rw[uH I]at this;omega,BB.size⟩)
 have A0:=aa (show aq (Y.alloc (.cells #[.int .i64 a,.int .i64 b,.slice mo (bW a b (jM f 0 0)).length mc] 24)) w.heap.size (.int .i64 r) (.int .i64 c) (.slice ao l cap)from by
  rw[oh]
  exact((uH O).all D).all ba)
 have NE:=aa (show w.heap.size≠Y.heap.size from by have:=D.size;rw[uH I]at this;omega)
 rw[←oh a b f]
 clear K1 D ba BB nw qs H O U I
 have K:=(uH A0).c0;have L:=(uH A0).c1;have M:=(uH A0).c2
 go_wp2_with fail
 generalize Y.heap.size=g at*
 go_loopw[12] (fun i wr=>∃(j:Nat) (t:Option Addr) (z:Nat),j≤a∧i=.int .i64 j∧Hid (iA w wr g (w.heap.size+1) a b t z (bW a b (jM f j 0)))∧Hid (aq wr w.heap.size (.int .i64 r) (.int .i64 c) (.slice ao l cap))) (fun i _=>a-(intOf i).toNat)
 case atStart=>exact⟨0,mo,mc,Nat.zero_le _,rfl,L0,A0⟩
 case round=>
  clear L0 A0 K L M
  obtain⟨j,t,z,hj,rfl,d,A⟩:=hrel
  by_cases a0:j<a
  ·have bc:(j:Int)<(a:Int):=by omega
   have K:=(uH A).c0;have L:=(uH A).c1;have M:=(uH A).c2
   go_wp2_with fail
   go_loopw[13] (fun i wr=>∃(k:Nat) (t:Option Addr) (z:Nat),k≤b∧i=.int .i64 k∧Hid (iA w wr g (w.heap.size+1) a b t z (bW a b (jM f j k)))∧Hid (aq wr w.heap.size (.int .i64 r) (.int .i64 c) (.slice ao l cap))) (fun i _=>b-(intOf i).toNat)
   case atStart=>exact⟨0,t,z,Nat.zero_le _,rfl,d,A⟩
   case round=>
    clear d A K L M t z
    obtain⟨k,t,z,hk,rfl,d,A⟩:=hrel
    have K:=(uH A).c0;have L:=(uH A).c1;have M:=(uH A).c2
    by_cases a1:k<b
    ·have be:(k:Int)<(b:Int):=by omega
     have y0:=(uH d).box.c0;have y1:=(uH d).box.c1;have y2:=(uH d).box.c2
     have C1:=aa (fun F (m:Mx F ao cap r c S)=>fW r c cap (i+j) (G+k) ao S F m (by omega) (by omega))
     have C2:=aa (fun F t z (m:Mx F t z a b (bW a b (jM f j k)))=>ef a b z j k (f j k) t (bW a b (jM f j k)) F m (by omega) (by omega) (by rw[uH HF];exact(uH HH).el_lt _ _))
     rw[tl a b f a0 a1]at C2
     rw[uH aI,show((i+j:Nat):Int)=(i:Int)+(j:Int)from by simp,show((G+k:Nat):Int)=(G:Int)+(k:Int)from by simp,show bB c S (i+j) (G+k)=f j k from by rw[uH HF]]at C1
     have HM:=aa ((uH HH).below (uH d).bel)
     have HP:=aa (show(bW a b (jM f j k)).length=a*b from bg _ _ _)
     generalize f j k=x at*
     generalize bW a b (jM f j k)=T at*
     generalize ax:bW a b (jM f j (k+1))=T2 at*
     have a2:=aa ax
     clear ax
     have e1:=aW ((i:Int)+(j:Int)) (by omega)
     have e2:=aW ((G:Int)+(k:Int)) (by omega)
     go_wp2_with fail
     go_region_with (first|(go_at_call 42;refine(uH C1 _ (by exact uH HM)).mono ?_;rintro e w4 ⟨rfl,aj⟩;have V:Below wr.heap.size wr w4:=((Below.refl wr.heap.size wr).drew).trans aj;clear aj K L M y0 y1 y2;have L4:=(uH d).all V;have A4:=(uH A).all V;have K:=A4.c0;have L:=A4.c1;have M:=A4.c2;have y0:=L4.box.c0;have y1:=L4.box.c1;have y2:=L4.box.c2;have X:=aa L4;have ae:=aa A4;clear V L4 A4)|(go_at_call 51;refine(uH C2 _ _ _ ⟨(uH X).bits,uH HP,by omega,by omega⟩).mono ?_;rintro e w5 ⟨v,rfl,⟨ak,am,rfl,_,q5⟩,Z⟩;clear K L M y0 y1 y2;have N:=(uH X).all Z;have A5:=(uH ae).all Z;have y0:=N.box.c0;have y1:=N.box.c1;have y2:=N.box.c2;have f0:=N.box.free 0;have f1:=N.box.free 1;have f2:=N.box.free 2;have L6:=aa (N.put q5);have A6:=aa (((A5.other (p:=⟨g,0,none⟩) (uH NE) (.int .i64 a)).other (p:=⟨g,1,none⟩) (uH NE) (.int .i64 b)).other (p:=⟨g,2,none⟩) (uH NE) (.slice ak T2.length am));clear Z N A5 q5 X ae)|fail "NO ARM")
     all_goals
      clear d A HM C1 C2 y0 y1 y2 f0 f1 f2
      go_wp2_with fail
      go_round
      case rel=>exact⟨k+1,ak,am,by omega,by go_num,by rw[uH a2];exact L6,A6⟩
      case measure=>simp[intOf];omega
    ·have a3:b=k:=by omega
     subst a3
     have a4:=aa (show iA w _ g (w.heap.size+1) a b t z (bW a b (jM f (j+1) 0))from by rw[←xg a b f j];exact uH d)
     clear d
     go_wp2_with fail
     go_round
     case rel=>exact⟨j+1,t,z,by omega,by go_num,a4,A⟩
     case measure=>simp[intOf];omega
  ·have a5:a=j:=by omega
   subst a5
   rw[xh]at d
   have K:=(uH A).c0;have L:=(uH A).c1;have M:=(uH A).c2
   have y0:=(uH d).box.c0;have y1:=(uH d).box.c1;have y2:=(uH d).box.c2
   have r0:=(uH d).res.c0;have r1:=(uH d).res.c1;have r2:=(uH d).res.c2
   have f0:=(uH d).res.free 0;have f1:=(uH d).res.free 1;have f2:=(uH d).res.free 2
   have XP:=(uH d).res.put (.int .i64 a) (.int .i64 b) (.slice t (bW a b f).length z)
   have z0:=XP.c0;have z1:=XP.c1;have z2:=XP.c2
   have Q:=aa (ac.putM (uH d).bits (uH d).res (.int .i64 a) (.int .i64 b) (.slice t (bW a b f).length z))
   have BP:=aa (ai (uH d).bel (b:=w.heap.size+1) (by omega) (.int .i64 a) (.int .i64 b) (.slice t (bW a b f).length z))
   clear XP d
   go_wp2
   exact bodyPost_ret (v:=.agg #[.int .i64 a,.int .i64 b,.slice t (bW a b f).length z]) (by simp[results,Tryz.results128,go_sem,z0,z1,z2]) rfl ⟨_,rfl,aS.any (uH Q),uH BP⟩
theorem bD.least{f d:Nat}{w:World}{v:Value}{S:List Nat}(h:bD f w v S)(m:d≤f):bD d w v S:=by
 refine⟨⟨h.1.1,?_⟩,h.2⟩
 rcases h.1.2 with e|⟨g,cap,l,t,y,rest⟩
 ·exact .inl e
 ·exact .inr ⟨g,cap,l,t,Nat.le_trans m y,rest⟩
theorem bD.putM{d:Nat}{w:World}{v:Value}{S:List Nat}(h:bD d w v S){b:Nat}{x y z:Value}(_hx:aq w b x y z)(D:b<d)(u u' u'':Value):bD d (((w.setCell ⟨b,0,none⟩ u).setCell ⟨b,1,none⟩ u').setCell ⟨b,2,none⟩ u'') v S:=by
 refine⟨⟨h.1.1,?_⟩,h.2⟩
 rcases h.1.2 with e|⟨g,cap,l,m,t,A,rest⟩
 ·exact .inl e
 ·refine .inr ⟨g,cap,l,m,t,?_,rest⟩
  have f:g≠b:=by omega
  rw[Below.heap_setCell _ ⟨b,2,none⟩ u'' g f,Below.heap_setCell _ ⟨b,1,none⟩ u' g f,Below.heap_setCell _ ⟨b,0,none⟩ u g f]
  exact A
theorem p8(r c:Int)(ao:Option Addr)(cap:Nat)(I:List Int)(w:World)(h:ac w ao cap I)(hl:I.length≤17592186043904):
  Calls Tryz.prog 21 #[.agg #[.int .i64 r,.int .i64 c,.slice ao I.length cap]] w fun e d=>∃f m,e=.returned (.agg #[.int .i64 r,.int .i64 c,.slice f I.length m])∧bD w.heap.size d (.slice f I.length m) (cn I)∧Below w.heap.size w d:=by
 have O:=ab w (.cells #[.int .i64 r,.int .i64 c,.slice ao I.length cap] 24)
 have s0:=ad w (.cells #[.int .i64 r,.int .i64 c,.slice ao I.length cap] 24)
 have b1:=ab (w.alloc (.cells #[.int .i64 r,.int .i64 c,.slice ao I.length cap] 24)) (.cells #[.int .i64 0,.int .i64 0,.slice none 0 0] 24)
 have Q:=ad (w.alloc (.cells #[.int .i64 r,.int .i64 c,.slice ao I.length cap] 24)) (.cells #[.int .i64 0,.int .i64 0,.slice none 0 0] 24)
 have bb:=O.trans (b1.mono O.size)
 have y:=h.below bb
 have H:=aa (fun N=>dE w (.int .i64 r) (.int .i64 c) (.slice ao I.length cap) (.int .i64 0) (.int .i64 0) (.slice none 0 0) N)
 rw[s0]at Q
 have KC:=aa (fun d (t:Below (w.heap.size+1+1) ((w.alloc (.cells #[.int .i64 r,.int .i64 c,.slice ao I.length cap] 24)).alloc (.cells #[.int .i64 0,.int .i64 0,.slice none 0 0] 24)) d) (hz:d.heap.size=w.heap.size+1+1)=>(show∃f m F,(Builtin.append_ #[22,22] 22 #[.slice (some ⟨w.heap.size+1+1,0,none⟩) 0 0,.slice ao I.length cap]).run Tryz.prog (d.alloc (.cells #[] 37))=.ok (.slice f I.length m) F∧(bD (w.heap.size+1+1) F (.slice f I.length m) (cn I)∧Below (w.heap.size+1+1) ((w.alloc (.cells #[.int .i64 r,.int .i64 c,.slice ao I.length cap] 24)).alloc (.cells #[.int .i64 0,.int .i64 0,.slice none 0 0] 24)) F)from by
  have b2:=ab d (.cells #[] 37)
  have on:=bD.nil d (w.heap.size+1+1) (by omega)
  have bt:=(y.below (by rw[Q];exact t)).below b2
  obtain⟨f,m,N,K,Z,gr⟩:=p4 _ (w.heap.size+1+1) 22 ao cap I _ bt hl on.1 (by simp;omega)
  rw[hz]at K
  exact⟨f,m,N,K,Z,t.trans ((b2.mono (by omega)).grown gr (by simp;omega) (fun g hg=>by cases hg;omega))⟩))
 clear O b1 s0 Q bb y h
 obtain⟨l,G⟩:∃l,I.length=l:=⟨_,rfl⟩
 have HL:=aa G
 rw[G]at H KC hl⊢
 clear G
 have U:=aa (fun d (t:Below (w.heap.size+1+1) ((w.alloc (.cells #[.int .i64 r,.int .i64 c,.slice ao l cap] 24)).alloc (.cells #[.int .i64 0,.int .i64 0,.slice none 0 0] 24)) d)=>(show d.cell? ⟨w.heap.size,0,none⟩=some (.int .i64 r)∧d.cell? ⟨w.heap.size,1,none⟩=some (.int .i64 c)∧d.cell? ⟨w.heap.size,2,none⟩=some (.slice ao l cap)from
  ⟨(uH H d t).2.1.c0,(uH H d t).2.1.c1,(uH H d t).2.1.c2⟩))
 have HP:=aa (fun D (u u' u'':Value) (t:Below (w.heap.size+1+1) ((w.alloc (.cells #[.int .i64 r,.int .i64 c,.slice ao l cap] 24)).alloc (.cells #[.int .i64 0,.int .i64 0,.slice none 0 0] 24)) D)=>(show(((D.setCell ⟨w.heap.size+1,0,none⟩ u).setCell ⟨w.heap.size+1,1,none⟩ u').setCell ⟨w.heap.size+1,2,none⟩ u'').cell? ⟨w.heap.size,0,none⟩=some (.int .i64 r)∧(((D.setCell ⟨w.heap.size+1,0,none⟩ u).setCell ⟨w.heap.size+1,1,none⟩ u').setCell ⟨w.heap.size+1,2,none⟩ u'').cell? ⟨w.heap.size,1,none⟩=some (.int .i64 c)∧(((D.setCell ⟨w.heap.size+1,0,none⟩ u).setCell ⟨w.heap.size+1,1,none⟩ u').setCell ⟨w.heap.size+1,2,none⟩ u'').cell? ⟨w.heap.size,2,none⟩=some (.slice ao l cap)from by
  have X:=(uH H D t).2.1
  have Y:=((X.other (p:=⟨w.heap.size+1,0,none⟩) (by show w.heap.size≠w.heap.size+1;omega) u).other (p:=⟨w.heap.size+1,1,none⟩) (by show w.heap.size≠w.heap.size+1;omega) u').other (p:=⟨w.heap.size+1,2,none⟩) (by show w.heap.size≠w.heap.size+1;omega) u''
  exact⟨Y.c0,Y.c1,Y.c2⟩))
 go_enter Tryz.func21,Tryz.ntmps21
 go_wp2_with fail
 go_region_held3(fun d=>d.cell? ⟨w.heap.size,0,none⟩=some (.int .i64 r)∧d.cell? ⟨w.heap.size,1,none⟩=some (.int .i64 c)∧d.cell? ⟨w.heap.size,2,none⟩=some (.slice ao l cap))
  (first|exact uH U _ (Below.refl _ _).drew|exact uH U _ (by assumption)|exact uH U _ ((Below.refl _ _).drew.alloc (by simp) _)|exact uH HP _ _ _ _ (by assumption)|fail "KK")
  (first|(refine ol _ (by rfl) _ _ 22 (by rfl) _ _ _ _ (by rfl) (by rfl) (uH KC _ (Below.refl _ _).drew (by first|rfl|simp)) ?_;rintro f m D ⟨A,L⟩;obtain⟨B5,A5,z⟩:=uH H D L;have u0:=z.c0;have u1:=z.c1;have u2:=z.c2;have f0:=z.free 0;have f1:=z.free 1;have f2:=z.free 2;have HO:=aa A;have HB:=aa B5;have V:=aa z;clear A A5 z B5)|fail "NO ARM")
 all_goals
  have M:=(uH V).put (.int .i64 r) (.int .i64 c) (.slice f l m)
  have z0:=M.c0;have z1:=M.c1;have z2:=M.c2
  have OP:=aa ((uH HO).putM (uH V) (by omega) (.int .i64 r) (.int .i64 c) (.slice f l m))
  have BP:=aa (ai (uH HB) (b:=w.heap.size+1) (by omega) (.int .i64 r) (.int .i64 c) (.slice f l m))
  clear M V HO HB
  go_wp2
  exact bodyPost_ret (v:=.agg #[.int .i64 r,.int .i64 c,.slice f l m]) (by simp[results,Tryz.results21,go_sem,z0,z1,z2]) rfl ⟨f,m,rfl,(uH OP).least (by omega),uH BP⟩
theorem aq.away{w:World}{g b k:Nat}{x y:Int}{a:Option Addr}{n d:Nat}{z:Int}(h:aq w b (.int .i64 x) (.int .i64 y) (.slice a n d))(f:w.cell? ⟨g,k,none⟩=some (.int .u64 z)):b≠g:=by
 rintro rfl
 rw[cell_of_row w b k _ _ _ h]at f
 rcases(show k=0∨k=1∨k=2∨3≤k by omega)with e|e|e|e
 ·subst e;simp at f
 ·subst e;simp at f
 ·subst e;simp at f
 ·rw[Array.getElem?_eq_none (by simp;omega)]at f;simp at f
end Go.Proofs.YtlnphkioddknfaaGreatDoor
