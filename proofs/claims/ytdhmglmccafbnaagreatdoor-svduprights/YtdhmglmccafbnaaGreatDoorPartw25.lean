/- Part 25 of the texts. -/
import Derived.Test.YtdhmglmccafbnaaGreatDoorPartw24
set_option maxHeartbeats 8000000
set_option maxRecDepth 20000
namespace Go.Proofs.YtdhmglmccafbnaaGreatDoor
open Go.RowKit
attribute [local go_sem ↓] Go.wp_at_zero Go.wp_at_succ
structure jl (w wr:World) (g gr p q:Nat) (mo:Option Addr) (mc:Nat) (S:List Nat):Prop where
 bel:Below w.heap.size w wr
 box:aw wr g (.int .i64 p) (.int .i64 q) (.slice mo S.length mc)
 res:aw wr gr (.int .i64 0) (.int .i64 0) (.slice none 0 0)
 bits:af wr mo mc (aL S)
 ne:gr≠g
 lo:w.heap.size≤g
theorem jl.all{w wr w':World}{g f p q:Nat}{l:Option Addr}{u:Nat}{S:List Nat}(h:jl w wr g f p q l u S)(d:Below wr.heap.size wr w'):jl w w' g f p q l u S:=
 ⟨h.bel.trans (d.mono h.bel.size),h.box.all d,h.res.all d,h.bits.below d,h.ne,h.lo⟩
theorem jl.put{w wr:World}{g l p q:Nat}{u:Option Addr}{z:Nat}{S:List Nat}(h:jl w wr g l p q u z S){d:Option Addr}{f:Nat}{T:List Nat}(D:af wr d f (aL T)):
  jl w (((wr.setCell ⟨g,0,none⟩ (.int .i64 p)).setCell ⟨g,1,none⟩ (.int .i64 q)).setCell ⟨g,2,none⟩ (.slice d T.length f)) g l p q d f T:=
 ⟨aq h.bel h.lo _ _ _,h.box.put _ _ _,((h.res.other (p:=⟨g,0,none⟩) h.ne _).other (p:=⟨g,1,none⟩) h.ne _).other (p:=⟨g,2,none⟩) h.ne _,D.putM h.box _ _ _,h.ne,h.lo⟩
theorem bK.any{w:World}{r c:Nat}{S:List Nat}{f:Option Addr}{d:Nat}(h:af w f d (aL S)):bK 0 w r c S (.agg #[.int .i64 r,.int .i64 c,.slice f S.length d]):=by
 refine⟨f,d,rfl,?_,h⟩
 rcases h.2.2 with e|⟨b,l,u,_,_⟩
 ·exact .inl e
 ·exact .inr ⟨b,l,u,Nat.zero_le _⟩
def Bt(n j:Nat):List Nat:=cG n n (fun i k=>if k=i∧i<j then 4607182418800017408 else 0)
theorem Fl(n:Nat):Bt n 0=List.replicate (n*n) 0:=by
 rw[iU]
 exact bh (fun i k _ _=>if_neg (by omega))
theorem EP(n j:Nat)(d:j<n):(Bt n j).set (j*n+j) 4607182418800017408=Bt n (j+1):=by
 unfold Bt
 rw[ip n n _ _ d d]
 refine bh (fun x y _ _=>?_)
 by_cases h:x=j∧y=j
 ·rw[if_pos h,if_pos (by omega)]
 ·rw[if_neg h]
  by_cases e:y=x∧x<j
  ·rw[if_pos e,if_pos (by omega)]
  ·rw[if_neg e,if_neg (by omega)]
theorem ER(n:Nat):Bt n n=gE n:=bh (fun i k d _=>by
 by_cases e:k=i
 ·rw[if_pos ⟨e,d⟩,if_pos e]
 ·rw[if_neg (fun h=>e h.1),if_neg e])
theorem ET(n j:Nat):(Bt n j).length=n*n:=bH _ _ _
theorem Bu(n:Nat)(w:World)(L:n≤6):
  Calls Tryz.prog 13 #[.int .i64 n] w fun e w'=>∃v,e=.returned v∧bK 0 w' n n (gE n) v∧Below w.heap.size w w':=by
 have K1:=aa (fun w'=>jM n n w' L L)
 have b0:=ac w (.cells #[.int .i64 0,.int .i64 0,.slice none 0 0] 25)
 have X0:=aw.new w (.int .i64 0) (.int .i64 0) (.slice none 0 0)
 have s0:=ah w (.cells #[.int .i64 0,.int .i64 0,.slice none 0 0] 25)
 have D:=aa b0;have G:=aa X0;have H:=aa s0
 clear b0 X0 s0
 go_enter Tryz.func13,Tryz.ntmps13
 go_wp2_with fail
 refine(uH K1 _).mono ?_
 rintro e J ⟨v,rfl,⟨U,V,rfl,nw,qs⟩,f⟩
 have M:=ac J (.cells #[.int .i64 n,.int .i64 n,.slice U (List.replicate (n*n) 0).length V] 25)
 have N:=(uH D).trans (f.mono (uH D).size)
 have L0:=aa (show jl w (J.alloc (.cells #[.int .i64 n,.int .i64 n,.slice U (Bt n 0).length V] 25)) J.heap.size w.heap.size n n U V (Bt n 0)from by
  rw[Fl]
  exact⟨N.trans (M.mono N.size),aw.new J _ _ _,((uH G).all f).all M,qs.below M,by have:=f.size;rw[uH H]at this;omega,N.size⟩)
 rw[←Fl]
 clear K1 f M N nw qs D G H
 go_wp2_with fail
 generalize J.heap.size=g at*
 go_loopw[4] (fun i wr=>∃(j:Nat) (u:Option Addr) (z:Nat),j≤n∧i=.int .i64 j∧Hid (jl w wr g w.heap.size n n u z (Bt n j))) (fun i _=>n-(intOf i).toNat)
 case atStart=>exact⟨0,U,V,Nat.zero_le _,rfl,L0⟩
 case round=>
  clear L0
  obtain⟨j,u,z,hj,rfl,d⟩:=hrel
  have y0:=(uH d).box.c0;have y1:=(uH d).box.c1;have y2:=(uH d).box.c2
  by_cases F:j<n
  ·have ae:(j:Int)<(n:Int):=by omega
   have C:=aa (gZ n n z j j 4607182418800017408 u (Bt n j) _ ⟨(uH d).bits,ET n j,L,L⟩ F F (by decide))
   rw[EP n j F,show((4607182418800017408:Nat):Int)=4607182418800017408 from rfl]at C
   generalize (Bt n j).length=l at*
   go_wp2_with fail
   refine Calls.mono (uH C) ?_
   rintro e w2 ⟨v,rfl,⟨Y,Z,rfl,_,q2⟩,K⟩
   have h:=(uH d).all K
   have f0:=h.box.free 0;have f1:=h.box.free 1;have f2:=h.box.free 2
   have u0:=h.box.c0;have u1:=h.box.c1;have u2:=h.box.c2
   have L3:=aa (h.put q2)
   clear C K h d y0 y1 y2 q2
   go_wp2_with fail
   go_round
   case rel=>exact⟨j+1,Y,Z,by omega,by go_num,L3⟩
   case measure=>simp[intOf];omega
  ·have X:j=n:=by omega
   subst X
   rw[ER]at d y2
   have r0:=(uH d).res.c0;have r1:=(uH d).res.c1;have r2:=(uH d).res.c2
   have f0:=(uH d).res.free 0;have f1:=(uH d).res.free 1;have f2:=(uH d).res.free 2
   have O:=(uH d).res.put (.int .i64 j) (.int .i64 j) (.slice u (gE j).length z)
   have z0:=O.c0;have z1:=O.c1;have z2:=O.c2
   have Q:=aa (af.putM (uH d).bits (uH d).res (.int .i64 j) (.int .i64 j) (.slice u (gE j).length z))
   have BP:=aa (aq (uH d).bel (Nat.le_refl _) (.int .i64 j) (.int .i64 j) (.slice u (gE j).length z))
   clear O d
   go_wp2
   exact bodyPost_ret (v:=.agg #[.int .i64 j,.int .i64 j,.slice u (gE j).length z]) (by simp[results,Tryz.results13,go_sem,z0,z1,z2]) rfl ⟨_,rfl,bK.any (uH Q),uH BP⟩
theorem pZ(r c d:Nat)(G:Option Addr)(S:List Nat)(w:World)(h:Mx w G d r c S):
  Calls Tryz.prog 17 #[.agg #[.int .i64 r,.int .i64 c,.slice G S.length d]] w fun e w'=>∃v,e=.returned v∧bK 0 w' c r (cG c r (fun k i=>bJ c S i k)) v∧Below w.heap.size w w':=by
 have HH:=aa h
 have a9:=h.2.2.1;have bb:=h.2.2.2
 have K1:=aa (fun w'=>jM c r w' (by omega) (by omega))
 have b0:=ac w (.cells #[.int .i64 r,.int .i64 c,.slice G S.length d] 25)
 have b1:=ac (w.alloc (.cells #[.int .i64 r,.int .i64 c,.slice G S.length d] 25)) (.cells #[.int .i64 0,.int .i64 0,.slice none 0 0] 25)
 have s0:=ah w (.cells #[.int .i64 r,.int .i64 c,.slice G S.length d] 25)
 have s1:=ah (w.alloc (.cells #[.int .i64 r,.int .i64 c,.slice G S.length d] 25)) (.cells #[.int .i64 0,.int .i64 0,.slice none 0 0] 25)
 have X0:=aw.new w (.int .i64 r) (.int .i64 c) (.slice G S.length d)
 have X1:=aw.new (w.alloc (.cells #[.int .i64 r,.int .i64 c,.slice G S.length d] 25)) (.int .i64 0) (.int .i64 0) (.slice none 0 0)
 have U:=aa (X0.all b1)
 rw[s0]at X1
 have V:=aa X1
 have J:=aa (b0.trans (b1.mono b0.size))
 have K:=aa (s1.trans (by rw[s0]))
 have HL:=aa h.2.1
 obtain⟨l,hl⟩:∃l,S.length=l:=⟨_,rfl⟩
 rw[hl]at U V J K
 rw[hl]
 have a1:=aa hl
 obtain⟨f,hf⟩:∃f:Nat→Nat→Nat,f=(fun k i=>bJ c S i k):=⟨_,rfl⟩
 rw[←hf]
 have HF:=aa hf
 clear b0 b1 s0 s1 X0 X1 h hl hf
 go_enter Tryz.func17,Tryz.ntmps17
 go_wp2_with fail
 refine(uH K1 _).mono ?_
 rintro e Z ⟨v,rfl,⟨mo,mc,rfl,nw,qs⟩,H⟩
 have ba:=ac Z (.cells #[.int .i64 c,.int .i64 r,.slice mo (List.replicate (c*r) 0).length mc] 25)
 have BB:=(uH J).trans (H.mono (uH J).size)
 have L0:=aa (show jl w (Z.alloc (.cells #[.int .i64 c,.int .i64 r,.slice mo (cG c r (pd f 0 0)).length mc] 25)) Z.heap.size (w.heap.size+1) c r mo mc (cG c r (pd f 0 0))from by
  rw[Bi]
  exact⟨BB.trans (ba.mono BB.size),aw.new Z _ _ _,((uH V).all H).all ba,qs.below ba,by have:=H.size;rw[uH K]at this;omega,BB.size⟩)
 have A0:=aa (show aw (Z.alloc (.cells #[.int .i64 c,.int .i64 r,.slice mo (cG c r (pd f 0 0)).length mc] 25)) w.heap.size (.int .i64 r) (.int .i64 c) (.slice G l d)from by
  rw[Bi]
  exact((uH U).all H).all ba)
 have NE:=aa (show w.heap.size≠Z.heap.size from by have:=H.size;rw[uH K]at this;omega)
 rw[←Bi c r f]
 clear K1 H ba BB nw qs J U V K
 have L:=(uH A0).c0;have M:=(uH A0).c1;have N:=(uH A0).c2
 go_wp2_with fail
 generalize Z.heap.size=g at*
 go_loopw[4] (fun i wr=>∃(j:Nat) (z:Option Addr) (D:Nat),j≤r∧i=.int .i64 j∧Hid (jl w wr g (w.heap.size+1) c r z D (cG c r (pd f j 0)))∧Hid (aw wr w.heap.size (.int .i64 r) (.int .i64 c) (.slice G l d))) (fun i _=>r-(intOf i).toNat)
 case atStart=>exact⟨0,mo,mc,Nat.zero_le _,rfl,L0,A0⟩
 case round=>
  clear L0 A0 L M N
  obtain⟨j,z,D,hj,rfl,u,F⟩:=hrel
  by_cases a2:j<r
  ·have be:(j:Int)<(r:Int):=by omega
   have L:=(uH F).c0;have M:=(uH F).c1;have N:=(uH F).c2
   go_wp2_with fail
   go_loopw[5] (fun i wr=>∃(k:Nat) (z:Option Addr) (D:Nat),k≤c∧i=.int .i64 k∧Hid (jl w wr g (w.heap.size+1) c r z D (cG c r (pd f j k)))∧Hid (aw wr w.heap.size (.int .i64 r) (.int .i64 c) (.slice G l d))) (fun i _=>c-(intOf i).toNat)
   case atStart=>exact⟨0,z,D,Nat.zero_le _,rfl,u,F⟩
   case round=>
    clear u F L M N z D
    obtain⟨k,z,D,hk,rfl,u,F⟩:=hrel
    have L:=(uH F).c0;have M:=(uH F).c1;have N:=(uH F).c2
    by_cases a3:k<c
    ·have bg:(k:Int)<(c:Int):=by omega
     have y0:=(uH u).box.c0;have y1:=(uH u).box.c1;have y2:=(uH u).box.c2
     have C1:=aa (fun w' (m:Mx w' G d r c S)=>kB r c d j k G S w' m (by omega) (by omega))
     have C2:=aa (fun w' z D (m:Mx w' z D c r (cG c r (pd f j k)))=>gZ c r D k j (f k j) z (cG c r (pd f j k)) w' m (by omega) (by omega) (by rw[uH HF];exact(uH HH).el_lt _ _))
     rw[Bj c r f a2 a3]at C2
     rw[uH a1,show bJ c S j k=f k j from by rw[uH HF]]at C1
     have HM:=aa ((uH HH).below (uH u).bel)
     have HP:=aa (show(cG c r (pd f j k)).length=c*r from bH _ _ _)
     generalize f k j=x at*
     generalize cG c r (pd f j k)=T at*
     generalize a0:cG c r (pd f j (k+1))=T2 at*
     have a4:=aa a0
     clear a0
     go_wp2_with fail
     go_region_with (first|(go_at_call 59;refine(uH C1 _ (by exact uH HM)).mono ?_;rintro e w4 ⟨rfl,ap⟩;have X:Below wr.heap.size wr w4:=((Below.refl wr.heap.size wr).drew).trans ap;clear ap L M N y0 y1 y2;have L4:=(uH u).all X;have A4:=(uH F).all X;have L:=A4.c0;have M:=A4.c1;have N:=A4.c2;have y0:=L4.box.c0;have y1:=L4.box.c1;have y2:=L4.box.c2;have Y:=aa L4;have am:=aa A4;clear X L4 A4)|(go_at_call 54;refine(uH C2 _ _ _ ⟨(uH Y).bits,uH HP,by omega,by omega⟩).mono ?_;rintro e w5 ⟨v,rfl,⟨ax,aI,rfl,_,q5⟩,ae⟩;clear L M N y0 y1 y2;have O:=(uH Y).all ae;have A5:=(uH am).all ae;have y0:=O.box.c0;have y1:=O.box.c1;have y2:=O.box.c2;have f0:=O.box.free 0;have f1:=O.box.free 1;have f2:=O.box.free 2;have L6:=aa (O.put q5);have A6:=aa (((A5.other (p:=⟨g,0,none⟩) (uH NE) (.int .i64 c)).other (p:=⟨g,1,none⟩) (uH NE) (.int .i64 r)).other (p:=⟨g,2,none⟩) (uH NE) (.slice ax T2.length aI));clear ae O A5 q5 Y am)|fail "NO ARM")
     all_goals
      clear u F HM C1 C2 y0 y1 y2 f0 f1 f2
      go_wp2_with fail
      go_round
      case rel=>exact⟨k+1,ax,aI,by omega,by go_num,by rw[uH a4];exact L6,A6⟩
      case measure=>simp[intOf];omega
    ·have a5:c=k:=by omega
     subst a5
     have a6:=aa (show jl w _ g (w.heap.size+1) c r z D (cG c r (pd f (j+1) 0))from by rw[←EA c r f j];exact uH u)
     clear u
     go_wp2_with fail
     go_round
     case rel=>exact⟨j+1,z,D,by omega,by go_num,a6,F⟩
     case measure=>simp[intOf];omega
  ·have a7:r=j:=by omega
   subst a7
   rw[EB]at u
   have L:=(uH F).c0;have M:=(uH F).c1;have N:=(uH F).c2
   have y0:=(uH u).box.c0;have y1:=(uH u).box.c1;have y2:=(uH u).box.c2
   have r0:=(uH u).res.c0;have r1:=(uH u).res.c1;have r2:=(uH u).res.c2
   have f0:=(uH u).res.free 0;have f1:=(uH u).res.free 1;have f2:=(uH u).res.free 2
   have XP:=(uH u).res.put (.int .i64 c) (.int .i64 r) (.slice z (cG c r f).length D)
   have z0:=XP.c0;have z1:=XP.c1;have z2:=XP.c2
   have Q:=aa (af.putM (uH u).bits (uH u).res (.int .i64 c) (.int .i64 r) (.slice z (cG c r f).length D))
   have BP:=aa (aq (uH u).bel (b:=w.heap.size+1) (by omega) (.int .i64 c) (.int .i64 r) (.slice z (cG c r f).length D))
   clear XP u
   go_wp2
   exact bodyPost_ret (v:=.agg #[.int .i64 c,.int .i64 r,.slice z (cG c r f).length D]) (by simp[results,Tryz.results17,go_sem,z0,z1,z2]) rfl ⟨_,rfl,bK.any (uH Q),uH BP⟩
theorem br.least{f d:Nat}{w:World}{v:Value}{S:List Nat}(h:br f w v S)(z:d≤f):br d w v S:=by
 refine⟨⟨h.1.1,?_⟩,h.2⟩
 rcases h.1.2 with e|⟨g,l,u,D,F,rest⟩
 ·exact .inl e
 ·exact .inr ⟨g,l,u,D,Nat.le_trans z F,rest⟩
theorem br.putM{d:Nat}{w:World}{v:Value}{S:List Nat}(h:br d w v S){b:Nat}{x y z:Value}(_hx:aw w b x y z)(L:b<d)(u G f:Value):br d (((w.setCell ⟨b,0,none⟩ u).setCell ⟨b,1,none⟩ G).setCell ⟨b,2,none⟩ f) v S:=by
 refine⟨⟨h.1.1,?_⟩,h.2⟩
 rcases h.1.2 with e|⟨g,D,F,H,J,K,rest⟩
 ·exact .inl e
 ·refine .inr ⟨g,D,F,H,J,?_,rest⟩
  have l:g≠b:=by omega
  rw[Below.heap_setCell _ ⟨b,2,none⟩ f g l,Below.heap_setCell _ ⟨b,1,none⟩ G g l,Below.heap_setCell _ ⟨b,0,none⟩ u g l]
  exact K
theorem yk(r c:Int)(f:Option Addr)(d:Nat)(I:List Int)(w:World)(h:af w f d I)(hl:I.length≤17592186043904):
  Calls Tryz.prog 31 #[.agg #[.int .i64 r,.int .i64 c,.slice f I.length d]] w fun e w'=>∃z D,e=.returned (.agg #[.int .i64 r,.int .i64 c,.slice z I.length D])∧br w.heap.size w' (.slice z I.length D) (a8 I)∧Below w.heap.size w w':=by
 have b0:=ac w (.cells #[.int .i64 r,.int .i64 c,.slice f I.length d] 25)
 have s0:=ah w (.cells #[.int .i64 r,.int .i64 c,.slice f I.length d] 25)
 have b1:=ac (w.alloc (.cells #[.int .i64 r,.int .i64 c,.slice f I.length d] 25)) (.cells #[.int .i64 0,.int .i64 0,.slice none 0 0] 25)
 have s1:=ah (w.alloc (.cells #[.int .i64 r,.int .i64 c,.slice f I.length d] 25)) (.cells #[.int .i64 0,.int .i64 0,.slice none 0 0] 25)
 have bb:=b0.trans (b1.mono b0.size)
 have H:=h.below bb
 have O:=aa (fun w1=>gC w (.int .i64 r) (.int .i64 c) (.slice f I.length d) (.int .i64 0) (.int .i64 0) (.slice none 0 0) w1)
 rw[s0]at s1
 have KC:=aa (fun w' (G:Below (w.heap.size+1+1) ((w.alloc (.cells #[.int .i64 r,.int .i64 c,.slice f I.length d] 25)).alloc (.cells #[.int .i64 0,.int .i64 0,.slice none 0 0] 25)) w') (hz:w'.heap.size=w.heap.size+1+1)=>(show∃z D M,(Builtin.append_ #[23,23] 23 #[.slice (some ⟨w.heap.size+1+1,0,none⟩) 0 0,.slice f I.length d]).run Tryz.prog (w'.alloc (.cells #[] 28))=.ok (.slice z I.length D) M∧(br (w.heap.size+1+1) M (.slice z I.length D) (a8 I)∧Below (w.heap.size+1+1) ((w.alloc (.cells #[.int .i64 r,.int .i64 c,.slice f I.length d] 25)).alloc (.cells #[.int .i64 0,.int .i64 0,.slice none 0 0] 25)) M)from by
  have b2:=ac w' (.cells #[] 28)
  have on:=br.nil w' (w.heap.size+1+1) (by omega)
  have bt:=(H.below (by rw[s1];exact G)).below b2
  obtain⟨z,D,w1,Q,ae,gr⟩:=pW _ (w.heap.size+1+1) 23 f d I _ bt hl on.1 (by simp;omega)
  rw[hz]at Q
  exact⟨z,D,w1,Q,ae,G.trans ((b2.mono (by omega)).grown gr (by simp;omega) (fun g hg=>by cases hg;omega))⟩))
 clear b0 b1 s0 s1 bb H h
 obtain⟨l,N⟩:∃l,I.length=l:=⟨_,rfl⟩
 have HL:=aa N
 rw[N]at O KC hl⊢
 clear N
 have HK:=aa (fun w' (G:Below (w.heap.size+1+1) ((w.alloc (.cells #[.int .i64 r,.int .i64 c,.slice f l d] 25)).alloc (.cells #[.int .i64 0,.int .i64 0,.slice none 0 0] 25)) w')=>(show w'.cell? ⟨w.heap.size,0,none⟩=some (.int .i64 r)∧w'.cell? ⟨w.heap.size,1,none⟩=some (.int .i64 c)∧w'.cell? ⟨w.heap.size,2,none⟩=some (.slice f l d)from
  ⟨(uH O w' G).2.1.c0,(uH O w' G).2.1.c1,(uH O w' G).2.1.c2⟩))
 have HP:=aa (fun L (u V F:Value) (G:Below (w.heap.size+1+1) ((w.alloc (.cells #[.int .i64 r,.int .i64 c,.slice f l d] 25)).alloc (.cells #[.int .i64 0,.int .i64 0,.slice none 0 0] 25)) L)=>(show(((L.setCell ⟨w.heap.size+1,0,none⟩ u).setCell ⟨w.heap.size+1,1,none⟩ V).setCell ⟨w.heap.size+1,2,none⟩ F).cell? ⟨w.heap.size,0,none⟩=some (.int .i64 r)∧(((L.setCell ⟨w.heap.size+1,0,none⟩ u).setCell ⟨w.heap.size+1,1,none⟩ V).setCell ⟨w.heap.size+1,2,none⟩ F).cell? ⟨w.heap.size,1,none⟩=some (.int .i64 c)∧(((L.setCell ⟨w.heap.size+1,0,none⟩ u).setCell ⟨w.heap.size+1,1,none⟩ V).setCell ⟨w.heap.size+1,2,none⟩ F).cell? ⟨w.heap.size,2,none⟩=some (.slice f l d)from by
  have X:=(uH O L G).2.1
  have Y:=((X.other (p:=⟨w.heap.size+1,0,none⟩) (by show w.heap.size≠w.heap.size+1;omega) u).other (p:=⟨w.heap.size+1,1,none⟩) (by show w.heap.size≠w.heap.size+1;omega) V).other (p:=⟨w.heap.size+1,2,none⟩) (by show w.heap.size≠w.heap.size+1;omega) F
  exact⟨Y.c0,Y.c1,Y.c2⟩))
 go_enter Tryz.func31,Tryz.ntmps31
 go_wp2_with fail
 go_region_held3(fun w'=>w'.cell? ⟨w.heap.size,0,none⟩=some (.int .i64 r)∧w'.cell? ⟨w.heap.size,1,none⟩=some (.int .i64 c)∧w'.cell? ⟨w.heap.size,2,none⟩=some (.slice f l d))
  (first|exact uH HK _ (Below.refl _ _).drew|exact uH HK _ (by assumption)|exact uH HK _ ((Below.refl _ _).drew.alloc (by simp) _)|exact uH HP _ _ _ _ (by assumption)|fail "KK")
  (first|(refine ol _ (by rfl) _ _ 23 (by rfl) _ _ _ _ (by rfl) (by rfl) (uH KC _ (Below.refl _ _).drew (by first|rfl|simp)) ?_;rintro z D L ⟨K,U⟩;obtain⟨B5,A5,J⟩:=uH O L U;have u0:=J.c0;have u1:=J.c1;have u2:=J.c2;have f0:=J.free 0;have f1:=J.free 1;have f2:=J.free 2;have HO:=aa K;have HB:=aa B5;have HX:=aa J;clear K A5 J B5)|fail "NO ARM")
 all_goals
  have Z:=(uH HX).put (.int .i64 r) (.int .i64 c) (.slice z l D)
  have z0:=Z.c0;have z1:=Z.c1;have z2:=Z.c2
  have OP:=aa ((uH HO).putM (uH HX) (by omega) (.int .i64 r) (.int .i64 c) (.slice z l D))
  have BP:=aa (aq (uH HB) (b:=w.heap.size+1) (by omega) (.int .i64 r) (.int .i64 c) (.slice z l D))
  clear Z HX HO HB
  go_wp2
  exact bodyPost_ret (v:=.agg #[.int .i64 r,.int .i64 c,.slice z l D]) (by simp[results,Tryz.results31,go_sem,z0,z1,z2]) rfl ⟨z,D,rfl,(uH OP).least (by omega),uH BP⟩
theorem aw.away{w:World}{g b k:Nat}{x y:Int}{a:Option Addr}{n d:Nat}{z:Int}(h:aw w b (.int .i64 x) (.int .i64 y) (.slice a n d))(f:w.cell? ⟨g,k,none⟩=some (.int .u64 z)):b≠g:=by
 rintro rfl
 rw[cell_of_row w b k _ _ _ h]at f
 rcases(show k=0∨k=1∨k=2∨3≤k by omega)with e|e|e|e
 ·subst e;simp at f
 ·subst e;simp at f
 ·subst e;simp at f
 ·rw[Array.getElem?_eq_none (by simp;omega)]at f;simp at f
theorem ji(N O:Option Addr)(c d:Nat)(I J:List Int)(w:World)(Q:af w N c I)(U:af w O d J)(H:I.length=J.length)(hn:I.length≤35184372088830):
  Calls Tryz.prog 77 #[.slice N I.length c,.slice O J.length d] w fun e w'=>e=.returned (.int .u64 (eM I J I.length:Nat))∧Below w.heap.size w w':=by
 have V:=aa Q;have X:=aa U
 obtain⟨n,f⟩:∃n,I.length=n:=⟨_,rfl⟩
 rw[←H,f]
 rw[f]at hn H
 have Y:=aa f;have Z:=aa H.symm
 clear Q U f H
 go_enter Tryz.func77,Tryz.ntmps77
 go_wp2_with fail
 go_loopw[5,6] (fun t i wr=>∃k:Nat,k≤n∧i=.int .i64 k∧t=.int .u64 (eM I J k:Nat)∧Hid (Below w.heap.size w wr)) (fun _ i _=>n-(intOf i).toNat)
 case atStart=>exact⟨0,Nat.zero_le _,rfl,rfl,Below.refl _ _⟩
 case round=>
  obtain⟨k,hk,rfl,rfl,u⟩:=hrel
  by_cases l:k<n
  ·have ae:(k:Int)<(n:Int):=by omega
   obtain⟨b1,o1,L,ax,z⟩:=((uH V).below u.out).ne (by rw[uH Y];omega)
   obtain⟨b2,o2,M,aI,D⟩:=((uH X).below u.out).ne (by rw[uH Z];omega)
   have cx:=z k (by rw[uH Y];exact l)
   have cy:=D k (by rw[uH Z];exact l)
   have C1:=aa (fun w'=>cT (cd I k) (cd J k) w' ((uH V).lt k) ((uH X).lt k))
   have C2:=aa (fun w'=>fJ (eM I J k) (mV (cd I k) (cd J k)) w' (ei I J k) (bM _ _))
   have eV:Hid (eM I J (k+1)=aV (eM I J k) (mV (cd I k) (cd J k))):=rfl
   subst L
   subst M
   clear z D
   generalize aV (eM I J k) (mV (cd I k) (cd J k))=o at*
   generalize mV (cd I k) (cd J k)=p at*
   generalize cd I k=x at*
   generalize cd J k=y at*
   generalize eM I J k=s at*
   have HK:=aa (fun w' (h:Below wr.heap.size wr w')=>(show Below wr.heap.size wr w'∧w'.cell? ⟨b1,o1+k,none⟩=some (.int .u64 (x:Nat))∧w'.cell? ⟨b2,o2+k,none⟩=some (.int .u64 (y:Nat))from⟨h,ak cx h,ak cy h⟩))
   clear cx cy
   go_wp2_with fail
   go_region_held3(fun w'=>Below wr.heap.size wr w'∧w'.cell? ⟨b1,o1+k,none⟩=some (.int .u64 (x:Nat))∧w'.cell? ⟨b2,o2+k,none⟩=some (.int .u64 (y:Nat)))
    (first|exact uH HK _ (Below.refl _ _).drew|exact uH HK _ (by assumption)|fail "KK")
    (first|(go_at_call 133;refine(uH C1 _).mono ?_;rintro e w1 ⟨rfl,F⟩;have am:Below wr.heap.size wr w1:=Below.trans (And.left (by assumption)) (F.mono (Below.size (And.left (by assumption))));clear F)|(go_at_call 132;refine(uH C2 _).mono ?_;rintro e w2 ⟨rfl,G⟩;have ap:Below wr.heap.size wr w2:=Below.trans (And.left (by assumption)) (G.mono (Below.size (And.left (by assumption))));clear G)|fail "NO ARM")
   have B2:Hid (Below w.heap.size w _):=u.out.trans (Below.mono (And.left (by assumption)) u.out.size)
   go_wp2_with fail
   go_round
   case rel=>exact⟨k+1,by omega,by go_num,by rw[eV.out],B2⟩
   case measure=>simp[intOf];omega
  ·have K:k=n:=by omega
   subst K
   go_wp2_with fail
   exact bodyPost_ret (v:=.int .u64 (eM I J k:Nat)) (by simp[results,Tryz.results77,go_sem]) rfl ⟨rfl,u.out⟩
theorem Bv(a b v:Nat)(o:Option Nat)(w:World)
  (H:∀i w',(binOp .sub i (.float .f64 a) (.float .f64 b)).run Tryz.prog w'=.ok (.float .f64 (fk o a b w')) (le o w'))
  (f:∀w',Calls Tryz.prog 162 #[.int .u64 a] w' fun r d=>r=.returned (.float .f64 a)∧w'=d)
  (h:∀w',Calls Tryz.prog 162 #[.int .u64 b] w' fun r d=>r=.returned (.float .f64 b)∧w'=d)
  (l:∀u w',Calls Tryz.prog 55 #[.float .f64 (fk o a b u)] w' fun r d=>r=.returned (.int .u64 v)∧w'=d):
  Calls Tryz.prog 205 #[.int .u64 a,.int .u64 b] w fun r w'=>r=.returned (.int .u64 (v:Nat))∧Below w.heap.size w w':=by
 have z:=aa f;have D:=aa h;have F:=aa l
 have B:=aa (f9 o w)
 clear f h l
 go_enter Tryz.func205,Tryz.ntmps205
 go_wp2_with fail
 refine(uH z _).mono ?_
 rintro e G ⟨rfl,rfl⟩
 go_wp2_with fail
 refine(uH D _).mono ?_
 rintro e G ⟨rfl,rfl⟩
 go_wp2_with fail
 refine(uH F _ _).mono ?_
 rintro e G ⟨rfl,rfl⟩
 clear z D F
 go_wp2
 go_ret
 exact⟨rfl,uH B⟩
theorem p5(a b:Nat)(w:World)(l:a<18446744073709551616)(d:b<18446744073709551616):
  Calls Tryz.prog 205 #[.int .u64 a,.int .u64 b] w fun r w'=>r=.returned (.int .u64 (aV a (fN b):Nat))∧Below w.heap.size w w':=by
 refine Bv a b (aV a (fN b)) (Ieee.double.sub a b) w (fun i w'=>An i a b w') (fun w'=>gA a w' l) (fun w'=>gA b w' d) (fun u w'=>pT _ _ w' (fun f=>?_))
 rw[zE a b d]
 cases h:Ieee.double.add a (fN b)with
 |some r=>
  have:=pO a (fN b) u f l (gH b d)
  rw[h]at this
  exact this
 |none=>
  have z:aN a (fN b)=true:=by
   cases e:aN a (fN b)with
   |true=>rfl
   |false=>rw[pD a (fN b) l (gH b d) e]at h;cases h
  rw[(pC a (fN b) l (gH b d) z).2]
  obtain⟨D,F⟩:=lf a b u
  have:=eG _ f D
  rw[if_pos F]at this
  exact this
theorem uW(r c:Nat)(w:World)(z:r≤6)(D:c≤6):
  Calls Tryz.prog 15 #[.int .i64 r,.int .i64 c] w fun e w'=>∃g,e=.returned (.agg #[.int .i64 r,.int .i64 c,.slice (some ⟨g,0,none⟩) (r*c) (r*c)])∧w.heap.size≤g∧bp w' g (List.replicate (r*c) 0)∧Below w.heap.size w w':=by
 have J:(r:Int)*(c:Int)=((r*c:Nat):Int):=bu r c
 have F:r*c≤36:=Nat.mul_le_mul z D
 have G:=run_make_row' (P:=Tryz.prog) 23 28 (.int .u64 0) 8 Tryz.underlying23 (by kernel_rfl) rfl .i64 .i64 (r*c) (by omega) (by omega)
 generalize h:r*c=n at*
 clear h
 have d:=ac w (.cells #[.int .i64 r,.int .i64 c,.slice (some ⟨w.heap.size+1,0,none⟩) n n] 25)
 have l:=ah w (.cells #[.int .i64 r,.int .i64 c,.slice (some ⟨w.heap.size+1,0,none⟩) n n] 25)
 have u:=ac (w.alloc (.cells #[.int .i64 r,.int .i64 c,.slice (some ⟨w.heap.size+1,0,none⟩) n n] 25)) (.cells (madeCells #[.int .u64 0] n) 28)
 have f:=bp.made (w.alloc (.cells #[.int .i64 r,.int .i64 c,.slice (some ⟨w.heap.size+1,0,none⟩) n n] 25)) n
 have H:=aa (d.trans (u.mono d.size))
 rw[l]at f
 have Q:=aa f
 clear d u f l
 go_enter Tryz.func15,Tryz.ntmps15
 go_wp2
 exact bodyPost_ret (v:=.agg #[.int .i64 r,.int .i64 c,.slice (some ⟨w.heap.size+1,0,none⟩) n n]) (by simp[results,Tryz.results15,go_sem]) rfl ⟨w.heap.size+1,rfl,by omega,uH Q,uH H⟩
def IX(r c:Nat)(S:List Nat)(k:Nat):List Nat:=jK (fun i=>bJ c S i k) r
theorem ot(r c f k:Nat)(D:Option Addr)(S:List Nat)(w:World)(h:Mx w D f r c S)(hk:k<c):
  Calls Tryz.prog 48 #[.agg #[.int .i64 r,.int .i64 c,.slice D S.length f],.int .i64 k,.int .i64 0] w fun e w'=>∃bo d,e=.returned (.slice bo r d)∧af w' bo d (aL (IX r c S k))∧Below w.heap.size w w':=by
 have HH:=aa h
 have r6:=h.2.2.1
 have V:=ah w (.cells #[.int .i64 r,.int .i64 c,.slice D S.length f] 25)
 have X:=ac w (.cells #[.int .i64 r,.int .i64 c,.slice D S.length f] 25)
 have X0:=aw.new w (.int .i64 r) (.int .i64 c) (.slice D S.length f)
 have L:=ac (w.alloc (.cells #[.int .i64 r,.int .i64 c,.slice D S.length f] 25)) (.cells #[] 28)
 have Y:=br.nil (w.alloc (.cells #[.int .i64 r,.int .i64 c,.slice D S.length f] 25)) (w.heap.size+1) (by rw[V];omega)
 rw[V]at Y
 have Z:=aa Y;have HX:=aa (X0.all L);have HB:=aa (X.trans (L.mono X.size))
 obtain⟨l,Q⟩:∃l,S.length=l:=⟨_,rfl⟩
 rw[Q]at HX HB Z
 rw[Q]
 have ae:=aa Q
 clear h V X X0 L Y Q
 go_enter Tryz.func48,Tryz.ntmps48
 go_wp2_with fail
 go_loopw[7,8] (fun v i wr=>∃j:Nat,j≤r∧i=.int .i64 j∧Hid (br (w.heap.size+1) wr v (jK (fun i=>bJ c S i k) j))∧Hid (aw wr w.heap.size (.int .i64 r) (.int .i64 c) (.slice D l f))∧Hid (Below w.heap.size w wr)) (fun _ i _=>r-(intOf i).toNat)
 case atStart=>exact⟨0,Nat.zero_le _,rfl,Z,HX,HB⟩
 case round=>
  clear Z HX HB
  obtain⟨j,hj,rfl,U,N,O⟩:=hrel
  have t0:=(uH N).c0;have t1:=(uH N).c1;have t2:=(uH N).c2
  by_cases am:j<r
  ·have ax:(j:Int)<(r:Int):=by omega
   have C:=aa (fun w' (m:Mx w' D f r c S)=>kB r c f j k D S w' m am hk)
   rw[uH ae]at C
   have HM:=aa ((uH HH).below O.out)
   have ho:=aa ((uH HH).el_lt j k)
   have G:=aa (show(jK (fun i=>bJ c S i k) j).length≤1000000 from by rw[eO];omega)
   have eS:=aa (kz (fun i=>bJ c S i k) j)
   generalize bJ c S j k=o at*
   go_wp2_with fail
   refine(uH C _ (uH HM)).mono ?_
   rintro e w2 ⟨rfl,F⟩
   have H:=(uH U).below F
   have u:=(uH N).all F
   have B2:=O.out.trans (F.mono O.out.size)
   obtain⟨v3,w3,J,K,z,_,_⟩:=H.push o (uH ho) (uH G) (by have:=u.lt;omega) 23
   have M:=aa J
   have O3:=aa (show br (w.heap.size+1) w3 v3 (jK (fun i=>bJ c S i k) (j+1))from by rw[uH eS];exact K)
   have X3:=aa (u.below z (by omega))
   have B3:=aa (B2.trans (z.mono (by omega)))
   clear F C U N O H u B2 J K z ho G eS HM t0 t1 t2
   go_wp2_with(at_builtin;refine aS _ rfl _ _ 23 rfl _ _ _ _ rfl rfl (uH M) ?_;clear M)
   go_round
   case rel=>exact⟨j+1,by omega,by go_num,O3,X3,B3⟩
   case measure=>simp[intOf];omega
  ·have ap:r=j:=by omega
   subst ap
   obtain⟨L,d1,e1,q1⟩:=(uH U).bits
   rw[eO]at e1
   subst e1
   have Q1:=aa q1
   clear q1 U
   go_wp2_with fail
   go_ret
   exact⟨L,d1,rfl,uH Q1,O.out⟩
theorem Bw(a b v:Nat)(o:Option Nat)(w:World)
  (H:∀i w',(binOp .quo i (.float .f64 a) (.float .f64 b)).run Tryz.prog w'=.ok (.float .f64 (fk o a b w')) (le o w'))
  (f:∀w',Calls Tryz.prog 162 #[.int .u64 a] w' fun r d=>r=.returned (.float .f64 a)∧w'=d)
  (h:∀w',Calls Tryz.prog 162 #[.int .u64 b] w' fun r d=>r=.returned (.float .f64 b)∧w'=d)
  (l:∀u w',Calls Tryz.prog 55 #[.float .f64 (fk o a b u)] w' fun r d=>r=.returned (.int .u64 v)∧w'=d):
  Calls Tryz.prog 206 #[.int .u64 a,.int .u64 b] w fun r w'=>r=.returned (.int .u64 (v:Nat))∧Below w.heap.size w w':=by
 have z:=aa f;have D:=aa h;have F:=aa l
 have B:=aa (f9 o w)
 clear f h l
 go_enter Tryz.func206,Tryz.ntmps206
 go_wp2_with fail
 refine(uH z _).mono ?_
 rintro e G ⟨rfl,rfl⟩
 go_wp2_with fail
 refine(uH D _).mono ?_
 rintro e G ⟨rfl,rfl⟩
 go_wp2_with fail
 refine(uH F _ _).mono ?_
 rintro e G ⟨rfl,rfl⟩
 clear z D F
 go_wp2
 go_ret
 exact⟨rfl,uH B⟩
theorem p6(a b:Nat)(w:World)(f:a<18446744073709551616)(h:b<18446744073709551616):
  Calls Tryz.prog 206 #[.int .u64 a,.int .u64 b] w fun r w'=>r=.returned (.int .u64 (dV a b:Nat))∧Below w.heap.size w w':=
 Bw a b (dV a b) (Ieee.double.div a b) w (fun i w'=>Aq i a b w') (fun w'=>gA a w' f) (fun w'=>gA b w' h) (fun u w'=>pT _ _ w' (fun d=>xH a b u d f h))
end Go.Proofs.YtdhmglmccafbnaaGreatDoor
