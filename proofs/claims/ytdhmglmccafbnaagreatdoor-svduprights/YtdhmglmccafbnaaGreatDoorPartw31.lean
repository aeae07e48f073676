/- Part 31 of the texts. -/
import Derived.Test.YtdhmglmccafbnaaGreatDoorPartw30
set_option maxHeartbeats 16000000
set_option maxRecDepth 20000
namespace Go.Proofs.YtdhmglmccafbnaaGreatDoor
open Go.RowKit
attribute [local go_sem ↓] Go.wp_at_zero Go.wp_at_succ
theorem tM(r c N M low a5 a6:Nat)(a7 a9:Option Addr)(W0 V0:List Nat)(w:World)(mw:Mx w a7 a5 r c W0)(mv:Mx w a9 a6 c c V0)(hN:W0.length=N)(hM:V0.length=M)(be:low<18446744073709551616):
  Calls Tryz.prog 95 #[.agg #[.int .i64 r,.int .i64 c,.slice a7 N a5],.agg #[.int .i64 c,.int .i64 c,.slice a9 M a6],.int .u64 low] w fun e w'=>BO w' r c N M (mb r c low ⟨W0,V0,true⟩ c) e∧Below w.heap.size w w':=by
 have u:=aa (cD.start (s:=⟨W0,V0,true⟩) mw mv hN hM)
 have am:c≤6:=mw.2.2.2
 have ap:r≤6:=mw.2.2.1
 have RN:=aa (show r*c=N∧c*c=M from⟨mw.2.1.symm.trans hN,mv.2.1.symm.trans hM⟩)
 have OI:=aa (fun p (h:p<c)=>(show mb r c low ⟨W0,V0,true⟩ (p+1)=mJ r c low p (mb r c low ⟨W0,V0,true⟩ p) (c-1-p)from rfl))
 generalize bE:(⟨W0,V0,true⟩:Sd)=s0 at*
 have e0:s0.still=true:=by rw[←bE]
 clear mw mv hN hM
 go_enter Tryz.func95,Tryz.ntmps95
 go_wp2_with fail
 go_loopg [9,10] c (fun g b a wr=>∃(p:Nat) (J F:Option Addr) (wc G:Nat),p+g=c∧a=.int .i64 p∧b=.bool (mb r c low s0 p).still∧Hid (cD w wr r c N M (mb r c low s0 p) J F wc G))
 case atStart=>exact⟨0,a7,a9,a5,a6,Nat.zero_add _,rfl,by show Value.bool true=.bool s0.still;rw[e0],u⟩
 case round=>
  clear u
  obtain⟨p,J,F,wc,G,hp,rfl,rfl,u⟩:=hrel
  cases gk with
  |succ gh=>
   have ax:p<c:=by omega
   have bg:(p:Int)<(c:Int):=by omega
   obtain⟨p1,bo⟩:∃p1,p1=p+1:=⟨_,rfl⟩
   have e1:IntKind.i64.wrap ((p:Int)+1)=(p1:Int):=(cX _ (by omega)).trans (by omega)
   have e2:(p:Int)+1=(p1:Int):=by omega
   have aI:=aa bo
   clear bo
   have OE:=aa (uH OI p ax)
   have PO:=aa (show∀P:Sd→Prop,P (mJ r c low p (mb r c low s0 p) (c-1-p))→P (mb r c low s0 (p+1))from fun P h=>by rw[uH OE];exact h)
   have y1:=(uH u).bw.c1
   generalize b3:mb r c low s0 p=sp at*
   clear b3 OE
   go_wp2_with fail
   clear y1
   go_loopg [9,11] (c-1-p) (fun g2 b a wr=>∃(t:Nat) (J F:Option Addr) (wc G:Nat),t+g2=c-1-p∧a=.int .i64 ((p1+t:Nat):Int)∧b=.bool (mJ r c low p sp t).still∧Hid (cD w wr r c N M (mJ r c low p sp t) J F wc G))
   case atStart=>exact⟨0,J,F,wc,G,Nat.zero_add _,rfl,rfl,u⟩
   case round=>
    clear u
    obtain⟨t,J,F,wc,G,ht,rfl,rfl,u⟩:=hrel
    obtain⟨q,hq⟩:∃q,p1+t=q:=⟨_,rfl⟩
    have SU:=aa (show mJ r c low p sp (t+1)=tX r c low p (p+1+t) (mJ r c low p sp t)from rfl)
    rw[show p+1+t=q from by have:=uH aI;omega]at SU
    rw[hq]
    generalize hs:mJ r c low p sp t=s at*
    have y1:=(uH u).bw.c1
    cases gk with
    |succ g2=>
     have ba:q<c:=by have:=uH aI;omega
     have bz:(q:Int)<(c:Int):=by omega
     have bi:p≠q:=by have:=uH aI;omega
     have y0:=(uH u).bw.c0;have y1:=(uH u).bw.c1;have y2:=(uH u).bw.c2
     have K:=aa (ot r c wc p J s.W wr (uH u).mw ax)
     rw[(uH u).hN,vu]at K
     go_wp2_with fail
     clear y0 y1 y2
     refine Calls.mono (uH K) ?_
     rintro e w3 ⟨bq,d1,rfl,bt,D⟩
     replace u:=aa ((uH u).all D)
     have ae:=aa bt
     clear D bt K
     have y0:=(uH u).bw.c0;have y1:=(uH u).bw.c1;have y2:=(uH u).bw.c2
     have K:=aa (ot r c wc q J s.W w3 (uH u).mw ba)
     rw[(uH u).hN,vu]at K
     go_wp2_with fail
     clear y0 y1 y2
     refine Calls.mono (uH K) ?_
     rintro e w4 ⟨bx,d2,rfl,H,D⟩
     replace u:=aa ((uH u).all D);replace ae:=aa ((uH ae).below D)
     have ao:=aa H
     clear D H K
     have K:=aa (yA r c p q d1 d2 low bq bx s.W w4 (uH ae) (uH ao) ap be)
     go_wp2_with fail
     refine Calls.mono (uH K) ?_
     rintro e w5 ⟨rfl,D⟩
     replace u:=aa ((uH u).all D);replace ae:=aa ((uH ae).below D);replace ao:=aa ((uH ao).below D)
     clear D K
     cases hsb:Ck r c low s.W p q
     ·have bb:tX r c low p q s=Is r c p q s:=by
       unfold tX
       rw[if_neg (by rw[hsb];decide)]
      rw[bb]at SU
      clear hsb
      have K:=aa (tK r c p q d1 d2 bq bx s.W w5 (uH ae) (uH ao) ap)
      go_wp2_with fail
      refine Calls.mono (uH K) ?_
      rintro e w6 ⟨rfl,D⟩
      replace u:=aa ((uH u).all D)
      clear D K ae ao
      unfold Is at SU
      have lC:=qZ (jm r c s.W p q);have lS:=BK (jm r c s.W p q)
      generalize mI (jm r c s.W p q)=C at*
      generalize tq (jm r c s.W p q)=S at*
      have KM:=aa (fun w'=>iG S w' lS)
      have lM:=gH S lS
      generalize fN S=X at*
      go_wp2_with fail
      refine aj (fun W=>cD w W r c N M s J F wc G) (uH u) ?_
      clear u
      rintro V2 f
      have f:=f.all (Below.refl V2.heap.size V2).drew
      have KC:=aa (fun w' (D:Below V2.drew.heap.size V2.drew w')=>lZ r c wc p q C X J s.W w' (f.mw.below D) ax ba bi lC lM)
      rw[f.hN]at KC
      have u:=aa f
      clear f
      refine iw (T:=Option Addr×Nat) (fun a t=>(((((((a.put (some 46) (.agg #[.int .i64 (r:Nat),.int .i64 (c:Nat),.slice J N wc])).put (some 47) (.int .i64 (p:Nat))).put (some 48) (.int .i64 (q:Nat))).put (some 49) (.int .u64 (C:Nat))).put (some 50) (.int .u64 (S:Nat))).put (some 51) (.int .u64 (X:Nat))).put (some 52) (.agg #[.int .i64 (r:Nat),.int .i64 (c:Nat),.slice t.1 N t.2]))) (fun t w'=>cD w w' r c N M ⟨fu r c s.W p q C X,s.V,false⟩ t.1 F t.2 G) ?_ ?_
      ·have y0:=(uH u).bw.c0;have y1:=(uH u).bw.c1;have y2:=(uH u).bw.c2
       refine wp_region_held_drew (S:=fun w'=>True) (by kernel_rfl) ?_ (fun d=>?_)
       ·exact trivial
       refine wpAnyH_take (i:=1) (oi:={dst:=some 47,op:=Op.move (Operand.tmp 10),type:=3,pos:= "ref.go:60",after:=#[],guard:=none}) (v:=.int .i64 (p:Nat)) rfl (by kernel_rfl) (by kernel_rfl) (by kernel_rfl) (fun _ _ _ h=>h) (Or.inl ⟨by rfl,?_⟩) (by assumption) ?_
       ·(intro w z;(try dsimp only at z);go_simp)
       simp only[Act.put,List.setIfInBounds_toArray,List.set_cons_zero,List.set_cons_succ]
       refine wpAnyH_take (i:=2) (oi:={dst:=some 48,op:=Op.move (Operand.tmp 11),type:=3,pos:= "ref.go:60",after:=#[],guard:=none}) (v:=.int .i64 (q:Nat)) rfl (by kernel_rfl) (by kernel_rfl) (by kernel_rfl) (fun _ _ _ h=>h) (Or.inl ⟨by rfl,?_⟩) (by assumption) ?_
       ·(intro w z;(try dsimp only at z);go_simp)
       simp only[Act.put,List.setIfInBounds_toArray,List.set_cons_zero,List.set_cons_succ]
       refine wpAnyH_take (i:=3) (oi:={dst:=some 49,op:=Op.move (Operand.tmp 14),type:=28,pos:= "ref.go:60",after:=#[],guard:=none}) (v:=.int .u64 (C:Nat)) rfl (by kernel_rfl) (by kernel_rfl) (by kernel_rfl) (fun _ _ _ h=>h) (Or.inl ⟨by rfl,?_⟩) (by assumption) ?_
       ·(intro w z;(try dsimp only at z);go_simp)
       simp only[Act.put,List.setIfInBounds_toArray,List.set_cons_zero,List.set_cons_succ]
       refine wpAnyH_take (i:=4) (oi:={dst:=some 50,op:=Op.move (Operand.tmp 15),type:=28,pos:= "ref.go:60",after:=#[],guard:=none}) (v:=.int .u64 (S:Nat)) rfl (by kernel_rfl) (by kernel_rfl) (by kernel_rfl) (fun _ _ _ h=>h) (Or.inl ⟨by rfl,?_⟩) (by assumption) ?_
       ·(intro w z;(try dsimp only at z);go_simp)
       simp only[Act.put,List.setIfInBounds_toArray,List.set_cons_zero,List.set_cons_succ]
       refine wpAnyH_ready (rs:=[0,5]) (by kernel_rfl) (by simp) ?_
       refine AllReadyH.cons (o:={dst:=some 46,op:=Op.load 25 (Operand.tmp 3),type:=25,pos:= "ref.go:60",after:=#[],guard:=none}) rfl (fun K l=>?_) (AllReadyH.cons (o:={dst:=some 51,op:=Op.call {callee:=Callee.value (Operand.func 166),args:=#[Operand.tmp 50],argTypes:=#[28]},type:=28,pos:= "ref.go:60",after:=#[{on:=4,ground:=Ground.data}],guard:=none}) rfl (fun K l=>?_) AllReadyH.nil)
       ·go_simp
        refine l.out _ _ ?_ (fun d=>?_)
        ·exact trivial
        clear l K
        refine wpAnyH_ready (rs:=[5]) (by kernel_rfl) (by simp) ?_
        refine AllReadyH.cons (o:={dst:=some 51,op:=Op.call {callee:=Callee.value (Operand.func 166),args:=#[Operand.tmp 50],argTypes:=#[28]},type:=28,pos:= "ref.go:60",after:=#[{on:=4,ground:=Ground.data}],guard:=none}) rfl (fun K l=>?_) AllReadyH.nil
        go_simp
        refine(uH KM _).mono ?_
        rintro e w5 ⟨rfl,rfl⟩
        go_wp2_with fail
        refine l.out _ _ ?_ (fun d=>?_)
        ·exact trivial
        clear l K
        refine wpAnyH_ready (rs:=[6]) (by kernel_rfl) (by simp) ?_
        refine AllReadyH.cons (o:={dst:=some 52,op:=Op.call {callee:=Callee.value (Operand.func 149),args:=#[Operand.tmp 46,Operand.tmp 47,Operand.tmp 48,Operand.tmp 49,Operand.tmp 51],argTypes:=#[25,3,3,28,28]},type:=25,pos:= "ref.go:60",after:=#[{on:=0,ground:=Ground.data},{on:=1,ground:=Ground.data},{on:=2,ground:=Ground.data},{on:=3,ground:=Ground.data},{on:=5,ground:=Ground.data},{on:=5,ground:=Ground.chain}],guard:=none}) rfl (fun K l=>?_) AllReadyH.nil
        go_simp
        refine(uH KC _ (Below.refl _ _)).mono ?_
        rintro e w6 ⟨L,O,rfl,H,D⟩
        have f:=(uH u).all D
        have Q:(fu r c s.W p q C X).length=N:=(co _ _ _ _ _ _ _).trans (uH RN).1
        have z0:=f.bw.c0;have z1:=f.bw.c1;have z2:=f.bw.c2;have f0:=f.bw.free 0;have f1:=f.bw.free 1;have f2:=f.bw.free 2
        have S2:=aa (show cD w _ r c N M ⟨fu r c s.W p q C X,s.V,false⟩ L F O G from f.putW (⟨H,co _ _ _ _ _ _ _,ap,am⟩:Mx w6 L O r c (fu r c s.W p q C X)) Q false)
        clear f H D Q
        go_wp2_with fail
        refine l.out _ _ ?_ (fun d=>?_)
        ·exact trivial
        clear l K
        refine wpAnyH_ready (rs:=[7]) (by kernel_rfl) (by simp) ?_
        refine AllReadyH.cons (o:={dst:=none,op:=Op.store 25 (Operand.tmp 3) (Operand.tmp 52),type:=0,pos:= "ref.go:60",after:=#[{on:=6,ground:=Ground.data},{on:=6,ground:=Ground.chain},{on:=0,ground:=Ground.phase},{on:=1,ground:=Ground.phase},{on:=2,ground:=Ground.phase},{on:=3,ground:=Ground.phase},{on:=4,ground:=Ground.phase},{on:=5,ground:=Ground.phase},{on:=6,ground:=Ground.phase}],guard:=none}) rfl (fun K l=>?_) AllReadyH.nil
        go_simp
        refine l.out _ _ ?_ (fun d=>?_)
        ·exact trivial
        clear l K
        refine wpAnyH_done (by kernel_rfl) ?_ _
        exact⟨⟨L,O⟩,by first|rfl|simp[Act.put],uH S2⟩
       ·go_simp
        refine(uH KM _).mono ?_
        rintro e w5 ⟨rfl,rfl⟩
        go_wp2_with fail
        refine l.out _ _ ?_ (fun d=>?_)
        ·exact trivial
        clear l K
        refine wpAnyH_ready (rs:=[0]) (by kernel_rfl) (by simp) ?_
        refine AllReadyH.cons (o:={dst:=some 46,op:=Op.load 25 (Operand.tmp 3),type:=25,pos:= "ref.go:60",after:=#[],guard:=none}) rfl (fun K l=>?_) AllReadyH.nil
        go_simp
        refine l.out _ _ ?_ (fun d=>?_)
        ·exact trivial
        clear l K
        refine wpAnyH_ready (rs:=[6]) (by kernel_rfl) (by simp) ?_
        refine AllReadyH.cons (o:={dst:=some 52,op:=Op.call {callee:=Callee.value (Operand.func 149),args:=#[Operand.tmp 46,Operand.tmp 47,Operand.tmp 48,Operand.tmp 49,Operand.tmp 51],argTypes:=#[25,3,3,28,28]},type:=25,pos:= "ref.go:60",after:=#[{on:=0,ground:=Ground.data},{on:=1,ground:=Ground.data},{on:=2,ground:=Ground.data},{on:=3,ground:=Ground.data},{on:=5,ground:=Ground.data},{on:=5,ground:=Ground.chain}],guard:=none}) rfl (fun K l=>?_) AllReadyH.nil
        go_simp
        refine(uH KC _ (Below.refl _ _)).mono ?_
        rintro e w6 ⟨L,O,rfl,H,D⟩
        have f:=(uH u).all D
        have Q:(fu r c s.W p q C X).length=N:=(co _ _ _ _ _ _ _).trans (uH RN).1
        have z0:=f.bw.c0;have z1:=f.bw.c1;have z2:=f.bw.c2;have f0:=f.bw.free 0;have f1:=f.bw.free 1;have f2:=f.bw.free 2
        have S2:=aa (show cD w _ r c N M ⟨fu r c s.W p q C X,s.V,false⟩ L F O G from f.putW (⟨H,co _ _ _ _ _ _ _,ap,am⟩:Mx w6 L O r c (fu r c s.W p q C X)) Q false)
        clear f H D Q
        go_wp2_with fail
        refine l.out _ _ ?_ (fun d=>?_)
        ·exact trivial
        clear l K
        refine wpAnyH_ready (rs:=[7]) (by kernel_rfl) (by simp) ?_
        refine AllReadyH.cons (o:={dst:=none,op:=Op.store 25 (Operand.tmp 3) (Operand.tmp 52),type:=0,pos:= "ref.go:60",after:=#[{on:=6,ground:=Ground.data},{on:=6,ground:=Ground.chain},{on:=0,ground:=Ground.phase},{on:=1,ground:=Ground.phase},{on:=2,ground:=Ground.phase},{on:=3,ground:=Ground.phase},{on:=4,ground:=Ground.phase},{on:=5,ground:=Ground.phase},{on:=6,ground:=Ground.phase}],guard:=none}) rfl (fun K l=>?_) AllReadyH.nil
        go_simp
        refine l.out _ _ ?_ (fun d=>?_)
        ·exact trivial
        clear l K
        refine wpAnyH_done (by kernel_rfl) ?_ _
        exact⟨⟨L,O⟩,by first|rfl|simp[Act.put],uH S2⟩
      rintro⟨L,O⟩ V3 f
      simp only[Act.put,List.setIfInBounds_toArray,List.set_cons_zero,List.set_cons_succ]
      have u:=aa f
      clear f
      go_wp2_with fail
      refine aj (fun W=>cD w W r c N M ⟨fu r c s.W p q C X,s.V,false⟩ L F O G) (uH u) ?_
      clear u
      rintro V4 f
      have f:=f.all (Below.refl V4.heap.size V4).drew
      have bm:s.V.length=M:=f.hM
      have KC:=aa (fun w' (D:Below V4.drew.heap.size V4.drew w')=>lZ c c G p q C X F s.V w' (f.mv.below D) ax ba bi lC lM)
      rw[bm]at KC
      have u:=aa f
      clear f bm
      refine iw (T:=Option Addr×Nat) (fun a t=>(((((((a.put (some 53) (.agg #[.int .i64 (c:Nat),.int .i64 (c:Nat),.slice F M G])).put (some 54) (.int .i64 (p:Nat))).put (some 55) (.int .i64 (q:Nat))).put (some 56) (.int .u64 (C:Nat))).put (some 57) (.int .u64 (S:Nat))).put (some 58) (.int .u64 (X:Nat))).put (some 59) (.agg #[.int .i64 (c:Nat),.int .i64 (c:Nat),.slice t.1 M t.2]))) (fun t w'=>cD w w' r c N M ⟨fu r c s.W p q C X,fu c c s.V p q C X,false⟩ L t.1 O t.2) ?_ ?_
      ·have y0:=(uH u).bv.c0;have y1:=(uH u).bv.c1;have y2:=(uH u).bv.c2
       refine wp_region_held_drew (S:=fun w'=>True) (by kernel_rfl) ?_ (fun d=>?_)
       ·exact trivial
       refine wpAnyH_take (i:=1) (oi:={dst:=some 54,op:=Op.move (Operand.tmp 10),type:=3,pos:= "ref.go:61",after:=#[],guard:=none}) (v:=.int .i64 (p:Nat)) rfl (by kernel_rfl) (by kernel_rfl) (by kernel_rfl) (fun _ _ _ h=>h) (Or.inl ⟨by rfl,?_⟩) (by assumption) ?_
       ·(intro w z;(try dsimp only at z);go_simp)
       simp only[Act.put,List.setIfInBounds_toArray,List.set_cons_zero,List.set_cons_succ]
       refine wpAnyH_take (i:=2) (oi:={dst:=some 55,op:=Op.move (Operand.tmp 11),type:=3,pos:= "ref.go:61",after:=#[],guard:=none}) (v:=.int .i64 (q:Nat)) rfl (by kernel_rfl) (by kernel_rfl) (by kernel_rfl) (fun _ _ _ h=>h) (Or.inl ⟨by rfl,?_⟩) (by assumption) ?_
       ·(intro w z;(try dsimp only at z);go_simp)
       simp only[Act.put,List.setIfInBounds_toArray,List.set_cons_zero,List.set_cons_succ]
       refine wpAnyH_take (i:=3) (oi:={dst:=some 56,op:=Op.move (Operand.tmp 14),type:=28,pos:= "ref.go:61",after:=#[],guard:=none}) (v:=.int .u64 (C:Nat)) rfl (by kernel_rfl) (by kernel_rfl) (by kernel_rfl) (fun _ _ _ h=>h) (Or.inl ⟨by rfl,?_⟩) (by assumption) ?_
       ·(intro w z;(try dsimp only at z);go_simp)
       simp only[Act.put,List.setIfInBounds_toArray,List.set_cons_zero,List.set_cons_succ]
       refine wpAnyH_take (i:=4) (oi:={dst:=some 57,op:=Op.move (Operand.tmp 15),type:=28,pos:= "ref.go:61",after:=#[],guard:=none}) (v:=.int .u64 (S:Nat)) rfl (by kernel_rfl) (by kernel_rfl) (by kernel_rfl) (fun _ _ _ h=>h) (Or.inl ⟨by rfl,?_⟩) (by assumption) ?_
       ·(intro w z;(try dsimp only at z);go_simp)
       simp only[Act.put,List.setIfInBounds_toArray,List.set_cons_zero,List.set_cons_succ]
       refine wpAnyH_ready (rs:=[0,5]) (by kernel_rfl) (by simp) ?_
       refine AllReadyH.cons (o:={dst:=some 53,op:=Op.load 25 (Operand.tmp 4),type:=25,pos:= "ref.go:61",after:=#[],guard:=none}) rfl (fun K l=>?_) (AllReadyH.cons (o:={dst:=some 58,op:=Op.call {callee:=Callee.value (Operand.func 166),args:=#[Operand.tmp 57],argTypes:=#[28]},type:=28,pos:= "ref.go:61",after:=#[{on:=4,ground:=Ground.data}],guard:=none}) rfl (fun K l=>?_) AllReadyH.nil)
       ·go_simp
        refine l.out _ _ ?_ (fun d=>?_)
        ·exact trivial
        clear l K
        refine wpAnyH_ready (rs:=[5]) (by kernel_rfl) (by simp) ?_
        refine AllReadyH.cons (o:={dst:=some 58,op:=Op.call {callee:=Callee.value (Operand.func 166),args:=#[Operand.tmp 57],argTypes:=#[28]},type:=28,pos:= "ref.go:61",after:=#[{on:=4,ground:=Ground.data}],guard:=none}) rfl (fun K l=>?_) AllReadyH.nil
        go_simp
        refine(uH KM _).mono ?_
        rintro e w5 ⟨rfl,rfl⟩
        go_wp2_with fail
        refine l.out _ _ ?_ (fun d=>?_)
        ·exact trivial
        clear l K
        refine wpAnyH_ready (rs:=[6]) (by kernel_rfl) (by simp) ?_
        refine AllReadyH.cons (o:={dst:=some 59,op:=Op.call {callee:=Callee.value (Operand.func 149),args:=#[Operand.tmp 53,Operand.tmp 54,Operand.tmp 55,Operand.tmp 56,Operand.tmp 58],argTypes:=#[25,3,3,28,28]},type:=25,pos:= "ref.go:61",after:=#[{on:=0,ground:=Ground.data},{on:=1,ground:=Ground.data},{on:=2,ground:=Ground.data},{on:=3,ground:=Ground.data},{on:=5,ground:=Ground.data},{on:=5,ground:=Ground.chain}],guard:=none}) rfl (fun K l=>?_) AllReadyH.nil
        go_simp
        refine(uH KC _ (Below.refl _ _)).mono ?_
        rintro e w6 ⟨Y,Z,rfl,H,D⟩
        have f:=(uH u).all D
        have Q:(fu c c s.V p q C X).length=M:=(co _ _ _ _ _ _ _).trans (uH RN).2
        have z0:=f.bv.c0;have z1:=f.bv.c1;have z2:=f.bv.c2;have f0:=f.bv.free 0;have f1:=f.bv.free 1;have f2:=f.bv.free 2
        have S2:=aa (show cD w _ r c N M ⟨fu r c s.W p q C X,fu c c s.V p q C X,false⟩ L Y O Z from f.putV (⟨H,co _ _ _ _ _ _ _,am,am⟩:Mx w6 Y Z c c (fu c c s.V p q C X)) Q false)
        clear f H D Q
        go_wp2_with fail
        refine l.out _ _ ?_ (fun d=>?_)
        ·exact trivial
        clear l K
        refine wpAnyH_ready (rs:=[7]) (by kernel_rfl) (by simp) ?_
        refine AllReadyH.cons (o:={dst:=none,op:=Op.store 25 (Operand.tmp 4) (Operand.tmp 59),type:=0,pos:= "ref.go:61",after:=#[{on:=6,ground:=Ground.data},{on:=6,ground:=Ground.chain},{on:=0,ground:=Ground.phase},{on:=1,ground:=Ground.phase},{on:=2,ground:=Ground.phase},{on:=3,ground:=Ground.phase},{on:=4,ground:=Ground.phase},{on:=5,ground:=Ground.phase},{on:=6,ground:=Ground.phase}],guard:=none}) rfl (fun K l=>?_) AllReadyH.nil
        go_simp
        refine l.out _ _ ?_ (fun d=>?_)
        ·exact trivial
        clear l K
        refine wpAnyH_done (by kernel_rfl) ?_ _
        exact⟨⟨Y,Z⟩,by first|rfl|simp[Act.put],uH S2⟩
       ·go_simp
        refine(uH KM _).mono ?_
        rintro e w5 ⟨rfl,rfl⟩
        go_wp2_with fail
        refine l.out _ _ ?_ (fun d=>?_)
        ·exact trivial
        clear l K
        refine wpAnyH_ready (rs:=[0]) (by kernel_rfl) (by simp) ?_
        refine AllReadyH.cons (o:={dst:=some 53,op:=Op.load 25 (Operand.tmp 4),type:=25,pos:= "ref.go:61",after:=#[],guard:=none}) rfl (fun K l=>?_) AllReadyH.nil
        go_simp
        refine l.out _ _ ?_ (fun d=>?_)
        ·exact trivial
        clear l K
        refine wpAnyH_ready (rs:=[6]) (by kernel_rfl) (by simp) ?_
        refine AllReadyH.cons (o:={dst:=some 59,op:=Op.call {callee:=Callee.value (Operand.func 149),args:=#[Operand.tmp 53,Operand.tmp 54,Operand.tmp 55,Operand.tmp 56,Operand.tmp 58],argTypes:=#[25,3,3,28,28]},type:=25,pos:= "ref.go:61",after:=#[{on:=0,ground:=Ground.data},{on:=1,ground:=Ground.data},{on:=2,ground:=Ground.data},{on:=3,ground:=Ground.data},{on:=5,ground:=Ground.data},{on:=5,ground:=Ground.chain}],guard:=none}) rfl (fun K l=>?_) AllReadyH.nil
        go_simp
        refine(uH KC _ (Below.refl _ _)).mono ?_
        rintro e w6 ⟨Y,Z,rfl,H,D⟩
        have f:=(uH u).all D
        have Q:(fu c c s.V p q C X).length=M:=(co _ _ _ _ _ _ _).trans (uH RN).2
        have z0:=f.bv.c0;have z1:=f.bv.c1;have z2:=f.bv.c2;have f0:=f.bv.free 0;have f1:=f.bv.free 1;have f2:=f.bv.free 2
        have S2:=aa (show cD w _ r c N M ⟨fu r c s.W p q C X,fu c c s.V p q C X,false⟩ L Y O Z from f.putV (⟨H,co _ _ _ _ _ _ _,am,am⟩:Mx w6 Y Z c c (fu c c s.V p q C X)) Q false)
        clear f H D Q
        go_wp2_with fail
        refine l.out _ _ ?_ (fun d=>?_)
        ·exact trivial
        clear l K
        refine wpAnyH_ready (rs:=[7]) (by kernel_rfl) (by simp) ?_
        refine AllReadyH.cons (o:={dst:=none,op:=Op.store 25 (Operand.tmp 4) (Operand.tmp 59),type:=0,pos:= "ref.go:61",after:=#[{on:=6,ground:=Ground.data},{on:=6,ground:=Ground.chain},{on:=0,ground:=Ground.phase},{on:=1,ground:=Ground.phase},{on:=2,ground:=Ground.phase},{on:=3,ground:=Ground.phase},{on:=4,ground:=Ground.phase},{on:=5,ground:=Ground.phase},{on:=6,ground:=Ground.phase}],guard:=none}) rfl (fun K l=>?_) AllReadyH.nil
        go_simp
        refine l.out _ _ ?_ (fun d=>?_)
        ·exact trivial
        clear l K
        refine wpAnyH_done (by kernel_rfl) ?_ _
        exact⟨⟨Y,Z⟩,by first|rfl|simp[Act.put],uH S2⟩
      rintro⟨Y,Z⟩ V5 f
      simp only[Act.put,List.setIfInBounds_toArray,List.set_cons_zero,List.set_cons_succ]
      have u:=aa f
      clear f
      go_wp2_with fail
      go_roundg g2
      case measure=>omega
      case rel=>exact⟨t+1,L,Y,O,Z,by omega,by go_num,by rw[uH SU],aa (by rw[uH SU];exact uH u)⟩
     ·have bb:tX r c low p q s=s:=oy hsb
      rw[bb]at SU
      clear ae ao
      go_wp2_with fail
      go_roundg g2
      case measure=>omega
      case rel=>exact⟨t+1,J,F,wc,G,by omega,by go_num,by rw[uH SU],aa (by rw[uH SU];exact uH u)⟩
    |zero=>
     have bz:¬((q:Int)<(c:Int)):=by have:=uH aI;omega
     have bn:t=c-1-p:=by omega
     go_wp2_with fail
     clear y1
     go_roundg gh
     case measure=>omega
     case rel=>exact⟨p+1,J,F,wc,G,by omega,by go_num,by refine uH PO (fun x=>Value.bool s.still=.bool x.still) ?_;rw[←bn,hs],aa (by refine uH PO (fun x=>cD w wr r c N M x J F wc G) ?_;rw[←bn,hs];exact uH u)⟩
  |zero=>
   have bA:p=c:=by omega
   subst bA
   have bg:¬((p:Int)<(p:Int)):=by omega
   have y1:=(uH u).bw.c1
   go_wp2_with fail
   clear y1 bg
   refine aj (fun W=>cD w W r p N M (mb r p low s0 p) J F wc G) (uH u) ?_
   clear u
   rintro V f
   generalize a4:mb r p low s0 p=s at*
   have f:=f.all (Below.refl V.heap.size V).drew
   have y0:=f.bw.c0;have y1:=f.bw.c1;have y2:=f.bw.c2;have u0:=f.bv.c0;have u1:=f.bv.c1;have u2:=f.bv.c2
   have s0:=f.b6.c0;have s1:=f.b6.c1;have s2:=f.b6.c2;have f0:=f.b6.free 0;have f1:=f.b6.free 1;have f2:=f.b6.free 2
   have X6:=f.b6.put (.int .i64 (r:Nat)) (.int .i64 (p:Nat)) (.slice J N wc)
   have X7:=f.b7.three (g:=w.heap.size+1+1) (by omega) (.int .i64 (r:Nat)) (.int .i64 (p:Nat)) (.slice J N wc)
   have t0:=X7.c0;have t1:=X7.c1;have t2:=X7.c2;have g0:=X7.free 0;have g1:=X7.free 1;have g2:=X7.free 2
   have X8:=X7.put (.int .i64 (p:Nat)) (.int .i64 (p:Nat)) (.slice F M G)
   have X9:=X6.three (g:=w.heap.size+1+1+1) (by omega) (.int .i64 (p:Nat)) (.int .i64 (p:Nat)) (.slice F M G)
   have a0:=X9.c0;have a1:=X9.c1;have a2:=X9.c2;have b0:=X8.c0;have b1:=X8.c1;have b2:=X8.c2
   have a3:=aa (show Mx ((((((V.drew.setCell ⟨w.heap.size+1+1,0,none⟩ (.int .i64 (r:Nat))).setCell ⟨w.heap.size+1+1,1,none⟩ (.int .i64 (p:Nat))).setCell ⟨w.heap.size+1+1,2,none⟩ (.slice J N wc)).setCell ⟨w.heap.size+1+1+1,0,none⟩ (.int .i64 (p:Nat))).setCell ⟨w.heap.size+1+1+1,1,none⟩ (.int .i64 (p:Nat))).setCell ⟨w.heap.size+1+1+1,2,none⟩ (.slice F M G)) J wc r p s.W∧Mx ((((((V.drew.setCell ⟨w.heap.size+1+1,0,none⟩ (.int .i64 (r:Nat))).setCell ⟨w.heap.size+1+1,1,none⟩ (.int .i64 (p:Nat))).setCell ⟨w.heap.size+1+1,2,none⟩ (.slice J N wc)).setCell ⟨w.heap.size+1+1+1,0,none⟩ (.int .i64 (p:Nat))).setCell ⟨w.heap.size+1+1+1,1,none⟩ (.int .i64 (p:Nat))).setCell ⟨w.heap.size+1+1+1,2,none⟩ (.slice F M G)) F G p p s.V∧Below w.heap.size w ((((((V.drew.setCell ⟨w.heap.size+1+1,0,none⟩ (.int .i64 (r:Nat))).setCell ⟨w.heap.size+1+1,1,none⟩ (.int .i64 (p:Nat))).setCell ⟨w.heap.size+1+1,2,none⟩ (.slice J N wc)).setCell ⟨w.heap.size+1+1+1,0,none⟩ (.int .i64 (p:Nat))).setCell ⟨w.heap.size+1+1+1,1,none⟩ (.int .i64 (p:Nat))).setCell ⟨w.heap.size+1+1+1,2,none⟩ (.slice F M G))∧s.W.length=N∧s.V.length=M from⟨(f.mw.putM f.b6 _ _ _).putM X7 _ _ _,(f.mv.putM f.b6 _ _ _).putM X7 _ _ _,aq (b:=w.heap.size+1+1+1) (aq (b:=w.heap.size+1+1) f.bel (by omega) _ _ _) (by omega) _ _ _,f.hN,f.hM⟩)
   have H0:=aa (show V.drew.cell? ⟨w.heap.size,0,none⟩=some (.int .i64 (r:Nat))∧V.drew.cell? ⟨w.heap.size,1,none⟩=some (.int .i64 (p:Nat))∧V.drew.cell? ⟨w.heap.size,2,none⟩=some (.slice J N wc)∧V.drew.cell? ⟨w.heap.size+1,0,none⟩=some (.int .i64 (p:Nat))∧V.drew.cell? ⟨w.heap.size+1,1,none⟩=some (.int .i64 (p:Nat))∧V.drew.cell? ⟨w.heap.size+1,2,none⟩=some (.slice F M G)from⟨y0,y1,y2,u0,u1,u2⟩)
   have YY:=(f.bw.three (g:=w.heap.size+1+1) (by omega) (.int .i64 (r:Nat)) (.int .i64 (p:Nat)) (.slice J N wc));have UU:=(f.bv.three (g:=w.heap.size+1+1) (by omega) (.int .i64 (r:Nat)) (.int .i64 (p:Nat)) (.slice J N wc))
   have H1:=aa (And.intro YY.c0 (And.intro YY.c1 (And.intro YY.c2 (And.intro UU.c0 (And.intro UU.c1 UU.c2)))))
   have Y2:=YY.three (g:=w.heap.size+1+1+1) (by omega) (.int .i64 (p:Nat)) (.int .i64 (p:Nat)) (.slice F M G);have U2:=UU.three (g:=w.heap.size+1+1+1) (by omega) (.int .i64 (p:Nat)) (.int .i64 (p:Nat)) (.slice F M G)
   have H2:=aa (And.intro Y2.c0 (And.intro Y2.c1 (And.intro Y2.c2 (And.intro U2.c0 (And.intro U2.c1 U2.c2)))))
   clear f X6 X7 X8 X9 OI e0 YY UU Y2 U2
   generalize b4:s.still=b at*
   refine wp_region_held_drew (S:=fun w'=>w'.cell? ⟨w.heap.size,0,none⟩=some (.int .i64 (r:Nat))∧w'.cell? ⟨w.heap.size,1,none⟩=some (.int .i64 (p:Nat))∧w'.cell? ⟨w.heap.size,2,none⟩=some (.slice J N wc)∧w'.cell? ⟨w.heap.size+1,0,none⟩=some (.int .i64 (p:Nat))∧w'.cell? ⟨w.heap.size+1,1,none⟩=some (.int .i64 (p:Nat))∧w'.cell? ⟨w.heap.size+1,2,none⟩=some (.slice F M G)) (by kernel_rfl) ?_ (fun d=>?_)
   ·exact uH H0
   generalize V.drew=U at*
   refine wpAnyH_take (i:=0) (oi:={dst:=some 60,op:=Op.load 25 (Operand.tmp 3),type:=25,pos:= "ref.go:64",after:=#[],guard:=none}) (v:=.agg #[.int .i64 (r:Nat),.int .i64 (p:Nat),.slice J N wc]) rfl (by kernel_rfl) (by kernel_rfl) (by kernel_rfl) (fun _ _ _ h=>h) (Or.inl ⟨by rfl,?_⟩) (by assumption) ?_
   ·(intro w z;(try dsimp only at z);go_simp)
   simp only[Act.put,List.setIfInBounds_toArray,List.set_cons_zero,List.set_cons_succ]
   refine wpAnyH_take (i:=1) (oi:={dst:=some 61,op:=Op.load 25 (Operand.tmp 4),type:=25,pos:= "ref.go:64",after:=#[{on:=3,ground:=Ground.gcOnly Departure.lateStores}],guard:=none}) (v:=.agg #[.int .i64 (p:Nat),.int .i64 (p:Nat),.slice F M G]) rfl (by kernel_rfl) (by kernel_rfl) (by kernel_rfl) (fun _ _ _ h=>h) (Or.inl ⟨by rfl,?_⟩) (by assumption) ?_
   ·(intro w z;(try dsimp only at z);go_simp)
   simp only[Act.put,List.setIfInBounds_toArray,List.set_cons_zero,List.set_cons_succ]
   refine wpAnyH_take (i:=2) (oi:={dst:=some 62,op:=Op.move (Operand.tmp 9),type:=4,pos:= "ref.go:64",after:=#[{on:=4,ground:=Ground.gcOnly Departure.lateStores}],guard:=none}) (v:=.bool b) rfl (by kernel_rfl) (by kernel_rfl) (by kernel_rfl) (fun _ _ _ h=>h) (Or.inl ⟨by rfl,?_⟩) (by assumption) ?_
   ·(intro w z;(try dsimp only at z);go_simp)
   simp only[Act.put,List.setIfInBounds_toArray,List.set_cons_zero,List.set_cons_succ]
   refine wpAnyH_ready (rs:=[3]) (by kernel_rfl) (by simp) ?_
   refine AllReadyH.cons (o:={dst:=none,op:=Op.store 25 (Operand.tmp 6) (Operand.tmp 60),type:=0,pos:= "ref.go:64",after:=#[{on:=0,ground:=Ground.data},{on:=0,ground:=Ground.phase},{on:=1,ground:=Ground.textOnly Departure.lateStores},{on:=2,ground:=Ground.textOnly Departure.lateStores}],guard:=none}) rfl (fun K l=>?_) AllReadyH.nil
   go_simp
   refine l.out _ _ ?_ (fun d=>?_)
   ·exact uH H1
   clear l K
   refine wpAnyH_ready (rs:=[4]) (by kernel_rfl) (by simp) ?_
   refine AllReadyH.cons (o:={dst:=none,op:=Op.store 25 (Operand.tmp 7) (Operand.tmp 61),type:=0,pos:= "ref.go:64",after:=#[{on:=1,ground:=Ground.data},{on:=3,ground:=Ground.chain},{on:=0,ground:=Ground.phase},{on:=1,ground:=Ground.phase},{on:=2,ground:=Ground.textOnly Departure.lateStores},{on:=3,ground:=Ground.phase}],guard:=none}) rfl (fun K l=>?_) AllReadyH.nil
   go_simp
   refine l.out _ _ ?_ (fun d=>?_)
   ·exact uH H2
   clear l K
   refine wpAnyH_take (i:=5) (oi:={dst:=some 8,op:=Op.assign (Operand.tmp 62),type:=4,pos:= "ref.go:64",after:=#[{on:=2,ground:=Ground.data},{on:=4,ground:=Ground.chain},{on:=0,ground:=Ground.phase},{on:=1,ground:=Ground.phase},{on:=2,ground:=Ground.phase},{on:=3,ground:=Ground.phase},{on:=4,ground:=Ground.phase}],guard:=none}) (v:=.bool b) rfl (by kernel_rfl) (by kernel_rfl) (by kernel_rfl) (fun _ _ _ h=>h) (Or.inl ⟨by rfl,?_⟩) (by assumption) ?_
   ·(intro w z;(try dsimp only at z);go_simp)
   simp only[Act.put,List.setIfInBounds_toArray,List.set_cons_zero,List.set_cons_succ]
   refine wpAnyH_done (by kernel_rfl) ?_ _
   skip
   go_wp2_with fail
   exact bodyPost_ret (v:=.tuple #[.agg #[.int .i64 r,.int .i64 p,.slice J N wc],.agg #[.int .i64 p,.int .i64 p,.slice F M G],.bool b]) (by simp[results,Tryz.results95,go_sem,a0,a1,a2,b0,b1,b2]) rfl ⟨⟨J,wc,F,G,by rw[a4,b4],by rw[a4];exact(uH a3).1,by rw[a4];exact(uH a3).2.1,by rw[a4];exact(uH a3).2.2.2⟩,(uH a3).2.2.1⟩
structure kF (w wr:World) (g5 g r c n cap:Nat) (ao:Option Addr) (L:List Nat):Prop where
 bel:Below w.heap.size w wr
 bm:aw wr w.heap.size (.int .i64 r) (.int .i64 c) (.slice ao n cap)
 b4:aw wr (w.heap.size+1) (.int .i64 0) (.int .i64 0) (.slice none 0 0)
 bo:aw wr g5 (.int .i64 r) (.int .i64 c) (.slice (some ⟨g,0,none⟩) n n)
 row:bp wr g L
 hg:w.heap.size+1<g
 h5:g<g5
theorem kF.all{w wr w':World}{l g r c n d:Nat}{u:Option Addr}{L:List Nat}(h:kF w wr l g r c n d u L)(f:Below wr.heap.size wr w'):kF w w' l g r c n d u L:=
 ⟨h.bel.trans (f.mono h.bel.size),h.bm.all f,h.b4.all f,h.bo.all f,h.row.below f h.row.lt,h.hg,h.h5⟩
theorem kF.set{w wr:World}{f g r c n d:Nat}{l:Option Addr}{L:List Nat}(h:kF w wr f g r c n d l L)(j x:Nat):kF w (wr.setCell ⟨g,j,none⟩ (.int .u64 (x:Int))) f g r c n d l (L.set j x):=by
 have u:=h.hg;have z:=h.h5
 exact⟨h.bel.setCell (p:=⟨g,j,none⟩) (show w.heap.size≤g by omega) _,h.bm.other (p:=⟨g,j,none⟩) (show w.heap.size≠g by omega) _,h.b4.other (p:=⟨g,j,none⟩) (show w.heap.size+1≠g by omega) _,h.bo.other (p:=⟨g,j,none⟩) (show f≠g by omega) _,h.row.set j x,u,z⟩
theorem tN(r c n l:Nat)(k:Int)(H:Option Addr)(I:List Nat)(f:Nat→Nat)(w:World)(hr:r≤6)(hc:c≤6)(hl:I.length=n)(M:r*c=n)(hI:af w H l (aL I))(hf:∀i,i<n→xV (I.getD i 0) k=f i)(hk:-5000≤k∧k≤5000):
  Calls Tryz.prog 92 #[.agg #[.int .i64 r,.int .i64 c,.slice H n l],.int .i64 k] w fun e w'=>∃g,e=.returned (.agg #[.int .i64 r,.int .i64 c,.slice (some ⟨g,0,none⟩) n n])∧w.heap.size≤g∧bp w' g ((List.range n).map f)∧Below w.heap.size w w':=by
 have a1:n≤36:=by rw[←M];exact Nat.mul_le_mul hr hc
 have HI:=aa hI;have HF:=aa hf;have HL:=aa hl;have HK:=aa hk
 have KB:=aa (gC w (.int .i64 r) (.int .i64 c) (.slice H n l) (.int .i64 0) (.int .i64 0) (.slice none 0 0))
 obtain⟨b0,x0,x1⟩:=uH KB ((w.alloc (.cells #[.int .i64 r,.int .i64 c,.slice H n l] 25)).alloc (.cells #[.int .i64 0,.int .i64 0,.slice none 0 0] 25)) (by have:=Below.refl ((w.alloc (.cells #[.int .i64 r,.int .i64 c,.slice H n l] 25)).alloc (.cells #[.int .i64 0,.int .i64 0,.slice none 0 0] 25)).heap.size ((w.alloc (.cells #[.int .i64 r,.int .i64 c,.slice H n l] 25)).alloc (.cells #[.int .i64 0,.int .i64 0,.slice none 0 0] 25));simpa only[ah]using this)
 have s0:((w.alloc (.cells #[.int .i64 r,.int .i64 c,.slice H n l] 25)).alloc (.cells #[.int .i64 0,.int .i64 0,.slice none 0 0] 25)).heap.size=w.heap.size+1+1:=by simp only[ah]
 have y0:=x0.c0;have y1:=x0.c1
 have KZ:=aa (uW r c ((w.alloc (.cells #[.int .i64 r,.int .i64 c,.slice H n l] 25)).alloc (.cells #[.int .i64 0,.int .i64 0,.slice none 0 0] 25)) hr hc)
 rw[M]at KZ
 have HB:=aa b0;have U:=aa x0;have V:=aa x1;have S0:=aa s0
 clear KB b0 x0 x1 s0 hI hf hl M hk
 go_enter Tryz.func92,Tryz.ntmps92
 go_wp2_with fail
 clear y0 y1
 refine Calls.mono (uH KZ) ?_
 rintro e w3 ⟨g,rfl,hg,D,L⟩
 rw[uH S0]at hg
 have X:=ac w3 (.cells #[.int .i64 (r:Nat),.int .i64 (c:Nat),.slice (some ⟨g,0,none⟩) n n] 25)
 have hB:=(uH HB).trans (L.mono (uH HB).size)
 have z:=aa (show kF w _ w3.heap.size g r c n l H (pU f n 0)from⟨hB.trans (X.mono hB.size),((uH U).all L).all X,((uH V).all L).all X,aw.new w3 _ _ _,by rw[sY];exact D.below X D.lt,by omega,D.lt⟩)
 clear L X hB D hg HB U V S0 KZ
 go_wp2_with fail
 generalize w3.alloc (.cells #[.int .i64 (r:Nat),.int .i64 (c:Nat),.slice (some ⟨g,0,none⟩) n n] 25)=w4 at*
 generalize w3.heap.size=g5 at*
 go_loopw[6] (fun a wr=>∃i:Nat,i≤n∧a=.int .i64 i∧Hid (kF w wr g5 g r c n l H (pU f n i))) (fun a _=>n-(intOf a).toNat)
 case atStart=>exact⟨0,Nat.zero_le _,rfl,z⟩
 case round=>
  clear z
  obtain⟨i,hi,rfl,z⟩:=hrel
  by_cases Y:i<n
  ·have ap:(i:Int)<(n:Int):=by omega
   have N:i<I.length:=by have:=uH HL;omega
   obtain⟨G,J,e1,a0,O⟩:=cC ((uH HI).below (uH z).bel) N
   obtain⟨a2,a3,e2,am,_⟩:=cC (uH HI) N
   rw[e1]at e2
   simp only[Option.some.injEq,Addr.mk.injEq]at e2
   obtain⟨rfl,rfl,_⟩:=e2
   have hv:I.getD i 0<18446744073709551616:=by rw[←eI];exact(uH HI).lt i
   have ax:=aa (show G≠g by have:=(uH z).hg;omega)
   have eF:=uH HF i Y
   have KX:=aa (fun w'=>dY (I.getD i 0) k w' hv (uH HK))
   rw[eF]at KX
   obtain⟨o,eo⟩:∃o,f i=o:=⟨_,rfl⟩
   rw[eo]at KX
   have eV:=aa eo
   generalize I.getD i 0=x at*
   subst e1
   have y2:=(uH z).bm.c2
   have Z:=aa O
   clear eo eF hv a0 am N O
   go_wp2_with fail
   clear y2
   refine aj (fun W=>kF w W g5 g r c n l (some ⟨G,J,none⟩) (pU f n i)∧W.cell? ⟨G,J+i,none⟩=some (.int .u64 (x:Nat))) ⟨uH z,uH Z⟩ ?_
   clear z Z
   rintro W ⟨u,hx⟩
   have u:=u.all (Below.refl W.heap.size W).drew
   have H0:=aa (show W.drew.cell? ⟨g5,2,none⟩=some (.slice (some ⟨g,0,none⟩) n n)∧W.drew.cell? ⟨w.heap.size,2,none⟩=some (.slice (some ⟨G,J,none⟩) n l)∧W.drew.cell? ⟨G,J+i,none⟩=some (.int .u64 (x:Nat))from⟨u.bo.c2,u.bm.c2,hx⟩)
   have z:=aa u
   have Z:=aa (show W.drew.cell? ⟨G,J+i,none⟩=some (.int .u64 (x:Nat))from hx)
   clear u hx
   go_wp2_with fail
   refine wp_region_held_drew (S:=fun w'=>w'.cell? ⟨g5,2,none⟩=some (.slice (some ⟨g,0,none⟩) n n)∧w'.cell? ⟨w.heap.size,2,none⟩=some (.slice (some ⟨G,J,none⟩) n l)∧w'.cell? ⟨G,J+i,none⟩=some (.int .u64 (x:Nat))) (by kernel_rfl) ?_ (fun F=>?_)
   ·exact uH H0
   refine wpAnyH_take (i:=0) (oi:={dst:=some 19,op:=Op.fieldAddr 25 (Operand.tmp 5) 2,type:=0,pos:= "ref.go:71",after:=#[],guard:=none}) (v:=.pointer (some ⟨g5,2,none⟩)) rfl (by kernel_rfl) (by kernel_rfl) (by kernel_rfl) (fun _ _ _ h=>h) (Or.inl ⟨by rfl,?_⟩) (by assumption) ?_
   ·(intro w d;(try dsimp only at d);go_simp)
   simp only[Act.put,List.setIfInBounds_toArray,List.set_cons_zero,List.set_cons_succ]
   refine wpAnyH_take (i:=1) (oi:={dst:=some 20,op:=Op.load 23 (Operand.tmp 19),type:=23,pos:= "ref.go:71",after:=#[{on:=0,ground:=Ground.data}],guard:=none}) (v:=.slice (some ⟨g,0,none⟩) n n) rfl (by kernel_rfl) (by kernel_rfl) (by kernel_rfl) (fun _ _ _ h=>h) (Or.inl ⟨by rfl,?_⟩) (by assumption) ?_
   ·(intro w d;(try dsimp only at d);go_simp)
   simp only[Act.put,List.setIfInBounds_toArray,List.set_cons_zero,List.set_cons_succ]
   refine wpAnyH_take (i:=2) (oi:={dst:=some 21,op:=Op.move (Operand.tmp 6),type:=3,pos:= "ref.go:71",after:=#[],guard:=none}) (v:=.int .i64 (i:Nat)) rfl (by kernel_rfl) (by kernel_rfl) (by kernel_rfl) (fun _ _ _ h=>h) (Or.inl ⟨by rfl,?_⟩) (by assumption) ?_
   ·(intro w d;(try dsimp only at d);go_simp)
   simp only[Act.put,List.setIfInBounds_toArray,List.set_cons_zero,List.set_cons_succ]
   refine wpAnyH_take (i:=3) (oi:={dst:=some 22,op:=Op.fieldAddr 25 (Operand.tmp 2) 2,type:=0,pos:= "ref.go:71",after:=#[],guard:=none}) (v:=.pointer (some ⟨w.heap.size,2,none⟩)) rfl (by kernel_rfl) (by kernel_rfl) (by kernel_rfl) (fun _ _ _ h=>h) (Or.inl ⟨by rfl,?_⟩) (by assumption) ?_
   ·(intro w d;(try dsimp only at d);go_simp)
   simp only[Act.put,List.setIfInBounds_toArray,List.set_cons_zero,List.set_cons_succ]
   refine wpAnyH_take (i:=4) (oi:={dst:=some 23,op:=Op.load 23 (Operand.tmp 22),type:=23,pos:= "ref.go:71",after:=#[{on:=3,ground:=Ground.data}],guard:=none}) (v:=.slice (some ⟨G,J,none⟩) n l) rfl (by kernel_rfl) (by kernel_rfl) (by kernel_rfl) (fun _ _ _ h=>h) (Or.inl ⟨by rfl,?_⟩) (by assumption) ?_
   ·(intro w d;(try dsimp only at d);go_simp)
   simp only[Act.put,List.setIfInBounds_toArray,List.set_cons_zero,List.set_cons_succ]
   refine wpAnyH_take (i:=5) (oi:={dst:=some 24,op:=Op.move (Operand.tmp 6),type:=3,pos:= "ref.go:71",after:=#[],guard:=none}) (v:=.int .i64 (i:Nat)) rfl (by kernel_rfl) (by kernel_rfl) (by kernel_rfl) (fun _ _ _ h=>h) (Or.inl ⟨by rfl,?_⟩) (by assumption) ?_
   ·(intro w d;(try dsimp only at d);go_simp)
   simp only[Act.put,List.setIfInBounds_toArray,List.set_cons_zero,List.set_cons_succ]
   refine wpAnyH_take (i:=6) (oi:={dst:=some 25,op:=Op.indexAddr 23 (Operand.tmp 23) (Operand.tmp 24),type:=0,pos:= "ref.go:71",after:=#[{on:=4,ground:=Ground.data},{on:=5,ground:=Ground.data}],guard:=none}) (v:=.pointer (some ⟨G,J+i,none⟩)) rfl (by kernel_rfl) (by kernel_rfl) (by kernel_rfl) (fun _ _ _ h=>h) (Or.inl ⟨by rfl,?_⟩) (by assumption) ?_
   ·(intro w d;(try dsimp only at d);go_simp)
   simp only[Act.put,List.setIfInBounds_toArray,List.set_cons_zero,List.set_cons_succ]
   refine wpAnyH_take (i:=7) (oi:={dst:=some 26,op:=Op.load 28 (Operand.tmp 25),type:=28,pos:= "ref.go:71",after:=#[{on:=6,ground:=Ground.data}],guard:=none}) (v:=.int .u64 (x:Nat)) rfl (by kernel_rfl) (by kernel_rfl) (by kernel_rfl) (fun _ _ _ h=>h) (Or.inl ⟨by rfl,?_⟩) (by assumption) ?_
   ·(intro w d;(try dsimp only at d);go_simp)
   simp only[Act.put,List.setIfInBounds_toArray,List.set_cons_zero,List.set_cons_succ]
   refine wpAnyH_take (i:=8) (oi:={dst:=some 27,op:=Op.move (Operand.tmp 1),type:=3,pos:= "ref.go:71",after:=#[],guard:=none}) (v:=.int .i64 k) rfl (by kernel_rfl) (by kernel_rfl) (by kernel_rfl) (fun _ _ _ h=>h) (Or.inl ⟨by rfl,?_⟩) (by assumption) ?_
   ·(intro w d;(try dsimp only at d);go_simp)
   simp only[Act.put,List.setIfInBounds_toArray,List.set_cons_zero,List.set_cons_succ]
   refine wpAnyH_ready (rs:=[9]) (by kernel_rfl) (by simp) ?_
   refine AllReadyH.cons (o:={dst:=some 28,op:=Op.call {callee:=Callee.value (Operand.func 93),args:=#[Operand.tmp 26,Operand.tmp 27],argTypes:=#[28,3]},type:=28,pos:= "ref.go:71",after:=#[{on:=7,ground:=Ground.data},{on:=8,ground:=Ground.data}],guard:=none}) rfl (fun K Q=>?_) AllReadyH.nil
   go_simp
   refine(uH KX _).mono ?_
   rintro e w7 ⟨rfl,L⟩
   replace z:=aa ((uH z).all L)
   have O:=ak (uH Z) L
   have d1:=(uH z).row.cell i (by rw[kv];exact Y)
   have f1:=(uH z).row.free i
   have S2:=aa ((uH z).set i o)
   have H1:=aa (And.intro (uH z).bo.c2 (And.intro (uH z).bm.c2 O))
   have ae:(w7.setCell ⟨g,i,none⟩ (.int .u64 (o:Int))).cell? ⟨G,J+i,none⟩=some (.int .u64 (x:Nat)):=by
    rw[aJ _ _ _ _ (by simpa using uH ax)]
    exact O
   have H2:=aa (And.intro (uH S2).bo.c2 (And.intro (uH S2).bm.c2 ae))
   clear O ae L
   go_wp2_with fail
   refine Q.out _ _ ?_ (fun F=>?_)
   ·exact uH H1
   clear Q K
   refine wpAnyH_take (i:=10) (oi:={dst:=some 29,op:=Op.indexAddr 23 (Operand.tmp 20) (Operand.tmp 21),type:=0,pos:= "ref.go:71",after:=#[{on:=1,ground:=Ground.data},{on:=2,ground:=Ground.data},{on:=0,ground:=Ground.phase},{on:=1,ground:=Ground.phase},{on:=2,ground:=Ground.phase},{on:=3,ground:=Ground.phase},{on:=4,ground:=Ground.phase},{on:=5,ground:=Ground.phase},{on:=6,ground:=Ground.phase},{on:=7,ground:=Ground.phase},{on:=8,ground:=Ground.phase},{on:=9,ground:=Ground.phase}],guard:=none}) (v:=.pointer (some ⟨g,i,none⟩)) rfl (by kernel_rfl) (by kernel_rfl) (by kernel_rfl) (fun _ _ _ h=>h) (Or.inl ⟨by rfl,?_⟩) (by assumption) ?_
   ·(intro w d;(try dsimp only at d);go_simp)
   simp only[Act.put,List.setIfInBounds_toArray,List.set_cons_zero,List.set_cons_succ]
   refine wpAnyH_ready (rs:=[11]) (by kernel_rfl) (by simp) ?_
   refine AllReadyH.cons (o:={dst:=none,op:=Op.store 28 (Operand.tmp 29) (Operand.tmp 28),type:=0,pos:= "ref.go:71",after:=#[{on:=10,ground:=Ground.data},{on:=9,ground:=Ground.data},{on:=9,ground:=Ground.chain},{on:=0,ground:=Ground.phase},{on:=1,ground:=Ground.phase},{on:=2,ground:=Ground.phase},{on:=3,ground:=Ground.phase},{on:=4,ground:=Ground.phase},{on:=5,ground:=Ground.phase},{on:=6,ground:=Ground.phase},{on:=7,ground:=Ground.phase},{on:=8,ground:=Ground.phase},{on:=9,ground:=Ground.phase}],guard:=none}) rfl (fun K Q=>?_) AllReadyH.nil
   go_simp
   refine Q.out _ _ ?_ (fun F=>?_)
   ·exact uH H2
   clear Q K
   refine wpAnyH_done (by kernel_rfl) ?_ _
   skip
   clear d1 f1 H0 H1 H2 Z KX
   go_wp2_with fail
   go_round
   case rel=>exact⟨i+1,by omega,by go_num,by rw[←kw,uH eV];exact S2⟩
   case measure=>simp[intOf];omega
  ·have aI:i=n:=by omega
   subst aI
   have ap:¬((i:Int)<(i:Int)):=by omega
   have u:=uH z
   have hg:=u.hg;have h5:=u.h5
   have y2:=u.bm.c2
   have u0:=u.bo.c0;have u1:=u.bo.c1;have u2:=u.bo.c2
   have s0:=u.b4.c0;have s1:=u.b4.c1;have s2:=u.b4.c2;have f0:=u.b4.free 0;have f1:=u.b4.free 1;have f2:=u.b4.free 2
   have XP:=u.b4.put (.int .i64 (r:Nat)) (.int .i64 (c:Nat)) (.slice (some ⟨g,0,none⟩) i i)
   have z0:=XP.c0;have z1:=XP.c1;have z2:=XP.c2
   have RR:=aa (u.row.three (g:=w.heap.size+1) (by omega) (.int .i64 (r:Nat)) (.int .i64 (c:Nat)) (.slice (some ⟨g,0,none⟩) i i))
   have BP:=aa (aq u.bel (b:=w.heap.size+1) (by omega) (.int .i64 (r:Nat)) (.int .i64 (c:Nat)) (.slice (some ⟨g,0,none⟩) i i))
   have HG:=aa hg
   clear XP u z hg h5
   go_wp2_with fail
   exact bodyPost_ret (v:=.agg #[.int .i64 r,.int .i64 c,.slice (some ⟨g,0,none⟩) i i]) (by simp[results,Tryz.results92,go_sem,z0,z1,z2]) rfl ⟨_,rfl,by have:=uH HG;omega,by rw[←iS];exact uH RR,uH BP⟩
theorem ix(r c d:Nat)(k:Int)(f:Option Addr)(S:List Nat)(w:World)(h:Mx w f d r c S)(l:-5000≤k∧k≤5000):
  Calls Tryz.prog 92 #[.agg #[.int .i64 r,.int .i64 c,.slice f S.length d],.int .i64 k] w fun e w'=>∃g,e=.returned (.agg #[.int .i64 r,.int .i64 c,.slice (some ⟨g,0,none⟩) S.length S.length])∧w.heap.size≤g∧bp w' g (iX S k)∧Below w.heap.size w w':=
 tN r c S.length d k f S (fun i=>xV (S.getD i 0) k) w h.2.2.1 h.2.2.2 rfl h.2.1.symm h.1 (fun _ _=>rfl) l
theorem tO(r c n l:Nat)(G:Option Addr)(f:Nat→Nat)(Q:World→Option Addr→Nat→Nat→Prop)(w:World)(h6:c≤6)(hf:∀k,k<c→f k<18446744073709551616)
  (C1:∀w' k,Below w.heap.size w w'→k<c→Calls Tryz.prog 48 #[.agg #[.int .i64 r,.int .i64 c,.slice G n l],.int .i64 k,.int .i64 0] w' fun e H=>∃z d,e=.returned (.slice z r d)∧Q H z d k∧Below w'.heap.size w' H)
  (C2:∀w' z d k,k<c→Q w' z d k→Calls Tryz.prog 94 #[.slice z r d] w' fun e H=>e=.returned (.int .u64 (f k:Nat))∧Below w'.heap.size w' H):
  Calls Tryz.prog 53 #[.agg #[.int .i64 r,.int .i64 c,.slice G n l]] w fun e w'=>∃z d,e=.returned (.slice z c d)∧af w' z d (aL ((List.range c).map f))∧Below w.heap.size w w':=by
 have K1:=aa C1;have K2:=aa C2;have HF:=aa hf
 have b0:=ac w (.cells #[.int .i64 r,.int .i64 c,.slice G n l] 25)
 have x0:=aw.new w (.int .i64 r) (.int .i64 c) (.slice G n l)
 have Y:=ah w (.cells #[.int .i64 r,.int .i64 c,.slice G n l] 25)
 have Z:=br.nil (w.alloc (.cells #[.int .i64 r,.int .i64 c,.slice G n l] 25)) (w.heap.size+1) (by rw[Y];exact Nat.le_refl _)
 have U:=ac (w.alloc (.cells #[.int .i64 r,.int .i64 c,.slice G n l] 25)) (.cells #[] 28)
 have ST:=aa (show jn w _ r c G n l from(jn.mk b0 x0).all U)
 rw[Y]at Z
 have O0:=aa (show br (w.heap.size+1) _ _ (jK f 0)from Z)
 clear C1 C2 hf b0 x0 Y Z U
 go_enter Tryz.func53,Tryz.ntmps53
 go_wp2_with fail
 go_loopw[3,4] (fun v i wr=>∃k:Nat,k≤c∧i=.int .i64 k∧Hid (br (w.heap.size+1) wr v (jK f k))∧Hid (jn w wr r c G n l)) (fun _ i _=>c-(intOf i).toNat)
 case atStart=>exact⟨0,Nat.zero_le _,rfl,O0,ST⟩
 case round=>
  clear O0 ST
  obtain⟨k,hk,rfl,O,J⟩:=hrel
  have y1:=(uH J).box.c1
  by_cases N:k<c
  ·have am:(k:Int)<(c:Int):=by omega
   have C:=aa (fun w' h=>uH K1 w' k h N)
   have D:=aa (fun w' z d q=>uH K2 w' z d k N q)
   have ho:=aa (uH HF k N)
   obtain⟨o,eo⟩:∃o,f k=o:=⟨_,rfl⟩
   rw[eo]at D ho
   have eV:=aa eo
   clear eo
   have y0:=(uH J).box.c0;have y2:=(uH J).box.c2
   go_wp2_with fail
   clear y0 y1 y2
   refine(uH C _ (uH J).bel).mono ?_
   rintro e w2 ⟨z,d,rfl,hq,u⟩
   replace O:=aa ((uH O).below u);replace J:=aa ((uH J).all u)
   have HQ:=aa hq
   clear u hq C
   go_wp2_with fail
   refine(uH D _ z d (uH HQ)).mono ?_
   rintro e w3 ⟨rfl,u⟩
   have K:=(uH O).below u;have X:=(uH J).all u
   obtain⟨v3,w4,L,M,F,_,_⟩:=K.push o (uH ho) (by rw[eO];omega) (by have:=X.box.lt;omega) 23
   have V:=aa L
   have O3:=aa (show br (w.heap.size+1) w4 v3 (jK f (k+1))from by rw[kz,uH eV];exact M)
   have S3:=aa (show jn w w4 r c G n l from⟨X.bel.trans (F.mono (Nat.le_succ _)),X.box.below F (Nat.lt_succ_self _)⟩)
   clear u D O J HQ K X L M F ho eV
   go_wp2_with(at_builtin;refine aS _ rfl _ _ 23 rfl _ _ _ _ rfl rfl (uH V) ?_;clear V)
   go_round
   case rel=>exact⟨k+1,by omega,by go_num,O3,S3⟩
   case measure=>simp[intOf];omega
  ·have ae:k=c:=by omega
   subst ae
   obtain⟨U,d1,e1,q1⟩:=(uH O).bits
   rw[eO]at e1
   subst e1
   have Q1:=aa q1
   clear q1 O
   go_wp2_with fail
   exact bodyPost_ret (v:=.slice U k d1) (by simp[results,Tryz.results53,go_sem]) rfl ⟨U,d1,rfl,uH Q1,(uH J).bel⟩
theorem fv(r c f:Nat)(u:Option Addr)(S:List Nat)(w:World)(h:Mx w u f r c S):
  Calls Tryz.prog 53 #[.agg #[.int .i64 r,.int .i64 c,.slice u S.length f]] w fun e w'=>∃l d,e=.returned (.slice l c d)∧af w' l d (aL (bR r c S))∧Below w.heap.size w w':=by
 refine tO r c S.length f u (jO r c S) (fun w' l d k=>af w' l d (aL (gl r c S k))) w h.2.2.2 (fun k _=>lj _ _ _ _) (fun w' k D z=>?_) (fun w' l d k z q=>?_)
 ·have:=ot r c f k u S w' (h.below D) z
  rw[vu]at this
  exact this
 ·have:=io l d (aL (gl r c S k)) w' q (by rw[av,bC];have:=h.2.2.1;omega)
  rwa[av,bC]at this
theorem dr.push19{d:Nat}{w:World}{v:Value}{S:List Nat}(h:dr d w v S)(x:Nat)(Y:S.length≤1000000)(N:d≤w.heap.size)(K:TypeId):
  ∃f w',(Builtin.append_ #[118,118] K #[v,.slice (some ⟨w.heap.size,0,none⟩) 1 1]).run Tryz.prog (w.alloc (.cells #[.int .i64 (x:Int)] 3))=.ok f w'∧dr d w' f (S++[x])∧Below d w w'∧
   (∀u T,dr d w u T→n6 v u→dr d w' u T∧n6 f u):=by
 obtain⟨Q,U,G,H,J⟩:=info_parts EM
 obtain⟨f,w',V,X,L,e4,l⟩:=run_append_own_at (P:=Tryz.prog) (w.alloc (.cells #[.int .i64 (x:Int)] 3)) d 118 K 3 Q (.int .i64 0) 1 8 Tryz.underlying118 U G H J rfl (by decide) v S.length ((aL S).map pe) (h.alloc _) ⟨w.heap.size,0,none⟩ 1 1 [.int .i64 (x:Int)] rfl (cell_one_new _ _ _) (fun u z=>by simp at z;subst z;rfl) (by unfold maxLen;omega) (by omega) (by simp;omega)
 have O:dr d w' f (S++[x]):=by
  unfold dr
  rw[List.length_append,show aL (S++[x])=aL S++[(x:Int)]from by simp[aL],List.map_append]
  exact X
 refine⟨f,w',V,O,((ac w _).mono N).grown L (by simp;omega) (fun g F=>(h.lt g F).1),?_⟩
 ·intro u T z M
  refine⟨(z.alloc _).kept L ?_,?_⟩
  ·cases hv:u.ownBlock with
   |none=>exact .inl rfl
   |some g=>
    right
    intro e
    exact M g e.symm hv
  ·intro g F D
   rcases l with l|l
   ·exact M g (by rw[←l];exact F) D
   ·rw[F]at l
    have Z:=(z.lt g D).2
    simp at l
    omega
theorem dr.nil19(w:World)(d:Nat)(h:d≤w.heap.size):dr d (w.alloc (.cells #[] 3)) (.slice (some ⟨w.heap.size,0,none⟩) 0 0) []:=
 World.ownsRow_made w #[] 0 h (by simp[maxLen]) (by simp)
def oD(I P:List Nat)(i:Nat):Nat→Bool
 |0=>false
 |k+1=>oD I P i k||eJ (I.getD (P.getD k 0) 0) (I.getD i 0)
def iC(I P:List Nat)(i:Nat):Nat→List Nat
 |0=>[]
 |k+1=>(if(!oD I P i k&&eJ (I.getD (P.getD k 0) 0) (I.getD i 0))=true then iC I P i k++[i]else iC I P i k)++[P.getD k 0]
def eK(I:List Nat):Nat→List Nat
 |0=>[]
 |i+1=>if oD I (eK I i) i i=true then iC I (eK I i) i i else iC I (eK I i) i i++[i]
theorem fw(I P:List Nat)(i:Nat):∀k,(iC I P i k).length=k+(if oD I P i k=true then 1 else 0)
 |0=>rfl
 |k+1=>by
  have h:=fw I P i k
  have eN:iC I P i (k+1)=(if(!oD I P i k&&eJ (I.getD (P.getD k 0) 0) (I.getD i 0))=true then iC I P i k++[i]else iC I P i k)++[P.getD k 0]:=rfl
  have d:oD I P i (k+1)=(oD I P i k||eJ (I.getD (P.getD k 0) 0) (I.getD i 0)):=rfl
  rw[eN,d,List.length_append]
  generalize eJ (I.getD (P.getD k 0) 0) (I.getD i 0)=f
  cases e:oD I P i k with
  |true=>rw[e]at h;simp[h]
  |false=>rw[e]at h;cases f<;>simp[h]
theorem kG(I:List Nat):∀i,(eK I i).length=i
 |0=>rfl
 |i+1=>by
  have h:=fw I (eK I i) i i
  unfold eK
  cases e:oD I (eK I i) i i<;>rw[e]at h<;>simp_all
theorem wv(I P:List Nat)(i n:Nat)(d:i<n)(f:∀x∈P,x<n):∀k,∀x∈iC I P i k,x<n
 |0,x,h=>by cases h
 |k+1,x,h=>by
  have l:=wv I P i n d f k
  have u:P.getD k 0<n:=by
   rw[List.getD_eq_getElem?_getD]
   cases e:P[k]? with
   |none=>show 0<n;omega
   |some v=>exact f v (List.mem_of_getElem? e)
  unfold iC at h
  rcases List.mem_append.1 h with e|e
  ·split at e
   ·rcases List.mem_append.1 e with e|e
    ·exact l x e
    ·rw[List.mem_singleton.1 e];exact d
   ·exact l x e
  ·rw[List.mem_singleton.1 e];exact u
theorem mO(I:List Nat)(n:Nat):∀i,i≤n→∀x∈eK I i,x<n
 |0,_,x,h=>by cases h
 |i+1,hi,x,h=>by
  have d:=mO I n i (by omega)
  have q:=wv I (eK I i) i n (by omega) d i
  unfold eK at h
  split at h
  ·exact q x h
  ·rcases List.mem_append.1 h with e|e
   ·exact q x e
   ·rw[List.mem_singleton.1 e];omega
structure iY (w wr:World) (go m oc:Nat) (v:Value) (P L:List Nat):Prop where
 bel:Below w.heap.size w wr
 out:dr w.heap.size wr (.slice (some ⟨go,0,none⟩) m oc) P
 nx:dr w.heap.size wr v L
 ap:n6 v (.slice (some ⟨go,0,none⟩) m oc)
theorem iY.all{w wr w':World}{f m l:Nat}{v:Value}{P L:List Nat}(h:iY w wr f m l v P L)(d:Below wr.heap.size wr w'):iY w w' f m l v P L:=⟨h.bel.trans (d.mono h.bel.size),h.out.below d,h.nx.below d,h.ap⟩
theorem iY.pushed{w wr w':World}{f m l:Nat}{v d:Value}{P L z:List Nat}(h:iY w wr f m l v P L)(F:dr w.heap.size w' d z)(G:Below w.heap.size wr w')(D:∀u T,dr w.heap.size wr u T→n6 v u→dr w.heap.size w' u T∧n6 d u):iY w w' f m l d P z:=
 ⟨h.bel.trans G,(D _ _ h.out h.ap).1,F,(D _ _ h.out h.ap).2⟩
theorem iY.outc{w wr:World}{d m u:Nat}{v:Value}{P L:List Nat}(h:iY w wr d m u v P L){k f:Nat}(e:P[k]?.getD 0=f)(z:k<P.length):wr.cell? ⟨d,k,none⟩=some (.int .i64 (f:Nat)):=by
 obtain⟨g,l,_,_,D,_⟩:=h.out.at z
 simp only[Option.some.injEq,Addr.mk.injEq]at l
 obtain⟨rfl,_⟩:=l
 rw[D,List.getD_eq_getElem?_getD,e]
theorem kH(O:Nat)(ao:Option Addr)(I:List Nat)(w:World)(h6:I.length≤1000)(hI:af w ao O (aL I)):
  Calls Tryz.prog 96 #[.slice ao I.length O] w fun e w'=>∃H Q,e=.returned (.slice (some ⟨H,0,none⟩) I.length Q)∧dr w.heap.size w' (.slice (some ⟨H,0,none⟩) I.length Q) (eK I I.length)∧Below w.heap.size w w':=by
 have HI:=aa hI
 obtain⟨n,hl⟩:∃n,I.length=n:=⟨_,rfl⟩
 have HL:=aa hl
 have lx:∀i,I.getD i 0<18446744073709551616:=fun i=>by rw[←eI];exact hI.lt i
 have LX:=aa lx
 have b0:=ac w (.cells #[] 3)
 have O0:=aa (dr.nil19 w w.heap.size (Nat.le_refl _))
 have HB:=aa b0
 rw[hl]at h6⊢
 clear hI hl lx b0
 go_enter Tryz.func96,Tryz.ntmps96
 go_wp2_with fail
 go_loopw[3,4] (fun v a wr=>∃i H Q:Nat,i≤n∧v=.slice (some ⟨H,0,none⟩) i Q∧a=.int .i64 i∧Hid (Below w.heap.size w wr)∧Hid (dr w.heap.size wr (.slice (some ⟨H,0,none⟩) i Q) (eK I i))) (fun _ a _=>n-(intOf a).toNat)
 case atStart=>exact⟨0,w.heap.size,0,Nat.zero_le _,rfl,rfl,HB,O0⟩
 case round=>
  clear HB O0
  obtain⟨i,H,Q,hi,rfl,rfl,hB,hO⟩:=hrel
  by_cases a9:i<n
  ·have a3:(i:Int)<(n:Int):=by omega
   have PM:=aa (mO I n i hi)
   have PE:=aa (show eK I (i+1)=if oD I (eK I i) i i=true then iC I (eK I i) i i else iC I (eK I i) i i++[i]from rfl)
   have PL:=aa (kG I i)
   have b1:=ac wr (.cells #[] 3)
   have z:=aa (show iY w _ H i Q (.slice (some ⟨wr.heap.size,0,none⟩) 0 0) (eK I i) (iC I (eK I i) i 0)from⟨(uH hB).trans (b1.mono (uH hB).size),(uH hO).below b1,dr.nil19 wr w.heap.size (uH hB).size,fun g e1 e2=>by
    have h1:=((uH hO).lt g e2).2
    simp[Value.ownBlock]at e1
    omega⟩)
   generalize a2:eK I (i+1)=PN at*
   have ax:=aa a2
   clear a2
   generalize eK I i=P at*
   clear b1 hB hO
   go_wp2_with fail
   go_loopw[5,6,7] (fun v b a wq=>∃k:Nat,k≤i∧a=.int .i64 k∧b=.bool (oD I P i k)∧Hid (iY w wq H i Q v P (iC I P i k))) (fun _ _ a _=>i-(intOf a).toNat)
   case atStart=>exact⟨0,Nat.zero_le _,rfl,rfl,z⟩
   case round=>
    clear z
    obtain⟨k,hk,rfl,rfl,z⟩:=hrel
    by_cases a7:k<i
    ·have a4:(k:Int)<(i:Int):=by omega
     have am:=aa (show oD I P i (k+1)=(oD I P i k||eJ (I.getD (P.getD k 0) 0) (I.getD i 0))from rfl)
     have ap:=aa (show iC I P i (k+1)=(if(!oD I P i k&&eJ (I.getD (P.getD k 0) 0) (I.getD i 0))=true then iC I P i k++[i]else iC I P i k)++[P.getD k 0]from rfl)
     have ba:P.getD k 0<n:=by
      refine uH PM _ ?_
      rw[List.getD_eq_getElem?_getD,List.getElem?_eq_getElem (by have:=uH PL;omega)]
      exact List.getElem_mem _
     have aI:=aa (show P[k]?.getD 0=P.getD k 0 from(List.getD_eq_getElem?_getD).symm)
     have cO:=(uH z).outc (uH aI) (by have:=uH PL;omega)
     obtain⟨M,N,e1,_,c1⟩:=cC ((uH HI).below (uH z).bel) (k:=i) (by have:=uH HL;omega)
     obtain⟨be,bg,e2,_,c2⟩:=cC ((uH HI).below (uH z).bel) (k:=P.getD k 0) (by have:=uH HL;omega)
     rw[e1]at e2
     simp only[Option.some.injEq,Addr.mk.injEq]at e2
     obtain⟨rfl,rfl,_⟩:=e2
     have l1:=uH LX i;have l2:=uH LX (P.getD k 0)
     generalize P.getD k 0=L at*
     generalize I.getD i 0=x at*
     generalize I.getD L 0=y at*
     subst e1
     have KM:=aa (fun w'=>fi x y w' l1 l2)
     have bb:(L:Int)<(n:Int):=by omega
     have J:=aa (And.intro c1 (And.intro cO c2))
     clear l1 l2 c1 cO c2
     go_wp2_with fail
     refine aj (fun W=>iY w W H i Q u5 P (iC I P i k)∧W.cell? ⟨M,N+i,none⟩=some (.int .u64 (x:Nat))∧W.cell? ⟨H,k,none⟩=some (.int .i64 (L:Nat))∧W.cell? ⟨M,N+L,none⟩=some (.int .u64 (y:Nat))) ⟨uH z,uH J⟩ ?_
     clear z J
     rintro W ⟨st,a1⟩
     have z:=aa (st.all (Below.refl W.heap.size W).drew)
     have J:=aa (show W.drew.cell? ⟨M,N+i,none⟩=some (.int .u64 (x:Nat))∧W.drew.cell? ⟨H,k,none⟩=some (.int .i64 (L:Nat))∧W.drew.cell? ⟨M,N+L,none⟩=some (.int .u64 (y:Nat))from a1)
     clear st a1
     cases hd:oD I P i k
     ·cases hf:eJ y x
      ·go_wp2_with fail
       refine wp_region_held_drew (S:=fun w'=>w'.cell? ⟨M,N+i,none⟩=some (.int .u64 (x:Nat))∧w'.cell? ⟨H,k,none⟩=some (.int .i64 (L:Nat))∧w'.cell? ⟨M,N+L,none⟩=some (.int .u64 (y:Nat))) (by kernel_rfl) ?_ (fun G=>?_)
       ·exact uH J
       refine wpAnyH_take (i:=0) (oi:={dst:=some 22,op:=Op.move (Operand.tmp 6),type:=4,pos:= "ref.go:92",after:=#[],guard:=none}) (v:=.bool false) rfl (by kernel_rfl) (by kernel_rfl) (by kernel_rfl) (fun _ _ _ h=>h) (Or.inl ⟨by rfl,?_⟩) (by assumption) ?_
       ·(intro w d;(try dsimp only at d);go_simp)
       simp only[Act.put,List.setIfInBounds_toArray,List.set_cons_zero,List.set_cons_succ]
       refine wpAnyH_take (i:=1) (oi:={dst:=some 23,op:=Op.unOp UnOp.not 4 (Operand.tmp 22),type:=4,pos:= "ref.go:92",after:=#[{on:=0,ground:=Ground.data}],guard:=none}) (v:=.bool true) rfl (by kernel_rfl) (by kernel_rfl) (by kernel_rfl) (fun _ _ _ h=>h) (Or.inl ⟨by rfl,?_⟩) (by assumption) ?_
       ·(intro w d;(try dsimp only at d);go_simp)
       simp only[Act.put,List.setIfInBounds_toArray,List.set_cons_zero,List.set_cons_succ]
       refine wpAnyH_take (i:=2) (oi:={dst:=some 24,op:=Op.move (Operand.tmp 23),type:=4,pos:= "ref.go:92",after:=#[{on:=1,ground:=Ground.data}],guard:=none}) (v:=.bool true) rfl (by kernel_rfl) (by kernel_rfl) (by kernel_rfl) (fun _ _ _ h=>h) (Or.inl ⟨by rfl,?_⟩) (by assumption) ?_
       ·(intro w d;(try dsimp only at d);go_simp)
       simp only[Act.put,List.setIfInBounds_toArray,List.set_cons_zero,List.set_cons_succ]
       refine wpAnyH_take (i:=3) (oi:={dst:=some 25,op:=Op.move (Operand.tmp 0),type:=23,pos:= "ref.go:92",after:=#[{on:=2,ground:=Ground.guard}],guard:=some (2,true)}) (v:=.slice (some ⟨M,N,none⟩) n O) rfl (by kernel_rfl) (by kernel_rfl) (by kernel_rfl) (fun _ _ _ h=>h) (Or.inl ⟨by rfl,?_⟩) (by assumption) ?_
       ·(intro w d;(try dsimp only at d);go_simp)
       simp only[Act.put,List.setIfInBounds_toArray,List.set_cons_zero,List.set_cons_succ]
       refine wpAnyH_take (i:=4) (oi:={dst:=some 26,op:=Op.move (Operand.tmp 4),type:=3,pos:= "ref.go:92",after:=#[{on:=2,ground:=Ground.guard}],guard:=some (2,true)}) (v:=.int .i64 (i:Nat)) rfl (by kernel_rfl) (by kernel_rfl) (by kernel_rfl) (fun _ _ _ h=>h) (Or.inl ⟨by rfl,?_⟩) (by assumption) ?_
       ·(intro w d;(try dsimp only at d);go_simp)
       simp only[Act.put,List.setIfInBounds_toArray,List.set_cons_zero,List.set_cons_succ]
       refine wpAnyH_take (i:=5) (oi:={dst:=some 27,op:=Op.indexAddr 23 (Operand.tmp 25) (Operand.tmp 26),type:=0,pos:= "ref.go:92",after:=#[{on:=3,ground:=Ground.data},{on:=4,ground:=Ground.data},{on:=2,ground:=Ground.guard}],guard:=some (2,true)}) (v:=.pointer (some ⟨M,N+i,none⟩)) rfl (by kernel_rfl) (by kernel_rfl) (by kernel_rfl) (fun _ _ _ h=>h) (Or.inl ⟨by rfl,?_⟩) (by assumption) ?_
       ·(intro w d;(try dsimp only at d);go_simp)
       simp only[Act.put,List.setIfInBounds_toArray,List.set_cons_zero,List.set_cons_succ]
       refine wpAnyH_take (i:=6) (oi:={dst:=some 28,op:=Op.load 28 (Operand.tmp 27),type:=28,pos:= "ref.go:92",after:=#[{on:=5,ground:=Ground.data},{on:=2,ground:=Ground.guard}],guard:=some (2,true)}) (v:=.int .u64 (x:Nat)) rfl (by kernel_rfl) (by kernel_rfl) (by kernel_rfl) (fun _ _ _ h=>h) (Or.inl ⟨by rfl,?_⟩) (by assumption) ?_
       ·(intro w d;(try dsimp only at d);go_simp)
       simp only[Act.put,List.setIfInBounds_toArray,List.set_cons_zero,List.set_cons_succ]
       refine wpAnyH_take (i:=7) (oi:={dst:=some 29,op:=Op.move (Operand.tmp 0),type:=23,pos:= "ref.go:92",after:=#[{on:=2,ground:=Ground.guard}],guard:=some (2,true)}) (v:=.slice (some ⟨M,N,none⟩) n O) rfl (by kernel_rfl) (by kernel_rfl) (by kernel_rfl) (fun _ _ _ h=>h) (Or.inl ⟨by rfl,?_⟩) (by assumption) ?_
       ·(intro w d;(try dsimp only at d);go_simp)
       simp only[Act.put,List.setIfInBounds_toArray,List.set_cons_zero,List.set_cons_succ]
       refine wpAnyH_take (i:=8) (oi:={dst:=some 30,op:=Op.move (Operand.tmp 3),type:=118,pos:= "ref.go:92",after:=#[{on:=2,ground:=Ground.guard}],guard:=some (2,true)}) (v:=.slice (some ⟨H,0,none⟩) i Q) rfl (by kernel_rfl) (by kernel_rfl) (by kernel_rfl) (fun _ _ _ h=>h) (Or.inl ⟨by rfl,?_⟩) (by assumption) ?_
       ·(intro w d;(try dsimp only at d);go_simp)
       simp only[Act.put,List.setIfInBounds_toArray,List.set_cons_zero,List.set_cons_succ]
       refine wpAnyH_take (i:=9) (oi:={dst:=some 31,op:=Op.move (Operand.tmp 7),type:=3,pos:= "ref.go:92",after:=#[{on:=2,ground:=Ground.guard}],guard:=some (2,true)}) (v:=.int .i64 (k:Nat)) rfl (by kernel_rfl) (by kernel_rfl) (by kernel_rfl) (fun _ _ _ h=>h) (Or.inl ⟨by rfl,?_⟩) (by assumption) ?_
       ·(intro w d;(try dsimp only at d);go_simp)
       simp only[Act.put,List.setIfInBounds_toArray,List.set_cons_zero,List.set_cons_succ]
       refine wpAnyH_take (i:=10) (oi:={dst:=some 32,op:=Op.indexAddr 118 (Operand.tmp 30) (Operand.tmp 31),type:=0,pos:= "ref.go:92",after:=#[{on:=8,ground:=Ground.data},{on:=9,ground:=Ground.data},{on:=2,ground:=Ground.guard}],guard:=some (2,true)}) (v:=.pointer (some ⟨H,k,none⟩)) rfl (by kernel_rfl) (by kernel_rfl) (by kernel_rfl) (fun _ _ _ h=>h) (Or.inl ⟨by rfl,?_⟩) (by assumption) ?_
       ·(intro w d;(try dsimp only at d);go_simp)
       simp only[Act.put,List.setIfInBounds_toArray,List.set_cons_zero,List.set_cons_succ]
       refine wpAnyH_take (i:=11) (oi:={dst:=some 33,op:=Op.load 3 (Operand.tmp 32),type:=3,pos:= "ref.go:92",after:=#[{on:=10,ground:=Ground.data},{on:=2,ground:=Ground.guard}],guard:=some (2,true)}) (v:=.int .i64 (L:Nat)) rfl (by kernel_rfl) (by kernel_rfl) (by kernel_rfl) (fun _ _ _ h=>h) (Or.inl ⟨by rfl,?_⟩) (by assumption) ?_
       ·(intro w d;(try dsimp only at d);go_simp)
       simp only[Act.put,List.setIfInBounds_toArray,List.set_cons_zero,List.set_cons_succ]
       refine wpAnyH_take (i:=12) (oi:={dst:=some 34,op:=Op.indexAddr 23 (Operand.tmp 29) (Operand.tmp 33),type:=0,pos:= "ref.go:92",after:=#[{on:=7,ground:=Ground.data},{on:=11,ground:=Ground.data},{on:=2,ground:=Ground.guard}],guard:=some (2,true)}) (v:=.pointer (some ⟨M,N+L,none⟩)) rfl (by kernel_rfl) (by kernel_rfl) (by kernel_rfl) (fun _ _ _ h=>h) (Or.inl ⟨by rfl,?_⟩) (by assumption) ?_
       ·(intro w d;(try dsimp only at d);go_simp)
       simp only[Act.put,List.setIfInBounds_toArray,List.set_cons_zero,List.set_cons_succ]
       refine wpAnyH_take (i:=13) (oi:={dst:=some 35,op:=Op.load 28 (Operand.tmp 34),type:=28,pos:= "ref.go:92",after:=#[{on:=12,ground:=Ground.data},{on:=2,ground:=Ground.guard}],guard:=some (2,true)}) (v:=.int .u64 (y:Nat)) rfl (by kernel_rfl) (by kernel_rfl) (by kernel_rfl) (fun _ _ _ h=>h) (Or.inl ⟨by rfl,?_⟩) (by assumption) ?_
       ·(intro w d;(try dsimp only at d);go_simp)
       simp only[Act.put,List.setIfInBounds_toArray,List.set_cons_zero,List.set_cons_succ]
       refine wpAnyH_ready (rs:=[14]) (by kernel_rfl) (by simp) ?_
       refine AllReadyH.cons (o:={dst:=some 36,op:=Op.call {callee:=Callee.value (Operand.func 100),args:=#[Operand.tmp 28,Operand.tmp 35],argTypes:=#[28,28]},type:=4,pos:= "ref.go:92",after:=#[{on:=6,ground:=Ground.data},{on:=13,ground:=Ground.data},{on:=2,ground:=Ground.chain},{on:=2,ground:=Ground.guard}],guard:=some (2,true)}) rfl (fun K hK=>?_) AllReadyH.nil
       go_simp
       refine(uH KM _).mono ?_
       rintro e w5 ⟨rfl,V⟩
       replace z:=aa ((uH z).all V);replace J:=aa (And.intro (ak (uH J).1 V) (And.intro (ak (uH J).2.1 V) (ak (uH J).2.2 V)))
       clear V
       go_wp2_with fail
       refine hK.out _ _ ?_ (fun G=>?_)
       ·exact uH J
       clear hK K
       refine wpAnyH_take (i:=15) (oi:={dst:=some 37,op:=Op.pick (Operand.tmp 24) (Operand.tmp 36) (Operand.const (Value.bool false)),type:=4,pos:= "ref.go:92",after:=#[{on:=2,ground:=Ground.data},{on:=14,ground:=Ground.data}],guard:=none}) (v:=.bool false) rfl (by kernel_rfl) (by kernel_rfl) (by kernel_rfl) (fun _ _ _ h=>h) (Or.inl ⟨by rfl,?_⟩) (by assumption) ?_
       ·(intro w d;(try dsimp only at d);go_simp)
       simp only[Act.put,List.setIfInBounds_toArray,List.set_cons_zero,List.set_cons_succ]
       refine wpAnyH_done (by kernel_rfl) ?_ _
       skip
       obtain⟨v3,w6,f,l,u,F⟩:=(uH z).nx.push19 L (by rw[fw];split<;>omega) (uH z).bel.size 118
       have D:=aa f
       have cO:=(uH J).2.1
       have U:=aa ((uH z).pushed l u F)
       clear f l u F
       go_wp2_with(at_builtin;refine aS _ rfl _ _ 118 rfl _ _ _ _ rfl rfl (uH D) ?_;clear D)
       clear cO
       go_round
       case rel=>exact⟨k+1,by omega,by go_num,by rw[uH am,hd,hf];rfl,aa (by rw[uH ap,hd,hf];exact uH U)⟩
       case measure=>simp[intOf];omega
      ·go_wp2_with fail
       refine wp_region_held_drew (S:=fun w'=>w'.cell? ⟨M,N+i,none⟩=some (.int .u64 (x:Nat))∧w'.cell? ⟨H,k,none⟩=some (.int .i64 (L:Nat))∧w'.cell? ⟨M,N+L,none⟩=some (.int .u64 (y:Nat))) (by kernel_rfl) ?_ (fun G=>?_)
       ·exact uH J
       refine wpAnyH_take (i:=0) (oi:={dst:=some 22,op:=Op.move (Operand.tmp 6),type:=4,pos:= "ref.go:92",after:=#[],guard:=none}) (v:=.bool false) rfl (by kernel_rfl) (by kernel_rfl) (by kernel_rfl) (fun _ _ _ h=>h) (Or.inl ⟨by rfl,?_⟩) (by assumption) ?_
       ·(intro w d;(try dsimp only at d);go_simp)
       simp only[Act.put,List.setIfInBounds_toArray,List.set_cons_zero,List.set_cons_succ]
       refine wpAnyH_take (i:=1) (oi:={dst:=some 23,op:=Op.unOp UnOp.not 4 (Operand.tmp 22),type:=4,pos:= "ref.go:92",after:=#[{on:=0,ground:=Ground.data}],guard:=none}) (v:=.bool true) rfl (by kernel_rfl) (by kernel_rfl) (by kernel_rfl) (fun _ _ _ h=>h) (Or.inl ⟨by rfl,?_⟩) (by assumption) ?_
       ·(intro w d;(try dsimp only at d);go_simp)
       simp only[Act.put,List.setIfInBounds_toArray,List.set_cons_zero,List.set_cons_succ]
       refine wpAnyH_take (i:=2) (oi:={dst:=some 24,op:=Op.move (Operand.tmp 23),type:=4,pos:= "ref.go:92",after:=#[{on:=1,ground:=Ground.data}],guard:=none}) (v:=.bool true) rfl (by kernel_rfl) (by kernel_rfl) (by kernel_rfl) (fun _ _ _ h=>h) (Or.inl ⟨by rfl,?_⟩) (by assumption) ?_
       ·(intro w d;(try dsimp only at d);go_simp)
       simp only[Act.put,List.setIfInBounds_toArray,List.set_cons_zero,List.set_cons_succ]
       refine wpAnyH_take (i:=3) (oi:={dst:=some 25,op:=Op.move (Operand.tmp 0),type:=23,pos:= "ref.go:92",after:=#[{on:=2,ground:=Ground.guard}],guard:=some (2,true)}) (v:=.slice (some ⟨M,N,none⟩) n O) rfl (by kernel_rfl) (by kernel_rfl) (by kernel_rfl) (fun _ _ _ h=>h) (Or.inl ⟨by rfl,?_⟩) (by assumption) ?_
       ·(intro w d;(try dsimp only at d);go_simp)
       simp only[Act.put,List.setIfInBounds_toArray,List.set_cons_zero,List.set_cons_succ]
       refine wpAnyH_take (i:=4) (oi:={dst:=some 26,op:=Op.move (Operand.tmp 4),type:=3,pos:= "ref.go:92",after:=#[{on:=2,ground:=Ground.guard}],guard:=some (2,true)}) (v:=.int .i64 (i:Nat)) rfl (by kernel_rfl) (by kernel_rfl) (by kernel_rfl) (fun _ _ _ h=>h) (Or.inl ⟨by rfl,?_⟩) (by assumption) ?_
       ·(intro w d;(try dsimp only at d);go_simp)
       simp only[Act.put,List.setIfInBounds_toArray,List.set_cons_zero,List.set_cons_succ]
       refine wpAnyH_take (i:=5) (oi:={dst:=some 27,op:=Op.indexAddr 23 (Operand.tmp 25) (Operand.tmp 26),type:=0,pos:= "ref.go:92",after:=#[{on:=3,ground:=Ground.data},{on:=4,ground:=Ground.data},{on:=2,ground:=Ground.guard}],guard:=some (2,true)}) (v:=.pointer (some ⟨M,N+i,none⟩)) rfl (by kernel_rfl) (by kernel_rfl) (by kernel_rfl) (fun _ _ _ h=>h) (Or.inl ⟨by rfl,?_⟩) (by assumption) ?_
       ·(intro w d;(try dsimp only at d);go_simp)
       simp only[Act.put,List.setIfInBounds_toArray,List.set_cons_zero,List.set_cons_succ]
       refine wpAnyH_take (i:=6) (oi:={dst:=some 28,op:=Op.load 28 (Operand.tmp 27),type:=28,pos:= "ref.go:92",after:=#[{on:=5,ground:=Ground.data},{on:=2,ground:=Ground.guard}],guard:=some (2,true)}) (v:=.int .u64 (x:Nat)) rfl (by kernel_rfl) (by kernel_rfl) (by kernel_rfl) (fun _ _ _ h=>h) (Or.inl ⟨by rfl,?_⟩) (by assumption) ?_
       ·(intro w d;(try dsimp only at d);go_simp)
       simp only[Act.put,List.setIfInBounds_toArray,List.set_cons_zero,List.set_cons_succ]
       refine wpAnyH_take (i:=7) (oi:={dst:=some 29,op:=Op.move (Operand.tmp 0),type:=23,pos:= "ref.go:92",after:=#[{on:=2,ground:=Ground.guard}],guard:=some (2,true)}) (v:=.slice (some ⟨M,N,none⟩) n O) rfl (by kernel_rfl) (by kernel_rfl) (by kernel_rfl) (fun _ _ _ h=>h) (Or.inl ⟨by rfl,?_⟩) (by assumption) ?_
       ·(intro w d;(try dsimp only at d);go_simp)
       simp only[Act.put,List.setIfInBounds_toArray,List.set_cons_zero,List.set_cons_succ]
       refine wpAnyH_take (i:=8) (oi:={dst:=some 30,op:=Op.move (Operand.tmp 3),type:=118,pos:= "ref.go:92",after:=#[{on:=2,ground:=Ground.guard}],guard:=some (2,true)}) (v:=.slice (some ⟨H,0,none⟩) i Q) rfl (by kernel_rfl) (by kernel_rfl) (by kernel_rfl) (fun _ _ _ h=>h) (Or.inl ⟨by rfl,?_⟩) (by assumption) ?_
       ·(intro w d;(try dsimp only at d);go_simp)
       simp only[Act.put,List.setIfInBounds_toArray,List.set_cons_zero,List.set_cons_succ]
       refine wpAnyH_take (i:=9) (oi:={dst:=some 31,op:=Op.move (Operand.tmp 7),type:=3,pos:= "ref.go:92",after:=#[{on:=2,ground:=Ground.guard}],guard:=some (2,true)}) (v:=.int .i64 (k:Nat)) rfl (by kernel_rfl) (by kernel_rfl) (by kernel_rfl) (fun _ _ _ h=>h) (Or.inl ⟨by rfl,?_⟩) (by assumption) ?_
       ·(intro w d;(try dsimp only at d);go_simp)
       simp only[Act.put,List.setIfInBounds_toArray,List.set_cons_zero,List.set_cons_succ]
       refine wpAnyH_take (i:=10) (oi:={dst:=some 32,op:=Op.indexAddr 118 (Operand.tmp 30) (Operand.tmp 31),type:=0,pos:= "ref.go:92",after:=#[{on:=8,ground:=Ground.data},{on:=9,ground:=Ground.data},{on:=2,ground:=Ground.guard}],guard:=some (2,true)}) (v:=.pointer (some ⟨H,k,none⟩)) rfl (by kernel_rfl) (by kernel_rfl) (by kernel_rfl) (fun _ _ _ h=>h) (Or.inl ⟨by rfl,?_⟩) (by assumption) ?_
       ·(intro w d;(try dsimp only at d);go_simp)
       simp only[Act.put,List.setIfInBounds_toArray,List.set_cons_zero,List.set_cons_succ]
       refine wpAnyH_take (i:=11) (oi:={dst:=some 33,op:=Op.load 3 (Operand.tmp 32),type:=3,pos:= "ref.go:92",after:=#[{on:=10,ground:=Ground.data},{on:=2,ground:=Ground.guard}],guard:=some (2,true)}) (v:=.int .i64 (L:Nat)) rfl (by kernel_rfl) (by kernel_rfl) (by kernel_rfl) (fun _ _ _ h=>h) (Or.inl ⟨by rfl,?_⟩) (by assumption) ?_
       ·(intro w d;(try dsimp only at d);go_simp)
       simp only[Act.put,List.setIfInBounds_toArray,List.set_cons_zero,List.set_cons_succ]
       refine wpAnyH_take (i:=12) (oi:={dst:=some 34,op:=Op.indexAddr 23 (Operand.tmp 29) (Operand.tmp 33),type:=0,pos:= "ref.go:92",after:=#[{on:=7,ground:=Ground.data},{on:=11,ground:=Ground.data},{on:=2,ground:=Ground.guard}],guard:=some (2,true)}) (v:=.pointer (some ⟨M,N+L,none⟩)) rfl (by kernel_rfl) (by kernel_rfl) (by kernel_rfl) (fun _ _ _ h=>h) (Or.inl ⟨by rfl,?_⟩) (by assumption) ?_
       ·(intro w d;(try dsimp only at d);go_simp)
       simp only[Act.put,List.setIfInBounds_toArray,List.set_cons_zero,List.set_cons_succ]
       refine wpAnyH_take (i:=13) (oi:={dst:=some 35,op:=Op.load 28 (Operand.tmp 34),type:=28,pos:= "ref.go:92",after:=#[{on:=12,ground:=Ground.data},{on:=2,ground:=Ground.guard}],guard:=some (2,true)}) (v:=.int .u64 (y:Nat)) rfl (by kernel_rfl) (by kernel_rfl) (by kernel_rfl) (fun _ _ _ h=>h) (Or.inl ⟨by rfl,?_⟩) (by assumption) ?_
       ·(intro w d;(try dsimp only at d);go_simp)
       simp only[Act.put,List.setIfInBounds_toArray,List.set_cons_zero,List.set_cons_succ]
       refine wpAnyH_ready (rs:=[14]) (by kernel_rfl) (by simp) ?_
       refine AllReadyH.cons (o:={dst:=some 36,op:=Op.call {callee:=Callee.value (Operand.func 100),args:=#[Operand.tmp 28,Operand.tmp 35],argTypes:=#[28,28]},type:=4,pos:= "ref.go:92",after:=#[{on:=6,ground:=Ground.data},{on:=13,ground:=Ground.data},{on:=2,ground:=Ground.chain},{on:=2,ground:=Ground.guard}],guard:=some (2,true)}) rfl (fun K hK=>?_) AllReadyH.nil
       go_simp
       refine(uH KM _).mono ?_
       rintro e w5 ⟨rfl,V⟩
       replace z:=aa ((uH z).all V);replace J:=aa (And.intro (ak (uH J).1 V) (And.intro (ak (uH J).2.1 V) (ak (uH J).2.2 V)))
       clear V
       go_wp2_with fail
       refine hK.out _ _ ?_ (fun G=>?_)
       ·exact uH J
       clear hK K
       refine wpAnyH_take (i:=15) (oi:={dst:=some 37,op:=Op.pick (Operand.tmp 24) (Operand.tmp 36) (Operand.const (Value.bool false)),type:=4,pos:= "ref.go:92",after:=#[{on:=2,ground:=Ground.data},{on:=14,ground:=Ground.data}],guard:=none}) (v:=.bool true) rfl (by kernel_rfl) (by kernel_rfl) (by kernel_rfl) (fun _ _ _ h=>h) (Or.inl ⟨by rfl,?_⟩) (by assumption) ?_
       ·(intro w d;(try dsimp only at d);go_simp)
       simp only[Act.put,List.setIfInBounds_toArray,List.set_cons_zero,List.set_cons_succ]
       refine wpAnyH_done (by kernel_rfl) ?_ _
       skip
       obtain⟨v3,w6,f,l,u,F⟩:=(uH z).nx.push19 i (by rw[fw];split<;>omega) (uH z).bel.size 118
       have D:=aa f
       have U:=aa ((uH z).pushed l u F)
       clear f l u F
       have cO:=(uH U).outc (uH aI) (by have:=uH PL;omega)
       obtain⟨v4,w7,Y,Z,ae,a0⟩:=(uH U).nx.push19 L (by rw[List.length_append,fw];split<;>simp<;>omega) (uH U).bel.size 118
       have X:=aa Y
       have S4:=aa ((uH U).pushed Z ae a0)
       clear Y Z ae a0 U z
       go_wp2_with(first|(at_builtin;refine aS _ rfl _ _ 118 rfl _ _ _ _ rfl rfl (uH D) ?_;clear D)|(at_builtin;refine aS _ rfl _ _ 118 rfl _ _ _ _ rfl rfl (uH X) ?_;clear X))
       clear cO
       go_round
       case rel=>exact⟨k+1,by omega,by go_num,by rw[uH am,hd,hf];rfl,aa (by rw[uH ap,hd,hf];exact uH S4)⟩
       case measure=>simp[intOf];omega
     ·go_wp2_with fail
      refine wp_region_held_drew (S:=fun w'=>True) (by kernel_rfl) ?_ (fun G=>?_)
      ·exact trivial
      refine wpAnyH_take (i:=0) (oi:={dst:=some 22,op:=Op.move (Operand.tmp 6),type:=4,pos:= "ref.go:92",after:=#[],guard:=none}) (v:=.bool true) rfl (by kernel_rfl) (by kernel_rfl) (by kernel_rfl) (fun _ _ _ h=>h) (Or.inl ⟨by rfl,?_⟩) (by assumption) ?_
      ·(intro w d;(try dsimp only at d);go_simp)
      simp only[Act.put,List.setIfInBounds_toArray,List.set_cons_zero,List.set_cons_succ]
      refine wpAnyH_take (i:=1) (oi:={dst:=some 23,op:=Op.unOp UnOp.not 4 (Operand.tmp 22),type:=4,pos:= "ref.go:92",after:=#[{on:=0,ground:=Ground.data}],guard:=none}) (v:=.bool false) rfl (by kernel_rfl) (by kernel_rfl) (by kernel_rfl) (fun _ _ _ h=>h) (Or.inl ⟨by rfl,?_⟩) (by assumption) ?_
      ·(intro w d;(try dsimp only at d);go_simp)
      simp only[Act.put,List.setIfInBounds_toArray,List.set_cons_zero,List.set_cons_succ]
      refine wpAnyH_take (i:=2) (oi:={dst:=some 24,op:=Op.move (Operand.tmp 23),type:=4,pos:= "ref.go:92",after:=#[{on:=1,ground:=Ground.data}],guard:=none}) (v:=.bool false) rfl (by kernel_rfl) (by kernel_rfl) (by kernel_rfl) (fun _ _ _ h=>h) (Or.inl ⟨by rfl,?_⟩) (by assumption) ?_
      ·(intro w d;(try dsimp only at d);go_simp)
      simp only[Act.put,List.setIfInBounds_toArray,List.set_cons_zero,List.set_cons_succ]
      refine wpAnyH_take (i:=3) (oi:={dst:=some 25,op:=Op.move (Operand.tmp 0),type:=23,pos:= "ref.go:92",after:=#[{on:=2,ground:=Ground.guard}],guard:=some (2,true)}) (v:=undef) rfl (by kernel_rfl) (by kernel_rfl) (by kernel_rfl) (fun _ _ _ h=>h) (Or.inr ⟨by rfl,rfl⟩) (by assumption) ?_
      simp only[Act.put,List.setIfInBounds_toArray,List.set_cons_zero,List.set_cons_succ]
      refine wpAnyH_take (i:=4) (oi:={dst:=some 26,op:=Op.move (Operand.tmp 4),type:=3,pos:= "ref.go:92",after:=#[{on:=2,ground:=Ground.guard}],guard:=some (2,true)}) (v:=undef) rfl (by kernel_rfl) (by kernel_rfl) (by kernel_rfl) (fun _ _ _ h=>h) (Or.inr ⟨by rfl,rfl⟩) (by assumption) ?_
      simp only[Act.put,List.setIfInBounds_toArray,List.set_cons_zero,List.set_cons_succ]
      refine wpAnyH_take (i:=5) (oi:={dst:=some 27,op:=Op.indexAddr 23 (Operand.tmp 25) (Operand.tmp 26),type:=0,pos:= "ref.go:92",after:=#[{on:=3,ground:=Ground.data},{on:=4,ground:=Ground.data},{on:=2,ground:=Ground.guard}],guard:=some (2,true)}) (v:=undef) rfl (by kernel_rfl) (by kernel_rfl) (by kernel_rfl) (fun _ _ _ h=>h) (Or.inr ⟨by rfl,rfl⟩) (by assumption) ?_
      simp only[Act.put,List.setIfInBounds_toArray,List.set_cons_zero,List.set_cons_succ]
      refine wpAnyH_take (i:=6) (oi:={dst:=some 28,op:=Op.load 28 (Operand.tmp 27),type:=28,pos:= "ref.go:92",after:=#[{on:=5,ground:=Ground.data},{on:=2,ground:=Ground.guard}],guard:=some (2,true)}) (v:=undef) rfl (by kernel_rfl) (by kernel_rfl) (by kernel_rfl) (fun _ _ _ h=>h) (Or.inr ⟨by rfl,rfl⟩) (by assumption) ?_
      simp only[Act.put,List.setIfInBounds_toArray,List.set_cons_zero,List.set_cons_succ]
      refine wpAnyH_take (i:=7) (oi:={dst:=some 29,op:=Op.move (Operand.tmp 0),type:=23,pos:= "ref.go:92",after:=#[{on:=2,ground:=Ground.guard}],guard:=some (2,true)}) (v:=undef) rfl (by kernel_rfl) (by kernel_rfl) (by kernel_rfl) (fun _ _ _ h=>h) (Or.inr ⟨by rfl,rfl⟩) (by assumption) ?_
      simp only[Act.put,List.setIfInBounds_toArray,List.set_cons_zero,List.set_cons_succ]
      refine wpAnyH_take (i:=8) (oi:={dst:=some 30,op:=Op.move (Operand.tmp 3),type:=118,pos:= "ref.go:92",after:=#[{on:=2,ground:=Ground.guard}],guard:=some (2,true)}) (v:=undef) rfl (by kernel_rfl) (by kernel_rfl) (by kernel_rfl) (fun _ _ _ h=>h) (Or.inr ⟨by rfl,rfl⟩) (by assumption) ?_
      simp only[Act.put,List.setIfInBounds_toArray,List.set_cons_zero,List.set_cons_succ]
      refine wpAnyH_take (i:=9) (oi:={dst:=some 31,op:=Op.move (Operand.tmp 7),type:=3,pos:= "ref.go:92",after:=#[{on:=2,ground:=Ground.guard}],guard:=some (2,true)}) (v:=undef) rfl (by kernel_rfl) (by kernel_rfl) (by kernel_rfl) (fun _ _ _ h=>h) (Or.inr ⟨by rfl,rfl⟩) (by assumption) ?_
      simp only[Act.put,List.setIfInBounds_toArray,List.set_cons_zero,List.set_cons_succ]
      refine wpAnyH_take (i:=10) (oi:={dst:=some 32,op:=Op.indexAddr 118 (Operand.tmp 30) (Operand.tmp 31),type:=0,pos:= "ref.go:92",after:=#[{on:=8,ground:=Ground.data},{on:=9,ground:=Ground.data},{on:=2,ground:=Ground.guard}],guard:=some (2,true)}) (v:=undef) rfl (by kernel_rfl) (by kernel_rfl) (by kernel_rfl) (fun _ _ _ h=>h) (Or.inr ⟨by rfl,rfl⟩) (by assumption) ?_
      simp only[Act.put,List.setIfInBounds_toArray,List.set_cons_zero,List.set_cons_succ]
      refine wpAnyH_take (i:=11) (oi:={dst:=some 33,op:=Op.load 3 (Operand.tmp 32),type:=3,pos:= "ref.go:92",after:=#[{on:=10,ground:=Ground.data},{on:=2,ground:=Ground.guard}],guard:=some (2,true)}) (v:=undef) rfl (by kernel_rfl) (by kernel_rfl) (by kernel_rfl) (fun _ _ _ h=>h) (Or.inr ⟨by rfl,rfl⟩) (by assumption) ?_
      simp only[Act.put,List.setIfInBounds_toArray,List.set_cons_zero,List.set_cons_succ]
      refine wpAnyH_take (i:=12) (oi:={dst:=some 34,op:=Op.indexAddr 23 (Operand.tmp 29) (Operand.tmp 33),type:=0,pos:= "ref.go:92",after:=#[{on:=7,ground:=Ground.data},{on:=11,ground:=Ground.data},{on:=2,ground:=Ground.guard}],guard:=some (2,true)}) (v:=undef) rfl (by kernel_rfl) (by kernel_rfl) (by kernel_rfl) (fun _ _ _ h=>h) (Or.inr ⟨by rfl,rfl⟩) (by assumption) ?_
      simp only[Act.put,List.setIfInBounds_toArray,List.set_cons_zero,List.set_cons_succ]
      refine wpAnyH_take (i:=13) (oi:={dst:=some 35,op:=Op.load 28 (Operand.tmp 34),type:=28,pos:= "ref.go:92",after:=#[{on:=12,ground:=Ground.data},{on:=2,ground:=Ground.guard}],guard:=some (2,true)}) (v:=undef) rfl (by kernel_rfl) (by kernel_rfl) (by kernel_rfl) (fun _ _ _ h=>h) (Or.inr ⟨by rfl,rfl⟩) (by assumption) ?_
      simp only[Act.put,List.setIfInBounds_toArray,List.set_cons_zero,List.set_cons_succ]
      refine wpAnyH_take (i:=14) (oi:={dst:=some 36,op:=Op.call {callee:=Callee.value (Operand.func 100),args:=#[Operand.tmp 28,Operand.tmp 35],argTypes:=#[28,28]},type:=4,pos:= "ref.go:92",after:=#[{on:=6,ground:=Ground.data},{on:=13,ground:=Ground.data},{on:=2,ground:=Ground.chain},{on:=2,ground:=Ground.guard}],guard:=some (2,true)}) (v:=undef) rfl (by kernel_rfl) (by kernel_rfl) (by kernel_rfl) (fun _ _ _ h=>h) (Or.inr ⟨by rfl,rfl⟩) (by assumption) ?_
      simp only[Act.put,List.setIfInBounds_toArray,List.set_cons_zero,List.set_cons_succ]
      refine wpAnyH_take (i:=15) (oi:={dst:=some 37,op:=Op.pick (Operand.tmp 24) (Operand.tmp 36) (Operand.const (Value.bool false)),type:=4,pos:= "ref.go:92",after:=#[{on:=2,ground:=Ground.data},{on:=14,ground:=Ground.data}],guard:=none}) (v:=.bool false) rfl (by kernel_rfl) (by kernel_rfl) (by kernel_rfl) (fun _ _ _ h=>h) (Or.inl ⟨by rfl,?_⟩) (by assumption) ?_
      ·(intro w d;(try dsimp only at d);go_simp)
      simp only[Act.put,List.setIfInBounds_toArray,List.set_cons_zero,List.set_cons_succ]
      refine wpAnyH_done (by kernel_rfl) ?_ _
      skip
      obtain⟨v3,w6,f,l,u,F⟩:=(uH z).nx.push19 L (by rw[fw];split<;>omega) (uH z).bel.size 118
      have D:=aa f
      have cO:=(uH J).2.1
      have U:=aa ((uH z).pushed l u F)
      clear f l u F
      go_wp2_with(at_builtin;refine aS _ rfl _ _ 118 rfl _ _ _ _ rfl rfl (uH D) ?_;clear D)
      clear cO
      go_round
      case rel=>exact⟨k+1,by omega,by go_num,by rw[uH am,hd];rfl,aa (by rw[uH ap,hd];exact uH U)⟩
      case measure=>simp[intOf];omega
    ·have a5:k=i:=by omega
     subst a5
     have a4:¬((k:Int)<(k:Int)):=by omega
     cases hd:oD I P k k
     ·obtain⟨v3,w6,f,l,u,F⟩:=(uH z).nx.push19 k (by rw[fw];split<;>omega) (uH z).bel.size 118
      have D:=aa f
      have U:=aa ((uH z).pushed l u F)
      clear f l u F z
      have EQ:=aa (show iC I P k k++[k]=PN from by rw[uH PE,hd];rfl)
      have EL:=aa (show(iC I P k k++[k]).length=k+1 from by rw[List.length_append,fw,hd];rfl)
      have S4:=aa (uH U)
      rw[uH EQ]at S4 EL
      obtain⟨g2,c2,hv,_⟩:=(uH S4).nx.slice (by rw[uH EL];omega)
      rw[uH EL]at hv
      subst hv
      clear U
      go_wp2_with(at_builtin;refine aS _ rfl _ _ 118 rfl _ _ _ _ rfl rfl (uH D) ?_;clear D)
      go_round
      case rel=>exact⟨k+1,g2,c2,by omega,rfl,by go_num,aa (uH S4).bel,aa (by rw[uH ax];exact(uH S4).nx)⟩
      case measure=>simp[intOf];omega
     ·have EQ:=aa (show iC I P k k=PN from by rw[uH PE,hd];rfl)
      have EL:=aa (show(iC I P k k).length=k+1 from by rw[fw,hd];rfl)
      rw[uH EQ]at z EL
      obtain⟨g2,c2,hv,_⟩:=(uH z).nx.slice (by rw[uH EL];omega)
      rw[uH EL]at hv
      subst hv
      go_wp2_with fail
      go_round
      case rel=>exact⟨k+1,g2,c2,by omega,rfl,by go_num,aa (uH z).bel,aa (by rw[uH ax];exact(uH z).nx)⟩
      case measure=>simp[intOf];omega
  ·have a6:i=n:=by omega
   subst a6
   have a3:¬((i:Int)<(i:Int)):=by omega
   go_wp2_with fail
   go_ret
   exact⟨H,Q,rfl,uH hO,uH hB⟩
end Go.Proofs.YtdhmglmccafbnaaGreatDoor
namespace Go.Proofs.YtdhmglmccafbnaaGreatDoor
open Go.RowKit
theorem E6(d:List Nat)(J:d.length≤64)(F:∀x∈d,x<18446744073709551616)(G:∀x∈d,aA x=true):fK (Fj d)≠4:=by
 have K:=E5 d (fun x h=>⟨F x h,G x h⟩)
 by_cases u:iA 0 d=0
 ·have e:Fj d=0:=by unfold Fj;rw[if_pos (.inl u)];exact u
  rw[e];decide
 obtain⟨k,H⟩:∃k,eX (iA 0 d)=k:=⟨_,rfl⟩
 obtain⟨b1,Y,b3,b4,b5,b6,b7,z,y,Z,b9,D⟩:=DQ 5000 d K u
 rw[H]at z D
 have L:Fj d=xV (sV (yC k 0 d)) k:=by
  unfold Fj
  rw[if_neg (by rw[Y];simp[u]),H]
 have M:1≤k9 k d:=by have:=DP k d y Z;grind
 have N:(d.length:Rat)≤64:=Rat.natCast_le_natCast.2 J
 have O:k9 k d≤256:=by have:=Gk k d z;grind
 have Q:=Rat.mul_nonneg (show 0≤64-(d.length:Rat) by grind) (show 0≤k9 k d by grind)
 have U:fQ 0=0:=k8 0 (by decide)
 obtain⟨e1,e2,e3⟩:=Gh k (k9 k d) M O d 0 0 0 (fun x f=>⟨F x f,G x f,z x f⟩) (by decide) (by decide) (by grind) (by grind) (by rw[U];unfold ab;grind)
 generalize yC k 0 d=s at*
 have e4:9007199254740992*ab (fQ s-k9 k d)≤130*k9 k d:=by
  have:(0:Rat)+k9 k d=k9 k d:=Rat.zero_add _
  rw[this]at e3
  grind
 have l:=km (fQ s-k9 k d)
 have s1:1≤2*fQ s:=by grind
 have V:fK s≠0:=fun e=>by
  have:=k8 s e
  grind
 obtain⟨r1,r2,r3,r4,r5,r6,r7⟩:=Ae s e1 V e2
 have X:fK (sV s)≠0:=fun e=>by
  have:=(aR (sV s)).1 e
  omega
 rw[L,qJ _ _ r1 X]
 exact fc _ _ (cH _ _)
theorem IC{a b:Nat}(f:fK a≠4)(l:fK b≠4):eJ a b=decide (fZ a<fZ b):=by
 unfold eJ cO bc
 rw[if_neg (fun e=>e.elim f l)]
 by_cases h:fZ a<fZ b
 ·simp[h]
 ·by_cases d:fZ b<fZ a
  ·simp[h,d]
  ·simp[h,d]
theorem Cb(I P:List Nat)(i J:Nat)(F:P.length=i)(G:J≤i)(D:∀j,j<i→(eJ (I.getD (P.getD j 0) 0) (I.getD i 0)=true↔J≤j)):∀k,k≤i→oD I P i k=decide (J<k)∧iC I P i k=if J<k then P.take J++i::(P.drop J).take (k-J)else P.take k
 |0,_=>⟨by simp[oD],by simp[iC]⟩
 |k+1,hk=>by
  obtain⟨d,n⟩:=Cb I P i J F G D k (by omega)
  have eN:iC I P i (k+1)=(if(!oD I P i k&&eJ (I.getD (P.getD k 0) 0) (I.getD i 0))=true then iC I P i k++[i]else iC I P i k)++[P.getD k 0]:=rfl
  have H:oD I P i (k+1)=(oD I P i k||eJ (I.getD (P.getD k 0) 0) (I.getD i 0)):=rfl
  have l:k<P.length:=by omega
  have gk:P.getD k 0=P[k]:=by rw[List.getD_eq_getElem?_getD,List.getElem?_eq_getElem l];rfl
  have h:=D k (by omega)
  rw[eN,H,d,n]
  rcases Nat.lt_trichotomy k J with c|c|c
  ·have f:eJ (I.getD (P.getD k 0) 0) (I.getD i 0)=false:=by
    cases e:eJ (I.getD (P.getD k 0) 0) (I.getD i 0)with
    |false=>rfl
    |true=>have:=h.1 e;omega
   have z:¬J<k:=by omega
   have u:¬J<k+1:=by omega
   refine⟨?_,?_⟩
   ·rw[f,decide_eq_false z,decide_eq_false u];rfl
   ·rw[f,decide_eq_false z,if_neg (show¬(!false&&false)=true by decide),if_neg z,if_neg u,gk,List.take_add_one,List.getElem?_eq_getElem l]
    rfl
  ·subst c
   have f:eJ (I.getD (P.getD k 0) 0) (I.getD i 0)=true:=h.2 (Nat.le_refl _)
   have z:¬k<k:=by omega
   have u:k<k+1:=by omega
   have e:(P.drop k).take (k+1-k)= [P[k]]:=by
    rw[show k+1-k=1 by omega,List.drop_eq_getElem_cons l]
    rfl
   refine⟨?_,?_⟩
   ·rw[f,Bool.or_true,decide_eq_true u]
   ·rw[f,decide_eq_false z,if_pos (show(!false&&true)=true by decide),if_neg z,if_pos u,gk,e]
    simp
  ·have u:J<k+1:=by omega
   have e:(P.drop J).take (k+1-J)=(P.drop J).take (k-J)++[P[k]]:=by
    rw[show k+1-J=(k-J)+1 by omega,List.take_add_one,List.getElem?_drop,show J+(k-J)=k by omega,List.getElem?_eq_getElem l]
    rfl
   refine⟨?_,?_⟩
   ·rw[decide_eq_true c,decide_eq_true u,Bool.true_or]
   ·rw[decide_eq_true c,if_neg (show¬(!true&&eJ (I.getD (P.getD k 0) 0) (I.getD i 0))=true by simp),if_pos c,if_pos u,gk,e]
    simp
def ID(I P:List Nat):Prop:=P.Pairwise (fun a b=>¬fZ (I.getD a 0)<fZ (I.getD b 0))
theorem oF(I:List Nat)(n:Nat)(H:∀i,i<n→fK (I.getD i 0)≠4):∀i,i≤n→eK I i=cE I i∧ID I (cE I i)
 |0,_=>⟨rfl,List.Pairwise.nil⟩
 |i+1,hi=>by
  obtain⟨e,d⟩:=oF I n H i (by omega)
  have z:=dI I i
  have U:=kD I i
  have f:∀j,(l:j<i)→(cE I i).getD j 0=(cE I i)[j]'(by omega):=fun j l=>by
   rw[List.getD_eq_getElem?_getD,List.getElem?_eq_getElem (by omega)];rfl
  have K:∀j,j<i→(cE I i).getD j 0<n:=fun j l=>by
   rw[f j l]
   exact Nat.lt_trans (U _ (List.getElem_mem _)) (by omega)
  have D:∀j,j<i→eJ (I.getD ((cE I i).getD j 0) 0) (I.getD i 0)=decide (fZ (I.getD ((cE I i).getD j 0) 0)<fZ (I.getD i 0)):=fun j l=>IC (H _ (K j l)) (H i (by omega))
  have V:=re (ry I i) i
  have up:=vi (ry I i) i
  have X:=rf (ry I i) i
  have O:cE I (i+1)=(cE I i).take (ph (ry I i) i)++i::(cE I i).drop (ph (ry I i) i):=rfl
  generalize ph (ry I i) i=J at*
  have L:∀j,j<i→(eJ (I.getD ((cE I i).getD j 0) 0) (I.getD i 0)=true↔J≤j):=fun j l=>by
   constructor
   ·intro h
    rcases Nat.lt_or_ge j J with c|c
    ·exfalso
     have Y:=X (by omega)
     have F:eJ (I.getD ((cE I i).getD (J-1) 0) 0) (I.getD i 0)=false:=Y
     rw[D (J-1) (by omega)]at F
     rw[D j l]at h
     have F:=of_decide_eq_false F
     have h:=of_decide_eq_true h
     rcases Nat.lt_or_ge j (J-1)with Q|Q
     ·have q:=List.pairwise_iff_getElem.1 d j (J-1) (by omega) (by omega) Q
      rw[←f j l,←f (J-1) (by omega)]at q
      omega
     ·have:j=J-1:=by omega
      subst this
      exact F h
    ·exact c
   ·intro c
    exact up j c l
  obtain⟨k1,k2⟩:=Cb I (cE I i) i J z V L i (Nat.le_refl _)
  refine⟨?_,?_⟩
  ·have er:eK I (i+1)=if oD I (eK I i) i i=true then iC I (eK I i) i i else iC I (eK I i) i i++[i]:=rfl
   rw[er,e,k1,k2,O]
   by_cases c:J<i
   ·have Z:((cE I i).drop J).take (i-J)=(cE I i).drop J:=List.take_of_length_le (by rw[List.length_drop,z];exact Nat.le_refl _)
    rw[if_pos (decide_eq_true c),if_pos c,Z]
   ·have:J=i:=by omega
    subst this
    have q1:¬decide (J<J)=true:=by simp
    rw[if_neg q1,if_neg c,List.drop_of_length_le (by omega)]
  ·rw[O]
   unfold ID at d⊢
   have G:((cE I i).take J++(cE I i).drop J).Pairwise (fun a b=>¬fZ (I.getD a 0)<fZ (I.getD b 0)):=by rw[List.take_append_drop];exact d
   rw[List.pairwise_append]at G⊢
   refine⟨G.1,?_,fun a N b u=>?_⟩
   ·rw[List.pairwise_cons]
    refine⟨fun b u=>?_,G.2.1⟩
    obtain⟨t,M,rfl⟩:=List.mem_iff_getElem.1 u
    rw[List.length_drop,z]at M
    have q:=(L (J+t) (by omega)).2 (by omega)
    rw[D (J+t) (by omega),f (J+t) (by omega)]at q
    have q:=of_decide_eq_true q
    rw[List.getElem_drop]
    omega
   ·rcases List.mem_cons.1 u with rfl|u
    ·obtain⟨t,M,rfl⟩:=List.mem_iff_getElem.1 N
     rw[List.length_take,z]at M
     have q:¬(eJ (I.getD ((cE I b).getD t 0) 0) (I.getD b 0)=true):=fun h=>by have:=(L t (by omega)).1 h;omega
     rw[D t (by omega),f t (by omega)]at q
     rw[List.getElem_take]
     exact fun h=>q (decide_eq_true h)
    ·exact G.2.2 a N b u
theorem ww(I:List Nat):∀i,∀j,j<i→j∈cE I i
 |0,j,h=>absurd h (Nat.not_lt_zero _)
 |i+1,j,h=>by
  have d:cE I (i+1)=(cE I i).take (ph (ry I i) i)++i::(cE I i).drop (ph (ry I i) i):=rfl
  rw[d]
  rcases Nat.lt_or_ge j i with c|c
  ·have:=ww I i j c
   rw[←List.take_append_drop (ph (ry I i) i) (cE I i)]at this
   rcases List.mem_append.1 this with h|h
   ·exact List.mem_append_left _ h
   ·exact List.mem_append_right _ (List.mem_cons_of_mem _ h)
  ·rw[show j=i by omega]
   exact List.mem_append_right _ List.mem_cons_self
theorem wx(I P:List Nat)(i:Nat):∀k,(∀j,j<k→P.getD j 0∈iC I P i k)∧(oD I P i k=true→i∈iC I P i k)
 |0=>⟨fun j h=>absurd h (Nat.not_lt_zero _),fun h=>by cases h⟩
 |k+1=>by
  obtain⟨f,l⟩:=wx I P i k
  have eN:iC I P i (k+1)=(if(!oD I P i k&&eJ (I.getD (P.getD k 0) 0) (I.getD i 0))=true then iC I P i k++[i]else iC I P i k)++[P.getD k 0]:=rfl
  have d:oD I P i (k+1)=(oD I P i k||eJ (I.getD (P.getD k 0) 0) (I.getD i 0)):=rfl
  rw[eN,d]
  refine⟨fun j u=>?_,fun h=>?_⟩
  ·rcases Nat.lt_or_ge j k with c|c
   ·have:=f j c
    refine List.mem_append_left _ ?_
    split
    ·exact List.mem_append_left _ this
    ·exact this
   ·rw[show j=k by omega]
    exact List.mem_append_right _ (List.mem_singleton.2 rfl)
  ·refine List.mem_append_left _ ?_
   cases hd:oD I P i k with
   |true=>
    rw[if_neg (by simp)]
    exact l hd
   |false=>
    rw[hd,Bool.false_or]at h
    rw[h,if_pos (by rfl)]
    exact List.mem_append_right _ (List.mem_singleton.2 rfl)
theorem wy(I:List Nat):∀i,∀j,j<i→j∈eK I i
 |0,j,h=>absurd h (Nat.not_lt_zero _)
 |i+1,j,h=>by
  have er:eK I (i+1)=if oD I (eK I i) i i=true then iC I (eK I i) i i else iC I (eK I i) i i++[i]:=rfl
  obtain⟨l,u⟩:=wx I (eK I i) i i
  have d:j<i→j∈iC I (eK I i) i i:=fun c=>by
   obtain⟨t,f,e⟩:=List.mem_iff_getElem.1 (wy I i j c)
   have:=l t (by rw[←kG I i];exact f)
   rw[List.getD_eq_getElem?_getD,List.getElem?_eq_getElem f]at this
   rw[←e]
   exact this
  rw[er]
  rcases Nat.lt_or_ge j i with c|c
  ·split
   ·exact d c
   ·exact List.mem_append_left _ (d c)
  ·rw[show j=i by omega]
   split
   ·rename_i z
    exact u z
   ·exact List.mem_append_right _ (List.mem_singleton.2 rfl)
theorem E7{a:Nat}{k:Int}(h:aA (xV a k)=true):aA a=true:=by
 cases e:aA a with
 |true=>rfl
 |false=>
  exfalso
  have d:fK a=4∨fK a=3:=by
   rcases eT a with⟨_,q⟩|⟨q,_⟩
   ·exact q.symm
   ·rw[q]at e;cases e
  unfold xV at h
  rcases d with q|q
  ·rw[if_pos q]at h;revert h;decide+kernel
  ·rw[if_neg (by omega),if_pos (.inl q),e]at h;cases h
theorem wz{r c:Nat}{S P:List Nat}{k:Int}(N:r≤6)(H:∀x∈S,x<18446744073709551616)(J:∀j,j<c→j∈P)(h:dq (iX (eP r c S P) k)=true):eK (bR r c S) c=cE (bR r c S) c:=by
 refine(oF (bR r c S) c (fun j u=>?_) c (Nat.le_refl _)).1
 have e:(bR r c S).getD j 0=Fj (gl r c S j):=by
  unfold bR
  rw[List.getD_eq_getElem?_getD,List.getElem?_map,List.getElem?_range u]
  show jO r c S j=_
  unfold jO
  rw[Ew,EO]
 rw[e]
 refine E6 _ (by rw[bC];omega) (G3 H r c j) (fun x z=>?_)
 unfold gl GM cG at z
 obtain⟨p,d,rfl⟩:=List.mem_map.1 z
 have d:=List.mem_range.1 d
 rw[Nat.mul_one]at d
 show aA (bJ c S (0+p/1) (j+p%1))=true
 rw[Nat.div_one,Nat.mod_one,Nat.zero_add,Nat.add_zero]
 obtain⟨q,l,M⟩:=List.mem_iff_getElem.1 (J j u)
 have K:P.getD q 0=j:=by rw[List.getD_eq_getElem?_getD,List.getElem?_eq_getElem l];exact M
 have D:=Iq r c S P d l
 rw[K]at D
 have f:p*P.length+q<(eP r c S P).length:=by rw[cN];exact bW d l
 have F:=(BG _).1 h (p*P.length+q) (by rw[ir];exact f)
 have L:(iX (eP r c S P) k).getD (p*P.length+q) 0=xV ((eP r c S P).getD (p*P.length+q) 0) k:=by
  unfold iX
  rw[List.getD_eq_getElem?_getD,List.getElem?_map,List.getElem?_range f]
  rfl
 rw[L]at F
 have G:=E7 F
 rw[show(eP r c S P).getD (p*P.length+q) 0=bJ P.length (eP r c S P) p q from rfl,D]at G
 exact G
theorem wA{S:List Nat}(h:∀x∈S,x<18446744073709551616)(c i k:Nat):bJ c S i k<18446744073709551616:=by
 unfold bJ
 rw[List.getD_eq_getElem?_getD]
 cases e:S[i*c+k]? with
 |none=>decide
 |some v=>exact h v (List.mem_of_getElem? e)
theorem wB{r c:Nat}{f:Nat→Nat→Nat}(h:∀i k,f i k<18446744073709551616):∀x∈cG r c f,x<18446744073709551616:=by
 intro x d
 unfold cG at d
 obtain⟨p,_,rfl⟩:=List.mem_map.1 d
 exact h _ _
theorem E8{S:List Nat}(h:∀x∈S,x<18446744073709551616)(r c i k C s:Nat):∀x∈tW r c S i k C s,x<18446744073709551616:=by
 unfold tW
 refine wB (fun p q=>?_)
 split
 ·exact dR _ _ (bM _ _) (bM _ _)
 ·split
  ·exact dR _ _ (bM _ _) (gH _ (bM _ _))
  ·exact wA h _ _ _
theorem wC{S:List Nat}(h:∀x∈S,x<18446744073709551616)(r c:Nat):∀x∈ru r c S,x<18446744073709551616:=wB (fun _ _=>wA h _ _ _)
theorem E9{S:List Nat}(h:∀x∈S,x<18446744073709551616)(r c i k C s:Nat):∀x∈fu r c S i k C s,x<18446744073709551616:=wC (E8 (wC h _ _) _ _ _ _ _ _) _ _
def bX(ty:TypeId)(w:World)(b:Nat)(xs:List Value):Prop:=w.heap[b]? =some (.cells xs.toArray ty (0,0))
theorem bX.c{f:TypeId}{w:World}{b:Nat}{d:List Value}(h:bX f w b d)(i:Nat){v:Value}(l:d[i]? =some v):w.cell? ⟨b,i,none⟩=some v:=by
 rw[cell_of_row w b i _ _ _ h]
 simpa using l
theorem bX.free{d:TypeId}{w:World}{b:Nat}{f:List Value}(h:bX d w b f)(j:Nat):w.frozen? ⟨b,j,none⟩=false:=frozen_of_row w b j _ _ h
theorem bX.lt{d:TypeId}{w:World}{b:Nat}{f:List Value}(h:bX d w b f):b<w.heap.size:=(Array.getElem?_eq_some_iff.1 h).1
theorem bX.below{f:TypeId}{w w':World}{b:Nat}{l:List Value}(h:bX f w b l){B:Nat}(u:Below B w w')(d:b<B):bX f w' b l:=(u.block b d).trans h
theorem bX.all{d:TypeId}{w w':World}{b:Nat}{f:List Value}(h:bX d w b f)(l:Below w.heap.size w w'):bX d w' b f:=h.below l h.lt
theorem bX.set{d:TypeId}{w:World}{b:Nat}{f:List Value}(h:bX d w b f)(j:Nat)(u:Value):bX d (w.setCell ⟨b,j,none⟩ u) b (f.set j u):=by
 unfold bX
 rw[heap_setCell_same w b j _ _ _ h]
 simp
theorem bX.new(d:TypeId)(w:World)(f:List Value):bX d (w.alloc (.cells f.toArray d)) w.heap.size f:=heap_alloc_new w _
def putL(w:World)(b:Nat):Nat→List Value→World
 |_,[]=>w
 |i,v::vs=>putL (w.setCell ⟨b,i,none⟩ v) b (i+1) vs
theorem cP{B b:Nat}(f:B≤b):∀(d:List Value) (i:Nat) {w w':World},Below B w w'→Below B w (putL w' b i d)
 | [],_,_,_,h=>h
 |_::d,i,_,_,h=>cP f d (i+1) (h.setCell f _)
theorem lw{b k:Nat}(f:k≠b):∀(d:List Value) (i:Nat) (w:World),(putL w b i d).heap[k]? =w.heap[k]?
 | [],_,_=>rfl
 |v::d,i,w=>(lw f d (i+1) _).trans (Below.heap_setCell w ⟨b,i,none⟩ v k f)
theorem bX.putL{l:TypeId}{b:Nat}:∀(f:List Value) (i:Nat) (d:List Value) (w:World),bX l w b d→bX l (Go.Proofs.YtdhmglmccafbnaaGreatDoor.putL w b i f) b ((d.take i)++f++d.drop (i+f.length))∨d.length<i+f.length
 | [],i,d,w,h=>.inl (by show bX l w b _;simpa using h)
 |v::f,i,d,w,h=>by
  by_cases u:d.length<i+(v::f).length
  ·exact .inr u
  ·left
   have D:i<d.length:=by simp at u;omega
   rcases bX.putL f (i+1) (d.set i v) _ (h.set i v)with z|z
   ·show bX l (Go.Proofs.YtdhmglmccafbnaaGreatDoor.putL (w.setCell ⟨b,i,none⟩ v) b (i+1) f) b _
    have e:(d.set i v).take (i+1)++f++(d.set i v).drop (i+1+f.length)=d.take i++(v::f)++d.drop (i+(v::f).length):=by
     have F:(d.set i v).take (i+1)=d.take i++[v]:=by
      rw[List.take_add_one,List.take_set_of_le (Nat.le_refl i)]
      simp[D]
     have G:(d.set i v).drop (i+1+f.length)=d.drop (i+(v::f).length):=by
      rw[List.drop_set_of_lt (by omega)]
      congr 1
      simp;omega
     rw[F,G]
     simp
    rw[←e]
    exact z
   ·rw[List.length_set]at z
    simp at u
    omega
theorem bX.full{l:TypeId}{w:World}{b:Nat}{f:List Value}(h:bX l w b f)(d:List Value)(u:d.length=f.length):bX l (Go.Proofs.YtdhmglmccafbnaaGreatDoor.putL w b 0 d) b d:=by
 rcases bX.putL d 0 f w h with g|g
 ·have e:f.take 0++d++f.drop (0+d.length)=d:=by simp[u]
  rwa[e]at g
 ·omega
theorem cU{b:Nat}{d:Option Addr}{c:Nat}{I:List Int}(u:yl (some b) d I):∀(f:List Value) (i:Nat) {w:World},af w d c I→af (putL w b i f) d c I
 | [],_,_,h=>h
 |v::f,i,w,h=>cU u f (i+1) (h.other (p:=⟨b,i,none⟩) (by
   rcases u with e|⟨k,l,z,D⟩
   ·exact .inl e
   ·exact .inr ⟨k,l,z,fun e=>D (congrArg some e)⟩) v)
theorem aw.putL{w:World}{g b:Nat}{x y z:Value}(h:aw w g x y z)(f:g≠b)(i:Nat)(d:List Value):aw (Go.Proofs.YtdhmglmccafbnaaGreatDoor.putL w b i d) g x y z:=(lw f d i w).trans h
theorem bX.putO{d:TypeId}{w:World}{g b:Nat}{f:List Value}(h:bX d w g f)(u:g≠b)(i:Nat)(l:List Value):bX d (Go.Proofs.YtdhmglmccafbnaaGreatDoor.putL w b i l) g f:=(lw u l i w).trans h
theorem bX.off{u:TypeId}{w:World}{b:Nat}{f:List Value}(h:bX u w b f)(D:∀v∈f,∀z,v≠ .int .u64 z){l:Option Addr}{c:Nat}{I:List Int}(F:af w l c I):yl (some b) l I:=by
 rcases F.2.2 with e|⟨k,d,J,L,K⟩
 ·exact .inl e
 ·rcases Nat.eq_zero_or_pos I.length with e|e
  ·exact .inl (List.eq_nil_of_length_eq_zero e)
  ·refine .inr ⟨k,d,J,fun G=>?_⟩
   have H:k=b:=by simpa using G
   subst H
   have:=K 0 e
   rw[cell_of_row w k _ _ _ _ h]at this
   have q:(f.toArray[d+0]? =some (.int .u64 (I[0]?.getD 0))):=this
   rw[List.getElem?_toArray]at q
   exact D _ (List.mem_of_getElem? q) _ rfl
attribute [local go_sem ↓] Go.wp_at_zero Go.wp_at_succ
structure tP (w wr:World) (g4 g5 r c N M:Nat) (W V:List Nat) (wo vo:Option Addr) (wc vc:Nat):Prop where
 bel:Below w.heap.size w wr
 res:bX 63 wr (w.heap.size+1) [.int .i64 0,.int .i64 0,.slice none 0 0,.int .i64 0,.int .i64 0,.slice none 0 0,.slice none 0 0,.int .i64 0]
 bw:aw wr g4 (.int .i64 r) (.int .i64 c) (.slice wo N wc)
 bv:aw wr g5 (.int .i64 c) (.int .i64 c) (.slice vo M vc)
 h4:w.heap.size+1<g4
 h5:g4<g5
 mw:Mx wr wo wc r c W
 mv:Mx wr vo vc c c V
 hN:W.length=N
 hM:V.length=M
theorem tP.all{w wr w':World}{f l r c N M:Nat}{W V:List Nat}{u z:Option Addr}{wc D:Nat}(h:tP w wr f l r c N M W V u z wc D)(d:Below wr.heap.size wr w'):tP w w' f l r c N M W V u z wc D:=
 ⟨h.bel.trans (d.mono h.bel.size),h.res.all d,h.bw.all d,h.bv.all d,h.h4,h.h5,h.mw.below d,h.mv.below d,h.hN,h.hM⟩
theorem bX.three19{w:World}{g b:Nat}{f:List Value}(h:bX 63 w g f)(z:g≠b)(u l d:Value):bX 63 (((w.setCell ⟨b,0,none⟩ u).setCell ⟨b,1,none⟩ l).setCell ⟨b,2,none⟩ d) g f:=h.putO z 0 [u,l,d]
theorem tP.putW{w wr:World}{l z r c N M:Nat}{W V:List Nat}{G D:Option Addr}{wc F:Nat}(h:tP w wr l z r c N M W V G D wc F){u:List Nat}{d:Option Addr}{f:Nat}(H:Mx wr d f r c u)(J:u.length=N):
  tP w (((wr.setCell ⟨l,0,none⟩ (.int .i64 r)).setCell ⟨l,1,none⟩ (.int .i64 c)).setCell ⟨l,2,none⟩ (.slice d N f)) l z r c N M u V d D f F:=by
 have K:=h.h4;have L:=h.h5
 exact⟨aq (b:=l) h.bel (by omega) _ _ _,h.res.three19 (by omega) _ _ _,h.bw.put _ _ _,h.bv.three (by omega) _ _ _,K,L,H.putM h.bw _ _ _,h.mv.putM h.bw _ _ _,J,h.hM⟩
theorem tP.putV{w wr:World}{z l r c N M:Nat}{W V:List Nat}{D F:Option Addr}{wc G:Nat}(h:tP w wr z l r c N M W V D F wc G){u:List Nat}{d:Option Addr}{f:Nat}(H:Mx wr d f c c u)(J:u.length=M):
  tP w (((wr.setCell ⟨l,0,none⟩ (.int .i64 c)).setCell ⟨l,1,none⟩ (.int .i64 c)).setCell ⟨l,2,none⟩ (.slice d M f)) z l r c N M W u D d wc f:=by
 have K:=h.h4;have L:=h.h5
 exact⟨aq (b:=l) h.bel (by omega) _ _ _,h.res.three19 (by omega) _ _ _,h.bw.three (by omega) _ _ _,h.bv.put _ _ _,K,L,h.mw.putM h.bv _ _ _,H.putM h.bv _ _ _,h.hN,J⟩
theorem tP.put{w wr:World}{z D r c N M:Nat}{W V:List Nat}{H J:Option Addr}{wc K:Nat}(h:tP w wr z D r c N M W V H J wc K){F G:List Nat}{d f:Option Addr}{l u:Nat}(L:Mx wr d l r c F)(O:Mx wr f u c c G)(Q:F.length=N)(U:G.length=M):
  tP w ((((((wr.setCell ⟨z,0,none⟩ (.int .i64 r)).setCell ⟨z,1,none⟩ (.int .i64 c)).setCell ⟨z,2,none⟩ (.slice d N l)).setCell ⟨D,0,none⟩ (.int .i64 c)).setCell ⟨D,1,none⟩ (.int .i64 c)).setCell ⟨D,2,none⟩ (.slice f M u)) z D r c N M F G d f l u:=
 (h.putW L Q).putV (O.putM h.bw _ _ _) U
def Fv(w':World)(r c N M:Nat)(still fin:Bool)(W V:List Nat)(e:Ending):Prop:=
 (still=false∧e=.returned (.agg #[.int .i64 0,.int .i64 0,.slice none 0 0,.int .i64 0,.int .i64 0,.slice none 0 0,.slice none 0 0,.int .i64 6]))∨(still=true∧fin=false∧e=.returned (.agg #[.int .i64 0,.int .i64 0,.slice none 0 0,.int .i64 0,.int .i64 0,.slice none 0 0,.slice none 0 0,.int .i64 2]))∨
 (still=true∧fin=true∧∃wo wc vo vc so sc,e=.returned (.agg #[.int .i64 r,.int .i64 c,.slice wo N wc,.int .i64 c,.int .i64 c,.slice vo M vc,.slice so c sc,.int .i64 0])∧af w' wo wc (aL W)∧af w' vo vc (aL V)∧af w' so sc (aL (bR r c W)))
theorem dr.three19{d:Nat}{w:World}{v:Value}{L:List Nat}(h:dr d w v L){g:Nat}(z:v.ownBlock≠some g)(u l f:Value):dr d (((w.setCell ⟨g,0,none⟩ u).setCell ⟨g,1,none⟩ l).setCell ⟨g,2,none⟩ f) v L:=
 h.kept (bI (bI (fg w g 0 u) (fg _ g 1 l)) (fg _ g 2 f)) (.inr z)
theorem fC:∀v∈([.int .i64 0,.int .i64 0,.slice none 0 0,.int .i64 0,.int .i64 0,.slice none 0 0,.slice none 0 0,.int .i64 0]:List Value),∀z,v≠ .int .u64 z:=by
 intro v d z
 simp only[List.mem_cons,List.not_mem_nil,or_false]at d
 rcases d with rfl|rfl|rfl|rfl|rfl|rfl|rfl|rfl<;>simp
theorem Hb(I:List Nat)(n:Nat){y:Nat}(d:y<n):(eK I n).getD y 0<n:=by
 refine mO I n n (Nat.le_refl _) _ ?_
 rw[List.getD_eq_getElem?_getD,List.getElem?_eq_getElem (by rw[kG];exact d)]
 exact List.getElem_mem _
theorem gv{f:Nat}(r c d z D:Nat)(F:Option Addr)(S I:List Nat)(w:World)(h:Mx w F d r c S)(L:dr f w (.slice (some ⟨z,0,none⟩) c D) (eK I c)):
  Calls Tryz.prog 97 #[.agg #[.int .i64 r,.int .i64 c,.slice F S.length d],.slice (some ⟨z,0,none⟩) c D] w fun e w'=>∃l u,e=.returned (.agg #[.int .i64 r,.int .i64 c,.slice l (eP r c S (eK I c)).length u])∧af w' l u (aL (eP r c S (eK I c)))∧Below w.heap.size w w':=by
 have N:=h.2.2.2
 have J:=kG I c
 obtain⟨O,K,G,Q⟩:=L.ints (fun x M=>by have:=mO I c c (Nat.le_refl _) x M;omega)
 rw[J]at G
 simp only[Value.slice.injEq]at G
 obtain⟨rfl,_,rfl⟩:=G
 have q:=qY r c d D F (some ⟨z,0,none⟩) S (eK I c) w h Q (by omega) (fun y V=>Hb I c (by omega))
 rw[J]at q
 refine q.mono ?_
 rintro e w' ⟨v,rfl,⟨l,u,rfl,_,H⟩,U⟩
 exact⟨l,u,rfl,H,U⟩
theorem Cc(r c N M X:Nat)(ao:Option Addr)(A:List Nat)(w:World)(h:Mx w ao X r c A)(hN:A.length=N)(hM:c*c=M):
  Calls Tryz.prog 38 #[.agg #[.int .i64 r,.int .i64 c,.slice ao N X]] w fun e w'=>Fv w' r c N M (ge r c A).still (dq (iX (eP r c (ge r c A).W (eK (bR r c (ge r c A).W) c)) (rh A))&&dq (eP c c (ge r c A).V (eK (bR r c (ge r c A).W) c))) (iX (eP r c (ge r c A).W (eK (bR r c (ge r c A).W) c)) (rh A)) (eP c c (ge r c A).V (eK (bR r c (ge r c A).W) c)) e∧Below w.heap.size w w':=by
 have b0:=ac w (.cells #[.int .i64 r,.int .i64 c,.slice ao N X] 25)
 have s0:=ah w (.cells #[.int .i64 r,.int .i64 c,.slice ao N X] 25)
 have x0:=aw.new w (.int .i64 r) (.int .i64 c) (.slice ao N X)
 have b1:=ac (w.alloc (.cells #[.int .i64 r,.int .i64 c,.slice ao N X] 25)) (.cells #[.int .i64 0,.int .i64 0,.slice none 0 0,.int .i64 0,.int .i64 0,.slice none 0 0,.slice none 0 0,.int .i64 0] 63)
 have O:=ah (w.alloc (.cells #[.int .i64 r,.int .i64 c,.slice ao N X] 25)) (.cells #[.int .i64 0,.int .i64 0,.slice none 0 0,.int .i64 0,.int .i64 0,.slice none 0 0,.slice none 0 0,.int .i64 0] 63)
 have x1:=bX.new 63 (w.alloc (.cells #[.int .i64 r,.int .i64 c,.slice ao N X] 25)) [.int .i64 0,.int .i64 0,.slice none 0 0,.int .i64 0,.int .i64 0,.slice none 0 0,.slice none 0 0,.int .i64 0]
 rw[s0]at O x1
 have bb:=b0.trans (b1.mono b0.size)
 have x0:=x0.all b1
 have a4:=h.2.2.1;have Q:=h.2.2.2;have cm:=h.small
 have LA:=aa (show(aL A).length=N from(av A).trans hN)
 have L:=x0.c2
 have K1:=aa (jt ao X (aL A) ((w.alloc (.cells #[.int .i64 r,.int .i64 c,.slice ao N X] 25)).alloc (.cells #[.int .i64 0,.int .i64 0,.slice none 0 0,.int .i64 0,.int .i64 0,.slice none 0 0,.slice none 0 0,.int .i64 0] 63)) (h.below bb).1 (by rw[av];omega))
 rw[uH LA]at K1
 have RN:=aa (show r*c=N∧c*c=M from⟨h.2.1.symm.trans hN,hM⟩)
 have HK:=aa (show eX (gD (aL A) N)=rh A from by unfold rh;rw[hN])
 have HB:=aa bb;have HX:=aa (And.intro x0 x1);have S3:=aa O;have HM:=aa h;have HN:=aa hN
 have hk:=iT (gD (aL A) N) (im _ _)
 have b3:=im (aL A) N
 rw[uH HK]at hk
 have DD:=aa (show ge r c A=gu r c (xV (nX (aL (iX A (-rh A)))) (-44)) ⟨iX A (-rh A),gE c,false⟩ 60 from rfl)
 generalize ge r c A=s at*
 clear b0 s0 x0 b1 O x1 bb h hN
 generalize gD (aL A) N=bg at*
 generalize rh A=k at*
 go_enter Tryz.func38,Tryz.ntmps38
 go_wp2_with fail
 clear L
 refine Calls.mono (uH K1) ?_
 rintro e w3 ⟨rfl,z⟩
 rw[uH S3]at z
 replace HB:=aa ((uH HB).trans (z.mono (by omega)))
 replace HX:=aa (And.intro ((uH HX).1.below z (by omega)) ((uH HX).2.below z (by omega)))
 have SZ:=aa (show w.heap.size+1+1≤w3.heap.size from by have:=z.size;have:=uH S3;omega)
 clear z K1
 go_wp2_with fail
 refine(pL bg w3 b3).mono ?_
 rintro e w4 ⟨rfl,z⟩
 rw[uH HK]
 replace HB:=aa ((uH HB).trans (z.mono (uH HB).size))
 replace HX:=aa (And.intro ((uH HX).1.all z) ((uH HX).2.all z))
 replace SZ:=aa (Nat.le_trans (uH SZ) z.size)
 clear z HK b3
 have nk:IntKind.i64.wrap (0-k)= -k:=(cX _ (by omega)).trans (by omega)
 have cp:(0:Int)-k= -k:=by omega
 have cv:IntKind.i64.wrap (-k)= -k:=cX _ (by omega)
 have y0:=(uH HX).1.c0;have y1:=(uH HX).1.c1;have L:=(uH HX).1.c2
 have K2:=aa (ix r c X (-k) ao A w4 ((uH HM).below (uH HB)) (by omega))
 rw[uH HN]at K2
 go_wp2_with fail
 clear y0 y1 L
 refine Calls.mono (uH K2) ?_
 rintro e w5 ⟨ga,rfl,ce,b9,z⟩
 have b4:=lr (uH HM).1.nat (-k)
 have lA:(iX A (-k)).length=N:=(ir _ _).trans (uH HN)
 have ma:af w5 (some ⟨ga,0,none⟩) N (aL (iX A (-k))):=by have:=b9.bits b4;rw[lA]at this;exact this
 have ba:=ac w5 (.cells #[.int .i64 (r:Nat),.int .i64 (c:Nat),.slice (some ⟨ga,0,none⟩) N N] 25)
 have sa:=ah w5 (.cells #[.int .i64 (r:Nat),.int .i64 (c:Nat),.slice (some ⟨ga,0,none⟩) N N] 25)
 have xw:=aw.new w5 (.int .i64 (r:Nat)) (.int .i64 (c:Nat)) (.slice (some ⟨ga,0,none⟩) N N)
 have ap:=z.trans (ba.mono z.size)
 replace HB:=aa ((uH HB).trans (ap.mono (uH HB).size))
 replace HX:=aa (And.intro ((uH HX).1.all ap) ((uH HX).2.all ap))
 replace SZ:=aa (Nat.le_trans (uH SZ) z.size)
 have MA:=aa (show Mx _ (some ⟨ga,0,none⟩) N r c (iX A (-k))from⟨ma.below ba,lA.trans (uH RN).1.symm,a4,Q⟩)
 have XW:=aa xw;have LL:=aa lA;have SA:=aa sa
 generalize iX A (-k)=B at*
 clear z K2 b9 ma b4 ce ba ap lA xw sa
 have y1:=(uH HX).1.c1
 go_wp2_with fail
 clear y1
 generalize ck:w5.alloc (.cells #[.int .i64 (r:Nat),.int .i64 (c:Nat),.slice (some ⟨ga,0,none⟩) N N] 25)=w6 at*
 clear ck
 generalize w5.heap.size=g4 at*
 refine(Bu c w6 Q).mono ?_
 rintro e w7 ⟨v,rfl,⟨vo,vc,rfl,_,hv⟩,z⟩
 rw[show(gE c).length=M from(bH _ _ _).trans hM]
 have ba:=ac w7 (.cells #[.int .i64 c,.int .i64 c,.slice vo M vc] 25)
 have xv:=aw.new w7 (.int .i64 c) (.int .i64 c) (.slice vo M vc)
 have ap:=z.trans (ba.mono z.size)
 have f:=aa (show tP w _ g4 w7.heap.size r c N M B (gE c) (some ⟨ga,0,none⟩) vo N vc from⟨(uH HB).trans (ap.mono (uH HB).size),(uH HX).2.all ap,(uH XW).all ap,xv,by have:=uH SZ;omega,by have:=z.size;have:=uH SA;omega,(uH MA).below ap,⟨hv.below ba,(show(gE c).length=c*c from bH _ _ _),Q,Q⟩,uH LL,(show(gE c).length=M from(bH _ _ _).trans hM)⟩)
 clear z ba xv ap hv HB HX XW MA SZ SA HM HN S3
 have L:=(uH f).bw.c2
 go_wp2_with fail
 clear L
 generalize w7.alloc (.cells #[.int .i64 c,.int .i64 c,.slice vo M vc] 25)=w8 at*
 generalize w7.heap.size=g5 at*
 have K:=aa (io (some ⟨ga,0,none⟩) N (aL B) w8 (uH f).mw.1 (by rw[av];have:=(uH f).mw.small;omega))
 rw[av,uH LL]at K
 refine Calls.mono (uH K) ?_
 rintro e w9 ⟨rfl,z⟩
 replace f:=aa ((uH f).all z)
 clear z K
 have bz:=uT (aL B)
 go_wp2_with fail
 refine(dY (nX (aL B)) (-44) _ bz (by omega)).mono ?_
 rintro e cz ⟨rfl,z⟩
 replace f:=aa ((uH f).all z)
 have b5:=gV (nX (aL B)) (-44) bz
 clear z bz LL
 generalize xV (nX (aL B)) (-44)=low at*
 go_wp2_with fail
 go_loopw[7,8] (fun b a wr=>∃(i:Nat) (wo vo:Option Addr) (wc vc:Nat),i≤60∧a=.int .i64 i∧b=.bool (gu r c low ⟨B,gE c,false⟩ i).still∧Hid (tP w wr g4 g5 r c N M (gu r c low ⟨B,gE c,false⟩ i).W (gu r c low ⟨B,gE c,false⟩ i).V wo vo wc vc)) (fun _ a _=>60-(intOf a).toNat)
 case atStart=>exact⟨0,some ⟨ga,0,none⟩,vo,N,vc,Nat.zero_le _,rfl,rfl,f⟩
 case round=>
  clear f
  obtain⟨i,wo,vo,wc,vc,hi,rfl,rfl,f⟩:=hrel
  have SE:=aa (fun h=>kC (r:=r) (c:=c) (low:=low) (s:=⟨B,gE c,false⟩) (n:=i) h (60-i))
  rw[show i+(60-i)=60 by omega,←uH DD]at SE
  by_cases bt:i<60∧(gu r c low ⟨B,gE c,false⟩ i).still=false
  ·obtain⟨cc,H⟩:=bt
   have b6:(i:Int)<60:=by omega
   have SU:=aa (show gu r c low ⟨B,gE c,false⟩ (i+1)=GZ r c low (gu r c low ⟨B,gE c,false⟩ i)from BQ H)
   generalize bx:gu r c low ⟨B,gE c,false⟩ (i+1)=s2 at*
   have b7:=aa bx
   clear bx SE
   generalize gu r c low ⟨B,gE c,false⟩ i=O at*
   have K:=aa (fun W' (h:tP w W' g4 g5 r c N M O.W O.V wo vo wc vc)=>tM r c N M low wc vc wo vo O.W O.V W' h.mw h.mv h.hN h.hM b5)
   rw[show mb r c low ⟨O.W,O.V,true⟩ c=s2 from(uH SU).symm]at K
   rw[H]
   have y0:=(uH f).bw.c0;have y1:=(uH f).bw.c1;have L:=(uH f).bw.c2;have u0:=(uH f).bv.c0;have u1:=(uH f).bv.c1;have u2:=(uH f).bv.c2
   go_wp2_with fail
   clear y0 y1 L u0 u1 u2
   refine(uH K _ (uH f)).mono ?_
   rintro e cA ⟨⟨ax,aI,l,u,rfl,hW,hV,ca,cb⟩,z⟩
   have d:=(uH f).all z
   have S2:=aa (d.put hW hV ca cb)
   have h4:=d.h4;have h5:=d.h5
   have s0:=d.bw.c0;have cx:=d.bw.c1;have cy:=d.bw.c2;have f0:=d.bw.free 0;have f1:=d.bw.free 1;have f2:=d.bw.free 2
   have X7:=d.bv.three (g:=g4) (by omega) (.int .i64 (r:Nat)) (.int .i64 (c:Nat)) (.slice ax N aI)
   have t0:=X7.c0;have t1:=X7.c1;have t2:=X7.c2;have g0:=X7.free 0;have g1:=X7.free 1;have g2:=X7.free 2
   clear d X7 f z K hW hV ca cb h4 h5
   go_wp2_with fail
   go_round
   case rel=>exact⟨i+1,ax,l,aI,u,by omega,by go_num,by rw[uH b7],by rw[uH b7];exact S2⟩
   case measure=>simp[intOf];omega
  ·have EE:=aa (show gu r c low ⟨B,gE c,false⟩ i=s from by
    cases H:(gu r c low ⟨B,gE c,false⟩ i).still with
    |true=>exact(uH SE H).symm
    |false=>
     have:i=60:=by
      rcases Nat.lt_or_ge i 60 with g|g
      ·exact absurd ⟨g,H⟩ bt
      ·omega
     rw[this]
     exact(uH DD).symm)
   have HI:=aa (show i=60∨s.still=true from by
    rcases Nat.lt_or_ge i 60 with g|g
    ·right
     rw[←uH EE]
     cases H:(gu r c low ⟨B,gE c,false⟩ i).still with
     |true=>rfl
     |false=>exact absurd ⟨g,H⟩ bt
    ·left;omega)
   rw[uH EE]at f⊢
   clear SE DD EE bt
   cases H:s.still
   ·have b8:i=60:=by
     rcases uH HI with g|g
     ·exact g
     ·rw[H]at g;cases g
    subst b8
    have d:=uH f
    have s0:=d.res.c 0 rfl;have O:=d.res.c 1 rfl;have s2:=d.res.c 2 rfl;have s3:=d.res.c 3 rfl;have s4:=d.res.c 4 rfl;have s5:=d.res.c 5 rfl;have s6:=d.res.c 6 rfl;have s7:=d.res.c 7 rfl
    have f0:=d.res.free 0;have f1:=d.res.free 1;have f2:=d.res.free 2;have f3:=d.res.free 3;have f4:=d.res.free 4;have f5:=d.res.free 5;have f6:=d.res.free 6;have f7:=d.res.free 7
    have D:bX 63 ((((((((wr.setCell ⟨w.heap.size+1,0,none⟩ (.int .i64 0)).setCell ⟨w.heap.size+1,1,none⟩ (.int .i64 0)).setCell ⟨w.heap.size+1,2,none⟩ (.slice none 0 0)).setCell ⟨w.heap.size+1,3,none⟩ (.int .i64 0)).setCell ⟨w.heap.size+1,4,none⟩ (.int .i64 0)).setCell ⟨w.heap.size+1,5,none⟩ (.slice none 0 0)).setCell ⟨w.heap.size+1,6,none⟩ (.slice none 0 0)).setCell ⟨w.heap.size+1,7,none⟩ (.int .i64 6)) (w.heap.size+1) [.int .i64 0,.int .i64 0,.slice none 0 0,.int .i64 0,.int .i64 0,.slice none 0 0,.slice none 0 0,.int .i64 6]:=d.res.full [.int .i64 0,.int .i64 0,.slice none 0 0,.int .i64 0,.int .i64 0,.slice none 0 0,.slice none 0 0,.int .i64 6] rfl
    have z0:=D.c 0 rfl;have z1:=D.c 1 rfl;have z2:=D.c 2 rfl;have z3:=D.c 3 rfl;have z4:=D.c 4 rfl;have z5:=D.c 5 rfl;have z6:=D.c 6 rfl;have z7:=D.c 7 rfl
    have BP:=aa (show Below w.heap.size w ((((((((wr.setCell ⟨w.heap.size+1,0,none⟩ (.int .i64 0)).setCell ⟨w.heap.size+1,1,none⟩ (.int .i64 0)).setCell ⟨w.heap.size+1,2,none⟩ (.slice none 0 0)).setCell ⟨w.heap.size+1,3,none⟩ (.int .i64 0)).setCell ⟨w.heap.size+1,4,none⟩ (.int .i64 0)).setCell ⟨w.heap.size+1,5,none⟩ (.slice none 0 0)).setCell ⟨w.heap.size+1,6,none⟩ (.slice none 0 0)).setCell ⟨w.heap.size+1,7,none⟩ (.int .i64 6))from cP (b:=w.heap.size+1) (Nat.le_succ _) [.int .i64 0,.int .i64 0,.slice none 0 0,.int .i64 0,.int .i64 0,.slice none 0 0,.slice none 0 0,.int .i64 6] 0 d.bel)
    clear D d f
    go_wp2_with fail
    exact bodyPost_ret (v:=.agg #[.int .i64 0,.int .i64 0,.slice none 0 0,.int .i64 0,.int .i64 0,.slice none 0 0,.slice none 0 0,.int .i64 6]) (by simp[results,Tryz.results38,go_sem,z0,z1,z2,z3,z4,z5,z6,z7]) rfl ⟨.inl ⟨by first|rfl|exact H,rfl⟩,uH BP⟩
   ·have LL:=aa (kG (bR r c s.W) c)
    by_cases cc:i<60
    ·have b6:(i:Int)<60:=by omega
     have y0:=(uH f).bw.c0;have y1:=(uH f).bw.c1;have L:=(uH f).bw.c2
     go_wp2_with fail
     clear y0 y1 L
     have K:=aa (fv r c wc wo s.W _ (uH f).mw)
     rw[(uH f).hN]at K
     refine Calls.mono (uH K) ?_
     rintro e bA ⟨no,nc,rfl,a9,z⟩
     replace f:=aa ((uH f).all z)
     clear z K
     have K:=aa (kH nc no (bR r c s.W) bA (by rw[fh];omega) a9)
     rw[fh]at K
     clear a9
     go_wp2_with fail
     refine Calls.mono (uH K) ?_
     rintro e ci ⟨gp,gc,rfl,a1,z⟩
     have GP:=aa (show(Value.slice (some ⟨gp,0,none⟩) c gc).ownBlock≠some g4 from fun e=>by
      have h1:=(a1.lt g4 e).1
      have h2:=(uH f).bw.lt
      omega)
     replace f:=aa ((uH f).all z)
     have PO:=aa a1
     clear z K a1
     have y0:=(uH f).bw.c0;have y1:=(uH f).bw.c1;have L:=(uH f).bw.c2
     go_wp2_with fail
     clear y0 y1 L
     have K:=aa (gv r c wc gp gc wo s.W (bR r c s.W) _ (uH f).mw (uH PO))
     rw[(uH f).hN]at K
     generalize bn:eK (bR r c s.W) c=P at*
     have Y:=aa bn
     clear bn
     have l8:(eP r c s.W P).length=N:=(cN _ _ _ _).trans ((congrArg (r* ·) (uH LL)).trans (uH RN).1)
     rw[l8]at K
     refine Calls.mono (uH K) ?_
     rintro e be ⟨ax,aI,rfl,hq,z⟩
     replace f:=aa ((uH f).all z);replace PO:=aa ((uH PO).below z)
     have MW:=aa (show Mx be ax aI r c (eP r c s.W P)from⟨hq,(cN _ _ _ _).trans (congrArg (r* ·) (uH LL)),a4,Q⟩)
     clear z K hq
     have K:=aa (ix r c aI k ax (eP r c s.W P) be (uH MW) (by omega))
     rw[l8]at K
     have a5:=lr (uH MW).1.nat k
     have l9:(iX (eP r c s.W P) k).length=N:=(ir _ _).trans l8
     go_wp2_with fail
     refine Calls.mono (uH K) ?_
     rintro e bE ⟨gw,rfl,_,bi,z⟩
     generalize bo:iX (eP r c s.W P) k=W9 at*
     have Z:=aa (show iX (eP r c s.W (eK (bR r c s.W) c)) k=W9 from by rw[uH Y,bo])
     clear bo
     have q9:=bi.bits a5
     rw[l9]at q9
     have a6:=(uH PO).below z
     have d:=(uH f).all z
     have s0:=d.bw.c0;have O:=d.bw.c1;have s2:=d.bw.c2;have f0:=d.bw.free 0;have f1:=d.bw.free 1;have f2:=d.bw.free 2
     have S2:=aa (d.putW (⟨q9,l9.trans (uH RN).1.symm,a4,Q⟩:Mx bE (some ⟨gw,0,none⟩) N r c W9) l9)
     replace PO:=aa (dr.three19 a6 (uH GP) (.int .i64 (r:Nat)) (.int .i64 (c:Nat)) (.slice (some ⟨gw,0,none⟩) N N))
     clear d f z K q9 bi a5 a6 MW l8
     have y0:=(uH S2).bv.c0;have y1:=(uH S2).bv.c1;have L:=(uH S2).bv.c2
     go_wp2_with fail
     clear s0 O s2 f0 f1 f2 y0 y1 L
     have f:=S2
     clear S2
     have K:=aa (gv c c vc gp gc vo s.V (bR r c s.W) _ (uH f).mv (by rw[uH Y];exact uH PO))
     rw[(uH f).hM,uH Y]at K
     have l8:(eP c c s.V P).length=M:=(cN _ _ _ _).trans ((congrArg (c* ·) (uH LL)).trans (uH RN).2)
     rw[l8]at K
     refine Calls.mono (uH K) ?_
     rintro e b2 ⟨l,u,rfl,hq,z⟩
     have MV:=aa (show Mx b2 l u c c (eP c c s.V P)from⟨hq,(cN _ _ _ _).trans (congrArg (c* ·) (uH LL)),Q,Q⟩)
     generalize bq:eP c c s.V P=V9 at*
     have a0:=aa (show eP c c s.V (eK (bR r c s.W) c)=V9 from by rw[uH Y,bq])
     clear bq
     have d:=(uH f).all z
     have s0:=d.bv.c0;have O:=d.bv.c1;have s2:=d.bv.c2;have f0:=d.bv.free 0;have f1:=d.bv.free 1;have f2:=d.bv.free 2
     have S2:=aa (d.putV (uH MV) l8)
     clear d f z K hq MV PO GP Y
     have L:=(uH S2).bw.c2
     go_wp2_with fail
     clear s0 O s2 f0 f1 f2 L
     have f:=S2
     clear S2
     have K:=aa (es (some ⟨gw,0,none⟩) N (aL W9) _ (uH f).mw.1 (by rw[av,l9];have:=(uH f).mw.small;omega))
     rw[av,l9,show iD (aL W9) N=dq W9 from by unfold dq;rw[l9]]at K
     refine Calls.mono (uH K) ?_
     rintro e a2 ⟨rfl,z⟩
     replace f:=aa ((uH f).all z)
     clear z K
     cases hf:dq W9
     ·skip
      have d:=uH f
      have s0:=d.res.c 0 rfl;have O:=d.res.c 1 rfl;have s2:=d.res.c 2 rfl;have s3:=d.res.c 3 rfl;have s4:=d.res.c 4 rfl;have s5:=d.res.c 5 rfl;have s6:=d.res.c 6 rfl;have s7:=d.res.c 7 rfl
      have f0:=d.res.free 0;have f1:=d.res.free 1;have f2:=d.res.free 2;have f3:=d.res.free 3;have f4:=d.res.free 4;have f5:=d.res.free 5;have f6:=d.res.free 6;have f7:=d.res.free 7
      have D:bX 63 ((((((((a2.setCell ⟨w.heap.size+1,0,none⟩ (.int .i64 0)).setCell ⟨w.heap.size+1,1,none⟩ (.int .i64 0)).setCell ⟨w.heap.size+1,2,none⟩ (.slice none 0 0)).setCell ⟨w.heap.size+1,3,none⟩ (.int .i64 0)).setCell ⟨w.heap.size+1,4,none⟩ (.int .i64 0)).setCell ⟨w.heap.size+1,5,none⟩ (.slice none 0 0)).setCell ⟨w.heap.size+1,6,none⟩ (.slice none 0 0)).setCell ⟨w.heap.size+1,7,none⟩ (.int .i64 2)) (w.heap.size+1) [.int .i64 0,.int .i64 0,.slice none 0 0,.int .i64 0,.int .i64 0,.slice none 0 0,.slice none 0 0,.int .i64 2]:=d.res.full [.int .i64 0,.int .i64 0,.slice none 0 0,.int .i64 0,.int .i64 0,.slice none 0 0,.slice none 0 0,.int .i64 2] rfl
      have z0:=D.c 0 rfl;have z1:=D.c 1 rfl;have z2:=D.c 2 rfl;have z3:=D.c 3 rfl;have z4:=D.c 4 rfl;have z5:=D.c 5 rfl;have z6:=D.c 6 rfl;have z7:=D.c 7 rfl
      have BP:=aa (show Below w.heap.size w ((((((((a2.setCell ⟨w.heap.size+1,0,none⟩ (.int .i64 0)).setCell ⟨w.heap.size+1,1,none⟩ (.int .i64 0)).setCell ⟨w.heap.size+1,2,none⟩ (.slice none 0 0)).setCell ⟨w.heap.size+1,3,none⟩ (.int .i64 0)).setCell ⟨w.heap.size+1,4,none⟩ (.int .i64 0)).setCell ⟨w.heap.size+1,5,none⟩ (.slice none 0 0)).setCell ⟨w.heap.size+1,6,none⟩ (.slice none 0 0)).setCell ⟨w.heap.size+1,7,none⟩ (.int .i64 2))from cP (b:=w.heap.size+1) (Nat.le_succ _) [.int .i64 0,.int .i64 0,.slice none 0 0,.int .i64 0,.int .i64 0,.slice none 0 0,.slice none 0 0,.int .i64 2] 0 d.bel)
      clear D d f
      go_wp2_with fail
      exact bodyPost_ret (v:=.agg #[.int .i64 0,.int .i64 0,.slice none 0 0,.int .i64 0,.int .i64 0,.slice none 0 0,.slice none 0 0,.int .i64 2]) (by simp[results,Tryz.results38,go_sem,z0,z1,z2,z3,z4,z5,z6,z7]) rfl ⟨.inr (.inl ⟨by first|rfl|exact H,by rw[uH Z,hf];rfl,rfl⟩),uH BP⟩
     ·have L:=(uH f).bv.c2
      have K:=aa (es l u (aL V9) a2 (uH f).mv.1 (by rw[av];have:=(uH f).mv.small;omega))
      rw[av,l8,show iD (aL V9) M=dq V9 from by unfold dq;rw[l8]]at K
      go_wp2_with fail
      clear L
      refine Calls.mono (uH K) ?_
      rintro e bm ⟨rfl,z⟩
      replace f:=aa ((uH f).all z)
      clear z K
      cases hv:dq V9
      ·skip
       have d:=uH f
       have s0:=d.res.c 0 rfl;have O:=d.res.c 1 rfl;have s2:=d.res.c 2 rfl;have s3:=d.res.c 3 rfl;have s4:=d.res.c 4 rfl;have s5:=d.res.c 5 rfl;have s6:=d.res.c 6 rfl;have s7:=d.res.c 7 rfl
       have f0:=d.res.free 0;have f1:=d.res.free 1;have f2:=d.res.free 2;have f3:=d.res.free 3;have f4:=d.res.free 4;have f5:=d.res.free 5;have f6:=d.res.free 6;have f7:=d.res.free 7
       have D:bX 63 ((((((((bm.setCell ⟨w.heap.size+1,0,none⟩ (.int .i64 0)).setCell ⟨w.heap.size+1,1,none⟩ (.int .i64 0)).setCell ⟨w.heap.size+1,2,none⟩ (.slice none 0 0)).setCell ⟨w.heap.size+1,3,none⟩ (.int .i64 0)).setCell ⟨w.heap.size+1,4,none⟩ (.int .i64 0)).setCell ⟨w.heap.size+1,5,none⟩ (.slice none 0 0)).setCell ⟨w.heap.size+1,6,none⟩ (.slice none 0 0)).setCell ⟨w.heap.size+1,7,none⟩ (.int .i64 2)) (w.heap.size+1) [.int .i64 0,.int .i64 0,.slice none 0 0,.int .i64 0,.int .i64 0,.slice none 0 0,.slice none 0 0,.int .i64 2]:=d.res.full [.int .i64 0,.int .i64 0,.slice none 0 0,.int .i64 0,.int .i64 0,.slice none 0 0,.slice none 0 0,.int .i64 2] rfl
       have z0:=D.c 0 rfl;have z1:=D.c 1 rfl;have z2:=D.c 2 rfl;have z3:=D.c 3 rfl;have z4:=D.c 4 rfl;have z5:=D.c 5 rfl;have z6:=D.c 6 rfl;have z7:=D.c 7 rfl
       have BP:=aa (show Below w.heap.size w ((((((((bm.setCell ⟨w.heap.size+1,0,none⟩ (.int .i64 0)).setCell ⟨w.heap.size+1,1,none⟩ (.int .i64 0)).setCell ⟨w.heap.size+1,2,none⟩ (.slice none 0 0)).setCell ⟨w.heap.size+1,3,none⟩ (.int .i64 0)).setCell ⟨w.heap.size+1,4,none⟩ (.int .i64 0)).setCell ⟨w.heap.size+1,5,none⟩ (.slice none 0 0)).setCell ⟨w.heap.size+1,6,none⟩ (.slice none 0 0)).setCell ⟨w.heap.size+1,7,none⟩ (.int .i64 2))from cP (b:=w.heap.size+1) (Nat.le_succ _) [.int .i64 0,.int .i64 0,.slice none 0 0,.int .i64 0,.int .i64 0,.slice none 0 0,.slice none 0 0,.int .i64 2] 0 d.bel)
       clear D d f
       go_wp2_with fail
       exact bodyPost_ret (v:=.agg #[.int .i64 0,.int .i64 0,.slice none 0 0,.int .i64 0,.int .i64 0,.slice none 0 0,.slice none 0 0,.int .i64 2]) (by simp[results,Tryz.results38,go_sem,z0,z1,z2,z3,z4,z5,z6,z7]) rfl ⟨.inr (.inl ⟨by first|rfl|exact H,by rw[uH Z,uH a0,hf,hv];rfl,rfl⟩),uH BP⟩
      ·go_wp2_with fail
       refine aj (fun W=>tP w W g4 g5 r c N M W9 V9 (some ⟨gw,0,none⟩) l N u) (uH f) ?_
       clear f
       rintro U d
       have d:=d.all (Below.refl U.heap.size U).drew
       have a7:=aa (fv r c N (some ⟨gw,0,none⟩) W9 U.drew d.mw)
       rw[l9]at a7
       have H0:=aa (And.intro d.bw.c0 (And.intro d.bw.c1 (And.intro d.bw.c2 (And.intro d.bv.c0 (And.intro d.bv.c1 d.bv.c2)))))
       have f:=aa d
       clear d
       refine wp_region_held_drew (S:=fun w'=>w'.cell? ⟨g4,0,none⟩=some (.int .i64 (r:Nat))∧w'.cell? ⟨g4,1,none⟩=some (.int .i64 (c:Nat))∧w'.cell? ⟨g4,2,none⟩=some (.slice (some ⟨gw,0,none⟩) N N)∧w'.cell? ⟨g5,0,none⟩=some (.int .i64 (c:Nat))∧w'.cell? ⟨g5,1,none⟩=some (.int .i64 (c:Nat))∧w'.cell? ⟨g5,2,none⟩=some (.slice l M u)) (by kernel_rfl) ?_ (fun J=>?_)
       ·exact uH H0
       refine wpAnyH_take (i:=0) (oi:={dst:=some 66,op:=Op.load 25 (Operand.tmp 4),type:=25,pos:= "ref.go:125",after:=#[],guard:=none}) (v:=.agg #[.int .i64 (r:Nat),.int .i64 (c:Nat),.slice (some ⟨gw,0,none⟩) N N]) rfl (by kernel_rfl) (by kernel_rfl) (by kernel_rfl) (fun _ _ _ h=>h) (Or.inl ⟨by rfl,?_⟩) (by assumption) ?_
       ·(intro w ae;(try dsimp only at ae);go_simp)
       simp only[Act.put,List.setIfInBounds_toArray,List.set_cons_zero,List.set_cons_succ]
       refine wpAnyH_take (i:=1) (oi:={dst:=some 67,op:=Op.load 25 (Operand.tmp 5),type:=25,pos:= "ref.go:125",after:=#[],guard:=none}) (v:=.agg #[.int .i64 (c:Nat),.int .i64 (c:Nat),.slice l M u]) rfl (by kernel_rfl) (by kernel_rfl) (by kernel_rfl) (fun _ _ _ h=>h) (Or.inl ⟨by rfl,?_⟩) (by assumption) ?_
       ·(intro w ae;(try dsimp only at ae);go_simp)
       simp only[Act.put,List.setIfInBounds_toArray,List.set_cons_zero,List.set_cons_succ]
       refine wpAnyH_take (i:=2) (oi:={dst:=some 68,op:=Op.load 25 (Operand.tmp 4),type:=25,pos:= "ref.go:125",after:=#[],guard:=none}) (v:=.agg #[.int .i64 (r:Nat),.int .i64 (c:Nat),.slice (some ⟨gw,0,none⟩) N N]) rfl (by kernel_rfl) (by kernel_rfl) (by kernel_rfl) (fun _ _ _ h=>h) (Or.inl ⟨by rfl,?_⟩) (by assumption) ?_
       ·(intro w ae;(try dsimp only at ae);go_simp)
       simp only[Act.put,List.setIfInBounds_toArray,List.set_cons_zero,List.set_cons_succ]
       refine wpAnyH_ready (rs:=[3]) (by kernel_rfl) (by simp) ?_
       refine AllReadyH.cons (o:={dst:=some 69,op:=Op.call {callee:=Callee.value (Operand.func 53),args:=#[Operand.tmp 68],argTypes:=#[25]},type:=23,pos:= "ref.go:125",after:=#[{on:=2,ground:=Ground.data}],guard:=none}) rfl (fun K hK=>?_) AllReadyH.nil
       go_simp
       refine Calls.mono (uH a7) ?_
       rintro e am ⟨F,G,rfl,a3,z⟩
       have d:=(uH f).all z
       have h4:=d.h4;have h5:=d.h5
       have s0:=d.res.c 0 rfl;have O:=d.res.c 1 rfl;have s2:=d.res.c 2 rfl;have s3:=d.res.c 3 rfl;have s4:=d.res.c 4 rfl;have s5:=d.res.c 5 rfl;have s6:=d.res.c 6 rfl;have s7:=d.res.c 7 rfl
       have f0:=d.res.free 0;have f1:=d.res.free 1;have f2:=d.res.free 2;have f3:=d.res.free 3;have f4:=d.res.free 4;have f5:=d.res.free 5;have f6:=d.res.free 6;have f7:=d.res.free 7
       have D:bX 63 ((((((((am.setCell ⟨w.heap.size+1,0,none⟩ (.int .i64 (r:Nat))).setCell ⟨w.heap.size+1,1,none⟩ (.int .i64 (c:Nat))).setCell ⟨w.heap.size+1,2,none⟩ (.slice (some ⟨gw,0,none⟩) N N)).setCell ⟨w.heap.size+1,3,none⟩ (.int .i64 (c:Nat))).setCell ⟨w.heap.size+1,4,none⟩ (.int .i64 (c:Nat))).setCell ⟨w.heap.size+1,5,none⟩ (.slice l M u)).setCell ⟨w.heap.size+1,6,none⟩ (.slice F c G)).setCell ⟨w.heap.size+1,7,none⟩ (.int .i64 0)) (w.heap.size+1) [.int .i64 (r:Nat),.int .i64 (c:Nat),.slice (some ⟨gw,0,none⟩) N N,.int .i64 (c:Nat),.int .i64 (c:Nat),.slice l M u,.slice F c G,.int .i64 0]:=d.res.full [.int .i64 (r:Nat),.int .i64 (c:Nat),.slice (some ⟨gw,0,none⟩) N N,.int .i64 (c:Nat),.int .i64 (c:Nat),.slice l M u,.slice F c G,.int .i64 0] rfl
       have z0:=D.c 0 rfl;have z1:=D.c 1 rfl;have z2:=D.c 2 rfl;have z3:=D.c 3 rfl;have z4:=D.c 4 rfl;have z5:=D.c 5 rfl;have z6:=D.c 6 rfl;have z7:=D.c 7 rfl
       have BB:=aa (show af ((((((((am.setCell ⟨w.heap.size+1,0,none⟩ (.int .i64 (r:Nat))).setCell ⟨w.heap.size+1,1,none⟩ (.int .i64 (c:Nat))).setCell ⟨w.heap.size+1,2,none⟩ (.slice (some ⟨gw,0,none⟩) N N)).setCell ⟨w.heap.size+1,3,none⟩ (.int .i64 (c:Nat))).setCell ⟨w.heap.size+1,4,none⟩ (.int .i64 (c:Nat))).setCell ⟨w.heap.size+1,5,none⟩ (.slice l M u)).setCell ⟨w.heap.size+1,6,none⟩ (.slice F c G)).setCell ⟨w.heap.size+1,7,none⟩ (.int .i64 0)) (some ⟨gw,0,none⟩) N (aL W9)∧af ((((((((am.setCell ⟨w.heap.size+1,0,none⟩ (.int .i64 (r:Nat))).setCell ⟨w.heap.size+1,1,none⟩ (.int .i64 (c:Nat))).setCell ⟨w.heap.size+1,2,none⟩ (.slice (some ⟨gw,0,none⟩) N N)).setCell ⟨w.heap.size+1,3,none⟩ (.int .i64 (c:Nat))).setCell ⟨w.heap.size+1,4,none⟩ (.int .i64 (c:Nat))).setCell ⟨w.heap.size+1,5,none⟩ (.slice l M u)).setCell ⟨w.heap.size+1,6,none⟩ (.slice F c G)).setCell ⟨w.heap.size+1,7,none⟩ (.int .i64 0)) l u (aL V9)∧af ((((((((am.setCell ⟨w.heap.size+1,0,none⟩ (.int .i64 (r:Nat))).setCell ⟨w.heap.size+1,1,none⟩ (.int .i64 (c:Nat))).setCell ⟨w.heap.size+1,2,none⟩ (.slice (some ⟨gw,0,none⟩) N N)).setCell ⟨w.heap.size+1,3,none⟩ (.int .i64 (c:Nat))).setCell ⟨w.heap.size+1,4,none⟩ (.int .i64 (c:Nat))).setCell ⟨w.heap.size+1,5,none⟩ (.slice l M u)).setCell ⟨w.heap.size+1,6,none⟩ (.slice F c G)).setCell ⟨w.heap.size+1,7,none⟩ (.int .i64 0)) F G (aL (bR r c W9))∧Below w.heap.size w ((((((((am.setCell ⟨w.heap.size+1,0,none⟩ (.int .i64 (r:Nat))).setCell ⟨w.heap.size+1,1,none⟩ (.int .i64 (c:Nat))).setCell ⟨w.heap.size+1,2,none⟩ (.slice (some ⟨gw,0,none⟩) N N)).setCell ⟨w.heap.size+1,3,none⟩ (.int .i64 (c:Nat))).setCell ⟨w.heap.size+1,4,none⟩ (.int .i64 (c:Nat))).setCell ⟨w.heap.size+1,5,none⟩ (.slice l M u)).setCell ⟨w.heap.size+1,6,none⟩ (.slice F c G)).setCell ⟨w.heap.size+1,7,none⟩ (.int .i64 0))from⟨cU (b:=w.heap.size+1) (d.res.off fC d.mw.1) [.int .i64 (r:Nat),.int .i64 (c:Nat),.slice (some ⟨gw,0,none⟩) N N,.int .i64 (c:Nat),.int .i64 (c:Nat),.slice l M u,.slice F c G,.int .i64 0] 0 d.mw.1,cU (b:=w.heap.size+1) (d.res.off fC d.mv.1) [.int .i64 (r:Nat),.int .i64 (c:Nat),.slice (some ⟨gw,0,none⟩) N N,.int .i64 (c:Nat),.int .i64 (c:Nat),.slice l M u,.slice F c G,.int .i64 0] 0 d.mv.1,cU (b:=w.heap.size+1) (d.res.off fC a3) [.int .i64 (r:Nat),.int .i64 (c:Nat),.slice (some ⟨gw,0,none⟩) N N,.int .i64 (c:Nat),.int .i64 (c:Nat),.slice l M u,.slice F c G,.int .i64 0] 0 a3,cP (b:=w.heap.size+1) (Nat.le_succ _) [.int .i64 (r:Nat),.int .i64 (c:Nat),.slice (some ⟨gw,0,none⟩) N N,.int .i64 (c:Nat),.int .i64 (c:Nat),.slice l M u,.slice F c G,.int .i64 0] 0 d.bel⟩)
       have H3:=aa (And.intro d.bw.c0 (And.intro d.bw.c1 (And.intro d.bw.c2 (And.intro d.bv.c0 (And.intro d.bv.c1 d.bv.c2)))))
       have H5:=aa (And.intro (d.bw.putL (b:=w.heap.size+1) (by omega) 0 [.int .i64 (r:Nat),.int .i64 (c:Nat),.slice (some ⟨gw,0,none⟩) N N,.int .i64 (c:Nat),.int .i64 (c:Nat),.slice l M u,.slice F c G,.int .i64 0]).c0 (And.intro (d.bw.putL (b:=w.heap.size+1) (by omega) 0 [.int .i64 (r:Nat),.int .i64 (c:Nat),.slice (some ⟨gw,0,none⟩) N N,.int .i64 (c:Nat),.int .i64 (c:Nat),.slice l M u,.slice F c G,.int .i64 0]).c1 (And.intro (d.bw.putL (b:=w.heap.size+1) (by omega) 0 [.int .i64 (r:Nat),.int .i64 (c:Nat),.slice (some ⟨gw,0,none⟩) N N,.int .i64 (c:Nat),.int .i64 (c:Nat),.slice l M u,.slice F c G,.int .i64 0]).c2 (And.intro (d.bv.putL (b:=w.heap.size+1) (by omega) 0 [.int .i64 (r:Nat),.int .i64 (c:Nat),.slice (some ⟨gw,0,none⟩) N N,.int .i64 (c:Nat),.int .i64 (c:Nat),.slice l M u,.slice F c G,.int .i64 0]).c0 (And.intro (d.bv.putL (b:=w.heap.size+1) (by omega) 0 [.int .i64 (r:Nat),.int .i64 (c:Nat),.slice (some ⟨gw,0,none⟩) N N,.int .i64 (c:Nat),.int .i64 (c:Nat),.slice l M u,.slice F c G,.int .i64 0]).c1 (d.bv.putL (b:=w.heap.size+1) (by omega) 0 [.int .i64 (r:Nat),.int .i64 (c:Nat),.slice (some ⟨gw,0,none⟩) N N,.int .i64 (c:Nat),.int .i64 (c:Nat),.slice l M u,.slice F c G,.int .i64 0]).c2)))))
       clear d z a3 D h4 h5
       go_wp2_with fail
       refine hK.out _ _ ?_ (fun J=>?_)
       ·exact uH H3
       clear hK K
       refine wpAnyH_ready (rs:=[4]) (by kernel_rfl) (by simp) ?_
       refine AllReadyH.cons (o:={dst:=some 70,op:=Op.build 63 #[(0,Operand.tmp 66),(1,Operand.tmp 67),(2,Operand.tmp 69)],type:=63,pos:= "ref.go:125",after:=#[{on:=0,ground:=Ground.data},{on:=1,ground:=Ground.data},{on:=3,ground:=Ground.data}],guard:=none}) rfl (fun K hK=>?_) AllReadyH.nil
       go_simp
       refine hK.out _ _ ?_ (fun J=>?_)
       ·exact uH H3
       clear hK K
       refine wpAnyH_ready (rs:=[5]) (by kernel_rfl) (by simp) ?_
       refine AllReadyH.cons (o:={dst:=none,op:=Op.store 63 (Operand.tmp 2) (Operand.tmp 70),type:=0,pos:= "ref.go:125",after:=#[{on:=4,ground:=Ground.data},{on:=3,ground:=Ground.chain},{on:=0,ground:=Ground.phase},{on:=1,ground:=Ground.phase},{on:=2,ground:=Ground.phase},{on:=3,ground:=Ground.phase},{on:=4,ground:=Ground.phase}],guard:=none}) rfl (fun K hK=>?_) AllReadyH.nil
       go_simp
       refine hK.out _ _ ?_ (fun J=>?_)
       ·exact uH H5
       clear hK K
       refine wpAnyH_done (by kernel_rfl) ?_ _
       skip
       go_wp2_with fail
       exact bodyPost_ret (v:=.agg #[.int .i64 (r:Nat),.int .i64 (c:Nat),.slice (some ⟨gw,0,none⟩) N N,.int .i64 (c:Nat),.int .i64 (c:Nat),.slice l M u,.slice F c G,.int .i64 0]) (by simp[results,Tryz.results38,go_sem,z0,z1,z2,z3,z4,z5,z6,z7]) rfl ⟨.inr (.inr ⟨by first|rfl|exact H,by rw[uH Z,uH a0,hf,hv];rfl,_,_,_,_,_,_,rfl,by rw[uH Z];exact(uH BB).1,by rw[uH a0];exact(uH BB).2.1,by rw[uH Z];exact(uH BB).2.2.1⟩),(uH BB).2.2.2⟩
    ·have b6:¬((i:Int)<60):=by omega
     have y0:=(uH f).bw.c0;have y1:=(uH f).bw.c1;have L:=(uH f).bw.c2
     go_wp2_with fail
     clear y0 y1 L
     have K:=aa (fv r c wc wo s.W _ (uH f).mw)
     rw[(uH f).hN]at K
     refine Calls.mono (uH K) ?_
     rintro e bA ⟨no,nc,rfl,a9,z⟩
     replace f:=aa ((uH f).all z)
     clear z K
     have K:=aa (kH nc no (bR r c s.W) bA (by rw[fh];omega) a9)
     rw[fh]at K
     clear a9
     go_wp2_with fail
     refine Calls.mono (uH K) ?_
     rintro e ci ⟨gp,gc,rfl,a1,z⟩
     have GP:=aa (show(Value.slice (some ⟨gp,0,none⟩) c gc).ownBlock≠some g4 from fun e=>by
      have h1:=(a1.lt g4 e).1
      have h2:=(uH f).bw.lt
      omega)
     replace f:=aa ((uH f).all z)
     have PO:=aa a1
     clear z K a1
     have y0:=(uH f).bw.c0;have y1:=(uH f).bw.c1;have L:=(uH f).bw.c2
     go_wp2_with fail
     clear y0 y1 L
     have K:=aa (gv r c wc gp gc wo s.W (bR r c s.W) _ (uH f).mw (uH PO))
     rw[(uH f).hN]at K
     generalize bn:eK (bR r c s.W) c=P at*
     have Y:=aa bn
     clear bn
     have l8:(eP r c s.W P).length=N:=(cN _ _ _ _).trans ((congrArg (r* ·) (uH LL)).trans (uH RN).1)
     rw[l8]at K
     refine Calls.mono (uH K) ?_
     rintro e be ⟨ax,aI,rfl,hq,z⟩
     replace f:=aa ((uH f).all z);replace PO:=aa ((uH PO).below z)
     have MW:=aa (show Mx be ax aI r c (eP r c s.W P)from⟨hq,(cN _ _ _ _).trans (congrArg (r* ·) (uH LL)),a4,Q⟩)
     clear z K hq
     have K:=aa (ix r c aI k ax (eP r c s.W P) be (uH MW) (by omega))
     rw[l8]at K
     have a5:=lr (uH MW).1.nat k
     have l9:(iX (eP r c s.W P) k).length=N:=(ir _ _).trans l8
     go_wp2_with fail
     refine Calls.mono (uH K) ?_
     rintro e bE ⟨gw,rfl,_,bi,z⟩
     generalize bo:iX (eP r c s.W P) k=W9 at*
     have Z:=aa (show iX (eP r c s.W (eK (bR r c s.W) c)) k=W9 from by rw[uH Y,bo])
     clear bo
     have q9:=bi.bits a5
     rw[l9]at q9
     have a6:=(uH PO).below z
     have d:=(uH f).all z
     have s0:=d.bw.c0;have O:=d.bw.c1;have s2:=d.bw.c2;have f0:=d.bw.free 0;have f1:=d.bw.free 1;have f2:=d.bw.free 2
     have S2:=aa (d.putW (⟨q9,l9.trans (uH RN).1.symm,a4,Q⟩:Mx bE (some ⟨gw,0,none⟩) N r c W9) l9)
     replace PO:=aa (dr.three19 a6 (uH GP) (.int .i64 (r:Nat)) (.int .i64 (c:Nat)) (.slice (some ⟨gw,0,none⟩) N N))
     clear d f z K q9 bi a5 a6 MW l8
     have y0:=(uH S2).bv.c0;have y1:=(uH S2).bv.c1;have L:=(uH S2).bv.c2
     go_wp2_with fail
     clear s0 O s2 f0 f1 f2 y0 y1 L
     have f:=S2
     clear S2
     have K:=aa (gv c c vc gp gc vo s.V (bR r c s.W) _ (uH f).mv (by rw[uH Y];exact uH PO))
     rw[(uH f).hM,uH Y]at K
     have l8:(eP c c s.V P).length=M:=(cN _ _ _ _).trans ((congrArg (c* ·) (uH LL)).trans (uH RN).2)
     rw[l8]at K
     refine Calls.mono (uH K) ?_
     rintro e b2 ⟨l,u,rfl,hq,z⟩
     have MV:=aa (show Mx b2 l u c c (eP c c s.V P)from⟨hq,(cN _ _ _ _).trans (congrArg (c* ·) (uH LL)),Q,Q⟩)
     generalize bq:eP c c s.V P=V9 at*
     have a0:=aa (show eP c c s.V (eK (bR r c s.W) c)=V9 from by rw[uH Y,bq])
     clear bq
     have d:=(uH f).all z
     have s0:=d.bv.c0;have O:=d.bv.c1;have s2:=d.bv.c2;have f0:=d.bv.free 0;have f1:=d.bv.free 1;have f2:=d.bv.free 2
     have S2:=aa (d.putV (uH MV) l8)
     clear d f z K hq MV PO GP Y
     have L:=(uH S2).bw.c2
     go_wp2_with fail
     clear s0 O s2 f0 f1 f2 L
     have f:=S2
     clear S2
     have K:=aa (es (some ⟨gw,0,none⟩) N (aL W9) _ (uH f).mw.1 (by rw[av,l9];have:=(uH f).mw.small;omega))
     rw[av,l9,show iD (aL W9) N=dq W9 from by unfold dq;rw[l9]]at K
     refine Calls.mono (uH K) ?_
     rintro e a2 ⟨rfl,z⟩
     replace f:=aa ((uH f).all z)
     clear z K
     cases hf:dq W9
     ·skip
      have d:=uH f
      have s0:=d.res.c 0 rfl;have O:=d.res.c 1 rfl;have s2:=d.res.c 2 rfl;have s3:=d.res.c 3 rfl;have s4:=d.res.c 4 rfl;have s5:=d.res.c 5 rfl;have s6:=d.res.c 6 rfl;have s7:=d.res.c 7 rfl
      have f0:=d.res.free 0;have f1:=d.res.free 1;have f2:=d.res.free 2;have f3:=d.res.free 3;have f4:=d.res.free 4;have f5:=d.res.free 5;have f6:=d.res.free 6;have f7:=d.res.free 7
      have D:bX 63 ((((((((a2.setCell ⟨w.heap.size+1,0,none⟩ (.int .i64 0)).setCell ⟨w.heap.size+1,1,none⟩ (.int .i64 0)).setCell ⟨w.heap.size+1,2,none⟩ (.slice none 0 0)).setCell ⟨w.heap.size+1,3,none⟩ (.int .i64 0)).setCell ⟨w.heap.size+1,4,none⟩ (.int .i64 0)).setCell ⟨w.heap.size+1,5,none⟩ (.slice none 0 0)).setCell ⟨w.heap.size+1,6,none⟩ (.slice none 0 0)).setCell ⟨w.heap.size+1,7,none⟩ (.int .i64 2)) (w.heap.size+1) [.int .i64 0,.int .i64 0,.slice none 0 0,.int .i64 0,.int .i64 0,.slice none 0 0,.slice none 0 0,.int .i64 2]:=d.res.full [.int .i64 0,.int .i64 0,.slice none 0 0,.int .i64 0,.int .i64 0,.slice none 0 0,.slice none 0 0,.int .i64 2] rfl
      have z0:=D.c 0 rfl;have z1:=D.c 1 rfl;have z2:=D.c 2 rfl;have z3:=D.c 3 rfl;have z4:=D.c 4 rfl;have z5:=D.c 5 rfl;have z6:=D.c 6 rfl;have z7:=D.c 7 rfl
      have BP:=aa (show Below w.heap.size w ((((((((a2.setCell ⟨w.heap.size+1,0,none⟩ (.int .i64 0)).setCell ⟨w.heap.size+1,1,none⟩ (.int .i64 0)).setCell ⟨w.heap.size+1,2,none⟩ (.slice none 0 0)).setCell ⟨w.heap.size+1,3,none⟩ (.int .i64 0)).setCell ⟨w.heap.size+1,4,none⟩ (.int .i64 0)).setCell ⟨w.heap.size+1,5,none⟩ (.slice none 0 0)).setCell ⟨w.heap.size+1,6,none⟩ (.slice none 0 0)).setCell ⟨w.heap.size+1,7,none⟩ (.int .i64 2))from cP (b:=w.heap.size+1) (Nat.le_succ _) [.int .i64 0,.int .i64 0,.slice none 0 0,.int .i64 0,.int .i64 0,.slice none 0 0,.slice none 0 0,.int .i64 2] 0 d.bel)
      clear D d f
      go_wp2_with fail
      exact bodyPost_ret (v:=.agg #[.int .i64 0,.int .i64 0,.slice none 0 0,.int .i64 0,.int .i64 0,.slice none 0 0,.slice none 0 0,.int .i64 2]) (by simp[results,Tryz.results38,go_sem,z0,z1,z2,z3,z4,z5,z6,z7]) rfl ⟨.inr (.inl ⟨by first|rfl|exact H,by rw[uH Z,hf];rfl,rfl⟩),uH BP⟩
     ·have L:=(uH f).bv.c2
      have K:=aa (es l u (aL V9) a2 (uH f).mv.1 (by rw[av];have:=(uH f).mv.small;omega))
      rw[av,l8,show iD (aL V9) M=dq V9 from by unfold dq;rw[l8]]at K
      go_wp2_with fail
      clear L
      refine Calls.mono (uH K) ?_
      rintro e bm ⟨rfl,z⟩
      replace f:=aa ((uH f).all z)
      clear z K
      cases hv:dq V9
      ·skip
       have d:=uH f
       have s0:=d.res.c 0 rfl;have O:=d.res.c 1 rfl;have s2:=d.res.c 2 rfl;have s3:=d.res.c 3 rfl;have s4:=d.res.c 4 rfl;have s5:=d.res.c 5 rfl;have s6:=d.res.c 6 rfl;have s7:=d.res.c 7 rfl
       have f0:=d.res.free 0;have f1:=d.res.free 1;have f2:=d.res.free 2;have f3:=d.res.free 3;have f4:=d.res.free 4;have f5:=d.res.free 5;have f6:=d.res.free 6;have f7:=d.res.free 7
       have D:bX 63 ((((((((bm.setCell ⟨w.heap.size+1,0,none⟩ (.int .i64 0)).setCell ⟨w.heap.size+1,1,none⟩ (.int .i64 0)).setCell ⟨w.heap.size+1,2,none⟩ (.slice none 0 0)).setCell ⟨w.heap.size+1,3,none⟩ (.int .i64 0)).setCell ⟨w.heap.size+1,4,none⟩ (.int .i64 0)).setCell ⟨w.heap.size+1,5,none⟩ (.slice none 0 0)).setCell ⟨w.heap.size+1,6,none⟩ (.slice none 0 0)).setCell ⟨w.heap.size+1,7,none⟩ (.int .i64 2)) (w.heap.size+1) [.int .i64 0,.int .i64 0,.slice none 0 0,.int .i64 0,.int .i64 0,.slice none 0 0,.slice none 0 0,.int .i64 2]:=d.res.full [.int .i64 0,.int .i64 0,.slice none 0 0,.int .i64 0,.int .i64 0,.slice none 0 0,.slice none 0 0,.int .i64 2] rfl
       have z0:=D.c 0 rfl;have z1:=D.c 1 rfl;have z2:=D.c 2 rfl;have z3:=D.c 3 rfl;have z4:=D.c 4 rfl;have z5:=D.c 5 rfl;have z6:=D.c 6 rfl;have z7:=D.c 7 rfl
       have BP:=aa (show Below w.heap.size w ((((((((bm.setCell ⟨w.heap.size+1,0,none⟩ (.int .i64 0)).setCell ⟨w.heap.size+1,1,none⟩ (.int .i64 0)).setCell ⟨w.heap.size+1,2,none⟩ (.slice none 0 0)).setCell ⟨w.heap.size+1,3,none⟩ (.int .i64 0)).setCell ⟨w.heap.size+1,4,none⟩ (.int .i64 0)).setCell ⟨w.heap.size+1,5,none⟩ (.slice none 0 0)).setCell ⟨w.heap.size+1,6,none⟩ (.slice none 0 0)).setCell ⟨w.heap.size+1,7,none⟩ (.int .i64 2))from cP (b:=w.heap.size+1) (Nat.le_succ _) [.int .i64 0,.int .i64 0,.slice none 0 0,.int .i64 0,.int .i64 0,.slice none 0 0,.slice none 0 0,.int .i64 2] 0 d.bel)
       clear D d f
       go_wp2_with fail
       exact bodyPost_ret (v:=.agg #[.int .i64 0,.int .i64 0,.slice none 0 0,.int .i64 0,.int .i64 0,.slice none 0 0,.slice none 0 0,.int .i64 2]) (by simp[results,Tryz.results38,go_sem,z0,z1,z2,z3,z4,z5,z6,z7]) rfl ⟨.inr (.inl ⟨by first|rfl|exact H,by rw[uH Z,uH a0,hf,hv];rfl,rfl⟩),uH BP⟩
      ·go_wp2_with fail
       refine aj (fun W=>tP w W g4 g5 r c N M W9 V9 (some ⟨gw,0,none⟩) l N u) (uH f) ?_
       clear f
       rintro U d
       have d:=d.all (Below.refl U.heap.size U).drew
       have a7:=aa (fv r c N (some ⟨gw,0,none⟩) W9 U.drew d.mw)
       rw[l9]at a7
       have H0:=aa (And.intro d.bw.c0 (And.intro d.bw.c1 (And.intro d.bw.c2 (And.intro d.bv.c0 (And.intro d.bv.c1 d.bv.c2)))))
       have f:=aa d
       clear d
       refine wp_region_held_drew (S:=fun w'=>w'.cell? ⟨g4,0,none⟩=some (.int .i64 (r:Nat))∧w'.cell? ⟨g4,1,none⟩=some (.int .i64 (c:Nat))∧w'.cell? ⟨g4,2,none⟩=some (.slice (some ⟨gw,0,none⟩) N N)∧w'.cell? ⟨g5,0,none⟩=some (.int .i64 (c:Nat))∧w'.cell? ⟨g5,1,none⟩=some (.int .i64 (c:Nat))∧w'.cell? ⟨g5,2,none⟩=some (.slice l M u)) (by kernel_rfl) ?_ (fun J=>?_)
       ·exact uH H0
       refine wpAnyH_take (i:=0) (oi:={dst:=some 66,op:=Op.load 25 (Operand.tmp 4),type:=25,pos:= "ref.go:125",after:=#[],guard:=none}) (v:=.agg #[.int .i64 (r:Nat),.int .i64 (c:Nat),.slice (some ⟨gw,0,none⟩) N N]) rfl (by kernel_rfl) (by kernel_rfl) (by kernel_rfl) (fun _ _ _ h=>h) (Or.inl ⟨by rfl,?_⟩) (by assumption) ?_
       ·(intro w ae;(try dsimp only at ae);go_simp)
       simp only[Act.put,List.setIfInBounds_toArray,List.set_cons_zero,List.set_cons_succ]
       refine wpAnyH_take (i:=1) (oi:={dst:=some 67,op:=Op.load 25 (Operand.tmp 5),type:=25,pos:= "ref.go:125",after:=#[],guard:=none}) (v:=.agg #[.int .i64 (c:Nat),.int .i64 (c:Nat),.slice l M u]) rfl (by kernel_rfl) (by kernel_rfl) (by kernel_rfl) (fun _ _ _ h=>h) (Or.inl ⟨by rfl,?_⟩) (by assumption) ?_
       ·(intro w ae;(try dsimp only at ae);go_simp)
       simp only[Act.put,List.setIfInBounds_toArray,List.set_cons_zero,List.set_cons_succ]
       refine wpAnyH_take (i:=2) (oi:={dst:=some 68,op:=Op.load 25 (Operand.tmp 4),type:=25,pos:= "ref.go:125",after:=#[],guard:=none}) (v:=.agg #[.int .i64 (r:Nat),.int .i64 (c:Nat),.slice (some ⟨gw,0,none⟩) N N]) rfl (by kernel_rfl) (by kernel_rfl) (by kernel_rfl) (fun _ _ _ h=>h) (Or.inl ⟨by rfl,?_⟩) (by assumption) ?_
       ·(intro w ae;(try dsimp only at ae);go_simp)
       simp only[Act.put,List.setIfInBounds_toArray,List.set_cons_zero,List.set_cons_succ]
       refine wpAnyH_ready (rs:=[3]) (by kernel_rfl) (by simp) ?_
       refine AllReadyH.cons (o:={dst:=some 69,op:=Op.call {callee:=Callee.value (Operand.func 53),args:=#[Operand.tmp 68],argTypes:=#[25]},type:=23,pos:= "ref.go:125",after:=#[{on:=2,ground:=Ground.data}],guard:=none}) rfl (fun K hK=>?_) AllReadyH.nil
       go_simp
       refine Calls.mono (uH a7) ?_
       rintro e am ⟨F,G,rfl,a3,z⟩
       have d:=(uH f).all z
       have h4:=d.h4;have h5:=d.h5
       have s0:=d.res.c 0 rfl;have O:=d.res.c 1 rfl;have s2:=d.res.c 2 rfl;have s3:=d.res.c 3 rfl;have s4:=d.res.c 4 rfl;have s5:=d.res.c 5 rfl;have s6:=d.res.c 6 rfl;have s7:=d.res.c 7 rfl
       have f0:=d.res.free 0;have f1:=d.res.free 1;have f2:=d.res.free 2;have f3:=d.res.free 3;have f4:=d.res.free 4;have f5:=d.res.free 5;have f6:=d.res.free 6;have f7:=d.res.free 7
       have D:bX 63 ((((((((am.setCell ⟨w.heap.size+1,0,none⟩ (.int .i64 (r:Nat))).setCell ⟨w.heap.size+1,1,none⟩ (.int .i64 (c:Nat))).setCell ⟨w.heap.size+1,2,none⟩ (.slice (some ⟨gw,0,none⟩) N N)).setCell ⟨w.heap.size+1,3,none⟩ (.int .i64 (c:Nat))).setCell ⟨w.heap.size+1,4,none⟩ (.int .i64 (c:Nat))).setCell ⟨w.heap.size+1,5,none⟩ (.slice l M u)).setCell ⟨w.heap.size+1,6,none⟩ (.slice F c G)).setCell ⟨w.heap.size+1,7,none⟩ (.int .i64 0)) (w.heap.size+1) [.int .i64 (r:Nat),.int .i64 (c:Nat),.slice (some ⟨gw,0,none⟩) N N,.int .i64 (c:Nat),.int .i64 (c:Nat),.slice l M u,.slice F c G,.int .i64 0]:=d.res.full [.int .i64 (r:Nat),.int .i64 (c:Nat),.slice (some ⟨gw,0,none⟩) N N,.int .i64 (c:Nat),.int .i64 (c:Nat),.slice l M u,.slice F c G,.int .i64 0] rfl
       have z0:=D.c 0 rfl;have z1:=D.c 1 rfl;have z2:=D.c 2 rfl;have z3:=D.c 3 rfl;have z4:=D.c 4 rfl;have z5:=D.c 5 rfl;have z6:=D.c 6 rfl;have z7:=D.c 7 rfl
       have BB:=aa (show af ((((((((am.setCell ⟨w.heap.size+1,0,none⟩ (.int .i64 (r:Nat))).setCell ⟨w.heap.size+1,1,none⟩ (.int .i64 (c:Nat))).setCell ⟨w.heap.size+1,2,none⟩ (.slice (some ⟨gw,0,none⟩) N N)).setCell ⟨w.heap.size+1,3,none⟩ (.int .i64 (c:Nat))).setCell ⟨w.heap.size+1,4,none⟩ (.int .i64 (c:Nat))).setCell ⟨w.heap.size+1,5,none⟩ (.slice l M u)).setCell ⟨w.heap.size+1,6,none⟩ (.slice F c G)).setCell ⟨w.heap.size+1,7,none⟩ (.int .i64 0)) (some ⟨gw,0,none⟩) N (aL W9)∧af ((((((((am.setCell ⟨w.heap.size+1,0,none⟩ (.int .i64 (r:Nat))).setCell ⟨w.heap.size+1,1,none⟩ (.int .i64 (c:Nat))).setCell ⟨w.heap.size+1,2,none⟩ (.slice (some ⟨gw,0,none⟩) N N)).setCell ⟨w.heap.size+1,3,none⟩ (.int .i64 (c:Nat))).setCell ⟨w.heap.size+1,4,none⟩ (.int .i64 (c:Nat))).setCell ⟨w.heap.size+1,5,none⟩ (.slice l M u)).setCell ⟨w.heap.size+1,6,none⟩ (.slice F c G)).setCell ⟨w.heap.size+1,7,none⟩ (.int .i64 0)) l u (aL V9)∧af ((((((((am.setCell ⟨w.heap.size+1,0,none⟩ (.int .i64 (r:Nat))).setCell ⟨w.heap.size+1,1,none⟩ (.int .i64 (c:Nat))).setCell ⟨w.heap.size+1,2,none⟩ (.slice (some ⟨gw,0,none⟩) N N)).setCell ⟨w.heap.size+1,3,none⟩ (.int .i64 (c:Nat))).setCell ⟨w.heap.size+1,4,none⟩ (.int .i64 (c:Nat))).setCell ⟨w.heap.size+1,5,none⟩ (.slice l M u)).setCell ⟨w.heap.size+1,6,none⟩ (.slice F c G)).setCell ⟨w.heap.size+1,7,none⟩ (.int .i64 0)) F G (aL (bR r c W9))∧Below w.heap.size w ((((((((am.setCell ⟨w.heap.size+1,0,none⟩ (.int .i64 (r:Nat))).setCell ⟨w.heap.size+1,1,none⟩ (.int .i64 (c:Nat))).setCell ⟨w.heap.size+1,2,none⟩ (.slice (some ⟨gw,0,none⟩) N N)).setCell ⟨w.heap.size+1,3,none⟩ (.int .i64 (c:Nat))).setCell ⟨w.heap.size+1,4,none⟩ (.int .i64 (c:Nat))).setCell ⟨w.heap.size+1,5,none⟩ (.slice l M u)).setCell ⟨w.heap.size+1,6,none⟩ (.slice F c G)).setCell ⟨w.heap.size+1,7,none⟩ (.int .i64 0))from⟨cU (b:=w.heap.size+1) (d.res.off fC d.mw.1) [.int .i64 (r:Nat),.int .i64 (c:Nat),.slice (some ⟨gw,0,none⟩) N N,.int .i64 (c:Nat),.int .i64 (c:Nat),.slice l M u,.slice F c G,.int .i64 0] 0 d.mw.1,cU (b:=w.heap.size+1) (d.res.off fC d.mv.1) [.int .i64 (r:Nat),.int .i64 (c:Nat),.slice (some ⟨gw,0,none⟩) N N,.int .i64 (c:Nat),.int .i64 (c:Nat),.slice l M u,.slice F c G,.int .i64 0] 0 d.mv.1,cU (b:=w.heap.size+1) (d.res.off fC a3) [.int .i64 (r:Nat),.int .i64 (c:Nat),.slice (some ⟨gw,0,none⟩) N N,.int .i64 (c:Nat),.int .i64 (c:Nat),.slice l M u,.slice F c G,.int .i64 0] 0 a3,cP (b:=w.heap.size+1) (Nat.le_succ _) [.int .i64 (r:Nat),.int .i64 (c:Nat),.slice (some ⟨gw,0,none⟩) N N,.int .i64 (c:Nat),.int .i64 (c:Nat),.slice l M u,.slice F c G,.int .i64 0] 0 d.bel⟩)
       have H3:=aa (And.intro d.bw.c0 (And.intro d.bw.c1 (And.intro d.bw.c2 (And.intro d.bv.c0 (And.intro d.bv.c1 d.bv.c2)))))
       have H5:=aa (And.intro (d.bw.putL (b:=w.heap.size+1) (by omega) 0 [.int .i64 (r:Nat),.int .i64 (c:Nat),.slice (some ⟨gw,0,none⟩) N N,.int .i64 (c:Nat),.int .i64 (c:Nat),.slice l M u,.slice F c G,.int .i64 0]).c0 (And.intro (d.bw.putL (b:=w.heap.size+1) (by omega) 0 [.int .i64 (r:Nat),.int .i64 (c:Nat),.slice (some ⟨gw,0,none⟩) N N,.int .i64 (c:Nat),.int .i64 (c:Nat),.slice l M u,.slice F c G,.int .i64 0]).c1 (And.intro (d.bw.putL (b:=w.heap.size+1) (by omega) 0 [.int .i64 (r:Nat),.int .i64 (c:Nat),.slice (some ⟨gw,0,none⟩) N N,.int .i64 (c:Nat),.int .i64 (c:Nat),.slice l M u,.slice F c G,.int .i64 0]).c2 (And.intro (d.bv.putL (b:=w.heap.size+1) (by omega) 0 [.int .i64 (r:Nat),.int .i64 (c:Nat),.slice (some ⟨gw,0,none⟩) N N,.int .i64 (c:Nat),.int .i64 (c:Nat),.slice l M u,.slice F c G,.int .i64 0]).c0 (And.intro (d.bv.putL (b:=w.heap.size+1) (by omega) 0 [.int .i64 (r:Nat),.int .i64 (c:Nat),.slice (some ⟨gw,0,none⟩) N N,.int .i64 (c:Nat),.int .i64 (c:Nat),.slice l M u,.slice F c G,.int .i64 0]).c1 (d.bv.putL (b:=w.heap.size+1) (by omega) 0 [.int .i64 (r:Nat),.int .i64 (c:Nat),.slice (some ⟨gw,0,none⟩) N N,.int .i64 (c:Nat),.int .i64 (c:Nat),.slice l M u,.slice F c G,.int .i64 0]).c2)))))
       clear d z a3 D h4 h5
       go_wp2_with fail
       refine hK.out _ _ ?_ (fun J=>?_)
       ·exact uH H3
       clear hK K
       refine wpAnyH_ready (rs:=[4]) (by kernel_rfl) (by simp) ?_
       refine AllReadyH.cons (o:={dst:=some 70,op:=Op.build 63 #[(0,Operand.tmp 66),(1,Operand.tmp 67),(2,Operand.tmp 69)],type:=63,pos:= "ref.go:125",after:=#[{on:=0,ground:=Ground.data},{on:=1,ground:=Ground.data},{on:=3,ground:=Ground.data}],guard:=none}) rfl (fun K hK=>?_) AllReadyH.nil
       go_simp
       refine hK.out _ _ ?_ (fun J=>?_)
       ·exact uH H3
       clear hK K
       refine wpAnyH_ready (rs:=[5]) (by kernel_rfl) (by simp) ?_
       refine AllReadyH.cons (o:={dst:=none,op:=Op.store 63 (Operand.tmp 2) (Operand.tmp 70),type:=0,pos:= "ref.go:125",after:=#[{on:=4,ground:=Ground.data},{on:=3,ground:=Ground.chain},{on:=0,ground:=Ground.phase},{on:=1,ground:=Ground.phase},{on:=2,ground:=Ground.phase},{on:=3,ground:=Ground.phase},{on:=4,ground:=Ground.phase}],guard:=none}) rfl (fun K hK=>?_) AllReadyH.nil
       go_simp
       refine hK.out _ _ ?_ (fun J=>?_)
       ·exact uH H5
       clear hK K
       refine wpAnyH_done (by kernel_rfl) ?_ _
       skip
       go_wp2_with fail
       exact bodyPost_ret (v:=.agg #[.int .i64 (r:Nat),.int .i64 (c:Nat),.slice (some ⟨gw,0,none⟩) N N,.int .i64 (c:Nat),.int .i64 (c:Nat),.slice l M u,.slice F c G,.int .i64 0]) (by simp[results,Tryz.results38,go_sem,z0,z1,z2,z3,z4,z5,z6,z7]) rfl ⟨.inr (.inr ⟨by first|rfl|exact H,by rw[uH Z,uH a0,hf,hv];rfl,_,_,_,_,_,_,rfl,by rw[uH Z];exact(uH BB).1,by rw[uH a0];exact(uH BB).2.1,by rw[uH Z];exact(uH BB).2.2.1⟩),(uH BB).2.2.2⟩
end Go.Proofs.YtdhmglmccafbnaaGreatDoor
