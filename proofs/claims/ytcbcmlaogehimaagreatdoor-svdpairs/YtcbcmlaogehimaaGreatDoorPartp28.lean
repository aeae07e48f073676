/- Part 28 of the texts. -/
import Derived.Test.YtcbcmlaogehimaaGreatDoorPartp27
import Derived.Laws.CopyOwn
import Derived.Deep.CutRange
set_option maxHeartbeats 32000000
set_option maxRecDepth 20000
namespace Go.Proofs.YtcbcmlaogehimaaGreatDoor
open Go.RowKit
attribute [local go_sem ↓] Go.wp_at_zero Go.wp_at_succ
def gD(r c:Nat)(S:List Nat)(i k C s:Nat):List Nat:=Fy c r (MT c r (Fy r c S) i k C s)
theorem ie(r c:Nat)(S:List Nat)(i k C s:Nat):(gD r c S i k C s).length=r*c:=by
 unfold gD Fy
 exact fr _ _ _
structure kL (w wr:World) (r c n cap f1 s1 k1 f2 s2 k2:Nat) (ao:Option Addr) (S:List Nat):Prop where
 bel:Below w.heap.size w wr
 m:aM wr w.heap.size (.int .i64 r) (.int .i64 c) (.slice ao n cap)
 u:gH 214 wr (w.heap.size+1) (.int .i64 f1) (.int .i64 s1) (.int .i64 k1)
 l:gH 214 wr (w.heap.size+1+1) (.int .i64 f2) (.int .i64 s2) (.int .i64 k2)
 res:aM wr (w.heap.size+1+1+1) (.int .i64 0) (.int .i64 0) (.slice none 0 0)
 row:cf wr (w.heap.size+1+1+1+1) S
theorem kL.all{w wr A:World}{r c n z D F G H I k2:Nat}{J:Option Addr}{S:List Nat}(h:kL w wr r c n z D F G H I k2 J S)(d:Below wr.heap.size wr A):kL w A r c n z D F G H I k2 J S:=
 ⟨h.bel.trans (d.mono h.bel.size),h.m.all d,h.u.all d,h.l.all d,h.res.all d,h.row.below d h.row.lt⟩
theorem kL.set{w wr:World}{r c n d z A D F G k2:Nat}{H:Option Addr}{S:List Nat}(h:kL w wr r c n d z A D F G k2 H S)(p x:Nat):kL w (wr.setCell ⟨w.heap.size+1+1+1+1,p,none⟩ (.int .u64 (x:Int))) r c n d z A D F G k2 H (S.set p x):=
 ⟨h.bel.setCell (p:=⟨w.heap.size+1+1+1+1,p,none⟩) (by show w.heap.size≤w.heap.size+1+1+1+1;omega) _,h.m.other (p:=⟨w.heap.size+1+1+1+1,p,none⟩) (by show w.heap.size≠w.heap.size+1+1+1+1;omega) _,h.u.other (p:=⟨w.heap.size+1+1+1+1,p,none⟩) (by show w.heap.size+1≠w.heap.size+1+1+1+1;omega) _,h.l.other (p:=⟨w.heap.size+1+1+1+1,p,none⟩) (by show w.heap.size+1+1≠w.heap.size+1+1+1+1;omega) _,h.res.other (p:=⟨w.heap.size+1+1+1+1,p,none⟩) (by show w.heap.size+1+1+1≠w.heap.size+1+1+1+1;omega) _,h.row.set p x⟩
theorem kL.start(w:World)(r c n d h u z A D k2:Nat)(F:Option Addr):
  kL w (((((w.alloc (.cells #[.int .i64 r,.int .i64 c,.slice F n d] 24)).alloc (.cells #[.int .i64 h,.int .i64 u,.int .i64 z] 214)).alloc (.cells #[.int .i64 A,.int .i64 D,.int .i64 k2] 214)).alloc (.cells #[.int .i64 0,.int .i64 0,.slice none 0 0] 24)).alloc (.cells (madeCells #[.int .u64 0] n) 69)) r c n d h u z A D k2 F (List.replicate n 0):=by
 have O:=ad w (.cells #[.int .i64 r,.int .i64 c,.slice F n d] 24)
 have s0:=aq w (.cells #[.int .i64 r,.int .i64 c,.slice F n d] 24)
 have x0:=aM.new w (.int .i64 r) (.int .i64 c) (.slice F n d)
 generalize w.alloc (.cells #[.int .i64 r,.int .i64 c,.slice F n d] 24)=I at*
 have Q:=ad I (.cells #[.int .i64 h,.int .i64 u,.int .i64 z] 214)
 have z1:=aq I (.cells #[.int .i64 h,.int .i64 u,.int .i64 z] 214)
 have U:=gH.new 214 I (.int .i64 h) (.int .i64 u) (.int .i64 z)
 generalize I.alloc (.cells #[.int .i64 h,.int .i64 u,.int .i64 z] 214)=J at*
 have L:=ad J (.cells #[.int .i64 A,.int .i64 D,.int .i64 k2] 214)
 have z2:=aq J (.cells #[.int .i64 A,.int .i64 D,.int .i64 k2] 214)
 have X:=gH.new 214 J (.int .i64 A) (.int .i64 D) (.int .i64 k2)
 generalize J.alloc (.cells #[.int .i64 A,.int .i64 D,.int .i64 k2] 214)=K at*
 have H:=ad K (.cells #[.int .i64 0,.int .i64 0,.slice none 0 0] 24)
 have Y:=aq K (.cells #[.int .i64 0,.int .i64 0,.slice none 0 0] 24)
 have Z:=aM.new K (.int .i64 0) (.int .i64 0) (.slice none 0 0)
 generalize K.alloc (.cells #[.int .i64 0,.int .i64 0,.slice none 0 0] 24)=w3 at*
 have G:=ad w3 (.cells (madeCells #[.int .u64 0] n) 69)
 have x4:=cf.made w3 n
 rw[s0]at U z1
 rw[z1]at X z2
 rw[z2]at Z Y
 rw[Y]at x4
 have c1:=O.trans (Q.mono O.size)
 have c2:=c1.trans (L.mono c1.size)
 have c3:=c2.trans (H.mono c2.size)
 exact⟨c3.trans (G.mono c3.size),(((x0.all Q).all L).all H).all G,((U.all L).all H).all G,(X.all H).all G,Z.all G,x4⟩
theorem kL.copied{w wr A:World}{r c n d D F G H I k2:Nat}{J:Option Addr}{S T:List Nat}(h:kL w wr r c n d D F G H I k2 J S)(z:Below (w.heap.size+1+1+1+1) wr A)(K:cf A (w.heap.size+1+1+1+1) T):kL w A r c n d D F G H I k2 J T:=
 ⟨h.bel.trans (z.mono (by omega)),h.m.below z (by omega),h.u.below z (by omega),h.l.below z (by omega),h.res.below z (by omega),K⟩
theorem cf.three{w:World}{b g:Nat}{S:List Nat}(h:cf w b S)(z:b≠g)(u A d:Value):cf (((w.setCell ⟨g,0,none⟩ u).setCell ⟨g,1,none⟩ A).setCell ⟨g,2,none⟩ d) b S:=by
 unfold cf
 rw[Below.heap_setCell _ ⟨g,2,none⟩ d b z,Below.heap_setCell _ ⟨g,1,none⟩ A b z,Below.heap_setCell _ ⟨g,0,none⟩ u b z]
 exact h
theorem Eu{w:World}{g b:Nat}{S:List Nat}(h:cf w g S){x y z:Value}(d:aM w b x y z):g≠b:=by
 intro e
 subst e
 unfold cf at h
 unfold aM at d
 rw[h]at d
 simp at d
theorem Ev(W:World)(g n u:Nat)(I:Option Addr)(S:List Nat)(h:cf W g (List.replicate n 0))(L:ak W I u (bH S))(J:S.length=n):
  ∃F,(∀A,(Builtin.copy_ #[22,22] A #[.slice (some ⟨g,0,none⟩) n n,.slice I n u]).run Tryz.prog W=.ok (.int .i64 (n:Int)) F)∧cf F g S∧Below g W F:=by
 rcases Nat.eq_zero_or_pos n with e|e
 ·subst e
  obtain rfl:S= []:=List.eq_nil_of_length_eq_zero J
  exact⟨W,fun A=>run_copy_none W _ _ A 69 _ _ 0 0 0 u Tryz.underlying22 (by kernel_rfl) rfl,h,Below.refl _ _⟩
 ·obtain⟨b,z,rfl,U,Q⟩:=L.ne (by rw[aG];omega)
  have G:∀j v,(S.map kI)[j]? =some v→W.cell? ((⟨b,z,none⟩:Addr).add j)=some v:=by
   intro j v D
   rw[List.getElem?_map]at D
   obtain⟨x,K,rfl⟩:=Option.map_eq_some_iff.1 D
   have O:j<S.length:=(List.getElem?_eq_some_iff.1 K).1
   have:=Q j (by rw[aG];exact O)
   rw[ev]at this
   rw[show(⟨b,z,none⟩:Addr).add j=⟨b,z+j,none⟩from by simp[Addr.add],this]
   rw[List.getD_eq_getElem?_getD,K]
   rfl
  have d:(S.map kI).length=n:=by rw[List.length_map,J]
  have H:=fun A=>run_copy_row Tryz.prog W 22 22 A 69 g 0 n n ⟨b,z,none⟩ n u ((List.replicate n 0).map kI).toArray 69 (S.map kI) Tryz.underlying22 (by kernel_rfl) h (by rw[d];exact(Nat.min_self n).symm) G (by rw[d];simp) (fun v D=>by obtain⟨x,_,rfl⟩:=List.mem_map.1 D;rfl)
  refine⟨_,fun A=>(H A).trans (by rw[d];rfl),?_,below_setRow (Below.refl _ _) (Nat.le_refl _) _⟩
  unfold cf
  rw[setRow_heap W g _ _ 69 _ h]
  congr 3
  simp
theorem qt(r c n D I L k J O k2 C s:Nat)(ao:Option Addr)(F:Nat→List Nat)(P Q X Y U V:Nat→Nat)(w:World)(a1:n≤36)(h6:k≤6)(Z:ak w ao D (bH (F 0)))(lJ:∀j,(F j).length=n)
  (hP:∀j,j<k→P j<n∧Q j<n∧P j≠Q j∧(F j)[P j]?.getD 0=X j∧(F j)[Q j]?.getD 0=Y j∧((F j).set (P j) (U j)).set (Q j) (V j)=F (j+1))
  (C1:∀d j,j<k→Calls Tryz.prog 272 #[.agg #[.int .i64 I,.int .i64 L,.int .i64 k],.int .i64 (j:Nat)] d fun e G=>e=.returned (.int .i64 (P j:Nat))∧Below d.heap.size d G)
  (C2:∀d j,j<k→Calls Tryz.prog 272 #[.agg #[.int .i64 J,.int .i64 O,.int .i64 k2],.int .i64 (j:Nat)] d fun e G=>e=.returned (.int .i64 (Q j:Nat))∧Below d.heap.size d G)
  (C3:∀d j,Below w.heap.size w d→j<k→Calls Tryz.prog 273 #[.int .u64 (X j:Nat),.int .u64 (Y j:Nat),.int .u64 C,.int .u64 s] d fun e G=>e=.returned (.tuple #[.int .u64 (U j:Nat),.int .u64 (V j:Nat)])∧Below d.heap.size d G):
  Calls Tryz.prog 244 #[.agg #[.int .i64 r,.int .i64 c,.slice ao n D],.agg #[.int .i64 I,.int .i64 L,.int .i64 k],.agg #[.int .i64 J,.int .i64 O,.int .i64 k2],.int .u64 C,.int .u64 s] w fun e d=>∃g,e=.returned (.agg #[.int .i64 r,.int .i64 c,.slice (some ⟨g,0,none⟩) n n])∧w.heap.size≤g∧cf d g (F k)∧Below w.heap.size w d:=by
 have z:=ac (kL.start w r c n D I L k J O k2 ao)
 have ah:=run_make_row' (P:=Tryz.prog) 22 69 (.int .u64 0) 8 Tryz.underlying22 (by kernel_rfl) rfl .i64 .i64 n (by omega) (by omega)
 have HP:=ac hP;have K1:=ac C1;have K2:=ac C2;have K3:=ac C3;have LJ:=ac lJ;have HS:=ac Z
 obtain⟨w5,aI,ae,A⟩:=Ev _ (w.heap.size+1+1+1+1) n D ao (F 0) (uH z).row (Z.below (uH z).bel) (lJ 0)
 have H:=ac ((uH z).copied A ae)
 clear hP C1 C2 C3 lJ Z ae A
 have y0:=(uH z).m.c0;have y1:=(uH z).m.c1;have y2:=(uH z).m.c2
 have q0:=(uH H).u.c0;have q1:=(uH H).u.c1;have q2:=(uH H).u.c2
 go_enter Tryz.func244,Tryz.ntmps244
 go_wp2_with fail
 clear ah aI y0 y1 y2 q0 q1 q2 z
 go_loopw[25] (fun a wr=>∃j:Nat,j≤k∧a=.int .i64 j∧Hid (kL w wr r c n D I L k J O k2 ao (F j))) (fun a _=>k-(intOf a).toNat)
 case atStart=>exact⟨0,Nat.zero_le _,rfl,H⟩
 case round=>
  clear H
  obtain⟨j,hj,rfl,Z⟩:=hrel
  by_cases K:j<k
  ·have a2:(j:Int)<(k:Int):=by omega
   obtain⟨hp,hq,a5,hx,hy,aa⟩:=uH HP j K
   have KP:=ac (fun d=>uH K1 d j K);have KQ:=ac (fun d=>uH K2 d j K);have KT:=ac (fun d hb=>uH K3 d j hb K)
   have LL:=ac (uH LJ j);have HX:=ac hx;have HY:=ac hy;have HN:=ac aa
   generalize a6:F j=TT at*
   generalize a0:F (j+1)=TN at*
   clear HP K1 K2 K3 LJ hx hy aa
   generalize P j=p at*
   generalize Q j=q at*
   generalize X j=x at*
   generalize Y j=y at*
   generalize U j=u at*
   generalize V j=v at*
   have a3:(p:Int)<(n:Int):=by omega
   have a4:(q:Int)<(n:Int):=by omega
   go_wp2_with fail
   refine ap (fun W=>kL w W r c n D I L k J O k2 ao TT) (uH Z) ?_
   clear Z
   intro W st
   have z:=ac st
   have HK:=ac (fun d (h:Below W.heap.size W d)=>(show Below W.heap.size W d∧(d.cell? ⟨w.heap.size+1,0,none⟩=some (.int .i64 I)∧d.cell? ⟨w.heap.size+1,1,none⟩=some (.int .i64 L)∧d.cell? ⟨w.heap.size+1,2,none⟩=some (.int .i64 k))∧(d.cell? ⟨w.heap.size+1+1,0,none⟩=some (.int .i64 J)∧d.cell? ⟨w.heap.size+1+1,1,none⟩=some (.int .i64 O)∧d.cell? ⟨w.heap.size+1+1,2,none⟩=some (.int .i64 k2))from
    have y:=st.all h;⟨h,⟨y.u.c0,y.u.c1,y.u.c2⟩,y.l.c0,y.l.c1,y.l.c2⟩))
   clear st
   go_region_held3(fun d=>Below W.heap.size W d∧(d.cell? ⟨w.heap.size+1,0,none⟩=some (.int .i64 I)∧d.cell? ⟨w.heap.size+1,1,none⟩=some (.int .i64 L)∧d.cell? ⟨w.heap.size+1,2,none⟩=some (.int .i64 k))∧(d.cell? ⟨w.heap.size+1+1,0,none⟩=some (.int .i64 J)∧d.cell? ⟨w.heap.size+1+1,1,none⟩=some (.int .i64 O)∧d.cell? ⟨w.heap.size+1+1,2,none⟩=some (.int .i64 k2)))
    (first|exact uH HK _ (Below.refl _ _).drew|exact uH HK _ (by assumption)|fail "KK")
    (first|(go_at_call 272;refine(uH KP _).mono ?_;rintro e w6 ⟨rfl,A⟩;have am:Below W.heap.size W w6:=Below.trans (And.left (by assumption)) (A.mono (Below.size (And.left (by assumption))));clear A KP)|(go_at_call 272;refine(uH KQ _).mono ?_;rintro e w7 ⟨rfl,A⟩;have am:Below W.heap.size W w7:=Below.trans (And.left (by assumption)) (A.mono (Below.size (And.left (by assumption))));clear A KQ)|fail "NO ARM")
   all_goals
    have z:=ac ((uH z).all (And.left (by assumption)))
    clear HK
    go_wp2_with fail
    refine ap (fun W=>kL w W r c n D I L k J O k2 ao TT) (uH z) ?_
    clear z
    rintro W0 st
    have z:=ac (st.all ((Below.refl W0.heap.size W0).drew))
    clear st
    have c1:=(uH z).row.cell p (by rw[uH LL];exact hp)
    have c2:=(uH z).row.cell q (by rw[uH LL];exact hq)
    rw[uH HX]at c1
    rw[uH HY]at c2
    go_region_with (first
     |(go_at_call 273;refine(uH KT _ (uH z).bel).mono ?_;rintro e w8 ⟨rfl,hb⟩;clear c1 c2;have S8:=(uH z).all hb;have d1:=S8.row.cell p (by rw[uH LL];exact hp);have d2:=S8.row.cell q (by rw[uH LL];exact hq);have an:=S8.row.free p;have ar:=S8.row.free q;have S9:=S8.set p u;have d3:=S9.row.cell q (by rw[List.length_set,uH LL];exact hq);have ax:=S9.row.free q;have P9:=ac (S9.set q v);clear S8 S9 hb z KT)
     |fail "NO ARM")
    all_goals
     clear d1 d2 d3 an ar ax
     go_wp2_with fail
     go_round
     case rel=>exact⟨j+1,by omega,by go_num,by rw[a0,←uH HN];exact P9⟩
     case measure=>simp[intOf];omega
  ·have az:j=k:=by omega
   subst az
   obtain⟨h6,h1,h2,h3,h4,h5⟩:=uH Z
   have y0:=h1.c0;have y1:=h1.c1;have y2:=h1.c2
   have r0:=h4.c0;have r1:=h4.c1;have r2:=h4.c2
   have f0:=h4.free 0;have I:=h4.free 1;have J:=h4.free 2
   have XP:=h4.put (.int .i64 r) (.int .i64 c) (.slice (some ⟨w.heap.size+1+1+1+1,0,none⟩) n n)
   have z0:=XP.c0;have z1:=XP.c1;have z2:=XP.c2
   have RW:=ac (h5.three (g:=w.heap.size+1+1+1) (by omega) (.int .i64 r) (.int .i64 c) (.slice (some ⟨w.heap.size+1+1+1+1,0,none⟩) n n))
   have BP:=ac (aR h6 (b:=w.heap.size+1+1+1) (by omega) (.int .i64 r) (.int .i64 c) (.slice (some ⟨w.heap.size+1+1+1+1,0,none⟩) n n))
   clear XP h1 h2 h3 h4 h5 h6 Z
   go_wp2_with fail
   exact bodyPost_ret (v:=.agg #[.int .i64 r,.int .i64 c,.slice (some ⟨w.heap.size+1+1+1+1,0,none⟩) n n]) (by simp[results,Tryz.results244,go_sem,z0,z1,z2]) rfl ⟨_,rfl,by omega,uH RW,uH BP⟩
end Go.Proofs.YtcbcmlaogehimaaGreatDoor
namespace Go.Proofs.YtcbcmlaogehimaaGreatDoor
open Go.RowKit
def KK:Nat→Nat
 |0=>2098
 |c+1=>2*KK c+1
attribute [local go_sem ↓] Go.wp_at_zero Go.wp_at_succ
def AO(w wr:World)(na nb:Bool)(ao bo:Option Addr)(ka kb ca cb:Nat)(x y:Int):Prop:=
 al wr w.heap.size (.bool na) (.slice ao ka ca) (.int .i64 x)∧al wr (w.heap.size+1) (.bool nb) (.slice bo kb cb) (.int .i64 y)∧Below w.heap.size w wr
theorem AO.all{w wr u:World}{z A:Bool}{D F:Option Addr}{G H I J:Nat}{x y:Int}(h:AO w wr z A D F G H I J x y)(d:Below wr.heap.size wr u):AO w u z A D F G H I J x y:=⟨h.1.all d,h.2.1.all d,h.2.2.trans (d.mono h.2.2.size)⟩
theorem AO.start(w:World)(d A:Bool)(h D:Option Addr)(u F z G:Nat)(x y:Int):AO w ((w.alloc (.cells #[.bool d,.slice h u z,.int .i64 x] 35)).alloc (.cells #[.bool A,.slice D F G,.int .i64 y] 35)) d A h D u F z G x y:=by
 have H:=ad w (.cells #[.bool d,.slice h u z,.int .i64 x] 35)
 have L:=aq w (.cells #[.bool d,.slice h u z,.int .i64 x] 35)
 have O:=al.new w (.bool d) (.slice h u z) (.int .i64 x)
 generalize w.alloc (.cells #[.bool d,.slice h u z,.int .i64 x] 35)=K at*
 have I:=ad K (.cells #[.bool A,.slice D F G,.int .i64 y] 35)
 have J:=al.new K (.bool A) (.slice D F G) (.int .i64 y)
 rw[L]at J
 exact⟨O.all I,J,H.trans (I.mono H.size)⟩
def nJ(w wr:World)(lo s:Int):Prop:=al wr w.heap.size (.bool false) (.slice none 0 0) (.int .i64 0)∧iM wr (w.heap.size+1) lo s∧Below w.heap.size w wr
theorem nJ.all{w wr u:World}{lo s:Int}(h:nJ w wr lo s)(d:Below wr.heap.size wr u):nJ w u lo s:=⟨h.1.all d,h.2.1.all d,h.2.2.trans (d.mono h.2.2.size)⟩
theorem nJ.start(w:World)(lo:Int):nJ w ((w.alloc (.cells #[.bool false,.slice none 0 0,.int .i64 0] 35)).alloc (.cells #[.bool false,.slice none 0 0,.int .i64 0] 35)) lo 0:=by
 have d:=ad w (.cells #[.bool false,.slice none 0 0,.int .i64 0] 35)
 have A:=aq w (.cells #[.bool false,.slice none 0 0,.int .i64 0] 35)
 have D:=al.new w (.bool false) (.slice none 0 0) (.int .i64 0)
 generalize w.alloc (.cells #[.bool false,.slice none 0 0,.int .i64 0] 35)=z at*
 have h:=ad z (.cells #[.bool false,.slice none 0 0,.int .i64 0] 35)
 have u:=iM.new z lo
 rw[A]at u
 exact⟨D.all h,u,d.trans (h.mono d.size)⟩
theorem nJ.put{w wr:World}{lo s t:Int}(h:nJ w wr lo s){n:Bool}{a:Option Addr}{l c:Nat}{X:Int}(z:aY wr (.agg #[.bool n,.slice a l c,.int .i64 X]) lo t):
  nJ w (((wr.setCell ⟨w.heap.size+1,0,none⟩ (.bool n)).setCell ⟨w.heap.size+1,1,none⟩ (.slice a l c)).setCell ⟨w.heap.size+1,2,none⟩ (.int .i64 X)) lo t:=by
 obtain⟨A,⟨F,G,H,I,J,u,_⟩,D⟩:=h
 have d:w.heap.size≠w.heap.size+1:=by omega
 exact⟨((A.other (p:=⟨w.heap.size+1,0,none⟩) d _).other (p:=⟨w.heap.size+1,1,none⟩) d _).other (p:=⟨w.heap.size+1,2,none⟩) d _,⟨n,a,l,c,X,u.put _ _ _,aC.put3 z u _ _ _⟩,aD D (by omega) _ _ _⟩
theorem Ib(ao bo:Option Addr)(c d n:Nat)(I J:List Int)(lo lo2:Int)(fa fb sm:Nat→Int)(w:World)(hI:ak w ao c I)(hJ:ak w bo d J)(hi:I.length=n)(hj:J.length=n)(hn:n≤8)(h0:sm 0=0)
  (C1:∀A k,k<n→Calls Tryz.prog 60 #[.int .u64 (bL I k:Nat)] A fun r F=>∃u,r=.returned u∧aY F u lo (fa k)∧Below A.heap.size A F)
  (C2:∀A k,k<n→Calls Tryz.prog 60 #[.int .u64 (bL J k:Nat)] A fun r F=>∃u,r=.returned u∧aY F u lo (fb k)∧Below A.heap.size A F)
  (C3:∀A k v u,k<n→aY A v lo (fa k)→aY A u lo (fb k)→Calls Tryz.prog 18 #[v,u] A fun r F=>∃q,r=.returned q∧aY F q lo2 (fa k*fb k)∧Below A.heap.size A F)
  (C4:∀A k v u,k<n→aY A v lo2 (sm k)→aY A u lo2 (fa k*fb k)→Calls Tryz.prog 19 #[v,u] A fun r F=>∃q,r=.returned q∧aY F q lo2 (sm (k+1))∧Below A.heap.size A F):
  Calls Tryz.prog 31 #[.slice ao n c,.slice bo n d] w fun e A=>∃v,e=.returned v∧aY A v lo2 (sm n)∧Below w.heap.size w A:=by
 have K1:=ac C1;have K2:=ac C2;have K3:=ac C3;have K4:=ac C4;have HI:=ac hI;have HJ:=ac hJ;have LI:=ac hi;have LJ:=ac hj
 have ST:=ac (show nJ w _ lo2 (sm 0)from by rw[h0];exact nJ.start w lo2)
 clear C1 C2 C3 C4 hI hJ hi hj h0
 go_enter Tryz.func31,Tryz.ntmps31
 go_wp2_with fail
 go_loopw[6] (fun i wr=>∃k:Nat,k≤n∧i=.int .i64 k∧Hid (nJ w wr lo2 (sm k))) (fun i _=>n-(intOf i).toNat)
 case atStart=>exact⟨0,Nat.zero_le _,rfl,ST⟩
 case round=>
  clear ST
  obtain⟨k,hk,rfl,hS⟩:=hrel
  by_cases H:k<n
  ·have ah:(k:Int)<(n:Int):=by omega
   have W1:=ac (fun A=>uH K1 A k H)
   have W2:=ac (fun A=>uH K2 A k H)
   have W3:=ac (fun A v u=>uH K3 A k v u H)
   have W4:=ac (fun A v u=>uH K4 A k v u H)
   obtain⟨b1,o1,rfl,p1,q1⟩:=(uH HI).ne (by rw[uH LI];omega)
   obtain⟨b2,o2,rfl,p2,q2⟩:=(uH HJ).ne (by rw[uH LJ];omega)
   have L:=q1 k (by rw[uH LI];exact H)
   have O:=q2 k (by rw[uH LJ];exact H)
   generalize bL I k=x at*
   generalize bL J k=y at*
   have KX:=ac L;have KY:=ac O;have P1:=ac p1;have P2:=ac p2
   clear q1 q2 L O p1 p2
   go_wp2_with fail
   refine ap (fun W=>nJ w W lo2 (sm k)) (uH hS) ?_
   clear hS
   rintro W0 hS
   have D0:=(Below.refl W0.heap.size W0).drew
   have G:=ac (hS.all D0)
   obtain⟨nn,aa,ll,cc,X,K,ix⟩:=(uH G).2.1
   have Q:=K.c0;have U:=K.c1;have Y:=K.c2;have Z:=K.free 0;have f1:=K.free 1;have f2:=K.free 2
   have D:=ac K;have IX:=ac ix
   have HK:=ac (show∀A (h:Below w.heap.size w A),A.cell? ⟨b1,o1+k,none⟩=some (.int .u64 (x:Nat))∧A.cell? ⟨b2,o2+k,none⟩=some (.int .u64 (y:Nat))from fun A h=>
    ⟨(h.cell (p:=⟨b1,o1+k,none⟩) (uH P1)).trans (uH KX),(h.cell (p:=⟨b2,o2+k,none⟩) (uH P2)).trans (uH KY)⟩)
   clear hS D0 K ix KX KY P1 P2
   obtain⟨L,O⟩:=uH HK _ (uH G).2.2
   go_region_with (first
     |(go_at_call_of 60 x;refine(uH W1 _).mono ?_;rintro e w4 ⟨q,rfl,hq,z⟩;replace G:=ac ((uH G).all z);(first|(replace QY:=ac ((uH QY).below z))|skip);have QX:=ac hq;clear Q U Y Z f1 f2 L O;replace D:=ac ((uH D).all z);replace IX:=ac ((uH IX).below z);obtain⟨L,O⟩:=uH HK _ (uH G).2.2;have Q:=(uH D).c0;have U:=(uH D).c1;have Y:=(uH D).c2;have Z:=(uH D).free 0;have f1:=(uH D).free 1;have f2:=(uH D).free 2;clear hq z)
     |(go_at_call_of 60 y;refine(uH W2 _).mono ?_;rintro e w4 ⟨q,rfl,hq,z⟩;replace G:=ac ((uH G).all z);(first|(replace QX:=ac ((uH QX).below z))|skip);have QY:=ac hq;clear Q U Y Z f1 f2 L O;replace D:=ac ((uH D).all z);replace IX:=ac ((uH IX).below z);obtain⟨L,O⟩:=uH HK _ (uH G).2.2;have Q:=(uH D).c0;have U:=(uH D).c1;have Y:=(uH D).c2;have Z:=(uH D).free 0;have f1:=(uH D).free 1;have f2:=(uH D).free 2;clear hq z)
     |(go_at_call 18;refine(uH W3 _ _ _ (uH QX) (uH QY)).mono ?_;rintro e w4 ⟨q,rfl,hq,z⟩;replace G:=ac ((uH G).all z);have QP:=ac hq;clear Q U Y Z f1 f2 L O;replace D:=ac ((uH D).all z);replace IX:=ac ((uH IX).below z);obtain⟨L,O⟩:=uH HK _ (uH G).2.2;have Q:=(uH D).c0;have U:=(uH D).c1;have Y:=(uH D).c2;have Z:=(uH D).free 0;have f1:=(uH D).free 1;have f2:=(uH D).free 2;clear hq z)
     |(go_at_call 19;refine(uH W4 _ _ _ (uH IX) (uH QP)).mono ?_;rintro e w4 ⟨q,rfl,⟨n5,a5,c5,L5,rfl,i5⟩,z⟩;replace G:=ac ((uH G).all z);have QS:=ac (show aY w4 (.agg #[.bool n5,.slice a5 L5.length c5,.int .i64 (oE (sm (k+1)) lo2)]) lo2 (sm (k+1))from⟨n5,a5,c5,L5,rfl,i5⟩);clear Q U Y Z f1 f2 L O;replace D:=ac ((uH D).all z);obtain⟨L,O⟩:=uH HK _ (uH G).2.2;have Q:=(uH D).c0;have U:=(uH D).c1;have Y:=(uH D).c2;have Z:=(uH D).free 0;have f1:=(uH D).free 1;have f2:=(uH D).free 2;have SF:=ac ((uH G).put (uH QS));clear i5 z)
     |fail "NO ARM")
   all_goals
    go_wp2_with fail
    go_round
    case rel=>exact⟨k+1,by omega,by go_num,SF⟩
    case measure=>simp[intOf];omega
  ·have ae:k=n:=by omega
   subst ae
   obtain⟨h1,⟨nn,aa,ll,cc,X,K,ix⟩,h3⟩:=uH hS
   have Q:=K.c0;have U:=K.c1;have Y:=K.c2
   have r0:=h1.c0;have r1:=h1.c1;have r2:=h1.c2;have Z:=h1.free 0;have f1:=h1.free 1;have f2:=h1.free 2
   have xe:=h1.put (.bool nn) (.slice aa ll cc) (.int .i64 X)
   have e0:=xe.c0;have e1:=xe.c1;have e2:=xe.c2
   have HS:=ac (aC.put3 ix h1 (.bool nn) (.slice aa ll cc) (.int .i64 X))
   have BE:=ac (aD h3 (Nat.le_refl _) (.bool nn) (.slice aa ll cc) (.int .i64 X))
   clear xe h1 K ix h3 hS
   go_wp2_with fail
   exact bodyPost_ret (v:=.agg #[.bool nn,.slice aa ll cc,.int .i64 X]) (by simp[results,Tryz.results31,go_sem,e0,e1,e2]) rfl ⟨_,rfl,uH HS,uH BE⟩
theorem al.oth3{w:World}{b:Nat}{x y z:Value}(h:al w b x y z){g:Nat}(A:b≠g)(u D d:Value):al (((w.setCell ⟨g,0,none⟩ u).setCell ⟨g,1,none⟩ D).setCell ⟨g,2,none⟩ d) b x y z:=
 ((h.other (p:=⟨g,0,none⟩) A u).other (p:=⟨g,1,none⟩) A D).other (p:=⟨g,2,none⟩) A d
theorem iM.oth3{w:World}{b g:Nat}{lo s:Int}(h:iM w b lo s){x:Bool}{a:Option Addr}{l c:Nat}{y:Int}(A:al w g (.bool x) (.slice a l c) (.int .i64 y))(d:b≠g)(u D z:Value):iM (((w.setCell ⟨g,0,none⟩ u).setCell ⟨g,1,none⟩ D).setCell ⟨g,2,none⟩ z) b lo s:=by
 obtain⟨n,a,l,c,X,F,G⟩:=h
 exact⟨n,a,l,c,X,F.oth3 d _ _ _,aC.put3 G A _ _ _⟩
theorem iM.put{w:World}{g:Nat}{lo s t:Int}{d:Int}(h:iM w g lo s){n:Bool}{a:Option Addr}{l c:Nat}{X:Int}(z:aY w (.agg #[.bool n,.slice a l c,.int .i64 X]) d t):iM (((w.setCell ⟨g,0,none⟩ (.bool n)).setCell ⟨g,1,none⟩ (.slice a l c)).setCell ⟨g,2,none⟩ (.int .i64 X)) g d t:=by
 obtain⟨A,D,F,G,H,u,_⟩:=h
 exact⟨n,a,l,c,X,u.put _ _ _,aC.put3 z u _ _ _⟩
theorem MC(w:World):Calls Tryz.prog 28 #[.int .i64 1] w fun e d=>∃v,e=.returned v∧au w.heap.size d v 1∧Below w.heap.size w d:=
 (fY 1 w (by decide) (by decide)).mono fun e d ⟨r,h,u,z⟩=>⟨r,h,u.num (by omega),z⟩
def jm(w wr:World)(r c p q s d:Int)(ao bo co:Option Addr)(na nb nc ca cb cc:Nat)(lo z:Int):Prop:=
 qr w wr r c p q s d ao bo co na nb nc ca cb cc∧iM wr (w.heap.size+1+1+1+1) lo z
theorem jm.all{w wr u:World}{r c p q s d:Int}{A D F:Option Addr}{G H I J K L:Nat}{lo z:Int}(h:jm w wr r c p q s d A D F G H I J K L lo z)(O:Below wr.heap.size wr u):jm w u r c p q s d A D F G H I J K L lo z:=⟨h.1.all O,h.2.all O⟩
theorem jm.start(w:World)(r c p q s d:Int)(u z A:Option Addr)(D F G H I J:Nat)(lo:Int):jm w (((((w.alloc (.cells #[.int .i64 r,.int .i64 c,.slice u D H] 24)).alloc (.cells #[.int .i64 p,.int .i64 q,.slice z F I] 24)).alloc (.cells #[.int .i64 s,.int .i64 d,.slice A G J] 24)).alloc (.cells #[.bool false,.slice none 0 0,.int .i64 0] 35)).alloc (.cells #[.bool false,.slice none 0 0,.int .i64 0] 35)) r c p q s d u z A D F G H I J lo 0:=by
 have h:=qr.start w r c p q s d u z A D F G H I J
 have e:((((w.alloc (.cells #[.int .i64 r,.int .i64 c,.slice u D H] 24)).alloc (.cells #[.int .i64 p,.int .i64 q,.slice z F I] 24)).alloc (.cells #[.int .i64 s,.int .i64 d,.slice A G J] 24)).alloc (.cells #[.bool false,.slice none 0 0,.int .i64 0] 35)).heap.size=w.heap.size+1+1+1+1:=by simp
 generalize (((w.alloc (.cells #[.int .i64 r,.int .i64 c,.slice u D H] 24)).alloc (.cells #[.int .i64 p,.int .i64 q,.slice z F I] 24)).alloc (.cells #[.int .i64 s,.int .i64 d,.slice A G J] 24)).alloc (.cells #[.bool false,.slice none 0 0,.int .i64 0] 35)=K at*
 have L:=ad K (.cells #[.bool false,.slice none 0 0,.int .i64 0] 35)
 have k2:=iM.new K lo
 rw[e]at k2
 exact⟨h.all L,k2⟩
theorem qr.oth{w wr:World}{r c p q s d:Int}{A D F:Option Addr}{G H I J K L:Nat}(h:qr w wr r c p q s d A D F G H I J K L){g:Nat}(Q:w.heap.size+1+1+1<g)(u O z:Value):qr w (((wr.setCell ⟨g,0,none⟩ u).setCell ⟨g,1,none⟩ O).setCell ⟨g,2,none⟩ z) r c p q s d A D F G H I J K L:=
 ⟨h.1.oth3 (by omega) _ _ _,h.2.1.oth3 (by omega) _ _ _,h.2.2.1.oth3 (by omega) _ _ _,h.2.2.2.1.oth3 (by omega) _ _ _,aD h.2.2.2.2 (by omega) _ _ _⟩
theorem jm.put{w wr:World}{r c p q s d:Int}{u A D:Option Addr}{F G H I J K:Nat}{lo z t:Int}(h:jm w wr r c p q s d u A D F G H I J K lo z){L:Bool}{a:Option Addr}{l O:Nat}{X:Int}(Q:aY wr (.agg #[.bool L,.slice a l O,.int .i64 X]) lo t):
  jm w (((wr.setCell ⟨(w.heap.size+1+1+1+1),0,none⟩ (.bool L)).setCell ⟨(w.heap.size+1+1+1+1),1,none⟩ (.slice a l O)).setCell ⟨(w.heap.size+1+1+1+1),2,none⟩ (.int .i64 X)) r c p q s d u A D F G H I J K lo t:=⟨h.1.oth (by omega) _ _ _,h.2.put Q⟩
theorem jm.away{w wr:World}{r c p q s d:Int}{F G H:Option Addr}{I J K L O Q:Nat}{lo z:Int}(h:jm w wr r c p q s d F G H I J K L O Q lo z){g:Nat}{A y:Int}(U:iM wr g A y)(Z:(w.heap.size+1+1+1+1)<g)(u X D:Value):
  jm w (((wr.setCell ⟨g,0,none⟩ u).setCell ⟨g,1,none⟩ X).setCell ⟨g,2,none⟩ D) r c p q s d F G H I J K L O Q lo z:=by
 obtain⟨n',a',l',c',X',Y,_⟩:=U
 exact⟨h.1.oth (by omega) _ _ _,h.2.oth3 Y (by omega) _ _ _⟩
theorem Ic(r n c na nb nc ca cb cc:Nat)(ao bo co:Option Addr)(x:Nat→Nat→Nat)(rw cl:Nat→List Int)(lo1 lo2:Int)(xa dd D:Nat→Nat→Int)(sm:Nat→Nat→Int)(w:World)(hr:r≤6)(hc:c≤6)(s0:sm 0 0=0)(s1:∀i,sm (i+1) 0=sm i c)
  (C1:∀F i k,Below w.heap.size w F→i<r→k<c→Calls Tryz.prog 61 #[.agg #[.int .i64 r,.int .i64 c,.slice ao na ca],.int .i64 (i:Nat),.int .i64 (k:Nat)] F fun e H=>e=.returned (.int .u64 (x i k:Nat))∧Below F.heap.size F H)
  (C2:∀F i k,i<r→k<c→Calls Tryz.prog 60 #[.int .u64 (x i k:Nat)] F fun e H=>∃u,e=.returned u∧aY H u lo1 (xa i k)∧Below F.heap.size F H)
  (C3:∀F i,Below w.heap.size w F→i<r→Calls Tryz.prog 59 #[.agg #[.int .i64 r,.int .i64 n,.slice bo nb cb],.int .i64 (i:Nat)] F fun e H=>∃go d,e=.returned (.slice go n d)∧ak H go d (rw i)∧Below F.heap.size F H)
  (C4:∀F k,Below w.heap.size w F→k<c→Calls Tryz.prog 30 #[.agg #[.int .i64 n,.int .i64 c,.slice co nc cc],.int .i64 (k:Nat),.int .i64 0] F fun e H=>∃go d,e=.returned (.slice go n d)∧ak H go d (cl k)∧Below F.heap.size F H)
  (C5:∀F i k xo xd yo yd,i<r→k<c→ak F xo xd (rw i)→ak F yo yd (cl k)→Calls Tryz.prog 31 #[.slice xo n xd,.slice yo n yd] F fun e H=>∃v,e=.returned v∧aY H v lo1 (dd i k)∧Below F.heap.size F H)
  (C6:∀F i k v u,i<r→k<c→aY F v lo1 (xa i k)→aY F u lo1 (dd i k)→Calls Tryz.prog 58 #[v,u] F fun e H=>∃q,e=.returned q∧aY H q lo1 (D i k)∧Below F.heap.size F H)
  (C7:∀F i k v,i<r→k<c→aY F v lo1 (D i k)→Calls Tryz.prog 18 #[v,v] F fun e H=>∃q,e=.returned q∧aY H q lo2 (D i k*D i k)∧Below F.heap.size F H)
  (C8:∀F i k v u,i<r→k<c→aY F v lo2 (sm i k)→aY F u lo2 (D i k*D i k)→Calls Tryz.prog 19 #[v,u] F fun e H=>∃q,e=.returned q∧aY H q lo2 (sm i (k+1))∧Below F.heap.size F H):
  Calls Tryz.prog 25 #[.agg #[.int .i64 r,.int .i64 c,.slice ao na ca],.agg #[.int .i64 r,.int .i64 n,.slice bo nb cb],.agg #[.int .i64 n,.int .i64 c,.slice co nc cc]] w fun e F=>∃v,e=.returned v∧aY F v lo2 (sm r 0)∧Below w.heap.size w F:=by
 have K1:=ac C1;have K2:=ac C2;have K3:=ac C3;have K4:=ac C4;have K5:=ac C5;have K6:=ac C6;have K7:=ac C7;have K8:=ac C8;have S1:=ac s1
 have ST:=ac (show jm w _ r c r n n c ao bo co na nb nc ca cb cc lo2 (sm 0 0)from by rw[s0];exact jm.start w r c r n n c ao bo co na nb nc ca cb cc lo2)
 clear C1 C2 C3 C4 C5 C6 C7 C8 s0 s1
 go_enter Tryz.func25,Tryz.ntmps25
 go_wp2_with fail
 go_loopw[8] (fun i wr=>∃j:Nat,j≤r∧i=.int .i64 j∧Hid (jm w wr r c r n n c ao bo co na nb nc ca cb cc lo2 (sm j 0))) (fun i _=>r-(intOf i).toNat)
 case atStart=>exact⟨0,Nat.zero_le _,rfl,ST⟩
 case round=>
  clear ST
  obtain⟨j,hj,rfl,J⟩:=hrel
  have m1:=(uH J).1.1.c0
  by_cases Z:j<r
  ·have bg:(j:Int)<(r:Int):=by omega
   go_wp2_with fail
   clear m1
   go_loopw[9] (fun i wr=>∃k:Nat,k≤c∧i=.int .i64 k∧Hid (jm w wr r c r n n c ao bo co na nb nc ca cb cc lo2 (sm j k))) (fun i _=>c-(intOf i).toNat)
   case atStart=>exact⟨0,Nat.zero_le _,rfl,J⟩
   case round=>
    clear J
    obtain⟨k,hk,rfl,J⟩:=hrel
    have m1:=(uH J).1.1.c1
    by_cases ae:k<c
    ·have bi:(k:Int)<(c:Int):=by omega
     go_wp2_with fail
     clear m1
     refine ap (fun W=>jm w W r c r n n c ao bo co na nb nc ca cb cc lo2 (sm j k)) (uH J) ?_
     clear J
     rintro G J
     go_cut[10]from 18 to 41 (fun p wx=>∃g:Nat,p=.pointer (some ⟨g,0,none⟩)∧Hid (jm w wx r c r n n c ao bo co na nb nc ca cb cc lo2 (sm j k)∧iM wx g lo1 (D j k)∧(w.heap.size+1+1+1+1)<g))
     case first=>
      have HK:=ac (show∀F (h:Below G.heap.size G F),Below G.heap.size G F∧F.cell? ⟨w.heap.size,0,none⟩=some (.int .i64 r)∧F.cell? ⟨w.heap.size,1,none⟩=some (.int .i64 c)∧F.cell? ⟨w.heap.size,2,none⟩=some (.slice ao na ca)∧F.cell? ⟨w.heap.size+1,0,none⟩=some (.int .i64 r)∧F.cell? ⟨w.heap.size+1,1,none⟩=some (.int .i64 n)∧F.cell? ⟨w.heap.size+1,2,none⟩=some (.slice bo nb cb)∧F.cell? ⟨w.heap.size+1+1,0,none⟩=some (.int .i64 n)∧F.cell? ⟨w.heap.size+1+1,1,none⟩=some (.int .i64 c)∧F.cell? ⟨w.heap.size+1+1,2,none⟩=some (.slice co nc cc)from fun F h=>⟨h,(J.1.all h).1.c0,(J.1.all h).1.c1,(J.1.all h).1.c2,(J.1.all h).2.1.c0,(J.1.all h).2.1.c1,(J.1.all h).2.1.c2,(J.1.all h).2.2.1.c0,(J.1.all h).2.2.1.c1,(J.1.all h).2.2.1.c2⟩)
      have a7:=ac (fun wn o (U:Below G.heap.size G wn)=>uH HK (wn.alloc o) (U.alloc U.size o))
      have ba:=ac (fun wn g u u' a6 (U:Below G.heap.size G wn) (h4:G.heap.size≤g)=>uH HK (((wn.setCell ⟨g,0,none⟩ u).setCell ⟨g,1,none⟩ u').setCell ⟨g,2,none⟩ a6) (aD U h4 u u' a6))
      have am:=ac (fun wm o (U:Below (G.drew.alloc o).heap.size (G.drew.alloc o) wm)=>(show wm.heap[G.heap.size]? =some o from(U.block G.heap.size (by simp)).trans (heap_alloc_new G.drew o)))
      have an:=ac (fun wm o (U:Below (G.alloc o).drew.heap.size (G.alloc o).drew wm)=>(show wm.heap[G.heap.size]? =some o from(U.block G.heap.size (by simp)).trans (heap_alloc_new G o)))
      have ar:=ac (fun(wn wm:World) o (U:Below (wn.alloc o).heap.size (wn.alloc o) wm)=>(show wm.heap[wn.heap.size]? =some o from(U.block wn.heap.size (by simp)).trans (heap_alloc_new wn o)))
      have BW:=ac (fun F (h:Below G.heap.size G F)=>J.1.2.2.2.2.trans (h.mono J.1.2.2.2.2.size))
      have SA:=ac (fun F (h:Below G.heap.size G F)=>J.all h)
      have HG:=ac J.2.lt
      have W1:=ac (fun F h=>uH K1 F j k h Z ae)
      have W2:=ac (fun F=>uH K2 F j k Z ae)
      have W3:=ac (fun F h=>uH K3 F j h Z)
      have W4:=ac (fun F h=>uH K4 F k h ae)
      have W5:=ac (fun F xo xd yo yd=>uH K5 F j k xo xd yo yd Z ae)
      have W6:=ac (fun F v u=>uH K6 F j k v u Z ae)
      generalize x j k=xx at*
      clear J K1 K2 K3 K4 K5 K6 K7 K8 S1
      go_region_held3(fun F=>Below G.heap.size G F∧F.cell? ⟨w.heap.size,0,none⟩=some (.int .i64 r)∧F.cell? ⟨w.heap.size,1,none⟩=some (.int .i64 c)∧F.cell? ⟨w.heap.size,2,none⟩=some (.slice ao na ca)∧F.cell? ⟨w.heap.size+1,0,none⟩=some (.int .i64 r)∧F.cell? ⟨w.heap.size+1,1,none⟩=some (.int .i64 n)∧F.cell? ⟨w.heap.size+1,2,none⟩=some (.slice bo nb cb)∧F.cell? ⟨w.heap.size+1+1,0,none⟩=some (.int .i64 n)∧F.cell? ⟨w.heap.size+1+1,1,none⟩=some (.int .i64 c)∧F.cell? ⟨w.heap.size+1+1,2,none⟩=some (.slice co nc cc))
       (first|assumption|exact uH HK _ (Below.refl _ _).drew|exact uH HK _ (by assumption)|exact uH a7 _ _ (by assumption)|exact uH a7 _ _ (And.left (by assumption))|exact uH ba _ _ _ _ _ ah (by first|exact Nat.le_refl _|exact Below.size (by assumption))|fail "KK")
       (first
        |(go_at_call 61;refine(uH W1 _ (uH BW _ (And.left (by assumption)))).mono ?_;rintro e w6 ⟨rfl,z⟩;have aI:Below G.heap.size G w6:=Below.trans (And.left (by assumption)) (z.mono (Below.size (And.left (by assumption))));(first|(replace I:=al.all I z)|((with_reducible (have A:=uH am _ _ z));have I:al w6 G.heap.size (.bool false) (.slice none 0 0) (.int .i64 0):=A;clear A)|((with_reducible (have A:=uH an _ _ z));have I:al w6 G.heap.size (.bool false) (.slice none 0 0) (.int .i64 0):=A;clear A)|((with_reducible (have A:=uH ar _ _ _ z));have I:al w6 _ (.bool false) (.slice none 0 0) (.int .i64 0):=A;clear A)|skip);(first|(with_reducible (replace K:=ac ((uH K).below z)))|(with_reducible (replace K:=ac (((uH K).below (ad _ _)).below z)))|skip);(first|(with_reducible (replace L:=ac ((uH L).below z)))|(with_reducible (replace L:=ac (((uH L).below (ad _ _)).below z)))|skip);(first|(with_reducible (replace O:=ac ((uH O).below z)))|(with_reducible (replace O:=ac (((uH O).below (ad _ _)).below z)))|skip);(first|(with_reducible (replace Q:=ac ((uH Q).below z)))|(with_reducible (replace Q:=ac (((uH Q).below (ad _ _)).below z)))|skip);clear z)
        |(go_at_call 60;refine(uH W2 _).mono ?_;rintro e w7 ⟨v7,rfl,qn,z⟩;have a0:Below G.heap.size G w7:=Below.trans (And.left (by assumption)) (z.mono (Below.size (And.left (by assumption))));(first|(replace I:=al.all I z)|((with_reducible (have A:=uH am _ _ z));have I:al w7 G.heap.size (.bool false) (.slice none 0 0) (.int .i64 0):=A;clear A)|((with_reducible (have A:=uH an _ _ z));have I:al w7 G.heap.size (.bool false) (.slice none 0 0) (.int .i64 0):=A;clear A)|((with_reducible (have A:=uH ar _ _ _ z));have I:al w7 _ (.bool false) (.slice none 0 0) (.int .i64 0):=A;clear A)|skip);(first|(with_reducible (replace L:=ac ((uH L).below z)))|(with_reducible (replace L:=ac (((uH L).below (ad _ _)).below z)))|skip);(first|(with_reducible (replace O:=ac ((uH O).below z)))|(with_reducible (replace O:=ac (((uH O).below (ad _ _)).below z)))|skip);(first|(with_reducible (replace Q:=ac ((uH Q).below z)))|(with_reducible (replace Q:=ac (((uH Q).below (ad _ _)).below z)))|skip);have K:=ac qn;clear qn;clear z)
        |(go_at_call 59;refine(uH W3 _ (uH BW _ (And.left (by assumption)))).mono ?_;rintro e w8 ⟨po,pd,rfl,qn,z⟩;have a3:Below G.heap.size G w8:=Below.trans (And.left (by assumption)) (z.mono (Below.size (And.left (by assumption))));(first|(replace I:=al.all I z)|((with_reducible (have A:=uH am _ _ z));have I:al w8 G.heap.size (.bool false) (.slice none 0 0) (.int .i64 0):=A;clear A)|((with_reducible (have A:=uH an _ _ z));have I:al w8 G.heap.size (.bool false) (.slice none 0 0) (.int .i64 0):=A;clear A)|((with_reducible (have A:=uH ar _ _ _ z));have I:al w8 _ (.bool false) (.slice none 0 0) (.int .i64 0):=A;clear A)|skip);(first|(with_reducible (replace K:=ac ((uH K).below z)))|(with_reducible (replace K:=ac (((uH K).below (ad _ _)).below z)))|skip);(first|(with_reducible (replace O:=ac ((uH O).below z)))|(with_reducible (replace O:=ac (((uH O).below (ad _ _)).below z)))|skip);(first|(with_reducible (replace Q:=ac ((uH Q).below z)))|(with_reducible (replace Q:=ac (((uH Q).below (ad _ _)).below z)))|skip);have L:=ac qn;clear qn;clear z)
        |(go_at_call 30;refine(uH W4 _ (uH BW _ (And.left (by assumption)))).mono ?_;rintro e w9 ⟨qo,qd,rfl,qn,z⟩;have a4:Below G.heap.size G w9:=Below.trans (And.left (by assumption)) (z.mono (Below.size (And.left (by assumption))));(first|(replace I:=al.all I z)|((with_reducible (have A:=uH am _ _ z));have I:al w9 G.heap.size (.bool false) (.slice none 0 0) (.int .i64 0):=A;clear A)|((with_reducible (have A:=uH an _ _ z));have I:al w9 G.heap.size (.bool false) (.slice none 0 0) (.int .i64 0):=A;clear A)|((with_reducible (have A:=uH ar _ _ _ z));have I:al w9 _ (.bool false) (.slice none 0 0) (.int .i64 0):=A;clear A)|skip);(first|(with_reducible (replace K:=ac ((uH K).below z)))|(with_reducible (replace K:=ac (((uH K).below (ad _ _)).below z)))|skip);(first|(with_reducible (replace L:=ac ((uH L).below z)))|(with_reducible (replace L:=ac (((uH L).below (ad _ _)).below z)))|skip);(first|(with_reducible (replace Q:=ac ((uH Q).below z)))|(with_reducible (replace Q:=ac (((uH Q).below (ad _ _)).below z)))|skip);have O:=ac qn;clear qn;clear z)
        |(go_at_call 31;refine(uH W5 _ _ _ _ _ (by first|with_reducible exact uH L|exact(uH L).below (ad _ _)) (by first|with_reducible exact uH O|exact(uH O).below (ad _ _))).mono ?_;rintro e az ⟨bn,rfl,qn,z⟩;have ax:Below G.heap.size G az:=Below.trans (And.left (by assumption)) (z.mono (Below.size (And.left (by assumption))));(first|(replace I:=al.all I z)|((with_reducible (have A:=uH am _ _ z));have I:al az G.heap.size (.bool false) (.slice none 0 0) (.int .i64 0):=A;clear A)|((with_reducible (have A:=uH an _ _ z));have I:al az G.heap.size (.bool false) (.slice none 0 0) (.int .i64 0):=A;clear A)|((with_reducible (have A:=uH ar _ _ _ z));have I:al az _ (.bool false) (.slice none 0 0) (.int .i64 0):=A;clear A)|skip);(first|(with_reducible (replace K:=ac ((uH K).below z)))|(with_reducible (replace K:=ac (((uH K).below (ad _ _)).below z)))|skip);(first|(with_reducible (replace L:=ac ((uH L).below z)))|(with_reducible (replace L:=ac (((uH L).below (ad _ _)).below z)))|skip);(first|(with_reducible (replace O:=ac ((uH O).below z)))|(with_reducible (replace O:=ac (((uH O).below (ad _ _)).below z)))|skip);have Q:=ac qn;clear qn;clear z)
        |(go_at_call 58;refine(uH W6 _ _ _ (by first|with_reducible exact uH K|exact(uH K).below (ad _ _)) (by first|with_reducible exact uH Q|exact(uH Q).below (ad _ _))).mono ?_;rintro e wm ⟨q,rfl,⟨n5,a5,c5,L5,rfl,i5⟩,z⟩;have ah:Below G.heap.size G wm:=Below.trans (And.left (by assumption)) (z.mono (Below.size (And.left (by assumption))));(first|(replace I:=al.all I z)|((with_reducible (have A:=uH am _ _ z));have I:al wm G.heap.size (.bool false) (.slice none 0 0) (.int .i64 0):=A;clear A)|((with_reducible (have A:=uH an _ _ z));have I:al wm G.heap.size (.bool false) (.slice none 0 0) (.int .i64 0):=A;clear A)|((with_reducible (have A:=uH ar _ _ _ z));have I:al wm _ (.bool false) (.slice none 0 0) (.int .i64 0):=A;clear A)|skip);(first|(with_reducible (replace K:=ac ((uH K).below z)))|(with_reducible (replace K:=ac (((uH K).below (ad _ _)).below z)))|skip);(first|(with_reducible (replace L:=ac ((uH L).below z)))|(with_reducible (replace L:=ac (((uH L).below (ad _ _)).below z)))|skip);(first|(with_reducible (replace O:=ac ((uH O).below z)))|(with_reducible (replace O:=ac (((uH O).below (ad _ _)).below z)))|skip);(first|(with_reducible (replace Q:=ac ((uH Q).below z)))|(with_reducible (replace Q:=ac (((uH Q).below (ad _ _)).below z)))|skip);have IP:=ac (show aY wm (.agg #[.bool n5,.slice a5 L5.length c5,.int .i64 (oE (D j k) lo1)]) lo1 (D j k)from⟨n5,a5,c5,L5,rfl,i5⟩);(first|(have y0:=I.c0;have y1:=I.c1;have y2:=I.c2;have f0:=I.free 0;have f1:=I.free 1;have f2:=I.free 2)|skip);clear i5;clear z)
        |fail "NO ARM")
      all_goals
       first
        |(have xq:=I;clear y0 y1 y2 f0 f1 f2;go_wp2_with fail;go_meet;case rel=>exact⟨_,rfl,ac ⟨(uH SA _ ah).away ⟨_,_,_,_,_,xq,aY.zero _ 0⟩ (by first|exact uH HG|exact Nat.lt_of_lt_of_le (uH HG) (Below.size aI)|exact Nat.lt_of_lt_of_le (uH HG) (Below.size a0)|exact Nat.lt_of_lt_of_le (uH HG) (Below.size a3)|exact Nat.lt_of_lt_of_le (uH HG) (Below.size a4)|exact Nat.lt_of_lt_of_le (uH HG) (Below.size ax)) _ _ _,⟨_,_,_,_,_,xq.put _ _ _,aC.put3 (uH IP) xq _ _ _⟩,(by first|exact uH HG|exact Nat.lt_of_lt_of_le (uH HG) (Below.size aI)|exact Nat.lt_of_lt_of_le (uH HG) (Below.size a0)|exact Nat.lt_of_lt_of_le (uH HG) (Below.size a3)|exact Nat.lt_of_lt_of_le (uH HG) (Below.size a4)|exact Nat.lt_of_lt_of_le (uH HG) (Below.size ax))⟩⟩)
        |(go_wp2_with fail;go_meet;case rel=>exact⟨_,rfl,ac ⟨(uH SA _ ah).all (ad _ _),⟨_,_,_,_,_,al.new _ _ _ _,(uH IP).below (ad _ _)⟩,Nat.lt_of_lt_of_le (uH HG) (Below.size ah)⟩⟩)
        |fail "NO WAY"
     case rest=>
      obtain⟨g,rfl,hD⟩:=hcut
      obtain⟨J,a9,hg⟩:=uH hD
      have ST:=ac J;have KP:=ac a9;have HG:=ac hg
      clear J a9 hg hD
      have W7:=ac (fun F v=>uH K7 F j k v Z ae)
      have W8:=ac (fun F v u=>uH K8 F j k v u Z ae)
      go_wp2_with fail
      refine ap (fun W=>jm w W r c r n n c ao bo co na nb nc ca cb cc lo2 (sm j k)∧iM W g lo1 (D j k)) ⟨uH ST,uH KP⟩ ?_
      clear ST KP
      rintro G ⟨st,kp⟩
      have D0:=(Below.refl G.heap.size G).drew
      have ST:=ac (st.all D0)
      obtain⟨n1,a1,l1,c1,X1,bd,id⟩:=kp.all D0
      obtain⟨n2,a2,l2,c2,X2,bs,is⟩:=(uH ST).2
      have BD:=ac bd;have ID:=ac id;have Y:=ac bs;have IS:=ac is
      have d0:=bd.c0;have d1:=bd.c1;have d2:=bd.c2
      have y0:=bs.c0;have y1:=bs.c1;have y2:=bs.c2;have f0:=bs.free 0;have f1:=bs.free 1;have f2:=bs.free 2
      clear st kp bd id bs is D0
      go_region_with (first
       |(go_at_call 18;refine(uH W7 _ _ (uH ID)).mono ?_;rintro e w9 ⟨v,rfl,qn,z⟩;clear y0 y1 y2 f0 f1 f2 d0 d1 d2;replace Y:=ac ((uH Y).all z);replace BD:=ac ((uH BD).all z);replace ST:=ac ((uH ST).all z);have y0:=(uH Y).c0;have y1:=(uH Y).c1;have y2:=(uH Y).c2;have f0:=(uH Y).free 0;have f1:=(uH Y).free 1;have f2:=(uH Y).free 2;have d0:=(uH BD).c0;have d1:=(uH BD).c1;have d2:=(uH BD).c2;replace IS:=ac ((uH IS).below z);have QM:=ac qn;clear qn z)
       |(go_at_call 19;refine(uH W8 _ _ _ (uH IS) (uH QM)).mono ?_;rintro e w9 ⟨v,rfl,⟨n5,a5,c5,L5,rfl,i5⟩,z⟩;clear y0 y1 y2 f0 f1 f2 d0 d1 d2;replace Y:=ac ((uH Y).all z);replace BD:=ac ((uH BD).all z);replace ST:=ac ((uH ST).all z);have y0:=(uH Y).c0;have y1:=(uH Y).c1;have y2:=(uH Y).c2;have f0:=(uH Y).free 0;have f1:=(uH Y).free 1;have f2:=(uH Y).free 2;have d0:=(uH BD).c0;have d1:=(uH BD).c1;have d2:=(uH BD).c2;have IP:=ac (show aY w9 (.agg #[.bool n5,.slice a5 L5.length c5,.int .i64 (oE (sm j (k+1)) lo2)]) lo2 (sm j (k+1))from⟨n5,a5,c5,L5,rfl,i5⟩);clear i5 z)
       |fail "NO ARM")
      all_goals
       clear d0 d1 d2 y0 y1 y2 f0 f1 f2
       go_wp2_with fail
       go_roundw
       case rel=>
        first
         |exact⟨k+1,by omega,by go_num,ac ((uH ST).put (uH IP))⟩
         |((repeat apply Exists.intro);exact⟨⟨k+1,by omega,by go_num,ac ((uH ST).put (uH IP))⟩,rfl⟩)
       case measure=>simp[intOf];omega
    ·have bb:k=c:=by omega
     subst bb
     go_wp2_with fail
     go_round
     case rel=>exact⟨j+1,by omega,by go_num,by rw[uH S1];exact J⟩
     case measure=>simp[intOf];omega
  ·have be:j=r:=by omega
   subst be
   obtain⟨⟨_,_,_,U,h3⟩,⟨nn,aa,ll,cx,X,bx,ix⟩⟩:=uH J
   have y0:=bx.c0;have y1:=bx.c1;have y2:=bx.c2
   have r0:=U.c0;have r1:=U.c1;have r2:=U.c2;have f0:=U.free 0;have f1:=U.free 1;have f2:=U.free 2
   have xe:=U.put (.bool nn) (.slice aa ll cx) (.int .i64 X)
   have e0:=xe.c0;have e1:=xe.c1;have e2:=xe.c2
   have HS:=ac (aC.put3 ix U (.bool nn) (.slice aa ll cx) (.int .i64 X))
   have BE:=ac (aD h3 (show w.heap.size≤w.heap.size+1+1+1 by omega) (.bool nn) (.slice aa ll cx) (.int .i64 X))
   clear xe U bx ix h3 J
   go_wp2_with fail
   exact bodyPost_ret (v:=.agg #[.bool nn,.slice aa ll cx,.int .i64 X]) (by simp[results,Tryz.results25,go_sem,e0,e1,e2]) rfl ⟨_,rfl,uH HS,uH BE⟩
end Go.Proofs.YtcbcmlaogehimaaGreatDoor
