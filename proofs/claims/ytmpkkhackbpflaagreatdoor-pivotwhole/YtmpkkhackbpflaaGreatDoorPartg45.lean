/- Part 45 of the texts. -/
import Derived.Test.YtmpkkhackbpflaaGreatDoorPartg44
set_option maxHeartbeats 16000000
set_option maxRecDepth 20000
namespace Go.Proofs.YtmpkkhackbpflaaGreatDoor
open Go.RowKit
attribute [local go_sem ↓] Go.wp_at_zero Go.wp_at_succ
theorem kz{v k:Nat}(h:v<2^k)(d:k≤32*rY):v<mM:=by
 have e:mM=2^(32*rY):=by unfold mM;rw[show(4294967296:Nat)=2^32 by decide,←Nat.pow_mul]
 rw[e]
 exact Nat.lt_of_lt_of_le h (Nat.pow_le_pow_right (by decide) d)
theorem L6(c:Nat)(h:c≤5):2*KK c≤32*rY:=by
 have:=Nn ⟨c,by omega⟩
 have d:KK c≤67167:=this
 unfold rY
 omega
theorem Aa(c:Nat):KK c≤KK (c+1):=by show KK c≤2*KK c+1;omega
theorem tJ{x y:Int}{K:Nat}(d:x.natAbs<2^K)(h:y.natAbs<2^K):(x*y).natAbs<2^(2*K):=by
 rw[Int.natAbs_mul,show 2*K=K+K by omega,Nat.pow_add]
 rcases Nat.eq_zero_or_pos x.natAbs with e|e
 ·rw[e,Nat.zero_mul];exact Nat.mul_pos (Nat.two_pow_pos _) (Nat.two_pow_pos _)
 ·exact Nat.lt_of_lt_of_le (Nat.mul_lt_mul_of_pos_left h e) (Nat.mul_le_mul_right _ (Nat.le_of_lt d))
theorem Fb{x y z u:Int}{c:Nat}(d:x.natAbs<2^KK c)(h:y.natAbs<2^KK c)(l:z.natAbs<2^KK c)(t:u.natAbs<2^KK c):(x*y-z*u).natAbs<2^KK (c+1):=by
 have a:=tJ d h
 have b:=tJ l t
 show _<2^(2*KK c+1)
 rw[Nat.pow_succ]
 omega
theorem eZ.ofRight{w:World}{x:Nm}(h:af w x.ao x.cap x.L)(l:aE x.neg x.L=true):eZ w x (aj x.neg x.L):=by
 have d:=aN l
 refine⟨h,d.2.1,?_,(bh _ _).symm,by omega⟩
 cases hn:x.neg
 ·unfold aj;simp
 ·have t:val x.L≠0:=fun e=>d.2.2 hn ((aS x.L d.2.1).1 e)
  unfold aj
  simp;omega
theorem eZ.nil_iff{w:World}{x:Nm}{z:Int}(h:eZ w x z):x.L.length=0↔z=0:=by
 constructor
 ·intro e
  have d:x.L= []:=List.length_eq_zero_iff.1 e
  have:=h.2.2.2.1
  rw[d]at this
  simp[val]at this
  omega
 ·intro e
  have:=h.2.2.2.1
  rw[e]at this
  have l:x.L= []:=(aS x.L h.2.1).1 (by simpa using this)
  rw[l];rfl
theorem cW.swap{w W:World}{g M d t m n K dn p:Nat}{N:List Rw}{a:Nat→Nat→Int}(h:cW w W d t m n K N a)(O:cW w W g M m n K N a)(F:g≠d)(G:dn<m)(H:p<m):
  (W.setCell ⟨d,dn,none⟩ (.slice (aY N p).ao (aY N p).R.length (aY N p).cap)).cell? ⟨g,dn,none⟩=some (.slice (aY N dn).ao (aY N dn).R.length (aY N dn).cap)∧(∃u,(W.setCell ⟨d,dn,none⟩ (.slice (aY N p).ao (aY N p).R.length (aY N p).cap)).cell? ⟨d,p,none⟩=some u)∧(W.setCell ⟨d,dn,none⟩ (.slice (aY N p).ao (aY N p).R.length (aY N p).cap)).frozen? ⟨d,p,none⟩=false∧
  cW w ((W.setCell ⟨d,dn,none⟩ (.slice (aY N p).ao (aY N p).R.length (aY N p).cap)).setCell ⟨d,p,none⟩ (.slice (aY N dn).ao (aY N dn).R.length (aY N dn).cap)) d t m n K ((N.set dn (aY N p)).set p (aY N dn)) (yw a dn p):=by
 have D:=h.2.2.2.2.1 p H
 have l:=h.2.2.2.2.1 dn G
 have I:=h.store G (aY N p) (a p) D.1 D.2.1 D.2.2.1 D.2.2.2
 refine⟨?_,⟨_,I.cell H⟩,I.free p,?_⟩
 ·rw[an _ _ _ _ (show g≠d from F)]
  exact O.cell G
 ·refine(I.store H (aY N dn) (a dn) (l.1.apart l.2.1 _ _) l.2.1 l.2.2.1 (fun c z=>⟨⟨(l.2.2.2 c z).1.1.apart (l.2.1.2 _ (ic (by rw[l.2.2.1];exact z))) _ _,(l.2.2.2 c z).1.2⟩,(l.2.2.2 c z).2⟩)).congr (fun j _=>?_) (Nat.le_refl _)
  unfold yw
  by_cases J:j=p
  ·simp[J]
  ·by_cases L:j=dn
   ·subst L;simp[J]
   ·simp[J,L]
theorem cW.facts{w W:World}{g cp m n K i dn c:Nat}{N:List Rw}{a:Nat→Nat→Int}(h:cW w W g cp m n K N a)(hi:i<m)(hd:dn<m)(ay:dn≠i)(hc:c<n):
  ∃l z L t oi ci G H M I O Q T J U V,aY N dn=⟨some ⟨l,z,none⟩,L,G⟩∧aY N i=⟨some ⟨t,oi,none⟩,ci,H⟩∧G.length=n∧H.length=n∧bT G c=⟨M,I,O,Q⟩∧bT H c=⟨T,J,U,V⟩∧
  ∀d,Below W.heap.size W d→(d.cell? ⟨g,dn,none⟩=some (.slice (some ⟨l,z,none⟩) n L)∧d.cell? ⟨l,z+c*2,none⟩=some (.bool M)∧d.cell? ⟨l,z+c*2+1,none⟩=some (.slice I Q.length O)∧d.cell? ⟨t,oi+c*2,none⟩=some (.bool T)∧d.cell? ⟨t,oi+c*2+1,none⟩=some (.slice J V.length U))∧d.cell? ⟨g,i,none⟩=some (.slice (some ⟨t,oi,none⟩) n ci)∧d.frozen? ⟨g,i,none⟩=false∧
   ∀u,(d.setCell ⟨g,i,none⟩ u).cell? ⟨g,dn,none⟩=some (.slice (some ⟨l,z,none⟩) n L)∧(d.setCell ⟨g,i,none⟩ u).cell? ⟨l,z+c*2,none⟩=some (.bool M)∧(d.setCell ⟨g,i,none⟩ u).cell? ⟨l,z+c*2+1,none⟩=some (.slice I Q.length O)∧(d.setCell ⟨g,i,none⟩ u).cell? ⟨t,oi+c*2,none⟩=some (.bool T)∧(d.setCell ⟨g,i,none⟩ u).cell? ⟨t,oi+c*2+1,none⟩=some (.slice J V.length U):=by
 obtain⟨q1,q2,q3,q4⟩:=h.2.2.2.2.1 dn hd
 obtain⟨r1,r2,r3,r4⟩:=h.2.2.2.2.1 i hi
 have k1:=h.cell hd
 have k2:=h.cell hi
 have X:=h.lt
 have ap:=fun d (D:Below W.heap.size W d)=>(h.below D).free i
 generalize aY N dn=rd at*
 generalize aY N i=ri at*
 obtain⟨I,L,G⟩:=rd
 obtain⟨J,ci,H⟩:=ri
 simp only at q1 q3 q4 r1 r3 r4 k1 k2
 obtain⟨l,z,rfl,aa,aq⟩:=q1.ne (by omega)
 obtain⟨t,oi,rfl,ae,ax⟩:=r1.ne (by omega)
 have d1:=aq c (by omega)
 have d2:=ax c (by omega)
 have Y:l≠g:=by
  rcases q2.1 with e|⟨b',o',e,hx⟩
  ·exact absurd (congrArg List.length e) (by simp only[List.length_nil];omega)
  ·simp only[Option.some.injEq,Addr.mk.injEq,and_true]at e
   exact fun F=>hx (by rw[←e.1,F])
 have Z:t≠g:=by
  rcases r2.1 with e|⟨b',o',e,hx⟩
  ·exact absurd (congrArg List.length e) (by simp only[List.length_nil];omega)
  ·simp only[Option.some.injEq,Addr.mk.injEq,and_true]at e
   exact fun F=>hx (by rw[←e.1,F])
 obtain⟨xd,am⟩:∃x,bT G c=x:=⟨_,rfl⟩
 obtain⟨xi,ao⟩:∃x,bT H c=x:=⟨_,rfl⟩
 rw[am]at d1
 rw[ao]at d2
 obtain⟨M,I,O,Q⟩:=xd
 obtain⟨T,J,U,V⟩:=xi
 simp only at d1 d2
 rw[q3]at k1
 rw[r3]at k2
 refine⟨l,z,L,t,oi,ci,G,H,M,I,O,Q,T,J,U,V,rfl,rfl,q3,r3,am,ao,fun d D=>?_⟩
 have e1:=(D.cell (p:=⟨g,dn,none⟩) X).trans k1
 have F:=(D.cell (p:=⟨l,z+c*2,none⟩) aa).trans d1.1
 have e3:=(D.cell (p:=⟨l,z+c*2+1,none⟩) aa).trans d1.2
 have e4:=(D.cell (p:=⟨t,oi+c*2,none⟩) ae).trans d2.1
 have e5:=(D.cell (p:=⟨t,oi+c*2+1,none⟩) ae).trans d2.2
 refine⟨⟨e1,F,e3,e4,e5⟩,(D.cell (p:=⟨g,i,none⟩) X).trans k2,ap d D,fun u=>⟨?_,?_,?_,?_,?_⟩⟩
 ·rw[World.cell?_setCell_other _ _ _ _ (by intro e;simp only[Addr.mk.injEq]at e;omega)];exact e1
 ·rw[an _ _ _ _ (show l≠g from Y)];exact F
 ·rw[an _ _ _ _ (show l≠g from Y)];exact e3
 ·rw[an _ _ _ _ (show t≠g from Z)];exact e4
 ·rw[an _ _ _ _ (show t≠g from Z)];exact e5
theorem cW.made{w W t:World}{g M m n c dn i d:Nat}{N:List Rw}{s:Nat→Nat→Int}{l:Option Addr}{R:List Nm}(h:cW w W g M m n (KK (c+1)) N (fun j=>if j<i then mN s dn c j else s j))(U:Below W.heap.size W t)(G:i<m)(V:dn<i)(O:c<n)(D:∀j,j<m→∀q,q<n→(s j q).natAbs<2^KK c)(Q:s i c≠0)
  (X:bP t l d R) (Y:bB W.heap.size l (R.map (fun _=>0))) (T:R.length=n) (Z:∀q,q<n→eZ t (bT R q) (s i q*s dn c-s dn q*s i c)) (hw:∀z∈R,bB W.heap.size z.ao z.L):
  cW w (t.setCell ⟨g,i,none⟩ (.slice l n d)) g M m n (KK (c+1)) (N.set i ⟨l,d,R⟩) (fun j=>if j<i+1 then mN s dn c j else s j):=by
 have hg:=h.lt
 have I:ye (some g) ⟨l,d,R⟩:=by
  refine⟨?_,fun z Q=>Av.old (hw z Q) (fun m hm=>by cases hm;exact hg)⟩
  rcases Y with e|⟨b,J,e,aa⟩
  ·exact .inl (List.map_eq_nil_iff.1 e)
  ·exact .inr ⟨b,J,e,fun F=>by simp only[Option.some.injEq]at F;omega⟩
 have:=(h.below U).store G ⟨l,d,R⟩ (fun q=>s i q*s dn c-s dn q*s i c) X I T (fun q H=>⟨Z q H,Fb (D i G q H) (D dn (by omega) c O) (D dn (by omega) q H) (D i G c O)⟩)
 simp only[T]at this
 refine this.congr (fun j hj=>?_) (Nat.le_refl _)
 by_cases e:j=i
 ·subst e
  rw[if_pos rfl,if_pos (by omega)]
  funext q
  unfold mN
  rw[if_neg (by omega)]
 ·rw[if_neg e]
  by_cases F:j<i
  ·rw[if_pos F,if_pos (by omega)]
  ·rw[if_neg F,if_neg (by omega)]
theorem cW.zeroed{w W:World}{g d m n c dn i K:Nat}{N:List Rw}{s:Nat→Nat→Int}(h:cW w W g d m n K N (fun j=>if j<i then mN s dn c j else s j))(t:s i c=0):cW w W g d m n K N (fun j=>if j<i+1 then mN s dn c j else s j):=by
 refine h.congr (fun j z=>?_) (Nat.le_refl _)
 by_cases e:j=i
 ·subst e
  rw[if_neg (by omega),if_pos (by omega)]
  funext q
  unfold mN
  rw[if_pos (.inr t)]
 ·by_cases l:j<i
  ·rw[if_pos l,if_pos (by omega)]
  ·rw[if_neg l,if_neg (by omega)]
theorem cW.begin{w W:World}{g d m n c dn:Nat}{N:List Rw}{s:Nat→Nat→Int}(h:cW w W g d m n (KK c) N s):cW w W g d m n (KK (c+1)) N (fun j=>if j<dn+1 then mN s dn c j else s j):=by
 refine h.congr (fun j l=>?_) (Aa c)
 by_cases e:j<dn+1
 ·rw[if_pos e]
  funext q
  unfold mN
  rw[if_pos (.inl (by omega))]
 ·rw[if_neg e]
theorem cW.lessCall{w W:World}{g cp m n c dn i M O Q T oi U V X:Nat}{N:List Rw}{s:Nat→Nat→Int}{Y Z:List Nm}{nd ni:Bool}{ad ai:Option Addr}{Ld Li:List Nat}(h:cW w W g cp m n (KK (c+1)) N (fun j=>if j<i then mN s dn c j else s j))(F:i<m)(G:dn<i)(D:c<n)(aa:n≤6)(l:∀j,j<m→∀q,q<n→(s j q).natAbs<2^KK c)(hz:s i c≠0)
  (ae:aY N dn=⟨some ⟨M,O,none⟩,Q,Y⟩) (am:aY N i=⟨some ⟨T,oi,none⟩,U,Z⟩) (ap:bT Y c=⟨nd,ad,V,Ld⟩) (aq:bT Z c=⟨ni,ai,X,Li⟩) (W':World) (H:Below W.heap.size W W'):
  Calls Tryz.prog 119 #[.slice (some ⟨T,oi,none⟩) n U,.agg #[.bool nd,.slice ad Ld.length V],.slice (some ⟨M,O,none⟩) n Q,.agg #[.bool ni,.slice ai Li.length X]] W' fun e w'=>∃I d R,e=.returned (.slice I n d)∧Hid (cW w (w'.setCell ⟨g,i,none⟩ (.slice I n d)) g cp m n (KK (c+1)) (N.set i ⟨I,d,R⟩) (fun j=>if j<i+1 then mN s dn c j else s j))∧Below W.heap.size W w':=by
 have h':=h.below H
 obtain⟨q1,q2,q3,J⟩:=h'.2.2.2.2.1 dn (by omega)
 obtain⟨r1,r2,r3,L⟩:=h'.2.2.2.2.1 i F
 rw[ae]at q1 q3 J
 rw[am]at r1 r3 L
 simp only at q1 q3 J r1 r3 L
 have ed:mN s dn c dn=s dn:=by funext q;unfold mN;rw[if_pos (.inl (Nat.le_refl _))]
 rw[if_pos G,ed]at J
 rw[if_neg (Nat.lt_irrefl _)]at L
 have k5:=L6 c (by omega)
 have x1:=(J c D).1
 have x2:=(L c D).1
 rw[ap]at x1
 rw[aq]at x2
 refine(Fa T oi U M O Q n Z Y ⟨nd,ad,V,Ld⟩ ⟨ni,ai,X,Li⟩ (s i) (s dn) (s dn c) (s i c) W' r1 q1 r3 q3 (by omega) aa (fun q t=>(L q t).1) (fun q t=>(J q t).1) x1 x2 (fun q t=>⟨kz (l i F q t) (by omega),kz (l dn (by omega) q t) (by omega),kz (tJ (l i F q t) (l dn (by omega) c D)) k5,kz (tJ (l dn (by omega) q t) (l i F c D)) k5⟩) (kz (l dn (by omega) c D) (by omega)) (kz (l i F c D) (by omega))).mono ?_
 rintro e w' ⟨I,d,R,rfl,t1,t2,t3,t4,t5,t6⟩
 have hB:=H.trans (t6.mono H.size)
 exact⟨I,d,R,rfl,ac (h.made hB F G D l hz t1 (t2.mono (by have:=H.size;omega)) t3 t4 (fun z hz=>(t5 z hz).mono H.size)),hB⟩
theorem cW.nil_iff{w W:World}{g D m n c dn i F oi G H K:Nat}{N:List Rw}{s:Nat→Nat→Int}{t:List Nm}{I:Bool}{J:Option Addr}{z:List Nat}(h:cW w W g D m n K N (fun j=>if j<i then mN s dn c j else s j))(L:i<m)(M:c<n)(d:aY N i=⟨some ⟨F,oi,none⟩,G,t⟩)(l:bT t c=⟨I,J,H,z⟩):z.length=0↔s i c=0:=by
 have x:=((h.2.2.2.2.1 i L).2.2.2 c M).1
 rw[d]at x
 simp only[l]at x
 rw[if_neg (Nat.lt_irrefl _)]at x
 exact x.nil_iff
theorem v7(b U a0:Nat)(M:List Rw)(n:Nat)(w:World)(h:gV w (some ⟨b,U,none⟩) a0 M)(hs:oY M)(hg:Jd M n)(hw:iA M=n)(a1:0<M.length)(bz:∀i c,i<M.length→c<n→(l6 M i c).natAbs<2^KK 0):
  Calls Tryz.prog 51 #[.slice (some ⟨b,U,none⟩) M.length a0] w fun e G=>(∃k:Nat,e=.returned (.int .i64 k)∧Hid (dw k (l6 M) M.length n))∧Below w.heap.size w G:=by
 obtain⟨j0,b6,b7,b8,b9⟩:=info_parts Ih
 have CW:=ac (fun G h'=>mG (some ⟨b,U,none⟩) a0 M G h' hs)
 rw[hw]at CW
 have bA:=hg.1
 have bE:=hg.2.1
 obtain⟨b',c6,e',cb,cc⟩:=h.ne a1
 simp only[Option.some.injEq,Addr.mk.injEq,and_true]at e'
 obtain⟨rfl,rfl⟩:=e'
 have HV:=ac (fun i (hi:i<M.length)=>(show bP w (aY M i).ao (aY M i).cap (aY M i).R∧(aY M i).R.length=n∧∀c,c<n→eZ w (bT (aY M i).R c) (l6 M i c)∧(l6 M i c).natAbs<2^KK 0 from
  ⟨h.nums hi,hg.2.2.1 i hi,fun c hc=>⟨eZ.ofRight ((h.nums hi).limbs (by rw[hg.2.2.1 i hi];exact hc)) (hg.2.2.2 i c hi hc).1,bz i c hi hc⟩⟩))
 obtain⟨D,am⟩:∃D,M.length=D:=⟨_,rfl⟩
 have HL:=ac am;have HM:=ac h
 rw[am]at CW bA a1⊢
 have Z:Below w.heap.size w (w.alloc (.cells #[] 75)):=(Below.refl _ _).alloc (Nat.le_refl _) _
 have V:=ac (show∀j u,(M.map Rw.v)[j]? =some u→(w.alloc (.cells #[] 75)).cell? ((⟨b,U,none⟩:Addr).add j)=some u from fun j u hu=>by
  rw[List.getElem?_map]at hu
  cases hm:M[j]? with
  |none=>rw[hm]at hu;cases hu
  |some r=>
   rw[hm]at hu
   have be:j<M.length:=(List.getElem?_eq_some_iff.1 hm).1
   have ax:=cc j be
   have er:aY M j=r:=by unfold aY;rw[hm];rfl
   rw[er]at ax
   rw[show(⟨b,U,none⟩:Addr).add j=⟨b,U+j,none⟩ by simp[Addr.add]]
   rw[Z.cell (p:=⟨b,U+j,none⟩) cb,ax]
   exact hu)
 have bG:=ac (show∀(N:List Rw),∀u∈N.map Rw.v,u.oneCell'=true from fun N u hu=>by
  obtain⟨r,_,rfl⟩:=List.mem_map.1 hu
  rfl)
 have ay:=ac (show(w.alloc (.cells #[] 75)).ownsRow w.heap.size 75 1 (.slice (some ⟨w.heap.size,0,none⟩) 0 0) 0 []from(OwnRows.start w w.heap.size (Nat.le_refl _)).1)
 have Q:=ac (fun v' w3 (ho:w3.ownsRow w.heap.size 75 1 v' (0+D) ([]++M.map Rw.v)) (bb:(w.alloc (.cells #[] 75)).grownBy w3 (some w.heap.size))=>
  cW.copied (w:=w) (W:=w) (n:=n) (K:=KK 0) (a:=l6 M) a1 am (Below.refl _ _) (fun i hi=>uH HV i (by rw[am];exact hi)) ho (fY Z bb (by simp) (fun m hm=>by cases hm;exact Nat.le_refl _)))
 have LN:=ac (show(M.map Rw.v).length=D*1 by rw[List.length_map,am];omega)
 have a7:=ac (St.start (l6 M) D n)
 clear h hs hg hw bz cc cb Z am HV
 go_enter Tryz.func51,Tryz.ntmps51
 go_wp2_with(at_builtin;refine wpList_append_own_at _ rfl _ _ 74 rfl w.heap.size 75 j0 (.slice none 0 0) 1 24 Tryz.underlying74 b6 b7 b8 b9 rfl (by decide) _ _ _ rfl (uH ay) ⟨b,U,none⟩ D a0 (M.map Rw.v) rfl (uH LN) (uH V) (uH bG M) (by unfold maxLen;omega) (by omega) (by simp) ?_;intro vA w3 I J F aD;obtain⟨g0,c3,rfl,cg,_⟩:=uH Q vA w3 I J;have bV:=ac cg;clear I J aD F cg)
 clear ay Q V LN
 go_loopw[3,4,5] (fun l d ci wr=>∃(c dn g cp:Nat) (N:List Rw) (a:Nat→Nat→Int),c≤n∧dn≤D∧l=.slice (some ⟨g,0,none⟩) D cp∧d=.int .i64 dn∧ci=.int .i64 c∧Hid (cW w wr g cp D n (KK c) N a)∧Hid (St (l6 M) a D n c dn)) (fun _ _ ci _=>n-(intOf ci).toNat)
 case atStart=>exact⟨0,0,g0,c3,M,l6 M,Nat.zero_le _,Nat.zero_le _,rfl,rfl,rfl,bV,a7⟩
 case round=>
  obtain⟨c,dn,g,cp,N,a,hc,ck,rfl,rfl,rfl,aa,ap⟩:=hrel
  clear bV a7
  have a2:=(uH aa).2.2.2.2.2
  have bm:=ac (uH CW _ ((uH HM).below a2))
  by_cases ae:c<n
  ·have c7:(c:Int)<(n:Int):=by omega
   have X:=(uH aa).1
   have CP:=ac (fun G (ct:Below wr.heap.size wr G)=>BK g 0 cp N dn c n G ((uH aa).below ct).mat (fun i hi=>((uH aa).2.2.2.2.1 i (by rw[←X];exact hi)).2.2.1) ae (by rw[X];exact ck) (by rw[X];exact bA) bE)
   rw[X]at CP
   clear a2
   go_wp2_with(go_at_call 116;refine(uH bm).mono ?_;rintro e G ⟨rfl,rfl⟩)
   refine(uH CP _ (Below.refl _ _)).mono ?_
   rintro e w1 ⟨⟨k,rfl,hk⟩,cr⟩
   have O:=ac ((uH aa).below cr)
   clear aa cr CP bm
   rcases hk with⟨rfl,hz⟩|⟨p,rfl,c5,a6,cs⟩
   ·have bn:=ac ((uH ap).none (fun i h1 h2=>(((uH O).2.2.2.2.1 i h2).2.2.2 c ae).1.nil_iff.1 (hz i h1 h2)))
    have bo:=ac ((uH O).congr (K':=KK (c+1)) (fun _ _=>rfl) (Aa c))
    clear ap O hz X
    go_wp2
    go_roundw
    case rel=>exact⟨c+1,dn,g,cp,N,a,by omega,ck,rfl,rfl,by go_num,bo,bn⟩
    case measure=>simp[intOf];omega
   ·have cy:¬(p:Int)<0:=by omega
    have dd:decide ((p:Int)<0)=false:=decide_eq_false cy
    have b0:a p c≠0:=fun e=>cs ((((uH O).2.2.2.2.1 p a6).2.2.2 c ae).1.nil_iff.2 e)
    have bn:=ac ((uH ap).pivot c5 a6 b0)
    have bp:dn<D:=by omega
    have dl:(dn:Int)<(D:Int):=by omega
    have ds:(p:Int)<(D:Int):=by omega
    have n1:=uH O
    have Z:Below w1.heap.size w1 (w1.alloc (.cells #[] 75)):=(Below.refl _ _).alloc (Nat.le_refl _) _
    have V:=ac (show∀j u,(N.map Rw.v)[j]? =some u→(w1.alloc (.cells #[] 75)).cell? ((⟨g,0,none⟩:Addr).add j)=some u from fun j u hu=>by
     rw[List.getElem?_map]at hu
     cases hm:N[j]? with
     |none=>rw[hm]at hu;cases hu
     |some r=>
      rw[hm]at hu
      have be:j<N.length:=(List.getElem?_eq_some_iff.1 hm).1
      have ax:=(n1.below Z).cell (i:=j) (by rw[←X];exact be)
      have er:aY N j=r:=by unfold aY;rw[hm];rfl
      rw[er]at ax
      rw[show(⟨g,0,none⟩:Addr).add j=⟨g,j,none⟩ by by_cases e:j=0<;>simp[Addr.add,e],ax]
      exact hu)
    have ay:=ac (show(w1.alloc (.cells #[] 75)).ownsRow w1.heap.size 75 1 (.slice (some ⟨w1.heap.size,0,none⟩) 0 0) 0 []from(OwnRows.start w1 w1.heap.size (Nat.le_refl _)).1)
    have Q:=ac (fun v' w3 (ho:w3.ownsRow w1.heap.size 75 1 v' (0+D) ([]++N.map Rw.v)) (bb:(w1.alloc (.cells #[] 75)).grownBy w3 (some w1.heap.size))=>
     (show(∃g2 aq,v'=.slice (some ⟨g2,0,none⟩) D aq∧cW w w3 g2 aq D n (KK c) N a∧w1.heap.size≤g2)∧cW w w3 g cp D n (KK c) N a from by
      have ba:=fY Z bb (by simp) (fun m hm=>by cases hm;exact Nat.le_refl _)
      exact⟨cW.copied a1 X n1.2.2.2.2.2 (fun i hi=>⟨(n1.2.2.2.2.1 i hi).1,(n1.2.2.2.2.1 i hi).2.2⟩) ho ba,n1.below ba⟩))
    have LN:=ac (show(N.map Rw.v).length=D*1 by rw[List.length_map,X];omega)
    have dv:=n1.lt
    clear n1 Z cs b0 ap O
    go_wp2_with(at_builtin;refine wpList_append_own_at _ rfl _ _ 74 rfl w1.heap.size 75 j0 (.slice none 0 0) 1 24 Tryz.underlying74 b6 b7 b8 b9 rfl (by decide) _ _ _ rfl (uH ay) ⟨g,0,none⟩ D cp (N.map Rw.v) rfl (uH LN) (uH V) (uH bG N) (by unfold maxLen;omega) (by omega) (by simp) ?_;intro vA w3 I J F aD;obtain⟨⟨g2,aq,rfl,a3,dA⟩,bt⟩:=uH Q vA w3 I J;have b1:g≠g2:=(by omega);obtain⟨ce,⟨uq,cf⟩,ff,cl⟩:=a3.swap bt b1 bp a6;have bq:=ac cl;have ca:=bt.cell a6;have cd:=a3.cell bp;have fd:=a3.free dn;clear I J aD F a3 bt cl ay Q)
    clear ca cd fd ce cf ff
    generalize (w3.setCell ⟨g2,dn,none⟩ (Value.slice (aY N p).ao (aY N p).R.length (aY N p).cap)).setCell ⟨g2,p,none⟩ (Value.slice (aY N dn).ao (aY N dn).R.length (aY N dn).cap)=w5 at*
    have b2:=ac (fun j (hj:j<D) q (hq:q<n)=>((uH bq).2.2.2.2.1 j hj).2.2.2 q hq |>.2)
    have b3:=ac ((uH bq).begin (c:=c) (dn:=dn))
    clear bq V LN b1
    generalize yw a dn p=s at*
    go_loopw[8] (fun i cx=>∃(k:Nat) (N2:List Rw),dn+1≤k∧k≤D∧i=.int .i64 k∧Hid (cW w cx g2 aq D n (KK (c+1)) N2 (fun j=>if j<k then mN s dn c j else s j))) (fun i _=>D-(intOf i).toNat)
    case atStart=>exact⟨dn+1,_,Nat.le_refl _,by omega,by go_num,b3⟩
    case round=>
     obtain⟨k,N2,dB,dD,rfl,hI⟩:=hrel
     clear b3
     by_cases az:k<D
     ·have dx:(k:Int)<(D:Int):=by omega
      obtain⟨bd,od,c4,bi,oi,ci,Rd,Ri,nd,ad,kd,Ld,ni,ai,ki,Li,bv,a4,cm,cq,bx,a5,HF⟩:=(uH hI).facts az bp (by omega) ae
      have F:=(uH hI).nil_iff az ae a4 a5
      have Y:=ac HF
      obtain⟨⟨_,_,_,f4,f5⟩,f6,_,_⟩:=HF _ (Below.refl _ _)
      clear HF
      by_cases hz:s k c=0
      ·have b4:=ac (fun G (hb:Below wr.heap.size wr G)=>((uH hI).below hb).zeroed hz)
       have CZ:=ac (fun G=>nP ni ai ki Li.length G)
       rw[show decide (Li.length=0)=true from decide_eq_true (F.2 hz)]at CZ
       clear F bv a4 cm cq bx a5 Y
       go_wp2_with fail
       refine(uH CZ _).mono ?_
       rintro e w6 ⟨rfl,aI⟩
       have cz:=ac (uH b4 _ aI)
       clear aI b4 CZ hI
       go_wp2
       go_roundw
       case rel=>exact⟨k+1,N2,by omega,by omega,by go_num,cz⟩
       case measure=>simp[intOf];omega
      ·have CZ:=ac (fun G=>nP ni ai ki Li.length G)
       rw[show decide (Li.length=0)=false from decide_eq_false (fun e=>hz (F.1 e))]at CZ
       have CL:=ac (fun G (hb:Below wr.heap.size wr G)=>(uH hI).lessCall az (by omega) ae bE (uH b2) hz bv a4 bx a5 G hb)
       clear F bv a4 cm cq bx a5
       go_wp2_with fail
       refine(uH CZ _).mono ?_
       rintro e w6 ⟨rfl,aI⟩
       have b5:=aI
       clear aI CZ f4 f5 f6
       go_wp2_with fail
       refine aG (fun W=>W=w6) rfl ?_
       rintro W0 e0
       subst e0
       have T:Below wr.heap.size wr W0.drew:=b5.drew
       refine wp_region_held_drew (S:=(fun G=>G.cell? ⟨g2,dn,none⟩=some (.slice (some ⟨bd,od,none⟩) n c4)∧G.cell? ⟨bd,od+c*2,none⟩=some (.bool nd)∧G.cell? ⟨bd,od+c*2+1,none⟩=some (.slice ad Ld.length kd)∧G.cell? ⟨bi,oi+c*2,none⟩=some (.bool ni)∧G.cell? ⟨bi,oi+c*2+1,none⟩=some (.slice ai Li.length ki))) (by kernel_rfl) ?_ (fun z=>?_)
       ·exact(uH Y _ T).1
       clear b5 hI
       refine wpAnyH_take (i:=0) (oi:={dst:=some 58,op:=Op.move (Operand.tmp 7),type:=74,pos:= "ref.go:119",after:=#[],guard:=none}) (v:=?_) rfl (by kernel_rfl) (by kernel_rfl) (by kernel_rfl) (fun _ _ _ h=>h) (Or.inl ⟨by rfl,?_⟩) (by assumption) ?_
       rotate_left
       ·((intro w t;(try dsimp only at t);go_simp)<;>with_reducible rfl)
       simp only[Act.put,List.setIfInBounds_toArray,List.set_cons_zero,List.set_cons_succ]
       refine wpAnyH_take (i:=1) (oi:={dst:=some 59,op:=Op.move (Operand.tmp 8),type:=3,pos:= "ref.go:119",after:=#[],guard:=none}) (v:=?_) rfl (by kernel_rfl) (by kernel_rfl) (by kernel_rfl) (fun _ _ _ h=>h) (Or.inl ⟨by rfl,?_⟩) (by assumption) ?_
       rotate_left
       ·((intro w t;(try dsimp only at t);go_simp)<;>with_reducible rfl)
       simp only[Act.put,List.setIfInBounds_toArray,List.set_cons_zero,List.set_cons_succ]
       refine wpAnyH_take (i:=2) (oi:={dst:=some 60,op:=Op.move (Operand.tmp 7),type:=74,pos:= "ref.go:119",after:=#[],guard:=none}) (v:=?_) rfl (by kernel_rfl) (by kernel_rfl) (by kernel_rfl) (fun _ _ _ h=>h) (Or.inl ⟨by rfl,?_⟩) (by assumption) ?_
       rotate_left
       ·((intro w t;(try dsimp only at t);go_simp)<;>with_reducible rfl)
       simp only[Act.put,List.setIfInBounds_toArray,List.set_cons_zero,List.set_cons_succ]
       refine wpAnyH_take (i:=3) (oi:={dst:=some 61,op:=Op.move (Operand.tmp 8),type:=3,pos:= "ref.go:119",after:=#[],guard:=none}) (v:=?_) rfl (by kernel_rfl) (by kernel_rfl) (by kernel_rfl) (fun _ _ _ h=>h) (Or.inl ⟨by rfl,?_⟩) (by assumption) ?_
       rotate_left
       ·((intro w t;(try dsimp only at t);go_simp)<;>with_reducible rfl)
       simp only[Act.put,List.setIfInBounds_toArray,List.set_cons_zero,List.set_cons_succ]
       refine wpAnyH_take (i:=4) (oi:={dst:=some 62,op:=Op.indexAddr 74 (Operand.tmp 60) (Operand.tmp 61),type:=0,pos:= "ref.go:119",after:=#[{on:=2,ground:=Ground.data},{on:=3,ground:=Ground.data}],guard:=none}) (v:=?_) rfl (by kernel_rfl) (by kernel_rfl) (by kernel_rfl) (fun _ _ _ h=>h) (Or.inl ⟨by rfl,?_⟩) (by assumption) ?_
       rotate_left
       ·((intro w t;(try dsimp only at t);go_simp)<;>with_reducible rfl)
       simp only[Act.put,List.setIfInBounds_toArray,List.set_cons_zero,List.set_cons_succ]
       refine wpAnyH_take (i:=6) (oi:={dst:=some 64,op:=Op.move (Operand.tmp 7),type:=74,pos:= "ref.go:119",after:=#[],guard:=none}) (v:=?_) rfl (by kernel_rfl) (by kernel_rfl) (by kernel_rfl) (fun _ _ _ h=>h) (Or.inl ⟨by rfl,?_⟩) (by assumption) ?_
       rotate_left
       ·((intro w t;(try dsimp only at t);go_simp)<;>with_reducible rfl)
       simp only[Act.put,List.setIfInBounds_toArray,List.set_cons_zero,List.set_cons_succ]
       refine wpAnyH_take (i:=7) (oi:={dst:=some 65,op:=Op.move (Operand.tmp 4),type:=3,pos:= "ref.go:119",after:=#[],guard:=none}) (v:=?_) rfl (by kernel_rfl) (by kernel_rfl) (by kernel_rfl) (fun _ _ _ h=>h) (Or.inl ⟨by rfl,?_⟩) (by assumption) ?_
       rotate_left
       ·((intro w t;(try dsimp only at t);go_simp)<;>with_reducible rfl)
       simp only[Act.put,List.setIfInBounds_toArray,List.set_cons_zero,List.set_cons_succ]
       refine wpAnyH_take (i:=8) (oi:={dst:=some 66,op:=Op.indexAddr 74 (Operand.tmp 64) (Operand.tmp 65),type:=0,pos:= "ref.go:119",after:=#[{on:=6,ground:=Ground.data},{on:=7,ground:=Ground.data}],guard:=none}) (v:=?_) rfl (by kernel_rfl) (by kernel_rfl) (by kernel_rfl) (fun _ _ _ h=>h) (Or.inl ⟨by rfl,?_⟩) (by assumption) ?_
       rotate_left
       ·((intro w t;(try dsimp only at t);go_simp)<;>with_reducible rfl)
       simp only[Act.put,List.setIfInBounds_toArray,List.set_cons_zero,List.set_cons_succ]
       refine wpAnyH_take (i:=9) (oi:={dst:=some 67,op:=Op.load 75 (Operand.tmp 66),type:=75,pos:= "ref.go:119",after:=#[{on:=8,ground:=Ground.data}],guard:=none}) (v:=?_) rfl (by kernel_rfl) (by kernel_rfl) (by kernel_rfl) (fun _ _ _ h=>h) (Or.inl ⟨by rfl,?_⟩) (by assumption) ?_
       rotate_left
       ·((intro w t;(try dsimp only at t);go_simp)<;>with_reducible rfl)
       simp only[Act.put,List.setIfInBounds_toArray,List.set_cons_zero,List.set_cons_succ]
       refine wpAnyH_take (i:=10) (oi:={dst:=some 68,op:=Op.move (Operand.tmp 5),type:=3,pos:= "ref.go:119",after:=#[],guard:=none}) (v:=?_) rfl (by kernel_rfl) (by kernel_rfl) (by kernel_rfl) (fun _ _ _ h=>h) (Or.inl ⟨by rfl,?_⟩) (by assumption) ?_
       rotate_left
       ·((intro w t;(try dsimp only at t);go_simp)<;>with_reducible rfl)
       simp only[Act.put,List.setIfInBounds_toArray,List.set_cons_zero,List.set_cons_succ]
       refine wpAnyH_take (i:=11) (oi:={dst:=some 69,op:=Op.indexAddr 75 (Operand.tmp 67) (Operand.tmp 68),type:=0,pos:= "ref.go:119",after:=#[{on:=9,ground:=Ground.data},{on:=10,ground:=Ground.data}],guard:=none}) (v:=?_) rfl (by kernel_rfl) (by kernel_rfl) (by kernel_rfl) (fun _ _ _ h=>h) (Or.inl ⟨by rfl,?_⟩) (by assumption) ?_
       rotate_left
       ·((intro w t;(try dsimp only at t);go_simp)<;>with_reducible rfl)
       simp only[Act.put,List.setIfInBounds_toArray,List.set_cons_zero,List.set_cons_succ]
       refine wpAnyH_take (i:=12) (oi:={dst:=some 70,op:=Op.load 55 (Operand.tmp 69),type:=55,pos:= "ref.go:119",after:=#[{on:=11,ground:=Ground.data}],guard:=none}) (v:=?_) rfl (by kernel_rfl) (by kernel_rfl) (by kernel_rfl) (fun _ _ _ h=>h) (Or.inl ⟨by rfl,?_⟩) (by assumption) ?_
       rotate_left
       ·((intro w t;(try dsimp only at t);go_simp)<;>with_reducible rfl)
       simp only[Act.put,List.setIfInBounds_toArray,List.set_cons_zero,List.set_cons_succ]
       refine wpAnyH_take (i:=13) (oi:={dst:=some 71,op:=Op.move (Operand.tmp 7),type:=74,pos:= "ref.go:119",after:=#[],guard:=none}) (v:=?_) rfl (by kernel_rfl) (by kernel_rfl) (by kernel_rfl) (fun _ _ _ h=>h) (Or.inl ⟨by rfl,?_⟩) (by assumption) ?_
       rotate_left
       ·((intro w t;(try dsimp only at t);go_simp)<;>with_reducible rfl)
       simp only[Act.put,List.setIfInBounds_toArray,List.set_cons_zero,List.set_cons_succ]
       refine wpAnyH_take (i:=14) (oi:={dst:=some 72,op:=Op.move (Operand.tmp 4),type:=3,pos:= "ref.go:119",after:=#[],guard:=none}) (v:=?_) rfl (by kernel_rfl) (by kernel_rfl) (by kernel_rfl) (fun _ _ _ h=>h) (Or.inl ⟨by rfl,?_⟩) (by assumption) ?_
       rotate_left
       ·((intro w t;(try dsimp only at t);go_simp)<;>with_reducible rfl)
       simp only[Act.put,List.setIfInBounds_toArray,List.set_cons_zero,List.set_cons_succ]
       refine wpAnyH_take (i:=15) (oi:={dst:=some 73,op:=Op.indexAddr 74 (Operand.tmp 71) (Operand.tmp 72),type:=0,pos:= "ref.go:119",after:=#[{on:=13,ground:=Ground.data},{on:=14,ground:=Ground.data}],guard:=none}) (v:=?_) rfl (by kernel_rfl) (by kernel_rfl) (by kernel_rfl) (fun _ _ _ h=>h) (Or.inl ⟨by rfl,?_⟩) (by assumption) ?_
       rotate_left
       ·((intro w t;(try dsimp only at t);go_simp)<;>with_reducible rfl)
       simp only[Act.put,List.setIfInBounds_toArray,List.set_cons_zero,List.set_cons_succ]
       refine wpAnyH_take (i:=16) (oi:={dst:=some 74,op:=Op.load 75 (Operand.tmp 73),type:=75,pos:= "ref.go:119",after:=#[{on:=15,ground:=Ground.data}],guard:=none}) (v:=?_) rfl (by kernel_rfl) (by kernel_rfl) (by kernel_rfl) (fun _ _ _ h=>h) (Or.inl ⟨by rfl,?_⟩) (by assumption) ?_
       rotate_left
       ·((intro w t;(try dsimp only at t);go_simp)<;>with_reducible rfl)
       simp only[Act.put,List.setIfInBounds_toArray,List.set_cons_zero,List.set_cons_succ]
       refine wpAnyH_take (i:=17) (oi:={dst:=some 75,op:=Op.move (Operand.tmp 7),type:=74,pos:= "ref.go:119",after:=#[],guard:=none}) (v:=?_) rfl (by kernel_rfl) (by kernel_rfl) (by kernel_rfl) (fun _ _ _ h=>h) (Or.inl ⟨by rfl,?_⟩) (by assumption) ?_
       rotate_left
       ·((intro w t;(try dsimp only at t);go_simp)<;>with_reducible rfl)
       simp only[Act.put,List.setIfInBounds_toArray,List.set_cons_zero,List.set_cons_succ]
       refine wpAnyH_take (i:=18) (oi:={dst:=some 76,op:=Op.move (Operand.tmp 8),type:=3,pos:= "ref.go:119",after:=#[],guard:=none}) (v:=?_) rfl (by kernel_rfl) (by kernel_rfl) (by kernel_rfl) (fun _ _ _ h=>h) (Or.inl ⟨by rfl,?_⟩) (by assumption) ?_
       rotate_left
       ·((intro w t;(try dsimp only at t);go_simp)<;>with_reducible rfl)
       simp only[Act.put,List.setIfInBounds_toArray,List.set_cons_zero,List.set_cons_succ]
       refine wpAnyH_take (i:=19) (oi:={dst:=some 77,op:=Op.indexAddr 74 (Operand.tmp 75) (Operand.tmp 76),type:=0,pos:= "ref.go:119",after:=#[{on:=17,ground:=Ground.data},{on:=18,ground:=Ground.data}],guard:=none}) (v:=?_) rfl (by kernel_rfl) (by kernel_rfl) (by kernel_rfl) (fun _ _ _ h=>h) (Or.inl ⟨by rfl,?_⟩) (by assumption) ?_
       rotate_left
       ·((intro w t;(try dsimp only at t);go_simp)<;>with_reducible rfl)
       simp only[Act.put,List.setIfInBounds_toArray,List.set_cons_zero,List.set_cons_succ]
       refine wpAnyH_take (i:=21) (oi:={dst:=some 79,op:=Op.move (Operand.tmp 5),type:=3,pos:= "ref.go:119",after:=#[],guard:=none}) (v:=?_) rfl (by kernel_rfl) (by kernel_rfl) (by kernel_rfl) (fun _ _ _ h=>h) (Or.inl ⟨by rfl,?_⟩) (by assumption) ?_
       rotate_left
       ·((intro w t;(try dsimp only at t);go_simp)<;>with_reducible rfl)
       simp only[Act.put,List.setIfInBounds_toArray,List.set_cons_zero,List.set_cons_succ]
       refine wpAnyH_ready (rs:=[5,20]) (by kernel_rfl) (by simp) ?_
       refine AllReadyH.cons (o:={dst:=some 63,op:=Op.load 75 (Operand.tmp 62),type:=75,pos:= "ref.go:119",after:=#[{on:=4,ground:=Ground.data}],guard:=none}) rfl (fun K H=>?_) ?_
       ·have kk:=(uH Y _ T).2.1
        go_simp
        refine H.out _ _ ?_ (fun z=>?_)
        ·exact by assumption
        clear H K
        clear kk
        refine wpAnyH_ready (rs:=[20]) (by kernel_rfl) (by simp) ?_
        refine AllReadyH.cons (o:={dst:=some 78,op:=Op.load 75 (Operand.tmp 77),type:=75,pos:= "ref.go:119",after:=#[{on:=19,ground:=Ground.data}],guard:=none}) rfl (fun K H=>?_) AllReadyH.nil
        have kk:=(uH Y _ T).2.1
        go_simp
        refine H.out _ _ ?_ (fun z=>?_)
        ·exact by assumption
        clear H K
        clear kk
        refine wpAnyH_take (i:=22) (oi:={dst:=some 80,op:=Op.indexAddr 75 (Operand.tmp 78) (Operand.tmp 79),type:=0,pos:= "ref.go:119",after:=#[{on:=20,ground:=Ground.data},{on:=21,ground:=Ground.data}],guard:=none}) (v:=?_) rfl (by kernel_rfl) (by kernel_rfl) (by kernel_rfl) (fun _ _ _ h=>h) (Or.inl ⟨by rfl,?_⟩) (by assumption) ?_
        rotate_left
        ·((intro w t;(try dsimp only at t);go_simp)<;>with_reducible rfl)
        simp only[Act.put,List.setIfInBounds_toArray,List.set_cons_zero,List.set_cons_succ]
        refine wpAnyH_take (i:=23) (oi:={dst:=some 81,op:=Op.load 55 (Operand.tmp 80),type:=55,pos:= "ref.go:119",after:=#[{on:=22,ground:=Ground.data}],guard:=none}) (v:=?_) rfl (by kernel_rfl) (by kernel_rfl) (by kernel_rfl) (fun _ _ _ h=>h) (Or.inl ⟨by rfl,?_⟩) (by assumption) ?_
        rotate_left
        ·((intro w t;(try dsimp only at t);go_simp)<;>with_reducible rfl)
        simp only[Act.put,List.setIfInBounds_toArray,List.set_cons_zero,List.set_cons_succ]
        refine wpAnyH_ready (rs:=[24]) (by kernel_rfl) (by simp) ?_
        refine AllReadyH.cons (o:={dst:=some 82,op:=Op.call {callee:=Callee.value (Operand.func 119),args:=#[Operand.tmp 63,Operand.tmp 70,Operand.tmp 74,Operand.tmp 81],argTypes:=#[75,55,75,55]},type:=75,pos:= "ref.go:119",after:=#[{on:=5,ground:=Ground.data},{on:=12,ground:=Ground.data},{on:=16,ground:=Ground.data},{on:=23,ground:=Ground.data}],guard:=none}) rfl (fun K H=>?_) AllReadyH.nil
        go_simp
        refine(uH CL _ T).mono ?_
        rintro e w7 ⟨a9,c9,R9,rfl,Q,L⟩
        go_wp2_with fail
        refine H.out _ _ ?_ (fun z=>?_)
        ·exact(uH Y _ L).1
        clear H K
        refine wpAnyH_take (i:=25) (oi:={dst:=some 83,op:=Op.indexAddr 74 (Operand.tmp 58) (Operand.tmp 59),type:=0,pos:= "ref.go:119",after:=#[{on:=0,ground:=Ground.data},{on:=1,ground:=Ground.data},{on:=0,ground:=Ground.phase},{on:=1,ground:=Ground.phase},{on:=2,ground:=Ground.phase},{on:=3,ground:=Ground.phase},{on:=4,ground:=Ground.phase},{on:=5,ground:=Ground.phase},{on:=6,ground:=Ground.phase},{on:=7,ground:=Ground.phase},{on:=8,ground:=Ground.phase},{on:=9,ground:=Ground.phase},{on:=10,ground:=Ground.phase},{on:=11,ground:=Ground.phase},{on:=12,ground:=Ground.phase},{on:=13,ground:=Ground.phase},{on:=14,ground:=Ground.phase},{on:=15,ground:=Ground.phase},{on:=16,ground:=Ground.phase},{on:=17,ground:=Ground.phase},{on:=18,ground:=Ground.phase},{on:=19,ground:=Ground.phase},{on:=20,ground:=Ground.phase},{on:=21,ground:=Ground.phase},{on:=22,ground:=Ground.phase},{on:=23,ground:=Ground.phase},{on:=24,ground:=Ground.phase}],guard:=none}) (v:=?_) rfl (by kernel_rfl) (by kernel_rfl) (by kernel_rfl) (fun _ _ _ h=>h) (Or.inl ⟨by rfl,?_⟩) (by assumption) ?_
        rotate_left
        ·((intro w t;(try dsimp only at t);go_simp)<;>with_reducible rfl)
        simp only[Act.put,List.setIfInBounds_toArray,List.set_cons_zero,List.set_cons_succ]
        refine wpAnyH_ready (rs:=[26]) (by kernel_rfl) (by simp) ?_
        refine AllReadyH.cons (o:={dst:=none,op:=Op.store 75 (Operand.tmp 83) (Operand.tmp 82),type:=0,pos:= "ref.go:119",after:=#[{on:=25,ground:=Ground.data},{on:=24,ground:=Ground.data},{on:=24,ground:=Ground.chain},{on:=0,ground:=Ground.phase},{on:=1,ground:=Ground.phase},{on:=2,ground:=Ground.phase},{on:=3,ground:=Ground.phase},{on:=4,ground:=Ground.phase},{on:=5,ground:=Ground.phase},{on:=6,ground:=Ground.phase},{on:=7,ground:=Ground.phase},{on:=8,ground:=Ground.phase},{on:=9,ground:=Ground.phase},{on:=10,ground:=Ground.phase},{on:=11,ground:=Ground.phase},{on:=12,ground:=Ground.phase},{on:=13,ground:=Ground.phase},{on:=14,ground:=Ground.phase},{on:=15,ground:=Ground.phase},{on:=16,ground:=Ground.phase},{on:=17,ground:=Ground.phase},{on:=18,ground:=Ground.phase},{on:=19,ground:=Ground.phase},{on:=20,ground:=Ground.phase},{on:=21,ground:=Ground.phase},{on:=22,ground:=Ground.phase},{on:=23,ground:=Ground.phase},{on:=24,ground:=Ground.phase}],guard:=none}) rfl (fun K H=>?_) AllReadyH.nil
        have kk:=(uH Y _ L).2.1
        have kf:=(uH Y _ L).2.2.1
        go_simp
        refine H.out _ _ ?_ (fun z=>?_)
        ·exact(uH Y _ L).2.2.2 _
        clear H K
        clear kk kf
        refine wpAnyH_done (by kernel_rfl) ?_ _
        clear Y CL T L z
        go_wp2
        go_roundw
        case rel=>exact⟨k+1,_,by omega,by omega,by go_num,Q⟩
        case measure=>simp[intOf];omega
       refine AllReadyH.cons (o:={dst:=some 78,op:=Op.load 75 (Operand.tmp 77),type:=75,pos:= "ref.go:119",after:=#[{on:=19,ground:=Ground.data}],guard:=none}) rfl (fun K H=>?_) AllReadyH.nil
       have kk:=(uH Y _ T).2.1
       go_simp
       refine H.out _ _ ?_ (fun z=>?_)
       ·exact by assumption
       clear H K
       clear kk
       refine wpAnyH_take (i:=22) (oi:={dst:=some 80,op:=Op.indexAddr 75 (Operand.tmp 78) (Operand.tmp 79),type:=0,pos:= "ref.go:119",after:=#[{on:=20,ground:=Ground.data},{on:=21,ground:=Ground.data}],guard:=none}) (v:=?_) rfl (by kernel_rfl) (by kernel_rfl) (by kernel_rfl) (fun _ _ _ h=>h) (Or.inl ⟨by rfl,?_⟩) (by assumption) ?_
       rotate_left
       ·((intro w t;(try dsimp only at t);go_simp)<;>with_reducible rfl)
       simp only[Act.put,List.setIfInBounds_toArray,List.set_cons_zero,List.set_cons_succ]
       refine wpAnyH_take (i:=23) (oi:={dst:=some 81,op:=Op.load 55 (Operand.tmp 80),type:=55,pos:= "ref.go:119",after:=#[{on:=22,ground:=Ground.data}],guard:=none}) (v:=?_) rfl (by kernel_rfl) (by kernel_rfl) (by kernel_rfl) (fun _ _ _ h=>h) (Or.inl ⟨by rfl,?_⟩) (by assumption) ?_
       rotate_left
       ·((intro w t;(try dsimp only at t);go_simp)<;>with_reducible rfl)
       simp only[Act.put,List.setIfInBounds_toArray,List.set_cons_zero,List.set_cons_succ]
       refine wpAnyH_ready (rs:=[5]) (by kernel_rfl) (by simp) ?_
       refine AllReadyH.cons (o:={dst:=some 63,op:=Op.load 75 (Operand.tmp 62),type:=75,pos:= "ref.go:119",after:=#[{on:=4,ground:=Ground.data}],guard:=none}) rfl (fun K H=>?_) AllReadyH.nil
       have kk:=(uH Y _ T).2.1
       go_simp
       refine H.out _ _ ?_ (fun z=>?_)
       ·exact by assumption
       clear H K
       clear kk
       refine wpAnyH_ready (rs:=[24]) (by kernel_rfl) (by simp) ?_
       refine AllReadyH.cons (o:={dst:=some 82,op:=Op.call {callee:=Callee.value (Operand.func 119),args:=#[Operand.tmp 63,Operand.tmp 70,Operand.tmp 74,Operand.tmp 81],argTypes:=#[75,55,75,55]},type:=75,pos:= "ref.go:119",after:=#[{on:=5,ground:=Ground.data},{on:=12,ground:=Ground.data},{on:=16,ground:=Ground.data},{on:=23,ground:=Ground.data}],guard:=none}) rfl (fun K H=>?_) AllReadyH.nil
       go_simp
       refine(uH CL _ T).mono ?_
       rintro e w7 ⟨a9,c9,R9,rfl,Q,L⟩
       go_wp2_with fail
       refine H.out _ _ ?_ (fun z=>?_)
       ·exact(uH Y _ L).1
       clear H K
       refine wpAnyH_take (i:=25) (oi:={dst:=some 83,op:=Op.indexAddr 74 (Operand.tmp 58) (Operand.tmp 59),type:=0,pos:= "ref.go:119",after:=#[{on:=0,ground:=Ground.data},{on:=1,ground:=Ground.data},{on:=0,ground:=Ground.phase},{on:=1,ground:=Ground.phase},{on:=2,ground:=Ground.phase},{on:=3,ground:=Ground.phase},{on:=4,ground:=Ground.phase},{on:=5,ground:=Ground.phase},{on:=6,ground:=Ground.phase},{on:=7,ground:=Ground.phase},{on:=8,ground:=Ground.phase},{on:=9,ground:=Ground.phase},{on:=10,ground:=Ground.phase},{on:=11,ground:=Ground.phase},{on:=12,ground:=Ground.phase},{on:=13,ground:=Ground.phase},{on:=14,ground:=Ground.phase},{on:=15,ground:=Ground.phase},{on:=16,ground:=Ground.phase},{on:=17,ground:=Ground.phase},{on:=18,ground:=Ground.phase},{on:=19,ground:=Ground.phase},{on:=20,ground:=Ground.phase},{on:=21,ground:=Ground.phase},{on:=22,ground:=Ground.phase},{on:=23,ground:=Ground.phase},{on:=24,ground:=Ground.phase}],guard:=none}) (v:=?_) rfl (by kernel_rfl) (by kernel_rfl) (by kernel_rfl) (fun _ _ _ h=>h) (Or.inl ⟨by rfl,?_⟩) (by assumption) ?_
       rotate_left
       ·((intro w t;(try dsimp only at t);go_simp)<;>with_reducible rfl)
       simp only[Act.put,List.setIfInBounds_toArray,List.set_cons_zero,List.set_cons_succ]
       refine wpAnyH_ready (rs:=[26]) (by kernel_rfl) (by simp) ?_
       refine AllReadyH.cons (o:={dst:=none,op:=Op.store 75 (Operand.tmp 83) (Operand.tmp 82),type:=0,pos:= "ref.go:119",after:=#[{on:=25,ground:=Ground.data},{on:=24,ground:=Ground.data},{on:=24,ground:=Ground.chain},{on:=0,ground:=Ground.phase},{on:=1,ground:=Ground.phase},{on:=2,ground:=Ground.phase},{on:=3,ground:=Ground.phase},{on:=4,ground:=Ground.phase},{on:=5,ground:=Ground.phase},{on:=6,ground:=Ground.phase},{on:=7,ground:=Ground.phase},{on:=8,ground:=Ground.phase},{on:=9,ground:=Ground.phase},{on:=10,ground:=Ground.phase},{on:=11,ground:=Ground.phase},{on:=12,ground:=Ground.phase},{on:=13,ground:=Ground.phase},{on:=14,ground:=Ground.phase},{on:=15,ground:=Ground.phase},{on:=16,ground:=Ground.phase},{on:=17,ground:=Ground.phase},{on:=18,ground:=Ground.phase},{on:=19,ground:=Ground.phase},{on:=20,ground:=Ground.phase},{on:=21,ground:=Ground.phase},{on:=22,ground:=Ground.phase},{on:=23,ground:=Ground.phase},{on:=24,ground:=Ground.phase}],guard:=none}) rfl (fun K H=>?_) AllReadyH.nil
       have kk:=(uH Y _ L).2.1
       have kf:=(uH Y _ L).2.2.1
       go_simp
       refine H.out _ _ ?_ (fun z=>?_)
       ·exact(uH Y _ L).2.2.2 _
       clear H K
       clear kk kf
       refine wpAnyH_done (by kernel_rfl) ?_ _
       clear Y CL T L z
       go_wp2
       go_roundw
       case rel=>exact⟨k+1,_,by omega,by omega,by go_num,Q⟩
       case measure=>simp[intOf];omega
     ·have cA:k=D:=by omega
      have c0:decide ((k:Int)<(D:Int))=false:=decide_eq_false (by omega)
      have c1:¬(k:Int)<(D:Int):=by omega
      have bo:=ac ((uH hI).congr (a':=mN s dn c) (fun j hj=>if_pos (by omega)) (Nat.le_refl _))
      clear hI b2 cA
      go_wp2
      go_roundw
      case rel=>exact⟨c+1,dn+1,g2,aq,N2,mN s dn c,by omega,by omega,rfl,by go_num,by go_num,bo,bn⟩
      case measure=>simp[intOf];omega
  ·have c2:c=n:=by omega
   have c0:decide ((c:Int)<(n:Int))=false:=decide_eq_false (by omega)
   have c1:¬(c:Int)<(n:Int):=by omega
   subst c2
   have RK:=ac (uH ap).rank
   have BW:=ac a2
   clear ap aa a2
   go_wp2_with(go_at_call 116;refine(uH bm).mono ?_;rintro e G ⟨rfl,rfl⟩)
   go_ret
   exact⟨⟨dn,rfl,RK⟩,uH BW⟩
theorem v8(F:Option Addr)(l:Nat)(w:World)(h:gV w F l []):
  Calls Tryz.prog 51 #[.slice F 0 l] w fun e z=>e=.returned (.int .i64 0)∧Below w.heap.size w z:=by
 have I:=ac (fun z (J:Below w.heap.size w z)=>mG F l [] z (h.below J) ⟨by simp,by simp⟩)
 simp only[List.length_nil,show iA []=0 from rfl]at I
 have G:=ac (show Below w.heap.size w (w.alloc (.cells #[] 75))from(Below.refl _ _).alloc (Nat.le_refl _) _)
 clear h
 rcases F with _|a
 ·go_enter Tryz.func51,Tryz.ntmps51
  go_wp2_with fail
  go_loopw[3,4,5] (fun _ d H wr=>d=.int .i64 0∧H=.int .i64 0∧Hid (Below w.heap.size w wr)) (fun _ _ _ _=>0)
  case atStart=>exact⟨rfl,rfl,G⟩
  case round=>
   obtain⟨rfl,rfl,D⟩:=hrel
   clear G
   have t:=ac (uH I _ (uH D))
   go_wp2_with(go_at_call 116;refine(uH t).mono ?_;rintro e z ⟨rfl,rfl⟩)
   go_ret
   exact⟨rfl,uH D⟩
 ·go_enter Tryz.func51,Tryz.ntmps51
  go_wp2_with fail
  go_loopw[3,4,5] (fun _ d H wr=>d=.int .i64 0∧H=.int .i64 0∧Hid (Below w.heap.size w wr)) (fun _ _ _ _=>0)
  case atStart=>exact⟨rfl,rfl,G⟩
  case round=>
   obtain⟨rfl,rfl,D⟩:=hrel
   clear G
   have t:=ac (uH I _ (uH D))
   go_wp2_with(go_at_call 116;refine(uH t).mono ?_;rintro e z ⟨rfl,rfl⟩)
   go_ret
   exact⟨rfl,uH D⟩
theorem jb{P:Program}{w:World}{D:Array Oper}{rest:List Oper}{o:Oper}{a:Act}{Q:Exit→Act→World→Prop}(H:o.guard=none)(s x:Operand)(t:TypeId)
  (L:o.op=.call {callee:=.builtin .append,args:=#[s,x],argTypes:=#[t,t]}) (I J:Value) (n:Nat) (F:Option Addr→Nat→World→Prop) (M:a.eval s=I) (N:a.eval x=J)
  (O:∃d l z,(Builtin.append_ #[t,t] o.type #[I,J]).run P w=.ok (.slice d n l) z∧F d l z) (h:∀d l z,F d l z→wpList P D Q rest (a.put o.dst (.slice d n l)) z):
  wpList P D Q (o::rest) a w:=by
 refine wpList_plain H fun K T=>?_
 obtain⟨d,l,z,G,hF⟩:=O
 unfold Oper.wp execOp
 simp only[L,resolve,invoke,builtin,Sem.run_bind,Sem.run_pure,Result.andThen_ok,List.map_toArray,List.map_cons,List.map_nil,M,N,G]
 exact T _ _ (h d l z hF)
theorem Av.ofClear{w:World}{v:Value}{x:Nm}(h:eR w v)(l:af w x.ao x.cap x.L):Av v.ownBlock x:=by
 rcases h.limbs l with e|⟨b,d,e,_,t,_⟩
 ·exact .inl e
 ·exact .inr ⟨b,d,e,t⟩
theorem eR.grownOther{w t:World}{v:Value}{o:Option Nat}(h:eR w v)(F:w.grownBy t o)(d:∀g,v.ownBlock=some g→some g≠o):eR t v:=by
 intro g D
 obtain⟨l,e,z,G⟩:=h g D
 exact⟨l,e,(F.block g (Array.getElem?_eq_some_iff.1 z).1 (d g D)).trans z,G⟩
theorem eR.empty(w:World)(t:TypeId):eR (w.alloc (.cells #[] t)) (.slice (some ⟨w.heap.size,0,none⟩) 0 0):=by
 intro g d
 cases d
 exact⟨#[],t,heap_alloc_new w _,by simp⟩
theorem L8:(Tryz.prog.info? 75).map (fun i=>(i.zero,i.size,i.bytes))=some (some (.slice none 0 0),1,24):=by kernel_rfl
theorem cS.push{d:Nat}{W:World}{v:Value}{R:List Nm}(h:cS d W v R)(J:eR W v)(x:Nm)(M:af W x.ao x.cap x.L)(B:Nat)(T:W.heap[B]? =some (.cells #[.bool x.neg,.slice x.ao x.L.length x.cap] 55 (0,0)))(hn:R.length≤1000000)(U:d≤W.heap.size)(N:TypeId):
  ∃t z D,(Builtin.append_ #[75,75] N #[v,.slice (some ⟨B,0,none⟩) 1 1]).run Tryz.prog W=.ok (.slice t (R.length+1) z) D∧(cS d D (.slice t (R.length+1) z) (R++[x])∧eR D (.slice t (R.length+1) z)∧W.grownBy D v.ownBlock):=by
 obtain⟨V,X,G,H,I⟩:=info_parts LI
 obtain⟨v',D,Y,O,Q,Z,e5⟩:=ja (P:=Tryz.prog) W d 75 N 55 V (.agg #[.bool false,.slice none 0 0]) 2 32 Tryz.underlying75 X G H I rfl (by decide) v R.length (cZ R) h.1 ⟨B,0,none⟩ 1 1 [.bool x.neg,.slice x.ao x.L.length x.cap] rfl
  (fun j u l=>by
   rw[show(⟨B,0,none⟩:Addr).add j=⟨B,j,none⟩ by unfold Addr.add;split<;>simp_all,cell_of_row W B j _ _ _ T]
   simpa using l)
  (fun u l=>by simp at l;rcases l with rfl|rfl<;>rfl) (by unfold maxLen;omega) (by omega) U (by omega) J
  (fun u l=>by simp[Value.cells]at l;rcases l with rfl|rfl<;>rfl) (fun u l=>by simp at l;rcases l with rfl|rfl<;>rfl)
 have F:∃t z,v'=.slice t (R.length+1) z:=by
  rcases O.2 with⟨_,e⟩|⟨g,aa,ad,F,_⟩
  ·omega
  ·exact⟨_,_,F⟩
 obtain⟨t,z,rfl⟩:=F
 exact⟨t,z,D,Y,h.snoc M (Av.ofClear J M) O Q Z,e5,Q⟩
theorem OwnRows.push{d:Nat}{W:World}{v:Value}{M:List Rw}(h:OwnRows d W v M)(O:eR W v)(x:Rw)(Q:bP W x.ao x.cap x.R)(T:ye v.ownBlock x)(B:Nat)(U:W.heap[B]? =some (.cells #[.slice x.ao x.R.length x.cap] 75 (0,0)))(hn:M.length≤1000000)(V:d≤W.heap.size)(J:TypeId):
  ∃t z D,(Builtin.append_ #[74,74] J #[v,.slice (some ⟨B,0,none⟩) 1 1]).run Tryz.prog W=.ok (.slice t (M.length+1) z) D∧(OwnRows d D (.slice t (M.length+1) z) (M++[x])∧eR D (.slice t (M.length+1) z)∧W.grownBy D v.ownBlock):=by
 obtain⟨X,Y,G,H,I⟩:=info_parts L8
 obtain⟨v',D,Z,L,N,e4,e5⟩:=ja (P:=Tryz.prog) W d 74 J 75 X (.slice none 0 0) 1 24 Tryz.underlying74 Y G H I rfl (by decide) v M.length (M.map Rw.v) h.1 ⟨B,0,none⟩ 1 1 [.slice x.ao x.R.length x.cap] rfl
  (fun j u l=>by
   rw[show(⟨B,0,none⟩:Addr).add j=⟨B,j,none⟩ by unfold Addr.add;split<;>simp_all,cell_of_row W B j _ _ _ U]
   simpa using l)
  (fun u l=>by simp at l;subst l;rfl) (by unfold maxLen;omega) (by omega) V (by omega) O
  (fun u l=>by simp[Value.cells]at l;subst l;rfl) (fun u l=>by simp at l;subst l;rfl)
 have F:∃t z,v'=.slice t (M.length+1) z:=by
  rcases L.2 with⟨_,e⟩|⟨g,aa,ad,F,_⟩
  ·omega
  ·exact⟨_,_,F⟩
 obtain⟨t,z,rfl⟩:=F
 exact⟨t,z,D,Z,h.snoc Q T L N e4,e5,N⟩
def Iy(R:List Nm)(f:Nat→Int)(k:Nat):Prop:=R.length=k∧∀j,j<k→bZ (bT R j).L∧(bT R j).neg=decide (f j<0)∧val (bT R j).L=(f j).natAbs∧(bT R j).L.length≤35184372088832
theorem Iy.snoc{R:List Nm}{f:Nat→Int}{k:Nat}{x:Nm}(h:Iy R f k)(d:bZ x.L∧x.neg=decide (f k<0)∧val x.L=(f k).natAbs∧x.L.length≤35184372088832):Iy (R++[x]) f (k+1):=by
 refine⟨by simp[h.1],fun j l=>?_⟩
 rw[Bs,h.1]
 by_cases e:j<k
 ·rw[if_pos e];exact h.2 j e
 ·obtain rfl:j=k:=by omega
  rw[if_neg e,if_pos rfl];exact d
def Ma(M:List Rw)(F:Nat→Nat→Int)(j c:Nat):Prop:=M.length=j∧∀i,i<j→Iy (aY M i).R (F i) c
theorem Ma.snoc{M:List Rw}{F:Nat→Nat→Int}{j c:Nat}{x:Rw}(h:Ma M F j c)(d:Iy x.R (F j) c):Ma (M++[x]) F (j+1) c:=by
 refine⟨by simp[h.1],fun i l=>?_⟩
 rw[Bt,h.1]
 by_cases e:i<j
 ·rw[if_pos e];exact h.2 i e
 ·obtain rfl:i=j:=by omega
  rw[if_neg e,if_pos rfl];exact d
def BL(w wr:World)(r c n cap:Nat)(ao:Option Addr)(v:Value)(M:List Rw):Prop:=
 aT wr w.heap.size (.int .i64 r) (.int .i64 c) (.slice ao n cap)∧OwnRows (w.heap.size+1) wr v M∧eR wr v∧Below w.heap.size w wr
def FR(w:World)(B:Nat)(wr:World)(r c n cap:Nat)(ao:Option Addr)(v u:Value)(M:List Rw)(R:List Nm):Prop:=
 BL w wr r c n cap ao v M∧cS B wr u R∧eR wr u∧w.heap.size+1≤B∧B≤wr.heap.size∧(∀m,v.ownBlock=some m→m<B)∧∀x∈M,x.R= []∨∃b off,x.ao=some ⟨b,off,none⟩∧b<B
theorem BL.all{w wr t:World}{r c n d:Nat}{z:Option Addr}{v:Value}{M:List Rw}(h:BL w wr r c n d z v M)(l:Below wr.heap.size wr t):BL w t r c n d z v M:=
 ⟨h.1.all l,h.2.1.below l,h.2.2.1.below l,h.2.2.2.trans (l.mono h.2.2.2.size)⟩
theorem FR.all{w:World}{B:Nat}{wr t:World}{r c n d:Nat}{z:Option Addr}{v u:Value}{M:List Rw}{R:List Nm}(h:FR w B wr r c n d z v u M R)(l:Below wr.heap.size wr t):FR w B t r c n d z v u M R:=
 ⟨h.1.all l,h.2.1.below l,h.2.2.1.below l,h.2.2.2.1,Nat.le_trans h.2.2.2.2.1 l.size,h.2.2.2.2.2⟩
theorem BL.start(w:World)(r c n d:Nat)(h:Option Addr):BL w ((w.alloc (.cells #[.int .i64 r,.int .i64 c,.slice h n d] 25)).alloc (.cells #[] 75)) r c n d h (.slice (some ⟨w.heap.size+1,0,none⟩) 0 0) []:=by
 have t:=ag w (.cells #[.int .i64 r,.int .i64 c,.slice h n d] 25)
 have G:=aH w (.cells #[.int .i64 r,.int .i64 c,.slice h n d] 25)
 have H:=aT.new w (.int .i64 r) (.int .i64 c) (.slice h n d)
 generalize w.alloc (.cells #[.int .i64 r,.int .i64 c,.slice h n d] 25)=l at*
 have z:=ag l (.cells #[] 75)
 have D:=OwnRows.start l (w.heap.size+1) (by omega)
 have F:=eR.empty l 75
 rw[G]at D F
 exact⟨H.all z,D,F,t.trans (z.mono t.size)⟩
theorem BL.inner{w wr:World}{r c n d:Nat}{t:Option Addr}{v:Value}{M:List Rw}(h:BL w wr r c n d t v M):FR w wr.heap.size (wr.alloc (.cells #[] 55)) r c n d t v (.slice (some ⟨wr.heap.size,0,none⟩) 0 0) M []:=by
 have z:=ag wr (.cells #[] 55)
 have I:=h.1.lt
 refine⟨h.all z,cS.start wr _ (Nat.le_refl _),eR.empty wr _,by omega,z.size,fun m D=>(h.2.1.lt m D).2,fun x F=>?_⟩
 rcases(h.2.1.2 x F).1.2.2 with e|⟨b,l,G,H,_⟩
 ·exact .inl e
 ·exact .inr ⟨b,l,G,H⟩
theorem FR.push{w:World}{B:Nat}{d:World}{r c n t:Nat}{V:Option Addr}{v u:Value}{M:List Rw}{R:List Nm}{k:Nat}{f:Nat→Int}(h:FR w B d r c n t V v u M R)(X:Iy R f k)(O:Bool)(a:Option Addr)(l Q:Nat)(hx:ar 0 d (.agg #[.bool O,.slice a l Q]) (f k))(hn:k≤36)(Y:TypeId):
  ∃J L N,(Builtin.append_ #[75,75] Y #[u,.slice (some ⟨d.heap.size,0,none⟩) 1 1]).run Tryz.prog (d.alloc (.cells #[.bool O,.slice a l Q] 55))=.ok (.slice J (k+1) L) N∧∃R',FR w B N r c n t V v (.slice J (k+1) L) M R'∧Iy R' f (k+1):=by
 have ba:=ag d (.cells #[.bool O,.slice a l Q] 55)
 obtain⟨x,ex,G⟩:=(hx.below ba).nm
 simp only[Value.agg.injEq,Array.mk.injEq,List.cons.injEq,Value.bool.injEq,Value.slice.injEq,and_true]at ex
 obtain⟨rfl,rfl,rfl,rfl⟩:=ex
 obtain⟨⟨h1,h2,h3,h4⟩,h5,h6,h7,h8,T,H⟩:=h.all ba
 have hk:=X.1
 subst hk
 obtain⟨J,L,N,e1,o2,c2,I⟩:=h5.push h6 x G.1 d.heap.size (heap_alloc_new d _) (by omega) h8 Y
 have F:=h5.lt
 have hs:=I.size
 refine⟨J,L,N,e1,R++[x],⟨⟨h1.grown I (fun e=>?_),h2.grown I (fun m D e=>?_) (fun y Z=>?_),h3.grownOther I (fun m D e=>?_),h4.grown I h4.size (fun m D=>?_)⟩,o2,c2,h7,by omega,T,H⟩,X.snoc G.2⟩
 ·have:=(F _ e).1;omega
 ·have:=(F _ e.symm).1;have:=T m D;omega
 ·refine⟨?_,fun z hz=>Av.ofClear h6 ((h2.2 y Z).1.2.1 z hz)⟩
  rcases H y Z with e|⟨b,U,e,hb⟩
  ·exact .inl e
  ·exact .inr ⟨b,U,e,fun e=>by have:=(F _ e.symm).1;omega⟩
 ·have:=(F _ e.symm).1;have:=T m D;omega
 ·have:=(F _ D).1;omega
theorem FR.done{w:World}{B:Nat}{d:World}{r c n D:Nat}{N:Option Addr}{v:Value}{l:Option Addr}{t:Nat}{M:List Rw}{R:List Nm}{j:Nat}{F:Nat→Nat→Int}(h:FR w B d r c n D N v (.slice l c t) M R)(O:Ma M F j c)(Q:Iy R (F j) c)(hn:j≤36)(T:TypeId):
  ∃H I J,(Builtin.append_ #[74,74] T #[v,.slice (some ⟨d.heap.size,0,none⟩) 1 1]).run Tryz.prog (d.alloc (.cells #[.slice l c t] 75))=.ok (.slice H (j+1) I) J∧∃U,BL w J r c n D N (.slice H (j+1) I) U∧Ma U F (j+1) c:=by
 have ba:=ag d (.cells #[.slice l c t] 75)
 obtain⟨⟨h1,X,Y,Z⟩,h5,h6,h7,h8,h9,aa⟩:=h.all ba
 obtain⟨a5,c5,e5,q1,q2⟩:=h5.nums
 have hj:=O.1
 have hc:=Q.1
 subst hj
 subst hc
 cases e5
 have L:ye v.ownBlock ⟨l,t,R⟩:=by
  refine⟨?_,fun z hz=>Av.ofClear Y (q1.2.1 z hz)⟩
  rcases q2 with e|⟨b',G,e,ad⟩
  ·left;simpa using e
  ·exact .inr ⟨b',G,e,fun e=>by have:=h9 b' e.symm;omega⟩
 obtain⟨H,I,J,e1,o2,c2,hg⟩:=X.push Y ⟨l,t,R⟩ q1 L d.heap.size (heap_alloc_new d _) (by omega) (by omega) T
 have V:=X.lt
 refine⟨H,I,J,e1,M++[⟨l,t,R⟩],⟨h1.grown hg (fun e=>?_),o2,c2,Z.grown hg Z.size (fun m hm=>?_)⟩,O.snoc Q⟩
 ·have:=(V _ e).1;omega
 ·have:=(V _ hm).1;omega
theorem BL.mat{w wr:World}{r c n t:Nat}{I:Option Addr}{v:Value}{j:Nat}{M:List Rw}{F:Nat→Nat→Int}(h:BL w wr r c n t I v M)(d:Ma M F j c):
  ∃D G,v=.slice D j G∧gV wr D G M∧M.length=j∧(∀i,i<j→(aY M i).R.length=c)∧(∀i k,i<j→k<c→eZ wr (lM M i k) (F i k)):=by
 obtain⟨L,N,O,H,Q⟩:=h.2.1.mat
 refine⟨L,N,by rw[O,d.1],H,d.1,fun i l=>(d.2 i l).1,fun i k l z=>⟨?_,(d.2 i l).2 k z⟩⟩
 have J:aY M i∈M:=iP (by rw[d.1];exact l)
 exact(H.2.1 _ J).2.1 _ (ic (by rw[(d.2 i l).1];exact z))
theorem Fc{w:World}{v:Value}{z:Int}(h:EJ w v (-1074) z)(F:z.natAbs<2^2098):
  Calls Tryz.prog 48 #[v,.int .i64 (-1074)] w fun e G=>∃u,e=.returned u∧ar 0 G u z∧Below w.heap.size w G:=by
 have J:(oM z).natAbs<eN:=Nat.lt_of_le_of_lt (rI z) (pq (k:=2098) F (by decide))
 obtain⟨neg,H,d,L,rfl,I,t,D,Q,_⟩:=bc.right h J
 by_cases l:z=0
 ·subst l
  have M:L.length=0:=(cT t).1 (by rw[D,de])
  rw[dP]
  have:=rK neg H d L 0 (-1074) w I t (fun e=>absurd M e) (by omega) (by omega)
  rw[D,de,kj]at this
  exact this
 ·have N:tz z.natAbs<2098:=kK _ 2098 (by omega) F
  have O:oE z (-1074)= -1074+(tz z.natAbs:Int):=d9 _ _ l
  have:=rK neg H d L (oE z (-1074)) (-1074) w I t (fun _=>by omega) (by omega) (by omega)
  rw[D,show up (oM z) (oE z (-1074)) (-1074)=z from mq z (-1074) l]at this
  exact this
theorem yx(r c n z:Nat)(J:Option Addr)(x:Nat→Nat→Nat)(F:Nat→Nat→Int)(Z:Nat→Prop)(w:World)(hr:r≤6)(hc:c≤6)
  (C1:∀h i k,Below w.heap.size w h→i<r→k<c→Calls Tryz.prog 50 #[.agg #[.int .i64 r,.int .i64 c,.slice J n z],.int .i64 (i:Nat),.int .i64 (k:Nat)] h fun e t=>e=.returned (.int .u64 (x i k:Nat))∧Below h.heap.size h t)
  (C2:∀h i k,i<r→k<c→Calls Tryz.prog 49 #[.int .u64 (x i k:Nat)] h fun e t=>∃u,e=.returned u∧EJ t u (-1074) (F i k)∧Below h.heap.size h t)
  (C3:∀h i k v,i<r→k<c→EJ h v (-1074) (F i k)→Calls Tryz.prog 48 #[v,.int .i64 (-1074)] h fun e t=>∃u,e=.returned u∧ar 0 t u (F i k)∧Below h.heap.size h t)
  (C4:∀h V X M,gV h V X M→M.length=r→(∀i,i<r→(aY M i).R.length=c)→(∀i k,i<r→k<c→eZ h (lM M i k) (F i k))→Calls Tryz.prog 51 #[.slice V r X] h fun e t=>∃k:Nat,e=.returned (.int .i64 (k:Nat))∧Z k∧Below h.heap.size h t):
  Calls Tryz.prog 13 #[.agg #[.int .i64 r,.int .i64 c,.slice J n z]] w fun e h=>∃k:Nat,e=.returned (.int .i64 (k:Nat))∧Z k∧Below w.heap.size w h:=by
 have K1:=ac C1;have K2:=ac C2;have K3:=ac C3;have K4:=ac C4
 have ST:=ac (BL.start w r c n z J)
 clear C1 C2 C3 C4
 go_enter Tryz.func13,Tryz.ntmps13
 go_wp2_with fail
 go_loopw[3,4] (fun v i wr=>∃(j:Nat) (M:List Rw),j≤r∧i=.int .i64 j∧Hid (BL w wr r c n z J v M)∧Hid (Ma M F j c)) (fun _ i _=>r-(intOf i).toNat)
 case atStart=>exact⟨0,[],Nat.zero_le _,rfl,ST,ac ⟨rfl,fun i hi=>by omega⟩⟩
 case round=>
  clear ST
  obtain⟨j,M,hj,rfl,l,hM⟩:=hrel
  have y0:=(uH l).1.c0
  by_cases D:j<r
  ·have ae:(j:Int)<(r:Int):=by omega
   have HI:=ac (uH l).inner
   clear l
   go_wp2_with fail
   clear y0
   generalize wr.heap.size=B at*
   go_loopw[5,6] (fun u i wq=>∃(k:Nat) (R:List Nm),k≤c∧i=.int .i64 k∧Hid (FR w B wq r c n z J u3 u M R)∧Hid (Iy R (F j) k)) (fun _ i _=>c-(intOf i).toNat)
   case atStart=>exact⟨0,[],Nat.zero_le _,rfl,HI,ac ⟨rfl,fun i hi=>by omega⟩⟩
   case round=>
    clear HI
    obtain⟨k,R,hk,rfl,l,O⟩:=hrel
    have y0:=(uH l).1.1.c0;have y1:=(uH l).1.1.c1;have y2:=(uH l).1.1.c2
    by_cases G:k<c
    ·have ai:(k:Int)<(c:Int):=by omega
     go_wp2_with fail
     refine(uH K1 _ j k (uH l).1.2.2.2 D G).mono ?_
     rintro e w1 ⟨rfl,d⟩
     replace l:=ac ((uH l).all d)
     clear d y0 y1 y2
     go_wp2_with fail
     refine(uH K2 _ j k D G).mono ?_
     rintro e w2 ⟨q,rfl,lv,d⟩
     replace l:=ac ((uH l).all d)
     have LV:=ac lv
     obtain⟨n2,a2,c2,L2,rfl,_⟩:=lv
     clear d
     go_wp2_with fail
     refine(uH K3 _ j k _ D G (uH LV)).mono ?_
     rintro e w4 ⟨q,rfl,⟨n4,a4,c4,L4,rfl,i4⟩,d⟩
     have S4:=ac ((uH l).all d)
     have Q4:=ac (show ar 0 w4 (.agg #[.bool n4,.slice a4 L4.length c4]) (F j k)from⟨n4,a4,c4,L4,rfl,i4⟩)
     generalize L4.length=l4 at*
     have L:=ac ((uH S4).push (uH O) n4 a4 l4 c4 (uH Q4) (by omega) 75)
     clear i4 d l S4 Q4 LV O
     go_wp2_with(at_builtin;refine jb rfl _ _ 75 rfl _ _ _ _ rfl rfl (uH L) ?_;rintro qo qc w5 ⟨R',T,U⟩;have H:=ac T;have I:=ac U;clear T U L)
     go_roundw
     case rel=>exact⟨k+1,R',by omega,by go_num,H,I⟩
     case measure=>simp[intOf];omega
    ·have aa:k=c:=by omega
     subst aa
     obtain⟨Y,c5,Q⟩:∃Y c5,u5=.slice Y k c5:=by
      obtain⟨Y,c5,Q,_,_⟩:=(uH l).2.1.nums
      exact⟨Y,c5,by rw[Q,(uH O).1]⟩
     subst Q
     have L:=ac ((uH l).done (uH hM) (uH O) (by omega) 74)
     clear l hM O y2
     go_wp2_with(at_builtin;refine jb rfl _ _ 74 rfl _ _ _ _ rfl rfl (uH L) ?_;rintro qo qc w5 ⟨M',T,U⟩;have H:=ac T;have I:=ac U;clear T U L)
     go_roundw
     case rel=>exact⟨j+1,M',by omega,by go_num,H,I⟩
     case measure=>simp[intOf];omega
  ·have ad:j=r:=by omega
   subst ad
   obtain⟨V,X,Q,ma⟩:=(uH l).mat (uH hM)
   subst Q
   have N:=ac ma
   have BB:=ac (uH l).2.2.2
   clear l hM ma
   go_wp2_with fail
   refine(uH K4 _ V X M (uH N).1 (uH N).2.1 (uH N).2.2.1 (uH N).2.2.2).mono ?_
   rintro e w7 ⟨k,rfl,hz,d⟩
   have HZ:=ac hz
   replace BB:=ac ((uH BB).trans (d.mono (uH BB).size))
   clear hz d N
   go_wp2
   go_ret
   exact⟨k,rfl,uH HZ,uH BB⟩
theorem Np{z:Nat}(h:z<2^2098):z<2^KK 0:=by
 rw[show KK 0=2098 by decide]
 exact h
theorem wg(r c d:Nat)(F:Option Addr)(S:List Nat)(w:World)(h:Mx w F d r c S)(G:∀x∈S,ah x=true):
  Calls Tryz.prog 13 #[.agg #[.int .i64 r,.int .i64 c,.slice F S.length d]] w fun e l=>∃k:Nat,e=.returned (.int .i64 (k:Nat))∧dw k (fun i k=>fZ (cj c S i k)) r c∧Below w.heap.size w l:=by
 refine yx r c S.length d F (fun i k=>cj c S i k) (fun i k=>fZ (cj c S i k)) (fun k=>dw k (fun i k=>fZ (cj c S i k)) r c) w h.2.2.1 h.2.2.2 (fun l i k z H t=>?_) (fun l i k H t=>Hz _ l (h.el_lt i k) (tA c S i k G)) (fun l i k v H t U=>Fc U (jR _ (tA c S i k G))) (fun l V O M I D X Y=>?_)
 ·exact Ie r c d i k F S l (h.below z) H t
 ·obtain⟨q1,q2,Q,T⟩:=LM D h.2.2.1 h.2.2.2 X Y (fun i k _ _=>jR _ (tA c S i k G))
  rcases Nat.eq_zero_or_pos r with N|N
  ·subst N
   have e:M= []:=List.length_eq_zero_iff.1 D
   subst e
   refine(v8 V O l I).mono ?_
   rintro e L ⟨rfl,z⟩
   exact⟨0,rfl,j3 c,z⟩
  ·have Z:=F8 I q1
   obtain⟨b,J,rfl,aa,ad⟩:=I.ne (by omega)
   have C:=v7 b J O M (iA M) l I q2 Z rfl (by omega) (fun i k H t=>by rw[Q i k (by omega) (by rw[T N]at t;exact t)];exact Np (jR _ (tA c S i k G)))
   rw[D]at C
   refine C.mono ?_
   rintro e L ⟨⟨k,rfl,t⟩,z⟩
   refine⟨k,rfl,Bv D Q T ?_,z⟩
   rw[D]
   exact uH t
def Jz(g:Nat→Nat)(j:Nat):List Nat:=4607182418800017408::q8 g (j-1)
end Go.Proofs.YtmpkkhackbpflaaGreatDoor
