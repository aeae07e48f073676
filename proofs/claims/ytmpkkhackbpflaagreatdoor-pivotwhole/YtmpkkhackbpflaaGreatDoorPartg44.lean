/- Part 44 of the texts. -/
import Derived.Test.YtmpkkhackbpflaaGreatDoorPartg42
set_option maxHeartbeats 8000000
namespace Go.Proofs.YtmpkkhackbpflaaGreatDoor
def eK(r c:Nat)(S:List Nat)(j k:Nat):Nat:=aX (bf c S j (r-j) k)
def ot(r c:Nat)(S:List Nat)(j:Nat):Nat→Nat
 |0=>j
 |t+1=>if cO (eK r c S j (ot r c S j t)) (eK r c S j (j+t))<0 then j+t else ot r c S j t
def tW(r c:Nat)(S:List Nat)(j:Nat):Nat→Bool
 |0=>true
 |t+1=>tW r c S j t&&ah (eK r c S j (j+t))
theorem yr(r c:Nat)(S:List Nat)(j:Nat):∀t,j≤ot r c S j t
 |0=>Nat.le_refl _
 |t+1=>by
  show j≤if _ then _ else _
  split
  ·exact Nat.le_add_right _ _
  ·exact yr r c S j t
theorem yt(r c:Nat)(S:List Nat)(j:Nat):∀t,0<t→ot r c S j t<j+t
 |0,h=>absurd h (Nat.lt_irrefl 0)
 |t+1,_=>by
  show(if _ then _ else _)<_
  split
  ·exact Nat.lt_succ_self (j+t)
  ·rcases Nat.eq_zero_or_pos t with rfl|h
   ·exact Nat.lt_succ_self j
   ·exact Nat.lt_succ_of_lt (yt r c S j t h)
def jB(r c:Nat)(S:List Nat)(j:Nat):Nat:=ot r c S j (c-j)
def Cg(r c:Nat)(S:List Nat)(j:Nat):Bool:=tW r c S j (c-j)
theorem yu(r c:Nat)(S:List Nat)(j:Nat):j≤jB r c S j:=yr _ _ _ _ _
theorem gU(r c:Nat)(S:List Nat){j:Nat}(h:j<c):jB r c S j<c:=by
 have:=yt r c S j (c-j) (by omega)
 unfold jB
 omega
def wL(l:List Nat)(i k:Nat):List Nat:=(l.set i (l.getD k 0)).set k (l.getD i 0)
theorem tH(l:List Nat)(i k:Nat):(wL l i k).length=l.length:=by unfold wL;rw[List.length_set,List.length_set]
theorem vZ(l:List Nat)(i x k:Nat)(d:i<l.length):(l.set i x).getD k 0=if k=i then x else l.getD k 0:=by
 simp only[List.getD_eq_getElem?_getD,List.getElem?_set]
 by_cases h:i=k
 ·subst h;simp[d]
 ·rw[if_neg h,if_neg (fun e=>h e.symm)]
theorem LP(l:List Nat){i k:Nat}(d:i<l.length)(h:k<l.length)(q:Nat):(wL l i k).getD q 0=if q=k then l.getD i 0 else if q=i then l.getD k 0 else l.getD q 0:=by
 unfold wL
 rw[vZ _ _ _ _ (by rw[List.length_set];exact h),vZ _ _ _ _ d]
def Nk(r c:Nat)(S:List Nat)(L:List Nat):List Nat:=mW r L.length (fun i k=>cj c S i (L.getD k 0))
theorem Iu(r c:Nat)(S L:List Nat):(Nk r c S L).length=r*L.length:=fW _ _ _
theorem Nl(r c:Nat)(S L:List Nat){p q:Nat}(d:p<r)(h:q<L.length):cj L.length (Nk r c S L) p q=cj c S p (L.getD q 0):=zS r L.length _ d h
theorem qk{n q:Nat}(h:q<n):(List.range n).getD q 0=q:=by
 rw[List.getD_eq_getElem?_getD,List.getElem?_range h];rfl
def BJ(r c:Nat)(S:List Nat)(j a:Nat):List Nat:=Nk r c S (wL (List.range c) j a)
theorem jC(c j a:Nat):(wL (List.range c) j a).length=c:=by rw[tH,List.length_range]
theorem zZ(r c:Nat)(S:List Nat)(j a:Nat):(BJ r c S j a).length=r*c:=by unfold BJ;rw[Iu,jC]
def jJ(j a q:Nat):Nat:=if q=a then j else if q=j then a else q
theorem rX(r c:Nat)(S:List Nat){j a p q:Nat}(d:j<c)(h:a<c)(t:p<r)(l:q<c):cj c (BJ r c S j a) p q=cj c S p (jJ j a q):=by
 have e:=Nl r c S (wL (List.range c) j a) t (q:=q) (by rw[jC];exact l)
 rw[jC]at e
 unfold BJ
 rw[e,LP _ (by rw[List.length_range];exact d) (by rw[List.length_range];exact h),qk d,qk h,qk l]
 rfl
def eP(r c:Nat)(S:List Nat)(j:Nat):List Nat:=BJ r c S j (jB r c S j)
theorem tI(r c:Nat)(S:List Nat)(j:Nat):(eP r c S j).length=r*c:=zZ _ _ _ _ _
def mX(r c:Nat)(S:List Nat)(j:Nat):List Nat:=if j+1<r then jI r c (eP r c S j) j else eP r c S j
theorem Iv(r c:Nat)(S:List Nat)(j:Nat):(mX r c S j).length=r*c:=by unfold mX;split<;>first|exact Is _ _ _ _|exact tI _ _ _ _
def dN(r c:Nat)(S:List Nat):Nat→List Nat
 |0=>S
 |j+1=>mX r c (dN r c S j) j
theorem kx(r c:Nat)(S:List Nat)(h:S.length=r*c):∀j,(dN r c S j).length=r*c
 |0=>h
 |_+1=>Iv _ _ _ _
def Iw(r c:Nat)(S:List Nat):Nat→List Nat
 |0=>List.range c
 |j+1=>wL (Iw r c S j) j (jB r c (dN r c S j) j)
theorem mK(r c:Nat)(S:List Nat):∀j,(Iw r c S j).length=c
 |0=>List.length_range
 |j+1=>by show(wL _ _ _).length=c;rw[tH,mK r c S j]
def ky(r c:Nat)(S:List Nat)(j:Nat):List Nat:=bD r c (eP r c (dN r c S j) j) j
theorem mL(r c:Nat)(S:List Nat)(j:Nat):(ky r c S j).length=r-j:=Ir _ _ _ _
def Jw(r c:Nat)(S:List Nat)(j:Nat):Bool:=Cg r c S j&&(decide (r≤j+1)||EU (bD r c (eP r c S j) j))
def Ix(r c:Nat)(S:List Nat):Nat→Bool
 |0=>true
 |j+1=>Ix r c S j&&Jw r c (dN r c S j) j
def Ch(r:Nat)(X:Nat→List Nat)(K:Nat):Nat→List Nat
 |0=>Ju r
 |t+1=>qE r r (Ch r X K t) (K-1-t) 0 (cu (X (K-1-t))) (dr (X (K-1-t)))
theorem iF(r:Nat)(X:Nat→List Nat)(K:Nat):∀t,(Ch r X K t).length=r*r
 |0=>show(Ju r).length=r*r from fW r r _
 |_+1=>kv _ _ _ _ _ _ _
def Ci(r c:Nat)(S:List Nat):List Nat:=Ch r (ky r c S) (jA r c) (jA r c)
def jD(r c:Nat)(S:List Nat):List Nat:=dN r c S (min c r)
def LU(r c:Nat)(S:List Nat):List Nat:=Iw r c S (min c r)
def Jx(r c:Nat)(S:List Nat):Bool:=Ix r c S (min c r)&&(eM (Ci r c S)&&eM (jD r c S))
theorem E9(l:List Nat){i k:Nat}(t:i<l.length)(d:k<l.length):(wL l i k).Perm l:=by
 rw[List.perm_iff_count]
 intro x
 unfold wL
 rw[List.count_set (by rw[List.length_set];exact d),List.count_set t]
 have D:(l.set i (l.getD k 0))[k]'(by rw[List.length_set];exact d)=l[k]:=by
  rw[List.getElem_set]
  split
  ·rename_i h;subst h;simp[List.getD_eq_getElem?_getD,d]
  ·rfl
 rw[D]
 have F:l.getD k 0=l[k]:=by simp[List.getD_eq_getElem?_getD,d]
 have G:l.getD i 0=l[i]:=by simp[List.getD_eq_getElem?_getD,t]
 rw[F,G]
 have z:(l[i]==x)=true→0<List.count x l:=fun h=>List.count_pos_iff.2 (by rw[←eq_of_beq h];exact List.getElem_mem t)
 cases h1:(l[i]==x)<;>cases h2:(l[k]==x)
 ·simp
 ·simp
 ·simp
  have:=z h1;omega
 ·simp
  have:=z h1;omega
theorem v4(r c:Nat)(S:List Nat):∀j,j≤c→(Iw r c S j).Perm (List.range c)
 |0,_=>List.Perm.refl _
 |j+1,h=>(E9 _ (by rw[mK];omega) (by rw[mK];exact gU r c _ (by omega))).trans (v4 r c S j (by omega))
open Go.RowKit
attribute [local go_sem ↓] Go.wp_at_zero Go.wp_at_succ
theorem nP(l:Bool)(t:Option Addr)(d:Nat)(n:Nat)(w:World):
  Calls Tryz.prog 118 #[.agg #[.bool l,.slice t n d]] w fun e z=>e=.returned (.bool (decide (n=0)))∧Below w.heap.size w z:=by
 by_cases h:n=0
 ·subst h
  go_enter Tryz.func118,Tryz.ntmps118
  go_wp2
  go_ret
  exact⟨rfl,(Below.refl _ _).alloc (Nat.le_refl _) _⟩
 ·have D:((n:Int)==0)=false:=by simp;omega
  have H:=ac (decide_eq_false h)
  clear h
  go_enter Tryz.func118,Tryz.ntmps118
  go_wp2
  go_ret
  exact⟨iL (uH H).symm,(Below.refl _ _).alloc (Nat.le_refl _) _⟩
def nilAt(N:List Rw)(i c:Nat):Prop:=(bT (aY N i).R c).L.length=0
theorem BK(b Q T:Nat)(N:List Rw)(D c n:Nat)(w:World)(h:gV w (some ⟨b,Q,none⟩) T N)(hr:∀i,i<N.length→(aY N i).R.length=n)(hc:c<n)(U:D≤N.length)(hm:N.length≤6)(hn:n≤6):
  Calls Tryz.prog 117 #[.slice (some ⟨b,Q,none⟩) N.length T,.int .i64 D,.int .i64 c] w fun e w'=>(∃k:Int,e=.returned (.int .i64 k)∧((k= -1∧∀i,D≤i→i<N.length→nilAt N i c)∨∃i:Nat,k=i∧D≤i∧i<N.length∧¬nilAt N i c))∧Below w.heap.size w w':=by
 obtain⟨F,M⟩:∃F,N.length=F:=⟨_,rfl⟩
 have HL:=ac M;have HM:=ac h;have HR:=ac hr
 rw[M]at U hm⊢
 have ao:(c:Int)<(n:Int):=by omega
 clear h hr M
 go_enter Tryz.func117,Tryz.ntmps117
 go_wp2_with fail
 go_loopw[7] (fun v wr=>∃i:Nat,D≤i∧i≤F∧v=.int .i64 i∧Hid (Below w.heap.size w wr)∧Hid (∀q,D≤q→q<i→nilAt N q c)) (fun v _=>F-(intOf v).toNat)
 case atStart=>exact⟨D,Nat.le_refl _,U,rfl,ac (Below.refl _ _),ac (fun q h1 h2=>by omega)⟩
 case round=>
  obtain⟨i,ai,hi,rfl,l,hz⟩:=hrel
  by_cases V:i<F
  ·have ap:(i:Int)<(F:Int):=by omega
   have H:i<N.length:=by rw[uH HL];exact V
   have I:=(uH HM).below (uH l)
   have X:=uH HR i H
   have d:=I.nums H
   obtain⟨b1,o1,t,z,_⟩:=d.ne (by omega)
   obtain⟨b',am,e',aa,G⟩:=I.ne (by omega)
   simp only[Option.some.injEq,Addr.mk.injEq,and_true]at e'
   obtain⟨rfl,rfl⟩:=e'
   have J:=G i H
   rw[t,X]at J
   rw[t]at d
   have Y:=d.cells (k:=c) (by omega)
   obtain⟨x,hx⟩:∃x,bT (aY N i).R c=x:=⟨_,rfl⟩
   have Z:=ac (show nilAt N i c↔x.L.length=0 by unfold nilAt;rw[hx])
   rw[hx]at Y
   obtain⟨c1,c2⟩:=Y
   generalize (aY N i).cap=cr at*
   obtain⟨nx,ax,cx,Lx⟩:=x
   simp only at c1 c2 Z
   generalize Lx.length=lx at*
   clear I X d G hx z t aa
   go_wp2_with fail
   refine(nP nx ax cx lx _).mono ?_
   rintro e w1 ⟨rfl,z⟩
   have B1:=ac ((uH l).trans (z.mono (uH l).size))
   by_cases O:lx=0
   ·rw[decide_eq_true O]
    have HZ:=ac (fun q (h1:D≤q) (h2:q<i+1)=>(show nilAt N q c by
     rcases Nat.lt_or_ge q i with h|h
     ·exact uH hz q h1 h
     ·obtain rfl:q=i:=by omega
      exact(uH Z).2 O))
    clear z l hz c1 c2 J Z O
    go_wp2
    go_roundw
    case rel=>exact⟨i+1,by omega,by omega,by go_num,B1,HZ⟩
    case measure=>simp[intOf];omega
   ·rw[decide_eq_false O]
    have ad:=ac (show¬nilAt N i c from fun hh=>O ((uH Z).1 hh))
    clear z l hz c1 c2 J Z O
    go_wp2
    go_ret
    exact⟨⟨_,rfl,.inr ⟨i,rfl,ai,V,uH ad⟩⟩,uH B1⟩
  ·have ae:¬(i:Int)<(F:Int):=by omega
   have aq:decide ((i:Int)<(F:Int))=false:=decide_eq_false ae
   go_wp2
   go_ret
   exact⟨⟨_,rfl,.inl ⟨rfl,fun q h1 h2=>uH hz q h1 (by omega)⟩⟩,uH l⟩
def rY:Nat:=8192
def mM:Nat:=4294967296^rY
theorem ar.limbsR{B:Nat}{w:World}{v:Value}{x:Int}(h:ar B w v x)(F:x.natAbs<mM):∃d l t A,v=.agg #[.bool d,.slice l A.length t]∧af w l t A∧aj d A=x∧A.length≤8192:=by
 obtain⟨d,l,t,A,rfl,z,I,G,H,D,J⟩:=h
 exact⟨d,l,t,A,rfl,z,ie H D,(iH A z.2.1 G rY).2 (by rw[D];exact F)⟩
theorem ou{B h:Nat}{w:World}{v u:Value}{x y:Int}(l:ar B w v x)(t:ar h w u y)(z:x.natAbs<mM)(D:y.natAbs<mM):
  Calls Tryz.prog 90 #[v,u] w fun e d=>∃r,e=.returned r∧ar 0 d r (x*y)∧Below w.heap.size w d:=by
 obtain⟨F,G,H,A,rfl,I,J,T⟩:=l.limbsR z
 obtain⟨L,M,N,C,rfl,O,Q,U⟩:=t.limbsR D
 have:=xg F L G M H N A C w I O (by omega) (by omega)
 rwa[J,Q]at this
theorem yv{B l:Nat}{w:World}{v u:Value}{x y:Int}(t:ar B w v x)(z:ar l w u y)(D:x.natAbs<mM)(F:y.natAbs<mM):
  Calls Tryz.prog 165 #[v,u] w fun e d=>∃r,e=.returned r∧ar w.heap.size d r (x-y)∧Below w.heap.size w d:=by
 obtain⟨G,H,I,A,rfl,J,L,V⟩:=t.limbsR D
 obtain⟨M,N,O,C,rfl,Q,T,X⟩:=z.limbsR F
 refine(wV G M H N I O A C w J Q (by omega) (by omega)).mono ?_
 rintro e d ⟨r,rfl,h,U⟩
 rw[L,T]at h
 exact⟨r,rfl,h.num (by omega),U⟩
def Jy(w wr:World)(v:Value)(R:List Nm)(k:Nat)(f:Nat→Int)(x y:Nm):Prop:=
 cS (w.heap.size+2) wr v R∧R.length=k∧(∀q,q<k→eZ wr (bT R q) (f q))∧(∀z∈R,bB w.heap.size z.ao z.L)∧Below w.heap.size w wr∧aC wr w.heap.size (.bool x.neg) (.slice x.ao x.L.length x.cap)∧aC wr (w.heap.size+1) (.bool y.neg) (.slice y.ao y.L.length y.cap)∧w.heap.size+2≤wr.heap.size
theorem Jy.below{w wr l:World}{v:Value}{R:List Nm}{k:Nat}{f:Nat→Int}{x y:Nm}(h:Jy w wr v R k f x y)(d:Below wr.heap.size wr l):Jy w l v R k f x y:=
 ⟨h.1.below d,h.2.1,fun q t=>(h.2.2.1 q t).below d,h.2.2.2.1,h.2.2.2.2.1.trans (d.mono h.2.2.2.2.1.size),h.2.2.2.2.2.1.below d h.2.2.2.2.2.1.lt,h.2.2.2.2.2.2.1.below d h.2.2.2.2.2.2.1.lt,Nat.le_trans h.2.2.2.2.2.2.2 d.size⟩
theorem Jy.snoc{w wr F:World}{v v':Value}{R:List Nm}{k:Nat}{f:Nat→Int}{x y z:Nm}(h:Jy w wr v R k f x y)(M:eZ wr z (f k))(T:bB w.heap.size z.ao z.L)(U:Av v.ownBlock z)
  (V:F.ownsRow (w.heap.size+2) 55 2 v' (k+1) (cZ R++[.bool z.neg,.slice z.ao z.L.length z.cap])) (t:wr.grownBy F v.ownBlock) (X:v'.ownBlock=v.ownBlock∨v'.ownBlock=some wr.heap.size):Jy w F v' (R++[z]) (k+1) f x y:=by
 obtain⟨O,J,Y,Z,Q,h6,h7,h8⟩:=h
 have D:=O.snoc M.1 U (by rw[J];exact V) t X
 have d:∀m,v.ownBlock=some m→w.heap.size+2≤m:=fun m G=>(O.lt m G).1
 have H:∀q,q<k+1→af F (bT (R++[z]) q).ao (bT (R++[z]) q).cap (bT (R++[z]) q).L:=fun q N=>(D.2 _ (ic (by simp;omega))).1
 refine⟨D,by simp[J],fun q N=>?_,fun u l=>?_,fY Q t Q.size (fun m G=>by have:=d m G;omega),?_,?_,Nat.le_trans h8 t.size⟩
 ·have:=H q N
  rcases Nat.lt_or_ge q k with e|e
  ·have I:bT (R++[z]) q=bT R q:=by unfold bT;rw[List.getElem?_append_left (by omega)]
   rw[I]at this⊢
   exact⟨this,(Y q e).2⟩
  ·obtain rfl:q=k:=by omega
   have I:bT (R++[z]) q=z:=by unfold bT;rw[←J,List.getElem?_append_right (Nat.le_refl _)];simp
   rw[I]at this⊢
   exact⟨this,M.2⟩
 ·rcases List.mem_append.1 l with l|l
  ·exact Z u l
  ·simp at l;subst l;exact T
 ·exact(t.block w.heap.size (by omega) (fun e=>by have:=d w.heap.size e.symm;omega)).trans h6
 ·exact(t.block (w.heap.size+1) (by omega) (fun e=>by have:=d (w.heap.size+1) e.symm;omega)).trans h7
theorem Fa(b1 o1 c1 b2 o2 c2 n:Nat)(R1 R2:List Nm)(x y:Nm)(fa fb:Nat→Int)(X Y:Int)(w:World)(h1:bP w (some ⟨b1,o1,none⟩) c1 R1)(h2:bP w (some ⟨b2,o2,none⟩) c2 R2)(l1:R1.length=n)(l2:R2.length=n)(hn:0<n)(b7:n≤6)
  (v1:∀k,k<n→eZ w (bT R1 k) (fa k)) (v2:∀k,k<n→eZ w (bT R2 k) (fb k)) (hx:eZ w x X) (hy:eZ w y Y)
  (t1:∀k,k<n→(fa k).natAbs<mM∧(fb k).natAbs<mM∧(fa k*X).natAbs<mM∧(fb k*Y).natAbs<mM) (tX:X.natAbs<mM) (tY:Y.natAbs<mM):
  Calls Tryz.prog 119 #[.slice (some ⟨b1,o1,none⟩) n c1,.agg #[.bool x.neg,.slice x.ao x.L.length x.cap],.slice (some ⟨b2,o2,none⟩) n c2,.agg #[.bool y.neg,.slice y.ao y.L.length y.cap]] w fun e l=>∃ao T R,e=.returned (.slice ao n T)∧bP l ao T R∧bB (w.heap.size+2) ao (R.map (fun _=>0))∧R.length=n∧(∀q,q<n→eZ l (bT R q) (fa q*X-fb q*Y))∧(∀z∈R,bB w.heap.size z.ao z.L)∧Below w.heap.size w l:=by
 obtain⟨i0,b0,b3,b4,b5⟩:=info_parts Bu
 have H1:=ac h1;have H2:=ac h2;have V1:=ac v1;have V2:=ac v2;have HX:=ac hx;have HY:=ac hy;have T1:=ac t1;have TX:=ac (fun _:Unit=>tX);have TY:=ac (fun _:Unit=>tY);have L1:=ac l1;have L2:=ac l2
 have a5:Jy w (((w.alloc (.cells #[.bool x.neg,.slice x.ao x.L.length x.cap] 55)).alloc (.cells #[.bool y.neg,.slice y.ao y.L.length y.cap] 55)).alloc (.cells #[] 55)) (.slice (some ⟨w.heap.size+2,0,none⟩) 0 0) [] 0 (fun q=>fa q*X-fb q*Y) x y:=by
  have e:((w.alloc (.cells #[.bool x.neg,.slice x.ao x.L.length x.cap] 55)).alloc (.cells #[.bool y.neg,.slice y.ao y.L.length y.cap] 55)).heap.size=w.heap.size+2:=by simp
  have s:=cS.start ((w.alloc (.cells #[.bool x.neg,.slice x.ao x.L.length x.cap] 55)).alloc (.cells #[.bool y.neg,.slice y.ao y.L.length y.cap] 55)) (w.heap.size+2) (by omega)
  rw[e]at s
  refine⟨s,rfl,fun q hq=>by omega,by simp,(((Below.refl _ _).alloc (Nat.le_refl _) _).alloc (by simp) _).alloc (by simp;omega) _,((aC.new _ _ _).old _).old _,?_,by simp⟩
  have:=aC.new (w.alloc (.cells #[.bool x.neg,.slice x.ao x.L.length x.cap] 55)) (.bool y.neg) (.slice y.ao y.L.length y.cap)
  simp only[World.size_alloc]at this
  exact this.old _
 have aD:=ac a5
 obtain⟨nx,ax,cx,Lx⟩:=x
 obtain⟨ny,ay,cy,Ly⟩:=y
 simp only at aD⊢
 have b8:(0:Int)<(n:Int):=by omega
 clear h1 h2 v1 v2 hx hy t1 tX tY a5 l1 l2
 go_enter Tryz.func119,Tryz.ntmps119
 go_wp2_with fail
 go_loopw[9,10] (fun v i wr=>∃(k:Nat) (R:List Nm),k≤n∧i=.int .i64 k∧Hid (Jy w wr v R k (fun q=>fa q*X-fb q*Y) ⟨nx,ax,cx,Lx⟩ ⟨ny,ay,cy,Ly⟩)) (fun _ i _=>n-(intOf i).toNat)
 case atStart=>exact⟨0,[],Nat.zero_le _,rfl,aD⟩
 case round=>
  obtain⟨k,R,hk,rfl,hI⟩:=hrel
  clear aD
  by_cases F:k<n
  ·have b9:(k:Int)<(n:Int):=by omega
   have J:=uH hI
   have aI:=J.2.2.2.2.1
   have a6:=J.2.2.2.2.2.2.2
   obtain⟨cd,ce,bo,a2,bp⟩:=(uH H1).ne (by rw[uH L1];exact hn)
   obtain⟨cf,cg,bq,a3,bt⟩:=(uH H2).ne (by rw[uH L2];exact hn)
   simp only[Option.some.injEq,Addr.mk.injEq,and_true]at bo bq
   obtain⟨rfl,rfl⟩:=bo
   obtain⟨rfl,rfl⟩:=bq
   have d1:=bp k (by rw[uH L1];exact F)
   have d2:=bt k (by rw[uH L2];exact F)
   have p1:=uH V1 k F
   have p2:=uH V2 k F
   obtain⟨pp,bv⟩:∃pp,bT R1 k=pp:=⟨_,rfl⟩
   obtain⟨qq,bx⟩:∃qq,bT R2 k=qq:=⟨_,rfl⟩
   rw[bv]at d1 p1
   rw[bx]at d2 p2
   obtain⟨np,ap,cp,Lp⟩:=pp
   obtain⟨nq,aq,cq,Lq⟩:=qq
   simp only at d1 d2
   have a7:=ac (fun l (h:Below w.heap.size w l)=>ou (p1.below h).num ((uH HX).below h).num (uH T1 k F).1 (uH TX ()))
   have ba:=ac (fun l (h:Below w.heap.size w l)=>ou (p2.below h).num ((uH HY).below h).num (uH T1 k F).2.1 (uH TY ()))
   have bb:=ac (fun l u v (hu:ar 0 l u (fa k*X)) (hv:ar 0 l v (fb k*Y))=>yv hu hv (uH T1 k F).2.2.1 (uH T1 k F).2.2.2)
   have G:=ac (fun l (h:Below (w.heap.size+2) wr l)=>(show Below (w.heap.size+2) wr l∧l.cell? ⟨b1,o1+k*2,none⟩=some (.bool np)∧l.cell? ⟨b1,o1+k*2+1,none⟩=some (.slice ap Lp.length cp)∧l.cell? ⟨b2,o2+k*2,none⟩=some (.bool nq)∧l.cell? ⟨b2,o2+k*2+1,none⟩=some (.slice aq Lq.length cq)∧l.cell? ⟨w.heap.size,0,none⟩=some (.bool nx)∧l.cell? ⟨w.heap.size,1,none⟩=some (.slice ax Lx.length cx)∧l.cell? ⟨w.heap.size+1,0,none⟩=some (.bool ny)∧l.cell? ⟨w.heap.size+1,1,none⟩=some (.slice ay Ly.length cy)from by
    have hh:=aI.trans (h.mono (by omega))
    have x0:=J.2.2.2.2.2.1.below h (by omega)
    have x1:=J.2.2.2.2.2.2.1.below h (by omega)
    refine⟨h,?_,?_,?_,?_,x0.c0,x0.c1,x1.c0,x1.c1⟩
    ·rw[hh.cell (p:=⟨b1,o1+k*2,none⟩) a2];exact d1.1
    ·rw[hh.cell (p:=⟨b1,o1+k*2+1,none⟩) a2];exact d1.2
    ·rw[hh.cell (p:=⟨b2,o2+k*2,none⟩) a3];exact d2.1
    ·rw[hh.cell (p:=⟨b2,o2+k*2+1,none⟩) a3];exact d2.2))
   have bd:∀m,u9.ownBlock=some m→w.heap.size+2≤m∧m<wr.heap.size:=fun m hm=>J.1.lt m hm
   have a0:=ac bd;have BW:=ac aI;have D:=ac a6
   clear J aI a6 bp bt d1 d2 p1 p2 bv bx a2 a3 bd
   go_wp2_with fail
   refine aG (fun W=>W=wr) rfl ?_
   rintro O e0
   subst e0
   have U:Below O.heap.size O O.drew:=(Below.refl _ _).drew
   refine wp_region_held_drew (S:=(fun l=>Below (w.heap.size+2) O l∧l.cell? ⟨b1,o1+k*2,none⟩=some (.bool np)∧l.cell? ⟨b1,o1+k*2+1,none⟩=some (.slice ap Lp.length cp)∧l.cell? ⟨b2,o2+k*2,none⟩=some (.bool nq)∧l.cell? ⟨b2,o2+k*2+1,none⟩=some (.slice aq Lq.length cq)∧l.cell? ⟨w.heap.size,0,none⟩=some (.bool nx)∧l.cell? ⟨w.heap.size,1,none⟩=some (.slice ax Lx.length cx)∧l.cell? ⟨w.heap.size+1,0,none⟩=some (.bool ny)∧l.cell? ⟨w.heap.size+1,1,none⟩=some (.slice ay Ly.length cy))) (by kernel_rfl) ?_ (fun t=>?_)
   ·exact uH G _ (U.mono (uH D))
   refine wpAnyH_take (i:=0) (oi:={dst:=some 18,op:=Op.move (Operand.tmp 9),type:=75,pos:= "ref.go:90",after:=#[],guard:=none}) (v:=?_) rfl (by kernel_rfl) (by kernel_rfl) (by kernel_rfl) (fun _ _ _ h=>h) (Or.inl ⟨by rfl,?_⟩) (by assumption) ?_
   rotate_left
   ·((intro w d;(try dsimp only at d);go_simp)<;>with_reducible rfl)
   simp only[Act.put,List.setIfInBounds_toArray,List.set_cons_zero,List.set_cons_succ]
   refine wpAnyH_take (i:=1) (oi:={dst:=some 19,op:=Op.move (Operand.tmp 0),type:=75,pos:= "ref.go:90",after:=#[],guard:=none}) (v:=?_) rfl (by kernel_rfl) (by kernel_rfl) (by kernel_rfl) (fun _ _ _ h=>h) (Or.inl ⟨by rfl,?_⟩) (by assumption) ?_
   rotate_left
   ·((intro w d;(try dsimp only at d);go_simp)<;>with_reducible rfl)
   simp only[Act.put,List.setIfInBounds_toArray,List.set_cons_zero,List.set_cons_succ]
   refine wpAnyH_take (i:=2) (oi:={dst:=some 20,op:=Op.move (Operand.tmp 10),type:=3,pos:= "ref.go:90",after:=#[],guard:=none}) (v:=?_) rfl (by kernel_rfl) (by kernel_rfl) (by kernel_rfl) (fun _ _ _ h=>h) (Or.inl ⟨by rfl,?_⟩) (by assumption) ?_
   rotate_left
   ·((intro w d;(try dsimp only at d);go_simp)<;>with_reducible rfl)
   simp only[Act.put,List.setIfInBounds_toArray,List.set_cons_zero,List.set_cons_succ]
   refine wpAnyH_take (i:=3) (oi:={dst:=some 21,op:=Op.indexAddr 75 (Operand.tmp 19) (Operand.tmp 20),type:=0,pos:= "ref.go:90",after:=#[{on:=1,ground:=Ground.data},{on:=2,ground:=Ground.data}],guard:=none}) (v:=?_) rfl (by kernel_rfl) (by kernel_rfl) (by kernel_rfl) (fun _ _ _ h=>h) (Or.inl ⟨by rfl,?_⟩) (by assumption) ?_
   rotate_left
   ·((intro w d;(try dsimp only at d);go_simp)<;>with_reducible rfl)
   simp only[Act.put,List.setIfInBounds_toArray,List.set_cons_zero,List.set_cons_succ]
   refine wpAnyH_take (i:=4) (oi:={dst:=some 22,op:=Op.load 55 (Operand.tmp 21),type:=55,pos:= "ref.go:90",after:=#[{on:=3,ground:=Ground.data}],guard:=none}) (v:=?_) rfl (by kernel_rfl) (by kernel_rfl) (by kernel_rfl) (fun _ _ _ h=>h) (Or.inl ⟨by rfl,?_⟩) (by assumption) ?_
   rotate_left
   ·((intro w d;(try dsimp only at d);go_simp)<;>with_reducible rfl)
   simp only[Act.put,List.setIfInBounds_toArray,List.set_cons_zero,List.set_cons_succ]
   refine wpAnyH_take (i:=5) (oi:={dst:=some 23,op:=Op.load 55 (Operand.tmp 5),type:=55,pos:= "ref.go:90",after:=#[],guard:=none}) (v:=?_) rfl (by kernel_rfl) (by kernel_rfl) (by kernel_rfl) (fun _ _ _ h=>h) (Or.inl ⟨by rfl,?_⟩) (by assumption) ?_
   rotate_left
   ·((intro w d;(try dsimp only at d);go_simp)<;>with_reducible rfl)
   simp only[Act.put,List.setIfInBounds_toArray,List.set_cons_zero,List.set_cons_succ]
   refine wpAnyH_take (i:=7) (oi:={dst:=some 25,op:=Op.move (Operand.tmp 2),type:=75,pos:= "ref.go:90",after:=#[],guard:=none}) (v:=?_) rfl (by kernel_rfl) (by kernel_rfl) (by kernel_rfl) (fun _ _ _ h=>h) (Or.inl ⟨by rfl,?_⟩) (by assumption) ?_
   rotate_left
   ·((intro w d;(try dsimp only at d);go_simp)<;>with_reducible rfl)
   simp only[Act.put,List.setIfInBounds_toArray,List.set_cons_zero,List.set_cons_succ]
   refine wpAnyH_take (i:=8) (oi:={dst:=some 26,op:=Op.move (Operand.tmp 10),type:=3,pos:= "ref.go:90",after:=#[],guard:=none}) (v:=?_) rfl (by kernel_rfl) (by kernel_rfl) (by kernel_rfl) (fun _ _ _ h=>h) (Or.inl ⟨by rfl,?_⟩) (by assumption) ?_
   rotate_left
   ·((intro w d;(try dsimp only at d);go_simp)<;>with_reducible rfl)
   simp only[Act.put,List.setIfInBounds_toArray,List.set_cons_zero,List.set_cons_succ]
   refine wpAnyH_take (i:=9) (oi:={dst:=some 27,op:=Op.indexAddr 75 (Operand.tmp 25) (Operand.tmp 26),type:=0,pos:= "ref.go:90",after:=#[{on:=7,ground:=Ground.data},{on:=8,ground:=Ground.data}],guard:=none}) (v:=?_) rfl (by kernel_rfl) (by kernel_rfl) (by kernel_rfl) (fun _ _ _ h=>h) (Or.inl ⟨by rfl,?_⟩) (by assumption) ?_
   rotate_left
   ·((intro w d;(try dsimp only at d);go_simp)<;>with_reducible rfl)
   simp only[Act.put,List.setIfInBounds_toArray,List.set_cons_zero,List.set_cons_succ]
   refine wpAnyH_take (i:=10) (oi:={dst:=some 28,op:=Op.load 55 (Operand.tmp 27),type:=55,pos:= "ref.go:90",after:=#[{on:=9,ground:=Ground.data}],guard:=none}) (v:=?_) rfl (by kernel_rfl) (by kernel_rfl) (by kernel_rfl) (fun _ _ _ h=>h) (Or.inl ⟨by rfl,?_⟩) (by assumption) ?_
   rotate_left
   ·((intro w d;(try dsimp only at d);go_simp)<;>with_reducible rfl)
   simp only[Act.put,List.setIfInBounds_toArray,List.set_cons_zero,List.set_cons_succ]
   refine wpAnyH_take (i:=11) (oi:={dst:=some 29,op:=Op.load 55 (Operand.tmp 7),type:=55,pos:= "ref.go:90",after:=#[],guard:=none}) (v:=?_) rfl (by kernel_rfl) (by kernel_rfl) (by kernel_rfl) (fun _ _ _ h=>h) (Or.inl ⟨by rfl,?_⟩) (by assumption) ?_
   rotate_left
   ·((intro w d;(try dsimp only at d);go_simp)<;>with_reducible rfl)
   simp only[Act.put,List.setIfInBounds_toArray,List.set_cons_zero,List.set_cons_succ]
   refine wpAnyH_ready (rs:=[6]) (by kernel_rfl) (by simp) ?_
   refine AllReadyH.cons (o:={dst:=some 24,op:=Op.call {callee:=Callee.value (Operand.func 90),args:=#[Operand.tmp 22,Operand.tmp 23],argTypes:=#[55,55]},type:=55,pos:= "ref.go:90",after:=#[{on:=4,ground:=Ground.data},{on:=5,ground:=Ground.data}],guard:=none}) rfl (fun K I=>?_) AllReadyH.nil
   go_simp
   refine(uH a7 _ ((uH BW).trans (U.mono (uH BW).size))).mono ?_
   rintro e w2 ⟨vm,rfl,im,ae⟩
   have V:Below O.heap.size O w2:=U.trans (ae.mono U.size)
   have IM:=ac im
   clear ae im
   go_wp2_with fail
   refine I.out _ _ ?_ (fun t=>?_)
   ·exact uH G _ (V.mono (uH D))
   clear I K
   refine wpAnyH_ready (rs:=[12]) (by kernel_rfl) (by simp) ?_
   refine AllReadyH.cons (o:={dst:=some 30,op:=Op.call {callee:=Callee.value (Operand.func 90),args:=#[Operand.tmp 28,Operand.tmp 29],argTypes:=#[55,55]},type:=55,pos:= "ref.go:90",after:=#[{on:=10,ground:=Ground.data},{on:=11,ground:=Ground.data},{on:=6,ground:=Ground.chain}],guard:=none}) rfl (fun K I=>?_) AllReadyH.nil
   go_simp
   refine(uH ba _ ((uH BW).trans (V.mono (uH BW).size))).mono ?_
   rintro e w3 ⟨vn,rfl,bA,Z⟩
   have M:Below O.heap.size O w3:=V.trans (Z.mono V.size)
   have be:=ac ((uH IM).below Z);have IN:=ac bA
   clear Z bA IM
   go_wp2_with fail
   refine I.out _ _ ?_ (fun t=>?_)
   ·exact uH G _ (M.mono (uH D))
   clear I K
   refine wpAnyH_ready (rs:=[13]) (by kernel_rfl) (by simp) ?_
   refine AllReadyH.cons (o:={dst:=some 31,op:=Op.call {callee:=Callee.value (Operand.func 165),args:=#[Operand.tmp 24,Operand.tmp 30],argTypes:=#[55,55]},type:=55,pos:= "ref.go:90",after:=#[{on:=6,ground:=Ground.data},{on:=12,ground:=Ground.data},{on:=12,ground:=Ground.chain}],guard:=none}) rfl (fun K I=>?_) AllReadyH.nil
   go_simp
   refine(uH bb _ _ _ (uH be) (uH IN)).mono ?_
   rintro e w4 ⟨vs,rfl,iz,ai⟩
   have aa:Below O.heap.size O w4:=M.trans (ai.mono M.size)
   obtain⟨nz,az,cz,Lz,rfl,z1,z2,z3,z4,z5,z6⟩:=iz
   have a1:Below w4.heap.size w4 (w4.alloc (.cells #[.bool nz,.slice az Lz.length cz] 55)):=(Below.refl _ _).alloc (Nat.le_refl _) _
   have N:Below O.heap.size O (w4.alloc (.cells #[.bool nz,.slice az Lz.length cz] 55)):=aa.trans (a1.mono aa.size)
   have ad:=ac ((uH hI).below N)
   have IZ:=ac ((show eZ w4 ⟨nz,az,cz,Lz⟩ (fa k*X-fb k*Y)from⟨z1,z3,z4,z5,z6⟩).below a1)
   have NZ:=ac (show bB w.heap.size az Lz from z2.mono (Nat.le_trans (uH BW).size M.size))
   have AZ:=ac (show Av u9.ownBlock ⟨nz,az,cz,Lz⟩from Av.old z2 (fun m hm=>Nat.lt_of_lt_of_le (uH a0 m hm).2 M.size))
   have bi:=ac (show(w4.alloc (.cells #[.bool nz,.slice az Lz.length cz] 55)).ownsRow (w.heap.size+2) 55 2 u9 k (cZ R) by have:=(uH ad).1.1;rwa[(uH ad).2.1]at this)
   clear ai z1 z2 z3 z4 z5 z6 a1 be IN
   go_wp2_with fail
   refine I.out _ _ ?_ (fun t=>?_)
   ·exact uH G _ (aa.mono (uH D))
   clear I K
   refine wpAnyH_ready (rs:=[14]) (by kernel_rfl) (by simp) ?_
   refine AllReadyH.cons (o:={dst:=some 32,op:=Op.buildSlice 75 1 #[(0,Operand.tmp 31)],type:=75,pos:= "ref.go:90",after:=#[{on:=13,ground:=Ground.data}],guard:=none}) rfl (fun K I=>?_) AllReadyH.nil
   go_simp
   refine I.out _ _ ?_ (fun t=>?_)
   ·exact uH G _ (N.mono (uH D))
   clear I K
   refine wpAnyH_ready (rs:=[15]) (by kernel_rfl) (by simp) ?_
   refine AllReadyH.cons (o:={dst:=some 33,op:=Op.call {callee:=Callee.builtin Builtin.append,args:=#[Operand.tmp 18,Operand.tmp 32],argTypes:=#[75,75]},type:=75,pos:= "ref.go:90",after:=#[{on:=0,ground:=Ground.data},{on:=14,ground:=Ground.data},{on:=13,ground:=Ground.chain}],guard:=none}) rfl (fun K I=>?_) AllReadyH.nil
   refine step_append_lies _ (by rfl) _ _ _ (by rfl) (w.heap.size+2) 55 i0 (.agg #[.bool false,.slice none 0 0]) 2 32 Tryz.underlying75 b0 b3 b4 b5 rfl (by omega) u9 k (cZ R) (by rfl) (uH bi) ⟨w4.heap.size,0,none⟩ 1 1 [.bool nz,.slice az Lz.length cz] (by rfl) (by rfl) (cell_two_new _ _ _ _) (fun u hu=>by simp at hu;rcases hu with rfl|rfl<;>rfl) (by decide) (by unfold maxLen;omega) (by omega) (Nat.le_trans (uH D) N.size) (w4.heap.size+1) (by simp) ?_
   intro gg cc w6 am H bE bG
   have bV:=ac ((uH ad).snoc (v':=.slice (some ⟨gg,0,none⟩) (k+1) cc) (uH IZ) (uH NZ) (uH AZ) am H (by
    rcases bE with e|e
    ·exact .inl e.symm
    ·right;show some gg=some _;rw[e];simp))
   have bm:Below (w.heap.size+2) O w6:=fY (N.mono (uH D)) H (Nat.le_trans (uH D) N.size) (fun m hm=>(uH a0 m hm).1)
   clear am H bE bG
   refine I.out _ _ ?_ (fun t=>?_)
   ·exact uH G _ bm
   clear I K
   refine wpAnyH_take (i:=16) (oi:={dst:=some 9,op:=Op.assign (Operand.tmp 33),type:=75,pos:= "ref.go:90",after:=#[{on:=15,ground:=Ground.data},{on:=15,ground:=Ground.chain},{on:=0,ground:=Ground.phase},{on:=1,ground:=Ground.phase},{on:=2,ground:=Ground.phase},{on:=3,ground:=Ground.phase},{on:=4,ground:=Ground.phase},{on:=5,ground:=Ground.phase},{on:=6,ground:=Ground.phase},{on:=7,ground:=Ground.phase},{on:=8,ground:=Ground.phase},{on:=9,ground:=Ground.phase},{on:=10,ground:=Ground.phase},{on:=11,ground:=Ground.phase},{on:=12,ground:=Ground.phase},{on:=13,ground:=Ground.phase},{on:=14,ground:=Ground.phase},{on:=15,ground:=Ground.phase}],guard:=none}) (v:=?_) rfl (by kernel_rfl) (by kernel_rfl) (by kernel_rfl) (fun _ _ _ h=>h) (Or.inl ⟨by rfl,?_⟩) (by assumption) ?_
   rotate_left
   ·((intro w d;(try dsimp only at d);go_simp)<;>with_reducible rfl)
   simp only[Act.put,List.setIfInBounds_toArray,List.set_cons_zero,List.set_cons_succ]
   refine wpAnyH_done (by kernel_rfl) ?_ _
   clear G a7 ba bb a0 BW D U V M aa N bm t ad IZ NZ AZ bi
   go_wp2
   go_roundw
   case rel=>exact⟨k+1,_,by omega,by go_num,bV⟩
   case measure=>simp[intOf];omega
  ·have bn:k=n:=by omega
   have ca:decide ((k:Int)<(n:Int))=false:=decide_eq_false (by omega)
   have cb:¬(k:Int)<(n:Int):=by omega
   have J:=uH hI
   obtain⟨b6,bz,e',q1,q2⟩:=J.1.nums
   rw[J.2.1,bn]at e'
   have Q:=ac (show∃ao T R,Ending.returned u9=.returned (.slice ao n T)∧bP wr ao T R∧bB (w.heap.size+2) ao (R.map (fun _=>0))∧R.length=n∧(∀q,q<n→eZ wr (bT R q) (fa q*X-fb q*Y))∧(∀z∈R,bB w.heap.size z.ao z.L)∧Below w.heap.size w wr from
    ⟨b6,bz,R,by rw[e'],q1,q2,by rw[J.2.1,bn],fun q hq=>J.2.2.1 q (by omega),J.2.2.2.1,J.2.2.2.2.1⟩)
   clear J q1 q2 e' hI
   go_wp2
   go_ret
   obtain⟨a9,c9,R9,h9,a4⟩:=uH Q
   exact⟨a9,c9,h9,R9,a4⟩
end Go.Proofs.YtmpkkhackbpflaaGreatDoor
namespace Go.Proofs.YtmpkkhackbpflaaGreatDoor
def St(A a:Nat→Nat→Int)(m n c dn:Nat):Prop:=
 (∀k,kE k A m n↔kE k a m n)∧dn≤m∧∃P:List Nat,P.Pairwise (·< ·)∧(∀p∈P,p<c)∧P.length=dn∧(∀j,j<dn→a j (P[j]?.getD 0)≠0)∧(∀j i,j<dn→j<i→i<m→a i (P[j]?.getD 0)=0)∧(∀i,dn≤i→i<m→∀c',c'<c→a i c'=0)
theorem St.start(A:Nat→Nat→Int)(m n:Nat):St A A m n 0 0:=
 ⟨fun _=>Iff.rfl,Nat.zero_le _,[],List.Pairwise.nil,by simp,rfl,fun j h=>by omega,fun j i h=>by omega,fun i _ _ d h=>by omega⟩
theorem St.none{A a:Nat→Nat→Int}{m n c dn:Nat}(h:St A a m n c dn)(z:∀i,dn≤i→i<m→a i c=0):St A a m n (c+1) dn:=by
 obtain⟨F,G,P,H,p2,I,J,L,M⟩:=h
 refine⟨F,G,P,H,fun p D=>by have:=p2 p D;omega,I,J,L,fun i l t d N=>?_⟩
 rcases Nat.lt_or_ge d c with h|h
 ·exact M i l t d h
 ·obtain rfl:d=c:=by omega
  exact z i l t
def yw(a:Nat→Nat→Int)(x y:Nat):Nat→Nat→Int:=fun i=>a (if i=y then x else if i=x then y else i)
def mN(s:Nat→Nat→Int)(d c:Nat):Nat→Nat→Int:=fun i c'=>if i≤d∨s i c=0 then s i c' else s i c'*s d c-s d c'*s i c
theorem LX{k m n x y:Nat}{a:Nat→Nat→Int}(z:x<m)(D:y<m):kE k a m n↔kE k (yw a x y) m n:=by
 have d:∀i,i<m→(if i=y then x else if i=x then y else i)<m:=fun i F=>by split<;>(try split)<;>omega
 refine⟨fun h=>lY (fun i=>if i=y then x else if i=x then y else i) d (fun i _=>rfl) h,fun h=>lY (fun i=>if i=y then x else if i=x then y else i) d (fun i _=>?_) h⟩
 unfold yw
 congr 1
 by_cases t:i=y
 ·subst t
  by_cases l:x=i
  ·subst l;simp
  ·simp[l]
 ·by_cases l:i=x
  ·subst l;simp
  ·simp[t,l]
theorem LZ{k m n d c:Nat}{s:Nat→Nat→Int}(z:d<m)(D:s d c≠0):kE k s m n↔kE k (mN s d c) m n:=by
 have t:∀l,mN s d c d l=s d l:=fun l=>by unfold mN;rw[if_pos (.inl (Nat.le_refl _))]
 constructor
 ·intro h
  refine CQ z (fun i=>if i≤d∨s i c=0 then 1 else s d c) (fun i=>if i≤d∨s i c=0 then 0 else-s i c) (fun i _ l=>?_) h
  unfold mN
  by_cases e:i≤d∨s i c=0
  ·simp only[if_pos e];omega
  ·simp only[if_neg e]
   rw[Int.neg_mul,Int.mul_comm (s d c),Int.mul_comm (s i c) (s d l),Int.sub_eq_add_neg]
 ·intro h
  refine CU z (fun i=>if i≤d∨s i c=0 then 1 else s d c) (fun i=>if i≤d∨s i c=0 then 0 else s i c) (fun i _ l=>?_) (fun i _=>?_) h
  ·rw[t]
   unfold mN
   by_cases e:i≤d∨s i c=0
   ·simp only[if_pos e];omega
   ·simp only[if_neg e]
    rw[Int.mul_comm (s d c),Int.mul_comm (s i c) (s d l)]
    omega
  ·by_cases e:i≤d∨s i c=0
   ·simp only[if_pos e];decide
   ·simp only[if_neg e];exact D
theorem St.pivot{A a:Nat→Nat→Int}{m n c dn d:Nat}(h:St A a m n c dn)(h1:dn≤d)(V:d<m)(h3:a d c≠0):St A (mN (yw a dn d) dn c) m n (c+1) (dn+1):=by
 obtain⟨q1,q2,P,p1,p2,p3,p4,Y,p6⟩:=h
 have I:yw a dn d dn=a d:=by
  unfold yw
  by_cases e:dn=d
  ·subst e;simp
  ·simp[e]
 have G:∀j,j<dn→yw a dn d j=a j:=fun j X=>by
  unfold yw
  rw[if_neg (by omega),if_neg (by omega)]
 have L:∀i,dn≤i→i<m→∃H,dn≤H∧H<m∧yw a dn d i=a H:=fun i z hm=>by
  unfold yw
  by_cases D:i=d
  ·exact⟨dn,Nat.le_refl _,by omega,by rw[if_pos D]⟩
  ·by_cases F:i=dn
   ·exact⟨d,h1,V,by rw[if_neg D,if_pos F]⟩
   ·exact⟨i,z,hm,by rw[if_neg D,if_neg F]⟩
 have M:yw a dn d dn c≠0:=by rw[I];exact h3
 have N:∀k,kE k A m n↔kE k (mN (yw a dn d) dn c) m n:=fun k=>(q1 k).trans ((LX (by omega) V).trans (LZ (by omega) M))
 generalize yw a dn d=s at*
 have J:∀i,i≤dn→mN s dn c i=s i:=fun i z=>by funext t;unfold mN;rw[if_pos (.inl z)]
 have hz:∀i,dn<i→i<m→∀t,s i t=0→s dn t=0→mN s dn c i t=0:=fun i _ _ t D F=>by
  unfold mN
  by_cases e:i≤dn∨s i c=0
  ·rw[if_pos e];exact D
  ·rw[if_neg e,D,F];simp
 have O:∀i,dn<i→mN s dn c i c=0:=fun i z=>by
  unfold mN
  by_cases e:i≤dn∨s i c=0
  ·rw[if_pos e];omega
  ·rw[if_neg e,Int.mul_comm (s i c)];omega
 have gl:∀j,j<dn→(P++[c])[j]?.getD 0=P[j]?.getD 0:=fun j X=>by rw[List.getElem?_append_left (by omega)]
 have gd:(P++[c])[dn]?.getD 0=c:=by rw[←p3,List.getElem?_append_right (Nat.le_refl _)];simp
 refine⟨N,by omega,P++[c],?_,?_,by simp[p3],?_,?_,?_⟩
 ·rw[List.pairwise_append]
  exact⟨p1,List.pairwise_singleton _ _,fun x hx y hy=>by simp at hy;subst hy;exact p2 x hx⟩
 ·intro p T
  rcases List.mem_append.1 T with T|T
  ·have:=p2 p T;omega
  ·simp at T;omega
 ·intro j X
  rcases Nat.lt_or_ge j dn with h|h
  ·rw[gl j h,J j (by omega),G j h];exact p4 j h
  ·obtain rfl:j=dn:=by omega
   rw[gd,J j (Nat.le_refl _)];exact M
 ·intro j i X U l
  rcases Nat.lt_or_ge j dn with h|h
  ·rw[gl j h]
   have Q:s dn (P[j]?.getD 0)=0:=by rw[I];exact Y j d h (by omega) V
   rcases Nat.lt_or_ge dn i with z|z
   ·obtain⟨H,D,F,Z⟩:=L i (by omega) l
    exact hz i z l _ (by rw[Z];exact Y j H h (by omega) F) Q
   ·rw[J i z]
    rcases Nat.lt_or_ge i dn with h'|h'
    ·rw[G i h'];exact Y j i h U l
    ·obtain rfl:i=dn:=by omega
     exact Q
  ·obtain rfl:j=dn:=by omega
   rw[gd];exact O i U
 ·intro i z l t aa
  rcases Nat.lt_or_ge t c with h|h
  ·obtain⟨H,D,F,Z⟩:=L i (by omega) l
   exact hz i (by omega) l t (by rw[Z];exact p6 H D F t h) (by rw[I];exact p6 d h1 V t h)
  ·obtain rfl:t=c:=by omega
   exact O i (by omega)
theorem St.rank{A a:Nat→Nat→Int}{m n dn:Nat}(h:St A a m n n dn):dw dn A m n:=by
 obtain⟨d,J,P,z,p2,D,F,G,H⟩:=h
 have:=ul (a:=a) P ⟨z,p2⟩ (by omega) (fun j l=>F j (by omega)) (fun j i l=>G j i (by omega)) (fun i I=>H i (by omega))
 rw[D]at this
 exact⟨fun t=>this.1 ((d _).1 t),(d _).2 this.2⟩
open Go.RowKit
def KK:Nat→Nat
 |0=>2098
 |c+1=>2*KK c+1
theorem Nn:∀c:Fin 6,KK c.val≤67167:=by decide
def cW(w W:World)(g cp m n K:Nat)(N:List Rw)(a:Nat→Nat→Int):Prop:=
 N.length=m∧w.heap.size≤g∧m≤cp∧(∃cur,W.heap[g]? =some (.cells cur 75 (0,0))∧∀i,i<m→cur[i]? =some (aY N i).v)∧
 (∀i,i<m→bP W (aY N i).ao (aY N i).cap (aY N i).R∧ye (some g) (aY N i)∧(aY N i).R.length=n∧∀c,c<n→eZ W (bT (aY N i).R c) (a i c)∧(a i c).natAbs<2^K)∧Below w.heap.size w W
theorem cW.below{w W D:World}{g F m n K:Nat}{N:List Rw}{a:Nat→Nat→Int}(h:cW w W g F m n K N a)(t:Below W.heap.size W D):cW w D g F m n K N a:=by
 obtain⟨L,M,O,⟨z,H,Q⟩,l,I⟩:=h
 have J:g<W.heap.size:=(Array.getElem?_eq_some_iff.1 H).1
 exact⟨L,M,O,⟨z,(t.block g J).trans H,Q⟩,fun i d=>⟨(l i d).1.below t,(l i d).2.1,(l i d).2.2.1,fun c G=>⟨((l i d).2.2.2 c G).1.below t,((l i d).2.2.2 c G).2⟩⟩,I.trans (t.mono I.size)⟩
theorem cW.congr{w W:World}{g t m n K K':Nat}{N:List Rw}{a a':Nat→Nat→Int}(h:cW w W g t m n K N a)(D:∀i,i<m→a i=a' i)(F:K≤K'):cW w W g t m n K' N a':=by
 obtain⟨G,H,I,J,l,L⟩:=h
 exact⟨G,H,I,J,fun i d=>⟨(l i d).1,(l i d).2.1,(l i d).2.2.1,fun c z=>by
  rw[←D i d]
  exact⟨((l i d).2.2.2 c z).1,Nat.lt_of_lt_of_le ((l i d).2.2.2 c z).2 (Nat.pow_le_pow_right (by decide) F)⟩⟩,L⟩
theorem cW.cell{w W:World}{g d m n K:Nat}{N:List Rw}{a:Nat→Nat→Int}(h:cW w W g d m n K N a){i:Nat}(l:i<m):W.cell? ⟨g,i,none⟩=some (.slice (aY N i).ao (aY N i).R.length (aY N i).cap):=by
 obtain⟨F,G,H,⟨t,z,D⟩,I,J⟩:=h
 rw[cell_of_row W g i _ _ _ z,D i l];rfl
theorem cW.free{w W:World}{g d m n K:Nat}{N:List Rw}{a:Nat→Nat→Int}(h:cW w W g d m n K N a)(i:Nat):W.frozen? ⟨g,i,none⟩=false:=by
 obtain⟨z,D,F,⟨l,t,G⟩,H,I⟩:=h
 exact frozen_of_row W g i _ _ t
theorem cW.lt{w W:World}{g d m n K:Nat}{N:List Rw}{a:Nat→Nat→Int}(h:cW w W g d m n K N a):g<W.heap.size:=by
 obtain⟨z,D,F,⟨l,t,G⟩,H,I⟩:=h
 exact(Array.getElem?_eq_some_iff.1 t).1
theorem cW.mat{w W:World}{g d m n K:Nat}{N:List Rw}{a:Nat→Nat→Int}(h:cW w W g d m n K N a):gV W (some ⟨g,0,none⟩) d N:=by
 refine⟨by have:=h.1;have:=h.2.2.1;omega,fun r t=>?_,.inr ⟨g,0,rfl,h.lt,fun i z=>?_⟩⟩
 ·obtain⟨j,l,rfl⟩:=List.getElem_of_mem t
  have e:aY N j=N[j]:=by unfold aY;rw[List.getElem?_eq_getElem l];rfl
  have:=(h.2.2.2.2.1 j (by rw[←h.1];exact l)).1
  rwa[e]at this
 ·rw[Nat.zero_add];exact h.cell (by rw[←h.1];exact z)
theorem af.apart{w:World}{z:Option Addr}{l g:Nat}{L:List Nat}(h:af w z l L)(H:L= []∨∃b d,z=some ⟨b,d,none⟩∧some b≠some g)(i:Nat)(u:Value):af (w.setCell ⟨g,i,none⟩ u) z l L:=by
 refine⟨h.1,h.2.1,?_⟩
 rcases h.2.2 with e|⟨b,d,e,J,M⟩
 ·exact .inl e
 ·rcases H with t|⟨N,G,t,F⟩
  ·exact .inl t
  ·rw[e]at t
   simp only[Option.some.injEq,Addr.mk.injEq,and_true]at t
   obtain⟨rfl,rfl⟩:=t
   have D:b≠g:=fun e=>F (by rw[e])
   refine .inr ⟨b,d,e,by simpa[World.setCell]using J,fun k I=>?_⟩
   rw[an _ _ _ _ (show b≠g from D)]
   exact M k I
theorem bP.apart{w:World}{r:Rw}{g:Nat}(h:bP w r.ao r.cap r.R)(D:ye (some g) r)(i:Nat)(u:Value):bP (w.setCell ⟨g,i,none⟩ u) r.ao r.cap r.R:=by
 refine⟨h.1,fun x F=>(h.2.1 x F).apart (D.2 x F) i u,?_⟩
 rcases h.2.2 with e|⟨b,t,e,I,J⟩
 ·exact .inl e
 ·rcases D.1 with l|⟨L,G,l,z⟩
  ·exact .inl l
  ·rw[e]at l
   simp only[Option.some.injEq,Addr.mk.injEq,and_true]at l
   obtain⟨rfl,rfl⟩:=l
   have d:b≠g:=fun e=>z (by rw[e])
   refine .inr ⟨b,t,e,by simpa[World.setCell]using I,fun k H=>?_⟩
   rw[an _ _ _ _ (show b≠g from d),an _ _ _ _ (show b≠g from d)]
   exact J k H
theorem cW.store{w W:World}{g J m n K:Nat}{N:List Rw}{a:Nat→Nat→Int}(h:cW w W g J m n K N a){i:Nat}(hi:i<m)(r:Rw)(f:Nat→Int)(O:bP W r.ao r.cap r.R)(z:ye (some g) r)(Q:r.R.length=n)(D:∀c,c<n→eZ W (bT r.R c) (f c)∧(f c).natAbs<2^K):
  cW w (W.setCell ⟨g,i,none⟩ (.slice r.ao r.R.length r.cap)) g J m n K (N.set i r) (fun j=>if j=i then f else a j):=by
 obtain⟨T,L,U,⟨G,V,M⟩,X,Y⟩:=h
 refine⟨by simpa using T,L,U,⟨_,heap_setCell_same W g i _ _ _ V,fun j t=>?_⟩,fun j t=>?_,Y.setCell (p:=⟨g,i,none⟩) L _⟩
 ·by_cases e:j=i
  ·subst e
   have F:j<G.size:=by have:=M j t;exact(Array.getElem?_eq_some_iff.1 this).1
   have l:aY (N.set j r) j=r:=by unfold aY;rw[List.getElem?_set_self (by omega)];rfl
   rw[l]
   simp[F,Rw.v]
  ·have l:aY (N.set i r) j=aY N j:=by unfold aY;rw[List.getElem?_set_ne (fun h=>e h.symm)]
   rw[l]
   rw[Array.getElem?_setIfInBounds_ne (fun h=>e h.symm)]
   exact M j t
 ·show _∧_∧_∧∀c,c<n→eZ _ _ ((if j=i then f else a j) c)∧((if j=i then f else a j) c).natAbs<_
  by_cases e:j=i
  ·subst e
   have l:aY (N.set j r) j=r:=by unfold aY;rw[List.getElem?_set_self (by omega)];rfl
   rw[l,if_pos rfl]
   exact⟨O.apart z _ _,z,Q,fun c d=>⟨⟨(D c d).1.1.apart (z.2 _ (ic (by omega))) _ _,(D c d).1.2⟩,(D c d).2⟩⟩
  ·have l:aY (N.set i r) j=aY N j:=by unfold aY;rw[List.getElem?_set_ne (fun h=>e h.symm)]
   rw[l,if_neg e]
   obtain⟨Z,H,q3,I⟩:=X j t
   exact⟨Z.apart H _ _,H,q3,fun c d=>⟨⟨(I c d).1.1.apart (H.2 _ (ic (by omega))) _ _,(I c d).1.2⟩,(I c d).2⟩⟩
theorem cW.copied{w W W2:World}{v:Value}{m n K:Nat}{N:List Rw}{a:Nat→Nat→Int}(V:0<m)(J:N.length=m)(t:Below w.heap.size w W)(L:∀i,i<m→bP W (aY N i).ao (aY N i).cap (aY N i).R∧(aY N i).R.length=n∧∀c,c<n→eZ W (bT (aY N i).R c) (a i c)∧(a i c).natAbs<2^K)
  (M:W2.ownsRow W.heap.size 75 1 v (0+m) ([]++N.map Rw.v)) (d:Below W.heap.size W W2):
  ∃g l,v=.slice (some ⟨g,0,none⟩) m l∧cW w W2 g l m n K N a∧W.heap.size≤g:=by
 rcases M.2 with⟨_,X⟩|⟨g,l,D,Q,F,T,z,U,Y,I⟩
 ·omega
 ·refine⟨g,l,by rw[Q,Nat.zero_add],⟨J,Nat.le_trans t.size F,by omega,⟨D,T,fun i G=>?_⟩,fun i G=>?_,t.trans (d.mono t.size)⟩,F⟩
  ·have h:(N.map Rw.v)[i]? =some (aY N i).v:=by
    rw[List.getElem?_map]
    unfold aY
    rw[List.getElem?_eq_getElem (by omega)];rfl
   rw[List.nil_append]at I
   rw[←I,List.getElem?_take,if_pos (by omega)]at h
   simpa using h
  ·obtain⟨h,O,H⟩:=L i G
   exact⟨h.below d,ye.new h F,O,fun c z=>⟨(H c z).1.below d,(H c z).2⟩⟩
end Go.Proofs.YtmpkkhackbpflaaGreatDoor
