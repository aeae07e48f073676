/- Part 23 of the texts. -/
import Derived.Test.YtcbcmlaogehimaaGreatDoorPartp22
set_option maxHeartbeats 2000000
set_option maxRecDepth 20000
namespace Go.Proofs.YtcbcmlaogehimaaGreatDoor
open Go.RowKit
def mQ(r c:Nat)(f:Nat→Nat→Nat):List Nat:=(List.range (r*c)).map (fun p=>f (p/c) (p%c))
theorem dh{r c i k:Nat}(d:i<r)(u:k<c):i*c+k<r*c:=by
 have h:(i+1)*c≤r*c:=Nat.mul_le_mul_right c d
 rw[Nat.add_mul,Nat.one_mul]at h
 omega
theorem iJ{c i k:Nat}(d:k<c):(i*c+k)/c=i:=by
 rw[Nat.add_comm,Nat.add_mul_div_right _ _ (by omega),Nat.div_eq_of_lt d,Nat.zero_add]
theorem iK{c i k:Nat}(d:k<c):(i*c+k)%c=k:=by
 rw[Nat.add_comm,Nat.add_mul_mod_self_right,Nat.mod_eq_of_lt d]
theorem lO{r c p:Nat}(h:p<r*c):p/c<r∧p%c<c∧p/c*c+p%c=p:=by
 have d:0<c:=by
  rcases Nat.eq_zero_or_pos c with e|e
  ·subst e;omega
  ·exact e
 refine⟨(Nat.div_lt_iff_lt_mul d).2 h,Nat.mod_lt _ d,?_⟩
 have:=Nat.div_add_mod p c
 rw[Nat.mul_comm]at this
 exact this
theorem AL{c i k x y:Nat}(d:k<c)(u:y<c):i*c+k=x*c+y↔i=x∧k=y:=by
 constructor
 ·intro h
  have z:=iJ (i:=i) d
  have A:=iK (i:=i) d
  rw[h,iJ u]at z
  rw[h,iK u]at A
  exact⟨z.symm,A.symm⟩
 ·rintro⟨rfl,rfl⟩;rfl
theorem fr(r c:Nat)(f:Nat→Nat→Nat):(mQ r c f).length=r*c:=by simp[mQ]
theorem og(r c:Nat)(f:Nat→Nat→Nat)(p:Nat)(h:p<r*c):(mQ r c f)[p]? =some (f (p/c) (p%c)):=by simp[mQ,h]
theorem KG(r c:Nat)(f:Nat→Nat→Nat){i k:Nat}(h:i<r)(d:k<c):(mQ r c f)[i*c+k]? =some (f i k):=by
 rw[og _ _ _ _ (dh h d),iJ d,iK d]
theorem sj(r c:Nat)(f:Nat→Nat→Nat){i k:Nat}(d:i<r)(h:k<c):(mQ r c f).getD (i*c+k) 0=f i k:=by
 rw[List.getD_eq_getElem?_getD,KG r c f d h];rfl
theorem mR{r c:Nat}{f g:Nat→Nat→Nat}(h:∀i k,i<r→k<c→f i k=g i k):mQ r c f=mQ r c g:=by
 unfold mQ
 refine List.map_congr_left (fun p d=>?_)
 obtain⟨u,z,_⟩:=lO (List.mem_range.1 d)
 exact h _ _ u z
theorem Ea(r c:Nat)(S:List Nat)(h:S.length=r*c):mQ r c (fun i k=>S.getD (i*c+k) 0)=S:=by
 refine List.ext_getElem? (fun p=>?_)
 rcases Nat.lt_or_ge p (r*c)with g|g
 ·rw[og _ _ _ _ g,(lO g).2.2,List.getD_eq_getElem?_getD,List.getElem?_eq_getElem (by omega)];rfl
 ·rw[List.getElem?_eq_none (by rw[fr];exact g),List.getElem?_eq_none (by omega)]
theorem yQ(r c:Nat)(g:Nat→Nat→Nat)(v:Nat){i k:Nat}(_:i<r)(u:k<c):(mQ r c g).set (i*c+k) v=mQ r c (fun x y=>if x=i∧y=k then v else g x y):=by
 refine List.ext_getElem? (fun p=>?_)
 rcases Nat.lt_or_ge p (r*c)with h|h
 ·obtain⟨D,A,d⟩:=lO h
  rw[og _ _ _ _ h,List.getElem?_set]
  have e:(i*c+k=p)↔(p/c=i∧p%c=k):=by
   rw[←d,AL u A,d]
   exact⟨fun⟨a,b⟩=>⟨a.symm,b.symm⟩,fun⟨a,b⟩=>⟨a.symm,b.symm⟩⟩
  by_cases q:i*c+k=p
  ·rw[if_pos q,if_pos (by rw[fr];omega),if_pos (e.1 q)]
  ·rw[if_neg q,if_neg (fun z=>q (e.2 z)),og _ _ _ _ h]
 ·rw[List.getElem?_eq_none (by simpa[fr]using h),List.getElem?_eq_none (by rw[fr];exact h)]
def aP(c:Nat)(S:List Nat)(i k:Nat):Nat:=S.getD (i*c+k) 0
def Fy(r c:Nat)(S:List Nat):List Nat:=mQ c r (fun k i=>aP c S i k)
def KH(c:Nat)(S:List Nat)(i k p q:Nat):List Nat:=mQ p q (fun x y=>aP c S (i+x) (k+y))
theorem lP(r c:Nat)(f:Nat→Nat→Nat){i k:Nat}(d:i<r)(h:k<c):aP c (mQ r c f) i k=f i k:=sj r c f d h
def iL(n:Nat):List Nat:=mQ n n (fun i k=>if k=i then 4607182418800017408 else 0)
def cY(f:Nat→Int):Nat→Int
 |0=>0
 |n+1=>cY f n+f n
theorem gc{f g:Nat→Int}(n:Nat)(h:∀i,i<n→f i=g i):cY f n=cY g n:=by
 induction n with
 |zero=>rfl
 |succ n ih=>unfold cY;rw[ih (fun i d=>h i (by omega)),h n (by omega)]
theorem Hl(f g:Nat→Int)(n:Nat):cY (fun i=>f i+g i) n=cY f n+cY g n:=by
 induction n with
 |zero=>rfl
 |succ n ih=>unfold cY;rw[ih];omega
theorem gA(n:Nat):cY (fun _=>0) n=0:=by
 induction n with
 |zero=>rfl
 |succ n ih=>unfold cY;rw[ih];rfl
theorem Eb(f:Nat→Nat→Int)(r c:Nat):cY (fun i=>cY (f i) c) r=cY (fun k=>cY (fun i=>f i k) r) c:=by
 induction r with
 |zero=>
  rw[gc (f:=fun k=>cY (fun i=>f i k) 0) (g:=fun _=>0) c (fun _ _=>rfl),gA]
  rfl
 |succ r ih=>
  have e:cY (fun i=>cY (f i) c) (r+1)=cY (fun i=>cY (f i) c) r+cY (f r) c:=rfl
  rw[e,ih,←Hl]
  rfl
theorem Hm(f:Nat→Int)(m n:Nat):cY f (m+n)=cY f m+cY (fun i=>f (m+i)) n:=by
 induction n with
 |zero=>show cY f m=cY f m+0;omega
 |succ n ih=>
  have d:cY f (m+(n+1))=cY f (m+n)+f (m+n):=rfl
  have h:cY (fun i=>f (m+i)) (n+1)=cY (fun i=>f (m+i)) n+f (m+n):=rfl
  rw[d,h,ih];omega
theorem Ec(f:Nat→Int)(r c:Nat):cY f (r*c)=cY (fun i=>cY (fun k=>f (i*c+k)) c) r:=by
 induction r with
 |zero=>rw[Nat.zero_mul];rfl
 |succ r ih=>
  have e:cY (fun i=>cY (fun k=>f (i*c+k)) c) (r+1)=cY (fun i=>cY (fun k=>f (i*c+k)) c) r+cY (fun k=>f (r*c+k)) c:=rfl
  rw[e,←ih,Nat.succ_mul,Hm]
theorem pz{f:Nat→Int}(n:Nat)(h:∀i,i<n→0≤f i):0≤cY f n:=by
 induction n with
 |zero=>exact Int.le_refl 0
 |succ n ih=>have a:=ih (fun i d=>h i (by omega));have b:=h n (by omega);unfold cY;omega
theorem Hn{f:Nat→Int}{B:Nat}(n:Nat)(h:∀i,i<n→(f i).natAbs≤B):(cY f n).natAbs≤n*B:=by
 induction n with
 |zero=>rw[Nat.zero_mul];exact Nat.le_refl 0
 |succ n ih=>
  have a:=ih (fun i d=>h i (by omega))
  have b:=h n (by omega)
  rw[Nat.succ_mul]
  unfold cY
  have:=Int.natAbs_add_le (cY f n) (f n)
  omega
def tq(S:List Nat):Int:=cY (fun p=>fZ (S.getD p 0)*fZ (S.getD p 0)) S.length
theorem uQ(r c:Nat)(S:List Nat)(h:S.length=r*c):tq S=cY (fun i=>cY (fun k=>fZ (aP c S i k)*fZ (aP c S i k)) c) r:=by
 unfold tq
 rw[h,Ec]
 rfl
def nI(n:Nat)(x y:Nat→Nat):Int:=cY (fun j=>fZ (x j)*fZ (y j)) n
def tr(n c:Nat)(A B C:List Nat)(i k:Nat):Int:=fZ (aP c A i k)*2^1074-nI n (fun j=>aP n B i j) (fun j=>aP c C j k)
def Ho(r n c:Nat)(A B C:List Nat):Int:=cY (fun i=>cY (fun k=>tr n c A B C i k*tr n c A B C i k) c) r
theorem Ed:fZ 4607182418800017408=2^1074:=by decide+kernel
def Bs(f:Nat→Nat→Int)(c i k:Nat):Int:=cY (fun i=>cY (f i) c) i+cY (f i) k
theorem Ee(f:Nat→Nat→Int)(c i k:Nat):Bs f c i (k+1)=Bs f c i k+f i k:=by
 unfold Bs
 have e:cY (f i) (k+1)=cY (f i) k+f i k:=rfl
 rw[e,Int.add_assoc]
theorem Hp(f:Nat→Nat→Int)(c i:Nat):Bs f c i c=Bs f c (i+1) 0:=by
 unfold Bs
 have e:cY (fun i=>cY (f i) c) (i+1)=cY (fun i=>cY (f i) c) i+cY (f i) c:=rfl
 have d:cY (f (i+1)) 0=0:=rfl
 rw[e,d,Int.add_zero]
theorem Hq(f:Nat→Nat→Int)(c r:Nat):Bs f c r 0=cY (fun i=>cY (f i) c) r:=by
 unfold Bs
 have d:cY (f r) 0=0:=rfl
 rw[d,Int.add_zero]
theorem sl{f:Nat→Int}{W:Nat}(n:Nat)(d:n≤8)(h:∀i,i<n→(f i).natAbs<2^W):(cY f n).natAbs<2^(W+3):=by
 have a:=Hn (f:=f) (B:=2^W-1) n (fun i u=>Nat.le_sub_one_of_lt (h i u))
 have p:=Nat.two_pow_pos W
 have e:(2:Nat)^(W+3)=8*2^W:=by rw[Nat.pow_add];omega
 rw[e]
 generalize (2:Nat)^W=P at*
 have:n*(P-1)≤8*(P-1):=Nat.mul_le_mul_right _ d
 omega
theorem KI{f:Nat→Nat→Int}{W:Nat}(r c i k:Nat)(F:i≤r)(G:r≤8)(d:k≤c)(u:c≤8)(h:∀i k,k<c→(f i k).natAbs<2^W):(Bs f c i k).natAbs<2^(W+7):=by
 unfold Bs
 have a:(cY (fun i=>cY (f i) c) i).natAbs<2^(W+3+3):=sl i (by omega) (fun j _=>sl c u (fun k d=>h j k d))
 have b:(cY (f i) k).natAbs<2^(W+3):=sl k (by omega) (fun l H=>h i l (by omega))
 have z:(2:Nat)^(W+3+3)=64*2^W:=by rw[Nat.pow_add,Nat.pow_add];omega
 have A:(2:Nat)^(W+3)=8*2^W:=by rw[Nat.pow_add];omega
 have D:(2:Nat)^(W+7)=128*2^W:=by rw[Nat.pow_add];omega
 rw[z]at a
 rw[A]at b
 rw[D]
 have:=Int.natAbs_add_le (cY (fun i=>cY (f i) c) i) (cY (f i) k)
 generalize (2:Nat)^W=P at*
 omega
theorem dZ(c:Nat)(S:List Nat)(i k:Nat)(h:∀x∈S,ai x=true):ai (aP c S i k)=true:=by
 unfold aP
 rw[List.getD_eq_getElem?_getD]
 by_cases g:i*c+k<S.length
 ·rw[List.getElem?_eq_getElem g]
  exact h _ (List.getElem_mem g)
 ·rw[List.getElem?_eq_none (by omega)]
  decide+kernel
theorem oh{j k V:Nat}{x y:Int}(d:j+k=V)(h:x.natAbs<2^j)(u:y.natAbs<2^k):(x*y).natAbs<2^V:=by
 subst d
 rw[Int.natAbs_mul]
 exact kA h u
theorem lT{f:Nat→Int}{W V:Nat}(d:W+3=V)(n:Nat)(u:n≤8)(h:∀i,i<n→(f i).natAbs<2^W):(cY f n).natAbs<2^V:=by
 subst d
 exact sl n u h
theorem Hr{x y:Int}{W V:Nat}(d:W+1=V)(h:x.natAbs<2^W)(u:y.natAbs<2^W):(x-y).natAbs<2^V:=by
 subst d
 rw[Nat.pow_succ]
 omega
theorem Hs{f:Nat→Nat→Int}{W V:Nat}(d:W+7=V)(r c i k:Nat)(u:i≤r)(z:r≤8)(A:k≤c)(D:c≤8)(h:∀i k,k<c→(f i k).natAbs<2^W):(Bs f c i k).natAbs<2^V:=by
 subst d
 exact KI r c i k u z A D h
theorem Ef{x:Int}{j k V:Nat}(d:j+k≤V)(h:x.natAbs<2^j):(x*2^k).natAbs<2^V:=by
 rw[Int.natAbs_mul,Int.natAbs_pow]
 refine Nat.lt_of_lt_of_le ((Nat.mul_lt_mul_right (Nat.two_pow_pos k)).2 h) ?_
 rw[←Nat.pow_add]
 exact Nat.pow_le_pow_right (by decide) d
theorem xu(n:Nat)(h:n≤8)(x y:Nat→Nat)(u:∀j,j<n→ai (x j)=true)(z:∀j,j<n→ai (y j)=true):(nI n x y).natAbs<2^4199:=
 lT (W:=4196) (V:=4199) (by decide) n h (fun j d=>oh (j:=2098) (k:=2098) (V:=4196) (by decide) (fi _ (u j d)) (fi _ (z j d)))
theorem Ht(n:Nat)(d:n≤8)(x y:Nat→Nat)(h:∀j,j<n→ai (x j)=true)(u:∀j,j<n→ai (y j)=true):fv (-2148) 4199 (nI n x y):=
 ⟨xu n d x y h u,by decide,by decide,by decide⟩
theorem xw(n c:Nat)(A B C:List Nat)(i k:Nat)(d:n≤8)(fA:∀x∈A,ai x=true)(h:∀x∈B,ai x=true)(u:∀x∈C,ai x=true):(tr n c A B C i k).natAbs<2^4200:=
 Hr (W:=4199) (V:=4200) (by decide) (Ef (j:=2098) (k:=1074) (V:=4199) (by decide) (fi _ (dZ c A i k fA))) (xu n d _ _ (fun j _=>dZ n B i j h) (fun j _=>dZ c C j k u))
attribute [local go_sem ↓] Go.wp_at_zero Go.wp_at_succ
def di(I:List Int):List Nat:=I.map Int.toNat
theorem gU(I:List Int):(di I).length=I.length:=by simp[di]
theorem AM{w:World}{d:Option Addr}{c:Nat}{I:List Int}(h:ak w d c I):(di I).map (fun x:Nat=>(x:Int))=I:=by
 unfold di
 rw[List.map_map]
 refine(List.map_congr_left fun x u=>?_).trans (List.map_id I)
 have:=h.2.1 x u
 simp
 omega
theorem append_nil(w:World)(d:TypeId)(g c:Nat):
  (Builtin.append_ #[22,22] d #[.slice (some ⟨g,0,none⟩) 0 0,.slice none 0 c]).run Tryz.prog w=.ok (.slice (some ⟨g,0,none⟩) 0 0) w:=by
 simp[Builtin.append_,go_sem]
def uR(H:Nat)(ao:Option Addr)(I:List Int):Prop:=I= []∨∃b off,ao=some ⟨b,off,none⟩∧H≤b
def aM(w:World)(b:Nat)(x y z:Value):Prop:=w.heap[b]? =some (.cells #[x,y,z] 24 (0,0))
theorem aM.c0{w:World}{b:Nat}{x y z:Value}(h:aM w b x y z):w.cell? ⟨b,0,none⟩=some x:=by rw[cell_of_row w b 0 _ _ _ h];rfl
theorem aM.c1{w:World}{b:Nat}{x y z:Value}(h:aM w b x y z):w.cell? ⟨b,1,none⟩=some y:=by rw[cell_of_row w b 1 _ _ _ h];rfl
theorem aM.c2{w:World}{b:Nat}{x y z:Value}(h:aM w b x y z):w.cell? ⟨b,2,none⟩=some z:=by rw[cell_of_row w b 2 _ _ _ h];rfl
theorem aM.free{w:World}{b:Nat}{x y z:Value}(h:aM w b x y z)(j:Nat):w.frozen? ⟨b,j,none⟩=false:=frozen_of_row w b j _ _ h
theorem aM.lt{w:World}{b:Nat}{x y z:Value}(h:aM w b x y z):b<w.heap.size:=(Array.getElem?_eq_some_iff.1 h).1
theorem aM.below{w u:World}{b:Nat}{x y z:Value}(h:aM w b x y z){B:Nat}(A:Below B w u)(d:b<B):aM u b x y z:=(A.block b d).trans h
theorem aM.new(w:World)(x y z:Value):aM (w.alloc (.cells #[x,y,z] 24)) w.heap.size x y z:=heap_alloc_new w _
theorem aM.all{w d:World}{b:Nat}{x y z:Value}(h:aM w b x y z)(u:Below w.heap.size w d):aM d b x y z:=h.below u h.lt
theorem aM.other{w:World}{b:Nat}{x y z:Value}(h:aM w b x y z){p:Addr}(d:b≠p.block)(u:Value):aM (w.setCell p u) b x y z:=(Below.heap_setCell w p u b d).trans h
theorem aM.put{w:World}{b:Nat}{x y z:Value}(h:aM w b x y z)(u A d:Value):aM (((w.setCell ⟨b,0,none⟩ u).setCell ⟨b,1,none⟩ A).setCell ⟨b,2,none⟩ d) b u A d:=by
 have D:=heap_setCell_same w b 0 _ _ u h
 have F:=heap_setCell_same (w.setCell ⟨b,0,none⟩ u) b 1 _ _ A D
 have G:=heap_setCell_same ((w.setCell ⟨b,0,none⟩ u).setCell ⟨b,1,none⟩ A) b 2 _ _ d F
 unfold aM
 rw[G]
 simp
theorem aR{w A:World}{B b:Nat}(h:Below B w A)(d:B≤b)(u D z:Value):Below B w (((A.setCell ⟨b,0,none⟩ u).setCell ⟨b,1,none⟩ D).setCell ⟨b,2,none⟩ z):=
 ((h.setCell d _).setCell d _).setCell d _
theorem aM.grown{w d:World}{b:Nat}{x y z:Value}(h:aM w b x y z){o:Option Nat}(u:w.grownBy d o)(A:o≠some b):aM d b x y z:=
 (u.block b h.lt A.symm).trans h
def Eg(r c:Int):Bool:=decide (0≤r∧r≤6∧0≤c∧c≤6)
def kl(r c:Int)(n:Nat):Bool:=decide ((0≤r∧r≤6∧0≤c∧c≤6)∧(n:Int)=r*c)
theorem jH(r c:Int)(w:World):
  Calls Tryz.prog 167 #[.int .i64 r,.int .i64 c] w fun e d=>e=.returned (.bool (Eg r c))∧w=d:=by
 rcases(show(r<0∧Eg r c=false)∨(0≤r∧6<r∧Eg r c=false)∨(0≤r∧r≤6∧c<0∧Eg r c=false)∨(0≤r∧r≤6∧0≤c∧6<c∧Eg r c=false)∨(0≤r∧r≤6∧0≤c∧c≤6∧Eg r c=true) by
  unfold Eg
  by_cases h:0≤r∧r≤6∧0≤c∧c≤6
  ·rw[decide_eq_true h];simp;omega
  ·rw[decide_eq_false h];simp;omega)with⟨h1,e⟩|⟨h1,h2,e⟩|⟨h1,h2,h3,e⟩|⟨h1,h2,h3,h4,e⟩|⟨h1,h2,h3,h4,e⟩
 all_goals
  rw[e]
  clear e
  go_enter Tryz.func167,Tryz.ntmps167
  go_wp2
  go_ret
  refine⟨?_,rfl⟩
  first|rfl|(simp;omega)
theorem gV(r c:Int)(J:Option Addr)(n F:Nat)(w:World)(Q:n≤35184372088830):
  Calls Tryz.prog 117 #[.agg #[.int .i64 r,.int .i64 c,.slice J n F]] w fun e G=>e=.returned (.int .i64 (if kl r c n=true then 0 else 1))∧Below w.heap.size w G:=by
 have u:=ac (fun G=>jH r c G)
 have A:=ac (ad w (.cells #[.int .i64 r,.int .i64 c,.slice J n F] 24))
 by_cases d:0≤r∧r≤6∧0≤c∧c≤6
 ·have D:Eg r c=true:=decide_eq_true d
  rw[D]at u
  have H:∃m:Nat,r*c=(m:Int)∧m≤36:=by
   obtain⟨a,rfl⟩:=Int.eq_ofNat_of_zero_le d.1
   obtain⟨b,rfl⟩:=Int.eq_ofNat_of_zero_le d.2.2.1
   refine⟨a*b,by simp,?_⟩
   have:a*b≤6*6:=Nat.mul_le_mul (by omega) (by omega)
   omega
  obtain⟨m,H,O⟩:=H
  by_cases I:n=m
  ·have z:kl r c n=true:=decide_eq_true ⟨d,by rw[H,I]⟩
   rw[if_pos z]
   subst I
   clear D z d
   go_enter Tryz.func117,Tryz.ntmps117
   go_wp2_with fail
   refine(uH u _).mono ?_
   rintro e K ⟨rfl,rfl⟩
   clear u
   go_wp2
   go_ret
   exact⟨rfl,uH A⟩
  ·have z:kl r c n=false:=decide_eq_false (fun h=>I (by have:=h.2;omega))
   rw[if_neg (by rw[z];decide)]
   have L:decide ((n:Int)=(m:Int))=false:=decide_eq_false (by omega)
   clear D z d
   go_enter Tryz.func117,Tryz.ntmps117
   go_wp2_with fail
   refine(uH u _).mono ?_
   rintro e K ⟨rfl,rfl⟩
   clear u
   go_wp2
   go_ret
   exact⟨rfl,uH A⟩
 ·have D:Eg r c=false:=decide_eq_false d
  rw[D]at u
  have z:kl r c n=false:=decide_eq_false (fun h=>d h.1)
  rw[if_neg (by rw[z];decide)]
  clear D z d
  go_enter Tryz.func117,Tryz.ntmps117
  go_wp2_with fail
  refine(uH u _).mono ?_
  rintro e K ⟨rfl,rfl⟩
  clear u
  go_wp2
  go_ret
  exact⟨rfl,uH A⟩
end Go.Proofs.YtcbcmlaogehimaaGreatDoor
namespace Go.Proofs.YtcbcmlaogehimaaGreatDoor
open Go.RowKit
def bH(S:List Nat):List Int:=S.map (fun x:Nat=>(x:Int))
theorem aG(S:List Nat):(bH S).length=S.length:=by simp[bH]
theorem ev(S:List Nat)(j:Nat):bL (bH S) j=S.getD j 0:=by
 unfold bH bL
 rw[List.getElem?_map,List.getD_eq_getElem?_getD]
 cases S[j]? <;>simp
theorem uS{w:World}{d:Option Addr}{c:Nat}{I:List Int}(h:ak w d c I):bH (di I)=I:=AM h
theorem uT(S:List Nat):di (bH S)=S:=by
 unfold di bH
 rw[List.map_map]
 refine(List.map_congr_left fun x _=>?_).trans (List.map_id S)
 simp
theorem ak.nat{w:World}{d:Option Addr}{c:Nat}{S:List Nat}(h:ak w d c (bH S)):∀x∈S,x<18446744073709551616:=by
 intro x u
 have:=h.2.1 (x:Int) (List.mem_map.2 ⟨x,u,rfl⟩)
 omega
theorem ak.none(w:World)(c:Nat):ak w .none c (bH []):=⟨by simp[bH],by simp[bH],.inl rfl⟩
theorem ak.putM{w:World}{G:Option Addr}{c:Nat}{I:List Int}(h:ak w G c I){g:Nat}{x y:Int}{a:Option Addr}{n d:Nat}(K:aM w g (.int .i64 x) (.int .i64 y) (.slice a n d))(u L F:Value):
  ak (((w.setCell ⟨g,0,.none⟩ u).setCell ⟨g,1,.none⟩ L).setCell ⟨g,2,.none⟩ F) G c I:=by
 refine⟨h.1,h.2.1,?_⟩
 rcases h.2.2 with U|⟨b,z,X,Y,J⟩
 ·exact .inl U
 ·by_cases H:I= []
  ·exact .inl H
  ·have Q:0<I.length:=List.length_pos_iff.2 H
   have A:b≠g:=by
    rintro rfl
    have D:=J 0 Q
    rw[cell_of_row w b (z+0) _ _ _ K]at D
    rcases(show z=0∨z=1∨z=2∨3≤z by omega)with e|e|e|e
    ·subst e;simp at D
    ·subst e;simp at D
    ·subst e;simp at D
    ·rw[Array.getElem?_eq_none (by simp;omega)]at D;simp at D
   refine .inr ⟨b,z,X,by simpa[World.setCell]using Y,fun i O=>?_⟩
   rw[bc _ _ _ _ (by simpa using A),bc _ _ _ _ (by simpa using A),bc _ _ _ _ (by simpa using A)]
   exact J i O
def Mx(w:World)(ao:Option Addr)(cap r c:Nat)(S:List Nat):Prop:=ak w ao cap (bH S)∧S.length=r*c∧r≤6∧c≤6
theorem Mx.below{w u:World}{z:Option Addr}{d r c:Nat}{S:List Nat}(h:Mx w z d r c S)(A:Below w.heap.size w u):Mx u z d r c S:=⟨h.1.below A,h.2⟩
theorem Mx.small{w:World}{u:Option Addr}{d r c:Nat}{S:List Nat}(h:Mx w u d r c S):S.length≤36:=by
 rw[h.2.1]
 exact Nat.mul_le_mul h.2.2.1 h.2.2.2
theorem Mx.el_lt{w:World}{u:Option Addr}{d r c:Nat}{S:List Nat}(h:Mx w u d r c S)(i k:Nat):aP c S i k<18446744073709551616:=by
 unfold aP
 rw[List.getD_eq_getElem?_getD]
 by_cases g:i*c+k<S.length
 ·rw[List.getElem?_eq_getElem g];exact h.1.nat _ (List.getElem_mem g)
 ·rw[List.getElem?_eq_none (by omega)];decide
theorem Mx.cells{w:World}{z:Option Addr}{u r c:Nat}{S:List Nat}(h:Mx w z u r c S){i k:Nat}(D:i<r)(F:k<c):∃b d,z=some ⟨b,d,.none⟩∧b<w.heap.size∧w.cell? ⟨b,d+(i*c+k),.none⟩=some (.int .u64 (aP c S i k:Nat))∧i*c+k<S.length:=by
 have A:i*c+k<S.length:=by rw[h.2.1];exact dh D F
 obtain⟨b,d,G,H,I⟩:=h.1.ne (by rw[aG];omega)
 refine⟨b,d,G,H,?_,A⟩
 rw[I _ (by rw[aG];exact A),ev]
 rfl
theorem yR{w:World}{u:Option Addr}{d r c:Nat}{S:List Nat}(h:Mx w u d r c S):kl (r:Int) (c:Int) S.length=true:=by
 refine decide_eq_true ⟨⟨by omega,?_,by omega,?_⟩,?_⟩
 ·have:=h.2.2.1;omega
 ·have:=h.2.2.2;omega
 ·rw[h.2.1];simp
theorem Mx.of{w:World}{u:Option Addr}{d:Nat}{I:List Int}{r c:Int}(h:ak w u d I)(z:kl r c I.length=true):∃p q:Nat,r=(p:Int)∧c=(q:Int)∧Mx w u d p q (di I)∧bH (di I)=I:=by
 obtain⟨⟨A,F,D,G⟩,H⟩:=of_decide_eq_true z
 obtain⟨p,rfl⟩:=Int.eq_ofNat_of_zero_le A
 obtain⟨q,rfl⟩:=Int.eq_ofNat_of_zero_le D
 refine⟨p,q,rfl,rfl,⟨by rw[uS h];exact h,?_,by omega,by omega⟩,uS h⟩
 rw[gU]
 have:((p*q:Nat):Int)=(p:Int)*(q:Int):=by simp
 omega
def dj(H:Nat)(w':World)(r c:Nat)(S:List Nat)(v:Value):Prop:=∃ao cap,v=.agg #[.int .i64 r,.int .i64 c,.slice ao S.length cap]∧uR H ao (bH S)∧ak w' ao cap (bH S)
theorem dj.zero(H:Nat)(w:World):dj H w 0 0 [] (.agg #[.int .i64 0,.int .i64 0,.slice .none 0 0]):=⟨.none,0,rfl,.inl rfl,ak.none w 0⟩
theorem dj.least{H z:Nat}{w:World}{r c:Nat}{S:List Nat}{v:Value}(h:dj H w r c S v)(A:z≤H):dj z w r c S v:=by
 obtain⟨D,d,F,G,I⟩:=h
 refine⟨D,d,F,?_,I⟩
 rcases G with e|⟨b,u,J,K⟩
 ·exact .inl e
 ·exact .inr ⟨b,u,J,Nat.le_trans A K⟩
end Go.Proofs.YtcbcmlaogehimaaGreatDoor
