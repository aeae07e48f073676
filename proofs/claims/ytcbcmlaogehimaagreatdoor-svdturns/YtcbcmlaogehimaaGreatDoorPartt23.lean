/- Part 23 of the texts. -/
import Derived.Test.YtcbcmlaogehimaaGreatDoorPartt22
set_option maxHeartbeats 2000000
set_option maxRecDepth 20000
namespace Go.Proofs.YtcbcmlaogehimaaGreatDoor
open Go.RowKit
def mz(r c:Nat)(f:Nat→Nat→Nat):List Nat:=(List.range (r*c)).map (fun p=>f (p/c) (p%c))
theorem dg{r c i k:Nat}(d:i<r)(u:k<c):i*c+k<r*c:=by
 have h:(i+1)*c≤r*c:=Nat.mul_le_mul_right c d
 rw[Nat.add_mul,Nat.one_mul]at h
 omega
theorem iF{c i k:Nat}(d:k<c):(i*c+k)/c=i:=by
 rw[Nat.add_comm,Nat.add_mul_div_right _ _ (by omega),Nat.div_eq_of_lt d,Nat.zero_add]
theorem iG{c i k:Nat}(d:k<c):(i*c+k)%c=k:=by
 rw[Nat.add_comm,Nat.add_mul_mod_self_right,Nat.mod_eq_of_lt d]
theorem lk{r c p:Nat}(h:p<r*c):p/c<r∧p%c<c∧p/c*c+p%c=p:=by
 have d:0<c:=by
  rcases Nat.eq_zero_or_pos c with e|e
  ·subst e;omega
  ·exact e
 refine⟨(Nat.div_lt_iff_lt_mul d).2 h,Nat.mod_lt _ d,?_⟩
 have:=Nat.div_add_mod p c
 rw[Nat.mul_comm]at this
 exact this
theorem Aa{c i k x y:Nat}(d:k<c)(u:y<c):i*c+k=x*c+y↔i=x∧k=y:=by
 constructor
 ·intro h
  have z:=iF (i:=i) d
  have A:=iG (i:=i) d
  rw[h,iF u]at z
  rw[h,iG u]at A
  exact⟨z.symm,A.symm⟩
 ·rintro⟨rfl,rfl⟩;rfl
theorem fk(r c:Nat)(f:Nat→Nat→Nat):(mz r c f).length=r*c:=by simp[mz]
theorem nI(r c:Nat)(f:Nat→Nat→Nat)(p:Nat)(h:p<r*c):(mz r c f)[p]? =some (f (p/c) (p%c)):=by simp[mz,h]
theorem JP(r c:Nat)(f:Nat→Nat→Nat){i k:Nat}(h:i<r)(d:k<c):(mz r c f)[i*c+k]? =some (f i k):=by
 rw[nI _ _ _ _ (dg h d),iF d,iG d]
theorem yk(r c:Nat)(f:Nat→Nat→Nat){i k:Nat}(d:i<r)(h:k<c):(mz r c f).getD (i*c+k) 0=f i k:=by
 rw[List.getD_eq_getElem?_getD,JP r c f d h];rfl
theorem mA{r c:Nat}{f g:Nat→Nat→Nat}(h:∀i k,i<r→k<c→f i k=g i k):mz r c f=mz r c g:=by
 unfold mz
 refine List.map_congr_left (fun p d=>?_)
 obtain⟨u,z,_⟩:=lk (List.mem_range.1 d)
 exact h _ _ u z
theorem Dw(r c:Nat)(S:List Nat)(h:S.length=r*c):mz r c (fun i k=>S.getD (i*c+k) 0)=S:=by
 refine List.ext_getElem? (fun p=>?_)
 rcases Nat.lt_or_ge p (r*c)with g|g
 ·rw[nI _ _ _ _ g,(lk g).2.2,List.getD_eq_getElem?_getD,List.getElem?_eq_getElem (by omega)];rfl
 ·rw[List.getElem?_eq_none (by rw[fk];exact g),List.getElem?_eq_none (by omega)]
theorem yl(r c:Nat)(g:Nat→Nat→Nat)(v:Nat){i k:Nat}(_:i<r)(u:k<c):(mz r c g).set (i*c+k) v=mz r c (fun x y=>if x=i∧y=k then v else g x y):=by
 refine List.ext_getElem? (fun p=>?_)
 rcases Nat.lt_or_ge p (r*c)with h|h
 ·obtain⟨D,A,d⟩:=lk h
  rw[nI _ _ _ _ h,List.getElem?_set]
  have e:(i*c+k=p)↔(p/c=i∧p%c=k):=by
   rw[←d,Aa u A,d]
   exact⟨fun⟨a,b⟩=>⟨a.symm,b.symm⟩,fun⟨a,b⟩=>⟨a.symm,b.symm⟩⟩
  by_cases q:i*c+k=p
  ·rw[if_pos q,if_pos (by rw[fk];omega),if_pos (e.1 q)]
  ·rw[if_neg q,if_neg (fun z=>q (e.2 z)),nI _ _ _ _ h]
 ·rw[List.getElem?_eq_none (by simpa[fk]using h),List.getElem?_eq_none (by rw[fk];exact h)]
def aQ(c:Nat)(S:List Nat)(i k:Nat):Nat:=S.getD (i*c+k) 0
def EQ(r c:Nat)(S:List Nat):List Nat:=mz c r (fun k i=>aQ c S i k)
def Ku(c:Nat)(S:List Nat)(i k p q:Nat):List Nat:=mz p q (fun x y=>aQ c S (i+x) (k+y))
theorem lm(r c:Nat)(f:Nat→Nat→Nat){i k:Nat}(d:i<r)(h:k<c):aQ c (mz r c f) i k=f i k:=yk r c f d h
def iM(n:Nat):List Nat:=mz n n (fun i k=>if k=i then 4607182418800017408 else 0)
def cR(f:Nat→Int):Nat→Int
 |0=>0
 |n+1=>cR f n+f n
theorem iH{f g:Nat→Int}(n:Nat)(h:∀i,i<n→f i=g i):cR f n=cR g n:=by
 induction n with
 |zero=>rfl
 |succ n ih=>unfold cR;rw[ih (fun i d=>h i (by omega)),h n (by omega)]
theorem GA(f g:Nat→Int)(n:Nat):cR (fun i=>f i+g i) n=cR f n+cR g n:=by
 induction n with
 |zero=>rfl
 |succ n ih=>unfold cR;rw[ih];omega
theorem g8(n:Nat):cR (fun _=>0) n=0:=by
 induction n with
 |zero=>rfl
 |succ n ih=>unfold cR;rw[ih];rfl
theorem Dx(f:Nat→Nat→Int)(r c:Nat):cR (fun i=>cR (f i) c) r=cR (fun k=>cR (fun i=>f i k) r) c:=by
 induction r with
 |zero=>
  rw[iH (f:=fun k=>cR (fun i=>f i k) 0) (g:=fun _=>0) c (fun _ _=>rfl),g8]
  rfl
 |succ r ih=>
  have e:cR (fun i=>cR (f i) c) (r+1)=cR (fun i=>cR (f i) c) r+cR (f r) c:=rfl
  rw[e,ih,←GA]
  rfl
theorem GB(f:Nat→Int)(m n:Nat):cR f (m+n)=cR f m+cR (fun i=>f (m+i)) n:=by
 induction n with
 |zero=>show cR f m=cR f m+0;omega
 |succ n ih=>
  have d:cR f (m+(n+1))=cR f (m+n)+f (m+n):=rfl
  have h:cR (fun i=>f (m+i)) (n+1)=cR (fun i=>f (m+i)) n+f (m+n):=rfl
  rw[d,h,ih];omega
theorem Dy(f:Nat→Int)(r c:Nat):cR f (r*c)=cR (fun i=>cR (fun k=>f (i*c+k)) c) r:=by
 induction r with
 |zero=>rw[Nat.zero_mul];rfl
 |succ r ih=>
  have e:cR (fun i=>cR (fun k=>f (i*c+k)) c) (r+1)=cR (fun i=>cR (fun k=>f (i*c+k)) c) r+cR (fun k=>f (r*c+k)) c:=rfl
  rw[e,←ih,Nat.succ_mul,GB]
theorem wI{f:Nat→Int}(n:Nat)(h:∀i,i<n→0≤f i):0≤cR f n:=by
 induction n with
 |zero=>exact Int.le_refl 0
 |succ n ih=>have a:=ih (fun i d=>h i (by omega));have b:=h n (by omega);unfold cR;omega
theorem GC{f:Nat→Int}{B:Nat}(n:Nat)(h:∀i,i<n→(f i).natAbs≤B):(cR f n).natAbs≤n*B:=by
 induction n with
 |zero=>rw[Nat.zero_mul];exact Nat.le_refl 0
 |succ n ih=>
  have a:=ih (fun i d=>h i (by omega))
  have b:=h n (by omega)
  rw[Nat.succ_mul]
  unfold cR
  have:=Int.natAbs_add_le (cR f n) (f n)
  omega
def Ab(S:List Nat):Int:=cR (fun p=>fZ (S.getD p 0)*fZ (S.getD p 0)) S.length
theorem uq(r c:Nat)(S:List Nat)(h:S.length=r*c):Ab S=cR (fun i=>cR (fun k=>fZ (aQ c S i k)*fZ (aQ c S i k)) c) r:=by
 unfold Ab
 rw[h,Dy]
 rfl
def Ac(n:Nat)(x y:Nat→Nat):Int:=cR (fun j=>fZ (x j)*fZ (y j)) n
def sM(n c:Nat)(A B C:List Nat)(i k:Nat):Int:=fZ (aQ c A i k)*2^1074-Ac n (fun j=>aQ n B i j) (fun j=>aQ c C j k)
def GD(r n c:Nat)(A B C:List Nat):Int:=cR (fun i=>cR (fun k=>sM n c A B C i k*sM n c A B C i k) c) r
def sN(r c:Nat)(Q:List Nat)(i k:Nat):Int:=Ac r (fun j=>aQ c Q j i) (fun j=>aQ c Q j k)-(if i=k then 2^2148 else 0)
def Kv(r c:Nat)(Q:List Nat):Int:=cR (fun i=>cR (fun k=>sN r c Q i k*sN r c Q i k) c) c
theorem Dz:fZ 4607182418800017408=2^1074:=by decide+kernel
def Ad(f:Nat→Nat→Int)(c i k:Nat):Int:=cR (fun i=>cR (f i) c) i+cR (f i) k
theorem ur(f:Nat→Nat→Int)(c i k:Nat):Ad f c i (k+1)=Ad f c i k+f i k:=by
 unfold Ad
 have e:cR (f i) (k+1)=cR (f i) k+f i k:=rfl
 rw[e,Int.add_assoc]
theorem ym(f:Nat→Nat→Int)(c i:Nat):Ad f c i c=Ad f c (i+1) 0:=by
 unfold Ad
 have e:cR (fun i=>cR (f i) c) (i+1)=cR (fun i=>cR (f i) c) i+cR (f i) c:=rfl
 have d:cR (f (i+1)) 0=0:=rfl
 rw[e,d,Int.add_zero]
theorem yn(f:Nat→Nat→Int)(c r:Nat):Ad f c r 0=cR (fun i=>cR (f i) c) r:=by
 unfold Ad
 have d:cR (f r) 0=0:=rfl
 rw[d,Int.add_zero]
theorem rH{f:Nat→Int}{W:Nat}(n:Nat)(d:n≤8)(h:∀i,i<n→(f i).natAbs<2^W):(cR f n).natAbs<2^(W+3):=by
 have a:=GC (f:=f) (B:=2^W-1) n (fun i u=>Nat.le_sub_one_of_lt (h i u))
 have p:=Nat.two_pow_pos W
 have e:(2:Nat)^(W+3)=8*2^W:=by rw[Nat.pow_add];omega
 rw[e]
 generalize (2:Nat)^W=P at*
 have:n*(P-1)≤8*(P-1):=Nat.mul_le_mul_right _ d
 omega
theorem JQ{f:Nat→Nat→Int}{W:Nat}(r c i k:Nat)(F:i≤r)(G:r≤8)(d:k≤c)(u:c≤8)(h:∀i k,k<c→(f i k).natAbs<2^W):(Ad f c i k).natAbs<2^(W+7):=by
 unfold Ad
 have a:(cR (fun i=>cR (f i) c) i).natAbs<2^(W+3+3):=rH i (by omega) (fun j _=>rH c u (fun k d=>h j k d))
 have b:(cR (f i) k).natAbs<2^(W+3):=rH k (by omega) (fun l H=>h i l (by omega))
 have z:(2:Nat)^(W+3+3)=64*2^W:=by rw[Nat.pow_add,Nat.pow_add];omega
 have A:(2:Nat)^(W+3)=8*2^W:=by rw[Nat.pow_add];omega
 have D:(2:Nat)^(W+7)=128*2^W:=by rw[Nat.pow_add];omega
 rw[z]at a
 rw[A]at b
 rw[D]
 have:=Int.natAbs_add_le (cR (fun i=>cR (f i) c) i) (cR (f i) k)
 generalize (2:Nat)^W=P at*
 omega
theorem dG(c:Nat)(S:List Nat)(i k:Nat)(h:∀x∈S,aj x=true):aj (aQ c S i k)=true:=by
 unfold aQ
 rw[List.getD_eq_getElem?_getD]
 by_cases g:i*c+k<S.length
 ·rw[List.getElem?_eq_getElem g]
  exact h _ (List.getElem_mem g)
 ·rw[List.getElem?_eq_none (by omega)]
  decide+kernel
theorem jR{j k V:Nat}{x y:Int}(d:j+k=V)(h:x.natAbs<2^j)(u:y.natAbs<2^k):(x*y).natAbs<2^V:=by
 subst d
 rw[Int.natAbs_mul]
 exact km h u
theorem jb{f:Nat→Int}{W V:Nat}(d:W+3=V)(n:Nat)(u:n≤8)(h:∀i,i<n→(f i).natAbs<2^W):(cR f n).natAbs<2^V:=by
 subst d
 exact rH n u h
theorem yp{x y:Int}{W V:Nat}(d:W+1=V)(h:x.natAbs<2^W)(u:y.natAbs<2^W):(x-y).natAbs<2^V:=by
 subst d
 rw[Nat.pow_succ]
 omega
theorem yq{f:Nat→Nat→Int}{W V:Nat}(d:W+7=V)(r c i k:Nat)(u:i≤r)(z:r≤8)(A:k≤c)(D:c≤8)(h:∀i k,k<c→(f i k).natAbs<2^W):(Ad f c i k).natAbs<2^V:=by
 subst d
 exact JQ r c i k u z A D h
theorem DA{x:Int}{j k V:Nat}(d:j+k≤V)(h:x.natAbs<2^j):(x*2^k).natAbs<2^V:=by
 rw[Int.natAbs_mul,Int.natAbs_pow]
 refine Nat.lt_of_lt_of_le ((Nat.mul_lt_mul_right (Nat.two_pow_pos k)).2 h) ?_
 rw[←Nat.pow_add]
 exact Nat.pow_le_pow_right (by decide) d
theorem yr{j V:Nat}(h:j<V):((2:Int)^j).natAbs<2^V:=by
 rw[Int.natAbs_pow]
 exact Nat.pow_lt_pow_right (by decide) h
theorem wJ(n:Nat)(h:n≤8)(x y:Nat→Nat)(u:∀j,j<n→aj (x j)=true)(z:∀j,j<n→aj (y j)=true):(Ac n x y).natAbs<2^4199:=
 jb (W:=4196) (V:=4199) (by decide) n h (fun j d=>jR (j:=2098) (k:=2098) (V:=4196) (by decide) (e9 _ (u j d)) (e9 _ (z j d)))
theorem GE(n:Nat)(d:n≤8)(x y:Nat→Nat)(h:∀j,j<n→aj (x j)=true)(u:∀j,j<n→aj (y j)=true):eL (-2148) 4199 (Ac n x y):=
 ⟨wJ n d x y h u,by decide,by decide,by decide⟩
theorem wK(n c:Nat)(A B C:List Nat)(i k:Nat)(d:n≤8)(fA:∀x∈A,aj x=true)(h:∀x∈B,aj x=true)(u:∀x∈C,aj x=true):(sM n c A B C i k).natAbs<2^4200:=
 yp (W:=4199) (V:=4200) (by decide) (DA (j:=2098) (k:=1074) (V:=4199) (by decide) (e9 _ (dG c A i k fA))) (wJ n d _ _ (fun j _=>dG n B i j h) (fun j _=>dG c C j k u))
theorem wL(r c:Nat)(Q:List Nat)(i k:Nat)(d:r≤8)(fQ:∀x∈Q,aj x=true):(sN r c Q i k).natAbs<2^4200:=by
 unfold sN
 refine yp (W:=4199) (V:=4200) (by decide) (wJ r d _ _ (fun j _=>dG c Q j i fQ) (fun j _=>dG c Q j k fQ)) ?_
 by_cases h:i=k
 ·rw[if_pos h]
  exact yr (j:=2148) (V:=4199) (by decide)
 ·rw[if_neg h]
  exact Nat.two_pow_pos 4199
attribute [local go_sem ↓] Go.wp_at_zero Go.wp_at_succ
def dh(I:List Int):List Nat:=I.map Int.toNat
theorem gO(I:List Int):(dh I).length=I.length:=by simp[dh]
theorem Ae{w:World}{d:Option Addr}{c:Nat}{I:List Int}(h:al w d c I):(dh I).map (fun x:Nat=>(x:Int))=I:=by
 unfold dh
 rw[List.map_map]
 refine(List.map_congr_left fun x u=>?_).trans (List.map_id I)
 have:=h.2.1 x u
 simp
 omega
theorem append_nil(w:World)(d:TypeId)(g c:Nat):
  (Builtin.append_ #[22,22] d #[.slice (some ⟨g,0,none⟩) 0 0,.slice none 0 c]).run Tryz.prog w=.ok (.slice (some ⟨g,0,none⟩) 0 0) w:=by
 simp[Builtin.append_,go_sem]
def us(H:Nat)(ao:Option Addr)(I:List Int):Prop:=I= []∨∃b off,ao=some ⟨b,off,none⟩∧H≤b
def aK(w:World)(b:Nat)(x y z:Value):Prop:=w.heap[b]? =some (.cells #[x,y,z] 24 (0,0))
theorem aK.c0{w:World}{b:Nat}{x y z:Value}(h:aK w b x y z):w.cell? ⟨b,0,none⟩=some x:=by rw[cell_of_row w b 0 _ _ _ h];rfl
theorem aK.c1{w:World}{b:Nat}{x y z:Value}(h:aK w b x y z):w.cell? ⟨b,1,none⟩=some y:=by rw[cell_of_row w b 1 _ _ _ h];rfl
theorem aK.c2{w:World}{b:Nat}{x y z:Value}(h:aK w b x y z):w.cell? ⟨b,2,none⟩=some z:=by rw[cell_of_row w b 2 _ _ _ h];rfl
theorem aK.free{w:World}{b:Nat}{x y z:Value}(h:aK w b x y z)(j:Nat):w.frozen? ⟨b,j,none⟩=false:=frozen_of_row w b j _ _ h
theorem aK.lt{w:World}{b:Nat}{x y z:Value}(h:aK w b x y z):b<w.heap.size:=(Array.getElem?_eq_some_iff.1 h).1
theorem aK.below{w u:World}{b:Nat}{x y z:Value}(h:aK w b x y z){B:Nat}(A:Below B w u)(d:b<B):aK u b x y z:=(A.block b d).trans h
theorem aK.new(w:World)(x y z:Value):aK (w.alloc (.cells #[x,y,z] 24)) w.heap.size x y z:=heap_alloc_new w _
theorem aK.all{w d:World}{b:Nat}{x y z:Value}(h:aK w b x y z)(u:Below w.heap.size w d):aK d b x y z:=h.below u h.lt
theorem aK.other{w:World}{b:Nat}{x y z:Value}(h:aK w b x y z){p:Addr}(d:b≠p.block)(u:Value):aK (w.setCell p u) b x y z:=(Below.heap_setCell w p u b d).trans h
theorem aK.put{w:World}{b:Nat}{x y z:Value}(h:aK w b x y z)(u A d:Value):aK (((w.setCell ⟨b,0,none⟩ u).setCell ⟨b,1,none⟩ A).setCell ⟨b,2,none⟩ d) b u A d:=by
 have D:=heap_setCell_same w b 0 _ _ u h
 have F:=heap_setCell_same (w.setCell ⟨b,0,none⟩ u) b 1 _ _ A D
 have G:=heap_setCell_same ((w.setCell ⟨b,0,none⟩ u).setCell ⟨b,1,none⟩ A) b 2 _ _ d F
 unfold aK
 rw[G]
 simp
theorem aN{w A:World}{B b:Nat}(h:Below B w A)(d:B≤b)(u D z:Value):Below B w (((A.setCell ⟨b,0,none⟩ u).setCell ⟨b,1,none⟩ D).setCell ⟨b,2,none⟩ z):=
 ((h.setCell d _).setCell d _).setCell d _
theorem aK.grown{w d:World}{b:Nat}{x y z:Value}(h:aK w b x y z){o:Option Nat}(u:w.grownBy d o)(A:o≠some b):aK d b x y z:=
 (u.block b h.lt A.symm).trans h
def DB(r c:Int):Bool:=decide (0≤r∧r≤6∧0≤c∧c≤6)
def j5(r c:Int)(n:Nat):Bool:=decide ((0≤r∧r≤6∧0≤c∧c≤6)∧(n:Int)=r*c)
theorem jC(r c:Int)(w:World):
  Calls Tryz.prog 167 #[.int .i64 r,.int .i64 c] w fun e d=>e=.returned (.bool (DB r c))∧w=d:=by
 rcases(show(r<0∧DB r c=false)∨(0≤r∧6<r∧DB r c=false)∨(0≤r∧r≤6∧c<0∧DB r c=false)∨(0≤r∧r≤6∧0≤c∧6<c∧DB r c=false)∨(0≤r∧r≤6∧0≤c∧c≤6∧DB r c=true) by
  unfold DB
  by_cases h:0≤r∧r≤6∧0≤c∧c≤6
  ·rw[decide_eq_true h];simp;omega
  ·rw[decide_eq_false h];simp;omega)with⟨h1,e⟩|⟨h1,h2,e⟩|⟨h1,h2,h3,e⟩|⟨h1,h2,h3,h4,e⟩|⟨h1,h2,h3,h4,e⟩
 all_goals
  rw[e]
  clear e
  go_enter Tryz.func167,Tryz.ntmps167
  go_wp2
  go_ret
  refine⟨?_,rfl⟩
  first|rfl|(simp;omega)
theorem gP(r c:Int)(J:Option Addr)(n F:Nat)(w:World)(O:n≤35184372088830):
  Calls Tryz.prog 117 #[.agg #[.int .i64 r,.int .i64 c,.slice J n F]] w fun e G=>e=.returned (.int .i64 (if j5 r c n=true then 0 else 1))∧Below w.heap.size w G:=by
 have u:=ac (fun G=>jC r c G)
 have A:=ac (ad w (.cells #[.int .i64 r,.int .i64 c,.slice J n F] 24))
 by_cases d:0≤r∧r≤6∧0≤c∧c≤6
 ·have D:DB r c=true:=decide_eq_true d
  rw[D]at u
  have H:∃m:Nat,r*c=(m:Int)∧m≤36:=by
   obtain⟨a,rfl⟩:=Int.eq_ofNat_of_zero_le d.1
   obtain⟨b,rfl⟩:=Int.eq_ofNat_of_zero_le d.2.2.1
   refine⟨a*b,by simp,?_⟩
   have:a*b≤6*6:=Nat.mul_le_mul (by omega) (by omega)
   omega
  obtain⟨m,H,N⟩:=H
  by_cases I:n=m
  ·have z:j5 r c n=true:=decide_eq_true ⟨d,by rw[H,I]⟩
   rw[if_pos z]
   subst I
   clear D z d
   go_enter Tryz.func117,Tryz.ntmps117
   go_wp2_with fail
   refine(uH u _).mono ?_
   rintro e K ⟨rfl,rfl⟩
   clear u
   go_wp2
   go_ret
   exact⟨rfl,uH A⟩
  ·have z:j5 r c n=false:=decide_eq_false (fun h=>I (by have:=h.2;omega))
   rw[if_neg (by rw[z];decide)]
   have L:decide ((n:Int)=(m:Int))=false:=decide_eq_false (by omega)
   clear D z d
   go_enter Tryz.func117,Tryz.ntmps117
   go_wp2_with fail
   refine(uH u _).mono ?_
   rintro e K ⟨rfl,rfl⟩
   clear u
   go_wp2
   go_ret
   exact⟨rfl,uH A⟩
 ·have D:DB r c=false:=decide_eq_false d
  rw[D]at u
  have z:j5 r c n=false:=decide_eq_false (fun h=>d h.1)
  rw[if_neg (by rw[z];decide)]
  clear D z d
  go_enter Tryz.func117,Tryz.ntmps117
  go_wp2_with fail
  refine(uH u _).mono ?_
  rintro e K ⟨rfl,rfl⟩
  clear u
  go_wp2
  go_ret
  exact⟨rfl,uH A⟩
end Go.Proofs.YtcbcmlaogehimaaGreatDoor
namespace Go.Proofs.YtcbcmlaogehimaaGreatDoor
open Go.RowKit
def bF(S:List Nat):List Int:=S.map (fun x:Nat=>(x:Int))
theorem aH(S:List Nat):(bF S).length=S.length:=by simp[bF]
theorem ev(S:List Nat)(j:Nat):bH (bF S) j=S.getD j 0:=by
 unfold bF bH
 rw[List.getElem?_map,List.getD_eq_getElem?_getD]
 cases S[j]? <;>simp
theorem ut{w:World}{d:Option Addr}{c:Nat}{I:List Int}(h:al w d c I):bF (dh I)=I:=Ae h
theorem uu(S:List Nat):dh (bF S)=S:=by
 unfold dh bF
 rw[List.map_map]
 refine(List.map_congr_left fun x _=>?_).trans (List.map_id S)
 simp
theorem al.nat{w:World}{d:Option Addr}{c:Nat}{S:List Nat}(h:al w d c (bF S)):∀x∈S,x<18446744073709551616:=by
 intro x u
 have:=h.2.1 (x:Int) (List.mem_map.2 ⟨x,u,rfl⟩)
 omega
theorem al.none(w:World)(c:Nat):al w .none c (bF []):=⟨by simp[bF],by simp[bF],.inl rfl⟩
theorem al.putM{w:World}{G:Option Addr}{c:Nat}{I:List Int}(h:al w G c I){g:Nat}{x y:Int}{a:Option Addr}{n d:Nat}(K:aK w g (.int .i64 x) (.int .i64 y) (.slice a n d))(u L F:Value):
  al (((w.setCell ⟨g,0,.none⟩ u).setCell ⟨g,1,.none⟩ L).setCell ⟨g,2,.none⟩ F) G c I:=by
 refine⟨h.1,h.2.1,?_⟩
 rcases h.2.2 with Q|⟨b,z,U,X,J⟩
 ·exact .inl Q
 ·by_cases H:I= []
  ·exact .inl H
  ·have O:0<I.length:=List.length_pos_iff.2 H
   have A:b≠g:=by
    rintro rfl
    have D:=J 0 O
    rw[cell_of_row w b (z+0) _ _ _ K]at D
    rcases(show z=0∨z=1∨z=2∨3≤z by omega)with e|e|e|e
    ·subst e;simp at D
    ·subst e;simp at D
    ·subst e;simp at D
    ·rw[Array.getElem?_eq_none (by simp;omega)]at D;simp at D
   refine .inr ⟨b,z,U,by simpa[World.setCell]using X,fun i N=>?_⟩
   rw[bc _ _ _ _ (by simpa using A),bc _ _ _ _ (by simpa using A),bc _ _ _ _ (by simpa using A)]
   exact J i N
def Mx(w:World)(ao:Option Addr)(cap r c:Nat)(S:List Nat):Prop:=al w ao cap (bF S)∧S.length=r*c∧r≤6∧c≤6
theorem Mx.below{w u:World}{z:Option Addr}{d r c:Nat}{S:List Nat}(h:Mx w z d r c S)(A:Below w.heap.size w u):Mx u z d r c S:=⟨h.1.below A,h.2⟩
theorem Mx.small{w:World}{u:Option Addr}{d r c:Nat}{S:List Nat}(h:Mx w u d r c S):S.length≤36:=by
 rw[h.2.1]
 exact Nat.mul_le_mul h.2.2.1 h.2.2.2
theorem Mx.el_lt{w:World}{u:Option Addr}{d r c:Nat}{S:List Nat}(h:Mx w u d r c S)(i k:Nat):aQ c S i k<18446744073709551616:=by
 unfold aQ
 rw[List.getD_eq_getElem?_getD]
 by_cases g:i*c+k<S.length
 ·rw[List.getElem?_eq_getElem g];exact h.1.nat _ (List.getElem_mem g)
 ·rw[List.getElem?_eq_none (by omega)];decide
theorem Mx.cells{w:World}{z:Option Addr}{u r c:Nat}{S:List Nat}(h:Mx w z u r c S){i k:Nat}(D:i<r)(F:k<c):∃b d,z=some ⟨b,d,.none⟩∧b<w.heap.size∧w.cell? ⟨b,d+(i*c+k),.none⟩=some (.int .u64 (aQ c S i k:Nat))∧i*c+k<S.length:=by
 have A:i*c+k<S.length:=by rw[h.2.1];exact dg D F
 obtain⟨b,d,G,H,I⟩:=h.1.ne (by rw[aH];omega)
 refine⟨b,d,G,H,?_,A⟩
 rw[I _ (by rw[aH];exact A),ev]
 rfl
theorem yt{w:World}{u:Option Addr}{d r c:Nat}{S:List Nat}(h:Mx w u d r c S):j5 (r:Int) (c:Int) S.length=true:=by
 refine decide_eq_true ⟨⟨by omega,?_,by omega,?_⟩,?_⟩
 ·have:=h.2.2.1;omega
 ·have:=h.2.2.2;omega
 ·rw[h.2.1];simp
theorem Mx.of{w:World}{u:Option Addr}{d:Nat}{I:List Int}{r c:Int}(h:al w u d I)(z:j5 r c I.length=true):∃p q:Nat,r=(p:Int)∧c=(q:Int)∧Mx w u d p q (dh I)∧bF (dh I)=I:=by
 obtain⟨⟨A,F,D,G⟩,H⟩:=of_decide_eq_true z
 obtain⟨p,rfl⟩:=Int.eq_ofNat_of_zero_le A
 obtain⟨q,rfl⟩:=Int.eq_ofNat_of_zero_le D
 refine⟨p,q,rfl,rfl,⟨by rw[ut h];exact h,?_,by omega,by omega⟩,ut h⟩
 rw[gO]
 have:((p*q:Nat):Int)=(p:Int)*(q:Int):=by simp
 omega
def dk(H:Nat)(w':World)(r c:Nat)(S:List Nat)(v:Value):Prop:=∃ao cap,v=.agg #[.int .i64 r,.int .i64 c,.slice ao S.length cap]∧us H ao (bF S)∧al w' ao cap (bF S)
theorem dk.zero(H:Nat)(w:World):dk H w 0 0 [] (.agg #[.int .i64 0,.int .i64 0,.slice .none 0 0]):=⟨.none,0,rfl,.inl rfl,al.none w 0⟩
theorem dk.least{H z:Nat}{w:World}{r c:Nat}{S:List Nat}{v:Value}(h:dk H w r c S v)(A:z≤H):dk z w r c S v:=by
 obtain⟨D,d,F,G,I⟩:=h
 refine⟨D,d,F,?_,I⟩
 rcases G with e|⟨b,u,J,K⟩
 ·exact .inl e
 ·exact .inr ⟨b,u,J,Nat.le_trans A K⟩
end Go.Proofs.YtcbcmlaogehimaaGreatDoor
