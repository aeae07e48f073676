/- Part 30 of the texts. -/
import Derived.Test.YtnnfjeieennffaaGreatDoorPartc29
set_option maxRecDepth 20000
namespace Go.Proofs.YtnnfjeieennffaaGreatDoor
open Go.RowKit
def Mr.pair(x:Mr):List Value:=[.slice x.ao x.V.length x.cap,.int .u64 (x.tau:Nat)]
def fd(R:List Mr):List Value:=R.flatMap Mr.pair
theorem mp:∀(R:List Mr) (k:Nat),k<R.length→(fd R)[k*2]? =some (.slice (bO R k).ao (bO R k).V.length (bO R k).cap)∧(fd R)[k*2+1]? =some (.int .u64 ((bO R k).tau:Nat))
 |x::R,0,_=>by simp[fd,bO,Mr.pair]
 |x::R,k+1,h=>by
  have:=mp R k (by simpa using h)
  have e:fd (x::R)=.slice x.ao x.V.length x.cap::.int .u64 (x.tau:Nat)::fd R:=rfl
  rw[e,show(k+1)*2=k*2+1+1 by omega]
  simpa[bO]using this
def bI(base:Nat)(w:World)(v:Value)(R:List Mr):Prop:=w.ownsRow base 105 2 v R.length (fd R)∧∀x∈R,ad w x.ao x.cap (az x.V)∧yU v.ownBlock x
theorem bI.start(w:World)(d:Nat):bI d w (.slice none 0 0) []:=⟨⟨by rfl,.inl ⟨rfl,rfl⟩⟩,by simp⟩
theorem bI.below{d:Nat}{w w':World}{v:Value}{R:List Mr}(h:bI d w v R)(f:Below w.heap.size w w'):bI d w' v R:=
 ⟨gE h.1 ⟨f.os,f.tape,f.output,f.size,fun k m _=>f.block k m⟩ (fun k _=>by simp:∀k,v.ownBlock=some k→some k≠none),fun x l=>⟨((h.2 x l).1).below f,(h.2 x l).2⟩⟩
theorem bI.lt{d:Nat}{w:World}{v:Value}{R:List Mr}(h:bI d w v R):∀k,v.ownBlock=some k→d≤k∧k<w.heap.size:=h.1.lt
theorem Ii:(Tryz.prog.info? 105).map (fun i=>(i.zero,i.size,i.bytes))=some (some (.agg #[.slice none 0 0,.int .u64 0]),2,32):=by kernel_rfl
theorem bI.push{d:Nat}{w:World}{v:Value}{R:List Mr}(h:bI d w v R)(x:Mr)(N:ad w x.ao x.cap (az x.V))(O:yU v.ownBlock x)(hl:R.length≤1000000)(Q:d≤w.heap.size)(H:TypeId):
  ∃m w',(Builtin.append_ #[64,64] H #[v,.slice (some ⟨w.heap.size,0,none⟩) 1 1]).run Tryz.prog (w.alloc (.cells #[.slice x.ao x.V.length x.cap,.int .u64 (x.tau:Nat)] 105))=.ok m w'∧bI d w' m (R++[x])∧Below d w w'∧(w.alloc (.cells #[.slice x.ao x.V.length x.cap,.int .u64 (x.tau:Nat)] 105)).grownBy w' v.ownBlock∧(m.ownBlock=v.ownBlock∨m.ownBlock=some (w.heap.size+1)):=by
 obtain⟨i0,hi,A,D,F⟩:=info_parts Ii
 have t:=ac w (.cells #[.slice x.ao x.V.length x.cap,.int .u64 (x.tau:Nat)] 105)
 have Y:=heap_alloc_new w (.cells #[.slice x.ao x.V.length x.cap,.int .u64 (x.tau:Nat)] 105)
 have Z:=an w (.cells #[.slice x.ao x.V.length x.cap,.int .u64 (x.tau:Nat)] 105)
 have L:=h.below t
 have z:=N.below t
 generalize w.alloc (.cells #[.slice x.ao x.V.length x.cap,.int .u64 (x.tau:Nat)] 105)=W at*
 obtain⟨m,w',e1,e2,G,e4,M⟩:=run_append_own_at (P:=Tryz.prog) W d 64 H 105 i0 (.agg #[.slice none 0 0,.int .u64 0]) 2 32 Tryz.underlying64 hi A D F rfl (by decide) v R.length (fd R) L.1 ⟨w.heap.size,0,none⟩ 1 1 x.pair rfl (fun j u U=>by
   rw[show(⟨w.heap.size,0,none⟩:Addr).add j=⟨w.heap.size,j,none⟩from by unfold Addr.add;split<;>simp_all,cell_of_row _ w.heap.size j _ _ _ Y]
   simpa[Mr.pair]using U) (fun u K=>by
   simp[Mr.pair]at K
   rcases K with rfl|rfl<;>rfl) (by unfold maxLen;omega) (by omega) (by omega)
 ·refine⟨m,w',e1,⟨?_,fun y l=>?_⟩,(t.mono Q).grown G (by omega) (fun g X=>(h.1.lt g X).1),G,by rw[←Z];exact M⟩
  ·rw[List.length_append,show fd (R++[x])=fd R++x.pair by simp[fd]]
   exact e2
  ·have f:ad W y.ao y.cap (az y.V)∧yU v.ownBlock y:=by
    rcases List.mem_append.1 l with l|l
    ·exact L.2 y l
    ·simp at l;subst l;exact⟨z,O⟩
   refine⟨iI f.1 f.2 G,?_⟩
   rcases M with e|e
   ·rw[e];exact f.2
   ·rw[e];exact yU.new f.1 (Nat.le_refl _)
theorem bI.putQ{f:Nat}{w:World}{v:Value}{R:List Mr}(h:bI f w v R){g:Nat}{x y:Int}{o:Option Addr}{n d:Nat}(A:aw w g (.int .i64 x) (.int .i64 y) (.slice o n d))(u u' u'':Value):bI f (((w.setCell ⟨g,0,none⟩ u).setCell ⟨g,1,none⟩ u').setCell ⟨g,2,none⟩ u'') v R:=by
 refine⟨⟨h.1.1,?_⟩,fun z D=>⟨(h.2 z D).1.putM A u u' u'',(h.2 z D).2⟩⟩
 rcases h.1.2 with e|⟨k,m,t,G,H,F,rest⟩
 ·exact .inl e
 ·have l:k≠g:=by
   rintro rfl
   have e:=F.symm.trans A
   simp at e
  exact .inr ⟨k,m,t,G,H,(Below.heap_setCell _ ⟨g,2,none⟩ u'' k l).trans ((Below.heap_setCell _ ⟨g,1,none⟩ u' k l).trans ((Below.heap_setCell _ ⟨g,0,none⟩ u k l).trans F)),rest⟩
theorem bI.grown{d:Nat}{w w':World}{v:Value}{R:List Mr}(h:bI d w v R){g:Nat}(m:v.ownBlock≠some g)(t:∀x∈R,yU (some g) x)(l:w.grownBy w' (some g)):bI d w' v R:=
 ⟨gE h.1 l (fun k z e=>m (by rw[z,e])),fun x f=>⟨iI (h.2 x f).1 (t x f) l,(h.2 x f).2⟩⟩
theorem bI.slice{d:Nat}{w:World}{v:Value}{R:List Mr}(h:bI d w v R):∃lo f,v=.slice lo R.length f:=by
 rcases h.1.2 with⟨l,m⟩|⟨g,t,z,A,_⟩
 ·exact⟨none,0,by rw[l,m]⟩
 ·exact⟨_,_,A⟩
theorem bI.least{d m:Nat}{w:World}{v:Value}{R:List Mr}(h:bI d w v R)(t:m≤d):bI m w v R:=by
 refine⟨⟨h.1.1,?_⟩,h.2⟩
 rcases h.1.2 with e|⟨k,f,l,z,A,rest⟩
 ·exact .inl e
 ·exact .inr ⟨k,f,l,z,Nat.le_trans t A,rest⟩
theorem bI.at{d:Nat}{w:World}{v:Value}{R:List Mr}(h:bI d w v R){k:Nat}(t:k<R.length):∃g f,v=.slice (some ⟨g,0,none⟩) R.length f∧d≤g∧g<w.heap.size∧w.cell? ⟨g,k*2,none⟩=some (.slice (bO R k).ao (bO R k).V.length (bO R k).cap)∧w.cell? ⟨g,k*2+1,none⟩=some (.int .u64 ((bO R k).tau:Nat))∧ad w (bO R k).ao (bO R k).cap (az (bO R k).V):=by
 rcases h.1.2 with⟨A,H⟩|⟨g,f,D,A,F,z,K,L,M,G⟩
 ·omega
 ·obtain⟨l,m⟩:=mp R k t
  rw[←G,List.getElem?_take]at l m
  rw[if_pos (by omega)]at l m
  simp only[Array.getElem?_toList]at l m
  refine⟨g,f,A,F,(Array.getElem?_eq_some_iff.1 z).1,?_,?_,(h.2 (bO R k) ?_).1⟩
  ·rw[cell_of_row w g _ _ _ _ z];exact l
  ·rw[cell_of_row w g _ _ _ _ z];exact m
  ·unfold bO
   rw[List.getElem?_eq_getElem t]
   exact List.getElem_mem t
def vB:Nat→List Nat→List Nat→Nat
 |s,x::xs,y::ys=>vB (aV s (mV x y)) xs ys
 |s,_,_=>s
def Jt(t:Nat):List Nat→List Nat→List Nat
 |v::vs,y::ys=>aV y (fN (mV t v))::Jt t vs ys
 |_,_=>[]
def Ju(K:Int)(xs:List Nat):Prop:=(∀x∈xs,x<18446744073709551616∧ap x=true)∧(fO 0 xs=0∨(-K≤eX (fO 0 xs)∧eX (fO 0 xs)<K))
theorem Fp(K:Int)(d:List Nat)(h:Ju K d)(z:fO 0 d≠0):
  fO 0 d<9218868437227405312∧ap (fO 0 d)=true∧fK (fO 0 d)≠0∧fS (fO 0 d)=false∧-K≤eX (fO 0 d)∧eX (fO 0 d)<K∧
  (∀x∈d,ab (fQ x)≤fQ (fO 0 d))∧(∀x∈d,ab (dQ (eX (fO 0 d)) x)≤2)∧(∃x∈d,ab (fQ x)=fQ (fO 0 d)∧1≤dQ (eX (fO 0 d)) x*dQ (eX (fO 0 d)) x):=by
 obtain⟨Q,g2,g3,l⟩:=re d 0 (by decide) (fun x m=>(h.1 x m).2)
 have X:=h.2
 generalize hM:fO 0 d=M at*
 obtain⟨a1,U,A⟩:=iE M (by omega)
 have fM:ap M=true:=(aQ M).2.2.2 (by rw[U];exact Q)
 have G:fK M≠0:=fun e=>z (by have:=(aS M).1 e;omega)
 have Y:=vr M A
 have H:fQ M=(rv M:Rat)*p2 (-1074):=by rw[e9,A,U];rfl
 obtain⟨V,D⟩:=Ib M (by omega) fM G
 rw[gQ Y]at V D
 have f:∀x∈d,ab (fQ x)≤fQ M:=fun x m=>by
  rw[me,H]
  have Z:(rv (fR x):Rat)≤(rv M:Rat):=Rat.natCast_le_natCast.2 (kg (g3 x m))
  have:=Rat.mul_le_mul_of_nonneg_left Z (Rat.le_of_lt (dp (-1074)))
  grind
 obtain⟨y,hy,F⟩:∃x∈d,fR x=M:=by
  rcases l with l|l
  ·exact absurd l z
  ·exact l
 clear l
 have L:ab (fQ y)=fQ M:=by rw[me,H,F]
 have t:=dp (-eX M)
 have ae:p2 (-eX M)*p2 (eX M)=1:=Bs _
 rw[wN]at D
 have u1:=Rat.mul_le_mul_of_nonneg_left V (Rat.le_of_lt t)
 have u2:=Rat.mul_lt_mul_of_pos_left D t
 have N:∀x,ab (dQ (eX M) x)=ab (fQ x)*p2 (-eX M):=fun x=>by
  unfold dQ;rw[qZ,gQ (Rat.le_of_lt t)]
 have O:=X.resolve_left z
 refine⟨Q,fM,G,A,O.1,O.2,f,?_,y,hy,L,?_⟩
 ·intro x m
  rw[N]
  have:=Rat.mul_le_mul_of_nonneg_left (f x m) (Rat.le_of_lt t)
  grind
 ·have e1:1≤ab (dQ (eX M) y):=by rw[N,L];grind
  have e2:dQ (eX M) y*dQ (eX M) y=ab (dQ (eX M) y)*ab (dQ (eX M) y):=by
   rw[←qZ];exact(gQ (ef _)).symm
  rw[e2]
  have:=Rat.mul_nonneg (show 0≤ab (dQ (eX M) y)-1 by grind) (show 0≤ab (dQ (eX M) y)-1 by grind)
  grind
def sm:Nat→(Nat→Rat)→Rat
 |0,_=>0
 |n+1,f=>sm n f+f n
end Go.Proofs.YtnnfjeieennffaaGreatDoor
