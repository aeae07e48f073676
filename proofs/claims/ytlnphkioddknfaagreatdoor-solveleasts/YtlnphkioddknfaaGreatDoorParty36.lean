/- Part 36 of the texts. -/
import Derived.Test.YtlnphkioddknfaaGreatDoorParty35
set_option maxHeartbeats 8000000
set_option maxRecDepth 20000
namespace Go.Proofs.YtlnphkioddknfaaGreatDoor
def DQ(r c:Nat)(S:List Nat)(j b i:Nat):List Nat:=bW r c (fun p q=>if q=j∧j≤p∧p<i then(if p=j then b else 0)else bB c S p q)
theorem iV(r c:Nat)(S:List Nat)(j b i:Nat):(DQ r c S j b i).length=r*c:=bg _ _ _
theorem qa(r c:Nat)(S:List Nat){j:Nat}(b:Nat)(h:S.length=r*c)(d:j<r)(f:j<c):S.set (j*c+j) b=DQ r c S j b (j+1):=by
 have e:S=bW r c (fun p q=>bB c S p q):=by
  conv=>lhs;rw[←qW r c S h]
  rfl
 conv=>lhs;rw[e]
 rw[iR r c _ _ d f]
 unfold DQ
 refine aX (fun p q _ _=>?_)
 by_cases g:p=j∧q=j
 ·rw[if_pos g,if_pos ⟨g.2,by omega,by omega⟩,if_pos g.1]
 ·rw[if_neg g,if_neg (fun l=>g (by omega))]
theorem xp(r c:Nat)(S:List Nat){j i:Nat}(b:Nat)(l:j<i)(f:i<r)(h:j<c):(DQ r c S j b i).set (i*c+j) 0=DQ r c S j b (i+1):=by
 unfold DQ
 rw[iR r c _ _ f h]
 refine aX (fun p q _ _=>?_)
 by_cases g:p=i∧q=j
 ·rw[if_pos g,if_pos ⟨g.2,by omega,by omega⟩,if_neg (by omega)]
 ·rw[if_neg g]
  by_cases d:q=j∧j≤p∧p<i
  ·rw[if_pos d,if_pos (show q=j∧j≤p∧p<i+1 by omega)]
  ·rw[if_neg d,if_neg (show¬(q=j∧j≤p∧p<i+1) by omega)]
def Iu(r c:Nat)(S:List Nat)(j b:Nat):List Nat:=DQ r c S j b r
theorem FY(r c:Nat)(S:List Nat)(j b:Nat):(Iu r c S j b).length=r*c:=iV _ _ _ _ _ _
def Iv(r c:Nat)(S:List Nat)(j:Nat):List Nat:=eG c S j (r-j) j
theorem FZ(r c:Nat)(S:List Nat)(j:Nat):(Iv r c S j).length=r-j:=bV _ _ _ _ _
def JP(r c:Nat)(S:List Nat)(j:Nat):List Nat:=Iu r c (ot r c S j j (kp (Iv r c S j)) (mJ (Iv r c S j))) j (DP (Iv r c S j))
theorem F0(r c:Nat)(S:List Nat)(j:Nat):(JP r c S j).length=r*c:=FY _ _ _ _ _
def bG(xs:List Nat):Bool:=fu (ar xs) xs.length
def JS(r c:Nat)(S:List Nat)(j:Nat):Bool:=bG (Iv r c S j)&&Da (Iv r c S j)
def rG(r c:Nat)(S:List Nat):Nat→List Nat
 |0=>S
 |j+1=>JP r c (rG r c S j) j
def dG(r c:Nat)(S:List Nat)(j:Nat):List Nat:=Iv r c (rG r c S j) j
def Iw(r c:Nat)(S:List Nat):Nat→Bool
 |0=>true
 |j+1=>Iw r c S j&&JS r c (rG r c S j) j
theorem dP(r c:Nat)(S:List Nat)(h:S.length=r*c):∀j,(rG r c S j).length=r*c
 |0=>h
 |_+1=>F0 _ _ _ _
theorem rh(r c:Nat)(S:List Nat)(j:Nat):(dG r c S j).length=r-j:=FZ _ _ _ _
def iW(r c:Nat):Nat:=min c (r-1)
theorem gZ(r c j:Nat):j<iW r c↔(j:Int)<(c:Int)∧(j:Int)<(r:Int)-1:=by
 unfold iW
 omega
def zd(r c:Nat)(S:List Nat)(K:Nat):Nat→List Nat
 |0=>Ct r
 |t+1=>ot r r (zd r c S K t) (K-1-t) 0 (kp (dG r c S (K-1-t))) (mJ (dG r c S (K-1-t)))
theorem cS(r c:Nat)(S:List Nat)(K:Nat):∀t,(zd r c S K t).length=r*r
 |0=>show(Ct r).length=r*r from bg r r _
 |_+1=>gP _ _ _ _ _ _ _
def g6(r c:Nat)(S:List Nat):List Nat:=zd r c S (iW r c) (iW r c)
def iC(r c:Nat)(S:List Nat):List Nat:=rG r c S (iW r c)
def iX(r c:Nat)(S:List Nat):Bool:=Iw r c S (iW r c)&&(bG (g6 r c S)&&bG (iC r c S))
open Go.RowKit
structure Mr where
 ao:Option Addr
 cap:Nat
 V:List Nat
 tau:Nat
 beta:Nat
def Mr.cells(x:Mr):List Value:=[.slice x.ao x.V.length x.cap,.int .u64 (x.tau:Nat),.int .u64 (x.beta:Nat)]
def ez(R:List Mr):List Value:=R.flatMap Mr.cells
def bQ(R:List Mr)(k:Nat):Mr:=R[k]?.getD ⟨none,0,[],0,0⟩
theorem mg:∀(R:List Mr) (k:Nat),k<R.length→(ez R)[k*3]? =some (.slice (bQ R k).ao (bQ R k).V.length (bQ R k).cap)∧(ez R)[k*3+1]? =some (.int .u64 ((bQ R k).tau:Nat))∧(ez R)[k*3+2]? =some (.int .u64 ((bQ R k).beta:Nat))
 |x::R,0,_=>by simp[ez,bQ,Mr.cells]
 |x::R,k+1,h=>by
  have:=mg R k (by simpa using h)
  have e:ez (x::R)=.slice x.ao x.V.length x.cap::.int .u64 (x.tau:Nat)::.int .u64 (x.beta:Nat)::ez R:=rfl
  rw[e,show(k+1)*3=k*3+1+1+1 by omega]
  simpa[bQ]using this
def zS(g:Option Nat)(x:Mr):Prop:=x.V= []∨∃b off,x.ao=some ⟨b,off,none⟩∧some b≠g
theorem zS.new{w:World}{x:Mr}(h:ac w x.ao x.cap (ar x.V)){g:Nat}(f:w.heap.size≤g):zS (some g) x:=by
 rcases h.2.2 with e|⟨b,d,e,l,_⟩
 ·exact .inl (by cases hV:x.V with
   |nil=>rfl
   |cons y ys=>rw[hV]at e;cases e)
 ·exact .inr ⟨b,d,e,by intro e;cases e;omega⟩
theorem kU{w m:World}{x:Mr}{g:Option Nat}(h:ac w x.ao x.cap (ar x.V))(A:zS g x)(t:w.grownBy m g):ac m x.ao x.cap (ar x.V):=by
 refine⟨h.1,h.2.1,?_⟩
 rcases h.2.2 with e|⟨b,d,e,y,F⟩
 ·exact .inl e
 ·rcases A with f|⟨G,z,f,l⟩
  ·exact .inl (by rw[f];rfl)
  ·rw[e]at f
   simp only[Option.some.injEq,Addr.mk.injEq]at f
   obtain⟨rfl,rfl,_⟩:=f
   refine .inr ⟨b,d,e,Nat.lt_of_lt_of_le y t.size,fun i D=>?_⟩
   rw[World.cell?_of_block (a:=⟨b,d+i,none⟩) (t.block b y l)]
   exact F i D
theorem js{w t:World}{d e f n:Nat}{v:Value}{y:List Value}{g:Option Nat}(h:w.ownsRow d e f v n y)(D:w.grownBy t g)(l:∀k,v.ownBlock=some k→some k≠g):t.ownsRow d e f v n y:=by
 refine⟨h.1,?_⟩
 rcases h.2 with h|⟨k,cap,m,z,G,A,H⟩
 ·exact .inl h
 ·have F:k<w.heap.size:=(Array.getElem?_eq_some_iff.1 A).1
  exact .inr ⟨k,cap,m,z,G,(D.block k F (l k (by rw[z];rfl))).trans A,H⟩
def dC(base:Nat)(w:World)(v:Value)(R:List Mr):Prop:=w.ownsRow base 150 3 v R.length (ez R)∧∀x∈R,ac w x.ao x.cap (ar x.V)∧zS v.ownBlock x
theorem dC.start(w:World)(d:Nat)(f:d≤w.heap.size):dC d (w.alloc (.cells #[] 150)) (.slice (some ⟨w.heap.size,0,none⟩) 0 0) []:=
 ⟨World.ownsRow_made w #[] 0 f (by simp[maxLen]) (by simp),by simp⟩
theorem dC.below{d:Nat}{w l:World}{v:Value}{R:List Mr}(h:dC d w v R)(f:Below w.heap.size w l):dC d l v R:=
 ⟨js h.1 ⟨f.os,f.tape,f.output,f.size,fun k t _=>f.block k t⟩ (fun k _=>by simp:∀k,v.ownBlock=some k→some k≠none),fun x m=>⟨((h.2 x m).1).below f,(h.2 x m).2⟩⟩
theorem Ix:(Tryz.prog.info? 150).map (fun i=>(i.zero,i.size,i.bytes))=some (some (.agg #[.slice none 0 0,.int .u64 0,.int .u64 0]),3,40):=by kernel_rfl
theorem dC.push{d:Nat}{w:World}{v:Value}{R:List Mr}(h:dC d w v R)(x:Mr)(N:ac w x.ao x.cap (ar x.V))(O:zS v.ownBlock x)(hl:R.length≤1000000)(Q:d≤w.heap.size)(I:TypeId):
  ∃m t,(Builtin.append_ #[148,148] I #[v,.slice (some ⟨w.heap.size,0,none⟩) 1 1]).run Tryz.prog (w.alloc (.cells #[.slice x.ao x.V.length x.cap,.int .u64 (x.tau:Nat),.int .u64 (x.beta:Nat)] 150))=.ok m t∧dC d t m (R++[x])∧Below d w t∧(w.alloc (.cells #[.slice x.ao x.V.length x.cap,.int .u64 (x.tau:Nat),.int .u64 (x.beta:Nat)] 150)).grownBy t v.ownBlock∧(m.ownBlock=v.ownBlock∨m.ownBlock=some (w.heap.size+1)):=by
 obtain⟨i0,hi,D,F,G⟩:=info_parts Ix
 have z:=ab w (.cells #[.slice x.ao x.V.length x.cap,.int .u64 (x.tau:Nat),.int .u64 (x.beta:Nat)] 150)
 have Y:=heap_alloc_new w (.cells #[.slice x.ao x.V.length x.cap,.int .u64 (x.tau:Nat),.int .u64 (x.beta:Nat)] 150)
 have Z:=ad w (.cells #[.slice x.ao x.V.length x.cap,.int .u64 (x.tau:Nat),.int .u64 (x.beta:Nat)] 150)
 have L:=h.below z
 have A:=N.below z
 generalize w.alloc (.cells #[.slice x.ao x.V.length x.cap,.int .u64 (x.tau:Nat),.int .u64 (x.beta:Nat)] 150)=W at*
 obtain⟨m,t,e1,e2,H,e4,M⟩:=run_append_own_at (P:=Tryz.prog) W d 148 I 150 i0 (.agg #[.slice none 0 0,.int .u64 0,.int .u64 0]) 3 40 Tryz.underlying148 hi D F G rfl (by decide) v R.length (ez R) L.1 ⟨w.heap.size,0,none⟩ 1 1 x.cells rfl (fun j u U=>by
   rw[show(⟨w.heap.size,0,none⟩:Addr).add j=⟨w.heap.size,j,none⟩from by unfold Addr.add;split<;>simp_all,cell_of_row _ w.heap.size j _ _ _ Y]
   simpa[Mr.cells]using U) (fun u K=>by
   simp[Mr.cells]at K
   rcases K with rfl|rfl|rfl<;>rfl) (by unfold maxLen;omega) (by omega) (by omega)
 ·refine⟨m,t,e1,⟨?_,fun y l=>?_⟩,(z.mono Q).grown H (by omega) (fun g X=>(h.1.lt g X).1),H,by rw[←Z];exact M⟩
  ·rw[List.length_append,show ez (R++[x])=ez R++x.cells by simp[ez]]
   exact e2
  ·have f:ac W y.ao y.cap (ar y.V)∧zS v.ownBlock y:=by
    rcases List.mem_append.1 l with l|l
    ·exact L.2 y l
    ·simp at l;subst l;exact⟨A,O⟩
   refine⟨kU f.1 f.2 H,?_⟩
   rcases M with e|e
   ·rw[e];exact f.2
   ·rw[e];exact zS.new f.1 (Nat.le_refl _)
theorem dC.putM{f:Nat}{w:World}{v:Value}{R:List Mr}(h:dC f w v R){g:Nat}{x y:Int}{o:Option Addr}{n d:Nat}(A:aq w g (.int .i64 x) (.int .i64 y) (.slice o n d))(H:g<f)(u u' u'':Value):dC f (((w.setCell ⟨g,0,none⟩ u).setCell ⟨g,1,none⟩ u').setCell ⟨g,2,none⟩ u'') v R:=by
 refine⟨⟨h.1.1,?_⟩,fun z t=>⟨(h.2 z t).1.putM A u u' u'',(h.2 z t).2⟩⟩
 rcases h.1.2 with e|⟨k,cap,m,D,F,G,rest⟩
 ·exact .inl e
 ·have l:k≠g:=by omega
  exact .inr ⟨k,cap,m,D,F,(Below.heap_setCell _ ⟨g,2,none⟩ u'' k l).trans ((Below.heap_setCell _ ⟨g,1,none⟩ u' k l).trans ((Below.heap_setCell _ ⟨g,0,none⟩ u k l).trans G)),rest⟩
theorem dC.at{d:Nat}{w:World}{v:Value}{R:List Mr}(h:dC d w v R){k:Nat}(m:k<R.length):∃g cap,v=.slice (some ⟨g,0,none⟩) R.length cap∧d≤g∧g<w.heap.size∧w.cell? ⟨g,k*3,none⟩=some (.slice (bQ R k).ao (bQ R k).V.length (bQ R k).cap)∧w.cell? ⟨g,k*3+1,none⟩=some (.int .u64 ((bQ R k).tau:Nat))∧ac w (bQ R k).ao (bQ R k).cap (ar (bQ R k).V):=by
 rcases h.1.2 with⟨y,F⟩|⟨g,cap,z,y,A,t,G,H,I,D⟩
 ·omega
 ·obtain⟨f,l,_⟩:=mg R k m
  rw[←D,List.getElem?_take]at f l
  rw[if_pos (by omega)]at f l
  simp only[Array.getElem?_toList]at f l
  refine⟨g,cap,y,A,(Array.getElem?_eq_some_iff.1 t).1,?_,?_,(h.2 (bQ R k) ?_).1⟩
  ·rw[cell_of_row w g _ _ _ _ t];exact f
  ·rw[cell_of_row w g _ _ _ _ t];exact l
  ·unfold bQ
   rw[List.getElem?_eq_getElem m]
   exact List.getElem_mem m
def Mr.pair(x:Mr):List Value:=[.slice x.ao x.V.length x.cap,.int .u64 (x.tau:Nat)]
def fc(R:List Mr):List Value:=R.flatMap Mr.pair
theorem mh:∀(R:List Mr) (k:Nat),k<R.length→(fc R)[k*2]? =some (.slice (bQ R k).ao (bQ R k).V.length (bQ R k).cap)∧(fc R)[k*2+1]? =some (.int .u64 ((bQ R k).tau:Nat))
 |x::R,0,_=>by simp[fc,bQ,Mr.pair]
 |x::R,k+1,h=>by
  have:=mh R k (by simpa using h)
  have e:fc (x::R)=.slice x.ao x.V.length x.cap::.int .u64 (x.tau:Nat)::fc R:=rfl
  rw[e,show(k+1)*2=k*2+1+1 by omega]
  simpa[bQ]using this
def bZ(base:Nat)(w:World)(v:Value)(R:List Mr):Prop:=w.ownsRow base 201 2 v R.length (fc R)∧∀x∈R,ac w x.ao x.cap (ar x.V)∧zS v.ownBlock x
theorem bZ.start(w:World)(d:Nat):bZ d w (.slice none 0 0) []:=⟨⟨by rfl,.inl ⟨rfl,rfl⟩⟩,by simp⟩
theorem bZ.below{d:Nat}{w l:World}{v:Value}{R:List Mr}(h:bZ d w v R)(f:Below w.heap.size w l):bZ d l v R:=
 ⟨js h.1 ⟨f.os,f.tape,f.output,f.size,fun k t _=>f.block k t⟩ (fun k _=>by simp:∀k,v.ownBlock=some k→some k≠none),fun x m=>⟨((h.2 x m).1).below f,(h.2 x m).2⟩⟩
theorem bZ.lt{d:Nat}{w:World}{v:Value}{R:List Mr}(h:bZ d w v R):∀k,v.ownBlock=some k→d≤k∧k<w.heap.size:=h.1.lt
theorem Iy:(Tryz.prog.info? 201).map (fun i=>(i.zero,i.size,i.bytes))=some (some (.agg #[.slice none 0 0,.int .u64 0]),2,32):=by kernel_rfl
theorem bZ.push{d:Nat}{w:World}{v:Value}{R:List Mr}(h:bZ d w v R)(x:Mr)(N:ac w x.ao x.cap (ar x.V))(O:zS v.ownBlock x)(hl:R.length≤1000000)(Q:d≤w.heap.size)(I:TypeId):
  ∃m t,(Builtin.append_ #[168,168] I #[v,.slice (some ⟨w.heap.size,0,none⟩) 1 1]).run Tryz.prog (w.alloc (.cells #[.slice x.ao x.V.length x.cap,.int .u64 (x.tau:Nat)] 201))=.ok m t∧bZ d t m (R++[x])∧Below d w t∧(w.alloc (.cells #[.slice x.ao x.V.length x.cap,.int .u64 (x.tau:Nat)] 201)).grownBy t v.ownBlock∧(m.ownBlock=v.ownBlock∨m.ownBlock=some (w.heap.size+1)):=by
 obtain⟨i0,hi,D,F,G⟩:=info_parts Iy
 have z:=ab w (.cells #[.slice x.ao x.V.length x.cap,.int .u64 (x.tau:Nat)] 201)
 have Y:=heap_alloc_new w (.cells #[.slice x.ao x.V.length x.cap,.int .u64 (x.tau:Nat)] 201)
 have Z:=ad w (.cells #[.slice x.ao x.V.length x.cap,.int .u64 (x.tau:Nat)] 201)
 have L:=h.below z
 have A:=N.below z
 generalize w.alloc (.cells #[.slice x.ao x.V.length x.cap,.int .u64 (x.tau:Nat)] 201)=W at*
 obtain⟨m,t,e1,e2,H,e4,M⟩:=run_append_own_at (P:=Tryz.prog) W d 168 I 201 i0 (.agg #[.slice none 0 0,.int .u64 0]) 2 32 Tryz.underlying168 hi D F G rfl (by decide) v R.length (fc R) L.1 ⟨w.heap.size,0,none⟩ 1 1 x.pair rfl (fun j u U=>by
   rw[show(⟨w.heap.size,0,none⟩:Addr).add j=⟨w.heap.size,j,none⟩from by unfold Addr.add;split<;>simp_all,cell_of_row _ w.heap.size j _ _ _ Y]
   simpa[Mr.pair]using U) (fun u K=>by
   simp[Mr.pair]at K
   rcases K with rfl|rfl<;>rfl) (by unfold maxLen;omega) (by omega) (by omega)
 ·refine⟨m,t,e1,⟨?_,fun y l=>?_⟩,(z.mono Q).grown H (by omega) (fun g X=>(h.1.lt g X).1),H,by rw[←Z];exact M⟩
  ·rw[List.length_append,show fc (R++[x])=fc R++x.pair by simp[fc]]
   exact e2
  ·have f:ac W y.ao y.cap (ar y.V)∧zS v.ownBlock y:=by
    rcases List.mem_append.1 l with l|l
    ·exact L.2 y l
    ·simp at l;subst l;exact⟨A,O⟩
   refine⟨kU f.1 f.2 H,?_⟩
   rcases M with e|e
   ·rw[e];exact f.2
   ·rw[e];exact zS.new f.1 (Nat.le_refl _)
theorem bZ.putQ{f:Nat}{w:World}{v:Value}{R:List Mr}(h:bZ f w v R){g:Nat}{x y:Int}{o:Option Addr}{n d:Nat}(t:aq w g (.int .i64 x) (.int .i64 y) (.slice o n d))(u u' u'':Value):bZ f (((w.setCell ⟨g,0,none⟩ u).setCell ⟨g,1,none⟩ u').setCell ⟨g,2,none⟩ u'') v R:=by
 refine⟨⟨h.1.1,?_⟩,fun z A=>⟨(h.2 z A).1.putM t u u' u'',(h.2 z A).2⟩⟩
 rcases h.1.2 with e|⟨k,cap,m,F,G,D,rest⟩
 ·exact .inl e
 ·have l:k≠g:=by
   rintro rfl
   have e:=D.symm.trans t
   simp at e
  exact .inr ⟨k,cap,m,F,G,(Below.heap_setCell _ ⟨g,2,none⟩ u'' k l).trans ((Below.heap_setCell _ ⟨g,1,none⟩ u' k l).trans ((Below.heap_setCell _ ⟨g,0,none⟩ u k l).trans D)),rest⟩
theorem bZ.slice{d:Nat}{w:World}{v:Value}{R:List Mr}(h:bZ d w v R):∃lo f,v=.slice lo R.length f:=by
 rcases h.1.2 with⟨l,m⟩|⟨g,cap,t,y,_⟩
 ·exact⟨none,0,by rw[l,m]⟩
 ·exact⟨_,_,y⟩
theorem bZ.least{d l:Nat}{w:World}{v:Value}{R:List Mr}(h:bZ d w v R)(m:l≤d):bZ l w v R:=by
 refine⟨⟨h.1.1,?_⟩,h.2⟩
 rcases h.1.2 with e|⟨k,cap,f,t,y,rest⟩
 ·exact .inl e
 ·exact .inr ⟨k,cap,f,t,Nat.le_trans m y,rest⟩
theorem bZ.at{d:Nat}{w:World}{v:Value}{R:List Mr}(h:bZ d w v R){k:Nat}(m:k<R.length):∃g cap,v=.slice (some ⟨g,0,none⟩) R.length cap∧d≤g∧g<w.heap.size∧w.cell? ⟨g,k*2,none⟩=some (.slice (bQ R k).ao (bQ R k).V.length (bQ R k).cap)∧w.cell? ⟨g,k*2+1,none⟩=some (.int .u64 ((bQ R k).tau:Nat))∧ac w (bQ R k).ao (bQ R k).cap (ar (bQ R k).V):=by
 rcases h.1.2 with⟨y,F⟩|⟨g,cap,z,y,A,t,G,H,I,D⟩
 ·omega
 ·obtain⟨f,l⟩:=mh R k m
  rw[←D,List.getElem?_take]at f l
  rw[if_pos (by omega)]at f l
  simp only[Array.getElem?_toList]at f l
  refine⟨g,cap,y,A,(Array.getElem?_eq_some_iff.1 t).1,?_,?_,(h.2 (bQ R k) ?_).1⟩
  ·rw[cell_of_row w g _ _ _ _ t];exact f
  ·rw[cell_of_row w g _ _ _ _ t];exact l
  ·unfold bQ
   rw[List.getElem?_eq_getElem m]
   exact List.getElem_mem m
attribute [local go_sem ↓] Go.wp_at_zero Go.wp_at_succ
theorem pa{a w d:World}{o:Option Nat}(h:a.grownBy w o)(k:w.grownBy d o):a.grownBy d o:=
 ⟨k.os.trans h.os,k.tape.trans h.tape,k.output.trans h.output,Nat.le_trans h.size k.size,fun i f l=>(k.block i (Nat.lt_of_lt_of_le f h.size) l).trans (h.block i f l)⟩
theorem pe{w d:World}(h:Below w.heap.size w d)(o:Option Nat):w.grownBy d o:=⟨h.os,h.tape,h.output,h.size,fun k f _=>h.block k f⟩
theorem jt(w:World)(g j:Nat)(v:Value):w.grownBy (w.setCell ⟨g,j,none⟩ v) (some g):=by
 have h:=(Below.refl w.heap.size w)
 refine⟨rfl,rfl,rfl,?_,fun k _ d=>Below.heap_setCell w ⟨g,j,none⟩ v k (fun e=>d (by rw[e]))⟩
 simp[World.setCell]
structure vJ (w wr:World) (g r c n:Nat) (S:List Nat):Prop where
 bel:w.grownBy wr (some g)
 a:aq wr w.heap.size (.int .i64 r) (.int .i64 c) (.slice (some ⟨g,0,none⟩) n n)
 row:aY wr g S
theorem vJ.start{w:World}{g n:Nat}{S:List Nat}(h:aY w g S)(r c:Nat):vJ w (w.alloc (.cells #[.int .i64 r,.int .i64 c,.slice (some ⟨g,0,none⟩) n n] 24)) g r c n S:=by
 have b:=ab w (.cells #[.int .i64 r,.int .i64 c,.slice (some ⟨g,0,none⟩) n n] 24)
 exact⟨pe b _,aq.new w _ _ _,h.below b h.lt⟩
theorem vJ.set{w wr:World}{g r c n:Nat}{S:List Nat}(h:vJ w wr g r c n S)(d:g<w.heap.size)(p x:Nat):vJ w (wr.setCell ⟨g,p,none⟩ (.int .u64 (x:Int))) g r c n (S.set p x):=
 ⟨pa h.bel (jt wr g p _),h.a.other (p:=⟨g,p,none⟩) (by show w.heap.size≠g;omega) _,h.row.set p x⟩
theorem ze(r c n j d g f:Nat)(S:List Nat)(T:Nat→List Nat)(P:Nat→Nat)(w:World)(ae:n≤36)(hr:r≤6)(hj:j<r)(h:aY w g S)(Q:S.length=n)(U:∀i,(T i).length=n)
  (h0:j*c+j=f∧f<n∧S.set f d=T (j+1)) (V:∀i,j<i→i<r→i*c+j=P i∧P i<n∧(T i).set (P i) 0=T (i+1)):
  Calls Tryz.prog 236 #[.agg #[.int .i64 r,.int .i64 c,.slice (some ⟨g,0,none⟩) n n],.int .i64 j,.int .u64 d] w fun e X=>e=.returned (.tuple #[])∧aY X g (T r)∧w.grownBy X (some g):=by
 have Y:=aa h.lt
 have t:=aa (vJ.start (n:=n) h r c)
 obtain⟨z,l⟩:∃q,j*c=q:=⟨_,rfl⟩
 obtain⟨N,G,H⟩:=h0
 rw[l]at N
 have HP:=aa V;have LT:=aa U
 have Z:IntKind.i64.wrap ((j:Int)*(c:Int))=(z:Int):=by
  rw[bd j c,l]
  exact aP _ (by omega)
 have e2:IntKind.i64.wrap ((z:Int)+(j:Int))=(f:Int):=(aP _ (by omega)).trans (by omega)
 have e3:(j:Int)*(c:Int)=(z:Int):=by rw[bd j c,l]
 have e4:(z:Int)+(j:Int)=(f:Int):=by omega
 have w1:IntKind.i64.wrap (z:Int)=(z:Int):=aP _ (by omega)
 have w2:IntKind.i64.wrap (f:Int)=(f:Int):=aP _ (by omega)
 obtain⟨A,y⟩:∃A,j+1=A:=⟨_,rfl⟩
 have e5:IntKind.i64.wrap ((j:Int)+1)=(A:Int):=(aP _ (by omega)).trans (by omega)
 have e6:(j:Int)+1=(A:Int):=by omega
 have D:(f:Int)<(n:Int):=by omega
 have y0:=(uH t).a.c0;have y1:=(uH t).a.c1;have y2:=(uH t).a.c2
 have d1:=(uH t).row.cell f (by rw[Q];exact G)
 have f1:=(uH t).row.free f
 have K:=aa ((uH t).set (uH Y) f d)
 rw[H,y]at K
 have F:=aa y
 clear V U h Q H l G t y
 go_enter Tryz.func236,Tryz.ntmps236
 go_wp2_with fail
 clear y0 y1 y2 d1 f1 Z e2 e3 e4 e5 e6 w1 w2 D
 go_loopw[6] (fun a wr=>∃i:Nat,j<i∧i≤r∧a=.int .i64 i∧Hid (vJ w wr g r c n (T i))) (fun a _=>r-(intOf a).toNat)
 case atStart=>exact⟨A,by have:=uH F;omega,by have:=uH F;omega,by first|rfl|go_num,K⟩
 case round=>
  clear K
  obtain⟨i,O,ak,rfl,m⟩:=hrel
  have y0:=(uH m).a.c0
  by_cases L:i<r
  ·have aj:(i:Int)<(r:Int):=by omega
   obtain⟨N,G,H⟩:=uH HP i O L
   have y1:=(uH m).a.c1;have y2:=(uH m).a.c2
   obtain⟨q,I⟩:∃q,i*c=q:=⟨_,rfl⟩
   rw[I]at N
   have Z:IntKind.i64.wrap ((i:Int)*(c:Int))=(q:Int):=by
    rw[bd i c,I]
    exact aP _ (by omega)
   have e2:IntKind.i64.wrap ((q:Int)+(j:Int))=(P i:Int):=(aP _ (by omega)).trans (by omega)
   have e3:(i:Int)*(c:Int)=(q:Int):=by rw[bd i c,I]
   have e4:(q:Int)+(j:Int)=(P i:Int):=by omega
   have w1:IntKind.i64.wrap (q:Int)=(q:Int):=aP _ (by omega)
   have w2:IntKind.i64.wrap (P i:Int)=(P i:Int):=aP _ (by omega)
   have D:(P i:Int)<(n:Int):=by omega
   have d1:=(uH m).row.cell (P i) (by rw[uH LT];exact G)
   have f1:=(uH m).row.free (P i)
   have S2:=aa ((uH m).set (uH Y) (P i) 0)
   rw[H]at S2
   generalize P i=p at*
   clear m H I G
   go_wp2_with fail
   go_round
   case rel=>exact⟨i+1,by omega,by omega,by go_num,S2⟩
   case measure=>simp[intOf];omega
  ·have M:i=r:=by omega
   subst M
   go_wp2
   first|go_end0|refine bodyPost_ret (results_none rfl _ _ _) rfl ?_
   exact⟨rfl,(uH m).row,(uH m).bel⟩
theorem vK(r c j d g:Nat)(S:List Nat)(w:World)(A:r≤6)(F:c≤6)(t:j<r)(f:j<c)(l:S.length=r*c)(h:aY w g S):
  Calls Tryz.prog 236 #[.agg #[.int .i64 r,.int .i64 c,.slice (some ⟨g,0,none⟩) S.length S.length],.int .i64 j,.int .u64 d] w fun e D=>e=.returned (.tuple #[])∧aY D g (Iu r c S j d)∧w.grownBy D (some g):=by
 have z:S.length≤36:=by
  rw[l]
  exact Nat.mul_le_mul A F
 refine ze r c S.length j d g (j*c+j) S (DQ r c S j d) (fun i=>i*c+j) w z A t h rfl (fun i=>by rw[iV,l]) ⟨rfl,by rw[l];exact cV t f,qa r c S d l t f⟩ (fun i y m=>⟨rfl,by rw[l];exact cV m f,xp r c S d y m f⟩)
def pf(w wr:World)(r c n:Nat)(T:List Nat)(po:Option Addr)(pc:Nat):Prop:=
 aq wr w.heap.size (.int .i64 r) (.int .i64 c) (.slice po n pc)∧aq wr (w.heap.size+1) (.int .i64 0) (.int .i64 0) (.slice none 0 0)∧ac wr po pc (ar T)∧T.length=n∧Below w.heap.size w wr
theorem pf.all{w wr f:World}{r c n:Nat}{T:List Nat}{l:Option Addr}{m:Nat}(h:pf w wr r c n T l m)(d:Below wr.heap.size wr f):pf w f r c n T l m:=
 ⟨h.1.all d,h.2.1.all d,h.2.2.1.below d,h.2.2.2.1,h.2.2.2.2.trans (d.mono h.2.2.2.2.size)⟩
theorem pf.put{w wr:World}{r c n:Nat}{T:List Nat}{t:Option Addr}{y:Nat}(h:pf w wr r c n T t y){U:List Nat}{d:Option Addr}{f:Nat}(z:ac wr d f (ar U))(A:U.length=n):
  pf w (((wr.setCell ⟨w.heap.size,0,none⟩ (.int .i64 r)).setCell ⟨w.heap.size,1,none⟩ (.int .i64 c)).setCell ⟨w.heap.size,2,none⟩ (.slice d n f)) r c n U d f:=by
 obtain⟨m,D,G,H,F⟩:=h
 have l:w.heap.size+1≠w.heap.size:=by omega
 exact⟨m.put _ _ _,((D.other (p:=⟨w.heap.size,0,none⟩) l _).other (p:=⟨w.heap.size,1,none⟩) l _).other (p:=⟨w.heap.size,2,none⟩) l _,z.putM m _ _ _,A,ai F (Nat.le_refl _) _ _ _⟩
theorem pf.start(w:World)(r c n cap:Nat)(ao:Option Addr)(T:List Nat)(m:ac w ao cap (ar T))(t:T.length=n):pf w ((w.alloc (.cells #[.int .i64 r,.int .i64 c,.slice ao n cap] 24)).alloc (.cells #[.int .i64 0,.int .i64 0,.slice none 0 0] 24)) r c n T ao cap:=by
 have d:=ab w (.cells #[.int .i64 r,.int .i64 c,.slice ao n cap] 24)
 have y:=ad w (.cells #[.int .i64 r,.int .i64 c,.slice ao n cap] 24)
 have z:=aq.new w (.int .i64 r) (.int .i64 c) (.slice ao n cap)
 have A:=m.below d
 generalize w.alloc (.cells #[.int .i64 r,.int .i64 c,.slice ao n cap] 24)=l at*
 have f:=ab l (.cells #[.int .i64 0,.int .i64 0,.slice none 0 0] 24)
 have h:=aq.new l (.int .i64 0) (.int .i64 0) (.slice none 0 0)
 rw[y]at h
 exact⟨z.all f,h,A.below f,t,d.trans (f.mono d.size)⟩
theorem zf(r c n cap j b:Nat)(ao:Option Addr)(t:Nat→List Nat)(N:List Nat)(w:World)(hr:r≤6)(hj:j<r)(h0:ac w ao cap (ar N))(l0:N.length=n)(lJ:∀i,(t i).length=n)
  (A1:∀l A D,ac l A D (ar N)→Calls Tryz.prog 51 #[.agg #[.int .i64 r,.int .i64 c,.slice A n D],.int .i64 j,.int .i64 j,.int .u64 b] l fun e m=>∃d f,e=.returned (.agg #[.int .i64 r,.int .i64 c,.slice d n f])∧bH l.heap.size d (ar (t (j+1)))∧ac m d f (ar (t (j+1)))∧Below l.heap.size l m)
  (A2:∀l i A D,j<i→i<r→ac l A D (ar (t i))→Calls Tryz.prog 51 #[.agg #[.int .i64 r,.int .i64 c,.slice A n D],.int .i64 (i:Nat),.int .i64 j,.int .u64 0] l fun e m=>∃d f,e=.returned (.agg #[.int .i64 r,.int .i64 c,.slice d n f])∧bH l.heap.size d (ar (t (i+1)))∧ac m d f (ar (t (i+1)))∧Below l.heap.size l m):
  Calls Tryz.prog 155 #[.agg #[.int .i64 r,.int .i64 c,.slice ao n cap],.int .i64 j,.int .u64 b] w fun e l=>∃d f,e=.returned (.agg #[.int .i64 r,.int .i64 c,.slice d n f])∧bH w.heap.size d (ar (t r))∧ac l d f (ar (t r))∧Below w.heap.size w l:=by
 have F:=aa (pf.start w r c n cap ao N h0 l0)
 have K1:=aa A1;have K2:=aa A2;have LJ:=aa lJ
 clear A1 A2 lJ h0 l0
 have G:=(uH F).1.c0;have H:=(uH F).1.c1;have I:=(uH F).1.c2
 go_enter Tryz.func155,Tryz.ntmps155
 go_wp2_with fail
 clear G H I
 refine(uH K1 _ _ _ (uH F).2.2.1).mono ?_
 rintro e w1 ⟨d,f,rfl,K,L,M⟩
 have O:=aa (bH.least K (uH F).2.2.2.2.size)
 have h:=(uH F).all M
 have G:=h.1.c0;have H:=h.1.c1;have I:=h.1.c2
 have Q:=h.1.free 0;have U:=h.1.free 1;have V:=h.1.free 2
 have X:=aa (h.put L (uH LJ (j+1)))
 clear h K L M F K1
 go_wp2_with fail
 clear G H I Q U V
 go_loopw[7] (fun a wr=>∃(i:Nat) (d:Option Addr) (f:Nat),j<i∧i≤r∧a=.int .i64 i∧Hid (bH w.heap.size d (ar (t i)))∧Hid (pf w wr r c n (t i) d f)) (fun a _=>r-(intOf a).toNat)
 case atStart=>exact⟨j+1,d,f,by omega,by omega,by go_num,O,X⟩
 case round=>
  clear X O
  obtain⟨i,d,f,aj,am,rfl,hN,y⟩:=hrel
  have G:=(uH y).1.c0;have H:=(uH y).1.c1;have I:=(uH y).1.c2
  by_cases Z:i<r
  ·have ak:(i:Int)<(r:Int):=by omega
   go_wp2_with fail
   clear G H I
   refine(uH K2 _ i _ _ aj Z (uH y).2.2.1).mono ?_
   rintro e w2 ⟨A,D,rfl,K,L,M⟩
   have O:=aa (bH.least K (uH y).2.2.2.2.size)
   have h:=(uH y).all M
   have G:=h.1.c0;have H:=h.1.c1;have I:=h.1.c2
   have Q:=h.1.free 0;have U:=h.1.free 1;have V:=h.1.free 2
   have X:=aa (h.put L (uH LJ (i+1)))
   clear h K L M y hN
   go_wp2_with fail
   clear G H I Q U V
   go_round
   case rel=>exact⟨i+1,A,D,by omega,by omega,by go_num,O,X⟩
   case measure=>simp[intOf];omega
  ·have ae:i=r:=by omega
   subst ae
   obtain⟨h1,z,h3,h4,h5⟩:=uH y
   have r0:=z.c0;have r1:=z.c1;have r2:=z.c2
   have Q:=z.free 0;have U:=z.free 1;have V:=z.free 2
   have Y:=z.put (.int .i64 i) (.int .i64 c) (.slice d n f)
   have z0:=Y.c0;have z1:=Y.c1;have z2:=Y.c2
   have QP:=aa (h3.putM z (.int .i64 i) (.int .i64 c) (.slice d n f))
   have BP:=aa (ai h5 (b:=w.heap.size+1) (by omega) (.int .i64 i) (.int .i64 c) (.slice d n f))
   clear Y h1 z h3 h4 h5 y
   go_wp2_with fail
   exact bodyPost_ret (v:=.agg #[.int .i64 i,.int .i64 c,.slice d n f]) (by simp[results,Tryz.results155,go_sem,z0,z1,z2]) rfl ⟨d,f,rfl,uH hN,uH QP,uH BP⟩
theorem ri(r c cap j b:Nat)(ao:Option Addr)(S:List Nat)(w:World)(h:Mx w ao cap r c S)(F:j<r)(D:j<c)(t:b<18446744073709551616):
  Calls Tryz.prog 155 #[.agg #[.int .i64 r,.int .i64 c,.slice ao S.length cap],.int .i64 j,.int .u64 b] w fun e f=>∃d l,e=.returned (.agg #[.int .i64 r,.int .i64 c,.slice d S.length l])∧bH w.heap.size d (ar (Iu r c S j b))∧ac f d l (ar (Iu r c S j b))∧Below w.heap.size w f:=by
 have m:=h.2.1
 refine zf r c S.length cap j b ao (fun i=>DQ r c S j b i) S w h.2.2.1 F h.1 rfl (fun i=>by rw[iV,m]) (fun f G H I=>?_) (fun f i G H K y I=>?_)
 ·refine(ef r c H j j b G S f ⟨I,m,h.2.2⟩ F D t).mono ?_
  rintro e L ⟨v,rfl,⟨d,l,rfl,z,A⟩,t⟩
  rw[qa r c S b m F D]at z A⊢
  exact⟨d,l,by rw[iV,m],z,A,t⟩
 ·have:=ef r c H i j 0 G _ f ⟨I,iV _ _ _ _ _ _,h.2.2⟩ y D (by decide)
  rw[iV,←m]at this
  refine this.mono ?_
  rintro e L ⟨v,rfl,⟨d,l,rfl,z,A⟩,t⟩
  rw[xp r c S b K y D]at z A⊢
  exact⟨d,l,by rw[iV,m],z,A,t⟩
end Go.Proofs.YtlnphkioddknfaaGreatDoor
