/- Part 29 of the texts. -/
import Derived.Test.YtdhmglmccafbnaaGreatDoorPartu28
import Derived.Test.YtdhmglmccafbnaaGreatDoorPartu25
import Derived.Maps.AppendAt
import Derived.Test.YtdhmglmccafbnaaGreatDoorPartu26
import Derived.Test.YtdhmglmccafbnaaGreatDoorPartu22
import Derived.Test.YtdhmglmccafbnaaGreatDoorPartu21
import Derived.Test.YtdhmglmccafbnaaGreatDoorPartu20
import Derived.Deep.RegionWith
import Derived.Laws.CopyOwn
set_option maxHeartbeats 4000000
set_option maxRecDepth 20000
namespace Go.Proofs.YtdhmglmccafbnaaGreatDoor
def clJ (r c:Nat) (S:List Nat) (j b i:Nat):List Nat:=mkM r c (fun p q=>if q = j∧j≤p∧p < i then (if p = j then b else 0) else elM c S p q)
theorem clJ_len (r c:Nat) (S:List Nat) (j b i:Nat):(clJ r c S j b i).length = r * c:=mkM_len _ _ _
theorem clJ_first (r c:Nat) (S:List Nat) {j:Nat} (b:Nat) (h:S.length = r * c) (hj:j < r) (hc:j < c):S.set (j * c+j) b = clJ r c S j b (j+1):=by
 have e:S = mkM r c (fun p q=>elM c S p q):=by
  conv=>lhs;rw [← mkM_of r c S h]
  rfl
 conv=>lhs;rw [e]
 rw [mkM_set r c _ _ hj hc]
 unfold clJ
 refine mkM_congr (fun p q _ _=>?_)
 by_cases g:p = j∧q = j
 ·rw [if_pos g,if_pos ⟨g.2,by omega,by omega⟩,if_pos g.1]
 ·rw [if_neg g,if_neg (fun g2=>g (by omega))]
theorem clJ_set (r c:Nat) (S:List Nat) {j i:Nat} (b:Nat) (hj:j < i) (hi:i < r) (hc:j < c):(clJ r c S j b i).set (i * c+j) 0 = clJ r c S j b (i+1):=by
 unfold clJ
 rw [mkM_set r c _ _ hi hc]
 refine mkM_congr (fun p q _ _=>?_)
 by_cases g:p = i∧q = j
 ·rw [if_pos g,if_pos ⟨g.2,by omega,by omega⟩,if_neg (by omega)]
 ·rw [if_neg g]
  by_cases g2:q = j∧j≤p∧p < i
  ·rw [if_pos g2,if_pos (show q = j∧j≤p∧p < i+1 by omega)]
  ·rw [if_neg g2,if_neg (show ¬ (q = j∧j≤p∧p < i+1) by omega)]
def clM (r c:Nat) (S:List Nat) (j b:Nat):List Nat:=clJ r c S j b r
theorem clM_len (r c:Nat) (S:List Nat) (j b:Nat):(clM r c S j b).length = r * c:=clJ_len _ _ _ _ _ _
def qxL (r c:Nat) (S:List Nat) (j:Nat):List Nat:=colL c S j (r - j) j
theorem qxL_len (r c:Nat) (S:List Nat) (j:Nat):(qxL r c S j).length = r - j:=colL_len _ _ _ _ _
def qrS (r c:Nat) (S:List Nat) (j:Nat):List Nat:=clM r c (apM r c S j j (mrV (qxL r c S j)) (mrT (qxL r c S j))) j (mrB (qxL r c S j))
theorem qrS_len (r c:Nat) (S:List Nat) (j:Nat):(qrS r c S j).length = r * c:=clM_len _ _ _ _ _
def finL (xs:List Nat):Bool:=fnK (mxL xs) xs.length
def qrO (r c:Nat) (S:List Nat) (j:Nat):Bool:=finL (qxL r c S j) && mrK (qxL r c S j)
def qrR (r c:Nat) (S:List Nat):Nat→List Nat
 | 0=>S
 | j+1=>qrS r c (qrR r c S j) j
def qrX (r c:Nat) (S:List Nat) (j:Nat):List Nat:=qxL r c (qrR r c S j) j
def qrK (r c:Nat) (S:List Nat):Nat→Bool
 | 0=>true
 | j+1=>qrK r c S j && qrO r c (qrR r c S j) j
theorem qrR_len (r c:Nat) (S:List Nat) (h:S.length = r * c):∀ j,(qrR r c S j).length = r * c
 | 0=>h
 | _+1=>qrS_len _ _ _ _
theorem qrX_len (r c:Nat) (S:List Nat) (j:Nat):(qrX r c S j).length = r - j:=qxL_len _ _ _ _
def qrN (r c:Nat):Nat:=min c (r - 1)
theorem qrN_lt (r c j:Nat):j < qrN r c ↔ (j:Int) < (c:Int)∧(j:Int) < (r:Int) - 1:=by
 unfold qrN
 omega
def qrQ (r c:Nat) (S:List Nat) (K:Nat):Nat→List Nat
 | 0=>eyM r
 | t+1=>apM r r (qrQ r c S K t) (K - 1 - t) 0 (mrV (qrX r c S (K - 1 - t))) (mrT (qrX r c S (K - 1 - t)))
theorem qrQ_len (r c:Nat) (S:List Nat) (K:Nat):∀ t,(qrQ r c S K t).length = r * r
 | 0=>show (eyM r).length = r * r from mkM_len r r _
 | _+1=>apM_len _ _ _ _ _ _ _
def facQ (r c:Nat) (S:List Nat):List Nat:=qrQ r c S (qrN r c) (qrN r c)
def facR (r c:Nat) (S:List Nat):List Nat:=qrR r c S (qrN r c)
def facK (r c:Nat) (S:List Nat):Bool:=qrK r c S (qrN r c) && (finL (facQ r c S) && finL (facR r c S))
theorem el_cl (r c:Nat) (S:List Nat) (j b:Nat) {p q:Nat} (hp:p < r) (hq:q < c):elM c (clM r c S j b) p q = if q = j∧j≤p∧p < r then (if p = j then b else 0) else elM c S p q:=by
 unfold clM clJ
 rw [el_mk r c _ hp hq]
end Go.Proofs.YtdhmglmccafbnaaGreatDoor
namespace Go.Proofs.YtdhmglmccafbnaaGreatDoor
open Go.RowKit
structure Mr where
 ao:Option Addr
 cap:Nat
 V:List Nat
 tau:Nat
 beta:Nat
def mrAt (R:List Mr) (k:Nat):Mr:=R[k]?.getD ⟨none,0,[],0,0⟩
def AvM (g:Option Nat) (x:Mr):Prop:=x.V = [] ∨ ∃ b off,x.ao = some ⟨b,off,none⟩∧some b ≠ g
theorem AvM.new {w:World} {x:Mr} (h:BitsAt w x.ao x.cap (mxL x.V)) {g:Nat} (hg:w.heap.size≤g):AvM (some g) x:=by
 rcases h.2.2 with e | ⟨b,off,e,hb,_⟩
 ·exact .inl (by cases hV:x.V with
   | nil=>rfl
   | cons y ys=>rw [hV] at e;cases e)
 ·exact .inr ⟨b,off,e,by intro e;cases e;omega⟩
theorem bits_grownAv {w w':World} {x:Mr} {g:Option Nat} (h:BitsAt w x.ao x.cap (mxL x.V)) (ha:AvM g x) (hg:w.grownBy w' g):BitsAt w' x.ao x.cap (mxL x.V):=by
 refine ⟨h.1,h.2.1,?_⟩
 rcases h.2.2 with e | ⟨b,off,e,hb,hc⟩
 ·exact .inl e
 ·rcases ha with e' | ⟨b',off',e',hne⟩
  ·exact .inl (by rw [e'];rfl)
  ·rw [e] at e'
   simp only [Option.some.injEq,Addr.mk.injEq] at e'
   obtain ⟨rfl,rfl,_⟩:=e'
   refine .inr ⟨b,off,e,Nat.lt_of_lt_of_le hb hg.size,fun i hi=>?_⟩
   rw [World.cell?_of_block (a:=⟨b,off+i,none⟩) (hg.block b hb hne)]
   exact hc i hi
theorem ownsRow_grownM {w w':World} {base e size n:Nat} {v:Value} {xs:List Value} {g:Option Nat} (h:w.ownsRow base e size v n xs) (hg:w.grownBy w' g) (hne:∀ k,v.ownBlock = some k→some k ≠ g):w'.ownsRow base e size v n xs:=by
 refine ⟨h.1,?_⟩
 rcases h.2 with h | ⟨k,cap,cur,hv,hb,hh,hr⟩
 ·exact .inl h
 ·have hk:k < w.heap.size:=(Array.getElem?_eq_some_iff.1 hh).1
  exact .inr ⟨k,cap,cur,hv,hb,(hg.block k hk (hne k (by rw [hv];rfl))).trans hh,hr⟩
end Go.Proofs.YtdhmglmccafbnaaGreatDoor
namespace Go.Proofs.YtdhmglmccafbnaaGreatDoor
open Go.RowKit
def Mr.pair (x:Mr):List Value:=[.slice x.ao x.V.length x.cap,.int .u64 (x.tau:Nat)]
def mtCells (R:List Mr):List Value:=R.flatMap Mr.pair
theorem mtCells_get:∀ (R:List Mr) (k:Nat),k < R.length→(mtCells R)[k * 2]? = some (.slice (mrAt R k).ao (mrAt R k).V.length (mrAt R k).cap)∧(mtCells R)[k * 2+1]? = some (.int .u64 ((mrAt R k).tau:Nat))
 | x :: R,0,_=>by simp [mtCells,mrAt,Mr.pair]
 | x :: R,k+1,h=>by
  have:=mtCells_get R k (by simpa using h)
  have e:mtCells (x :: R) = .slice x.ao x.V.length x.cap :: .int .u64 (x.tau:Nat) :: mtCells R:=rfl
  rw [e,show (k+1) * 2 = k * 2+1+1 by omega]
  simpa [mrAt] using this
def OwnMt (base:Nat) (w:World) (v:Value) (R:List Mr):Prop:=w.ownsRow base 207 2 v R.length (mtCells R)∧∀ x ∈ R,BitsAt w x.ao x.cap (mxL x.V)∧AvM v.ownBlock x
theorem OwnMt.start (w:World) (base:Nat):OwnMt base w (.slice none 0 0) []:=⟨⟨by rfl,.inl ⟨rfl,rfl⟩⟩,by simp⟩
theorem OwnMt.below {base:Nat} {w w':World} {v:Value} {R:List Mr} (h:OwnMt base w v R) (hb:Below w.heap.size w w'):OwnMt base w' v R :=
 ⟨ownsRow_grownM h.1 ⟨hb.os,hb.tape,hb.output,hb.size,fun k hk _=>hb.block k hk⟩ (fun k _=>by simp:∀ k,v.ownBlock = some k→some k ≠ none),fun x hx=>⟨((h.2 x hx).1).below hb,(h.2 x hx).2⟩⟩
theorem OwnMt.lt {base:Nat} {w:World} {v:Value} {R:List Mr} (h:OwnMt base w v R):∀ k,v.ownBlock = some k→base≤k∧k < w.heap.size:=h.1.lt
theorem infoMt:(Tryz.prog.info? 207).map (fun i=>(i.zero,i.size,i.bytes)) = some (some (.agg #[.slice none 0 0,.int .u64 0]),2,32):=by kernel_rfl
theorem OwnMt.push {base:Nat} {w:World} {v:Value} {R:List Mr} (h:OwnMt base w v R) (x:Mr) (hx:BitsAt w x.ao x.cap (mxL x.V)) (ha:AvM v.ownBlock x) (hl:R.length≤1000000) (hb:base≤w.heap.size) (ty:TypeId) :
  ∃ v' w',(Builtin.append_ #[179,179] ty #[v,.slice (some ⟨w.heap.size,0,none⟩) 1 1]).run Tryz.prog (w.alloc (.cells #[.slice x.ao x.V.length x.cap,.int .u64 (x.tau:Nat)] 207)) = .ok v' w'∧OwnMt base w' v' (R ++ [x])∧Below base w w'∧(w.alloc (.cells #[.slice x.ao x.V.length x.cap,.int .u64 (x.tau:Nat)] 207)).grownBy w' v.ownBlock∧(v'.ownBlock = v.ownBlock ∨ v'.ownBlock = some (w.heap.size+1)):=by
 obtain ⟨i0,hi,hz0,hz1,hz2⟩:=info_parts infoMt
 have b1:=below_alloc9 w (.cells #[.slice x.ao x.V.length x.cap,.int .u64 (x.tau:Nat)] 207)
 have n1:=heap_alloc_new w (.cells #[.slice x.ao x.V.length x.cap,.int .u64 (x.tau:Nat)] 207)
 have s1:=size_alloc9 w (.cells #[.slice x.ao x.V.length x.cap,.int .u64 (x.tau:Nat)] 207)
 have h1:=h.below b1
 have hx1:=hx.below b1
 generalize w.alloc (.cells #[.slice x.ao x.V.length x.cap,.int .u64 (x.tau:Nat)] 207) = W at *
 obtain ⟨v',w',e1,e2,e3,e4,e5⟩:=run_append_own_at (P:=Tryz.prog) W base 179 ty 207 i0 (.agg #[.slice none 0 0,.int .u64 0]) 2 32 Tryz.underlying179 hi hz0 hz1 hz2 rfl (by decide) v R.length (mtCells R) h1.1 ⟨w.heap.size,0,none⟩ 1 1 x.pair rfl (fun j u hj=>by
   rw [show (⟨w.heap.size,0,none⟩:Addr).add j = ⟨w.heap.size,j,none⟩ from by unfold Addr.add;split <;> simp_all,cell_of_row _ w.heap.size j _ _ _ n1]
   simpa [Mr.pair] using hj) (fun u hu=>by
   simp [Mr.pair] at hu
   rcases hu with rfl | rfl <;> rfl) (by unfold maxLen;omega) (by omega) (by omega)
 ·refine ⟨v',w',e1,⟨?_,fun y hy=>?_⟩,(b1.mono hb).grown e3 (by omega) (fun g hg=>(h.1.lt g hg).1),e3,by rw [← s1];exact e5⟩
  ·rw [List.length_append,show mtCells (R ++ [x]) = mtCells R ++ x.pair by simp [mtCells]]
   exact e2
  ·have hy':BitsAt W y.ao y.cap (mxL y.V)∧AvM v.ownBlock y:=by
    rcases List.mem_append.1 hy with hy | hy
    ·exact h1.2 y hy
    ·simp at hy;subst hy;exact ⟨hx1,ha⟩
   refine ⟨bits_grownAv hy'.1 hy'.2 e3,?_⟩
   rcases e5 with e | e
   ·rw [e];exact hy'.2
   ·rw [e];exact AvM.new hy'.1 (Nat.le_refl _)
theorem OwnMt.putQ {base:Nat} {w:World} {v:Value} {R:List Mr} (h:OwnMt base w v R) {g:Nat} {x y:Int} {o:Option Addr} {n d:Nat} (hx:BoxM w g (.int .i64 x) (.int .i64 y) (.slice o n d)) (u u' u'':Value):OwnMt base (((w.setCell ⟨g,0,none⟩ u).setCell ⟨g,1,none⟩ u').setCell ⟨g,2,none⟩ u'') v R:=by
 refine ⟨⟨h.1.1,?_⟩,fun z hz=>⟨(h.2 z hz).1.putM hx u u' u'',(h.2 z hz).2⟩⟩
 rcases h.1.2 with e | ⟨k,cap,cur,hv,hk,hh,rest⟩
 ·exact .inl e
 ·have hne:k ≠ g:=by
   rintro rfl
   have e:=hh.symm.trans hx
   simp at e
  exact .inr ⟨k,cap,cur,hv,hk,(Below.heap_setCell _ ⟨g,2,none⟩ u'' k hne).trans ((Below.heap_setCell _ ⟨g,1,none⟩ u' k hne).trans ((Below.heap_setCell _ ⟨g,0,none⟩ u k hne).trans hh)),rest⟩
theorem OwnMt.slice {base:Nat} {w:World} {v:Value} {R:List Mr} (h:OwnMt base w v R):∃ lo lc,v = .slice lo R.length lc:=by
 rcases h.1.2 with ⟨e1,e2⟩ | ⟨g,cap,cur,hv,_⟩
 ·exact ⟨none,0,by rw [e1,e2]⟩
 ·exact ⟨_,_,hv⟩
theorem OwnMt.least {base b':Nat} {w:World} {v:Value} {R:List Mr} (h:OwnMt base w v R) (hb:b'≤base):OwnMt b' w v R:=by
 refine ⟨⟨h.1.1,?_⟩,h.2⟩
 rcases h.1.2 with e | ⟨k,cap,cur,hv,hk,rest⟩
 ·exact .inl e
 ·exact .inr ⟨k,cap,cur,hv,Nat.le_trans hb hk,rest⟩
theorem OwnMt.at {base:Nat} {w:World} {v:Value} {R:List Mr} (h:OwnMt base w v R) {k:Nat} (hk:k < R.length):∃ g cap,v = .slice (some ⟨g,0,none⟩) R.length cap∧base≤g∧g < w.heap.size∧w.cell? ⟨g,k * 2,none⟩ = some (.slice (mrAt R k).ao (mrAt R k).V.length (mrAt R k).cap)∧w.cell? ⟨g,k * 2+1,none⟩ = some (.int .u64 ((mrAt R k).tau:Nat))∧BitsAt w (mrAt R k).ao (mrAt R k).cap (mxL (mrAt R k).V):=by
 rcases h.1.2 with ⟨hv,h0⟩ | ⟨g,cap,cur,hv,hg,hh,hc,hm,hs,ht⟩
 ·omega
 ·obtain ⟨q1,q2⟩:=mtCells_get R k hk
  rw [← ht,List.getElem?_take] at q1 q2
  rw [if_pos (by omega)] at q1 q2
  simp only [Array.getElem?_toList] at q1 q2
  refine ⟨g,cap,hv,hg,(Array.getElem?_eq_some_iff.1 hh).1,?_,?_,(h.2 (mrAt R k) ?_).1⟩
  ·rw [cell_of_row w g _ _ _ _ hh];exact q1
  ·rw [cell_of_row w g _ _ _ _ hh];exact q2
  ·unfold mrAt
   rw [List.getElem?_eq_getElem hk]
   exact List.getElem_mem hk
end Go.Proofs.YtdhmglmccafbnaaGreatDoor
namespace Go.Proofs.YtdhmglmccafbnaaGreatDoor
open Go.RowKit
attribute [local go_sem ↓] Go.wp_at_zero Go.wp_at_succ
theorem grown_trans14 {a w w':World} {o:Option Nat} (h:a.grownBy w o) (k:w.grownBy w' o):a.grownBy w' o :=
 ⟨k.os.trans h.os,k.tape.trans h.tape,k.output.trans h.output,Nat.le_trans h.size k.size,fun i hi hr=>(k.block i (Nat.lt_of_lt_of_le hi h.size) hr).trans (h.block i hi hr)⟩
theorem grown_below14 {w w':World} (h:Below w.heap.size w w') (o:Option Nat):w.grownBy w' o:=⟨h.os,h.tape,h.output,h.size,fun k hk _=>h.block k hk⟩
theorem grown_set14 (w:World) (g j:Nat) (v:Value):w.grownBy (w.setCell ⟨g,j,none⟩ v) (some g):=by
 have h:=(Below.refl w.heap.size w)
 refine ⟨rfl,rfl,rfl,?_,fun k _ hr=>Below.heap_setCell w ⟨g,j,none⟩ v k (fun e=>hr (by rw [e]))⟩
 simp [World.setCell]
structure SeSt (w wr:World) (g r c n:Nat) (S:List Nat):Prop where
 bel:w.grownBy wr (some g)
 a:BoxM wr w.heap.size (.int .i64 r) (.int .i64 c) (.slice (some ⟨g,0,none⟩) n n)
 row:RowB wr g S
theorem SeSt.start {w:World} {g n:Nat} {S:List Nat} (h:RowB w g S) (r c:Nat):SeSt w (w.alloc (.cells #[.int .i64 r,.int .i64 c,.slice (some ⟨g,0,none⟩) n n] 25)) g r c n S:=by
 have b:=below_alloc9 w (.cells #[.int .i64 r,.int .i64 c,.slice (some ⟨g,0,none⟩) n n] 25)
 exact ⟨grown_below14 b _,BoxM.new w _ _ _,h.below b h.lt⟩
theorem SeSt.set {w wr:World} {g r c n:Nat} {S:List Nat} (h:SeSt w wr g r c n S) (hg:g < w.heap.size) (p x:Nat):SeSt w (wr.setCell ⟨g,p,none⟩ (.int .u64 (x:Int))) g r c n (S.set p x) :=
 ⟨grown_trans14 h.bel (grown_set14 wr g p _),h.a.other (p:=⟨g,p,none⟩) (by show w.heap.size ≠ g;omega) _,h.row.set p x⟩
theorem settle_of (r c n j beta g p0:Nat) (S:List Nat) (T:Nat→List Nat) (P:Nat→Nat) (w:World) (h36:n≤36) (hr:r≤6) (hj:j < r) (h:RowB w g S) (lS:S.length = n) (lT:∀ i,(T i).length = n)
  (h0:j * c+j = p0∧p0 < n∧S.set p0 beta = T (j+1)) (hP:∀ i,j < i→i < r→i * c+j = P i∧P i < n∧(T i).set (P i) 0 = T (i+1)) :
  Calls Tryz.prog 257 #[.agg #[.int .i64 r,.int .i64 c,.slice (some ⟨g,0,none⟩) n n],.int .i64 j,.int .u64 beta] w fun e w'=>e = .returned (.tuple #[])∧RowB w' g (T r)∧w.grownBy w' (some g):=by
 have HG:=hide h.lt
 have ST:=hide (SeSt.start (n:=n) h r c)
 obtain ⟨q0,hq0⟩:∃ q,j * c = q:=⟨_,rfl⟩
 obtain ⟨e0,l0,s0⟩:=h0
 rw [hq0] at e0
 have HP:=hide hP;have LT:=hide lT
 have e1:IntKind.i64.wrap ((j:Int) * (c:Int)) = (q0:Int):=by
  rw [cast_mul10 j c,hq0]
  exact wrap_in _ (by omega)
 have e2:IntKind.i64.wrap ((q0:Int)+(j:Int)) = (p0:Int):=(wrap_in _ (by omega)).trans (by omega)
 have e3:(j:Int) * (c:Int) = (q0:Int):=by rw [cast_mul10 j c,hq0]
 have e4:(q0:Int)+(j:Int) = (p0:Int):=by omega
 have w1:IntKind.i64.wrap (q0:Int) = (q0:Int):=wrap_in _ (by omega)
 have w2:IntKind.i64.wrap (p0:Int) = (p0:Int):=wrap_in _ (by omega)
 obtain ⟨j1,hj1⟩:∃ j1,j+1 = j1:=⟨_,rfl⟩
 have e5:IntKind.i64.wrap ((j:Int)+1) = (j1:Int):=(wrap_in _ (by omega)).trans (by omega)
 have e6:(j:Int)+1 = (j1:Int):=by omega
 have hpI:(p0:Int) < (n:Int):=by omega
 have y0:=(uH ST).a.c0;have y1:=(uH ST).a.c1;have y2:=(uH ST).a.c2
 have d1:=(uH ST).row.cell p0 (by rw [lS];exact l0)
 have f1:=(uH ST).row.free p0
 have S1:=hide ((uH ST).set (uH HG) p0 beta)
 rw [s0,hj1] at S1
 have HJ1:=hide hj1
 clear hP lT h lS s0 hq0 l0 ST hj1
 go_enter Tryz.func257,Tryz.ntmps257
 go_wp2_with fail
 clear y0 y1 y2 d1 f1 e1 e2 e3 e4 e5 e6 w1 w2 hpI
 go_loopw [6] (fun a wr=>∃ i:Nat,j < i∧i≤r∧a = .int .i64 i∧Hid (SeSt w wr g r c n (T i))) (fun a _=>r - (intOf a).toNat)
 case atStart=>exact ⟨j1,by have:=uH HJ1;omega,by have:=uH HJ1;omega,by first | rfl | go_num,S1⟩
 case round =>
  clear S1
  obtain ⟨i,hji,hir,rfl,hS⟩:=hrel
  have y0:=(uH hS).a.c0
  by_cases hlt:i < r
  ·have hiI:(i:Int) < (r:Int):=by omega
   obtain ⟨e0,l0,s0⟩:=uH HP i hji hlt
   have y1:=(uH hS).a.c1;have y2:=(uH hS).a.c2
   obtain ⟨q,hq⟩:∃ q,i * c = q:=⟨_,rfl⟩
   rw [hq] at e0
   have e1:IntKind.i64.wrap ((i:Int) * (c:Int)) = (q:Int):=by
    rw [cast_mul10 i c,hq]
    exact wrap_in _ (by omega)
   have e2:IntKind.i64.wrap ((q:Int)+(j:Int)) = (P i:Int):=(wrap_in _ (by omega)).trans (by omega)
   have e3:(i:Int) * (c:Int) = (q:Int):=by rw [cast_mul10 i c,hq]
   have e4:(q:Int)+(j:Int) = (P i:Int):=by omega
   have w1:IntKind.i64.wrap (q:Int) = (q:Int):=wrap_in _ (by omega)
   have w2:IntKind.i64.wrap (P i:Int) = (P i:Int):=wrap_in _ (by omega)
   have hpI:(P i:Int) < (n:Int):=by omega
   have d1:=(uH hS).row.cell (P i) (by rw [uH LT];exact l0)
   have f1:=(uH hS).row.free (P i)
   have S2:=hide ((uH hS).set (uH HG) (P i) 0)
   rw [s0] at S2
   generalize P i = p at *
   clear hS s0 hq l0
   go_wp2_with fail
   go_round
   case rel=>exact ⟨i+1,by omega,by omega,by go_num,S2⟩
   case measure=>simp [intOf];omega
  ·have hii:i = r:=by omega
   subst hii
   go_wp2
   first | go_end0 | refine bodyPost_ret (results_none rfl _ _ _) rfl ?_
   exact ⟨rfl,(uH hS).row,(uH hS).bel⟩
theorem settle_any (r c j beta g:Nat) (S:List Nat) (w:World) (hr:r≤6) (hc:c≤6) (hj:j < r) (hjc:j < c) (lS:S.length = r * c) (h:RowB w g S) :
  Calls Tryz.prog 257 #[.agg #[.int .i64 r,.int .i64 c,.slice (some ⟨g,0,none⟩) S.length S.length],.int .i64 j,.int .u64 beta] w fun e w'=>e = .returned (.tuple #[])∧RowB w' g (clM r c S j beta)∧w.grownBy w' (some g):=by
 have h36:S.length≤36:=by
  rw [lS]
  exact Nat.mul_le_mul hr hc
 refine settle_of r c S.length j beta g (j * c+j) S (clJ r c S j beta) (fun i=>i * c+j) w h36 hr hj h rfl (fun i=>by rw [clJ_len,lS]) ⟨rfl,by rw [lS];exact place_lt hj hjc,clJ_first r c S beta lS hj hjc⟩ (fun i hji hir=>⟨rfl,by rw [lS];exact place_lt hir hjc,clJ_set r c S beta hji hir hjc⟩)
end Go.Proofs.YtdhmglmccafbnaaGreatDoor
namespace Go.Proofs.YtdhmglmccafbnaaGreatDoor
open Go.RowKit
attribute [local go_sem ↓] Go.wp_at_zero Go.wp_at_succ
def OffB (g:Option Nat) (ao:Option Addr) (I:List Int):Prop:=I = [] ∨ ∃ b off,ao = some ⟨b,off,none⟩∧some b ≠ g
theorem OffB.new {H:Nat} {ao:Option Addr} {I:List Int} (h:NewB H ao I) {g:Option Nat} (hg:∀ k,g = some k→k < H):OffB g ao I:=by
 rcases h with e | ⟨b,off,e1,e2⟩
 ·exact .inl e
 ·exact .inr ⟨b,off,e1,fun e=>by have:=hg b e.symm;omega⟩
theorem OffB.old {w:World} {ao:Option Addr} {c:Nat} {I:List Int} (h:BitsAt w ao c I) {g:Option Nat} (hg:∀ k,g = some k→w.heap.size≤k):OffB g ao I:=by
 rcases h.2.2 with e | ⟨b,off,e1,e2,_⟩
 ·exact .inl e
 ·exact .inr ⟨b,off,e1,fun e=>by have:=hg b e.symm;omega⟩
theorem bits_grownOff {w w':World} {ao:Option Addr} {c:Nat} {I:List Int} {g:Option Nat} (h:BitsAt w ao c I) (ha:OffB g ao I) (hg:w.grownBy w' g):BitsAt w' ao c I:=by
 refine ⟨h.1,h.2.1,?_⟩
 rcases h.2.2 with e | ⟨b,off,e,hb,hc⟩
 ·exact .inl e
 ·rcases ha with e' | ⟨b',off',e',hne⟩
  ·exact .inl e'
  ·rw [e] at e'
   simp only [Option.some.injEq,Addr.mk.injEq] at e'
   obtain ⟨rfl,rfl,_⟩:=e'
   refine .inr ⟨b,off,e,Nat.lt_of_lt_of_le hb hg.size,fun i hi=>?_⟩
   rw [World.cell?_of_block (a:=⟨b,off+i,none⟩) (hg.block b hb hne)]
   exact hc i hi
end Go.Proofs.YtdhmglmccafbnaaGreatDoor
namespace Go.Proofs.YtdhmglmccafbnaaGreatDoor
open Go.RowKit
attribute [local go_sem ↓] Go.wp_at_zero Go.wp_at_succ
theorem psub_any (a b:Nat) (w:World) (ha:a < 18446744073709551616) (hb:b < 18446744073709551616) (hT:Tab w) :
  Calls Tryz.prog 174 #[.int .u64 a,.int .u64 b] w fun r w'=>r = .returned (.int .u64 (aV a (fN b):Nat))∧Below w.heap.size w w':=by
 have K:=hide (ssub_any a b w ha hb hT)
 clear ha hb hT
 generalize aV a (fN b) = o at *
 generalize aF a (fN b) = f at *
 go_enter Tryz.func174,Tryz.ntmps174
 go_wp2_with fail
 refine Calls.mono (uH K) ?_
 rintro e w1 ⟨rfl,hb1⟩
 clear K
 go_wp2
 go_ret
 exact ⟨rfl,hb1⟩
theorem pdiv_any (a b:Nat) (w:World) (ha:a < 18446744073709551616) (hb:b < 18446744073709551616) (hT:Tab w) :
  Calls Tryz.prog 176 #[.int .u64 a,.int .u64 b] w fun r w'=>r = .returned (.int .u64 (dV a b:Nat))∧Below w.heap.size w w':=by
 have K:=hide (tdiv_any a b w ha hb hT)
 clear ha hb hT
 generalize dV a b = o at *
 generalize dF a b = f at *
 go_enter Tryz.func176,Tryz.ntmps176
 go_wp2_with fail
 refine Calls.mono (uH K) ?_
 rintro e w1 ⟨rfl,hb1⟩
 clear K
 go_wp2
 go_ret
 exact ⟨rfl,hb1⟩
end Go.Proofs.YtdhmglmccafbnaaGreatDoor
namespace Go.Proofs.YtdhmglmccafbnaaGreatDoor
open Go.RowKit
attribute [local go_sem ↓] Go.wp_at_zero Go.wp_at_succ
theorem RowB.three {w:World} {b g:Nat} {S:List Nat} (h:RowB w b S) (hg:b ≠ g) (u u' u'':Value):RowB (((w.setCell ⟨g,0,none⟩ u).setCell ⟨g,1,none⟩ u').setCell ⟨g,2,none⟩ u'') b S:=by
 unfold RowB
 rw [Below.heap_setCell _ ⟨g,2,none⟩ u'' b hg,Below.heap_setCell _ ⟨g,1,none⟩ u' b hg,Below.heap_setCell _ ⟨g,0,none⟩ u b hg]
 exact h
theorem rowB_neM {w:World} {g b:Nat} {S:List Nat} (h:RowB w g S) {x y z:Value} (hx:BoxM w b x y z):g ≠ b:=by
 intro e
 subst e
 unfold RowB at h
 unfold BoxM at hx
 rw [h] at hx
 simp at hx
theorem copy_run (W:World) (g n cap:Nat) (ao:Option Addr) (S:List Nat) (h:RowB W g (List.replicate n 0)) (hS:BitsAt W ao cap (mxL S)) (hl:S.length = n) :
  ∃ w',(∀ ty,(Builtin.copy_ #[23,23] ty #[.slice (some ⟨g,0,none⟩) n n,.slice ao n cap]).run Tryz.prog W = .ok (.int .i64 (n:Int)) w')∧RowB w' g S∧Below g W w':=by
 rcases Nat.eq_zero_or_pos n with e | e
 ·subst e
  obtain rfl:S = []:=List.eq_nil_of_length_eq_zero hl
  exact ⟨W,fun ty=>run_copy_none W _ _ ty 28 _ _ 0 0 0 cap Tryz.underlying23 (by kernel_rfl) rfl,h,Below.refl _ _⟩
 ·obtain ⟨b,off,rfl,hb,hc⟩:=hS.ne (by rw [mxL_len];omega)
  have hcs:∀ j v,(S.map bitV)[j]? = some v→W.cell? ((⟨b,off,none⟩:Addr).add j) = some v:=by
   intro j v hv
   rw [List.getElem?_map] at hv
   obtain ⟨x,hx,rfl⟩:=Option.map_eq_some_iff.1 hv
   have hj:j < S.length:=(List.getElem?_eq_some_iff.1 hx).1
   have:=hc j (by rw [mxL_len];exact hj)
   rw [mxL_at] at this
   rw [show (⟨b,off,none⟩:Addr).add j = ⟨b,off+j,none⟩ from by simp [Addr.add],this]
   rw [List.getD_eq_getElem?_getD,hx]
   rfl
  have hlen:(S.map bitV).length = n:=by rw [List.length_map,hl]
  have run:=fun ty=>run_copy_row Tryz.prog W 23 23 ty 28 g 0 n n ⟨b,off,none⟩ n cap ((List.replicate n 0).map bitV).toArray 28 (S.map bitV) Tryz.underlying23 (by kernel_rfl) h (by rw [hlen];exact (Nat.min_self n).symm) hcs (by rw [hlen];simp) (fun v hv=>by obtain ⟨x,_,rfl⟩:=List.mem_map.1 hv;rfl)
  refine ⟨_,fun ty=>(run ty).trans (by rw [hlen];rfl),?_,below_setRow (Below.refl _ _) (Nat.le_refl _) _⟩
  unfold RowB
  rw [setRow_heap W g _ _ 28 _ h]
  congr 3
  simp
end Go.Proofs.YtdhmglmccafbnaaGreatDoor
