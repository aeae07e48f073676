/- Part 5 of the texts. -/
import Derived.Test.YtmpkkhackbpflaaGreatDoorPartg04
import Derived.Lib.BitFns
namespace Go.Proofs.YtmpkkhackbpflaaGreatDoor
open Go.RowKit
def elems(s:Nat):List Nat:=(List.range 6).filter (fun c=>s.testBit c)
def sz(s:Nat):Nat:=(elems s).length
def top(s:Nat):Nat:=(elems s).getLast?.getD 0
structure Nm where
 neg:Bool
 ao:Option Addr
 cap:Nat
 L:List Nat
structure Rw where
 ao:Option Addr
 cap:Nat
 R:List Nm
def Nm.nil:Nm:=⟨false,none,0,[]⟩
def Rw.nil:Rw:=⟨none,0,[]⟩
def bT(R:List Nm)(k:Nat):Nm:=R[k]?.getD Nm.nil
def aY(M:List Rw)(i:Nat):Rw:=M[i]?.getD Rw.nil
def Nm.v(x:Nm):Value:=.agg #[.bool x.neg,.slice x.ao x.L.length x.cap]
def Rw.v(r:Rw):Value:=.slice r.ao r.R.length r.cap
def bP(w:World)(ao:Option Addr)(cap:Nat)(R:List Nm):Prop:=
 R.length≤cap∧(∀x∈R,af w x.ao x.cap x.L)∧(R= []∨∃b off,ao=some ⟨b,off,none⟩∧b<w.heap.size∧∀k,k<R.length→w.cell? ⟨b,off+k*2,none⟩=some (.bool (bT R k).neg)∧w.cell? ⟨b,off+k*2+1,none⟩=some (.slice (bT R k).ao (bT R k).L.length (bT R k).cap))
def gV(w:World)(ao:Option Addr)(cap:Nat)(M:List Rw):Prop:=
 M.length≤cap∧(∀r∈M,bP w r.ao r.cap r.R)∧(M= []∨∃b off,ao=some ⟨b,off,none⟩∧b<w.heap.size∧∀i,i<M.length→w.cell? ⟨b,off+i,none⟩=some (aY M i).v)
theorem ic{R:List Nm}{k:Nat}(h:k<R.length):bT R k∈R:=by
 unfold bT;rw[List.getElem?_eq_getElem h];exact List.getElem_mem h
theorem iP{M:List Rw}{i:Nat}(h:i<M.length):aY M i∈M:=by
 unfold aY;rw[List.getElem?_eq_getElem h];exact List.getElem_mem h
theorem bP.below{w D:World}{F:Option Addr}{l:Nat}{R:List Nm}(h:bP w F l R)(t:Below w.heap.size w D):bP D F l R:=by
 refine⟨h.1,fun x G=>(h.2.1 x G).below t,?_⟩
 rcases h.2.2 with e|⟨b,d,I,z,J⟩
 ·exact .inl e
 ·refine .inr ⟨b,d,I,Nat.lt_of_lt_of_le z t.size,fun k H=>?_⟩
  rw[t.cell (p:=⟨b,d+k*2,none⟩) z,t.cell (p:=⟨b,d+k*2+1,none⟩) z]
  exact J k H
theorem gV.below{w z:World}{D:Option Addr}{d:Nat}{M:List Rw}(h:gV w D d M)(t:Below w.heap.size w z):gV z D d M:=by
 refine⟨h.1,fun r G=>(h.2.1 r G).below t,?_⟩
 rcases h.2.2 with e|⟨b,l,I,F,J⟩
 ·exact .inl e
 ·refine .inr ⟨b,l,I,Nat.lt_of_lt_of_le F t.size,fun i H=>?_⟩
  rw[t.cell (p:=⟨b,l+i,none⟩) F]
  exact J i H
theorem bP.limbs{w:World}{l:Option Addr}{d:Nat}{R:List Nm}(h:bP w l d R){k:Nat}(t:k<R.length):af w (bT R k).ao (bT R k).cap (bT R k).L:=h.2.1 _ (ic t)
theorem gV.nums{w:World}{l:Option Addr}{d:Nat}{M:List Rw}(h:gV w l d M){i:Nat}(t:i<M.length):bP w (aY M i).ao (aY M i).cap (aY M i).R:=h.2.1 _ (iP t)
theorem bP.ne{w:World}{t:Option Addr}{l:Nat}{R:List Nm}(h:bP w t l R)(z:0<R.length):∃b d,t=some ⟨b,d,none⟩∧b<w.heap.size∧∀k,k<R.length→w.cell? ⟨b,d+k*2,none⟩=some (.bool (bT R k).neg)∧w.cell? ⟨b,d+k*2+1,none⟩=some (.slice (bT R k).ao (bT R k).L.length (bT R k).cap):=by
 rcases h.2.2 with e|e
 ·rw[e]at z;simp at z
 ·exact e
theorem gV.ne{w:World}{t:Option Addr}{l:Nat}{M:List Rw}(h:gV w t l M)(z:0<M.length):∃b d,t=some ⟨b,d,none⟩∧b<w.heap.size∧∀i,i<M.length→w.cell? ⟨b,d+i,none⟩=some (.slice (aY M i).ao (aY M i).R.length (aY M i).cap):=by
 rcases h.2.2 with e|e
 ·rw[e]at z;simp at z
 ·exact e
def lM(M:List Rw)(i k:Nat):Nm:=bT (aY M i).R k
def iA(M:List Rw):Nat:=(aY M 0).R.length
def oY(M:List Rw):Prop:=M.length≤35184372088830∧∀r∈M,r.R.length≤35184372088830∧∀x∈r.R,x.L.length≤35184372088830
theorem oY.row{M:List Rw}(h:oY M)(i:Nat):(aY M i).R.length≤35184372088830:=by
 by_cases d:i<M.length
 ·exact(h.2 _ (iP d)).1
 ·unfold aY;rw[List.getElem?_eq_none (by omega)];simp[Rw.nil]
def nc(M:List Rw):Bool:=decide (M.length≤6)&&decide (iA M≤6)&&M.all (fun r=>decide (r.R.length=iA M))
def nh(x:Nm):Bool:=aE x.neg x.L
def no(x:Nm):Bool:=decide (x.L.length≤80)
def Cu(M:List Rw):Int:=if nc M then(if M.all (fun r=>r.R.all nh)then(if M.all (fun r=>r.R.all no)then 0 else 2)else 1)else 3
def iI(w:World)(ao:Option Addr)(cap:Nat)(I:List Int):Prop:=
 I.length≤cap∧(∀x∈I,-9223372036854775808≤x∧x≤9223372036854775807)∧(I= []∨∃b off,ao=some ⟨b,off,none⟩∧b<w.heap.size∧∀i,i<I.length→w.cell? ⟨b,off+i,none⟩=some (.int .i64 (I[i]?.getD 0)))
theorem iI.below{w t:World}{z:Option Addr}{d:Nat}{I:List Int}(h:iI w z d I)(D:Below w.heap.size w t):iI t z d I:=by
 refine⟨h.1,h.2.1,?_⟩
 rcases h.2.2 with h|⟨b,l,H,F,J⟩
 ·exact .inl h
 ·refine .inr ⟨b,l,H,Nat.lt_of_lt_of_le F D.size,fun i G=>?_⟩
  rw[D.cell (p:=⟨b,l+i,none⟩) F]
  exact J i G
theorem iI.ne{w:World}{t:Option Addr}{l:Nat}{I:List Int}(h:iI w t l I)(z:0<I.length):∃b d,t=some ⟨b,d,none⟩∧b<w.heap.size∧∀i,i<I.length→w.cell? ⟨b,d+i,none⟩=some (.int .i64 (I[i]?.getD 0)):=by
 rcases h.2.2 with e|e
 ·rw[e]at z;simp at z
 ·exact e
def nZ(I:List Int)(j:Nat):Int:=I[j]?.getD 0
end Go.Proofs.YtmpkkhackbpflaaGreatDoor
