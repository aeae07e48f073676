/- Part 29 of the texts. -/
import Derived.Test.YtlnphkioddknfaaGreatDoorPartq28
import Derived.OwnWalk
import Derived.Deep.RegionHeld3
import Derived.Deep.AppendLies
import Derived.Maps.AppendAt
import Derived.Test.YtlnphkioddknfaaGreatDoorPartq27
import Derived.Test.YtlnphkioddknfaaGreatDoorPartq25
import Derived.Test.YtlnphkioddknfaaGreatDoorPartq01
namespace Go.Proofs.YtlnphkioddknfaaGreatDoor
open Go.RowKit
def toN (I:List Int):List Nat:=I.map Int.toNat
theorem toN_len (I:List Int):(toN I).length = I.length:=by simp [toN]
theorem toN_at (I:List Int) (j:Nat) (hj:j < I.length):(toN I)[j]? = some (atB I j):=by simp [toN,atB,hj]
theorem toN_take (I:List Int) (j:Nat) (hj:j < I.length):(toN I).take (j+1) = (toN I).take j ++ [atB I j]:=by
 rw [List.take_add_one,toN_at I j hj]
 rfl
theorem toN_all (I:List Int) (P:Nat→Prop) (h:∀ j,j < I.length→P (atB I j)):∀ x ∈ toN I,P x:=by
 intro x hx
 obtain ⟨j,hj,rfl⟩:=List.getElem_of_mem hx
 have hj':j < I.length:=by rw [← toN_len];exact hj
 have e:=toN_at I j hj'
 rw [List.getElem?_eq_getElem hj] at e
 rw [Option.some.inj e]
 exact h j hj'
theorem bgF_snoc (x:Nat):∀ (xs:List Nat) (m:Nat),bgF m (xs ++ [x]) = mx (bgF m xs) (fR x):=by
 intro xs
 induction xs with
 | nil=>intro m;rfl
 | cons y ys ih=>intro m;exact ih _
theorem ssV_snoc (k:Int) (x:Nat):∀ (xs:List Nat) (s:Nat),ssV k s (xs ++ [x]) = sqV k (ssV k s xs) x:=by
 intro xs
 induction xs with
 | nil=>intro m;rfl
 | cons y ys ih=>intro m;exact ih _
theorem bgK_list (I:List Int):∀ j,j≤I.length→bgK I j = bgF 0 ((toN I).take j):=by
 intro j
 induction j with
 | zero=>intro _;rfl
 | succ j ih =>
  intro hj
  rw [toN_take I j (by omega),bgF_snoc,← ih (by omega)]
  rfl
theorem bgK_all (I:List Int):bgK I I.length = bgF 0 (toN I):=by
 rw [bgK_list I _ (Nat.le_refl _),List.take_of_length_le (by rw [toN_len];exact Nat.le_refl _)]
theorem dtK_list (k:Int) (I:List Int):∀ j,j≤I.length→dtK (tL k I) (tL k I) j = ssV k 0 ((toN I).take j):=by
 intro j
 induction j with
 | zero=>intro _;rfl
 | succ j ih =>
  intro hj
  rw [toN_take I j (by omega),ssV_snoc,← ih (by omega)]
  show aV (dtK (tL k I) (tL k I) j) (mV (atB (tL k I) j) (atB (tL k I) j)) = _
  rw [show atB (tL k I) j = xV (atB I j) (-k) from mkL_at _ _ j (by omega)]
  rfl
theorem dtK_all (k:Int) (I:List Int):dtK (tL k I) (tL k I) I.length = ssV k 0 (toN I):=by
 rw [dtK_list k I _ (Nat.le_refl _),List.take_of_length_le (by rw [toN_len];exact Nat.le_refl _)]
theorem nmV_nrV (I:List Int):nmV I = nrV (toN I):=by
 unfold nmV nrV
 rw [dtK_all,bgK_all]
end Go.Proofs.YtlnphkioddknfaaGreatDoor
namespace Go.Proofs.YtlnphkioddknfaaGreatDoor
open Go.RowKit
attribute [local go_sem ↓] Go.wp_at_zero Go.wp_at_succ
theorem infoBits:(Tryz.prog.info? 37).map (fun i=>(i.zero,i.size,i.bytes)) = some (some (.int .u64 0),1,8):=by kernel_rfl
def OwnB (base:Nat) (w:World) (v:Value) (S:List Nat):Prop:=w.ownsRow base 37 1 v S.length (S.map bitV)∧∀ x ∈ S,x < 18446744073709551616
theorem OwnB.below {base:Nat} {w w':World} {v:Value} {S:List Nat} (h:OwnB base w v S) (hb:Below w.heap.size w w'):OwnB base w' v S :=
 ⟨h.1.kept (row:=none) ⟨hb.os,hb.tape,hb.output,hb.size,fun k hk _=>hb.block k hk⟩ (by cases hv:v.ownBlock <;> simp),h.2⟩
theorem OwnB.bits {base:Nat} {w:World} {v:Value} {S:List Nat} (h:OwnB base w v S):∃ ao cap,v = .slice ao S.length cap∧BitsAt w ao cap (S.map (fun x:Nat=>(x:Int))):=by
 have hl:(S.map bitV).length = S.length:=by simp
 have hf:∀ x ∈ S.map (fun x:Nat=>(x:Int)),0≤x∧x≤18446744073709551615:=by
  intro x hx
  obtain ⟨y,hy,rfl⟩:=List.mem_map.1 hx
  have:=h.2 y hy
  omega
 rcases h.1.2 with ⟨hv,h0⟩ | ⟨g,cap,cur,hv,hg,hh,hc,hm,hs,ht⟩
 ·have:S = []:=List.length_eq_zero_iff.1 (by omega)
  subst this
  exact ⟨none,0,hv,⟨by simp,by simp,.inl rfl⟩⟩
 ·refine ⟨some ⟨g,0,none⟩,cap,hv,⟨by simp;omega,hf,.inr ⟨g,0,rfl,(Array.getElem?_eq_some_iff.1 hh).1,fun i hi=>?_⟩⟩⟩
  have hi':i < S.length:=by simpa using hi
  have q:(S.map bitV)[i]? = some (.int .u64 ((S[i]:Nat):Int)):=by
   rw [List.getElem?_map,List.getElem?_eq_getElem hi'];rfl
  rw [← ht,List.getElem?_take,if_pos (by omega)] at q
  rw [cell_of_row w g _ _ _ _ hh,Nat.zero_add]
  have e:(S.map (fun x:Nat=>(x:Int)))[i]?.getD 0 = ((S[i]:Nat):Int):=by simp [hi']
  rw [e]
  simpa using q
theorem OwnB.nil (w:World) (base:Nat) (h:base≤w.heap.size):OwnB base (w.alloc (.cells #[] 37)) (.slice (some ⟨w.heap.size,0,none⟩) 0 0) [] :=
 ⟨World.ownsRow_made w #[] 0 h (by simp [maxLen]) (by simp),by simp⟩
theorem OwnB.snoc {base:Nat} {w:World} {v:Value} {S:List Nat} {x n:Nat} (hn:n = S.length) (h:w.ownsRow base 37 1 v (n+1) (S.map bitV ++ [.int .u64 (x:Int)])) (hS:∀ x ∈ S,x < 18446744073709551616) (hx:x < 18446744073709551616):OwnB base w v (S ++ [x]):=by
 subst hn
 refine ⟨by simpa [bitV] using h,fun y hy=>?_⟩
 rcases List.mem_append.1 hy with h1 | h1
 ·exact hS y h1
 ·simp at h1;subst h1;exact hx
def fsL (f:Nat→Nat) (k:Nat):List Nat:=(List.range k).map f
theorem fsL_len (f:Nat→Nat) (k:Nat):(fsL f k).length = k:=by simp [fsL]
theorem fsL_succ (f:Nat→Nat) (k:Nat):fsL f (k+1) = fsL f k ++ [f k]:=by simp [fsL,List.range_succ]
end Go.Proofs.YtlnphkioddknfaaGreatDoor
namespace Go.Proofs.YtlnphkioddknfaaGreatDoor
open Go.RowKit
theorem wpList_append_ran {P:Program} (w:World) {ops:Array Oper} {rest:List Oper} {o:Oper} {a:Act} {Q:Exit→Act→World→Prop} (hgd:o.guard = none) (s x:Operand) (t:TypeId)
  (ho:o.op = .call { callee:=.builtin .append,args:=#[s,x],argTypes:=#[t,t] }) (v1 v2 v':Value) (w':World) (hs:a.eval s = v1) (hx:a.eval x = v2)
  (hr:(Builtin.append_ #[t,t] o.type #[v1,v2]).run P w = .ok v' w') (h:wpList P ops Q rest (a.put o.dst v') w'):wpList P ops Q (o :: rest) a w :=
 wpList_plain hgd fun _ hK=>by
  unfold Oper.wp execOp
  simp only [ho,resolve,invoke,builtin,Sem.run_bind,Sem.run_pure,Result.andThen_ok,List.map_toArray,List.map_cons,List.map_nil,hs,hx,hr]
  exact hK _ _ h
def Apart (v u:Value):Prop:=∀ g,v.ownBlock = some g→u.ownBlock ≠ some g
theorem OwnB.push {base:Nat} {w:World} {v:Value} {S:List Nat} (h:OwnB base w v S) (x:Nat) (hx:x < 18446744073709551616) (hl:S.length≤1000000) (hb:base≤w.heap.size) (ty:TypeId) :
  ∃ v' w',(Builtin.append_ #[22,22] ty #[v,.slice (some ⟨w.heap.size,0,none⟩) 1 1]).run Tryz.prog (w.alloc (.cells #[.int .u64 (x:Int)] 37)) = .ok v' w'∧OwnB base w' v' (S ++ [x])∧Below base w w' ∧
   (∀ u T,OwnB base w u T→Apart v u→OwnB base w' u T∧Apart v' u)∧(∀ ao c I,BitsAt w ao c I→(I = [] ∨ ∃ b off,ao = some ⟨b,off,none⟩∧v.ownBlock ≠ some b)→BitsAt w' ao c I):=by
 obtain ⟨i0,hi,hz0,hz1,hz2⟩:=info_parts infoBits
 obtain ⟨v',w',e1,e2,e3,e4,e5⟩:=run_append_own_at (P:=Tryz.prog) (w.alloc (.cells #[.int .u64 (x:Int)] 37)) base 22 ty 37 i0 (.int .u64 0) 1 8 Tryz.underlying22 hi hz0 hz1 hz2 rfl (by decide) v S.length (S.map bitV) (h.1.alloc _) ⟨w.heap.size,0,none⟩ 1 1 [.int .u64 (x:Int)] rfl (cell_one_new _ _ _) (fun u hu=>by simp at hu;subst hu;rfl) (by unfold maxLen;omega) (by omega) (by simp;omega)
 have hn:OwnB base w' v' (S ++ [x]):=OwnB.snoc rfl e2 h.2 hx
 refine ⟨v',w',e1,hn,((below_alloc9 w _).mono hb).grown e3 (by simp;omega) (fun g hg=>(h.1.lt g hg).1),?_,?_⟩
 ·intro u T hu ha
  refine ⟨⟨(hu.1.alloc _).kept e3 ?_,hu.2⟩,?_⟩
  ·cases hv:u.ownBlock with
   | none=>exact .inl rfl
   | some g =>
    right
    intro e
    exact ha g e.symm hv
  ·intro g hg hg2
   rcases e5 with e5 | e5
   ·exact ha g (by rw [← e5];exact hg) hg2
   ·rw [hg] at e5
    have h1:=(hu.1.lt g hg2).2
    simp at e5
    omega
 ·intro ao c I hI hn2
  have hA:=hI.below (below_alloc9 w (.cells #[.int .u64 (x:Int)] 37))
  refine ⟨hA.1,hA.2.1,?_⟩
  rcases hA.2.2 with e | ⟨b,off,f1,f2,f3⟩
  ·exact .inl e
  rcases hn2 with e | ⟨b',off',g1,g2⟩
  ·exact .inl e
  rw [f1] at g1
  simp only [Option.some.injEq,Addr.mk.injEq] at g1
  obtain ⟨rfl,rfl,_⟩:=g1
  refine .inr ⟨b,off,f1,Nat.lt_of_lt_of_le f2 e3.size,fun i hi=>?_⟩
  exact e3.cell (f3 i hi) (fun e=>g2 e.symm)
end Go.Proofs.YtlnphkioddknfaaGreatDoor
namespace Go.Proofs.YtlnphkioddknfaaGreatDoor
open Go.RowKit
def mkM (r c:Nat) (f:Nat→Nat→Nat):List Nat:=(List.range (r * c)).map (fun p=>f (p / c) (p % c))
theorem place_lt {r c i k:Nat} (hi:i < r) (hk:k < c):i * c+k < r * c:=by
 have h1:(i+1) * c≤r * c:=Nat.mul_le_mul_right c hi
 rw [Nat.add_mul,Nat.one_mul] at h1
 omega
theorem place_div {c i k:Nat} (hk:k < c):(i * c+k) / c = i:=by
 rw [Nat.add_comm,Nat.add_mul_div_right _ _ (by omega),Nat.div_eq_of_lt hk,Nat.zero_add]
theorem place_mod {c i k:Nat} (hk:k < c):(i * c+k) % c = k:=by
 rw [Nat.add_comm,Nat.add_mul_mod_self_right,Nat.mod_eq_of_lt hk]
theorem place_in {r c p:Nat} (h:p < r * c):p / c < r∧p % c < c∧p / c * c+p % c = p:=by
 have c0:0 < c:=by
  rcases Nat.eq_zero_or_pos c with e | e
  ·subst e;omega
  ·exact e
 refine ⟨(Nat.div_lt_iff_lt_mul c0).2 h,Nat.mod_lt _ c0,?_⟩
 have:=Nat.div_add_mod p c
 rw [Nat.mul_comm] at this
 exact this
theorem place_inj {c i k x y:Nat} (hk:k < c) (hy:y < c):i * c+k = x * c+y ↔ i = x∧k = y:=by
 constructor
 ·intro h
  have h1:=place_div (i:=i) hk
  have h2:=place_mod (i:=i) hk
  rw [h,place_div hy] at h1
  rw [h,place_mod hy] at h2
  exact ⟨h1.symm,h2.symm⟩
 ·rintro ⟨rfl,rfl⟩;rfl
theorem mkM_len (r c:Nat) (f:Nat→Nat→Nat):(mkM r c f).length = r * c:=by simp [mkM]
theorem mkM_get (r c:Nat) (f:Nat→Nat→Nat) (p:Nat) (h:p < r * c):(mkM r c f)[p]? = some (f (p / c) (p % c)):=by simp [mkM,h]
theorem mkM_at (r c:Nat) (f:Nat→Nat→Nat) {i k:Nat} (hi:i < r) (hk:k < c):(mkM r c f)[i * c+k]? = some (f i k):=by
 rw [mkM_get _ _ _ _ (place_lt hi hk),place_div hk,place_mod hk]
theorem mkM_atD (r c:Nat) (f:Nat→Nat→Nat) {i k:Nat} (hi:i < r) (hk:k < c):(mkM r c f).getD (i * c+k) 0 = f i k:=by
 rw [List.getD_eq_getElem?_getD,mkM_at r c f hi hk];rfl
theorem mkM_congr {r c:Nat} {f g:Nat→Nat→Nat} (h:∀ i k,i < r→k < c→f i k = g i k):mkM r c f = mkM r c g:=by
 unfold mkM
 refine List.map_congr_left (fun p hp=>?_)
 obtain ⟨h1,h2,_⟩:=place_in (List.mem_range.1 hp)
 exact h _ _ h1 h2
theorem mkM_of (r c:Nat) (S:List Nat) (h:S.length = r * c):mkM r c (fun i k=>S.getD (i * c+k) 0) = S:=by
 refine List.ext_getElem? (fun p=>?_)
 rcases Nat.lt_or_ge p (r * c) with g | g
 ·rw [mkM_get _ _ _ _ g,(place_in g).2.2,List.getD_eq_getElem?_getD,List.getElem?_eq_getElem (by omega)];rfl
 ·rw [List.getElem?_eq_none (by rw [mkM_len];exact g),List.getElem?_eq_none (by omega)]
theorem mkM_noughts (r c:Nat):List.replicate (r * c) 0 = mkM r c (fun _ _=>0):=by
 refine List.ext_getElem? (fun p=>?_)
 rcases Nat.lt_or_ge p (r * c) with g | g
 ·rw [mkM_get _ _ _ _ g,List.getElem?_replicate,if_pos g]
 ·rw [List.getElem?_eq_none (by simpa using g),List.getElem?_eq_none (by rw [mkM_len];exact g)]
theorem mkM_set (r c:Nat) (g:Nat→Nat→Nat) (v:Nat) {i k:Nat} (_:i < r) (hk:k < c):(mkM r c g).set (i * c+k) v = mkM r c (fun x y=>if x = i∧y = k then v else g x y):=by
 refine List.ext_getElem? (fun p=>?_)
 rcases Nat.lt_or_ge p (r * c) with h | h
 ·obtain ⟨h1,h2,h3⟩:=place_in h
  rw [mkM_get _ _ _ _ h,List.getElem?_set]
  have e:(i * c+k = p) ↔ (p / c = i∧p % c = k):=by
   rw [← h3,place_inj hk h2,h3]
   exact ⟨fun ⟨a,b⟩=>⟨a.symm,b.symm⟩,fun ⟨a,b⟩=>⟨a.symm,b.symm⟩⟩
  by_cases q:i * c+k = p
  ·rw [if_pos q,if_pos (by rw [mkM_len];omega),if_pos (e.1 q)]
  ·rw [if_neg q,if_neg (fun z=>q (e.2 z)),mkM_get _ _ _ _ h]
 ·rw [List.getElem?_eq_none (by simpa [mkM_len] using h),List.getElem?_eq_none (by rw [mkM_len];exact h)]
def fiR (f:Nat→Nat→Nat) (i k:Nat):Nat→Nat→Nat:=fun x y=>if x < i ∨ (x = i∧y < k) then f x y else 0
theorem fiR_0 (r c:Nat) (f:Nat→Nat→Nat):mkM r c (fiR f 0 0) = List.replicate (r * c) 0:=by
 rw [mkM_noughts]
 exact mkM_congr (fun i k _ _=>by unfold fiR;exact if_neg (by omega))
theorem fiR_step (r c:Nat) (f:Nat→Nat→Nat) {i k:Nat} (hi:i < r) (hk:k < c):(mkM r c (fiR f i k)).set (i * c+k) (f i k) = mkM r c (fiR f i (k+1)):=by
 rw [mkM_set r c _ _ hi hk]
 refine mkM_congr (fun x y _ _=>?_)
 unfold fiR
 by_cases h:x = i∧y = k
 ·obtain ⟨rfl,rfl⟩:=h
  rw [if_pos ⟨rfl,rfl⟩,if_pos (by omega)]
 ·rw [if_neg h]
  by_cases g:x < i ∨ (x = i∧y < k)
  ·rw [if_pos g,if_pos (by omega)]
  ·rw [if_neg g,if_neg (by omega)]
theorem fiR_row (r c:Nat) (f:Nat→Nat→Nat) (i:Nat):mkM r c (fiR f i c) = mkM r c (fiR f (i+1) 0):=by
 refine mkM_congr (fun x y _ hy=>?_)
 unfold fiR
 by_cases g:x < i+1
 ·rw [if_pos (by omega),if_pos (by omega)]
 ·rw [if_neg (by omega),if_neg (by omega)]
theorem fiR_all (r c:Nat) (f:Nat→Nat→Nat):mkM r c (fiR f r 0) = mkM r c f :=
 mkM_congr (fun x y hx _=>by unfold fiR;exact if_pos (.inl hx))
def fiC (f:Nat→Nat→Nat) (i k:Nat):Nat→Nat→Nat:=fun x y=>if y < i ∨ (y = i∧x < k) then f x y else 0
theorem fiC_0 (r c:Nat) (f:Nat→Nat→Nat):mkM r c (fiC f 0 0) = List.replicate (r * c) 0:=by
 rw [mkM_noughts]
 exact mkM_congr (fun i k _ _=>by unfold fiC;exact if_neg (by omega))
theorem fiC_step (r c:Nat) (f:Nat→Nat→Nat) {i k:Nat} (hi:i < c) (hk:k < r):(mkM r c (fiC f i k)).set (k * c+i) (f k i) = mkM r c (fiC f i (k+1)):=by
 rw [mkM_set r c _ _ hk hi]
 refine mkM_congr (fun x y _ _=>?_)
 unfold fiC
 by_cases h:x = k∧y = i
 ·obtain ⟨rfl,rfl⟩:=h
  rw [if_pos ⟨rfl,rfl⟩,if_pos (by omega)]
 ·rw [if_neg h]
  by_cases g:y < i ∨ (y = i∧x < k)
  ·rw [if_pos g,if_pos (by omega)]
  ·rw [if_neg g,if_neg (by omega)]
theorem fiC_col (r c:Nat) (f:Nat→Nat→Nat) (i:Nat):mkM r c (fiC f i r) = mkM r c (fiC f (i+1) 0):=by
 refine mkM_congr (fun x y hx _=>?_)
 unfold fiC
 by_cases g:y < i+1
 ·rw [if_pos (by omega),if_pos (by omega)]
 ·rw [if_neg (by omega),if_neg (by omega)]
theorem fiC_all (r c:Nat) (f:Nat→Nat→Nat):mkM r c (fiC f c 0) = mkM r c f :=
 mkM_congr (fun x y _ hy=>by unfold fiC;exact if_pos (.inl hy))
def elM (c:Nat) (S:List Nat) (i k:Nat):Nat:=S.getD (i * c+k) 0
def tuM (r c:Nat) (S:List Nat):List Nat:=mkM c r (fun k i=>elM c S i k)
def paM (c:Nat) (S:List Nat) (i k p q:Nat):List Nat:=mkM p q (fun x y=>elM c S (i+x) (k+y))
theorem el_mk (r c:Nat) (f:Nat→Nat→Nat) {i k:Nat} (hi:i < r) (hk:k < c):elM c (mkM r c f) i k = f i k:=mkM_atD r c f hi hk
def dtf:Nat→(Nat→Nat)→(Nat→Nat)→Nat
 | 0,_,_=>0
 | n+1,x,y=>aV (dtf n x y) (mV (x n) (y n))
theorem dtK_dtf (I J:List Int) (n:Nat):dtK I J n = dtf n (atB I) (atB J):=by
 induction n with
 | zero=>rfl
 | succ n ih=>show aV (dtK I J n) _ = aV (dtf n _ _) _;rw [ih]
theorem dtf_congr {x y x' y':Nat→Nat} (n:Nat) (h:∀ i,i < n→x i = x' i) (k:∀ i,i < n→y i = y' i):dtf n x y = dtf n x' y':=by
 induction n with
 | zero=>rfl
 | succ n ih=>show aV (dtf n x y) _ = aV (dtf n x' y') _;rw [ih (fun i hi=>h i (by omega)) (fun i hi=>k i (by omega)),h n (by omega),k n (by omega)]
theorem dtf_lt (x y:Nat→Nat) (n:Nat):dtf n x y < 18446744073709551616:=by
 induction n with
 | zero=>show 0 < 18446744073709551616;omega
 | succ n ih=>exact aV_lt _ _ ih (mV_lt _ _)
def muM (r n c:Nat) (A B:List Nat):List Nat:=mkM r c (fun i k=>dtf n (fun j=>elM n A i j) (fun j=>elM c B j k))
def eyM (n:Nat):List Nat:=mkM n n (fun i k=>if k = i then 4607182418800017408 else 0)
end Go.Proofs.YtlnphkioddknfaaGreatDoor
namespace Go.Proofs.YtlnphkioddknfaaGreatDoor
open Go.RowKit
def smI (f:Nat→Int):Nat→Int
 | 0=>0
 | n+1=>smI f n+f n
end Go.Proofs.YtlnphkioddknfaaGreatDoor
