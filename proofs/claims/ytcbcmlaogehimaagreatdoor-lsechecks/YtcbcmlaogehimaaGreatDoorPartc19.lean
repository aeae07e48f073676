/- Part 19 of the texts. -/
import Derived.Test.YtcbcmlaogehimaaGreatDoorPartc18
import Derived.OwnWalk
import Derived.Deep.RegionHeld3
import Derived.Deep.AppendLies
import Derived.Maps.AppendAt
import Derived.Test.YtcbcmlaogehimaaGreatDoorPartc16
set_option maxHeartbeats 2000000
set_option maxRecDepth 20000
namespace Go.Proofs.YtcbcmlaogehimaaGreatDoor
open Go.RowKit
attribute [local go_sem ↓] Go.wp_at_zero Go.wp_at_succ
theorem infoBits:(Tryz.prog.info? 69).map (fun i=>(i.zero,i.size,i.bytes)) = some (some (.int .u64 0),1,8):=by kernel_rfl
def OwnB (base:Nat) (w:World) (v:Value) (S:List Nat):Prop:=w.ownsRow base 69 1 v S.length (S.map bitV)∧∀ x ∈ S,x < 18446744073709551616
theorem OwnB.below {base:Nat} {w w':World} {v:Value} {S:List Nat} (h:OwnB base w v S) (hb:Below w.heap.size w w'):OwnB base w' v S :=
 ⟨h.1.kept (row:=none) ⟨hb.os,hb.tape,hb.output,hb.size,fun k hk _=>hb.block k hk⟩ (by cases hv:v.ownBlock <;> simp),h.2⟩
theorem OwnB.bits {base:Nat} {w:World} {v:Value} {S:List Nat} (h:OwnB base w v S):∃ ao cap,v = .slice ao S.length cap∧BitsAt w ao cap (S.map (fun x:Nat=>(x:Int))):=by
 have hl:(S.map bitV).length = S.length:=by simp
 have hf:∀ x ∈ S.map (fun x:Nat=>(x:Int)),0≤x∧x≤18446744073709551615:=by
  intro x hx
  obtain ⟨y,hy,rfl⟩:=List.mem_map.1 hx
  have:=h.2 y hy
  omega
 rcases h.1.2 with ⟨hv,h0⟩ | ⟨g,cap,cur,hv,hg,hh,hc,hm,hs,ht⟩
 ·have:S = []:=List.length_eq_zero_iff.1 (by omega)
  subst this
  exact ⟨none,0,hv,⟨by simp,by simp,.inl rfl⟩⟩
 ·refine ⟨some ⟨g,0,none⟩,cap,hv,⟨by simp;omega,hf,.inr ⟨g,0,rfl,(Array.getElem?_eq_some_iff.1 hh).1,fun i hi=>?_⟩⟩⟩
  have hi':i < S.length:=by simpa using hi
  have q:(S.map bitV)[i]? = some (.int .u64 ((S[i]:Nat):Int)):=by
   rw [List.getElem?_map,List.getElem?_eq_getElem hi'];rfl
  rw [← ht,List.getElem?_take,if_pos (by omega)] at q
  rw [cell_of_row w g _ _ _ _ hh,Nat.zero_add]
  have e:(S.map (fun x:Nat=>(x:Int)))[i]?.getD 0 = ((S[i]:Nat):Int):=by simp [hi']
  rw [e]
  simpa using q
theorem OwnB.snoc {base:Nat} {w:World} {v:Value} {S:List Nat} {x n:Nat} (hn:n = S.length) (h:w.ownsRow base 69 1 v (n+1) (S.map bitV ++ [.int .u64 (x:Int)])) (hS:∀ x ∈ S,x < 18446744073709551616) (hx:x < 18446744073709551616):OwnB base w v (S ++ [x]):=by
 subst hn
 refine ⟨by simpa [bitV] using h,fun y hy=>?_⟩
 rcases List.mem_append.1 hy with h1 | h1
 ·exact hS y h1
 ·simp at h1;subst h1;exact hx
def fsL (f:Nat→Nat) (k:Nat):List Nat:=(List.range k).map f
theorem fsL_len (f:Nat→Nat) (k:Nat):(fsL f k).length = k:=by simp [fsL]
theorem fsL_succ (f:Nat→Nat) (k:Nat):fsL f (k+1) = fsL f k ++ [f k]:=by simp [fsL,List.range_succ]
end Go.Proofs.YtcbcmlaogehimaaGreatDoor
namespace Go.Proofs.YtcbcmlaogehimaaGreatDoor
open Go.RowKit
attribute [local go_sem ↓] Go.wp_at_zero Go.wp_at_succ
def natL (I:List Int):List Nat:=I.map Int.toNat
theorem natL_len (I:List Int):(natL I).length = I.length:=by simp [natL]
theorem natL_back {w:World} {ao:Option Addr} {c:Nat} {I:List Int} (h:BitsAt w ao c I):(natL I).map (fun x:Nat=>(x:Int)) = I:=by
 unfold natL
 rw [List.map_map]
 refine (List.map_congr_left fun x hx=>?_).trans (List.map_id I)
 have:=h.2.1 x hx
 simp
 omega
theorem append_nil (w:World) (ty:TypeId) (g c:Nat) :
  (Builtin.append_ #[22,22] ty #[.slice (some ⟨g,0,none⟩) 0 0,.slice none 0 c]).run Tryz.prog w = .ok (.slice (some ⟨g,0,none⟩) 0 0) w:=by
 simp [Builtin.append_,go_sem]
theorem BitsAt.other {w:World} {ao:Option Addr} {c:Nat} {I:List Int} (h:BitsAt w ao c I) {p:Addr} (hp:I = [] ∨ ∃ b off,ao = some ⟨b,off,none⟩∧b ≠ p.block) (u:Value):BitsAt (w.setCell p u) ao c I:=by
 refine ⟨h.1,h.2.1,?_⟩
 rcases h.2.2 with e | ⟨b,off,e1,e2,e3⟩
 ·exact .inl e
 rcases hp with e | ⟨b',off',f1,f2⟩
 ·exact .inl e
 rw [e1] at f1
 simp only [Option.some.injEq,Addr.mk.injEq] at f1
 obtain ⟨rfl,rfl,_⟩:=f1
 refine .inr ⟨b,off,e1,by simpa [World.setCell] using e2,fun i hi=>?_⟩
 rw [cell_setCell_other _ _ _ _ f2]
 exact e3 i hi
end Go.Proofs.YtcbcmlaogehimaaGreatDoor
namespace Go.Proofs.YtcbcmlaogehimaaGreatDoor
open Go.RowKit
attribute [local go_sem ↓] Go.wp_at_zero Go.wp_at_succ
def NewB (H:Nat) (ao:Option Addr) (I:List Int):Prop:=I = [] ∨ ∃ b off,ao = some ⟨b,off,none⟩∧H≤b
theorem BitsAt.far {H:Nat} {w:World} {ao:Option Addr} {c:Nat} {I:List Int} (h:BitsAt w ao c I) (hn:NewB H ao I) {b:Nat} (hb:b < H) (j:Nat) (u:Value):BitsAt (w.setCell ⟨b,j,none⟩ u) ao c I:=by
 refine h.other ?_ u
 rcases hn with e | ⟨b',off,e1,e2⟩
 ·exact .inl e
 ·exact .inr ⟨b',off,e1,by show b' ≠ b;omega⟩
end Go.Proofs.YtcbcmlaogehimaaGreatDoor
namespace Go.Proofs.YtcbcmlaogehimaaGreatDoor
open Go.RowKit
theorem wpList_append_ran {P:Program} (w:World) {ops:Array Oper} {rest:List Oper} {o:Oper} {a:Act} {Q:Exit→Act→World→Prop} (hgd:o.guard = none) (s x:Operand) (t:TypeId)
  (ho:o.op = .call { callee:=.builtin .append,args:=#[s,x],argTypes:=#[t,t] }) (v1 v2 v':Value) (w':World) (hs:a.eval s = v1) (hx:a.eval x = v2)
  (hr:(Builtin.append_ #[t,t] o.type #[v1,v2]).run P w = .ok v' w') (h:wpList P ops Q rest (a.put o.dst v') w'):wpList P ops Q (o :: rest) a w :=
 wpList_plain hgd fun _ hK=>by
  unfold Oper.wp execOp
  simp only [ho,resolve,invoke,builtin,Sem.run_bind,Sem.run_pure,Result.andThen_ok,List.map_toArray,List.map_cons,List.map_nil,hs,hx,hr]
  exact hK _ _ h
def Apart (v u:Value):Prop:=∀ g,v.ownBlock = some g→u.ownBlock ≠ some g
theorem OwnB.push {base:Nat} {w:World} {v:Value} {S:List Nat} (h:OwnB base w v S) (x:Nat) (hx:x < 18446744073709551616) (hl:S.length≤1000000) (hb:base≤w.heap.size) (ty:TypeId) :
  ∃ v' w',(Builtin.append_ #[22,22] ty #[v,.slice (some ⟨w.heap.size,0,none⟩) 1 1]).run Tryz.prog (w.alloc (.cells #[.int .u64 (x:Int)] 69)) = .ok v' w'∧OwnB base w' v' (S ++ [x])∧Below base w w' ∧
   (∀ u T,OwnB base w u T→Apart v u→OwnB base w' u T∧Apart v' u)∧(∀ ao c I,BitsAt w ao c I→(I = [] ∨ ∃ b off,ao = some ⟨b,off,none⟩∧v.ownBlock ≠ some b)→BitsAt w' ao c I):=by
 obtain ⟨i0,hi,hz0,hz1,hz2⟩:=info_parts infoBits
 obtain ⟨v',w',e1,e2,e3,e4,e5⟩:=run_append_own_at (P:=Tryz.prog) (w.alloc (.cells #[.int .u64 (x:Int)] 69)) base 22 ty 69 i0 (.int .u64 0) 1 8 Tryz.underlying22 hi hz0 hz1 hz2 rfl (by decide) v S.length (S.map bitV) (h.1.alloc _) ⟨w.heap.size,0,none⟩ 1 1 [.int .u64 (x:Int)] rfl (cell_one_new _ _ _) (fun u hu=>by simp at hu;subst hu;rfl) (by unfold maxLen;omega) (by omega) (by simp;omega)
 have hn:OwnB base w' v' (S ++ [x]):=OwnB.snoc rfl e2 h.2 hx
 refine ⟨v',w',e1,hn,((below_alloc9 w _).mono hb).grown e3 (by simp;omega) (fun g hg=>(h.1.lt g hg).1),?_,?_⟩
 ·intro u T hu ha
  refine ⟨⟨(hu.1.alloc _).kept e3 ?_,hu.2⟩,?_⟩
  ·cases hv:u.ownBlock with
   | none=>exact .inl rfl
   | some g =>
    right
    intro e
    exact ha g e.symm hv
  ·intro g hg hg2
   rcases e5 with e5 | e5
   ·exact ha g (by rw [← e5];exact hg) hg2
   ·rw [hg] at e5
    have h1:=(hu.1.lt g hg2).2
    simp at e5
    omega
 ·intro ao c I hI hn2
  have hA:=hI.below (below_alloc9 w (.cells #[.int .u64 (x:Int)] 69))
  refine ⟨hA.1,hA.2.1,?_⟩
  rcases hA.2.2 with e | ⟨b,off,f1,f2,f3⟩
  ·exact .inl e
  rcases hn2 with e | ⟨b',off',g1,g2⟩
  ·exact .inl e
  rw [f1] at g1
  simp only [Option.some.injEq,Addr.mk.injEq] at g1
  obtain ⟨rfl,rfl,_⟩:=g1
  refine .inr ⟨b,off,f1,Nat.lt_of_lt_of_le f2 e3.size,fun i hi=>?_⟩
  exact e3.cell (f3 i hi) (fun e=>g2 e.symm)
end Go.Proofs.YtcbcmlaogehimaaGreatDoor
namespace Go.Proofs.YtcbcmlaogehimaaGreatDoor
open Go.RowKit
def mkM (r c:Nat) (f:Nat→Nat→Nat):List Nat:=(List.range (r * c)).map (fun p=>f (p / c) (p % c))
theorem place_lt {r c i k:Nat} (hi:i < r) (hk:k < c):i * c+k < r * c:=by
 have h1:(i+1) * c≤r * c:=Nat.mul_le_mul_right c hi
 rw [Nat.add_mul,Nat.one_mul] at h1
 omega
theorem place_div {c i k:Nat} (hk:k < c):(i * c+k) / c = i:=by
 rw [Nat.add_comm,Nat.add_mul_div_right _ _ (by omega),Nat.div_eq_of_lt hk,Nat.zero_add]
theorem place_mod {c i k:Nat} (hk:k < c):(i * c+k) % c = k:=by
 rw [Nat.add_comm,Nat.add_mul_mod_self_right,Nat.mod_eq_of_lt hk]
theorem place_in {r c p:Nat} (h:p < r * c):p / c < r∧p % c < c∧p / c * c+p % c = p:=by
 have c0:0 < c:=by
  rcases Nat.eq_zero_or_pos c with e | e
  ·subst e;omega
  ·exact e
 refine ⟨(Nat.div_lt_iff_lt_mul c0).2 h,Nat.mod_lt _ c0,?_⟩
 have:=Nat.div_add_mod p c
 rw [Nat.mul_comm] at this
 exact this
theorem place_inj {c i k x y:Nat} (hk:k < c) (hy:y < c):i * c+k = x * c+y ↔ i = x∧k = y:=by
 constructor
 ·intro h
  have h1:=place_div (i:=i) hk
  have h2:=place_mod (i:=i) hk
  rw [h,place_div hy] at h1
  rw [h,place_mod hy] at h2
  exact ⟨h1.symm,h2.symm⟩
 ·rintro ⟨rfl,rfl⟩;rfl
theorem mkM_len (r c:Nat) (f:Nat→Nat→Nat):(mkM r c f).length = r * c:=by simp [mkM]
theorem mkM_get (r c:Nat) (f:Nat→Nat→Nat) (p:Nat) (h:p < r * c):(mkM r c f)[p]? = some (f (p / c) (p % c)):=by simp [mkM,h]
theorem mkM_at (r c:Nat) (f:Nat→Nat→Nat) {i k:Nat} (hi:i < r) (hk:k < c):(mkM r c f)[i * c+k]? = some (f i k):=by
 rw [mkM_get _ _ _ _ (place_lt hi hk),place_div hk,place_mod hk]
theorem mkM_atD (r c:Nat) (f:Nat→Nat→Nat) {i k:Nat} (hi:i < r) (hk:k < c):(mkM r c f).getD (i * c+k) 0 = f i k:=by
 rw [List.getD_eq_getElem?_getD,mkM_at r c f hi hk];rfl
theorem mkM_congr {r c:Nat} {f g:Nat→Nat→Nat} (h:∀ i k,i < r→k < c→f i k = g i k):mkM r c f = mkM r c g:=by
 unfold mkM
 refine List.map_congr_left (fun p hp=>?_)
 obtain ⟨h1,h2,_⟩:=place_in (List.mem_range.1 hp)
 exact h _ _ h1 h2
theorem mkM_of (r c:Nat) (S:List Nat) (h:S.length = r * c):mkM r c (fun i k=>S.getD (i * c+k) 0) = S:=by
 refine List.ext_getElem? (fun p=>?_)
 rcases Nat.lt_or_ge p (r * c) with g | g
 ·rw [mkM_get _ _ _ _ g,(place_in g).2.2,List.getD_eq_getElem?_getD,List.getElem?_eq_getElem (by omega)];rfl
 ·rw [List.getElem?_eq_none (by rw [mkM_len];exact g),List.getElem?_eq_none (by omega)]
theorem mkM_ext {r c:Nat} {S T:List Nat} (hS:S.length = r * c) (hT:T.length = r * c) (h:∀ i k,i < r→k < c→S.getD (i * c+k) 0 = T.getD (i * c+k) 0):S = T:=by
 rw [← mkM_of r c S hS,← mkM_of r c T hT]
 exact mkM_congr h
theorem mkM_set (r c:Nat) (g:Nat→Nat→Nat) (v:Nat) {i k:Nat} (_:i < r) (hk:k < c):(mkM r c g).set (i * c+k) v = mkM r c (fun x y=>if x = i∧y = k then v else g x y):=by
 refine List.ext_getElem? (fun p=>?_)
 rcases Nat.lt_or_ge p (r * c) with h | h
 ·obtain ⟨h1,h2,h3⟩:=place_in h
  rw [mkM_get _ _ _ _ h,List.getElem?_set]
  have e:(i * c+k = p) ↔ (p / c = i∧p % c = k):=by
   rw [← h3,place_inj hk h2,h3]
   exact ⟨fun ⟨a,b⟩=>⟨a.symm,b.symm⟩,fun ⟨a,b⟩=>⟨a.symm,b.symm⟩⟩
  by_cases q:i * c+k = p
  ·rw [if_pos q,if_pos (by rw [mkM_len];omega),if_pos (e.1 q)]
  ·rw [if_neg q,if_neg (fun z=>q (e.2 z)),mkM_get _ _ _ _ h]
 ·rw [List.getElem?_eq_none (by simpa [mkM_len] using h),List.getElem?_eq_none (by rw [mkM_len];exact h)]
def elM (c:Nat) (S:List Nat) (i k:Nat):Nat:=S.getD (i * c+k) 0
def tuM (r c:Nat) (S:List Nat):List Nat:=mkM c r (fun k i=>elM c S i k)
def paM (c:Nat) (S:List Nat) (i k p q:Nat):List Nat:=mkM p q (fun x y=>elM c S (i+x) (k+y))
theorem el_mk (r c:Nat) (f:Nat→Nat→Nat) {i k:Nat} (hi:i < r) (hk:k < c):elM c (mkM r c f) i k = f i k:=mkM_atD r c f hi hk
theorem el_app_left (r c:Nat) (S T:List Nat) (h:S.length = r * c) {i k:Nat} (hi:i < r) (hk:k < c):elM c (S ++ T) i k = elM c S i k:=by
 unfold elM
 rw [List.getD_eq_getElem?_getD,List.getD_eq_getElem?_getD,List.getElem?_append_left (by rw [h];exact place_lt hi hk)]
theorem el_app_right (r c:Nat) (S T:List Nat) (h:S.length = r * c) (i k:Nat):elM c (S ++ T) (r+i) k = elM c T i k:=by
 unfold elM
 rw [List.getD_eq_getElem?_getD,List.getD_eq_getElem?_getD,List.getElem?_append_right (by rw [h,Nat.add_mul];omega),h,Nat.add_mul,show r * c+i * c+k - r * c = i * c+k by omega]
def dtf:Nat→(Nat→Nat)→(Nat→Nat)→Nat
 | 0,_,_=>0
 | n+1,x,y=>aV (dtf n x y) (mV (x n) (y n))
theorem dtK_dtf (I J:List Int) (n:Nat):dtK I J n = dtf n (atB I) (atB J):=by
 induction n with
 | zero=>rfl
 | succ n ih=>show aV (dtK I J n) _ = aV (dtf n _ _) _;rw [ih]
theorem dtf_congr {x y x' y':Nat→Nat} (n:Nat) (h:∀ i,i < n→x i = x' i) (k:∀ i,i < n→y i = y' i):dtf n x y = dtf n x' y':=by
 induction n with
 | zero=>rfl
 | succ n ih=>show aV (dtf n x y) _ = aV (dtf n x' y') _;rw [ih (fun i hi=>h i (by omega)) (fun i hi=>k i (by omega)),h n (by omega),k n (by omega)]
theorem dtf_lt (x y:Nat→Nat) (n:Nat):dtf n x y < 18446744073709551616:=by
 induction n with
 | zero=>show 0 < 18446744073709551616;omega
 | succ n ih=>exact aV_lt _ _ ih (mV_lt _ _)
def muM (r n c:Nat) (A B:List Nat):List Nat:=mkM r c (fun i k=>dtf n (fun j=>elM n A i j) (fun j=>elM c B j k))
def eyM (n:Nat):List Nat:=mkM n n (fun i k=>if k = i then 4607182418800017408 else 0)
end Go.Proofs.YtcbcmlaogehimaaGreatDoor
namespace Go.Proofs.YtcbcmlaogehimaaGreatDoor
open Go.RowKit
attribute [local go_sem ↓] Go.wp_at_zero Go.wp_at_succ
def BoxM (w:World) (b:Nat) (x y z:Value):Prop:=w.heap[b]? = some (.cells #[x,y,z] 24 (0,0))
theorem BoxM.c0 {w:World} {b:Nat} {x y z:Value} (h:BoxM w b x y z):w.cell? ⟨b,0,none⟩ = some x:=by rw [cell_of_row w b 0 _ _ _ h];rfl
theorem BoxM.c1 {w:World} {b:Nat} {x y z:Value} (h:BoxM w b x y z):w.cell? ⟨b,1,none⟩ = some y:=by rw [cell_of_row w b 1 _ _ _ h];rfl
theorem BoxM.c2 {w:World} {b:Nat} {x y z:Value} (h:BoxM w b x y z):w.cell? ⟨b,2,none⟩ = some z:=by rw [cell_of_row w b 2 _ _ _ h];rfl
theorem BoxM.free {w:World} {b:Nat} {x y z:Value} (h:BoxM w b x y z) (j:Nat):w.frozen? ⟨b,j,none⟩ = false:=frozen_of_row w b j _ _ h
theorem BoxM.lt {w:World} {b:Nat} {x y z:Value} (h:BoxM w b x y z):b < w.heap.size:=(Array.getElem?_eq_some_iff.1 h).1
theorem BoxM.below {w w':World} {b:Nat} {x y z:Value} (h:BoxM w b x y z) {B:Nat} (hb:Below B w w') (hlt:b < B):BoxM w' b x y z:=(hb.block b hlt).trans h
theorem BoxM.new (w:World) (x y z:Value):BoxM (w.alloc (.cells #[x,y,z] 24)) w.heap.size x y z:=heap_alloc_new w _
theorem BoxM.all {w w':World} {b:Nat} {x y z:Value} (h:BoxM w b x y z) (hb:Below w.heap.size w w'):BoxM w' b x y z:=h.below hb h.lt
theorem BoxM.other {w:World} {b:Nat} {x y z:Value} (h:BoxM w b x y z) {p:Addr} (hp:b ≠ p.block) (u:Value):BoxM (w.setCell p u) b x y z:=(Below.heap_setCell w p u b hp).trans h
theorem BoxM.put {w:World} {b:Nat} {x y z:Value} (h:BoxM w b x y z) (u u' u'':Value):BoxM (((w.setCell ⟨b,0,none⟩ u).setCell ⟨b,1,none⟩ u').setCell ⟨b,2,none⟩ u'') b u u' u'':=by
 have h1:=heap_setCell_same w b 0 _ _ u h
 have h2:=heap_setCell_same (w.setCell ⟨b,0,none⟩ u) b 1 _ _ u' h1
 have h3:=heap_setCell_same ((w.setCell ⟨b,0,none⟩ u).setCell ⟨b,1,none⟩ u') b 2 _ _ u'' h2
 unfold BoxM
 rw [h3]
 simp
theorem below_putM {w w':World} {B b:Nat} (h:Below B w w') (hb:B≤b) (u u' u'':Value):Below B w (((w'.setCell ⟨b,0,none⟩ u).setCell ⟨b,1,none⟩ u').setCell ⟨b,2,none⟩ u'') :=
 ((h.setCell hb _).setCell hb _).setCell hb _
theorem BoxM.grown {w w':World} {b:Nat} {x y z:Value} (h:BoxM w b x y z) {o:Option Nat} (hg:w.grownBy w' o) (ho:o ≠ some b):BoxM w' b x y z :=
 (hg.block b h.lt ho.symm).trans h
def rgB (r c:Int):Bool:=decide (0≤r∧r≤6∧0≤c∧c≤6)
def okB (r c:Int) (n:Nat):Bool:=decide ((0≤r∧r≤6∧0≤c∧c≤6)∧(n:Int) = r * c)
theorem inRange_any (r c:Int) (w:World) :
  Calls Tryz.prog 167 #[.int .i64 r,.int .i64 c] w fun e w'=>e = .returned (.bool (rgB r c))∧w = w':=by
 rcases (show (r < 0∧rgB r c = false) ∨ (0≤r∧6 < r∧rgB r c = false) ∨ (0≤r∧r≤6∧c < 0∧rgB r c = false) ∨ (0≤r∧r≤6∧0≤c∧6 < c∧rgB r c = false) ∨ (0≤r∧r≤6∧0≤c∧c≤6∧rgB r c = true) by
  unfold rgB
  by_cases h:0≤r∧r≤6∧0≤c∧c≤6
  ·rw [decide_eq_true h];simp;omega
  ·rw [decide_eq_false h];simp;omega) with ⟨h1,e⟩ | ⟨h1,h2,e⟩ | ⟨h1,h2,h3,e⟩ | ⟨h1,h2,h3,h4,e⟩ | ⟨h1,h2,h3,h4,e⟩
 all_goals
  rw [e]
  clear e
  go_enter Tryz.func167,Tryz.ntmps167
  go_wp2
  go_ret
  refine ⟨?_,rfl⟩
  first | rfl | (simp;omega)
theorem mcheck_any (r c:Int) (ao:Option Addr) (n cap:Nat) (w:World) (hn:n≤35184372088830) :
  Calls Tryz.prog 117 #[.agg #[.int .i64 r,.int .i64 c,.slice ao n cap]] w fun e w'=>e = .returned (.int .i64 (if okB r c n = true then 0 else 1))∧Below w.heap.size w w':=by
 have HC:=hide (fun w'=>inRange_any r c w')
 have hb0:=hide (below_alloc9 w (.cells #[.int .i64 r,.int .i64 c,.slice ao n cap] 24))
 by_cases hr:0≤r∧r≤6∧0≤c∧c≤6
 ·have e1:rgB r c = true:=decide_eq_true hr
  rw [e1] at HC
  have hm:∃ m:Nat,r * c = (m:Int)∧m≤36:=by
   obtain ⟨a,rfl⟩:=Int.eq_ofNat_of_zero_le hr.1
   obtain ⟨b,rfl⟩:=Int.eq_ofNat_of_zero_le hr.2.2.1
   refine ⟨a * b,by simp,?_⟩
   have:a * b≤6 * 6:=Nat.mul_le_mul (by omega) (by omega)
   omega
  obtain ⟨m,hm,h36⟩:=hm
  by_cases hq:n = m
  ·have e2:okB r c n = true:=decide_eq_true ⟨hr,by rw [hm,hq]⟩
   rw [if_pos e2]
   subst hq
   clear e1 e2 hr
   go_enter Tryz.func117,Tryz.ntmps117
   go_wp2_with fail
   refine (uH HC _).mono ?_
   rintro e w1 ⟨rfl,rfl⟩
   clear HC
   go_wp2
   go_ret
   exact ⟨rfl,uH hb0⟩
  ·have e2:okB r c n = false:=decide_eq_false (fun h=>hq (by have:=h.2;omega))
   rw [if_neg (by rw [e2];decide)]
   have hq2:decide ((n:Int) = (m:Int)) = false:=decide_eq_false (by omega)
   clear e1 e2 hr
   go_enter Tryz.func117,Tryz.ntmps117
   go_wp2_with fail
   refine (uH HC _).mono ?_
   rintro e w1 ⟨rfl,rfl⟩
   clear HC
   go_wp2
   go_ret
   exact ⟨rfl,uH hb0⟩
 ·have e1:rgB r c = false:=decide_eq_false hr
  rw [e1] at HC
  have e2:okB r c n = false:=decide_eq_false (fun h=>hr h.1)
  rw [if_neg (by rw [e2];decide)]
  clear e1 e2 hr
  go_enter Tryz.func117,Tryz.ntmps117
  go_wp2_with fail
  refine (uH HC _).mono ?_
  rintro e w1 ⟨rfl,rfl⟩
  clear HC
  go_wp2
  go_ret
  exact ⟨rfl,uH hb0⟩
end Go.Proofs.YtcbcmlaogehimaaGreatDoor
namespace Go.Proofs.YtcbcmlaogehimaaGreatDoor
open Go.RowKit
def mxL (S:List Nat):List Int:=S.map (fun x:Nat=>(x:Int))
theorem mxL_len (S:List Nat):(mxL S).length = S.length:=by simp [mxL]
theorem mxL_at (S:List Nat) (j:Nat):atB (mxL S) j = S.getD j 0:=by
 unfold mxL atB
 rw [List.getElem?_map,List.getD_eq_getElem?_getD]
 cases S[j]? <;> simp
theorem mxL_natL {w:World} {ao:Option Addr} {c:Nat} {I:List Int} (h:BitsAt w ao c I):mxL (natL I) = I:=natL_back h
theorem BitsAt.nat {w:World} {ao:Option Addr} {c:Nat} {S:List Nat} (h:BitsAt w ao c (mxL S)):∀ x ∈ S,x < 18446744073709551616:=by
 intro x hx
 have:=h.2.1 (x:Int) (List.mem_map.2 ⟨x,hx,rfl⟩)
 omega
theorem BitsAt.none (w:World) (c:Nat):BitsAt w .none c (mxL []):=⟨by simp [mxL],by simp [mxL],.inl rfl⟩
theorem BitsAt.nilAt (w:World) (ao:Option Addr) (c:Nat):BitsAt w ao c (mxL []):=⟨by simp [mxL],by simp [mxL],.inl rfl⟩
theorem BitsAt.putM {w:World} {ao:Option Addr} {c:Nat} {I:List Int} (h:BitsAt w ao c I) {g:Nat} {x y:Int} {a:Option Addr} {n d:Nat} (hx:BoxM w g (.int .i64 x) (.int .i64 y) (.slice a n d)) (u u' u'':Value) :
  BitsAt (((w.setCell ⟨g,0,.none⟩ u).setCell ⟨g,1,.none⟩ u').setCell ⟨g,2,.none⟩ u'') ao c I:=by
 refine ⟨h.1,h.2.1,?_⟩
 rcases h.2.2 with h0 | ⟨b,off,h1,h2,h3⟩
 ·exact .inl h0
 ·by_cases he:I = []
  ·exact .inl he
  ·have hp:0 < I.length:=List.length_pos_iff.2 he
   have hne:b ≠ g:=by
    rintro rfl
    have h4:=h3 0 hp
    rw [cell_of_row w b (off+0) _ _ _ hx] at h4
    rcases (show off = 0 ∨ off = 1 ∨ off = 2 ∨ 3≤off by omega) with e | e | e | e
    ·subst e;simp at h4
    ·subst e;simp at h4
    ·subst e;simp at h4
    ·rw [Array.getElem?_eq_none (by simp;omega)] at h4;simp at h4
   refine .inr ⟨b,off,h1,by simpa [World.setCell] using h2,fun i hi=>?_⟩
   rw [cell_setCell_other _ _ _ _ (by simpa using hne),cell_setCell_other _ _ _ _ (by simpa using hne),cell_setCell_other _ _ _ _ (by simpa using hne)]
   exact h3 i hi
def Mx (w:World) (ao:Option Addr) (cap r c:Nat) (S:List Nat):Prop:=BitsAt w ao cap (mxL S)∧S.length = r * c∧r≤6∧c≤6
theorem Mx.below {w w':World} {ao:Option Addr} {cap r c:Nat} {S:List Nat} (h:Mx w ao cap r c S) (hb:Below w.heap.size w w'):Mx w' ao cap r c S:=⟨h.1.below hb,h.2⟩
theorem Mx.small {w:World} {ao:Option Addr} {cap r c:Nat} {S:List Nat} (h:Mx w ao cap r c S):S.length≤36:=by
 rw [h.2.1]
 exact Nat.mul_le_mul h.2.2.1 h.2.2.2
theorem Mx.el_lt {w:World} {ao:Option Addr} {cap r c:Nat} {S:List Nat} (h:Mx w ao cap r c S) (i k:Nat):elM c S i k < 18446744073709551616:=by
 unfold elM
 rw [List.getD_eq_getElem?_getD]
 by_cases g:i * c+k < S.length
 ·rw [List.getElem?_eq_getElem g];exact h.1.nat _ (List.getElem_mem g)
 ·rw [List.getElem?_eq_none (by omega)];decide
theorem Mx.cells {w:World} {ao:Option Addr} {cap r c:Nat} {S:List Nat} (h:Mx w ao cap r c S) {i k:Nat} (hi:i < r) (hk:k < c):∃ b off,ao = some ⟨b,off,.none⟩∧b < w.heap.size∧w.cell? ⟨b,off+(i * c+k),.none⟩ = some (.int .u64 (elM c S i k:Nat))∧i * c+k < S.length:=by
 have hp:i * c+k < S.length:=by rw [h.2.1];exact place_lt hi hk
 obtain ⟨b,off,e1,e2,e3⟩:=h.1.ne (by rw [mxL_len];omega)
 refine ⟨b,off,e1,e2,?_,hp⟩
 rw [e3 _ (by rw [mxL_len];exact hp),mxL_at]
 rfl
theorem mx_ok {w:World} {ao:Option Addr} {cap r c:Nat} {S:List Nat} (h:Mx w ao cap r c S):okB (r:Int) (c:Int) S.length = true:=by
 refine decide_eq_true ⟨⟨by omega,?_,by omega,?_⟩,?_⟩
 ·have:=h.2.2.1;omega
 ·have:=h.2.2.2;omega
 ·rw [h.2.1];simp
theorem Mx.of {w:World} {ao:Option Addr} {cap:Nat} {I:List Int} {r c:Int} (h:BitsAt w ao cap I) (ho:okB r c I.length = true):∃ p q:Nat,r = (p:Int)∧c = (q:Int)∧Mx w ao cap p q (natL I)∧mxL (natL I) = I:=by
 obtain ⟨⟨h1,h2,h3,h4⟩,h5⟩:=of_decide_eq_true ho
 obtain ⟨p,rfl⟩:=Int.eq_ofNat_of_zero_le h1
 obtain ⟨q,rfl⟩:=Int.eq_ofNat_of_zero_le h3
 refine ⟨p,q,rfl,rfl,⟨by rw [mxL_natL h];exact h,?_,by omega,by omega⟩,mxL_natL h⟩
 rw [natL_len]
 have:((p * q:Nat):Int) = (p:Int) * (q:Int):=by simp
 omega
def NewM (H:Nat) (w':World) (r c:Nat) (S:List Nat) (v:Value):Prop:=∃ ao cap,v = .agg #[.int .i64 r,.int .i64 c,.slice ao S.length cap]∧NewB H ao (mxL S)∧BitsAt w' ao cap (mxL S)
theorem NewM.zero (H:Nat) (w:World):NewM H w 0 0 [] (.agg #[.int .i64 0,.int .i64 0,.slice .none 0 0]):=⟨.none,0,rfl,.inl rfl,BitsAt.none w 0⟩
theorem NewM.least {H H':Nat} {w:World} {r c:Nat} {S:List Nat} {v:Value} (h:NewM H w r c S v) (hh:H'≤H):NewM H' w r c S v:=by
 obtain ⟨ao,cap,h1,h2,h3⟩:=h
 refine ⟨ao,cap,h1,?_,h3⟩
 rcases h2 with e | ⟨b,off,e1,e2⟩
 ·exact .inl e
 ·exact .inr ⟨b,off,e1,Nat.le_trans hh e2⟩
end Go.Proofs.YtcbcmlaogehimaaGreatDoor
