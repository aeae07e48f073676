/- Part 24 of the texts. -/
import Derived.Test.YtdhmglmccafbnaaGreatDoorPartu23
import Derived.Test.YtdhmglmccafbnaaGreatDoorPartu22
import Derived.Test.YtdhmglmccafbnaaGreatDoorPartu20
import Derived.Test.YtdhmglmccafbnaaGreatDoorPartu01
import Derived.Maps.AppendAt
set_option maxHeartbeats 2000000
set_option maxRecDepth 20000
namespace Go.Proofs.YtdhmglmccafbnaaGreatDoor
open Go.RowKit
def noLimb:Value→Bool
 | .int .u32 _=>false
 | _=>true
def Clear (w:World) (v:Value):Prop:=∀ g,v.ownBlock = some g→∃ cur e,w.heap[g]? = some (.cells cur e (0,0))∧∀ u ∈ cur.toList,noLimb u = true
theorem Clear.below {w w':World} {v:Value} (h:Clear w v) (hb:Below w.heap.size w w'):Clear w' v:=by
 intro g hg
 obtain ⟨cur,e,h1,h2⟩:=h g hg
 exact ⟨cur,e,(hb.block g (Array.getElem?_eq_some_iff.1 h1).1).trans h1,h2⟩
theorem Clear.limbs {w:World} {v:Value} (h:Clear w v) {ao:Option Addr} {cap:Nat} {L:List Nat} (hL:LimbsAt w ao cap L):L = [] ∨ ∃ b off,ao = some ⟨b,off,none⟩∧b < w.heap.size∧some b ≠ v.ownBlock∧∀ i,i < L.length→w.cell? ⟨b,off+i,none⟩ = some (.int .u32 ((L[i]?.getD 0:Nat):Int)):=by
 rcases hL.2.2 with e | ⟨b,off,h1,h2,h3⟩
 ·exact .inl e
 ·by_cases he:L = []
  ·exact .inl he
  ·refine .inr ⟨b,off,h1,h2,fun hb=>?_,h3⟩
   obtain ⟨cur,e,g1,g2⟩:=h b hb.symm
   have hp:0 < L.length:=List.length_pos_iff.2 he
   have h4:=h3 0 hp
   rw [cell_of_row w b (off+0) _ _ _ g1] at h4
   have hm:=Array.mem_of_getElem? h4
   have:=g2 _ (Array.mem_toList_iff.2 hm)
   cases this
theorem LimbsAt.grownClear {w w':World} {v:Value} {ao:Option Addr} {cap:Nat} {L:List Nat} (hL:LimbsAt w ao cap L) (h:Clear w v) (hg:w.grownBy w' v.ownBlock):LimbsAt w' ao cap L:=by
 refine ⟨hL.1,hL.2.1,?_⟩
 rcases h.limbs hL with e | ⟨b,off,h1,h2,h3,h4⟩
 ·exact .inl e
 ·refine .inr ⟨b,off,h1,Nat.lt_of_lt_of_le h2 hg.size,fun i hi=>?_⟩
  rw [World.cell?_of_block (a:=⟨b,off+i,none⟩) (hg.block b h2 h3)]
  exact h4 i hi
theorem IsNum.grownClear {B:Nat} {w w':World} {v u:Value} {z:Int} (hu:IsNum B w u z) (h:Clear w v) (hg:w.grownBy w' v.ownBlock):IsNum B w' u z:=by
 obtain ⟨neg,ao,cap,L,h1,h2,h3⟩:=hu
 exact ⟨neg,ao,cap,L,h1,h2.grownClear h hg,h3⟩
theorem IsLv.grownClear {w w':World} {v u:Value} {lo z:Int} (hu:IsLv w u lo z) (h:Clear w v) (hg:w.grownBy w' v.ownBlock):IsLv w' u lo z:=by
 obtain ⟨neg,ao,cap,L,h1,h2⟩:=hu
 exact ⟨neg,ao,cap,L,h1,h2.grownClear h hg⟩
theorem noLimb_zeroCells (z:Array Value) (n:Nat) (h:∀ u ∈ z.toList,noLimb u = true):∀ u ∈ (Builtin.zeroCells z n).toList,noLimb u = true:=by
 intro u hu
 unfold Builtin.zeroCells at hu
 rw [Array.mem_toList_iff,Array.mem_map] at hu
 obtain ⟨i,hi,rfl⟩:=hu
 have hi':i < n * z.size:=by simpa using hi
 have hz:0 < z.size:=by
  rcases Nat.eq_zero_or_pos z.size with e | e
  ·rw [e] at hi';simp at hi'
  ·exact e
 have hlt:i % z.size < z.size:=Nat.mod_lt _ hz
 rw [getElem!_pos z (i % z.size) hlt]
 exact h _ (Array.mem_toList_iff.2 (Array.getElem_mem hlt))
theorem run_append_clear {P:Program} (w:World) (base:Nat) (t ty e:TypeId) (i:TypeInfo) (z:Value) (size bytes:Nat) (ht:P.underlying t = some (.slice e)) (hi:P.info? e = some i) (hz:i.zero = some z)
  (hsize:i.size = size) (hby:i.bytes = bytes) (hzs:z.cells.size = size) (hsz:0 < size)
  (v:Value) (n:Nat) (xs:List Value) (hown:w.ownsRow base e size v n xs)
  (a:Addr) (m c:Nat) (news:List Value) (hl:news.length = m * size) (hnews:∀ j u,news[j]? = some u→w.cell? (a.add j) = some u) (h1:∀ u ∈ news,u.oneCell' = true)
  (h63:n+m≤maxLen) (hbytes:(n+m) * bytes≤140737488355328) (hbase:base≤w.heap.size) (hm:0 < m)
  (hcl:Clear w v) (hzc:∀ u ∈ z.cells.toList,noLimb u = true) (hnc:∀ u ∈ news,noLimb u = true) :
  ∃ v' w',(Builtin.append_ #[t,t] ty #[v,.slice (some a) m c]).run P w = .ok v' w'∧w'.ownsRow base e size v' (n+m) (xs ++ news)∧w.grownBy w' v.ownBlock ∧
   (v'.ownBlock = v.ownBlock ∨ v'.ownBlock = some w.heap.size)∧Clear w' v':=by
 obtain ⟨v',w',e1,e2,e3,_,e5⟩:=run_append_own_at (P:=P) w base t ty e i z size bytes ht hi hz hsize hby hzs hsz v n xs hown a m c news hl hnews h1 h63 hbytes hbase
 refine ⟨v',w',e1,e2,e3,e5,?_⟩
 subst hsize
 subst hby
 have hsmall:n+m≤9223372036854775807:=by simp only [maxLen] at h63;omega
 have hzz:=fun k=>noLimb_zeroCells z.cells k hzc
 have hx:∀ u ∈ xs,noLimb u = true:=by
  rcases hown.2 with ⟨rfl,rfl⟩ | ⟨g,cap,cur,rfl,_,hg,_,_,_,htake⟩
  ·intro u hu
   have:xs = []:=List.eq_nil_of_length_eq_zero (by simpa using hown.1)
   rw [this] at hu
   cases hu
  ·intro u hu
   obtain ⟨cur',e',g1,g2⟩:=hcl g rfl
   rw [hg] at g1
   cases g1
   rw [← htake] at hu
   exact g2 u (List.mem_of_mem_take hu)
 rcases hown.2 with ⟨rfl,rfl⟩ | ⟨g,cap,cur,rfl,hbg,hg,hnc',hcm,hcs,htake⟩
 ·have hr:=run_append_nil (P:=P) w t ty e i z ht hi hz a m c news hl hnews hm (by omega) (by have hb:=hbytes;simp only [Nat.zero_add] at hb;omega)
  rw [e1] at hr
  cases hr
  intro g hg
  cases hg
  refine ⟨_,e,heap_alloc_new w.drew _,fun u hu=>?_⟩
  simp only [Array.toList_append,List.mem_append] at hu
  rcases hu with hu | hu
  ·exact hnc u (by simpa using hu)
  ·exact hzz _ u hu
 ·by_cases hroom:n+m≤cap
  ·have hfit:n * i.size+news.length≤cur.size:=by rw [hl,hcs,← Nat.add_mul];exact Nat.mul_le_mul_right _ hroom
   have hr:=run_append_room (P:=P) w t ty e i ht hi g n cap cur hg a m c news hl hnews h1 hroom hfit
   rw [e1] at hr
   cases hr
   intro k hk
   cases hk
   refine ⟨_,e,setRow_heap w g cur _ e _ hg,fun u hu=>?_⟩
   obtain ⟨cur',e',g1,g2⟩:=hcl g rfl
   rw [hg] at g1
   cases g1
   simp only [List.mem_append] at hu
   rcases hu with (hu | hu) | hu
   ·exact g2 u (List.mem_of_mem_take hu)
   ·exact hnc u hu
   ·exact g2 u (List.mem_of_mem_drop hu)
  ·have holds:∀ j u,xs[j]? = some u→w.cell? ((⟨g,0,none⟩:Addr).add j) = some u:=hown.cells (g:=g) rfl
   have hr:=run_append_grow (P:=P) w t ty e i z ht hi hz ⟨g,0,none⟩ n cap xs hown.1 holds a m c news hl hnews (by omega) (by omega) (growslice_fits (by omega) hbytes)
   rw [e1] at hr
   cases hr
   intro k hk
   cases hk
   refine ⟨_,e,heap_alloc_new w.drew _,fun u hu=>?_⟩
   simp only [Array.toList_append,List.mem_append] at hu
   rcases hu with (hu | hu) | hu
   ·exact hx u (by simpa using hu)
   ·exact hnc u (by simpa using hu)
   ·exact hzz _ u hu
end Go.Proofs.YtdhmglmccafbnaaGreatDoor
namespace Go.Proofs.YtdhmglmccafbnaaGreatDoor
open Go.RowKit
def mkM (r c:Nat) (f:Nat→Nat→Nat):List Nat:=(List.range (r * c)).map (fun p=>f (p / c) (p % c))
theorem place_lt {r c i k:Nat} (hi:i < r) (hk:k < c):i * c+k < r * c:=by
 have h1:(i+1) * c≤r * c:=Nat.mul_le_mul_right c hi
 rw [Nat.add_mul,Nat.one_mul] at h1
 omega
theorem place_div {c i k:Nat} (hk:k < c):(i * c+k) / c = i:=by
 rw [Nat.add_comm,Nat.add_mul_div_right _ _ (by omega),Nat.div_eq_of_lt hk,Nat.zero_add]
theorem place_mod {c i k:Nat} (hk:k < c):(i * c+k) % c = k:=by
 rw [Nat.add_comm,Nat.add_mul_mod_self_right,Nat.mod_eq_of_lt hk]
theorem place_in {r c p:Nat} (h:p < r * c):p / c < r∧p % c < c∧p / c * c+p % c = p:=by
 have c0:0 < c:=by
  rcases Nat.eq_zero_or_pos c with e | e
  ·subst e;omega
  ·exact e
 refine ⟨(Nat.div_lt_iff_lt_mul c0).2 h,Nat.mod_lt _ c0,?_⟩
 have:=Nat.div_add_mod p c
 rw [Nat.mul_comm] at this
 exact this
theorem place_inj {c i k x y:Nat} (hk:k < c) (hy:y < c):i * c+k = x * c+y ↔ i = x∧k = y:=by
 constructor
 ·intro h
  have h1:=place_div (i:=i) hk
  have h2:=place_mod (i:=i) hk
  rw [h,place_div hy] at h1
  rw [h,place_mod hy] at h2
  exact ⟨h1.symm,h2.symm⟩
 ·rintro ⟨rfl,rfl⟩;rfl
theorem mkM_len (r c:Nat) (f:Nat→Nat→Nat):(mkM r c f).length = r * c:=by simp [mkM]
theorem mkM_get (r c:Nat) (f:Nat→Nat→Nat) (p:Nat) (h:p < r * c):(mkM r c f)[p]? = some (f (p / c) (p % c)):=by simp [mkM,h]
theorem mkM_at (r c:Nat) (f:Nat→Nat→Nat) {i k:Nat} (hi:i < r) (hk:k < c):(mkM r c f)[i * c+k]? = some (f i k):=by
 rw [mkM_get _ _ _ _ (place_lt hi hk),place_div hk,place_mod hk]
theorem mkM_atD (r c:Nat) (f:Nat→Nat→Nat) {i k:Nat} (hi:i < r) (hk:k < c):(mkM r c f).getD (i * c+k) 0 = f i k:=by
 rw [List.getD_eq_getElem?_getD,mkM_at r c f hi hk];rfl
theorem mkM_congr {r c:Nat} {f g:Nat→Nat→Nat} (h:∀ i k,i < r→k < c→f i k = g i k):mkM r c f = mkM r c g:=by
 unfold mkM
 refine List.map_congr_left (fun p hp=>?_)
 obtain ⟨h1,h2,_⟩:=place_in (List.mem_range.1 hp)
 exact h _ _ h1 h2
theorem mkM_of (r c:Nat) (S:List Nat) (h:S.length = r * c):mkM r c (fun i k=>S.getD (i * c+k) 0) = S:=by
 refine List.ext_getElem? (fun p=>?_)
 rcases Nat.lt_or_ge p (r * c) with g | g
 ·rw [mkM_get _ _ _ _ g,(place_in g).2.2,List.getD_eq_getElem?_getD,List.getElem?_eq_getElem (by omega)];rfl
 ·rw [List.getElem?_eq_none (by rw [mkM_len];exact g),List.getElem?_eq_none (by omega)]
theorem mkM_set (r c:Nat) (g:Nat→Nat→Nat) (v:Nat) {i k:Nat} (_:i < r) (hk:k < c):(mkM r c g).set (i * c+k) v = mkM r c (fun x y=>if x = i∧y = k then v else g x y):=by
 refine List.ext_getElem? (fun p=>?_)
 rcases Nat.lt_or_ge p (r * c) with h | h
 ·obtain ⟨h1,h2,h3⟩:=place_in h
  rw [mkM_get _ _ _ _ h,List.getElem?_set]
  have e:(i * c+k = p) ↔ (p / c = i∧p % c = k):=by
   rw [← h3,place_inj hk h2,h3]
   exact ⟨fun ⟨a,b⟩=>⟨a.symm,b.symm⟩,fun ⟨a,b⟩=>⟨a.symm,b.symm⟩⟩
  by_cases q:i * c+k = p
  ·rw [if_pos q,if_pos (by rw [mkM_len];omega),if_pos (e.1 q)]
  ·rw [if_neg q,if_neg (fun z=>q (e.2 z)),mkM_get _ _ _ _ h]
 ·rw [List.getElem?_eq_none (by simpa [mkM_len] using h),List.getElem?_eq_none (by rw [mkM_len];exact h)]
def elM (c:Nat) (S:List Nat) (i k:Nat):Nat:=S.getD (i * c+k) 0
def tuM (r c:Nat) (S:List Nat):List Nat:=mkM c r (fun k i=>elM c S i k)
def paM (c:Nat) (S:List Nat) (i k p q:Nat):List Nat:=mkM p q (fun x y=>elM c S (i+x) (k+y))
theorem el_mk (r c:Nat) (f:Nat→Nat→Nat) {i k:Nat} (hi:i < r) (hk:k < c):elM c (mkM r c f) i k = f i k:=mkM_atD r c f hi hk
def dtf:Nat→(Nat→Nat)→(Nat→Nat)→Nat
 | 0,_,_=>0
 | n+1,x,y=>aV (dtf n x y) (mV (x n) (y n))
theorem dtK_dtf (I J:List Int) (n:Nat):dtK I J n = dtf n (atB I) (atB J):=by
 induction n with
 | zero=>rfl
 | succ n ih=>show aV (dtK I J n) _ = aV (dtf n _ _) _;rw [ih]
theorem dtf_congr {x y x' y':Nat→Nat} (n:Nat) (h:∀ i,i < n→x i = x' i) (k:∀ i,i < n→y i = y' i):dtf n x y = dtf n x' y':=by
 induction n with
 | zero=>rfl
 | succ n ih=>show aV (dtf n x y) _ = aV (dtf n x' y') _;rw [ih (fun i hi=>h i (by omega)) (fun i hi=>k i (by omega)),h n (by omega),k n (by omega)]
theorem dtf_lt (x y:Nat→Nat) (n:Nat):dtf n x y < 18446744073709551616:=by
 induction n with
 | zero=>show 0 < 18446744073709551616;omega
 | succ n ih=>exact aV_lt _ _ ih (mV_lt _ _)
def muM (r n c:Nat) (A B:List Nat):List Nat:=mkM r c (fun i k=>dtf n (fun j=>elM n A i j) (fun j=>elM c B j k))
def eyM (n:Nat):List Nat:=mkM n n (fun i k=>if k = i then 4607182418800017408 else 0)
end Go.Proofs.YtdhmglmccafbnaaGreatDoor
namespace Go.Proofs.YtdhmglmccafbnaaGreatDoor
open Go.RowKit
def smI (f:Nat→Int):Nat→Int
 | 0=>0
 | n+1=>smI f n+f n
theorem smI_congr {f g:Nat→Int} (n:Nat) (h:∀ i,i < n→f i = g i):smI f n = smI g n:=by
 induction n with
 | zero=>rfl
 | succ n ih=>unfold smI;rw [ih (fun i hi=>h i (by omega)),h n (by omega)]
theorem smI_add (f g:Nat→Int) (n:Nat):smI (fun i=>f i+g i) n = smI f n+smI g n:=by
 induction n with
 | zero=>rfl
 | succ n ih=>unfold smI;rw [ih];omega
theorem smI_noughts (n:Nat):smI (fun _=>0) n = 0:=by
 induction n with
 | zero=>rfl
 | succ n ih=>unfold smI;rw [ih];rfl
theorem smI_swap (f:Nat→Nat→Int) (r c:Nat):smI (fun i=>smI (f i) c) r = smI (fun k=>smI (fun i=>f i k) r) c:=by
 induction r with
 | zero =>
  rw [smI_congr (f:=fun k=>smI (fun i=>f i k) 0) (g:=fun _=>0) c (fun _ _=>rfl),smI_noughts]
  rfl
 | succ r ih =>
  have e:smI (fun i=>smI (f i) c) (r+1) = smI (fun i=>smI (f i) c) r+smI (f r) c:=rfl
  rw [e,ih,← smI_add]
  rfl
theorem smI_app (f:Nat→Int) (m n:Nat):smI f (m+n) = smI f m+smI (fun i=>f (m+i)) n:=by
 induction n with
 | zero=>show smI f m = smI f m+0;omega
 | succ n ih =>
  have e1:smI f (m+(n+1)) = smI f (m+n)+f (m+n):=rfl
  have e2:smI (fun i=>f (m+i)) (n+1) = smI (fun i=>f (m+i)) n+f (m+n):=rfl
  rw [e1,e2,ih];omega
theorem smI_grid (f:Nat→Int) (r c:Nat):smI f (r * c) = smI (fun i=>smI (fun k=>f (i * c+k)) c) r:=by
 induction r with
 | zero=>rw [Nat.zero_mul];rfl
 | succ r ih =>
  have e:smI (fun i=>smI (fun k=>f (i * c+k)) c) (r+1) = smI (fun i=>smI (fun k=>f (i * c+k)) c) r+smI (fun k=>f (r * c+k)) c:=rfl
  rw [e,← ih,Nat.succ_mul,smI_app]
theorem smI_abs {f:Nat→Int} {B:Nat} (n:Nat) (h:∀ i,i < n→(f i).natAbs≤B):(smI f n).natAbs≤n * B:=by
 induction n with
 | zero=>rw [Nat.zero_mul];exact Nat.le_refl 0
 | succ n ih =>
  have a:=ih (fun i hi=>h i (by omega))
  have b:=h n (by omega)
  rw [Nat.succ_mul]
  unfold smI
  have:=Int.natAbs_add_le (smI f n) (f n)
  omega
def sqZ (S:List Nat):Int:=smI (fun p=>fZ (S.getD p 0) * fZ (S.getD p 0)) S.length
theorem sqZ_grid (r c:Nat) (S:List Nat) (h:S.length = r * c):sqZ S = smI (fun i=>smI (fun k=>fZ (elM c S i k) * fZ (elM c S i k)) c) r:=by
 unfold sqZ
 rw [h,smI_grid]
 rfl
def dtZ (n:Nat) (x y:Nat→Nat):Int:=smI (fun j=>fZ (x j) * fZ (y j)) n
def rsZ (n c:Nat) (A B C:List Nat) (i k:Nat):Int:=fZ (elM c A i k) * 2 ^ 1074 - dtZ n (fun j=>elM n B i j) (fun j=>elM c C j k)
def rsQ (r n c:Nat) (A B C:List Nat):Int:=smI (fun i=>smI (fun k=>rsZ n c A B C i k * rsZ n c A B C i k) c) r
def grZ (r n c:Nat) (A X B:List Nat) (j k:Nat):Int:=smI (fun i=>fZ (elM n A i j) * (dtZ n (fun l=>elM n A i l) (fun l=>elM c X l k) - fZ (elM c B i k) * 2 ^ 1074)) r
def grQ (r n c:Nat) (A X B:List Nat):Int:=smI (fun k=>smI (fun j=>grZ r n c A X B j k * grZ r n c A X B j k) n) c
end Go.Proofs.YtdhmglmccafbnaaGreatDoor
namespace Go.Proofs.YtdhmglmccafbnaaGreatDoor
open Go.RowKit
def rnI (f:Nat→Nat→Int) (c i k:Nat):Int:=smI (fun i=>smI (f i) c) i+smI (f i) k
theorem rnI_step (f:Nat→Nat→Int) (c i k:Nat):rnI f c i (k+1) = rnI f c i k+f i k:=by
 unfold rnI
 have e:smI (f i) (k+1) = smI (f i) k+f i k:=rfl
 rw [e,Int.add_assoc]
theorem rnI_row (f:Nat→Nat→Int) (c i:Nat):rnI f c i c = rnI f c (i+1) 0:=by
 unfold rnI
 have e:smI (fun i=>smI (f i) c) (i+1) = smI (fun i=>smI (f i) c) i+smI (f i) c:=rfl
 have e0:smI (f (i+1)) 0 = 0:=rfl
 rw [e,e0,Int.add_zero]
theorem rnI_all (f:Nat→Nat→Int) (c r:Nat):rnI f c r 0 = smI (fun i=>smI (f i) c) r:=by
 unfold rnI
 have e0:smI (f r) 0 = 0:=rfl
 rw [e0,Int.add_zero]
theorem smI_lt {f:Nat→Int} {W:Nat} (n:Nat) (hn:n≤8) (h:∀ i,i < n→(f i).natAbs < 2 ^ W):(smI f n).natAbs < 2 ^ (W+3):=by
 have a:=smI_abs (f:=f) (B:=2 ^ W - 1) n (fun i hi=>Nat.le_sub_one_of_lt (h i hi))
 have p:=Nat.two_pow_pos W
 have e:(2:Nat) ^ (W+3) = 8 * 2 ^ W:=by rw [Nat.pow_add];omega
 rw [e]
 generalize (2:Nat) ^ W = P at *
 have:n * (P - 1)≤8 * (P - 1):=Nat.mul_le_mul_right _ hn
 omega
theorem rnI_lt {f:Nat→Nat→Int} {W:Nat} (r c i k:Nat) (hi:i≤r) (hr:r≤8) (hk:k≤c) (hc:c≤8) (h:∀ i k,k < c→(f i k).natAbs < 2 ^ W):(rnI f c i k).natAbs < 2 ^ (W+7):=by
 unfold rnI
 have a:(smI (fun i=>smI (f i) c) i).natAbs < 2 ^ (W+3+3):=smI_lt i (by omega) (fun j _=>smI_lt c hc (fun k hk=>h j k hk))
 have b:(smI (f i) k).natAbs < 2 ^ (W+3):=smI_lt k (by omega) (fun l hl=>h i l (by omega))
 have e6:(2:Nat) ^ (W+3+3) = 64 * 2 ^ W:=by rw [Nat.pow_add,Nat.pow_add];omega
 have e3:(2:Nat) ^ (W+3) = 8 * 2 ^ W:=by rw [Nat.pow_add];omega
 have e7:(2:Nat) ^ (W+7) = 128 * 2 ^ W:=by rw [Nat.pow_add];omega
 rw [e6] at a
 rw [e3] at b
 rw [e7]
 have:=Int.natAbs_add_le (smI (fun i=>smI (f i) c) i) (smI (f i) k)
 generalize (2:Nat) ^ W = P at *
 omega
theorem el_fin (c:Nat) (S:List Nat) (i k:Nat) (h:∀ x ∈ S,fFin x = true):fFin (elM c S i k) = true:=by
 unfold elM
 rw [List.getD_eq_getElem?_getD]
 by_cases g:i * c+k < S.length
 ·rw [List.getElem?_eq_getElem g]
  exact h _ (List.getElem_mem g)
 ·rw [List.getElem?_eq_none (by omega)]
  decide +kernel
theorem mul_ltV {j k V:Nat} {x y:Int} (hV:j+k = V) (hx:x.natAbs < 2 ^ j) (hy:y.natAbs < 2 ^ k):(x * y).natAbs < 2 ^ V:=by
 subst hV
 rw [Int.natAbs_mul]
 exact mul_lt_pow hx hy
theorem smI_ltV {f:Nat→Int} {W V:Nat} (hV:W+3 = V) (n:Nat) (hn:n≤8) (h:∀ i,i < n→(f i).natAbs < 2 ^ W):(smI f n).natAbs < 2 ^ V:=by
 subst hV
 exact smI_lt n hn h
theorem sub_ltV {x y:Int} {W V:Nat} (hV:W+1 = V) (hx:x.natAbs < 2 ^ W) (hy:y.natAbs < 2 ^ W):(x - y).natAbs < 2 ^ V:=by
 subst hV
 rw [Nat.pow_succ]
 omega
theorem rnI_ltV {f:Nat→Nat→Int} {W V:Nat} (hV:W+7 = V) (r c i k:Nat) (hi:i≤r) (hr:r≤8) (hk:k≤c) (hc:c≤8) (h:∀ i k,k < c→(f i k).natAbs < 2 ^ W):(rnI f c i k).natAbs < 2 ^ V:=by
 subst hV
 exact rnI_lt r c i k hi hr hk hc h
theorem up_ltV {x:Int} {j k V:Nat} (hV:j+k≤V) (hx:x.natAbs < 2 ^ j):(x * 2 ^ k).natAbs < 2 ^ V:=by
 rw [Int.natAbs_mul,Int.natAbs_pow]
 refine Nat.lt_of_lt_of_le ((Nat.mul_lt_mul_right (Nat.two_pow_pos k)).2 hx) ?_
 rw [← Nat.pow_add]
 exact Nat.pow_le_pow_right (by decide) hV
theorem dtZ_lt (n:Nat) (hn:n≤8) (x y:Nat→Nat) (hx:∀ j,j < n→fFin (x j) = true) (hy:∀ j,j < n→fFin (y j) = true):(dtZ n x y).natAbs < 2 ^ 4199 :=
 smI_ltV (W:=4196) (V:=4199) (by decide) n hn (fun j hj=>mul_ltV (j:=2098) (k:=2098) (V:=4196) (by decide) (fZ_lt _ (hx j hj)) (fZ_lt _ (hy j hj)))
theorem dtZ_lvl (n:Nat) (hn:n≤8) (x y:Nat→Nat) (hx:∀ j,j < n→fFin (x j) = true) (hy:∀ j,j < n→fFin (y j) = true):Lvl (-2148) 4199 (dtZ n x y) :=
 ⟨dtZ_lt n hn x y hx hy,by decide,by decide,by decide⟩
theorem rsZ_lt (n c:Nat) (A B C:List Nat) (i k:Nat) (hn:n≤8) (fA:∀ x ∈ A,fFin x = true) (fB:∀ x ∈ B,fFin x = true) (fC:∀ x ∈ C,fFin x = true):(rsZ n c A B C i k).natAbs < 2 ^ 4200 :=
 sub_ltV (W:=4199) (V:=4200) (by decide) (up_ltV (j:=2098) (k:=1074) (V:=4199) (by decide) (fZ_lt _ (el_fin c A i k fA))) (dtZ_lt n hn _ _ (fun j _=>el_fin n B i j fB) (fun j _=>el_fin c C j k fC))
theorem lack_lt (n c:Nat) (A X B:List Nat) (i k:Nat) (hn:n≤8) (fA:∀ x ∈ A,fFin x = true) (fX:∀ x ∈ X,fFin x = true) (fB:∀ x ∈ B,fFin x = true):(dtZ n (fun l=>elM n A i l) (fun l=>elM c X l k) - fZ (elM c B i k) * 2 ^ 1074).natAbs < 2 ^ 4200 :=
 sub_ltV (W:=4199) (V:=4200) (by decide) (dtZ_lt n hn _ _ (fun j _=>el_fin n A i j fA) (fun j _=>el_fin c X j k fX)) (up_ltV (j:=2098) (k:=1074) (V:=4199) (by decide) (fZ_lt _ (el_fin c B i k fB)))
theorem grZ_lt (r n c:Nat) (A X B:List Nat) (j k:Nat) (hr:r≤8) (hn:n≤8) (fA:∀ x ∈ A,fFin x = true) (fX:∀ x ∈ X,fFin x = true) (fB:∀ x ∈ B,fFin x = true):(grZ r n c A X B j k).natAbs < 2 ^ 6301 :=
 smI_ltV (W:=6298) (V:=6301) (by decide) r hr (fun i _=>mul_ltV (j:=2098) (k:=4200) (V:=6298) (by decide) (fZ_lt _ (el_fin n A i j fA)) (lack_lt n c A X B i k hn fA fX fB))
end Go.Proofs.YtdhmglmccafbnaaGreatDoor
namespace Go.Proofs.YtdhmglmccafbnaaGreatDoor
open Go.RowKit
attribute [local go_sem ↓] Go.wp_at_zero Go.wp_at_succ
def natL (I:List Int):List Nat:=I.map Int.toNat
theorem natL_len (I:List Int):(natL I).length = I.length:=by simp [natL]
theorem natL_back {w:World} {ao:Option Addr} {c:Nat} {I:List Int} (h:BitsAt w ao c I):(natL I).map (fun x:Nat=>(x:Int)) = I:=by
 unfold natL
 rw [List.map_map]
 refine (List.map_congr_left fun x hx=>?_).trans (List.map_id I)
 have:=h.2.1 x hx
 simp
 omega
theorem append_nil (w:World) (ty:TypeId) (g c:Nat) :
  (Builtin.append_ #[23,23] ty #[.slice (some ⟨g,0,none⟩) 0 0,.slice none 0 c]).run Tryz.prog w = .ok (.slice (some ⟨g,0,none⟩) 0 0) w:=by
 simp [Builtin.append_,go_sem]
theorem BitsAt.other {w:World} {ao:Option Addr} {c:Nat} {I:List Int} (h:BitsAt w ao c I) {p:Addr} (hp:I = [] ∨ ∃ b off,ao = some ⟨b,off,none⟩∧b ≠ p.block) (u:Value):BitsAt (w.setCell p u) ao c I:=by
 refine ⟨h.1,h.2.1,?_⟩
 rcases h.2.2 with e | ⟨b,off,e1,e2,e3⟩
 ·exact .inl e
 rcases hp with e | ⟨b',off',f1,f2⟩
 ·exact .inl e
 rw [e1] at f1
 simp only [Option.some.injEq,Addr.mk.injEq] at f1
 obtain ⟨rfl,rfl,_⟩:=f1
 refine .inr ⟨b,off,e1,by simpa [World.setCell] using e2,fun i hi=>?_⟩
 rw [cell_setCell_other _ _ _ _ f2]
 exact e3 i hi
end Go.Proofs.YtdhmglmccafbnaaGreatDoor
namespace Go.Proofs.YtdhmglmccafbnaaGreatDoor
open Go.RowKit
attribute [local go_sem ↓] Go.wp_at_zero Go.wp_at_succ
def NewB (H:Nat) (ao:Option Addr) (I:List Int):Prop:=I = [] ∨ ∃ b off,ao = some ⟨b,off,none⟩∧H≤b
theorem BitsAt.far {H:Nat} {w:World} {ao:Option Addr} {c:Nat} {I:List Int} (h:BitsAt w ao c I) (hn:NewB H ao I) {b:Nat} (hb:b < H) (j:Nat) (u:Value):BitsAt (w.setCell ⟨b,j,none⟩ u) ao c I:=by
 refine h.other ?_ u
 rcases hn with e | ⟨b',off,e1,e2⟩
 ·exact .inl e
 ·exact .inr ⟨b',off,e1,by show b' ≠ b;omega⟩
end Go.Proofs.YtdhmglmccafbnaaGreatDoor
namespace Go.Proofs.YtdhmglmccafbnaaGreatDoor
open Go.RowKit
attribute [local go_sem ↓] Go.wp_at_zero Go.wp_at_succ
def BoxM (w:World) (b:Nat) (x y z:Value):Prop:=w.heap[b]? = some (.cells #[x,y,z] 25 (0,0))
theorem BoxM.c0 {w:World} {b:Nat} {x y z:Value} (h:BoxM w b x y z):w.cell? ⟨b,0,none⟩ = some x:=by rw [cell_of_row w b 0 _ _ _ h];rfl
theorem BoxM.c1 {w:World} {b:Nat} {x y z:Value} (h:BoxM w b x y z):w.cell? ⟨b,1,none⟩ = some y:=by rw [cell_of_row w b 1 _ _ _ h];rfl
theorem BoxM.c2 {w:World} {b:Nat} {x y z:Value} (h:BoxM w b x y z):w.cell? ⟨b,2,none⟩ = some z:=by rw [cell_of_row w b 2 _ _ _ h];rfl
theorem BoxM.free {w:World} {b:Nat} {x y z:Value} (h:BoxM w b x y z) (j:Nat):w.frozen? ⟨b,j,none⟩ = false:=frozen_of_row w b j _ _ h
theorem BoxM.lt {w:World} {b:Nat} {x y z:Value} (h:BoxM w b x y z):b < w.heap.size:=(Array.getElem?_eq_some_iff.1 h).1
theorem BoxM.below {w w':World} {b:Nat} {x y z:Value} (h:BoxM w b x y z) {B:Nat} (hb:Below B w w') (hlt:b < B):BoxM w' b x y z:=(hb.block b hlt).trans h
theorem BoxM.new (w:World) (x y z:Value):BoxM (w.alloc (.cells #[x,y,z] 25)) w.heap.size x y z:=heap_alloc_new w _
theorem BoxM.all {w w':World} {b:Nat} {x y z:Value} (h:BoxM w b x y z) (hb:Below w.heap.size w w'):BoxM w' b x y z:=h.below hb h.lt
theorem BoxM.other {w:World} {b:Nat} {x y z:Value} (h:BoxM w b x y z) {p:Addr} (hp:b ≠ p.block) (u:Value):BoxM (w.setCell p u) b x y z:=(Below.heap_setCell w p u b hp).trans h
theorem BoxM.put {w:World} {b:Nat} {x y z:Value} (h:BoxM w b x y z) (u u' u'':Value):BoxM (((w.setCell ⟨b,0,none⟩ u).setCell ⟨b,1,none⟩ u').setCell ⟨b,2,none⟩ u'') b u u' u'':=by
 have h1:=heap_setCell_same w b 0 _ _ u h
 have h2:=heap_setCell_same (w.setCell ⟨b,0,none⟩ u) b 1 _ _ u' h1
 have h3:=heap_setCell_same ((w.setCell ⟨b,0,none⟩ u).setCell ⟨b,1,none⟩ u') b 2 _ _ u'' h2
 unfold BoxM
 rw [h3]
 simp
theorem below_putM {w w':World} {B b:Nat} (h:Below B w w') (hb:B≤b) (u u' u'':Value):Below B w (((w'.setCell ⟨b,0,none⟩ u).setCell ⟨b,1,none⟩ u').setCell ⟨b,2,none⟩ u'') :=
 ((h.setCell hb _).setCell hb _).setCell hb _
theorem BoxM.grown {w w':World} {b:Nat} {x y z:Value} (h:BoxM w b x y z) {o:Option Nat} (hg:w.grownBy w' o) (ho:o ≠ some b):BoxM w' b x y z :=
 (hg.block b h.lt ho.symm).trans h
def rgB (r c:Int):Bool:=decide (0≤r∧r≤6∧0≤c∧c≤6)
def okB (r c:Int) (n:Nat):Bool:=decide ((0≤r∧r≤6∧0≤c∧c≤6)∧(n:Int) = r * c)
theorem inRange_any (r c:Int) (w:World) :
  Calls Tryz.prog 195 #[.int .i64 r,.int .i64 c] w fun e w'=>e = .returned (.bool (rgB r c))∧w = w':=by
 rcases (show (r < 0∧rgB r c = false) ∨ (0≤r∧6 < r∧rgB r c = false) ∨ (0≤r∧r≤6∧c < 0∧rgB r c = false) ∨ (0≤r∧r≤6∧0≤c∧6 < c∧rgB r c = false) ∨ (0≤r∧r≤6∧0≤c∧c≤6∧rgB r c = true) by
  unfold rgB
  by_cases h:0≤r∧r≤6∧0≤c∧c≤6
  ·rw [decide_eq_true h];simp;omega
  ·rw [decide_eq_false h];simp;omega) with ⟨h1,e⟩ | ⟨h1,h2,e⟩ | ⟨h1,h2,h3,e⟩ | ⟨h1,h2,h3,h4,e⟩ | ⟨h1,h2,h3,h4,e⟩
 all_goals
  rw [e]
  clear e
  go_enter Tryz.func195,Tryz.ntmps195
  go_wp2
  go_ret
  refine ⟨?_,rfl⟩
  first | rfl | (simp;omega)
theorem mcheck_any (r c:Int) (ao:Option Addr) (n cap:Nat) (w:World) (hn:n≤35184372088830) :
  Calls Tryz.prog 151 #[.agg #[.int .i64 r,.int .i64 c,.slice ao n cap]] w fun e w'=>e = .returned (.int .i64 (if okB r c n = true then 0 else 1))∧Below w.heap.size w w':=by
 have HC:=hide (fun w'=>inRange_any r c w')
 have hb0:=hide (below_alloc9 w (.cells #[.int .i64 r,.int .i64 c,.slice ao n cap] 25))
 by_cases hr:0≤r∧r≤6∧0≤c∧c≤6
 ·have e1:rgB r c = true:=decide_eq_true hr
  rw [e1] at HC
  have hm:∃ m:Nat,r * c = (m:Int)∧m≤36:=by
   obtain ⟨a,rfl⟩:=Int.eq_ofNat_of_zero_le hr.1
   obtain ⟨b,rfl⟩:=Int.eq_ofNat_of_zero_le hr.2.2.1
   refine ⟨a * b,by simp,?_⟩
   have:a * b≤6 * 6:=Nat.mul_le_mul (by omega) (by omega)
   omega
  obtain ⟨m,hm,h36⟩:=hm
  by_cases hq:n = m
  ·have e2:okB r c n = true:=decide_eq_true ⟨hr,by rw [hm,hq]⟩
   rw [if_pos e2]
   subst hq
   clear e1 e2 hr
   go_enter Tryz.func151,Tryz.ntmps151
   go_wp2_with fail
   refine (uH HC _).mono ?_
   rintro e w1 ⟨rfl,rfl⟩
   clear HC
   go_wp2
   go_ret
   exact ⟨rfl,uH hb0⟩
  ·have e2:okB r c n = false:=decide_eq_false (fun h=>hq (by have:=h.2;omega))
   rw [if_neg (by rw [e2];decide)]
   have hq2:decide ((n:Int) = (m:Int)) = false:=decide_eq_false (by omega)
   clear e1 e2 hr
   go_enter Tryz.func151,Tryz.ntmps151
   go_wp2_with fail
   refine (uH HC _).mono ?_
   rintro e w1 ⟨rfl,rfl⟩
   clear HC
   go_wp2
   go_ret
   exact ⟨rfl,uH hb0⟩
 ·have e1:rgB r c = false:=decide_eq_false hr
  rw [e1] at HC
  have e2:okB r c n = false:=decide_eq_false (fun h=>hr h.1)
  rw [if_neg (by rw [e2];decide)]
  clear e1 e2 hr
  go_enter Tryz.func151,Tryz.ntmps151
  go_wp2_with fail
  refine (uH HC _).mono ?_
  rintro e w1 ⟨rfl,rfl⟩
  clear HC
  go_wp2
  go_ret
  exact ⟨rfl,uH hb0⟩
end Go.Proofs.YtdhmglmccafbnaaGreatDoor
