/- Part 33 of the texts. -/
import Derived.Test.YtfkndkaneffgdaaGreatDoorPartA32
import Derived.Deep.RegionLaw
import Derived.Test.YtfkndkaneffgdaaGreatDoorPartA05
import Derived.Test.YtfkndkaneffgdaaGreatDoorPartA31
import Derived.Test.YtfkndkaneffgdaaGreatDoorPartA16
import Derived.Test.YtfkndkaneffgdaaGreatDoorPartA30
import Derived.Test.YtfkndkaneffgdaaGreatDoorPartA29
import Derived.Test.YtfkndkaneffgdaaGreatDoorPartA26
import Derived.Test.YtfkndkaneffgdaaGreatDoorPartA25
import Derived.Test.YtfkndkaneffgdaaGreatDoorPartA24
import Derived.Test.YtfkndkaneffgdaaGreatDoorPartA20
import Derived.Test.YtfkndkaneffgdaaGreatDoorPartA17
import Derived.Test.YtfkndkaneffgdaaGreatDoorPartA18
import Derived.Deep.Cut
import Derived.BigQuiet
import Derived.Maps.AppendAt
import Derived.Test.YtfkndkaneffgdaaGreatDoorPartA09
import Derived.Lib.BitFns
import Derived.Test.YtfkndkaneffgdaaGreatDoorPartA08
import Derived.Test.YtfkndkaneffgdaaGreatDoorPartA07
import Derived.Test.YtfkndkaneffgdaaGreatDoorPartA10
import Derived.Test.YtfkndkaneffgdaaGreatDoorPartA01
import Derived.Maps.Own
import Derived.Maps.OwnOps
import Derived.Maps.OwnSet
import Derived.DeepKeys4
import Derived.WalkSmall
import Derived.OwnWalk
import Derived.Test.YtfkndkaneffgdaaGreatDoorPartA02
namespace Go.Proofs.YtfkndkaneffgdaaGreatDoor
open Go.RowKit
attribute [local go_sem ↓] Go.wp_at_zero Go.wp_at_succ
theorem step_append_ex {P:Program} (w:World) {ops:Array Oper} {o:Oper} {a:Act} {K:Act→World→Prop} {Q:Exit→Act→World→Prop} {E:Prop} (hgd:o.guard = none) (s x:Operand) (t:TypeId)
  (ho:o.op = .call { callee:=.builtin .append,args:=#[s,x],argTypes:=#[t,t] }) (v1 v2:Value) (n:Nat) (F:Option Addr→Nat→World→Prop) (hs:a.eval s = v1) (hx:a.eval x = v2)
  (hr:∃ po pc w',(Builtin.append_ #[t,t] o.type #[v1,v2]).run P w = .ok (.slice po n pc) w'∧F po pc w') (h:∀ po pc w',F po pc w'→K (a.put o.dst (.slice po n pc)) w') :
  if Region.wanted o (yielded ops a.tmps) = true then Oper.wp P o a w K Q else E:=by
 have hw:Region.wanted o (yielded ops a.tmps) = true:=by simp [Region.wanted,hgd]
 rw [if_pos hw]
 obtain ⟨po,pc,w',hrun,hF⟩:=hr
 unfold Oper.wp execOp
 simp only [ho,resolve,invoke,builtin,Sem.run_bind,Sem.run_pure,Result.andThen_ok,List.map_toArray,List.map_cons,List.map_nil,hs,hx,hrun]
 exact h po pc w' hF
theorem rwith_any (r c cap i k x:Nat) (ao:Option Addr) (S:List Nat) (w:World) (h:Mx w ao cap r c S) (hi:i < r) (hk:k < c) (hx:x < 18446744073709551616) :
  Calls Tryz.prog 37 #[.agg #[.int .i64 r,.int .i64 c,.slice ao S.length cap],.int .i64 i,.int .i64 k,.int .u64 x] w fun e w'=>∃ v,e = .returned v∧NewM w.heap.size w' r c (S.set (i * c+k) x) v∧Below w.heap.size w w':=by
 have hp:i * c+k < S.length:=by rw [h.2.1];exact place_lt hi hk
 have h36:=h.small
 have b0:=below_alloc9 w (.cells #[.int .i64 r,.int .i64 c,.slice ao S.length cap] 24)
 have s0:=size_alloc9 w (.cells #[.int .i64 r,.int .i64 c,.slice ao S.length cap] 24)
 have b1:=below_alloc9 (w.alloc (.cells #[.int .i64 r,.int .i64 c,.slice ao S.length cap] 24)) (.cells #[.int .i64 0,.int .i64 0,.slice none 0 0] 24)
 have s1:=size_alloc9 (w.alloc (.cells #[.int .i64 r,.int .i64 c,.slice ao S.length cap] 24)) (.cells #[.int .i64 0,.int .i64 0,.slice none 0 0] 24)
 have bb:=b0.trans (b1.mono b0.size)
 have b2:=below_alloc9 ((w.alloc (.cells #[.int .i64 r,.int .i64 c,.slice ao S.length cap] 24)).alloc (.cells #[.int .i64 0,.int .i64 0,.slice none 0 0] 24)) (.cells #[] 30)
 have on:=OwnB.nil ((w.alloc (.cells #[.int .i64 r,.int .i64 c,.slice ao S.length cap] 24)).alloc (.cells #[.int .i64 0,.int .i64 0,.slice none 0 0] 24)) (w.heap.size+1+1) (by rw [s1,s0];omega)
 have bits:=(h.1.below bb).below b2
 obtain ⟨po,pc,w1,run,own,gr⟩:=copy_bits _ (w.heap.size+1+1) 22 ao cap (mxL S) _ bits (by rw [mxL_len];omega) on.1 (by simp)
 rw [natL_mxL,mxL_len] at *
 have bel:=(b2.mono (Nat.le_of_eq (by rw [s1,s0]))).grown gr (by simp) (fun g hg=>by cases hg;rw [s1,s0];exact Nat.le_refl _)
 rw [s1,s0] at run
 obtain ⟨g,hg,_⟩:=own.at hp
 exact rwith_of r c S.length cap i k (i * c) x g ao po pc S w w1 rfl (cast_mul10 i c) hp h36 hx run own bel hg
set_option maxRecDepth 20000 in
set_option maxHeartbeats 2000000 in
theorem rsame_any (r c:Int) (ao bo:Option Addr) (cap d:Nat) (S:List Nat) (w:World) (h:BitsAt w ao cap (mxL S)) (h2:BitsAt w bo d (mxL S)) (hl:S.length≤1000000) :
  Calls Tryz.prog 18 #[.agg #[.int .i64 r,.int .i64 c,.slice ao S.length cap],.agg #[.int .i64 r,.int .i64 c,.slice bo S.length d]] w fun e w'=>e = .returned (.bool true)∧Below w.heap.size w w':=by
 have b0:=below_alloc9 w (.cells #[.int .i64 r,.int .i64 c,.slice ao S.length cap] 24)
 have b1:=below_alloc9 (w.alloc (.cells #[.int .i64 r,.int .i64 c,.slice ao S.length cap] 24)) (.cells #[.int .i64 r,.int .i64 c,.slice bo S.length d] 24)
 have bb:=b0.trans (b1.mono b0.size)
 have K:=hide (same_any ao bo cap d (mxL S) _ (h.below bb) (h2.below bb) (by rw [mxL_len];omega))
 rw [mxL_len] at K
 have HB:=hide bb
 clear b0 b1 bb h h2
 generalize S.length = n at *
 go_enter Tryz.func18,Tryz.ntmps18
 go_wp2_with fail
 refine Calls.mono (uH K) ?_
 rintro e w1 ⟨rfl,hb1⟩
 clear K
 go_wp2
 go_ret
 exact ⟨rfl,(uH HB).trans (hb1.mono (uH HB).size)⟩
end Go.Proofs.YtfkndkaneffgdaaGreatDoor
namespace Go.Proofs.YtfkndkaneffgdaaGreatDoor
open Go.RowKit
structure Nm where
 neg:Bool
 ao:Option Addr
 cap:Nat
 L:List Nat
structure Rw where
 ao:Option Addr
 cap:Nat
 R:List Nm
def Nm.nil:Nm:=⟨false,none,0,[]⟩
def Rw.nil:Rw:=⟨none,0,[]⟩
def nmAt (R:List Nm) (k:Nat):Nm:=R[k]?.getD Nm.nil
def rwAt (M:List Rw) (i:Nat):Rw:=M[i]?.getD Rw.nil
end Go.Proofs.YtfkndkaneffgdaaGreatDoor
namespace Go.Proofs.YtfkndkaneffgdaaGreatDoor
open Go.RowKit
attribute [local go_sem ↓] Go.wp_at_zero Go.wp_at_succ
def ckE (r c:Int) (I:List Int):Int:=if okB r c I.length = true then (if fnK I I.length = true then 0 else 4) else 1
set_option maxRecDepth 20000 in
set_option maxHeartbeats 4000000 in
theorem ccheck_any (r c:Int) (ao:Option Addr) (cap:Nat) (I:List Int) (w:World) (hI:BitsAt w ao cap I) (hn:I.length≤35184372088830) :
  Calls Tryz.prog 21 #[.agg #[.int .i64 r,.int .i64 c,.slice ao I.length cap]] w fun e w'=>e = .returned (.int .i64 (ckE r c I))∧Below w.heap.size w w':=by
 have HC:=hide (fun w'=>mcheck_any r c ao I.length cap w' hn)
 have b0:=below_alloc9 w (.cells #[.int .i64 r,.int .i64 c,.slice ao I.length cap] 24)
 have B0:=hide b0;have X0:=hide (BoxM.new w (.int .i64 r) (.int .i64 c) (.slice ao I.length cap));have HI:=hide hI
 clear b0 hI
 cases ho:okB r c I.length
 ·rw [ho] at HC
  have e:ckE r c I = 1:=by unfold ckE;rw [ho];rfl
  rw [e]
  rw [if_neg (by decide)] at HC
  clear e ho
  go_enter Tryz.func21,Tryz.ntmps21
  go_wp2_with fail
  refine (uH HC _).mono ?_
  rintro e w1 ⟨rfl,hb1⟩
  clear HC
  go_wp2
  go_ret
  exact ⟨rfl,(uH B0).trans (hb1.mono (uH B0).size)⟩
 ·rw [ho] at HC
  rw [if_pos rfl] at HC
  have e:ckE r c I = if fnK I I.length = true then 0 else 4:=by unfold ckE;rw [ho];rfl
  rw [e]
  clear e ho
  obtain ⟨fe,hfe⟩:∃ fe:Int,(if fnK I I.length = true then 0 else 4) = fe:=⟨_,rfl⟩
  rw [hfe]
  obtain ⟨n,hnn⟩:∃ n,I.length = n:=⟨_,rfl⟩
  have HN:=hide hnn
  rw [hnn] at HC B0 X0 hn hfe ⊢
  have FE:=hide hfe
  clear hnn hfe
  go_enter Tryz.func21,Tryz.ntmps21
  go_wp2_with fail
  refine (uH HC _).mono ?_
  rintro e w1 ⟨rfl,hb1⟩
  have B1:=hide ((uH B0).trans (hb1.mono (uH B0).size));have X1:=hide ((uH X0).all hb1)
  clear HC B0 X0 hb1
  have x2:=(uH X1).c2
  go_wp2_with fail
  go_loopw [13] (fun i wr=>∃ k:Nat,k≤n∧i = .int .i64 k∧Hid (Below w1.heap.size w1 wr)∧Hid (fnK I k = true)) (fun i _=>n - (intOf i).toNat)
  case atStart=>exact ⟨0,Nat.zero_le _,rfl,Below.refl _ _,rfl⟩
  case round =>
   clear x2
   obtain ⟨k,hk,rfl,hB,hF⟩:=hrel
   have x2:=((uH X1).all (uH hB)).c2
   by_cases hlt:k < n
   ·have hkI:(k:Int) < (n:Int):=by omega
    have BW:=hide ((uH B1).trans ((uH hB).mono (uH B1).size))
    obtain ⟨b,off,hao,hb,hc⟩:=((uH HI).below (uH BW)).ne (by rw [uH HN];omega)
    have hck:=hc k (by rw [uH HN];exact hlt)
    have x64:=(uH HI).lt k
    have CF:=hide (fun w'=>sfinite_any (atB I k) w' x64)
    have NX:=hide (show fnK I (k+1) = (fnK I k && fFin (atB I k)) from rfl)
    subst hao
    clear hc x64 hb
    cases hf:fFin (atB I k)
    ·rw [hf] at CF NX
     have e:fnK I n = false:=by
      cases h:fnK I n
      ·rfl
      ·have:=fnK_down I n (k+1) (by omega) h
       rw [uH NX,Bool.and_false] at this
       cases this
     have E4:=hide (show (4:Int) = fe from by rw [← uH FE,if_neg (by rw [e];decide)])
     clear e NX hf
     generalize atB I k = x at *
     go_wp2_with fail
     refine (uH CF _).mono ?_
     rintro e w3 ⟨rfl,hb3⟩
     have BE:=hide ((uH BW).trans (hb3.mono (uH BW).size))
     clear CF hb3 hck x2
     go_wp2
     go_ret
     exact ⟨ret_int (uH E4),uH BE⟩
    ·rw [hf] at CF NX
     rw [uH hF,Bool.true_and] at NX
     clear hf
     generalize atB I k = x at *
     go_wp2_with fail
     refine (uH CF _).mono ?_
     rintro e w3 ⟨rfl,hb3⟩
     have BE:=hide ((uH hB).trans (hb3.mono (uH hB).size))
     clear CF hb3 hck x2
     go_wp2
     go_round
     case rel=>exact ⟨k+1,by omega,by go_num,BE,NX⟩
     case measure=>simp [intOf];omega
   ·have hkk:k = n:=by omega
    subst hkk
    have E0:=hide (show (0:Int) = fe from by rw [← uH FE,if_pos (uH hF)])
    have BE:=hide ((uH B1).trans ((uH hB).mono (uH B1).size))
    go_wp2
    go_ret
    exact ⟨ret_int (uH E0),uH BE⟩
end Go.Proofs.YtfkndkaneffgdaaGreatDoor
namespace Go.Proofs.YtfkndkaneffgdaaGreatDoor
def ngt (xs:List Nat):Bool:=xs.all (fun x=>decide (fK x = 0))
def ldS:List Nat→Bool
 | []=>false
 | x :: xs=>if fK x = 0 then ldS xs else fS x
def hmB (a:Nat) (xs:List Nat):Nat:=if ldS (a :: xs) = true then nrV (a :: xs) else fN (nrV (a :: xs))
def hmD (a:Nat) (xs:List Nat):Nat:=aV a (fN (hmB a xs))
def mrB:List Nat→Nat
 | []=>0
 | a :: xs=>if ngt xs = true then a else hmB a xs
def mrT:List Nat→Nat
 | []=>0
 | a :: xs=>if ngt xs = true then 0 else dV (aV (hmB a xs) (fN a)) (hmB a xs)
def mrV:List Nat→List Nat
 | []=>[]
 | a :: xs=>4607182418800017408 :: xs.map (fun x=>if ngt xs = true then 0 else dV x (hmD a xs))
def mrK:List Nat→Bool
 | []=>true
 | a :: xs=>ngt xs || (fFin (hmB a xs) && fFin (hmD a xs))
theorem toN_mxL (xs:List Nat):toN (mxL xs) = xs:=by
 unfold toN mxL
 rw [List.map_map]
 exact List.map_id'' (fun x=>by simp) xs
theorem nrV_lt (xs:List Nat):nrV xs < 18446744073709551616:=by
 have:=nmV_lt (mxL xs)
 rwa [nmV_nrV,toN_mxL] at this
theorem hmB_lt (a:Nat) (xs:List Nat):hmB a xs < 18446744073709551616:=by
 unfold hmB
 split
 ·exact nrV_lt _
 ·exact fN_lt _ (nrV_lt _)
theorem hmD_lt (a:Nat) (xs:List Nat) (ha:a < 18446744073709551616):hmD a xs < 18446744073709551616:=aV_lt _ _ ha (fN_lt _ (hmB_lt _ _))
theorem mrB_lt (xs:List Nat) (h:∀ x ∈ xs,x < 18446744073709551616):mrB xs < 18446744073709551616:=by
 match xs with
 | []=>decide
 | a :: xs =>
  show (if ngt xs = true then a else hmB a xs) < _
  split
  ·exact h a List.mem_cons_self
  ·exact hmB_lt _ _
theorem mrT_lt (xs:List Nat):mrT xs < 18446744073709551616:=by
 match xs with
 | []=>decide
 | a :: xs =>
  show (if ngt xs = true then 0 else dV (aV (hmB a xs) (fN a)) (hmB a xs)) < _
  split
  ·decide
  ·exact dV_lt _ _
theorem mrV_len (xs:List Nat):(mrV xs).length = xs.length:=by
 match xs with
 | []=>rfl
 | a :: xs=>simp [mrV]
theorem ngt_true {xs:List Nat} (h:ngt xs = true):∀ x ∈ xs,fK x = 0:=fun x hx=>of_decide_eq_true (List.all_eq_true.1 h x hx)
end Go.Proofs.YtfkndkaneffgdaaGreatDoor
namespace Go.Proofs.YtfkndkaneffgdaaGreatDoor
def colL (c:Nat) (S:List Nat) (i n q:Nat):List Nat:=(List.range n).map (fun j=>elM c S (i+j) q)
def apL (c:Nat) (S:List Nat) (i q:Nat) (vs:List Nat) (tau:Nat):List Nat:=apV (mV tau (dtV 0 vs (colL c S i vs.length q))) vs (colL c S i vs.length q)
def apM (r c:Nat) (S:List Nat) (i k:Nat) (vs:List Nat) (tau:Nat):List Nat:=mkM r c (fun p q=>if k≤q∧i≤p∧p < i+vs.length then (apL c S i q vs tau).getD (p - i) 0 else elM c S p q)
theorem colL_len (c:Nat) (S:List Nat) (i n q:Nat):(colL c S i n q).length = n:=by simp [colL]
theorem apM_len (r c:Nat) (S:List Nat) (i k:Nat) (vs:List Nat) (tau:Nat):(apM r c S i k vs tau).length = r * c:=mkM_len _ _ _
theorem apV_len (t:Nat):∀ (vs ys:List Nat),vs.length = ys.length→(apV t vs ys).length = vs.length:=by
 intro vs
 induction vs with
 | nil=>intro ys _;rfl
 | cons v vs ih =>
  intro ys h
  match ys with
  | []=>cases h
  | y :: ys =>
   show (apV t vs ys).length+1 = vs.length+1
   rw [ih ys (by simpa using h)]
theorem apV_at (t:Nat):∀ (vs ys:List Nat) (j:Nat),vs.length = ys.length→j < vs.length→(apV t vs ys).getD j 0 = aV (ys.getD j 0) (fN (mV t (vs.getD j 0))):=by
 intro vs
 induction vs with
 | nil=>intro ys j _ hj;exact absurd hj (Nat.not_lt_zero j)
 | cons v vs ih =>
  intro ys j h hj
  match ys with
  | []=>cases h
  | y :: ys =>
   match j with
   | 0=>rfl
   | j+1=>exact ih ys j (by simpa using h) (by simpa using hj)
theorem colL_at (c:Nat) (S:List Nat) (i n q:Nat) {j:Nat} (hj:j < n):(colL c S i n q).getD j 0 = elM c S (i+j) q:=by
 simp [colL,List.getD_eq_getElem?_getD,hj]
theorem el_ap (r c:Nat) (S:List Nat) (i k:Nat) (vs:List Nat) (tau:Nat) {p q:Nat} (hp:p < r) (hq:q < c):elM c (apM r c S i k vs tau) p q = if k≤q∧i≤p∧p < i+vs.length then (apL c S i q vs tau).getD (p - i) 0 else elM c S p q:=el_mk r c _ hp hq
theorem list_range (L:List Nat):L = (List.range L.length).map (fun j=>L.getD j 0):=by
 refine List.ext_getElem (by simp) (fun j h1 h2=>?_)
 simp [List.getD_eq_getElem?_getD,h1]
end Go.Proofs.YtfkndkaneffgdaaGreatDoor
