/- Part 31 of the texts. -/
import Derived.Test.YtdhmglmccafbnaaGreatDoorPartu30
import Derived.Test.YtdhmglmccafbnaaGreatDoorPartu27
import Derived.Test.YtdhmglmccafbnaaGreatDoorPartu26
import Derived.Test.YtdhmglmccafbnaaGreatDoorPartu04
import Derived.Maps.AppendAt
import Derived.OwnWalk
import Derived.Test.YtdhmglmccafbnaaGreatDoorPartu08
import Derived.Test.YtdhmglmccafbnaaGreatDoorPartu06
import Derived.Test.YtdhmglmccafbnaaGreatDoorPartu05
import Derived.Test.YtdhmglmccafbnaaGreatDoorPartu07
import Derived.Maps.Own
import Derived.Maps.OwnOps
import Derived.Maps.OwnSet
import Derived.DeepKeys4
import Derived.WalkSmall
import Derived.Deep.RegionHeld3
import Derived.Deep.AppendLies
import Derived.Test.YtdhmglmccafbnaaGreatDoorPartu01
import Derived.Test.YtdhmglmccafbnaaGreatDoorPartu28
import Derived.Test.YtdhmglmccafbnaaGreatDoorPartu25
import Derived.Test.YtdhmglmccafbnaaGreatDoorPartu13
import Derived.Deep.Cut
import Derived.BigQuiet
import Derived.Test.YtdhmglmccafbnaaGreatDoorPartu29
import Derived.Test.YtdhmglmccafbnaaGreatDoorPartu22
import Derived.Deep.RegionWith
import Derived.Deep.CutRange
set_option maxHeartbeats 16000000
set_option maxRecDepth 20000
namespace Go.Proofs.YtdhmglmccafbnaaGreatDoor
open Go.RowKit
def KK:Nat→Nat
 | 0=>2098
 | c+1=>2 * KK c+1
end Go.Proofs.YtdhmglmccafbnaaGreatDoor
namespace Go.Proofs.YtdhmglmccafbnaaGreatDoor
open Go.RowKit
attribute [local go_sem ↓] Go.wp_at_zero Go.wp_at_succ
def mkJ (g:Nat→Nat) (j:Nat):List Nat:=4607182418800017408 :: fsL g (j - 1)
end Go.Proofs.YtdhmglmccafbnaaGreatDoor
namespace Go.Proofs.YtdhmglmccafbnaaGreatDoor
open Go.RowKit
theorem toN_cons {I:List Int} (h:1≤I.length):toN I = atB I 0 :: (toN I).drop 1:=by
 have h1:0 < (toN I).length:=by rw [toN_len];omega
 have:=List.drop_eq_getElem_cons h1
 rw [List.drop_zero] at this
 rw [this]
 congr 1
 have e:=toN_at I 0 (by omega)
 rw [List.getElem?_eq_getElem h1] at e
 exact Option.some.inj e
theorem drop_getD (I:List Int) {j:Nat} (h:j+1 < I.length):((toN I).drop 1).getD j 0 = atB I (j+1):=by
 rw [List.getD_eq_getElem?_getD,List.getElem?_drop,Nat.add_comm 1 j,toN_at I (j+1) h]
 rfl
theorem mr_mkJ {I:List Int} (h:1≤I.length) (k:Nat→Nat) (hk:∀ x,(if ngt ((toN I).drop 1) = true then 0 else dV x (hmD (atB I 0) ((toN I).drop 1))) = k x):mrV (toN I) = mkJ (fun j=>k (atB I (j+1))) I.length:=by
 have hl:((toN I).drop 1).length = I.length - 1:=by rw [List.length_drop,toN_len]
 rw [toN_cons h]
 show 4607182418800017408 :: ((toN I).drop 1).map (fun x=>if ngt ((toN I).drop 1) = true then 0 else dV x (hmD (atB I 0) ((toN I).drop 1))) = 4607182418800017408 :: fsL (fun j=>k (atB I (j+1))) (I.length - 1)
 congr 1
 rw [List.map_congr_left (g:=k) (fun x _=>hk x),list_range ((toN I).drop 1),List.map_map,hl]
 unfold fsL
 refine List.map_congr_left (fun j hj=>?_)
 show k (((toN I).drop 1).getD j 0) = _
 rw [drop_getD I (by have:=List.mem_range.1 hj;omega)]
theorem mk_facts {I:List Int} (h:1≤I.length):mrB (toN I) = (if ngt ((toN I).drop 1) = true then atB I 0 else hmB (atB I 0) ((toN I).drop 1))∧mrT (toN I) = (if ngt ((toN I).drop 1) = true then 0 else dV (aV (hmB (atB I 0) ((toN I).drop 1)) (fN (atB I 0))) (hmB (atB I 0) ((toN I).drop 1)))∧mrK (toN I) = (ngt ((toN I).drop 1) || (fFin (hmB (atB I 0) ((toN I).drop 1)) && fFin (hmD (atB I 0) ((toN I).drop 1)))):=by
 have e:=toN_cons h
 refine ⟨?_,?_,?_⟩
 ·conv=>lhs;rw [e]
  rfl
 ·conv=>lhs;rw [e]
  rfl
 ·conv=>lhs;rw [e]
  rfl
end Go.Proofs.YtdhmglmccafbnaaGreatDoor
namespace Go.Proofs.YtdhmglmccafbnaaGreatDoor
open Go.RowKit
theorem qrK_all (r c:Nat) (S:List Nat):∀ K,qrK r c S K = true ↔ ∀ j,j < K→finL (qrX r c S j) = true∧mrK (qrX r c S j) = true:=by
 intro K
 induction K with
 | zero=>exact ⟨fun _ j h=>absurd h (Nat.not_lt_zero j),fun _=>rfl⟩
 | succ K ih =>
  show (qrK r c S K && (finL (qrX r c S K) && mrK (qrX r c S K))) = true ↔ _
  rw [Bool.and_eq_true,Bool.and_eq_true,ih]
  constructor
  ·rintro ⟨h1,h2⟩ j hj
   by_cases g:j < K
   ·exact h1 j g
   ·rw [show j = K by omega];exact h2
  ·intro h
   exact ⟨fun j hj=>h j (by omega),h K (by omega)⟩
theorem elS_lt {S:List Nat} (h:∀ x ∈ S,x < 18446744073709551616) (c p q:Nat):elM c S p q < 18446744073709551616:=by
 unfold elM
 rw [List.getD_eq_getElem?_getD]
 cases e:S[p * c+q]? with
 | none=>decide
 | some x=>exact h x (List.mem_of_getElem? e)
theorem colL_lt {S:List Nat} (h:∀ x ∈ S,x < 18446744073709551616) (c i n q:Nat):∀ x ∈ colL c S i n q,x < 18446744073709551616:=by
 intro x hx
 obtain ⟨j,_,rfl⟩:=List.mem_map.1 hx
 exact elS_lt h c _ _
theorem apS_lt {r c:Nat} {S:List Nat} (hS:∀ x ∈ S,x < 18446744073709551616) (i k:Nat) (vs:List Nat) (tau:Nat):∀ x ∈ apM r c S i k vs tau,x < 18446744073709551616:=by
 intro x hx
 unfold apM mkM at hx
 obtain ⟨p,_,rfl⟩:=List.mem_map.1 hx
 show (if _ then _ else _) < _
 split
 ·exact apL_lt c S i _ vs tau (by omega) (fun p q=>elS_lt hS c p q)
 ·exact elS_lt hS c _ _
theorem clS_lt {r c:Nat} {S:List Nat} (hS:∀ x ∈ S,x < 18446744073709551616) (j b:Nat) (hb:b < 18446744073709551616):∀ x ∈ clM r c S j b,x < 18446744073709551616:=by
 intro x hx
 unfold clM clJ mkM at hx
 obtain ⟨p,_,rfl⟩:=List.mem_map.1 hx
 show (if _ then (if _ then _ else _) else _) < _
 split
 ·split
  ·exact hb
  ·decide
 ·exact elS_lt hS c _ _
theorem qrR_lt {r c:Nat} {S:List Nat} (hS:∀ x ∈ S,x < 18446744073709551616):∀ j,∀ x ∈ qrR r c S j,x < 18446744073709551616
 | 0=>hS
 | j+1=>clS_lt (apS_lt (qrR_lt hS j) _ _ _ _) _ _ (mrB_lt _ (colL_lt (qrR_lt hS j) _ _ _ _))
end Go.Proofs.YtdhmglmccafbnaaGreatDoor
namespace Go.Proofs.YtdhmglmccafbnaaGreatDoor
open Go.RowKit
attribute [local go_sem ↓] Go.wp_at_zero Go.wp_at_succ
theorem hbelow_any (ao:Option Addr) (c:Nat) (I:List Int) (w:World) (hI:BitsAt w ao c I) (hn:I.length≤64) :
  Calls Tryz.prog 300 #[.slice ao I.length c] w fun e w'=>e = .returned (.bool (ldS (toN I)))∧Below w.heap.size w w':=by
 have HI:=hide hI
 obtain ⟨L,hL⟩:∃ L:Nat→Bool,L = fun j=>ldS ((toN I).drop j):=⟨_,rfl⟩
 have L0:ldS (toN I) = L 0:=by rw [hL];rfl
 have LE:∀ j,I.length≤j→L j = false:=fun j hj=>by
  rw [hL]
  show ldS ((toN I).drop j) = false
  rw [List.drop_eq_nil_of_le (by rw [toN_len];exact hj)]
  rfl
 have LS:∀ j,j < I.length→L j = if fK (atB I j) = 0 then L (j+1) else fS (atB I j):=fun j hj=>by
  rw [hL]
  show ldS ((toN I).drop j) = _
  rw [ldS_drop (toN I) (by rw [toN_len];exact hj),toN_getD I j hj]
 rw [L0]
 obtain ⟨v,hv⟩:∃ v,L 0 = v:=⟨_,rfl⟩
 have HE:=hide LE;have HS:=hide LS
 obtain ⟨n,hnn⟩:∃ n,I.length = n:=⟨_,rfl⟩
 rw [hnn] at hn HE HS ⊢
 rw [hv]
 have HN:=hide hnn
 have HV:=hide hv
 clear hI hL L0 LE LS hnn hv
 go_enter Tryz.func300,Tryz.ntmps300
 go_wp2_with fail
 go_loopw [7] (fun i wr=>∃ j:Nat,j≤n∧i = .int .i64 j∧Hid (L j = v)∧Hid (Below w.heap.size w wr)) (fun i _=>n - (intOf i).toNat)
 case atStart=>exact ⟨0,Nat.zero_le _,rfl,HV,Below.refl _ _⟩
 case round =>
  obtain ⟨j,hj,rfl,hL,hB⟩:=hrel
  by_cases hlt:j < n
  ·have hjI:(j:Int) < (n:Int):=by omega
   obtain ⟨b,off,hao,hb,hc⟩:=((uH HI).below hB.out).ne (by rw [uH HN];omega)
   have hck:=hide (hc j (by rw [uH HN];exact hlt))
   have C1:=hide (fun w'=>kind_any (atB I j) w' ((uH HI).lt j))
   have C2:=hide (fun w'=>ssign_any (atB I j) w' ((uH HI).lt j))
   have HJ:=hide (uH HS j hlt)
   subst hao
   clear hc
   by_cases g0:fK (atB I j) = 0
   ·have R2:=hide (show L (j+1) = v from by have:=uH HJ;rw [uH hL,if_pos g0] at this;exact this.symm)
    rw [g0] at C1
    clear HJ g0 C2
    generalize atB I j = x at *
    have hc0:=uH hck
    go_wp2_with fail
    refine (uH C1 _).mono ?_
    rintro e w2 ⟨rfl,hb2⟩
    have B2:Hid (Below w.heap.size w w2):=hB.out.trans (hb2.mono hB.out.size)
    clear C1 hb2 hck hc0 hB
    go_wp2_with fail
    go_round
    case rel=>exact ⟨j+1,by omega,by go_num,R2,B2⟩
    case measure=>simp [intOf];omega
   ·have R2:fS (atB I j) = v:=by have:=uH HJ;rw [uH hL,if_neg g0] at this;exact this.symm
    have g0':(fK (atB I j) == 0) = false:=by rw [beq_eq_false_iff_ne];exact g0
    rw [R2] at C2
    clear HJ R2
    generalize fK (atB I j) = kd at *
    generalize atB I j = x at *
    have hc0:=uH hck
    go_wp2_with fail
    refine (uH C1 _).mono ?_
    rintro e w2 ⟨rfl,hb2⟩
    have B2:Hid (Below w.heap.size w w2):=hB.out.trans (hb2.mono hB.out.size)
    clear C1 hb2 hck hc0 hB
    go_wp2_with fail
    refine (uH C2 _).mono ?_
    rintro e w3 ⟨rfl,hb2⟩
    have B3:Hid (Below w.heap.size w w3):=B2.out.trans (hb2.mono B2.out.size)
    clear C2 hb2 B2
    go_wp2_with fail
    exact bodyPost_ret (v:=.bool v) (by simp [results,Tryz.results300,go_sem]) rfl ⟨rfl,B3.out⟩
  ·have hv2:v = false:=by have:=uH HE j (by omega);rw [uH hL] at this;exact this
   subst hv2
   have hjI:(n:Int)≤(j:Int):=by omega
   go_wp2_with fail
   exact bodyPost_ret (v:=.bool false) (by simp [results,Tryz.results300,go_sem]) rfl ⟨rfl,hB.out⟩
theorem hbeta_of (ao:Option Addr) (n c m o:Nat) (s:Bool) (w:World) (h:(s = true∧o = m) ∨ (s = false∧o = fN m)) (hm:m < 18446744073709551616)
  (C1:Calls Tryz.prog 239 #[.slice ao n c] w fun e w''=>e = .returned (.tuple #[.int .u64 (m:Nat),.int .i64 0])∧Below w.heap.size w w'')
  (C2:∀ w',Below w.heap.size w w'→Calls Tryz.prog 300 #[.slice ao n c] w' fun e w''=>e = .returned (.bool s)∧Below w'.heap.size w' w'') :
  Calls Tryz.prog 283 #[.slice ao n c] w fun e w'=>e = .returned (.int .u64 (o:Nat))∧Below w.heap.size w w':=by
 have K1:=hide C1;have K2:=hide C2
 have K3:=hide (fun w'=>sminus_any m w' hm)
 clear C1 C2 hm
 rcases h with ⟨rfl,rfl⟩ | ⟨rfl,rfl⟩
 ·clear K3
  go_enter Tryz.func283,Tryz.ntmps283
  go_wp2_with fail
  refine Calls.mono (uH K1) ?_
  rintro e w1 ⟨rfl,hb1⟩
  have B1:=hide hb1
  clear K1 hb1
  go_wp2_with fail
  refine (uH K2 _ (uH B1)).mono ?_
  rintro e w2 ⟨rfl,hb2⟩
  have B2:=hide ((uH B1).trans (hb2.mono (uH B1).size))
  clear K2 hb2 B1
  go_wp2
  go_ret
  exact ⟨rfl,uH B2⟩
 ·generalize fN m = o at *
  go_enter Tryz.func283,Tryz.ntmps283
  go_wp2_with fail
  refine Calls.mono (uH K1) ?_
  rintro e w1 ⟨rfl,hb1⟩
  have B1:=hide hb1
  clear K1 hb1
  go_wp2_with fail
  refine (uH K2 _ (uH B1)).mono ?_
  rintro e w2 ⟨rfl,hb2⟩
  have B2:=hide ((uH B1).trans (hb2.mono (uH B1).size))
  clear K2 hb2 B1
  go_wp2_with fail
  refine (uH K3 _).mono ?_
  rintro e w3 ⟨rfl,rfl⟩
  clear K3
  go_wp2
  go_ret
  exact ⟨rfl,uH B2⟩
theorem hbeta_any (ao:Option Addr) (c:Nat) (I:List Int) (w:World) (hI:BitsAt w ao c I) (hn:I.length≤64) (hT:Tab w) :
  Calls Tryz.prog 283 #[.slice ao I.length c] w fun e w'=>e = .returned (.int .u64 ((if ldS (toN I) = true then nrV (toN I) else fN (nrV (toN I)):Nat):Nat))∧Below w.heap.size w w':=by
 have C1:=vNorm_ok ao c I w hI hn hT
 rw [nmV_nrV] at C1
 refine hbeta_of ao I.length c (nrV (toN I)) _ (ldS (toN I)) w ?_ (nrV_lt _) C1 (fun w' hb=>hbelow_any ao c I w' (hI.below hb) hn)
 cases ldS (toN I)
 ·exact .inr ⟨rfl,if_neg (by decide)⟩
 ·exact .inl ⟨rfl,if_pos rfl⟩
theorem hmake1_any (x:Nat) (w:World) :
  Calls Tryz.prog 282 #[.int .u64 x] w fun e w'=>e = .returned (.int .u64 (0:Nat))∧Below w.heap.size w w':=by
 go_enter Tryz.func282,Tryz.ntmps282
 go_wp2
 go_ret
 exact ⟨rfl,Below.refl _ _⟩
theorem hmake2_any (x d g:Nat) (w:World) (hx:x < 18446744073709551616) (hd:d < 18446744073709551616) (hg:w.cell? ⟨g,0,none⟩ = some (.int .u64 (d:Nat))) (hT:Tab w) :
  Calls Tryz.prog 284 #[.int .u64 x,.pointer (some ⟨g,0,none⟩)] w fun e w'=>e = .returned (.int .u64 (dV x d:Nat))∧Below w.heap.size w w':=by
 have K:=hide (pdiv_any x d w hx hd hT)
 generalize dV x d = o at *
 clear hx hd hT
 go_enter Tryz.func284,Tryz.ntmps284
 go_wp2_with fail
 refine Calls.mono (uH K) ?_
 rintro e w1 ⟨rfl,hb1⟩
 clear K
 go_wp2
 go_ret
 exact ⟨rfl,hb1⟩
def oaL (f:Nat→Nat) (k:Nat):List Nat:=4607182418800017408 :: fsL f k
theorem oaL_len (f:Nat→Nat) (k:Nat):(oaL f k).length = k+1:=by
 show (fsL f k).length+1 = _
 rw [fsL_len]
theorem oaL_succ (f:Nat→Nat) (k:Nat):oaL f (k+1) = oaL f k ++ [f k]:=by
 show 4607182418800017408 :: fsL f (k+1) = (4607182418800017408 :: fsL f k) ++ [f k]
 rw [fsL_succ]
 rfl
theorem oneAnd_any (fn:Nat) (caps:Array Value) (ao:Option Addr) (c:Nat) (J:List Int) (f:Nat→Nat) (w:World)
  (hcf:∀ args w,(callFunc fn args).run Tryz.prog w = .ok (.enter fn args) w) (hJ:BitsAt w ao c J) (hn:J.length≤64) (hf:∀ k,k < J.length→f k < 18446744073709551616)
  (hstep:∀ w' k,Below w.heap.size w w'→k < J.length→Calls Tryz.prog fn (#[.int .u64 (atB J k:Nat)] ++ caps) w' fun e w''=>e = .returned (.int .u64 (f k:Nat))∧Below w'.heap.size w' w'') :
  Calls Tryz.prog 281 #[.slice ao J.length c,.func (.func fn) #[] caps] w fun e w'=>∃ bo d,e = .returned (.slice bo (J.length+1:Nat) d)∧NewB w.heap.size bo (mxL (oaL f J.length))∧BitsAt w' bo d (mxL (oaL f J.length))∧Below w.heap.size w w':=by
 obtain ⟨i0,hi0,hz0,hz1,hz2⟩:=info_parts infoBits
 have HS:=hide hstep;have HF:=hide hf;have HJ:=hide hJ
 obtain ⟨n,hnn⟩:∃ n,J.length = n:=⟨_,rfl⟩
 rw [hnn] at hn HS HF ⊢
 have HN:=hide hnn
 obtain ⟨m,hm⟩:∃ m,n+1 = m:=⟨_,rfl⟩
 have hmI:(1:Int)+(n:Int) = (m:Int):=by omega
 obtain ⟨w1,hmk,own1,gr1⟩:=run_make_own (P:=Tryz.prog) w w.heap.size 23 28 i0 (.int .u64 0) 1 Tryz.underlying23 hi0 hz0 hz1 .i64 .i64 m (by rw [hz2];omega) (by unfold maxLen;omega) (by simp)
 have B1:Below w.heap.size w w1:=(Below.refl w.heap.size w).grown gr1 (by simp) (fun g hg=>by cases hg)
 have O1:OwnB w.heap.size w1 (.slice (some ⟨w.heap.size,0,none⟩) 0 m) []:=⟨by simpa using own1,by intro x hx;cases hx⟩
 generalize Value.slice (some ⟨w.heap.size,0,none⟩) 0 m = v1 at hmk O1
 obtain ⟨v2,w2,run2,own2,bel2,_,_⟩:=O1.push 4607182418800017408 (by decide) (by simp) B1.size 23
 have RUN:=hide (show (Builtin.append_ #[23,23] 23 #[v1,.slice (some ⟨w1.heap.size,0,none⟩) 1 1]).run Tryz.prog (w1.alloc (.cells #[.int .u64 4607182418800017408] 28)) = .ok v2 w2 from run2)
 have O2:=hide (show OwnB w.heap.size w2 v2 (oaL f 0) from own2)
 have B2:=hide (B1.trans bel2)
 clear own1 gr1 O1 B1 run2 own2 bel2 hstep hf hJ hnn
 go_enter Tryz.func281,Tryz.ntmps281
 go_wp2_with (at_builtin;refine wpList_append_ran _ rfl _ _ 23 rfl _ _ _ _ rfl rfl (uH RUN) ?_;clear RUN)
 clear hmk
 go_loopw [5,17] (fun v i wr=>∃ k:Nat,k≤n∧i = .int .i64 k∧Hid (OwnB w.heap.size wr v (oaL f k))∧Hid (Below w.heap.size w wr)) (fun _ i _=>n - (intOf i).toNat)
 case atStart=>exact ⟨0,Nat.zero_le _,rfl,O2,B2⟩
 case round =>
  clear O2 B2
  obtain ⟨k,hk,rfl,hO,hB⟩:=hrel
  by_cases hlt:k < n
  ·have hkI:(k:Int) < (n:Int):=by omega
   obtain ⟨b,off,hao,hb,hc⟩:=((uH HJ).below hB.out).ne (by rw [uH HN];omega)
   have hck:=hc k (by rw [uH HN];exact hlt)
   have C:=hide (fun w' h=>uH HS w' k h hlt)
   have ho:=hide (uH HF k hlt)
   have eo:=hide (show f k = f k from rfl)
   have hlen:=hide (show (oaL f k).length≤1000000 from by rw [oaL_len];omega)
   subst hao
   clear hc
   obtain ⟨o,eo⟩:∃ o,f k = o:=⟨_,rfl⟩
   rw [eo] at C ho
   have eV:=hide eo
   clear eo
   generalize atB J k = x at *
   go_wp2_with fail
   refine (uH C _ hB.out).mono ?_
   rintro e w2 ⟨rfl,hb2⟩
   have own2:=(uH hO).below hb2
   have B2:=hB.out.trans (hb2.mono hB.out.size)
   obtain ⟨v3,w3,run3,own3,bel3,_,_⟩:=own2.push o (uH ho) (uH hlen) B2.size 23
   have RUN:=hide run3
   have O3:=hide (show OwnB w.heap.size w3 v3 (oaL f (k+1)) from by
    rw [oaL_succ,uH eV];exact own3)
   have B3:=hide (B2.trans bel3)
   clear hb2 C hO hB own2 B2 run3 own3 bel3 ho eV hlen hck
   go_wp2_with (at_builtin;refine wpList_append_ran _ rfl _ _ 23 rfl _ _ _ _ rfl rfl (uH RUN) ?_;clear RUN)
   go_round
   case rel=>exact ⟨k+1,by omega,by go_num,O3,B3⟩
   case measure=>simp [intOf];omega
  ·have hkk:k = n:=by omega
   subst hkk
   obtain ⟨b1,d1,e1,q1⟩:=(uH hO).bits
   rw [oaL_len,hm] at e1
   subst e1
   have HNew:=hide (uH hO).newB
   have Q1:=hide q1
   clear q1 hO
   go_wp2_with fail
   exact bodyPost_ret (v:=.slice b1 m d1) (by simp [results,Tryz.results281,go_sem]) rfl ⟨b1,d1,by rw [hm],uH HNew,uH Q1,hB.out⟩
end Go.Proofs.YtdhmglmccafbnaaGreatDoor
namespace Go.Proofs.YtdhmglmccafbnaaGreatDoor
open Go.RowKit
attribute [local go_sem ↓] Go.wp_at_zero Go.wp_at_succ
def AmSt (w wr:World) (na nb:Bool) (ao bo:Option Addr) (ka kb ca cb:Nat) (x y:Int):Prop :=
 Box3 wr w.heap.size (.bool na) (.slice ao ka ca) (.int .i64 x)∧Box3 wr (w.heap.size+1) (.bool nb) (.slice bo kb cb) (.int .i64 y)∧Below w.heap.size w wr
theorem AmSt.all {w wr w':World} {na nb:Bool} {ao bo:Option Addr} {ka kb ca cb:Nat} {x y:Int} (h:AmSt w wr na nb ao bo ka kb ca cb x y) (hb:Below wr.heap.size wr w'):AmSt w w' na nb ao bo ka kb ca cb x y:=⟨h.1.all hb,h.2.1.all hb,h.2.2.trans (hb.mono h.2.2.size)⟩
theorem AmSt.start (w:World) (na nb:Bool) (ao bo:Option Addr) (ka kb ca cb:Nat) (x y:Int):AmSt w ((w.alloc (.cells #[.bool na,.slice ao ka ca,.int .i64 x] 41)).alloc (.cells #[.bool nb,.slice bo kb cb,.int .i64 y] 41)) na nb ao bo ka kb ca cb x y:=by
 have b0:=below_alloc9 w (.cells #[.bool na,.slice ao ka ca,.int .i64 x] 41)
 have s0:=size_alloc9 w (.cells #[.bool na,.slice ao ka ca,.int .i64 x] 41)
 have x0:=Box3.new w (.bool na) (.slice ao ka ca) (.int .i64 x)
 generalize w.alloc (.cells #[.bool na,.slice ao ka ca,.int .i64 x] 41) = w0 at *
 have b1:=below_alloc9 w0 (.cells #[.bool nb,.slice bo kb cb,.int .i64 y] 41)
 have k1:=Box3.new w0 (.bool nb) (.slice bo kb cb) (.int .i64 y)
 rw [s0] at k1
 exact ⟨x0.all b1,k1,b0.trans (b1.mono b0.size)⟩
end Go.Proofs.YtdhmglmccafbnaaGreatDoor
namespace Go.Proofs.YtdhmglmccafbnaaGreatDoor
open Go.RowKit
attribute [local go_sem ↓] Go.wp_at_zero Go.wp_at_succ
def DtSt (w wr:World) (lo s:Int):Prop:=Box3 wr w.heap.size (.bool false) (.slice none 0 0) (.int .i64 0)∧Kept wr (w.heap.size+1) lo s∧Below w.heap.size w wr
theorem DtSt.all {w wr w':World} {lo s:Int} (h:DtSt w wr lo s) (hb:Below wr.heap.size wr w'):DtSt w w' lo s:=⟨h.1.all hb,h.2.1.all hb,h.2.2.trans (hb.mono h.2.2.size)⟩
theorem DtSt.start (w:World) (lo:Int):DtSt w ((w.alloc (.cells #[.bool false,.slice none 0 0,.int .i64 0] 41)).alloc (.cells #[.bool false,.slice none 0 0,.int .i64 0] 41)) lo 0:=by
 have b0:=below_alloc9 w (.cells #[.bool false,.slice none 0 0,.int .i64 0] 41)
 have s0:=size_alloc9 w (.cells #[.bool false,.slice none 0 0,.int .i64 0] 41)
 have x0:=Box3.new w (.bool false) (.slice none 0 0) (.int .i64 0)
 generalize w.alloc (.cells #[.bool false,.slice none 0 0,.int .i64 0] 41) = w0 at *
 have b1:=below_alloc9 w0 (.cells #[.bool false,.slice none 0 0,.int .i64 0] 41)
 have k1:=Kept.new w0 lo
 rw [s0] at k1
 exact ⟨x0.all b1,k1,b0.trans (b1.mono b0.size)⟩
theorem DtSt.put {w wr:World} {lo s t:Int} (h:DtSt w wr lo s) {n:Bool} {a:Option Addr} {l c:Nat} {X:Int} (hv:IsLv wr (.agg #[.bool n,.slice a l c,.int .i64 X]) lo t) :
  DtSt w (((wr.setCell ⟨w.heap.size+1,0,none⟩ (.bool n)).setCell ⟨w.heap.size+1,1,none⟩ (.slice a l c)).setCell ⟨w.heap.size+1,2,none⟩ (.int .i64 X)) lo t:=by
 obtain ⟨h1,⟨n',a',l',c',X',h2,_⟩,h3⟩:=h
 have ne:w.heap.size ≠ w.heap.size+1:=by omega
 exact ⟨((h1.other (p:=⟨w.heap.size+1,0,none⟩) ne _).other (p:=⟨w.heap.size+1,1,none⟩) ne _).other (p:=⟨w.heap.size+1,2,none⟩) ne _,⟨n,a,l,c,X,h2.put _ _ _,IsDy.put3 hv h2 _ _ _⟩,below_put3 h3 (by omega) _ _ _⟩
theorem rdot_of (ao bo:Option Addr) (c d n:Nat) (I J:List Int) (lo lo2:Int) (fa fb sm:Nat→Int) (w:World) (hI:BitsAt w ao c I) (hJ:BitsAt w bo d J) (hi:I.length = n) (hj:J.length = n) (hn:n≤8) (h0:sm 0 = 0)
  (C1:∀ w' k,k < n→Calls Tryz.prog 65 #[.int .u64 (atB I k:Nat)] w' fun r w''=>∃ u,r = .returned u∧IsLv w'' u lo (fa k)∧Below w'.heap.size w' w'')
  (C2:∀ w' k,k < n→Calls Tryz.prog 65 #[.int .u64 (atB J k:Nat)] w' fun r w''=>∃ u,r = .returned u∧IsLv w'' u lo (fb k)∧Below w'.heap.size w' w'')
  (C3:∀ w' k v u,k < n→IsLv w' v lo (fa k)→IsLv w' u lo (fb k)→Calls Tryz.prog 25 #[v,u] w' fun r w''=>∃ q,r = .returned q∧IsLv w'' q lo2 (fa k * fb k)∧Below w'.heap.size w' w'')
  (C4:∀ w' k v u,k < n→IsLv w' v lo2 (sm k)→IsLv w' u lo2 (fa k * fb k)→Calls Tryz.prog 26 #[v,u] w' fun r w''=>∃ q,r = .returned q∧IsLv w'' q lo2 (sm (k+1))∧Below w'.heap.size w' w'') :
  Calls Tryz.prog 49 #[.slice ao n c,.slice bo n d] w fun e w'=>∃ v,e = .returned v∧IsLv w' v lo2 (sm n)∧Below w.heap.size w w':=by
 have K1:=hide C1;have K2:=hide C2;have K3:=hide C3;have K4:=hide C4;have HI:=hide hI;have HJ:=hide hJ;have LI:=hide hi;have LJ:=hide hj
 have ST:=hide (show DtSt w _ lo2 (sm 0) from by rw [h0];exact DtSt.start w lo2)
 clear C1 C2 C3 C4 hI hJ hi hj h0
 go_enter Tryz.func49,Tryz.ntmps49
 go_wp2_with fail
 go_loopw [6] (fun i wr=>∃ k:Nat,k≤n∧i = .int .i64 k∧Hid (DtSt w wr lo2 (sm k))) (fun i _=>n - (intOf i).toNat)
 case atStart=>exact ⟨0,Nat.zero_le _,rfl,ST⟩
 case round =>
  clear ST
  obtain ⟨k,hk,rfl,hS⟩:=hrel
  by_cases hlt:k < n
  ·have hkI:(k:Int) < (n:Int):=by omega
   have W1:=hide (fun w'=>uH K1 w' k hlt)
   have W2:=hide (fun w'=>uH K2 w' k hlt)
   have W3:=hide (fun w' v u=>uH K3 w' k v u hlt)
   have W4:=hide (fun w' v u=>uH K4 w' k v u hlt)
   obtain ⟨b1,o1,rfl,p1,q1⟩:=(uH HI).ne (by rw [uH LI];omega)
   obtain ⟨b2,o2,rfl,p2,q2⟩:=(uH HJ).ne (by rw [uH LJ];omega)
   have cx:=q1 k (by rw [uH LI];exact hlt)
   have cy:=q2 k (by rw [uH LJ];exact hlt)
   generalize atB I k = x at *
   generalize atB J k = y at *
   have KX:=hide cx;have KY:=hide cy;have P1:=hide p1;have P2:=hide p2
   clear q1 q2 cx cy p1 p2
   go_wp2_with fail
   refine at_world (fun W=>DtSt w W lo2 (sm k)) (uH hS) ?_
   clear hS
   rintro W0 hS
   have D0:=(Below.refl W0.heap.size W0).drew
   have SS:=hide (hS.all D0)
   obtain ⟨nn,aa,ll,cc,X,bx,ix⟩:=(uH SS).2.1
   have y0:=bx.c0;have y1:=bx.c1;have y2:=bx.c2;have f0:=bx.free 0;have f1:=bx.free 1;have f2:=bx.free 2
   have BX:=hide bx;have IX:=hide ix
   have HK:=hide (show ∀ w' (h:Below w.heap.size w w'),w'.cell? ⟨b1,o1+k,none⟩ = some (.int .u64 (x:Nat))∧w'.cell? ⟨b2,o2+k,none⟩ = some (.int .u64 (y:Nat)) from fun w' h =>
    ⟨(h.cell (p:=⟨b1,o1+k,none⟩) (uH P1)).trans (uH KX),(h.cell (p:=⟨b2,o2+k,none⟩) (uH P2)).trans (uH KY)⟩)
   clear hS D0 bx ix KX KY P1 P2
   obtain ⟨cx,cy⟩:=uH HK _ (uH SS).2.2
   go_region_with (first
     | (go_at_call_of 65 x;refine (uH W1 _).mono ?_;rintro e w4 ⟨q,rfl,hq,hb1⟩;replace SS:=hide ((uH SS).all hb1);(first | (replace QY:=hide ((uH QY).below hb1)) | skip);have QX:=hide hq;clear y0 y1 y2 f0 f1 f2 cx cy;replace BX:=hide ((uH BX).all hb1);replace IX:=hide ((uH IX).below hb1);obtain ⟨cx,cy⟩:=uH HK _ (uH SS).2.2;have y0:=(uH BX).c0;have y1:=(uH BX).c1;have y2:=(uH BX).c2;have f0:=(uH BX).free 0;have f1:=(uH BX).free 1;have f2:=(uH BX).free 2;clear hq hb1)
     | (go_at_call_of 65 y;refine (uH W2 _).mono ?_;rintro e w4 ⟨q,rfl,hq,hb1⟩;replace SS:=hide ((uH SS).all hb1);(first | (replace QX:=hide ((uH QX).below hb1)) | skip);have QY:=hide hq;clear y0 y1 y2 f0 f1 f2 cx cy;replace BX:=hide ((uH BX).all hb1);replace IX:=hide ((uH IX).below hb1);obtain ⟨cx,cy⟩:=uH HK _ (uH SS).2.2;have y0:=(uH BX).c0;have y1:=(uH BX).c1;have y2:=(uH BX).c2;have f0:=(uH BX).free 0;have f1:=(uH BX).free 1;have f2:=(uH BX).free 2;clear hq hb1)
     | (go_at_call 25;refine (uH W3 _ _ _ (uH QX) (uH QY)).mono ?_;rintro e w4 ⟨q,rfl,hq,hb1⟩;replace SS:=hide ((uH SS).all hb1);have QP:=hide hq;clear y0 y1 y2 f0 f1 f2 cx cy;replace BX:=hide ((uH BX).all hb1);replace IX:=hide ((uH IX).below hb1);obtain ⟨cx,cy⟩:=uH HK _ (uH SS).2.2;have y0:=(uH BX).c0;have y1:=(uH BX).c1;have y2:=(uH BX).c2;have f0:=(uH BX).free 0;have f1:=(uH BX).free 1;have f2:=(uH BX).free 2;clear hq hb1)
     | (go_at_call 26;refine (uH W4 _ _ _ (uH IX) (uH QP)).mono ?_;rintro e w4 ⟨q,rfl,⟨n5,a5,c5,L5,rfl,i5⟩,hb1⟩;replace SS:=hide ((uH SS).all hb1);have QS:=hide (show IsLv w4 (.agg #[.bool n5,.slice a5 L5.length c5,.int .i64 (oE (sm (k+1)) lo2)]) lo2 (sm (k+1)) from ⟨n5,a5,c5,L5,rfl,i5⟩);clear y0 y1 y2 f0 f1 f2 cx cy;replace BX:=hide ((uH BX).all hb1);obtain ⟨cx,cy⟩:=uH HK _ (uH SS).2.2;have y0:=(uH BX).c0;have y1:=(uH BX).c1;have y2:=(uH BX).c2;have f0:=(uH BX).free 0;have f1:=(uH BX).free 1;have f2:=(uH BX).free 2;have SF:=hide ((uH SS).put (uH QS));clear i5 hb1)
     | fail "NO ARM")
   all_goals
    go_wp2_with fail
    go_round
    case rel=>exact ⟨k+1,by omega,by go_num,SF⟩
    case measure=>simp [intOf];omega
  ·have hkk:k = n:=by omega
   subst hkk
   obtain ⟨h1,⟨nn,aa,ll,cc,X,bx,ix⟩,h3⟩:=uH hS
   have y0:=bx.c0;have y1:=bx.c1;have y2:=bx.c2
   have r0:=h1.c0;have r1:=h1.c1;have r2:=h1.c2;have f0:=h1.free 0;have f1:=h1.free 1;have f2:=h1.free 2
   have xe:=h1.put (.bool nn) (.slice aa ll cc) (.int .i64 X)
   have e0:=xe.c0;have e1:=xe.c1;have e2:=xe.c2
   have HS:=hide (IsDy.put3 ix h1 (.bool nn) (.slice aa ll cc) (.int .i64 X))
   have BE:=hide (below_put3 h3 (Nat.le_refl _) (.bool nn) (.slice aa ll cc) (.int .i64 X))
   clear xe h1 bx ix h3 hS
   go_wp2_with fail
   exact bodyPost_ret (v:=.agg #[.bool nn,.slice aa ll cc,.int .i64 X]) (by simp [results,Tryz.results49,go_sem,e0,e1,e2]) rfl ⟨_,rfl,uH HS,uH BE⟩
end Go.Proofs.YtdhmglmccafbnaaGreatDoor
