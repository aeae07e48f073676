/- Part 26 of the texts. -/
import Derived.Test.YtcbcmlaogehimaaGreatDoorPartc25
import Derived.Test.YtcbcmlaogehimaaGreatDoorPartc24
import Derived.Test.YtcbcmlaogehimaaGreatDoorPartc18
import Derived.Deep.RegionHeld3
import Derived.Test.YtcbcmlaogehimaaGreatDoorPartc17
import Derived.Test.YtcbcmlaogehimaaGreatDoorPartc16
import Derived.Test.YtcbcmlaogehimaaGreatDoorPartc14
import Derived.Test.YtcbcmlaogehimaaGreatDoorPartc20
import Derived.Test.YtcbcmlaogehimaaGreatDoorPartc19
import Derived.Test.YtcbcmlaogehimaaGreatDoorPartc21
import Derived.Deep.RegionLaw
import Derived.Test.YtcbcmlaogehimaaGreatDoorPartc11
import Derived.Test.YtcbcmlaogehimaaGreatDoorPartc12
import Derived.Test.YtcbcmlaogehimaaGreatDoorPartc13
import Derived.Deep.Cut
import Derived.BigQuiet
import Derived.Test.YtcbcmlaogehimaaGreatDoorPartc04
import Derived.Maps.AppendAt
import Derived.Test.YtcbcmlaogehimaaGreatDoorPartc22
import Derived.Test.YtcbcmlaogehimaaGreatDoorPartc06
import Derived.Lib.BitFns
import Derived.Test.YtcbcmlaogehimaaGreatDoorPartc05
import Derived.Test.YtcbcmlaogehimaaGreatDoorPartc07
import Derived.Maps.Own
import Derived.Maps.OwnOps
import Derived.Maps.OwnSet
import Derived.DeepKeys4
import Derived.Test.YtcbcmlaogehimaaGreatDoorPartc08
import Derived.WalkSmall
import Derived.Test.YtcbcmlaogehimaaGreatDoorPartc01
import Derived.OwnWalk
import Derived.Test.YtcbcmlaogehimaaGreatDoorPartc02
import Derived.Deep.RegionWith
import Derived.Deep.CutRange
import Derived.Test.YtcbcmlaogehimaaGreatDoorPartc23
set_option maxHeartbeats 4000000
set_option maxRecDepth 20000
namespace Go.Proofs.YtcbcmlaogehimaaGreatDoor
open Go.RowKit
theorem toN_cons {I:List Int} (h:1≤I.length):toN I = atB I 0 :: (toN I).drop 1:=by
 have h1:0 < (toN I).length:=by rw [toN_len];omega
 have:=List.drop_eq_getElem_cons h1
 rw [List.drop_zero] at this
 rw [this]
 congr 1
 have e:=toN_at I 0 (by omega)
 rw [List.getElem?_eq_getElem h1] at e
 exact Option.some.inj e
theorem drop_getD (I:List Int) {j:Nat} (h:j+1 < I.length):((toN I).drop 1).getD j 0 = atB I (j+1):=by
 rw [List.getD_eq_getElem?_getD,List.getElem?_drop,Nat.add_comm 1 j,toN_at I (j+1) h]
 rfl
theorem mr_mkJ {I:List Int} (h:1≤I.length) (k:Nat→Nat) (hk:∀ x,(if ngt ((toN I).drop 1) = true then 0 else dV x (hmD (atB I 0) ((toN I).drop 1))) = k x):mrV (toN I) = mkJ (fun j=>k (atB I (j+1))) I.length:=by
 have hl:((toN I).drop 1).length = I.length - 1:=by rw [List.length_drop,toN_len]
 rw [toN_cons h]
 show 4607182418800017408 :: ((toN I).drop 1).map (fun x=>if ngt ((toN I).drop 1) = true then 0 else dV x (hmD (atB I 0) ((toN I).drop 1))) = 4607182418800017408 :: fsL (fun j=>k (atB I (j+1))) (I.length - 1)
 congr 1
 rw [List.map_congr_left (g:=k) (fun x _=>hk x),list_range ((toN I).drop 1),List.map_map,hl]
 unfold fsL
 refine List.map_congr_left (fun j hj=>?_)
 show k (((toN I).drop 1).getD j 0) = _
 rw [drop_getD I (by have:=List.mem_range.1 hj;omega)]
theorem mk_facts {I:List Int} (h:1≤I.length):mrB (toN I) = (if ngt ((toN I).drop 1) = true then atB I 0 else hmB (atB I 0) ((toN I).drop 1))∧mrT (toN I) = (if ngt ((toN I).drop 1) = true then 0 else dV (aV (hmB (atB I 0) ((toN I).drop 1)) (fN (atB I 0))) (hmB (atB I 0) ((toN I).drop 1)))∧mrK (toN I) = (ngt ((toN I).drop 1) || (fFin (hmB (atB I 0) ((toN I).drop 1)) && fFin (hmD (atB I 0) ((toN I).drop 1)))):=by
 have e:=toN_cons h
 refine ⟨?_,?_,?_⟩
 ·conv=>lhs;rw [e]
  rfl
 ·conv=>lhs;rw [e]
  rfl
 ·conv=>lhs;rw [e]
  rfl
end Go.Proofs.YtcbcmlaogehimaaGreatDoor
namespace Go.Proofs.YtcbcmlaogehimaaGreatDoor
open Go.RowKit
theorem qrK_all (r c:Nat) (S:List Nat):∀ K,qrK r c S K = true ↔ ∀ j,j < K→finL (qrX r c S j) = true∧mrK (qrX r c S j) = true:=by
 intro K
 induction K with
 | zero=>exact ⟨fun _ j h=>absurd h (Nat.not_lt_zero j),fun _=>rfl⟩
 | succ K ih =>
  show (qrK r c S K && (finL (qrX r c S K) && mrK (qrX r c S K))) = true ↔ _
  rw [Bool.and_eq_true,Bool.and_eq_true,ih]
  constructor
  ·rintro ⟨h1,h2⟩ j hj
   by_cases g:j < K
   ·exact h1 j g
   ·rw [show j = K by omega];exact h2
  ·intro h
   exact ⟨fun j hj=>h j (by omega),h K (by omega)⟩
theorem elS_lt {S:List Nat} (h:∀ x ∈ S,x < 18446744073709551616) (c p q:Nat):elM c S p q < 18446744073709551616:=by
 unfold elM
 rw [List.getD_eq_getElem?_getD]
 cases e:S[p * c+q]? with
 | none=>decide
 | some x=>exact h x (List.mem_of_getElem? e)
theorem colL_lt {S:List Nat} (h:∀ x ∈ S,x < 18446744073709551616) (c i n q:Nat):∀ x ∈ colL c S i n q,x < 18446744073709551616:=by
 intro x hx
 obtain ⟨j,_,rfl⟩:=List.mem_map.1 hx
 exact elS_lt h c _ _
theorem apS_lt {r c:Nat} {S:List Nat} (hS:∀ x ∈ S,x < 18446744073709551616) (i k:Nat) (vs:List Nat) (tau:Nat):∀ x ∈ apM r c S i k vs tau,x < 18446744073709551616:=by
 intro x hx
 unfold apM mkM at hx
 obtain ⟨p,_,rfl⟩:=List.mem_map.1 hx
 show (if _ then _ else _) < _
 split
 ·exact apL_lt c S i _ vs tau (by omega) (fun p q=>elS_lt hS c p q)
 ·exact elS_lt hS c _ _
theorem clS_lt {r c:Nat} {S:List Nat} (hS:∀ x ∈ S,x < 18446744073709551616) (j b:Nat) (hb:b < 18446744073709551616):∀ x ∈ clM r c S j b,x < 18446744073709551616:=by
 intro x hx
 unfold clM clJ mkM at hx
 obtain ⟨p,_,rfl⟩:=List.mem_map.1 hx
 show (if _ then (if _ then _ else _) else _) < _
 split
 ·split
  ·exact hb
  ·decide
 ·exact elS_lt hS c _ _
theorem qrR_lt {r c:Nat} {S:List Nat} (hS:∀ x ∈ S,x < 18446744073709551616):∀ j,∀ x ∈ qrR r c S j,x < 18446744073709551616
 | 0=>hS
 | j+1=>clS_lt (apS_lt (qrR_lt hS j) _ _ _ _) _ _ (mrB_lt _ (colL_lt (qrR_lt hS j) _ _ _ _))
end Go.Proofs.YtcbcmlaogehimaaGreatDoor
namespace Go.Proofs.YtcbcmlaogehimaaGreatDoor
open Go.RowKit
attribute [local go_sem ↓] Go.wp_at_zero Go.wp_at_succ
theorem hbelow_any (ao:Option Addr) (c:Nat) (I:List Int) (w:World) (hI:BitsAt w ao c I) (hn:I.length≤64) :
  Calls Tryz.prog 279 #[.slice ao I.length c] w fun e w'=>e = .returned (.bool (ldS (toN I)))∧Below w.heap.size w w':=by
 have HI:=hide hI
 obtain ⟨L,hL⟩:∃ L:Nat→Bool,L = fun j=>ldS ((toN I).drop j):=⟨_,rfl⟩
 have L0:ldS (toN I) = L 0:=by rw [hL];rfl
 have LE:∀ j,I.length≤j→L j = false:=fun j hj=>by
  rw [hL]
  show ldS ((toN I).drop j) = false
  rw [List.drop_eq_nil_of_le (by rw [toN_len];exact hj)]
  rfl
 have LS:∀ j,j < I.length→L j = if fK (atB I j) = 0 then L (j+1) else fS (atB I j):=fun j hj=>by
  rw [hL]
  show ldS ((toN I).drop j) = _
  rw [ldS_drop (toN I) (by rw [toN_len];exact hj),toN_getD I j hj]
 rw [L0]
 obtain ⟨v,hv⟩:∃ v,L 0 = v:=⟨_,rfl⟩
 have HE:=hide LE;have HS:=hide LS
 obtain ⟨n,hnn⟩:∃ n,I.length = n:=⟨_,rfl⟩
 rw [hnn] at hn HE HS ⊢
 rw [hv]
 have HN:=hide hnn
 have HV:=hide hv
 clear hI hL L0 LE LS hnn hv
 go_enter Tryz.func279,Tryz.ntmps279
 go_wp2_with fail
 go_loopw [7] (fun i wr=>∃ j:Nat,j≤n∧i = .int .i64 j∧Hid (L j = v)∧Hid (Below w.heap.size w wr)) (fun i _=>n - (intOf i).toNat)
 case atStart=>exact ⟨0,Nat.zero_le _,rfl,HV,Below.refl _ _⟩
 case round =>
  obtain ⟨j,hj,rfl,hL,hB⟩:=hrel
  by_cases hlt:j < n
  ·have hjI:(j:Int) < (n:Int):=by omega
   obtain ⟨b,off,hao,hb,hc⟩:=((uH HI).below hB.out).ne (by rw [uH HN];omega)
   have hck:=hide (hc j (by rw [uH HN];exact hlt))
   have C1:=hide (fun w'=>kind_any (atB I j) w' ((uH HI).lt j))
   have C2:=hide (fun w'=>ssign_any (atB I j) w' ((uH HI).lt j))
   have HJ:=hide (uH HS j hlt)
   subst hao
   clear hc
   by_cases g0:fK (atB I j) = 0
   ·have R2:=hide (show L (j+1) = v from by have:=uH HJ;rw [uH hL,if_pos g0] at this;exact this.symm)
    rw [g0] at C1
    clear HJ g0 C2
    generalize atB I j = x at *
    have hc0:=uH hck
    go_wp2_with fail
    refine (uH C1 _).mono ?_
    rintro e w2 ⟨rfl,hb2⟩
    have B2:Hid (Below w.heap.size w w2):=hB.out.trans (hb2.mono hB.out.size)
    clear C1 hb2 hck hc0 hB
    go_wp2_with fail
    go_round
    case rel=>exact ⟨j+1,by omega,by go_num,R2,B2⟩
    case measure=>simp [intOf];omega
   ·have R2:fS (atB I j) = v:=by have:=uH HJ;rw [uH hL,if_neg g0] at this;exact this.symm
    have g0':(fK (atB I j) == 0) = false:=by rw [beq_eq_false_iff_ne];exact g0
    rw [R2] at C2
    clear HJ R2
    generalize fK (atB I j) = kd at *
    generalize atB I j = x at *
    have hc0:=uH hck
    go_wp2_with fail
    refine (uH C1 _).mono ?_
    rintro e w2 ⟨rfl,hb2⟩
    have B2:Hid (Below w.heap.size w w2):=hB.out.trans (hb2.mono hB.out.size)
    clear C1 hb2 hck hc0 hB
    go_wp2_with fail
    refine (uH C2 _).mono ?_
    rintro e w3 ⟨rfl,hb2⟩
    have B3:Hid (Below w.heap.size w w3):=B2.out.trans (hb2.mono B2.out.size)
    clear C2 hb2 B2
    go_wp2_with fail
    exact bodyPost_ret (v:=.bool v) (by simp [results,Tryz.results279,go_sem]) rfl ⟨rfl,B3.out⟩
  ·have hv2:v = false:=by have:=uH HE j (by omega);rw [uH hL] at this;exact this
   subst hv2
   have hjI:(n:Int)≤(j:Int):=by omega
   go_wp2_with fail
   exact bodyPost_ret (v:=.bool false) (by simp [results,Tryz.results279,go_sem]) rfl ⟨rfl,hB.out⟩
theorem hbeta_of (ao:Option Addr) (n c m o:Nat) (s:Bool) (w:World) (h:(s = true∧o = m) ∨ (s = false∧o = fN m)) (hm:m < 18446744073709551616)
  (C1:Calls Tryz.prog 210 #[.slice ao n c] w fun e w''=>e = .returned (.tuple #[.int .u64 (m:Nat),.int .i64 0])∧Below w.heap.size w w'')
  (C2:∀ w',Below w.heap.size w w'→Calls Tryz.prog 279 #[.slice ao n c] w' fun e w''=>e = .returned (.bool s)∧Below w'.heap.size w' w'') :
  Calls Tryz.prog 257 #[.slice ao n c] w fun e w'=>e = .returned (.int .u64 (o:Nat))∧Below w.heap.size w w':=by
 have K1:=hide C1;have K2:=hide C2
 have K3:=hide (fun w'=>sminus_any m w' hm)
 clear C1 C2 hm
 rcases h with ⟨rfl,rfl⟩ | ⟨rfl,rfl⟩
 ·clear K3
  go_enter Tryz.func257,Tryz.ntmps257
  go_wp2_with fail
  refine Calls.mono (uH K1) ?_
  rintro e w1 ⟨rfl,hb1⟩
  have B1:=hide hb1
  clear K1 hb1
  go_wp2_with fail
  refine (uH K2 _ (uH B1)).mono ?_
  rintro e w2 ⟨rfl,hb2⟩
  have B2:=hide ((uH B1).trans (hb2.mono (uH B1).size))
  clear K2 hb2 B1
  go_wp2
  go_ret
  exact ⟨rfl,uH B2⟩
 ·generalize fN m = o at *
  go_enter Tryz.func257,Tryz.ntmps257
  go_wp2_with fail
  refine Calls.mono (uH K1) ?_
  rintro e w1 ⟨rfl,hb1⟩
  have B1:=hide hb1
  clear K1 hb1
  go_wp2_with fail
  refine (uH K2 _ (uH B1)).mono ?_
  rintro e w2 ⟨rfl,hb2⟩
  have B2:=hide ((uH B1).trans (hb2.mono (uH B1).size))
  clear K2 hb2 B1
  go_wp2_with fail
  refine (uH K3 _).mono ?_
  rintro e w3 ⟨rfl,rfl⟩
  clear K3
  go_wp2
  go_ret
  exact ⟨rfl,uH B2⟩
theorem hbeta_any (ao:Option Addr) (c:Nat) (I:List Int) (w:World) (hI:BitsAt w ao c I) (hn:I.length≤64) (hT:Tab w) :
  Calls Tryz.prog 257 #[.slice ao I.length c] w fun e w'=>e = .returned (.int .u64 ((if ldS (toN I) = true then nrV (toN I) else fN (nrV (toN I)):Nat):Nat))∧Below w.heap.size w w':=by
 have C1:=vNorm_ok ao c I w hI hn hT
 rw [nmV_nrV] at C1
 refine hbeta_of ao I.length c (nrV (toN I)) _ (ldS (toN I)) w ?_ (nrV_lt _) C1 (fun w' hb=>hbelow_any ao c I w' (hI.below hb) hn)
 cases ldS (toN I)
 ·exact .inr ⟨rfl,if_neg (by decide)⟩
 ·exact .inl ⟨rfl,if_pos rfl⟩
theorem hmake1_any (x:Nat) (w:World) :
  Calls Tryz.prog 256 #[.int .u64 x] w fun e w'=>e = .returned (.int .u64 (0:Nat))∧Below w.heap.size w w':=by
 go_enter Tryz.func256,Tryz.ntmps256
 go_wp2
 go_ret
 exact ⟨rfl,Below.refl _ _⟩
theorem hmake2_any (x d g:Nat) (w:World) (hx:x < 18446744073709551616) (hd:d < 18446744073709551616) (hg:w.cell? ⟨g,0,none⟩ = some (.int .u64 (d:Nat))) (hT:Tab w) :
  Calls Tryz.prog 258 #[.int .u64 x,.pointer (some ⟨g,0,none⟩)] w fun e w'=>e = .returned (.int .u64 (dV x d:Nat))∧Below w.heap.size w w':=by
 have K:=hide (pdiv_any x d w hx hd hT)
 generalize dV x d = o at *
 clear hx hd hT
 go_enter Tryz.func258,Tryz.ntmps258
 go_wp2_with fail
 refine Calls.mono (uH K) ?_
 rintro e w1 ⟨rfl,hb1⟩
 clear K
 go_wp2
 go_ret
 exact ⟨rfl,hb1⟩
def oaL (f:Nat→Nat) (k:Nat):List Nat:=4607182418800017408 :: fsL f k
theorem oaL_len (f:Nat→Nat) (k:Nat):(oaL f k).length = k+1:=by
 show (fsL f k).length+1 = _
 rw [fsL_len]
theorem oaL_succ (f:Nat→Nat) (k:Nat):oaL f (k+1) = oaL f k ++ [f k]:=by
 show 4607182418800017408 :: fsL f (k+1) = (4607182418800017408 :: fsL f k) ++ [f k]
 rw [fsL_succ]
 rfl
theorem oneAnd_any (fn:Nat) (caps:Array Value) (ao:Option Addr) (c:Nat) (J:List Int) (f:Nat→Nat) (w:World)
  (hcf:∀ args w,(callFunc fn args).run Tryz.prog w = .ok (.enter fn args) w) (hJ:BitsAt w ao c J) (hn:J.length≤64) (hf:∀ k,k < J.length→f k < 18446744073709551616)
  (hstep:∀ w' k,Below w.heap.size w w'→k < J.length→Calls Tryz.prog fn (#[.int .u64 (atB J k:Nat)] ++ caps) w' fun e w''=>e = .returned (.int .u64 (f k:Nat))∧Below w'.heap.size w' w'') :
  Calls Tryz.prog 255 #[.slice ao J.length c,.func (.func fn) #[] caps] w fun e w'=>∃ bo d,e = .returned (.slice bo (J.length+1:Nat) d)∧NewB w.heap.size bo (mxL (oaL f J.length))∧BitsAt w' bo d (mxL (oaL f J.length))∧Below w.heap.size w w':=by
 obtain ⟨i0,hi0,hz0,hz1,hz2⟩:=info_parts infoBits
 have HS:=hide hstep;have HF:=hide hf;have HJ:=hide hJ
 obtain ⟨n,hnn⟩:∃ n,J.length = n:=⟨_,rfl⟩
 rw [hnn] at hn HS HF ⊢
 have HN:=hide hnn
 obtain ⟨m,hm⟩:∃ m,n+1 = m:=⟨_,rfl⟩
 have hmI:(1:Int)+(n:Int) = (m:Int):=by omega
 obtain ⟨w1,hmk,own1,gr1⟩:=run_make_own (P:=Tryz.prog) w w.heap.size 22 69 i0 (.int .u64 0) 1 Tryz.underlying22 hi0 hz0 hz1 .i64 .i64 m (by rw [hz2];omega) (by unfold maxLen;omega) (by simp)
 have B1:Below w.heap.size w w1:=(Below.refl w.heap.size w).grown gr1 (by simp) (fun g hg=>by cases hg)
 have O1:OwnB w.heap.size w1 (.slice (some ⟨w.heap.size,0,none⟩) 0 m) []:=⟨by simpa using own1,by intro x hx;cases hx⟩
 generalize Value.slice (some ⟨w.heap.size,0,none⟩) 0 m = v1 at hmk O1
 obtain ⟨v2,w2,run2,own2,bel2,_,_⟩:=O1.push 4607182418800017408 (by decide) (by simp) B1.size 22
 have RUN:=hide (show (Builtin.append_ #[22,22] 22 #[v1,.slice (some ⟨w1.heap.size,0,none⟩) 1 1]).run Tryz.prog (w1.alloc (.cells #[.int .u64 4607182418800017408] 69)) = .ok v2 w2 from run2)
 have O2:=hide (show OwnB w.heap.size w2 v2 (oaL f 0) from own2)
 have B2:=hide (B1.trans bel2)
 clear own1 gr1 O1 B1 run2 own2 bel2 hstep hf hJ hnn
 go_enter Tryz.func255,Tryz.ntmps255
 go_wp2_with (at_builtin;refine wpList_append_ran _ rfl _ _ 22 rfl _ _ _ _ rfl rfl (uH RUN) ?_;clear RUN)
 clear hmk
 go_loopw [5,17] (fun v i wr=>∃ k:Nat,k≤n∧i = .int .i64 k∧Hid (OwnB w.heap.size wr v (oaL f k))∧Hid (Below w.heap.size w wr)) (fun _ i _=>n - (intOf i).toNat)
 case atStart=>exact ⟨0,Nat.zero_le _,rfl,O2,B2⟩
 case round =>
  clear O2 B2
  obtain ⟨k,hk,rfl,hO,hB⟩:=hrel
  by_cases hlt:k < n
  ·have hkI:(k:Int) < (n:Int):=by omega
   obtain ⟨b,off,hao,hb,hc⟩:=((uH HJ).below hB.out).ne (by rw [uH HN];omega)
   have hck:=hc k (by rw [uH HN];exact hlt)
   have C:=hide (fun w' h=>uH HS w' k h hlt)
   have ho:=hide (uH HF k hlt)
   have eo:=hide (show f k = f k from rfl)
   have hlen:=hide (show (oaL f k).length≤1000000 from by rw [oaL_len];omega)
   subst hao
   clear hc
   obtain ⟨o,eo⟩:∃ o,f k = o:=⟨_,rfl⟩
   rw [eo] at C ho
   have eV:=hide eo
   clear eo
   generalize atB J k = x at *
   go_wp2_with fail
   refine (uH C _ hB.out).mono ?_
   rintro e w2 ⟨rfl,hb2⟩
   have own2:=(uH hO).below hb2
   have B2:=hB.out.trans (hb2.mono hB.out.size)
   obtain ⟨v3,w3,run3,own3,bel3,_,_⟩:=own2.push o (uH ho) (uH hlen) B2.size 22
   have RUN:=hide run3
   have O3:=hide (show OwnB w.heap.size w3 v3 (oaL f (k+1)) from by
    rw [oaL_succ,uH eV];exact own3)
   have B3:=hide (B2.trans bel3)
   clear hb2 C hO hB own2 B2 run3 own3 bel3 ho eV hlen hck
   go_wp2_with (at_builtin;refine wpList_append_ran _ rfl _ _ 22 rfl _ _ _ _ rfl rfl (uH RUN) ?_;clear RUN)
   go_round
   case rel=>exact ⟨k+1,by omega,by go_num,O3,B3⟩
   case measure=>simp [intOf];omega
  ·have hkk:k = n:=by omega
   subst hkk
   obtain ⟨b1,d1,e1,q1⟩:=(uH hO).bits
   rw [oaL_len,hm] at e1
   subst e1
   have HNew:=hide (uH hO).newB
   have Q1:=hide q1
   clear q1 hO
   go_wp2_with fail
   exact bodyPost_ret (v:=.slice b1 m d1) (by simp [results,Tryz.results255,go_sem]) rfl ⟨b1,d1,by rw [hm],uH HNew,uH Q1,hB.out⟩
end Go.Proofs.YtcbcmlaogehimaaGreatDoor
namespace Go.Proofs.YtcbcmlaogehimaaGreatDoor
open Go.RowKit
attribute [local go_sem ↓] Go.wp_at_zero Go.wp_at_succ
theorem r11check_any (r c:Int) (ao:Option Addr) (cap:Nat) (I:List Int) (w:World) (hI:BitsAt w ao cap I) (hn:I.length≤35184372088830) :
  Calls Tryz.prog 16 #[.agg #[.int .i64 r,.int .i64 c,.slice ao I.length cap]] w fun e w'=>e = .returned (.int .i64 (ckE r c I))∧Below w.heap.size w w':=by
 have K1:=hide (fun w'=>rright_any r c ao I.length cap w')
 have K2:=hide (fun w' (h:BitsAt w' ao cap I)=>r9finite_any ao cap I w' h hn)
 have BB:=hide (below_alloc9 w (.cells #[.int .i64 r,.int .i64 c,.slice ao I.length cap] 24))
 have X0:=hide (BoxM.new w (.int .i64 r) (.int .i64 c) (.slice ao I.length cap))
 have HI:=hide hI
 unfold ckE
 generalize okB r c I.length = b at *
 generalize fnK I I.length = f at *
 generalize I.length = n at *
 clear hI
 cases b
 ·clear K2
  go_enter Tryz.func16,Tryz.ntmps16
  go_wp2_with fail
  refine (uH K1 _).mono ?_
  rintro e w1 ⟨rfl,hb1⟩
  have PB:=hide ((uH BB).trans (hb1.mono (uH BB).size))
  clear hb1 K1 X0
  go_wp2
  go_ret
  exact ⟨rfl,uH PB⟩
 ·cases f
  all_goals
   go_enter Tryz.func16,Tryz.ntmps16
   go_wp2_with fail
   refine (uH K1 _).mono ?_
   rintro e w1 ⟨rfl,hb1⟩
   replace BB:=hide ((uH BB).trans (hb1.mono (uH BB).size));replace X0:=hide ((uH X0).all hb1)
   clear hb1 K1
   have y2:=(uH X0).c2
   go_wp2_with fail
   refine (uH K2 _ ((uH HI).below (uH BB))).mono ?_
   rintro e w2 ⟨rfl,hb1⟩
   replace BB:=hide ((uH BB).trans (hb1.mono (uH BB).size))
   clear hb1 K2 y2
   go_wp2
   go_ret
   exact ⟨rfl,uH BB⟩
theorem sqK_sm (S:List Nat):∀ k,sqK (mxL S) k = smI (fun p=>fZ (S.getD p 0) * fZ (S.getD p 0)) k
 | 0=>rfl
 | k+1=>by
  show sqK (mxL S) k+fZ (atB (mxL S) k) * fZ (atB (mxL S) k) = smI _ k+_
  rw [sqK_sm S k,mxL_at]
theorem fnK_all {I:List Int}:∀ n,fnK I n = true ↔ ∀ k,k < n→fFin (atB I k) = true
 | 0=>⟨fun _ k hk=>by omega,fun _=>rfl⟩
 | n+1=>by
  show (fnK I n && fFin (atB I n)) = true ↔ _
  rw [Bool.and_eq_true,fnK_all n]
  constructor
  ·rintro ⟨h1,h2⟩ k hk
   by_cases e:k = n
   ·subst e;exact h2
   ·exact h1 k (by omega)
  ·exact fun h=>⟨fun k hk=>h k (by omega),h n (by omega)⟩
theorem fin_all {S:List Nat} (h:fnK (mxL S) S.length = true):∀ x ∈ S,fFin x = true:=fun x hx=>by
 obtain ⟨i,hi,rfl⟩:=List.getElem_of_mem hx
 have:=(fnK_all _).1 h i hi
 rw [mxL_at] at this
 rwa [List.getD_eq_getElem?_getD,List.getElem?_eq_getElem hi] at this
theorem ckE_zero {r c:Int} {I:List Int} (h:ckE r c I = 0):okB r c I.length = true∧fnK I I.length = true:=by
 unfold ckE at h
 by_cases h1:okB r c I.length = true
 ·rw [if_pos h1] at h
  refine ⟨h1,?_⟩
  by_cases h2:fnK I I.length = true
  ·exact h2
  ·rw [if_neg h2] at h;omega
 ·rw [if_neg h1] at h;omega
theorem Mx.asked {w:World} {ao:Option Addr} {cap:Nat} {I:List Int} {r c:Int} (h:BitsAt w ao cap I) (hc:ckE r c I = 0):∃ p q:Nat,r = (p:Int)∧c = (q:Int)∧Mx w ao cap p q (natL I)∧mxL (natL I) = I∧(∀ x ∈ natL I,fFin x = true):=by
 obtain ⟨h1,h2⟩:=ckE_zero hc
 obtain ⟨p,q,e1,e2,hM,hS⟩:=Mx.of h h1
 refine ⟨p,q,e1,e2,hM,hS,fin_all ?_⟩
 rw [hS,natL_len]
 exact h2
end Go.Proofs.YtcbcmlaogehimaaGreatDoor
namespace Go.Proofs.YtcbcmlaogehimaaGreatDoor
open Go.RowKit
attribute [local go_sem ↓] Go.wp_at_zero Go.wp_at_succ
theorem two_bits (w:World) (a b:Nat) (ha:a < 18446744073709551616) (hb:b < 18446744073709551616):BitsAt (w.alloc (.cells #[.int .u64 (a:Nat),.int .u64 (b:Nat)] 69)) (some ⟨w.heap.size,0,none⟩) 2 [(a:Int),(b:Int)]:=by
 have h:RowB (w.alloc (.cells #[.int .u64 (a:Nat),.int .u64 (b:Nat)] 69)) w.heap.size [a,b]:=heap_alloc_new w _
 exact h.bits (fun x hx=>by simp at hx;rcases hx with rfl | rfl;exact ha;exact hb)
end Go.Proofs.YtcbcmlaogehimaaGreatDoor
namespace Go.Proofs.YtcbcmlaogehimaaGreatDoor
open Go.RowKit
attribute [local go_sem ↓] Go.wp_at_zero Go.wp_at_succ
theorem hmake_inf (ao:Option Addr) (n c:Nat) (w:World) (h1:1≤n) (h2:n≤64)
  (C1:Calls Tryz.prog 125 #[.slice ao n c] w fun e w''=>e = .returned (.bool false)∧Below w.heap.size w w'') :
  Calls Tryz.prog 225 #[.slice ao n c] w fun e w'=>e = .returned (.tuple #[.slice none 0 0,.int .u64 0,.int .u64 0,.int .i64 4])∧Below w.heap.size w w':=by
 have K1:=hide C1
 have h1I:(n:Int)≤64:=by omega
 have h2I:¬ (n:Int) = 0:=by omega
 have e0:((n:Int) == 0) = false:=by rw [beq_eq_false_iff_ne];exact h2I
 clear C1
 go_enter Tryz.func225,Tryz.ntmps225
 go_wp2_with fail
 refine Calls.mono (uH K1) ?_
 rintro e w1 ⟨rfl,hb1⟩
 clear K1
 go_wp2
 exact bodyPost_ret (v:=.tuple #[.slice none 0 0,.int .u64 0,.int .u64 0,.int .i64 4]) (by simp [results,Tryz.results225,go_sem]) rfl ⟨rfl,hb1⟩
theorem box_new13 (w:World) (d:Nat):(w.alloc (.cells #[.int .u64 (d:Nat)] 69)).cell? ⟨w.heap.size,0,none⟩ = some (.int .u64 (d:Nat)):=by
 rw [cell_of_row _ w.heap.size 0 _ _ _ (heap_alloc_new w (.cells #[.int .u64 (d:Nat)] 69))]
 rfl
theorem box_two13 (w:World) (bt d:Nat) (hbt:bt < 18446744073709551616) (hd:d < 18446744073709551616) :
  BitsAt ((w.alloc (.cells #[.int .u64 (d:Nat)] 69)).alloc (.cells #[.int .u64 (bt:Nat),.int .u64 (d:Nat)] 69)) (some ⟨w.heap.size+1,0,none⟩) 2 [(bt:Int),(d:Int)]∧Below w.heap.size w ((w.alloc (.cells #[.int .u64 (d:Nat)] 69)).alloc (.cells #[.int .u64 (bt:Nat),.int .u64 (d:Nat)] 69))∧((w.alloc (.cells #[.int .u64 (d:Nat)] 69)).alloc (.cells #[.int .u64 (bt:Nat),.int .u64 (d:Nat)] 69)).cell? ⟨w.heap.size,0,none⟩ = some (.int .u64 (d:Nat)):=by
 have h1:=two_bits (w.alloc (.cells #[.int .u64 (d:Nat)] 69)) bt d hbt hd
 rw [size_alloc9] at h1
 have b1:=below_alloc9 w (.cells #[.int .u64 (d:Nat)] 69)
 have b2:=below_alloc9 (w.alloc (.cells #[.int .u64 (d:Nat)] 69)) (.cells #[.int .u64 (bt:Nat),.int .u64 (d:Nat)] 69)
 exact ⟨h1,b1.trans (b2.mono b1.size),cell_keep (box_new13 w d) b2⟩
theorem hmake_flat1 (b off c a:Nat) (w:World) (hc:1≤c)
  (hx:w.cell? ⟨b,off,none⟩ = some (.int .u64 (a:Nat)))
  (C1:Calls Tryz.prog 125 #[.slice (some ⟨b,off,none⟩) 1 c] w fun e w''=>e = .returned (.bool true)∧Below w.heap.size w w'')
  (C2:∀ w',Below w.heap.size w w'→Calls Tryz.prog 98 #[.slice (some ⟨b,off,none⟩) 0 0] w' fun e w''=>e = .returned (.int .u64 (0:Nat))∧Below w'.heap.size w' w'')
  (S:List Nat)
  (C3:∀ w',Below w.heap.size w w'→Calls Tryz.prog 255 #[.slice (some ⟨b,off,none⟩) 0 0,.func (.func 256) #[] #[]] w' fun e w''=>∃ vo vc,e = .returned (.slice vo 1 vc)∧NewB w'.heap.size vo (mxL S)∧BitsAt w'' vo vc (mxL S)∧Below w'.heap.size w' w'') :
  Calls Tryz.prog 225 #[.slice (some ⟨b,off,none⟩) 1 c] w fun e w'=>∃ vo vc,e = .returned (.tuple #[.slice vo 1 vc,.int .u64 0,.int .u64 (a:Nat),.int .i64 0])∧NewB w.heap.size vo (mxL S)∧BitsAt w' vo vc (mxL S)∧Below w.heap.size w w':=by
 have K1:=hide C1;have K2:=hide C2;have K3:=hide C3
 have h4I:(1:Int)≤(c:Int):=by omega
 clear C1 C2 C3
 go_enter Tryz.func225,Tryz.ntmps225
 go_wp2_with fail
 refine Calls.mono (uH K1) ?_
 rintro e w1 ⟨rfl,hb1⟩
 have c0:=cell_keep hx hb1
 have B1:=hide hb1
 clear K1 hx hb1
 go_wp2_with fail
 go_quiet (fail)
 clear c0
 go_wp2_with fail
 have B2:=hide (below_drewN (uH B1) nq)
 clear B1
 refine (uH K2 _ (uH B2)).mono ?_
 rintro e w2 ⟨rfl,hb2⟩
 have B3:=hide ((uH B2).trans (hb2.mono (uH B2).size))
 clear K2 B2 hb2
 go_wp2_with fail
 refine (uH K3 _ (uH B3)).mono ?_
 rintro e w3 ⟨vo,vc,rfl,hn,hs,hb3⟩
 have B4:=hide ((uH B3).trans (hb3.mono (uH B3).size))
 have HN:=hide (NewB.least hn (uH B3).size)
 have HS:=hide hs
 clear K3 B3 hb3 hn hs
 go_wp2
 exact bodyPost_ret (v:=.tuple #[.slice vo 1 vc,.int .u64 0,.int .u64 (a:Nat),.int .i64 0]) (by simp [results,Tryz.results225,go_sem]) rfl ⟨vo,vc,rfl,uH HN,uH HS,uH B4⟩
theorem hmake_flat (b off n c a:Nat) (w:World) (h1:2≤n) (h2:n≤64) (hc:n≤c)
  (hx:w.cell? ⟨b,off,none⟩ = some (.int .u64 (a:Nat)))
  (C1:Calls Tryz.prog 125 #[.slice (some ⟨b,off,none⟩) n c] w fun e w''=>e = .returned (.bool true)∧Below w.heap.size w w'')
  (C2:∀ w',Below w.heap.size w w'→Calls Tryz.prog 98 #[.slice (some ⟨b,off+1,none⟩) (n - 1) (n - 1)] w' fun e w''=>e = .returned (.int .u64 (0:Nat))∧Below w'.heap.size w' w'')
  (S:List Nat)
  (C3:∀ w',Below w.heap.size w w'→Calls Tryz.prog 255 #[.slice (some ⟨b,off+1,none⟩) (n - 1) (n - 1),.func (.func 256) #[] #[]] w' fun e w''=>∃ vo vc,e = .returned (.slice vo n vc)∧NewB w'.heap.size vo (mxL S)∧BitsAt w'' vo vc (mxL S)∧Below w'.heap.size w' w'') :
  Calls Tryz.prog 225 #[.slice (some ⟨b,off,none⟩) n c] w fun e w'=>∃ vo vc,e = .returned (.tuple #[.slice vo n vc,.int .u64 0,.int .u64 (a:Nat),.int .i64 0])∧NewB w.heap.size vo (mxL S)∧BitsAt w' vo vc (mxL S)∧Below w.heap.size w w':=by
 have K1:=hide C1;have K2:=hide C2;have K3:=hide C3
 have h1I:(n:Int)≤64:=by omega
 have h3I:(2:Int)≤(n:Int):=by omega
 have h4I:(n:Int)≤(c:Int):=by omega
 have h2I:¬ (n:Int) = 0:=by omega
 have e0:((n:Int) == 0) = false:=by rw [beq_eq_false_iff_ne];exact h2I
 have e1:decide ((64:Int) < (n:Int)) = false:=decide_eq_false (by omega)
 clear C1 C2 C3
 go_enter Tryz.func225,Tryz.ntmps225
 go_wp2_with fail
 refine Calls.mono (uH K1) ?_
 rintro e w1 ⟨rfl,hb1⟩
 have c0:=cell_keep hx hb1
 have B1:=hide hb1
 clear K1 hx hb1
 go_wp2_with fail
 go_quiet (fail)
 clear c0
 go_wp2_with fail
 have B2:=hide (below_drewN (uH B1) nq)
 clear B1
 refine (uH K2 _ (uH B2)).mono ?_
 rintro e w2 ⟨rfl,hb2⟩
 have B3:=hide ((uH B2).trans (hb2.mono (uH B2).size))
 clear K2 B2 hb2
 go_wp2_with fail
 refine (uH K3 _ (uH B3)).mono ?_
 rintro e w3 ⟨vo,vc,rfl,hn,hs,hb3⟩
 have B4:=hide ((uH B3).trans (hb3.mono (uH B3).size))
 have HN:=hide (NewB.least hn (uH B3).size)
 have HS:=hide hs
 clear K3 B3 hb3 hn hs
 go_wp2
 exact bodyPost_ret (v:=.tuple #[.slice vo n vc,.int .u64 0,.int .u64 (a:Nat),.int .i64 0]) (by simp [results,Tryz.results225,go_sem]) rfl ⟨vo,vc,rfl,uH HN,uH HS,uH B4⟩
theorem hmake_range (b off n c a m bt d:Nat) (w:World) (h1:2≤n) (h2:n≤64) (hc:n≤c) (hm:¬ m = 0) (hbt:bt < 18446744073709551616) (hd:d < 18446744073709551616)
  (hx:w.cell? ⟨b,off,none⟩ = some (.int .u64 (a:Nat)))
  (C1:Calls Tryz.prog 125 #[.slice (some ⟨b,off,none⟩) n c] w fun e w''=>e = .returned (.bool true)∧Below w.heap.size w w'')
  (C2:∀ w',Below w.heap.size w w'→Calls Tryz.prog 98 #[.slice (some ⟨b,off+1,none⟩) (n - 1) (n - 1)] w' fun e w''=>e = .returned (.int .u64 (m:Nat))∧Below w'.heap.size w' w'')
  (C4:∀ w',Below w.heap.size w w'→Calls Tryz.prog 257 #[.slice (some ⟨b,off,none⟩) n c] w' fun e w''=>e = .returned (.int .u64 (bt:Nat))∧Below w'.heap.size w' w'')
  (C5:∀ w',Below w.heap.size w w'→Calls Tryz.prog 202 #[.int .u64 a,.int .u64 bt] w' fun e w''=>e = .returned (.int .u64 (d:Nat))∧Below w'.heap.size w' w'')
  (C6:∀ w' ao,Below w.heap.size w w'→BitsAt w' ao 2 [(bt:Int),(d:Int)]→Calls Tryz.prog 125 #[.slice ao 2 2] w' fun e w''=>e = .returned (.bool false)∧Below w'.heap.size w' w'') :
  Calls Tryz.prog 225 #[.slice (some ⟨b,off,none⟩) n c] w fun e w'=>e = .returned (.tuple #[.slice none 0 0,.int .u64 0,.int .u64 0,.int .i64 2])∧Below w.heap.size w w':=by
 have K1:=hide C1;have K2:=hide C2;have K4:=hide C4;have K5:=hide C5;have K6:=hide C6
 have h1I:(n:Int)≤64:=by omega
 have h3I:(2:Int)≤(n:Int):=by omega
 have h4I:(n:Int)≤(c:Int):=by omega
 have h2I:¬ (n:Int) = 0:=by omega
 have e0:((n:Int) == 0) = false:=by rw [beq_eq_false_iff_ne];exact h2I
 have e1:decide ((64:Int) < (n:Int)) = false:=decide_eq_false (by omega)
 have em:((m:Int) == 0) = false:=by rw [beq_eq_false_iff_ne];omega
 have HBT:=hide hbt;have HD:=hide hd
 clear hbt hd
 clear C1 C2 C4 C5 C6
 go_enter Tryz.func225,Tryz.ntmps225
 go_wp2_with fail
 refine Calls.mono (uH K1) ?_
 rintro e w1 ⟨rfl,hb1⟩
 have c0:=cell_keep hx hb1
 have B1:=hide hb1
 clear K1 hx hb1
 go_wp2_with fail
 go_quiet (fail)
 clear c0
 go_wp2_with fail
 have B2:=hide (below_drewN (uH B1) nq)
 clear B1
 refine (uH K2 _ (uH B2)).mono ?_
 rintro e w2 ⟨rfl,hb2⟩
 have B3:=hide ((uH B2).trans (hb2.mono (uH B2).size))
 clear K2 B2 hb2
 go_wp2_with fail
 refine (uH K4 _ (uH B3)).mono ?_
 rintro e w3 ⟨rfl,hb3⟩
 have B4:=hide ((uH B3).trans (hb3.mono (uH B3).size))
 clear K4 B3 hb3
 go_wp2_with fail
 refine (uH K5 _ (uH B4)).mono ?_
 rintro e w4 ⟨rfl,hb3⟩
 have B5:=hide ((uH B4).trans (hb3.mono (uH B4).size))
 clear K5 B4 hb3
 go_wp2_with fail
 obtain ⟨hb1,hb2,hb3⟩:=box_two13 w4 bt d (uH HBT) (uH HD)
 have B6:=hide ((uH B5).trans (hb2.mono (uH B5).size))
 have CB:=hide hb3
 refine (uH K6 _ _ (uH B6) hb1).mono ?_
 clear hb1 hb2 hb3
 rintro e w5 ⟨rfl,hb3⟩
 have B7:=hide ((uH B6).trans (hb3.mono (uH B6).size))
 have CD:=hide (cell_keep (uH CB) hb3)
 clear K6 B5 B6 CB hb3 HBT HD
 go_wp2
 exact bodyPost_ret (v:=.tuple #[.slice none 0 0,.int .u64 0,.int .u64 0,.int .i64 2]) (by simp [results,Tryz.results225,go_sem]) rfl ⟨rfl,uH B7⟩
theorem hmake_ok (b off n c a m bt d u t:Nat) (w:World) (h1:2≤n) (h2:n≤64) (hc:n≤c) (hm:¬ m = 0) (hbt:bt < 18446744073709551616) (hd:d < 18446744073709551616)
  (hx:w.cell? ⟨b,off,none⟩ = some (.int .u64 (a:Nat)))
  (C1:Calls Tryz.prog 125 #[.slice (some ⟨b,off,none⟩) n c] w fun e w''=>e = .returned (.bool true)∧Below w.heap.size w w'')
  (C2:∀ w',Below w.heap.size w w'→Calls Tryz.prog 98 #[.slice (some ⟨b,off+1,none⟩) (n - 1) (n - 1)] w' fun e w''=>e = .returned (.int .u64 (m:Nat))∧Below w'.heap.size w' w'')
  (C4:∀ w',Below w.heap.size w w'→Calls Tryz.prog 257 #[.slice (some ⟨b,off,none⟩) n c] w' fun e w''=>e = .returned (.int .u64 (bt:Nat))∧Below w'.heap.size w' w'')
  (C5:∀ w',Below w.heap.size w w'→Calls Tryz.prog 202 #[.int .u64 a,.int .u64 bt] w' fun e w''=>e = .returned (.int .u64 (d:Nat))∧Below w'.heap.size w' w'')
  (C6:∀ w' ao,Below w.heap.size w w'→BitsAt w' ao 2 [(bt:Int),(d:Int)]→Calls Tryz.prog 125 #[.slice ao 2 2] w' fun e w''=>e = .returned (.bool true)∧Below w'.heap.size w' w'')
  (S:List Nat)
  (C7:∀ w' g,Below w.heap.size w w'→w'.cell? ⟨g,0,none⟩ = some (.int .u64 (d:Nat))→Calls Tryz.prog 255 #[.slice (some ⟨b,off+1,none⟩) (n - 1) (n - 1),.func (.func 258) #[] #[.pointer (some ⟨g,0,none⟩)]] w' fun e w''=>∃ vo vc,e = .returned (.slice vo n vc)∧NewB w'.heap.size vo (mxL S)∧BitsAt w'' vo vc (mxL S)∧Below w'.heap.size w' w'')
  (C8:∀ w',Below w.heap.size w w'→Calls Tryz.prog 202 #[.int .u64 bt,.int .u64 a] w' fun e w''=>e = .returned (.int .u64 (u:Nat))∧Below w'.heap.size w' w'')
  (C9:∀ w',Below w.heap.size w w'→Calls Tryz.prog 204 #[.int .u64 u,.int .u64 bt] w' fun e w''=>e = .returned (.int .u64 (t:Nat))∧Below w'.heap.size w' w'') :
  Calls Tryz.prog 225 #[.slice (some ⟨b,off,none⟩) n c] w fun e w'=>∃ vo vc,e = .returned (.tuple #[.slice vo n vc,.int .u64 (t:Nat),.int .u64 (bt:Nat),.int .i64 0])∧NewB w.heap.size vo (mxL S)∧BitsAt w' vo vc (mxL S)∧Below w.heap.size w w':=by
 have K1:=hide C1;have K2:=hide C2;have K4:=hide C4;have K5:=hide C5;have K6:=hide C6;have K7:=hide C7;have K8:=hide C8;have K9:=hide C9
 have h1I:(n:Int)≤64:=by omega
 have h3I:(2:Int)≤(n:Int):=by omega
 have h4I:(n:Int)≤(c:Int):=by omega
 have h2I:¬ (n:Int) = 0:=by omega
 have e0:((n:Int) == 0) = false:=by rw [beq_eq_false_iff_ne];exact h2I
 have e1:decide ((64:Int) < (n:Int)) = false:=decide_eq_false (by omega)
 have em:((m:Int) == 0) = false:=by rw [beq_eq_false_iff_ne];omega
 have HBT:=hide hbt;have HD:=hide hd
 clear hbt hd
 clear C1 C2 C4 C5 C6 C7 C8 C9
 go_enter Tryz.func225,Tryz.ntmps225
 go_wp2_with fail
 refine Calls.mono (uH K1) ?_
 rintro e w1 ⟨rfl,hb1⟩
 have c0:=cell_keep hx hb1
 have B1:=hide hb1
 clear K1 hx hb1
 go_wp2_with fail
 go_quiet (fail)
 clear c0
 go_wp2_with fail
 have B2:=hide (below_drewN (uH B1) nq)
 clear B1
 refine (uH K2 _ (uH B2)).mono ?_
 rintro e w2 ⟨rfl,hb2⟩
 have B3:=hide ((uH B2).trans (hb2.mono (uH B2).size))
 clear K2 B2 hb2
 go_wp2_with fail
 refine (uH K4 _ (uH B3)).mono ?_
 rintro e w3 ⟨rfl,hb3⟩
 have B4:=hide ((uH B3).trans (hb3.mono (uH B3).size))
 clear K4 B3 hb3
 go_wp2_with fail
 refine (uH K5 _ (uH B4)).mono ?_
 rintro e w4 ⟨rfl,hb3⟩
 have B5:=hide ((uH B4).trans (hb3.mono (uH B4).size))
 clear K5 B4 hb3
 go_wp2_with fail
 obtain ⟨hb1,hb2,hb3⟩:=box_two13 w4 bt d (uH HBT) (uH HD)
 have B6:=hide ((uH B5).trans (hb2.mono (uH B5).size))
 have CB:=hide hb3
 refine (uH K6 _ _ (uH B6) hb1).mono ?_
 clear hb1 hb2 hb3
 rintro e w5 ⟨rfl,hb3⟩
 have B7:=hide ((uH B6).trans (hb3.mono (uH B6).size))
 have CD:=hide (cell_keep (uH CB) hb3)
 clear K6 B5 B6 CB hb3 HBT HD
 go_wp2_with fail
 refine (uH K7 _ _ (uH B7) (uH CD)).mono ?_
 rintro e w6 ⟨vo,vc,rfl,hn,hs,hb3⟩
 have B8:=hide ((uH B7).trans (hb3.mono (uH B7).size))
 have HN:=hide (NewB.least hn (uH B7).size)
 have HS:=hide hs
 clear K7 B7 hb3 hn hs CD
 go_wp2_with fail
 refine (uH K8 _ (uH B8)).mono ?_
 rintro e w7 ⟨rfl,hb3⟩
 have B9:=hide ((uH B8).trans (hb3.mono (uH B8).size))
 replace HS:=hide ((uH HS).below hb3)
 clear K8 B8 hb3
 go_wp2_with fail
 refine (uH K9 _ (uH B9)).mono ?_
 rintro e w8 ⟨rfl,hb3⟩
 have BA:=hide ((uH B9).trans (hb3.mono (uH B9).size))
 replace HS:=hide ((uH HS).below hb3)
 clear K9 B9 hb3
 go_wp2
 exact bodyPost_ret (v:=.tuple #[.slice vo n vc,.int .u64 (t:Nat),.int .u64 (bt:Nat),.int .i64 0]) (by simp [results,Tryz.results225,go_sem]) rfl ⟨vo,vc,rfl,uH HN,uH HS,uH BA⟩
end Go.Proofs.YtcbcmlaogehimaaGreatDoor
namespace Go.Proofs.YtcbcmlaogehimaaGreatDoor
open Go.RowKit
theorem bg_ngt {xs:List Nat} (h:∀ x ∈ xs,fFin x = true):bgF 0 xs = 0 ↔ ngt xs = true:=by
 obtain ⟨g1,g2,g3,g4⟩:=bgF_fin xs 0 (by decide) h
 constructor
 ·intro h0
  exact List.all_eq_true.2 (fun x hx=>decide_eq_true ((fK_zero x).2 (by have:=g3 x hx;omega)))
 ·intro hn
  rcases g4 with g4 | ⟨x,hx,g4⟩
  ·exact g4
  ·rw [← g4]
   exact (fK_zero x).1 (ngt_true hn x hx)
theorem toN_drop (I:List Int) (k:Nat):toN (I.drop k) = (toN I).drop k:=by
 unfold toN
 rw [List.map_drop]
theorem bits_rest {w:World} {b off c:Nat} {I:List Int} (h:BitsAt w (some ⟨b,off,none⟩) c I) (h1:2≤I.length):BitsAt w (some ⟨b,off+1,none⟩) (I.length - 1) (I.drop 1):=by
 obtain ⟨b',off',e,hb,hc⟩:=h.ne (by omega)
 simp only [Option.some.injEq,Addr.mk.injEq] at e
 obtain ⟨rfl,rfl,_⟩:=e
 refine ⟨by rw [List.length_drop];omega,fun x hx=>h.2.1 x (List.mem_of_mem_drop hx),.inr ⟨b,off+1,rfl,hb,fun i hi=>?_⟩⟩
 have hi':1+i < I.length:=by rw [List.length_drop] at hi;omega
 have e2:=hc (1+i) hi'
 rw [List.getElem?_drop,show off+1+i = off+(1+i) by omega,e2,(h.wf (1+i)).1]
theorem atB_drop (I:List Int) (j:Nat):atB (I.drop 1) j = atB I (j+1):=by
 unfold atB
 rw [List.getElem?_drop,Nat.add_comm 1 j]
theorem fin_rest {I:List Int} (h:fnK I I.length = true):∀ x ∈ (toN I).drop 1,fFin x = true:=fun x hx=>toN_all I (fun x=>fFin x = true) ((fnK_all _).1 h) x (List.mem_of_mem_drop hx)
theorem hMake_flat (ao:Option Addr) (c:Nat) (I:List Int) (w:World) (hI:BitsAt w ao c I) (h1:1≤I.length) (h2:I.length≤64) (hf:fnK I I.length = true) (hn:ngt ((toN I).drop 1) = true) :
  Calls Tryz.prog 225 #[.slice ao I.length c] w fun e w'=>∃ vo vc,e = .returned (.tuple #[.slice vo I.length vc,.int .u64 0,.int .u64 (atB I 0:Nat),.int .i64 0])∧NewB w.heap.size vo (mxL (mkJ (fun _=>0) I.length))∧BitsAt w' vo vc (mxL (mkJ (fun _=>0) I.length))∧Below w.heap.size w w':=by
 obtain ⟨b,off,rfl,hb,hc⟩:=hI.ne (by omega)
 have c0:=hc 0 (by omega)
 have C1:=vFinite_any _ c I w hI (by omega)
 rw [hf] at C1
 have cf:∀ args w,(callFunc 256 args).run Tryz.prog w = .ok (.enter 256 args) w:=fun _ _=>by kernel_rfl
 have hle:=hI.1
 rcases Nat.lt_or_ge 1 I.length with g | g
 ·have R:=fun w' (h:Below w.heap.size w w')=>bits_rest (hI.below h) g
  have e:((I.drop 1).length:Nat) = I.length - 1:=by rw [List.length_drop]
  refine hmake_flat b off I.length c (atB I 0) w g h2 hle c0 C1 (fun w' h=>?_) (mkJ (fun _=>0) I.length) (fun w' h=>?_)
  ·have B:=vBiggest_any _ _ (I.drop 1) w' (R w' h) (by omega)
   rw [bgK_all,toN_drop,(bg_ngt (fin_rest hf)).2 hn,e] at B
   exact B
  ·have O:=oneAnd_any 256 #[] _ _ (I.drop 1) (fun _=>0) w' cf (R w' h) (by omega) (fun _ _=>by show 0 < 18446744073709551616;decide) (fun w'' k _ _=>hmake1_any _ w'')
   rw [e,show I.length - 1+1 = I.length by omega] at O
   exact O
 ·have e1:I.length = 1:=by omega
  rw [e1] at hle C1 ⊢
  refine hmake_flat1 b off c (atB I 0) w hle c0 C1 (fun w' h=>vBiggest_any _ _ [] w' (BitsAt.nilAt _ _ _) (by simp)) (mkJ (fun _=>0) 1) (fun w' h=>?_)
  exact oneAnd_any 256 #[] _ _ [] (fun _=>0) w' cf (BitsAt.nilAt _ _ _) (by simp) (fun _ _=>by show 0 < 18446744073709551616;decide) (fun w'' k _ _=>hmake1_any _ w'')
theorem ngt_two {I:List Int} (hn:ngt ((toN I).drop 1) = false):2≤I.length:=by
 rcases Nat.lt_or_ge I.length 2 with g | g
 ·rw [List.drop_eq_nil_of_le (by rw [toN_len];omega)] at hn
  cases hn
 ·exact g
theorem hMake_no (ao:Option Addr) (c:Nat) (I:List Int) (w:World) (hI:BitsAt w ao c I) (h2:I.length≤64) (hf:fnK I I.length = true) (hn:ngt ((toN I).drop 1) = false) (hk:(fFin (hmB (atB I 0) ((toN I).drop 1)) && fFin (hmD (atB I 0) ((toN I).drop 1))) = false) (hT:Tab w) :
  Calls Tryz.prog 225 #[.slice ao I.length c] w fun e w'=>e = .returned (.tuple #[.slice none 0 0,.int .u64 0,.int .u64 0,.int .i64 2])∧Below w.heap.size w w':=by
 have g:=ngt_two hn
 obtain ⟨b,off,rfl,hb,hc⟩:=hI.ne (by omega)
 have c0:=hc 0 (by omega)
 have C1:=vFinite_any _ c I w hI (by omega)
 rw [hf] at C1
 have R:=fun w' (h:Below w.heap.size w w')=>bits_rest (hI.below h) g
 have e:((I.drop 1).length:Nat) = I.length - 1:=by rw [List.length_drop]
 have ha:=hI.lt 0
 have eB:(if ldS (toN I) = true then nrV (toN I) else fN (nrV (toN I))) = hmB (atB I 0) ((toN I).drop 1):=by
  unfold hmB
  rw [← toN_cons (by omega)]
 refine hmake_range b off I.length c (atB I 0) (bgF 0 ((toN I).drop 1)) (hmB (atB I 0) ((toN I).drop 1)) (hmD (atB I 0) ((toN I).drop 1)) w g h2 hI.1 (fun h0=>by rw [(bg_ngt (fin_rest hf)).1 h0] at hn;cases hn) (hmB_lt _ _) (hmD_lt _ _ ha) c0 C1 (fun w' h=>?_) (fun w' h=>?_) (fun w' h=>psub_any _ _ w' ha (hmB_lt _ _) (hT.all h)) (fun w' ao h h2=>?_)
 ·have B:=vBiggest_any _ _ (I.drop 1) w' (R w' h) (by omega)
  rw [bgK_all,toN_drop,e] at B
  exact B
 ·have B:=hbeta_any _ c I w' (hI.below h) h2 (hT.all h)
  rw [eB] at B
  exact B
 ·have F:=vFinite_any ao 2 _ w' h2 (by simp)
  rw [show fnK [((hmB (atB I 0) ((toN I).drop 1):Nat):Int),((hmD (atB I 0) ((toN I).drop 1):Nat):Int)] [((hmB (atB I 0) ((toN I).drop 1):Nat):Int),((hmD (atB I 0) ((toN I).drop 1):Nat):Int)].length = false from (show fnK [((hmB (atB I 0) ((toN I).drop 1):Nat):Int),((hmD (atB I 0) ((toN I).drop 1):Nat):Int)] 2 = _ from by show ((true && fFin (hmB (atB I 0) ((toN I).drop 1))) && fFin (hmD (atB I 0) ((toN I).drop 1))) = _;rw [Bool.true_and,hk])] at F
  exact F
theorem hMake_yes (ao:Option Addr) (c:Nat) (I:List Int) (w:World) (hI:BitsAt w ao c I) (h2:I.length≤64) (hf:fnK I I.length = true) (hn:ngt ((toN I).drop 1) = false) (hk:(fFin (hmB (atB I 0) ((toN I).drop 1)) && fFin (hmD (atB I 0) ((toN I).drop 1))) = true) (hT:Tab w) :
  Calls Tryz.prog 225 #[.slice ao I.length c] w fun e w'=>∃ vo vc,e = .returned (.tuple #[.slice vo I.length vc,.int .u64 (dV (aV (hmB (atB I 0) ((toN I).drop 1)) (fN (atB I 0))) (hmB (atB I 0) ((toN I).drop 1)):Nat),.int .u64 (hmB (atB I 0) ((toN I).drop 1):Nat),.int .i64 0])∧NewB w.heap.size vo (mxL (mkJ (fun j=>dV (atB I (j+1)) (hmD (atB I 0) ((toN I).drop 1))) I.length))∧BitsAt w' vo vc (mxL (mkJ (fun j=>dV (atB I (j+1)) (hmD (atB I 0) ((toN I).drop 1))) I.length))∧Below w.heap.size w w':=by
 have g:=ngt_two hn
 obtain ⟨b,off,rfl,hb,hc⟩:=hI.ne (by omega)
 have c0:=hc 0 (by omega)
 have C1:=vFinite_any _ c I w hI (by omega)
 rw [hf] at C1
 have R:=fun w' (h:Below w.heap.size w w')=>bits_rest (hI.below h) g
 have e:((I.drop 1).length:Nat) = I.length - 1:=by rw [List.length_drop]
 have ha:=hI.lt 0
 have eB:(if ldS (toN I) = true then nrV (toN I) else fN (nrV (toN I))) = hmB (atB I 0) ((toN I).drop 1):=by
  unfold hmB
  rw [← toN_cons (by omega)]
 have cf:∀ args w,(callFunc 258 args).run Tryz.prog w = .ok (.enter 258 args) w:=fun _ _=>by kernel_rfl
 refine hmake_ok b off I.length c (atB I 0) (bgF 0 ((toN I).drop 1)) (hmB (atB I 0) ((toN I).drop 1)) (hmD (atB I 0) ((toN I).drop 1)) (aV (hmB (atB I 0) ((toN I).drop 1)) (fN (atB I 0))) _ w g h2 hI.1 (fun h0=>by rw [(bg_ngt (fin_rest hf)).1 h0] at hn;cases hn) (hmB_lt _ _) (hmD_lt _ _ ha) c0 C1 (fun w' h=>?_) (fun w' h=>?_) (fun w' h=>psub_any _ _ w' ha (hmB_lt _ _) (hT.all h)) (fun w' ao h h2=>?_) (mkJ (fun j=>dV (atB I (j+1)) (hmD (atB I 0) ((toN I).drop 1))) I.length) (fun w' gx h hg=>?_) (fun w' h=>psub_any _ _ w' (hmB_lt _ _) ha (hT.all h)) (fun w' h=>pdiv_any _ _ w' (aV_lt _ _ (hmB_lt _ _) (fN_lt _ ha)) (hmB_lt _ _) (hT.all h))
 ·have B:=vBiggest_any _ _ (I.drop 1) w' (R w' h) (by omega)
  rw [bgK_all,toN_drop,e] at B
  exact B
 ·have B:=hbeta_any _ c I w' (hI.below h) h2 (hT.all h)
  rw [eB] at B
  exact B
 ·have F:=vFinite_any ao 2 _ w' h2 (by simp)
  rw [show fnK [((hmB (atB I 0) ((toN I).drop 1):Nat):Int),((hmD (atB I 0) ((toN I).drop 1):Nat):Int)] [((hmB (atB I 0) ((toN I).drop 1):Nat):Int),((hmD (atB I 0) ((toN I).drop 1):Nat):Int)].length = true from (show fnK [((hmB (atB I 0) ((toN I).drop 1):Nat):Int),((hmD (atB I 0) ((toN I).drop 1):Nat):Int)] 2 = _ from by show ((true && fFin (hmB (atB I 0) ((toN I).drop 1))) && fFin (hmD (atB I 0) ((toN I).drop 1))) = _;rw [Bool.true_and,hk])] at F
  exact F
 ·have O:=oneAnd_any 258 #[.pointer (some ⟨gx,0,none⟩)] _ _ (I.drop 1) (fun j=>dV (atB I (j+1)) (hmD (atB I 0) ((toN I).drop 1))) w' cf (R w' h) (by omega) (fun _ _=>dV_lt _ _) (fun w'' k hb hk2=>by
   rw [atB_drop]
   exact hmake2_any _ _ gx w'' (hI.lt _) (hmD_lt _ _ ha) (cell_keep hg hb) ((hT.all h).all hb))
  rw [e,show I.length - 1+1 = I.length by omega] at O
  exact O
theorem hMake_ok (ao:Option Addr) (c:Nat) (I:List Int) (w:World) (hI:BitsAt w ao c I) (h1:1≤I.length) (h2:I.length≤64) (hf:fnK I I.length = true) (hk:mrK (toN I) = true) (hT:Tab w) :
  Calls Tryz.prog 225 #[.slice ao I.length c] w fun e w''=>∃ vo vc,e = .returned (.tuple #[.slice vo I.length vc,.int .u64 (mrT (toN I):Nat),.int .u64 (mrB (toN I):Nat),.int .i64 0])∧NewB w.heap.size vo (mxL (mrV (toN I)))∧BitsAt w'' vo vc (mxL (mrV (toN I)))∧Below w.heap.size w w'':=by
 obtain ⟨e1,e2,e3⟩:=mk_facts h1
 cases hn:ngt ((toN I).drop 1)
 ·rw [hn,Bool.false_or] at e3
  rw [e3] at hk
  rw [e1,e2,hn,if_neg (by decide),if_neg (by decide),mr_mkJ h1 (fun x=>dV x (hmD (atB I 0) ((toN I).drop 1))) (fun x=>by rw [hn,if_neg (by decide)])]
  exact hMake_yes ao c I w hI h2 hf hn hk hT
 ·rw [e1,e2,hn,if_pos rfl,if_pos rfl,mr_mkJ h1 (fun _=>0) (fun x=>by rw [hn,if_pos rfl])]
  exact hMake_flat ao c I w hI h1 h2 hf hn
theorem hMake_none (ao:Option Addr) (c:Nat) (I:List Int) (w:World) (hI:BitsAt w ao c I) (h1:1≤I.length) (h2:I.length≤64) (hf:fnK I I.length = true) (hk:mrK (toN I) = false) (hT:Tab w) :
  Calls Tryz.prog 225 #[.slice ao I.length c] w fun e w''=>∃ so cs,e = .returned (.tuple #[.slice so 0 cs,.int .u64 0,.int .u64 0,.int .i64 2])∧Below w.heap.size w w'':=by
 obtain ⟨_,_,e3⟩:=mk_facts h1
 rw [hk] at e3
 have e3':=e3.symm
 rw [Bool.or_eq_false_iff] at e3'
 refine (hMake_no ao c I w hI h2 hf e3'.1 e3'.2 hT).mono ?_
 rintro e w' ⟨rfl,hb⟩
 exact ⟨_,_,rfl,hb⟩
theorem hMake_inf (ao:Option Addr) (c:Nat) (I:List Int) (w:World) (hI:BitsAt w ao c I) (h1:1≤I.length) (h2:I.length≤64) (hf:fnK I I.length = false) :
  Calls Tryz.prog 225 #[.slice ao I.length c] w fun e w''=>∃ so cs,e = .returned (.tuple #[.slice so 0 cs,.int .u64 0,.int .u64 0,.int .i64 4])∧Below w.heap.size w w'':=by
 have C1:=vFinite_any ao c I w hI (by omega)
 rw [hf] at C1
 refine (hmake_inf ao I.length c w h1 h2 C1).mono ?_
 rintro e w' ⟨rfl,hb⟩
 exact ⟨_,_,rfl,hb⟩
end Go.Proofs.YtcbcmlaogehimaaGreatDoor
