/- Part 33 of the texts. -/
import Derived.Test.YtenpggicmfhhdaaGreatDoorPartc28
import Derived.Test.YtenpggicmfhhdaaGreatDoorPartc32
import Derived.Test.YtenpggicmfhhdaaGreatDoorPartc25
import Derived.Test.YtenpggicmfhhdaaGreatDoorPartc30
import Derived.Test.YtenpggicmfhhdaaGreatDoorPartc29
set_option maxHeartbeats 8000000
set_option maxRecDepth 20000
namespace Go.Proofs.YtenpggicmfhhdaaGreatDoor
open Go.RowKit
attribute [local go_sem ↓] Go.wp_at_zero Go.wp_at_succ
theorem hbelow_any (ao:Option Addr) (c:Nat) (I:List Int) (w:World) (hI:BitsAt w ao c I) (hn:I.length≤64) :
  Calls Tryz.prog 93 #[.slice ao I.length c] w fun e w'=>e = .returned (.bool (ldS (toN I)))∧Below w.heap.size w w':=by
 have HI:=hide hI
 obtain ⟨L,hL⟩:∃ L:Nat→Bool,L = fun j=>ldS ((toN I).drop j):=⟨_,rfl⟩
 have L0:ldS (toN I) = L 0:=by rw [hL];rfl
 have LE:∀ j,I.length≤j→L j = false:=fun j hj=>by
  rw [hL]
  show ldS ((toN I).drop j) = false
  rw [List.drop_eq_nil_of_le (by rw [toN_len];exact hj)]
  rfl
 have LS:∀ j,j < I.length→L j = if fK (atB I j) = 0 then L (j+1) else fS (atB I j):=fun j hj=>by
  rw [hL]
  show ldS ((toN I).drop j) = _
  rw [ldS_drop (toN I) (by rw [toN_len];exact hj),toN_getD I j hj]
 rw [L0]
 obtain ⟨v,hv⟩:∃ v,L 0 = v:=⟨_,rfl⟩
 have HE:=hide LE;have HS:=hide LS
 obtain ⟨n,hnn⟩:∃ n,I.length = n:=⟨_,rfl⟩
 rw [hnn] at hn HE HS ⊢
 rw [hv]
 have HN:=hide hnn
 have HV:=hide hv
 clear hI hL L0 LE LS hnn hv
 go_enter Tryz.func93,Tryz.ntmps93
 go_wp2_with fail
 go_loopw [7] (fun i wr=>∃ j:Nat,j≤n∧i = .int .i64 j∧Hid (L j = v)∧Hid (Below w.heap.size w wr)) (fun i _=>n - (intOf i).toNat)
 case atStart=>exact ⟨0,Nat.zero_le _,rfl,HV,Below.refl _ _⟩
 case round =>
  obtain ⟨j,hj,rfl,hL,hB⟩:=hrel
  by_cases hlt:j < n
  ·have hjI:(j:Int) < (n:Int):=by omega
   obtain ⟨b,off,hao,hb,hc⟩:=((uH HI).below hB.out).ne (by rw [uH HN];omega)
   have hck:=hide (hc j (by rw [uH HN];exact hlt))
   have C1:=hide (fun w'=>kind_any (atB I j) w' ((uH HI).lt j))
   have C2:=hide (fun w'=>ssign_any (atB I j) w' ((uH HI).lt j))
   have HJ:=hide (uH HS j hlt)
   subst hao
   clear hc
   by_cases g0:fK (atB I j) = 0
   ·have R2:=hide (show L (j+1) = v from by have:=uH HJ;rw [uH hL,if_pos g0] at this;exact this.symm)
    rw [g0] at C1
    clear HJ g0 C2
    generalize atB I j = x at *
    have hc0:=uH hck
    go_wp2_with fail
    refine (uH C1 _).mono ?_
    rintro e w2 ⟨rfl,hb2⟩
    have B2:Hid (Below w.heap.size w w2):=hB.out.trans (hb2.mono hB.out.size)
    clear C1 hb2 hck hc0 hB
    go_wp2_with fail
    go_round
    case rel=>exact ⟨j+1,by omega,by go_num,R2,B2⟩
    case measure=>simp [intOf];omega
   ·have R2:fS (atB I j) = v:=by have:=uH HJ;rw [uH hL,if_neg g0] at this;exact this.symm
    have g0':(fK (atB I j) == 0) = false:=by rw [beq_eq_false_iff_ne];exact g0
    rw [R2] at C2
    clear HJ R2
    generalize fK (atB I j) = kd at *
    generalize atB I j = x at *
    have hc0:=uH hck
    go_wp2_with fail
    refine (uH C1 _).mono ?_
    rintro e w2 ⟨rfl,hb2⟩
    have B2:Hid (Below w.heap.size w w2):=hB.out.trans (hb2.mono hB.out.size)
    clear C1 hb2 hck hc0 hB
    go_wp2_with fail
    refine (uH C2 _).mono ?_
    rintro e w3 ⟨rfl,hb2⟩
    have B3:Hid (Below w.heap.size w w3):=B2.out.trans (hb2.mono B2.out.size)
    clear C2 hb2 B2
    go_wp2_with fail
    exact bodyPost_ret (v:=.bool v) (by simp [results,Tryz.results93,go_sem]) rfl ⟨rfl,B3.out⟩
  ·have hv2:v = false:=by have:=uH HE j (by omega);rw [uH hL] at this;exact this
   subst hv2
   have hjI:(n:Int)≤(j:Int):=by omega
   go_wp2_with fail
   exact bodyPost_ret (v:=.bool false) (by simp [results,Tryz.results93,go_sem]) rfl ⟨rfl,hB.out⟩
theorem hbeta_of (ao:Option Addr) (n c m o:Nat) (s:Bool) (w:World) (h:(s = true∧o = m) ∨ (s = false∧o = fN m)) (hm:m < 18446744073709551616)
  (C1:Calls Tryz.prog 92 #[.slice ao n c] w fun e w''=>e = .returned (.tuple #[.int .u64 (m:Nat),.int .i64 0])∧Below w.heap.size w w'')
  (C2:∀ w',Below w.heap.size w w'→Calls Tryz.prog 93 #[.slice ao n c] w' fun e w''=>e = .returned (.bool s)∧Below w'.heap.size w' w'') :
  Calls Tryz.prog 73 #[.slice ao n c] w fun e w'=>e = .returned (.int .u64 (o:Nat))∧Below w.heap.size w w':=by
 have K1:=hide C1;have K2:=hide C2
 have K3:=hide (fun w'=>sminus_any m w' hm)
 clear C1 C2 hm
 rcases h with ⟨rfl,rfl⟩ | ⟨rfl,rfl⟩
 ·clear K3
  go_enter Tryz.func73,Tryz.ntmps73
  go_wp2_with fail
  refine Calls.mono (uH K1) ?_
  rintro e w1 ⟨rfl,hb1⟩
  have B1:=hide hb1
  clear K1 hb1
  go_wp2_with fail
  refine (uH K2 _ (uH B1)).mono ?_
  rintro e w2 ⟨rfl,hb2⟩
  have B2:=hide ((uH B1).trans (hb2.mono (uH B1).size))
  clear K2 hb2 B1
  go_wp2
  go_ret
  exact ⟨rfl,uH B2⟩
 ·generalize fN m = o at *
  go_enter Tryz.func73,Tryz.ntmps73
  go_wp2_with fail
  refine Calls.mono (uH K1) ?_
  rintro e w1 ⟨rfl,hb1⟩
  have B1:=hide hb1
  clear K1 hb1
  go_wp2_with fail
  refine (uH K2 _ (uH B1)).mono ?_
  rintro e w2 ⟨rfl,hb2⟩
  have B2:=hide ((uH B1).trans (hb2.mono (uH B1).size))
  clear K2 hb2 B1
  go_wp2_with fail
  refine (uH K3 _).mono ?_
  rintro e w3 ⟨rfl,rfl⟩
  clear K3
  go_wp2
  go_ret
  exact ⟨rfl,uH B2⟩
theorem hbeta_any (ao:Option Addr) (c:Nat) (I:List Int) (w:World) (hI:BitsAt w ao c I) (hn:I.length≤64) (hT:Tab w) :
  Calls Tryz.prog 73 #[.slice ao I.length c] w fun e w'=>e = .returned (.int .u64 ((if ldS (toN I) = true then nrV (toN I) else fN (nrV (toN I)):Nat):Nat))∧Below w.heap.size w w':=by
 have C1:=vNorm_ok ao c I w hI hn hT
 rw [nmV_nrV] at C1
 refine hbeta_of ao I.length c (nrV (toN I)) _ (ldS (toN I)) w ?_ (nrV_lt _) C1 (fun w' hb=>hbelow_any ao c I w' (hI.below hb) hn)
 cases ldS (toN I)
 ·exact .inr ⟨rfl,if_neg (by decide)⟩
 ·exact .inl ⟨rfl,if_pos rfl⟩
theorem hmake1_any (x:Nat) (w:World) :
  Calls Tryz.prog 72 #[.int .u64 x] w fun e w'=>e = .returned (.int .u64 (0:Nat))∧Below w.heap.size w w':=by
 go_enter Tryz.func72,Tryz.ntmps72
 go_wp2
 go_ret
 exact ⟨rfl,Below.refl _ _⟩
theorem hmake2_any (x d g:Nat) (w:World) (hx:x < 18446744073709551616) (hd:d < 18446744073709551616) (hg:w.cell? ⟨g,0,none⟩ = some (.int .u64 (d:Nat))) (hT:Tab w) :
  Calls Tryz.prog 75 #[.int .u64 x,.pointer (some ⟨g,0,none⟩)] w fun e w'=>e = .returned (.int .u64 (dV x d:Nat))∧Below w.heap.size w w':=by
 have K:=hide (pdiv_any x d w hx hd hT)
 generalize dV x d = o at *
 clear hx hd hT
 go_enter Tryz.func75,Tryz.ntmps75
 go_wp2_with fail
 refine Calls.mono (uH K) ?_
 rintro e w1 ⟨rfl,hb1⟩
 clear K
 go_wp2
 go_ret
 exact ⟨rfl,hb1⟩
def oaL (f:Nat→Nat) (k:Nat):List Nat:=4607182418800017408 :: fsL f k
theorem oaL_len (f:Nat→Nat) (k:Nat):(oaL f k).length = k+1:=by
 show (fsL f k).length+1 = _
 rw [fsL_len]
theorem oaL_succ (f:Nat→Nat) (k:Nat):oaL f (k+1) = oaL f k ++ [f k]:=by
 show 4607182418800017408 :: fsL f (k+1) = (4607182418800017408 :: fsL f k) ++ [f k]
 rw [fsL_succ]
 rfl
theorem oneAnd_any (fn:Nat) (caps:Array Value) (ao:Option Addr) (c:Nat) (J:List Int) (f:Nat→Nat) (w:World)
  (hcf:∀ args w,(callFunc fn args).run Tryz.prog w = .ok (.enter fn args) w) (hJ:BitsAt w ao c J) (hn:J.length≤64) (hf:∀ k,k < J.length→f k < 18446744073709551616)
  (hstep:∀ w' k,Below w.heap.size w w'→k < J.length→Calls Tryz.prog fn (#[.int .u64 (atB J k:Nat)] ++ caps) w' fun e w''=>e = .returned (.int .u64 (f k:Nat))∧Below w'.heap.size w' w'') :
  Calls Tryz.prog 71 #[.slice ao J.length c,.func (.func fn) #[] caps] w fun e w'=>∃ bo d,e = .returned (.slice bo (J.length+1:Nat) d)∧NewB w.heap.size bo (mxL (oaL f J.length))∧BitsAt w' bo d (mxL (oaL f J.length))∧Below w.heap.size w w':=by
 obtain ⟨i0,hi0,hz0,hz1,hz2⟩:=info_parts infoBits
 have HS:=hide hstep;have HF:=hide hf;have HJ:=hide hJ
 obtain ⟨n,hnn⟩:∃ n,J.length = n:=⟨_,rfl⟩
 rw [hnn] at hn HS HF ⊢
 have HN:=hide hnn
 obtain ⟨m,hm⟩:∃ m,n+1 = m:=⟨_,rfl⟩
 have hmI:(1:Int)+(n:Int) = (m:Int):=by omega
 obtain ⟨w1,hmk,own1,gr1⟩:=run_make_own (P:=Tryz.prog) w w.heap.size 22 30 i0 (.int .u64 0) 1 Tryz.underlying22 hi0 hz0 hz1 .i64 .i64 m (by rw [hz2];omega) (by unfold maxLen;omega) (by simp)
 have B1:Below w.heap.size w w1:=(Below.refl w.heap.size w).grown gr1 (by simp) (fun g hg=>by cases hg)
 have O1:OwnB w.heap.size w1 (.slice (some ⟨w.heap.size,0,none⟩) 0 m) []:=⟨by simpa using own1,by intro x hx;cases hx⟩
 generalize Value.slice (some ⟨w.heap.size,0,none⟩) 0 m = v1 at hmk O1
 obtain ⟨v2,w2,run2,own2,bel2,_,_⟩:=O1.push 4607182418800017408 (by decide) (by simp) B1.size 22
 have RUN:=hide (show (Builtin.append_ #[22,22] 22 #[v1,.slice (some ⟨w1.heap.size,0,none⟩) 1 1]).run Tryz.prog (w1.alloc (.cells #[.int .u64 4607182418800017408] 30)) = .ok v2 w2 from run2)
 have O2:=hide (show OwnB w.heap.size w2 v2 (oaL f 0) from own2)
 have B2:=hide (B1.trans bel2)
 clear own1 gr1 O1 B1 run2 own2 bel2 hstep hf hJ hnn
 go_enter Tryz.func71,Tryz.ntmps71
 go_wp2_with (at_builtin;refine wpList_append_ran _ rfl _ _ 22 rfl _ _ _ _ rfl rfl (uH RUN) ?_;clear RUN)
 clear hmk
 go_loopw [5,17] (fun v i wr=>∃ k:Nat,k≤n∧i = .int .i64 k∧Hid (OwnB w.heap.size wr v (oaL f k))∧Hid (Below w.heap.size w wr)) (fun _ i _=>n - (intOf i).toNat)
 case atStart=>exact ⟨0,Nat.zero_le _,rfl,O2,B2⟩
 case round =>
  clear O2 B2
  obtain ⟨k,hk,rfl,hO,hB⟩:=hrel
  by_cases hlt:k < n
  ·have hkI:(k:Int) < (n:Int):=by omega
   obtain ⟨b,off,hao,hb,hc⟩:=((uH HJ).below hB.out).ne (by rw [uH HN];omega)
   have hck:=hc k (by rw [uH HN];exact hlt)
   have C:=hide (fun w' h=>uH HS w' k h hlt)
   have ho:=hide (uH HF k hlt)
   have eo:=hide (show f k = f k from rfl)
   have hlen:=hide (show (oaL f k).length≤1000000 from by rw [oaL_len];omega)
   subst hao
   clear hc
   obtain ⟨o,eo⟩:∃ o,f k = o:=⟨_,rfl⟩
   rw [eo] at C ho
   have eV:=hide eo
   clear eo
   generalize atB J k = x at *
   go_wp2_with fail
   refine (uH C _ hB.out).mono ?_
   rintro e w2 ⟨rfl,hb2⟩
   have own2:=(uH hO).below hb2
   have B2:=hB.out.trans (hb2.mono hB.out.size)
   obtain ⟨v3,w3,run3,own3,bel3,_,_⟩:=own2.push o (uH ho) (uH hlen) B2.size 22
   have RUN:=hide run3
   have O3:=hide (show OwnB w.heap.size w3 v3 (oaL f (k+1)) from by
    rw [oaL_succ,uH eV];exact own3)
   have B3:=hide (B2.trans bel3)
   clear hb2 C hO hB own2 B2 run3 own3 bel3 ho eV hlen hck
   go_wp2_with (at_builtin;refine wpList_append_ran _ rfl _ _ 22 rfl _ _ _ _ rfl rfl (uH RUN) ?_;clear RUN)
   go_round
   case rel=>exact ⟨k+1,by omega,by go_num,O3,B3⟩
   case measure=>simp [intOf];omega
  ·have hkk:k = n:=by omega
   subst hkk
   obtain ⟨b1,d1,e1,q1⟩:=(uH hO).bits
   rw [oaL_len,hm] at e1
   subst e1
   have HNew:=hide (uH hO).newB
   have Q1:=hide q1
   clear q1 hO
   go_wp2_with fail
   exact bodyPost_ret (v:=.slice b1 m d1) (by simp [results,Tryz.results71,go_sem]) rfl ⟨b1,d1,by rw [hm],uH HNew,uH Q1,hB.out⟩
end Go.Proofs.YtenpggicmfhhdaaGreatDoor
namespace Go.Proofs.YtenpggicmfhhdaaGreatDoor
open Go.RowKit
attribute [local go_sem ↓] Go.wp_at_zero Go.wp_at_succ
theorem hmake_inf (ao:Option Addr) (n c:Nat) (w:World) (h1:1≤n) (h2:n≤64)
  (C1:Calls Tryz.prog 37 #[.slice ao n c] w fun e w''=>e = .returned (.bool false)∧Below w.heap.size w w'') :
  Calls Tryz.prog 51 #[.slice ao n c] w fun e w'=>e = .returned (.tuple #[.slice none 0 0,.int .u64 0,.int .u64 0,.int .i64 4])∧Below w.heap.size w w':=by
 have K1:=hide C1
 have h1I:(n:Int)≤64:=by omega
 have h2I:¬ (n:Int) = 0:=by omega
 have e0:((n:Int) == 0) = false:=by rw [beq_eq_false_iff_ne];exact h2I
 clear C1
 go_enter Tryz.func51,Tryz.ntmps51
 go_wp2_with fail
 refine Calls.mono (uH K1) ?_
 rintro e w1 ⟨rfl,hb1⟩
 clear K1
 go_wp2
 exact bodyPost_ret (v:=.tuple #[.slice none 0 0,.int .u64 0,.int .u64 0,.int .i64 4]) (by simp [results,Tryz.results51,go_sem]) rfl ⟨rfl,hb1⟩
theorem box_new13 (w:World) (d:Nat):(w.alloc (.cells #[.int .u64 (d:Nat)] 30)).cell? ⟨w.heap.size,0,none⟩ = some (.int .u64 (d:Nat)):=by
 rw [cell_of_row _ w.heap.size 0 _ _ _ (heap_alloc_new w (.cells #[.int .u64 (d:Nat)] 30))]
 rfl
theorem box_two13 (w:World) (bt d:Nat) (hbt:bt < 18446744073709551616) (hd:d < 18446744073709551616) :
  BitsAt ((w.alloc (.cells #[.int .u64 (d:Nat)] 30)).alloc (.cells #[.int .u64 (bt:Nat),.int .u64 (d:Nat)] 30)) (some ⟨w.heap.size+1,0,none⟩) 2 [(bt:Int),(d:Int)]∧Below w.heap.size w ((w.alloc (.cells #[.int .u64 (d:Nat)] 30)).alloc (.cells #[.int .u64 (bt:Nat),.int .u64 (d:Nat)] 30))∧((w.alloc (.cells #[.int .u64 (d:Nat)] 30)).alloc (.cells #[.int .u64 (bt:Nat),.int .u64 (d:Nat)] 30)).cell? ⟨w.heap.size,0,none⟩ = some (.int .u64 (d:Nat)):=by
 have h1:=two_bits (w.alloc (.cells #[.int .u64 (d:Nat)] 30)) bt d hbt hd
 rw [size_alloc9] at h1
 have b1:=below_alloc9 w (.cells #[.int .u64 (d:Nat)] 30)
 have b2:=below_alloc9 (w.alloc (.cells #[.int .u64 (d:Nat)] 30)) (.cells #[.int .u64 (bt:Nat),.int .u64 (d:Nat)] 30)
 exact ⟨h1,b1.trans (b2.mono b1.size),cell_keep (box_new13 w d) b2⟩
theorem hmake_flat1 (b off c a:Nat) (w:World) (hc:1≤c)
  (hx:w.cell? ⟨b,off,none⟩ = some (.int .u64 (a:Nat)))
  (C1:Calls Tryz.prog 37 #[.slice (some ⟨b,off,none⟩) 1 c] w fun e w''=>e = .returned (.bool true)∧Below w.heap.size w w'')
  (C2:∀ w',Below w.heap.size w w'→Calls Tryz.prog 70 #[.slice (some ⟨b,off,none⟩) 0 0] w' fun e w''=>e = .returned (.int .u64 (0:Nat))∧Below w'.heap.size w' w'')
  (S:List Nat)
  (C3:∀ w',Below w.heap.size w w'→Calls Tryz.prog 71 #[.slice (some ⟨b,off,none⟩) 0 0,.func (.func 72) #[] #[]] w' fun e w''=>∃ vo vc,e = .returned (.slice vo 1 vc)∧NewB w'.heap.size vo (mxL S)∧BitsAt w'' vo vc (mxL S)∧Below w'.heap.size w' w'') :
  Calls Tryz.prog 51 #[.slice (some ⟨b,off,none⟩) 1 c] w fun e w'=>∃ vo vc,e = .returned (.tuple #[.slice vo 1 vc,.int .u64 0,.int .u64 (a:Nat),.int .i64 0])∧NewB w.heap.size vo (mxL S)∧BitsAt w' vo vc (mxL S)∧Below w.heap.size w w':=by
 have K1:=hide C1;have K2:=hide C2;have K3:=hide C3
 have h4I:(1:Int)≤(c:Int):=by omega
 clear C1 C2 C3
 go_enter Tryz.func51,Tryz.ntmps51
 go_wp2_with fail
 refine Calls.mono (uH K1) ?_
 rintro e w1 ⟨rfl,hb1⟩
 have c0:=cell_keep hx hb1
 have B1:=hide hb1
 clear K1 hx hb1
 go_wp2_with fail
 go_quiet (fail)
 clear c0
 go_wp2_with fail
 have B2:=hide (below_drewN (uH B1) nq)
 clear B1
 refine (uH K2 _ (uH B2)).mono ?_
 rintro e w2 ⟨rfl,hb2⟩
 have B3:=hide ((uH B2).trans (hb2.mono (uH B2).size))
 clear K2 B2 hb2
 go_wp2_with fail
 refine (uH K3 _ (uH B3)).mono ?_
 rintro e w3 ⟨vo,vc,rfl,hn,hs,hb3⟩
 have B4:=hide ((uH B3).trans (hb3.mono (uH B3).size))
 have HN:=hide (NewB.least hn (uH B3).size)
 have HS:=hide hs
 clear K3 B3 hb3 hn hs
 go_wp2
 exact bodyPost_ret (v:=.tuple #[.slice vo 1 vc,.int .u64 0,.int .u64 (a:Nat),.int .i64 0]) (by simp [results,Tryz.results51,go_sem]) rfl ⟨vo,vc,rfl,uH HN,uH HS,uH B4⟩
theorem hmake_flat (b off n c a:Nat) (w:World) (h1:2≤n) (h2:n≤64) (hc:n≤c)
  (hx:w.cell? ⟨b,off,none⟩ = some (.int .u64 (a:Nat)))
  (C1:Calls Tryz.prog 37 #[.slice (some ⟨b,off,none⟩) n c] w fun e w''=>e = .returned (.bool true)∧Below w.heap.size w w'')
  (C2:∀ w',Below w.heap.size w w'→Calls Tryz.prog 70 #[.slice (some ⟨b,off+1,none⟩) (n - 1) (n - 1)] w' fun e w''=>e = .returned (.int .u64 (0:Nat))∧Below w'.heap.size w' w'')
  (S:List Nat)
  (C3:∀ w',Below w.heap.size w w'→Calls Tryz.prog 71 #[.slice (some ⟨b,off+1,none⟩) (n - 1) (n - 1),.func (.func 72) #[] #[]] w' fun e w''=>∃ vo vc,e = .returned (.slice vo n vc)∧NewB w'.heap.size vo (mxL S)∧BitsAt w'' vo vc (mxL S)∧Below w'.heap.size w' w'') :
  Calls Tryz.prog 51 #[.slice (some ⟨b,off,none⟩) n c] w fun e w'=>∃ vo vc,e = .returned (.tuple #[.slice vo n vc,.int .u64 0,.int .u64 (a:Nat),.int .i64 0])∧NewB w.heap.size vo (mxL S)∧BitsAt w' vo vc (mxL S)∧Below w.heap.size w w':=by
 have K1:=hide C1;have K2:=hide C2;have K3:=hide C3
 have h1I:(n:Int)≤64:=by omega
 have h3I:(2:Int)≤(n:Int):=by omega
 have h4I:(n:Int)≤(c:Int):=by omega
 have h2I:¬ (n:Int) = 0:=by omega
 have e0:((n:Int) == 0) = false:=by rw [beq_eq_false_iff_ne];exact h2I
 have e1:decide ((64:Int) < (n:Int)) = false:=decide_eq_false (by omega)
 clear C1 C2 C3
 go_enter Tryz.func51,Tryz.ntmps51
 go_wp2_with fail
 refine Calls.mono (uH K1) ?_
 rintro e w1 ⟨rfl,hb1⟩
 have c0:=cell_keep hx hb1
 have B1:=hide hb1
 clear K1 hx hb1
 go_wp2_with fail
 go_quiet (fail)
 clear c0
 go_wp2_with fail
 have B2:=hide (below_drewN (uH B1) nq)
 clear B1
 refine (uH K2 _ (uH B2)).mono ?_
 rintro e w2 ⟨rfl,hb2⟩
 have B3:=hide ((uH B2).trans (hb2.mono (uH B2).size))
 clear K2 B2 hb2
 go_wp2_with fail
 refine (uH K3 _ (uH B3)).mono ?_
 rintro e w3 ⟨vo,vc,rfl,hn,hs,hb3⟩
 have B4:=hide ((uH B3).trans (hb3.mono (uH B3).size))
 have HN:=hide (NewB.least hn (uH B3).size)
 have HS:=hide hs
 clear K3 B3 hb3 hn hs
 go_wp2
 exact bodyPost_ret (v:=.tuple #[.slice vo n vc,.int .u64 0,.int .u64 (a:Nat),.int .i64 0]) (by simp [results,Tryz.results51,go_sem]) rfl ⟨vo,vc,rfl,uH HN,uH HS,uH B4⟩
theorem hmake_range (b off n c a m bt d:Nat) (w:World) (h1:2≤n) (h2:n≤64) (hc:n≤c) (hm:¬ m = 0) (hbt:bt < 18446744073709551616) (hd:d < 18446744073709551616)
  (hx:w.cell? ⟨b,off,none⟩ = some (.int .u64 (a:Nat)))
  (C1:Calls Tryz.prog 37 #[.slice (some ⟨b,off,none⟩) n c] w fun e w''=>e = .returned (.bool true)∧Below w.heap.size w w'')
  (C2:∀ w',Below w.heap.size w w'→Calls Tryz.prog 70 #[.slice (some ⟨b,off+1,none⟩) (n - 1) (n - 1)] w' fun e w''=>e = .returned (.int .u64 (m:Nat))∧Below w'.heap.size w' w'')
  (C4:∀ w',Below w.heap.size w w'→Calls Tryz.prog 73 #[.slice (some ⟨b,off,none⟩) n c] w' fun e w''=>e = .returned (.int .u64 (bt:Nat))∧Below w'.heap.size w' w'')
  (C5:∀ w',Below w.heap.size w w'→Calls Tryz.prog 74 #[.int .u64 a,.int .u64 bt] w' fun e w''=>e = .returned (.int .u64 (d:Nat))∧Below w'.heap.size w' w'')
  (C6:∀ w' ao,Below w.heap.size w w'→BitsAt w' ao 2 [(bt:Int),(d:Int)]→Calls Tryz.prog 37 #[.slice ao 2 2] w' fun e w''=>e = .returned (.bool false)∧Below w'.heap.size w' w'') :
  Calls Tryz.prog 51 #[.slice (some ⟨b,off,none⟩) n c] w fun e w'=>e = .returned (.tuple #[.slice none 0 0,.int .u64 0,.int .u64 0,.int .i64 2])∧Below w.heap.size w w':=by
 have K1:=hide C1;have K2:=hide C2;have K4:=hide C4;have K5:=hide C5;have K6:=hide C6
 have h1I:(n:Int)≤64:=by omega
 have h3I:(2:Int)≤(n:Int):=by omega
 have h4I:(n:Int)≤(c:Int):=by omega
 have h2I:¬ (n:Int) = 0:=by omega
 have e0:((n:Int) == 0) = false:=by rw [beq_eq_false_iff_ne];exact h2I
 have e1:decide ((64:Int) < (n:Int)) = false:=decide_eq_false (by omega)
 have em:((m:Int) == 0) = false:=by rw [beq_eq_false_iff_ne];omega
 have HBT:=hide hbt;have HD:=hide hd
 clear hbt hd
 clear C1 C2 C4 C5 C6
 go_enter Tryz.func51,Tryz.ntmps51
 go_wp2_with fail
 refine Calls.mono (uH K1) ?_
 rintro e w1 ⟨rfl,hb1⟩
 have c0:=cell_keep hx hb1
 have B1:=hide hb1
 clear K1 hx hb1
 go_wp2_with fail
 go_quiet (fail)
 clear c0
 go_wp2_with fail
 have B2:=hide (below_drewN (uH B1) nq)
 clear B1
 refine (uH K2 _ (uH B2)).mono ?_
 rintro e w2 ⟨rfl,hb2⟩
 have B3:=hide ((uH B2).trans (hb2.mono (uH B2).size))
 clear K2 B2 hb2
 go_wp2_with fail
 refine (uH K4 _ (uH B3)).mono ?_
 rintro e w3 ⟨rfl,hb3⟩
 have B4:=hide ((uH B3).trans (hb3.mono (uH B3).size))
 clear K4 B3 hb3
 go_wp2_with fail
 refine (uH K5 _ (uH B4)).mono ?_
 rintro e w4 ⟨rfl,hb3⟩
 have B5:=hide ((uH B4).trans (hb3.mono (uH B4).size))
 clear K5 B4 hb3
 go_wp2_with fail
 obtain ⟨hb1,hb2,hb3⟩:=box_two13 w4 bt d (uH HBT) (uH HD)
 have B6:=hide ((uH B5).trans (hb2.mono (uH B5).size))
 have CB:=hide hb3
 refine (uH K6 _ _ (uH B6) hb1).mono ?_
 clear hb1 hb2 hb3
 rintro e w5 ⟨rfl,hb3⟩
 have B7:=hide ((uH B6).trans (hb3.mono (uH B6).size))
 have CD:=hide (cell_keep (uH CB) hb3)
 clear K6 B5 B6 CB hb3 HBT HD
 go_wp2
 exact bodyPost_ret (v:=.tuple #[.slice none 0 0,.int .u64 0,.int .u64 0,.int .i64 2]) (by simp [results,Tryz.results51,go_sem]) rfl ⟨rfl,uH B7⟩
theorem hmake_ok (b off n c a m bt d u t:Nat) (w:World) (h1:2≤n) (h2:n≤64) (hc:n≤c) (hm:¬ m = 0) (hbt:bt < 18446744073709551616) (hd:d < 18446744073709551616)
  (hx:w.cell? ⟨b,off,none⟩ = some (.int .u64 (a:Nat)))
  (C1:Calls Tryz.prog 37 #[.slice (some ⟨b,off,none⟩) n c] w fun e w''=>e = .returned (.bool true)∧Below w.heap.size w w'')
  (C2:∀ w',Below w.heap.size w w'→Calls Tryz.prog 70 #[.slice (some ⟨b,off+1,none⟩) (n - 1) (n - 1)] w' fun e w''=>e = .returned (.int .u64 (m:Nat))∧Below w'.heap.size w' w'')
  (C4:∀ w',Below w.heap.size w w'→Calls Tryz.prog 73 #[.slice (some ⟨b,off,none⟩) n c] w' fun e w''=>e = .returned (.int .u64 (bt:Nat))∧Below w'.heap.size w' w'')
  (C5:∀ w',Below w.heap.size w w'→Calls Tryz.prog 74 #[.int .u64 a,.int .u64 bt] w' fun e w''=>e = .returned (.int .u64 (d:Nat))∧Below w'.heap.size w' w'')
  (C6:∀ w' ao,Below w.heap.size w w'→BitsAt w' ao 2 [(bt:Int),(d:Int)]→Calls Tryz.prog 37 #[.slice ao 2 2] w' fun e w''=>e = .returned (.bool true)∧Below w'.heap.size w' w'')
  (S:List Nat)
  (C7:∀ w' g,Below w.heap.size w w'→w'.cell? ⟨g,0,none⟩ = some (.int .u64 (d:Nat))→Calls Tryz.prog 71 #[.slice (some ⟨b,off+1,none⟩) (n - 1) (n - 1),.func (.func 75) #[] #[.pointer (some ⟨g,0,none⟩)]] w' fun e w''=>∃ vo vc,e = .returned (.slice vo n vc)∧NewB w'.heap.size vo (mxL S)∧BitsAt w'' vo vc (mxL S)∧Below w'.heap.size w' w'')
  (C8:∀ w',Below w.heap.size w w'→Calls Tryz.prog 74 #[.int .u64 bt,.int .u64 a] w' fun e w''=>e = .returned (.int .u64 (u:Nat))∧Below w'.heap.size w' w'')
  (C9:∀ w',Below w.heap.size w w'→Calls Tryz.prog 76 #[.int .u64 u,.int .u64 bt] w' fun e w''=>e = .returned (.int .u64 (t:Nat))∧Below w'.heap.size w' w'') :
  Calls Tryz.prog 51 #[.slice (some ⟨b,off,none⟩) n c] w fun e w'=>∃ vo vc,e = .returned (.tuple #[.slice vo n vc,.int .u64 (t:Nat),.int .u64 (bt:Nat),.int .i64 0])∧NewB w.heap.size vo (mxL S)∧BitsAt w' vo vc (mxL S)∧Below w.heap.size w w':=by
 have K1:=hide C1;have K2:=hide C2;have K4:=hide C4;have K5:=hide C5;have K6:=hide C6;have K7:=hide C7;have K8:=hide C8;have K9:=hide C9
 have h1I:(n:Int)≤64:=by omega
 have h3I:(2:Int)≤(n:Int):=by omega
 have h4I:(n:Int)≤(c:Int):=by omega
 have h2I:¬ (n:Int) = 0:=by omega
 have e0:((n:Int) == 0) = false:=by rw [beq_eq_false_iff_ne];exact h2I
 have e1:decide ((64:Int) < (n:Int)) = false:=decide_eq_false (by omega)
 have em:((m:Int) == 0) = false:=by rw [beq_eq_false_iff_ne];omega
 have HBT:=hide hbt;have HD:=hide hd
 clear hbt hd
 clear C1 C2 C4 C5 C6 C7 C8 C9
 go_enter Tryz.func51,Tryz.ntmps51
 go_wp2_with fail
 refine Calls.mono (uH K1) ?_
 rintro e w1 ⟨rfl,hb1⟩
 have c0:=cell_keep hx hb1
 have B1:=hide hb1
 clear K1 hx hb1
 go_wp2_with fail
 go_quiet (fail)
 clear c0
 go_wp2_with fail
 have B2:=hide (below_drewN (uH B1) nq)
 clear B1
 refine (uH K2 _ (uH B2)).mono ?_
 rintro e w2 ⟨rfl,hb2⟩
 have B3:=hide ((uH B2).trans (hb2.mono (uH B2).size))
 clear K2 B2 hb2
 go_wp2_with fail
 refine (uH K4 _ (uH B3)).mono ?_
 rintro e w3 ⟨rfl,hb3⟩
 have B4:=hide ((uH B3).trans (hb3.mono (uH B3).size))
 clear K4 B3 hb3
 go_wp2_with fail
 refine (uH K5 _ (uH B4)).mono ?_
 rintro e w4 ⟨rfl,hb3⟩
 have B5:=hide ((uH B4).trans (hb3.mono (uH B4).size))
 clear K5 B4 hb3
 go_wp2_with fail
 obtain ⟨hb1,hb2,hb3⟩:=box_two13 w4 bt d (uH HBT) (uH HD)
 have B6:=hide ((uH B5).trans (hb2.mono (uH B5).size))
 have CB:=hide hb3
 refine (uH K6 _ _ (uH B6) hb1).mono ?_
 clear hb1 hb2 hb3
 rintro e w5 ⟨rfl,hb3⟩
 have B7:=hide ((uH B6).trans (hb3.mono (uH B6).size))
 have CD:=hide (cell_keep (uH CB) hb3)
 clear K6 B5 B6 CB hb3 HBT HD
 go_wp2_with fail
 refine (uH K7 _ _ (uH B7) (uH CD)).mono ?_
 rintro e w6 ⟨vo,vc,rfl,hn,hs,hb3⟩
 have B8:=hide ((uH B7).trans (hb3.mono (uH B7).size))
 have HN:=hide (NewB.least hn (uH B7).size)
 have HS:=hide hs
 clear K7 B7 hb3 hn hs CD
 go_wp2_with fail
 refine (uH K8 _ (uH B8)).mono ?_
 rintro e w7 ⟨rfl,hb3⟩
 have B9:=hide ((uH B8).trans (hb3.mono (uH B8).size))
 replace HS:=hide ((uH HS).below hb3)
 clear K8 B8 hb3
 go_wp2_with fail
 refine (uH K9 _ (uH B9)).mono ?_
 rintro e w8 ⟨rfl,hb3⟩
 have BA:=hide ((uH B9).trans (hb3.mono (uH B9).size))
 replace HS:=hide ((uH HS).below hb3)
 clear K9 B9 hb3
 go_wp2
 exact bodyPost_ret (v:=.tuple #[.slice vo n vc,.int .u64 (t:Nat),.int .u64 (bt:Nat),.int .i64 0]) (by simp [results,Tryz.results51,go_sem]) rfl ⟨vo,vc,rfl,uH HN,uH HS,uH BA⟩
end Go.Proofs.YtenpggicmfhhdaaGreatDoor
namespace Go.Proofs.YtenpggicmfhhdaaGreatDoor
open Go.RowKit
theorem bg_ngt {xs:List Nat} (h:∀ x ∈ xs,fFin x = true):bgF 0 xs = 0 ↔ ngt xs = true:=by
 obtain ⟨g1,g2,g3,g4⟩:=bgF_fin xs 0 (by decide) h
 constructor
 ·intro h0
  exact List.all_eq_true.2 (fun x hx=>decide_eq_true ((fK_zero x).2 (by have:=g3 x hx;omega)))
 ·intro hn
  rcases g4 with g4 | ⟨x,hx,g4⟩
  ·exact g4
  ·rw [← g4]
   exact (fK_zero x).1 (ngt_true hn x hx)
theorem toN_drop (I:List Int) (k:Nat):toN (I.drop k) = (toN I).drop k:=by
 unfold toN
 rw [List.map_drop]
theorem bits_rest {w:World} {b off c:Nat} {I:List Int} (h:BitsAt w (some ⟨b,off,none⟩) c I) (h1:2≤I.length):BitsAt w (some ⟨b,off+1,none⟩) (I.length - 1) (I.drop 1):=by
 obtain ⟨b',off',e,hb,hc⟩:=h.ne (by omega)
 simp only [Option.some.injEq,Addr.mk.injEq] at e
 obtain ⟨rfl,rfl,_⟩:=e
 refine ⟨by rw [List.length_drop];omega,fun x hx=>h.2.1 x (List.mem_of_mem_drop hx),.inr ⟨b,off+1,rfl,hb,fun i hi=>?_⟩⟩
 have hi':1+i < I.length:=by rw [List.length_drop] at hi;omega
 have e2:=hc (1+i) hi'
 rw [List.getElem?_drop,show off+1+i = off+(1+i) by omega,e2,(h.wf (1+i)).1]
theorem atB_drop (I:List Int) (j:Nat):atB (I.drop 1) j = atB I (j+1):=by
 unfold atB
 rw [List.getElem?_drop,Nat.add_comm 1 j]
theorem fin_rest {I:List Int} (h:fnK I I.length = true):∀ x ∈ (toN I).drop 1,fFin x = true:=fun x hx=>toN_all I (fun x=>fFin x = true) ((fnK_all _).1 h) x (List.mem_of_mem_drop hx)
theorem hMake_flat (ao:Option Addr) (c:Nat) (I:List Int) (w:World) (hI:BitsAt w ao c I) (h1:1≤I.length) (h2:I.length≤64) (hf:fnK I I.length = true) (hn:ngt ((toN I).drop 1) = true) :
  Calls Tryz.prog 51 #[.slice ao I.length c] w fun e w'=>∃ vo vc,e = .returned (.tuple #[.slice vo I.length vc,.int .u64 0,.int .u64 (atB I 0:Nat),.int .i64 0])∧NewB w.heap.size vo (mxL (mkJ (fun _=>0) I.length))∧BitsAt w' vo vc (mxL (mkJ (fun _=>0) I.length))∧Below w.heap.size w w':=by
 obtain ⟨b,off,rfl,hb,hc⟩:=hI.ne (by omega)
 have c0:=hc 0 (by omega)
 have C1:=vFinite_any _ c I w hI (by omega)
 rw [hf] at C1
 have cf:∀ args w,(callFunc 72 args).run Tryz.prog w = .ok (.enter 72 args) w:=fun _ _=>by kernel_rfl
 have hle:=hI.1
 rcases Nat.lt_or_ge 1 I.length with g | g
 ·have R:=fun w' (h:Below w.heap.size w w')=>bits_rest (hI.below h) g
  have e:((I.drop 1).length:Nat) = I.length - 1:=by rw [List.length_drop]
  refine hmake_flat b off I.length c (atB I 0) w g h2 hle c0 C1 (fun w' h=>?_) (mkJ (fun _=>0) I.length) (fun w' h=>?_)
  ·have B:=vBiggest_any _ _ (I.drop 1) w' (R w' h) (by omega)
   rw [bgK_all,toN_drop,(bg_ngt (fin_rest hf)).2 hn,e] at B
   exact B
  ·have O:=oneAnd_any 72 #[] _ _ (I.drop 1) (fun _=>0) w' cf (R w' h) (by omega) (fun _ _=>by show 0 < 18446744073709551616;decide) (fun w'' k _ _=>hmake1_any _ w'')
   rw [e,show I.length - 1+1 = I.length by omega] at O
   exact O
 ·have e1:I.length = 1:=by omega
  rw [e1] at hle C1 ⊢
  refine hmake_flat1 b off c (atB I 0) w hle c0 C1 (fun w' h=>vBiggest_any _ _ [] w' (BitsAt.nilAt _ _ _) (by simp)) (mkJ (fun _=>0) 1) (fun w' h=>?_)
  exact oneAnd_any 72 #[] _ _ [] (fun _=>0) w' cf (BitsAt.nilAt _ _ _) (by simp) (fun _ _=>by show 0 < 18446744073709551616;decide) (fun w'' k _ _=>hmake1_any _ w'')
theorem ngt_two {I:List Int} (hn:ngt ((toN I).drop 1) = false):2≤I.length:=by
 rcases Nat.lt_or_ge I.length 2 with g | g
 ·rw [List.drop_eq_nil_of_le (by rw [toN_len];omega)] at hn
  cases hn
 ·exact g
theorem hMake_no (ao:Option Addr) (c:Nat) (I:List Int) (w:World) (hI:BitsAt w ao c I) (h2:I.length≤64) (hf:fnK I I.length = true) (hn:ngt ((toN I).drop 1) = false) (hk:(fFin (hmB (atB I 0) ((toN I).drop 1)) && fFin (hmD (atB I 0) ((toN I).drop 1))) = false) (hT:Tab w) :
  Calls Tryz.prog 51 #[.slice ao I.length c] w fun e w'=>e = .returned (.tuple #[.slice none 0 0,.int .u64 0,.int .u64 0,.int .i64 2])∧Below w.heap.size w w':=by
 have g:=ngt_two hn
 obtain ⟨b,off,rfl,hb,hc⟩:=hI.ne (by omega)
 have c0:=hc 0 (by omega)
 have C1:=vFinite_any _ c I w hI (by omega)
 rw [hf] at C1
 have R:=fun w' (h:Below w.heap.size w w')=>bits_rest (hI.below h) g
 have e:((I.drop 1).length:Nat) = I.length - 1:=by rw [List.length_drop]
 have ha:=hI.lt 0
 have eB:(if ldS (toN I) = true then nrV (toN I) else fN (nrV (toN I))) = hmB (atB I 0) ((toN I).drop 1):=by
  unfold hmB
  rw [← toN_cons (by omega)]
 refine hmake_range b off I.length c (atB I 0) (bgF 0 ((toN I).drop 1)) (hmB (atB I 0) ((toN I).drop 1)) (hmD (atB I 0) ((toN I).drop 1)) w g h2 hI.1 (fun h0=>by rw [(bg_ngt (fin_rest hf)).1 h0] at hn;cases hn) (hmB_lt _ _) (hmD_lt _ _ ha) c0 C1 (fun w' h=>?_) (fun w' h=>?_) (fun w' h=>psub_any _ _ w' ha (hmB_lt _ _) (hT.all h)) (fun w' ao h h2=>?_)
 ·have B:=vBiggest_any _ _ (I.drop 1) w' (R w' h) (by omega)
  rw [bgK_all,toN_drop,e] at B
  exact B
 ·have B:=hbeta_any _ c I w' (hI.below h) h2 (hT.all h)
  rw [eB] at B
  exact B
 ·have F:=vFinite_any ao 2 _ w' h2 (by simp)
  rw [show fnK [((hmB (atB I 0) ((toN I).drop 1):Nat):Int),((hmD (atB I 0) ((toN I).drop 1):Nat):Int)] [((hmB (atB I 0) ((toN I).drop 1):Nat):Int),((hmD (atB I 0) ((toN I).drop 1):Nat):Int)].length = false from (show fnK [((hmB (atB I 0) ((toN I).drop 1):Nat):Int),((hmD (atB I 0) ((toN I).drop 1):Nat):Int)] 2 = _ from by show ((true && fFin (hmB (atB I 0) ((toN I).drop 1))) && fFin (hmD (atB I 0) ((toN I).drop 1))) = _;rw [Bool.true_and,hk])] at F
  exact F
theorem hMake_yes (ao:Option Addr) (c:Nat) (I:List Int) (w:World) (hI:BitsAt w ao c I) (h2:I.length≤64) (hf:fnK I I.length = true) (hn:ngt ((toN I).drop 1) = false) (hk:(fFin (hmB (atB I 0) ((toN I).drop 1)) && fFin (hmD (atB I 0) ((toN I).drop 1))) = true) (hT:Tab w) :
  Calls Tryz.prog 51 #[.slice ao I.length c] w fun e w'=>∃ vo vc,e = .returned (.tuple #[.slice vo I.length vc,.int .u64 (dV (aV (hmB (atB I 0) ((toN I).drop 1)) (fN (atB I 0))) (hmB (atB I 0) ((toN I).drop 1)):Nat),.int .u64 (hmB (atB I 0) ((toN I).drop 1):Nat),.int .i64 0])∧NewB w.heap.size vo (mxL (mkJ (fun j=>dV (atB I (j+1)) (hmD (atB I 0) ((toN I).drop 1))) I.length))∧BitsAt w' vo vc (mxL (mkJ (fun j=>dV (atB I (j+1)) (hmD (atB I 0) ((toN I).drop 1))) I.length))∧Below w.heap.size w w':=by
 have g:=ngt_two hn
 obtain ⟨b,off,rfl,hb,hc⟩:=hI.ne (by omega)
 have c0:=hc 0 (by omega)
 have C1:=vFinite_any _ c I w hI (by omega)
 rw [hf] at C1
 have R:=fun w' (h:Below w.heap.size w w')=>bits_rest (hI.below h) g
 have e:((I.drop 1).length:Nat) = I.length - 1:=by rw [List.length_drop]
 have ha:=hI.lt 0
 have eB:(if ldS (toN I) = true then nrV (toN I) else fN (nrV (toN I))) = hmB (atB I 0) ((toN I).drop 1):=by
  unfold hmB
  rw [← toN_cons (by omega)]
 have cf:∀ args w,(callFunc 75 args).run Tryz.prog w = .ok (.enter 75 args) w:=fun _ _=>by kernel_rfl
 refine hmake_ok b off I.length c (atB I 0) (bgF 0 ((toN I).drop 1)) (hmB (atB I 0) ((toN I).drop 1)) (hmD (atB I 0) ((toN I).drop 1)) (aV (hmB (atB I 0) ((toN I).drop 1)) (fN (atB I 0))) _ w g h2 hI.1 (fun h0=>by rw [(bg_ngt (fin_rest hf)).1 h0] at hn;cases hn) (hmB_lt _ _) (hmD_lt _ _ ha) c0 C1 (fun w' h=>?_) (fun w' h=>?_) (fun w' h=>psub_any _ _ w' ha (hmB_lt _ _) (hT.all h)) (fun w' ao h h2=>?_) (mkJ (fun j=>dV (atB I (j+1)) (hmD (atB I 0) ((toN I).drop 1))) I.length) (fun w' gx h hg=>?_) (fun w' h=>psub_any _ _ w' (hmB_lt _ _) ha (hT.all h)) (fun w' h=>pdiv_any _ _ w' (aV_lt _ _ (hmB_lt _ _) (fN_lt _ ha)) (hmB_lt _ _) (hT.all h))
 ·have B:=vBiggest_any _ _ (I.drop 1) w' (R w' h) (by omega)
  rw [bgK_all,toN_drop,e] at B
  exact B
 ·have B:=hbeta_any _ c I w' (hI.below h) h2 (hT.all h)
  rw [eB] at B
  exact B
 ·have F:=vFinite_any ao 2 _ w' h2 (by simp)
  rw [show fnK [((hmB (atB I 0) ((toN I).drop 1):Nat):Int),((hmD (atB I 0) ((toN I).drop 1):Nat):Int)] [((hmB (atB I 0) ((toN I).drop 1):Nat):Int),((hmD (atB I 0) ((toN I).drop 1):Nat):Int)].length = true from (show fnK [((hmB (atB I 0) ((toN I).drop 1):Nat):Int),((hmD (atB I 0) ((toN I).drop 1):Nat):Int)] 2 = _ from by show ((true && fFin (hmB (atB I 0) ((toN I).drop 1))) && fFin (hmD (atB I 0) ((toN I).drop 1))) = _;rw [Bool.true_and,hk])] at F
  exact F
 ·have O:=oneAnd_any 75 #[.pointer (some ⟨gx,0,none⟩)] _ _ (I.drop 1) (fun j=>dV (atB I (j+1)) (hmD (atB I 0) ((toN I).drop 1))) w' cf (R w' h) (by omega) (fun _ _=>dV_lt _ _) (fun w'' k hb hk2=>by
   rw [atB_drop]
   exact hmake2_any _ _ gx w'' (hI.lt _) (hmD_lt _ _ ha) (cell_keep hg hb) ((hT.all h).all hb))
  rw [e,show I.length - 1+1 = I.length by omega] at O
  exact O
theorem hMake_ok (ao:Option Addr) (c:Nat) (I:List Int) (w:World) (hI:BitsAt w ao c I) (h1:1≤I.length) (h2:I.length≤64) (hf:fnK I I.length = true) (hk:mrK (toN I) = true) (hT:Tab w) :
  Calls Tryz.prog 51 #[.slice ao I.length c] w fun e w''=>∃ vo vc,e = .returned (.tuple #[.slice vo I.length vc,.int .u64 (mrT (toN I):Nat),.int .u64 (mrB (toN I):Nat),.int .i64 0])∧NewB w.heap.size vo (mxL (mrV (toN I)))∧BitsAt w'' vo vc (mxL (mrV (toN I)))∧Below w.heap.size w w'':=by
 obtain ⟨e1,e2,e3⟩:=mk_facts h1
 cases hn:ngt ((toN I).drop 1)
 ·rw [hn,Bool.false_or] at e3
  rw [e3] at hk
  rw [e1,e2,hn,if_neg (by decide),if_neg (by decide),mr_mkJ h1 (fun x=>dV x (hmD (atB I 0) ((toN I).drop 1))) (fun x=>by rw [hn,if_neg (by decide)])]
  exact hMake_yes ao c I w hI h2 hf hn hk hT
 ·rw [e1,e2,hn,if_pos rfl,if_pos rfl,mr_mkJ h1 (fun _=>0) (fun x=>by rw [hn,if_pos rfl])]
  exact hMake_flat ao c I w hI h1 h2 hf hn
theorem hMake_none (ao:Option Addr) (c:Nat) (I:List Int) (w:World) (hI:BitsAt w ao c I) (h1:1≤I.length) (h2:I.length≤64) (hf:fnK I I.length = true) (hk:mrK (toN I) = false) (hT:Tab w) :
  Calls Tryz.prog 51 #[.slice ao I.length c] w fun e w''=>∃ so cs,e = .returned (.tuple #[.slice so 0 cs,.int .u64 0,.int .u64 0,.int .i64 2])∧Below w.heap.size w w'':=by
 obtain ⟨_,_,e3⟩:=mk_facts h1
 rw [hk] at e3
 have e3':=e3.symm
 rw [Bool.or_eq_false_iff] at e3'
 refine (hMake_no ao c I w hI h2 hf e3'.1 e3'.2 hT).mono ?_
 rintro e w' ⟨rfl,hb⟩
 exact ⟨_,_,rfl,hb⟩
theorem hMake_inf (ao:Option Addr) (c:Nat) (I:List Int) (w:World) (hI:BitsAt w ao c I) (h1:1≤I.length) (h2:I.length≤64) (hf:fnK I I.length = false) :
  Calls Tryz.prog 51 #[.slice ao I.length c] w fun e w''=>∃ so cs,e = .returned (.tuple #[.slice so 0 cs,.int .u64 0,.int .u64 0,.int .i64 4])∧Below w.heap.size w w'':=by
 have C1:=vFinite_any ao c I w hI (by omega)
 rw [hf] at C1
 refine (hmake_inf ao I.length c w h1 h2 C1).mono ?_
 rintro e w' ⟨rfl,hb⟩
 exact ⟨_,_,rfl,hb⟩
end Go.Proofs.YtenpggicmfhhdaaGreatDoor
namespace Go.Proofs.YtenpggicmfhhdaaGreatDoor
open Go.RowKit
attribute [local go_sem ↓] Go.wp_at_zero Go.wp_at_succ
theorem himage1_of (t x y p o k n m c d bx by' ba:Nat) (b1 o1 b2 o2:Nat) (w:World) (hk:k < n) (hm:k < m)
  (h1:w.cell? ⟨bx,0,none⟩ = some (.slice (some ⟨b1,o1,none⟩) n c)) (h2:w.cell? ⟨by',0,none⟩ = some (.slice (some ⟨b2,o2,none⟩) m d)) (h5:w.cell? ⟨ba,0,none⟩ = some (.int .u64 (t:Nat)))
  (h3:w.cell? ⟨b1,o1+k,none⟩ = some (.int .u64 (x:Nat))) (h4:w.cell? ⟨b2,o2+k,none⟩ = some (.int .u64 (y:Nat)))
  (C1:∀ w',Below w.heap.size w w'→Calls Tryz.prog 116 #[.int .u64 t,.int .u64 y] w' fun r w''=>r = .returned (.int .u64 (p:Nat))∧Below w'.heap.size w' w'')
  (C2:∀ w',Below w.heap.size w w'→Calls Tryz.prog 74 #[.int .u64 x,.int .u64 p] w' fun r w''=>r = .returned (.int .u64 (o:Nat))∧Below w'.heap.size w' w'') :
  Calls Tryz.prog 117 #[.int .i64 k,.pointer (some ⟨bx,0,none⟩),.pointer (some ⟨ba,0,none⟩),.pointer (some ⟨by',0,none⟩)] w fun e w'=>e = .returned (.int .u64 (o:Nat))∧Below w.heap.size w w':=by
 have K1:=hide C1;have K2:=hide C2
 have hkI:(k:Int) < (n:Int):=by omega
 have hkJ:(k:Int) < (m:Int):=by omega
 have HK:=hide (fun w' (h:Below w.heap.size w w')=>(show Below w.heap.size w w'∧w'.cell? ⟨bx,0,none⟩ = some (.slice (some ⟨b1,o1,none⟩) n c)∧w'.cell? ⟨by',0,none⟩ = some (.slice (some ⟨b2,o2,none⟩) m d)∧w'.cell? ⟨b1,o1+k,none⟩ = some (.int .u64 (x:Nat))∧w'.cell? ⟨b2,o2+k,none⟩ = some (.int .u64 (y:Nat))∧w'.cell? ⟨ba,0,none⟩ = some (.int .u64 (t:Nat)) from
  ⟨h,cell_keep h1 h,cell_keep h2 h,cell_keep h3 h,cell_keep h4 h,cell_keep h5 h⟩))
 clear C1 C2 h1 h2 h3 h4 h5
 go_enter Tryz.func117,Tryz.ntmps117
 go_wp2_with fail
 go_region_held3 (fun w'=>Below w.heap.size w w'∧w'.cell? ⟨bx,0,none⟩ = some (.slice (some ⟨b1,o1,none⟩) n c)∧w'.cell? ⟨by',0,none⟩ = some (.slice (some ⟨b2,o2,none⟩) m d)∧w'.cell? ⟨b1,o1+k,none⟩ = some (.int .u64 (x:Nat))∧w'.cell? ⟨b2,o2+k,none⟩ = some (.int .u64 (y:Nat))∧w'.cell? ⟨ba,0,none⟩ = some (.int .u64 (t:Nat)))
  (first | exact uH HK _ (Below.refl _ _).drew | exact uH HK _ (by assumption) | fail "KK")
  (first | (go_at_call 116;refine (uH K1 _ (And.left (by assumption))).mono ?_;rintro e w1 ⟨rfl,hb1⟩;have hB1:Below w.heap.size w w1:=Below.trans (And.left (by assumption)) (hb1.mono (Below.size (And.left (by assumption))));clear hb1) | (go_at_call 74;refine (uH K2 _ (And.left (by assumption))).mono ?_;rintro e w2 ⟨rfl,hb2⟩;have hB2:Below w.heap.size w w2:=Below.trans (And.left (by assumption)) (hb2.mono (Below.size (And.left (by assumption))));clear hb2) | fail "NO ARM")
 go_wp2
 go_ret
 exact ⟨rfl,And.left (by assumption)⟩
structure ImAt (w:World) (v:Value) (H:Nat) (xo vo:Option Addr) (n xc m vc t:Nat):Prop where
 ex:∃ bx bt bv,v = .func (.func 117) #[] #[.pointer (some ⟨bx,0,none⟩),.pointer (some ⟨bt,0,none⟩),.pointer (some ⟨bv,0,none⟩)]∧H≤bx∧H≤bt∧H≤bv∧w.cell? ⟨bx,0,none⟩ = some (.slice xo n xc)∧w.cell? ⟨bt,0,none⟩ = some (.int .u64 (t:Nat))∧w.cell? ⟨bv,0,none⟩ = some (.slice vo m vc)
theorem himage_of (xo vo:Option Addr) (n xc m vc tau d t:Nat) (w:World)
  (C1:∀ w',Below w.heap.size w w'→Calls Tryz.prog 115 #[.slice vo m vc,.slice xo n xc] w' fun e w''=>e = .returned (.tuple #[.int .u64 (d:Nat),.int .i64 0])∧Below w'.heap.size w' w'')
  (C2:∀ w',Below w.heap.size w w'→Calls Tryz.prog 116 #[.int .u64 tau,.int .u64 d] w' fun e w''=>e = .returned (.int .u64 (t:Nat))∧Below w'.heap.size w' w'') :
  Calls Tryz.prog 97 #[.slice xo n xc,.slice vo m vc,.int .u64 tau] w fun e w'=>∃ v,e = .returned v∧ImAt w' v w.heap.size xo vo n xc m vc t∧Below w.heap.size w w':=by
 have K1:=hide C1;have K2:=hide C2
 clear C1 C2
 have b1:=below_alloc9 w (.cells #[.slice xo n xc] 22)
 have x1:=new_cell w (.slice xo n xc) 22
 have s1:=size_alloc9 w (.cells #[.slice xo n xc] 22)
 have b2:=below_alloc9 (w.alloc (.cells #[.slice xo n xc] 22)) (.cells #[.slice vo m vc] 22)
 have x2:=new_cell (w.alloc (.cells #[.slice xo n xc] 22)) (.slice vo m vc) 22
 have y1:=cell_keep x1 b2
 rw [s1] at x2
 have HA:=hide (show Below w.heap.size w ((w.alloc (.cells #[.slice xo n xc] 22)).alloc (.cells #[.slice vo m vc] 22)) from b1.trans (b2.mono b1.size))
 have HX:=hide y1;have HV:=hide x2
 clear b1 x1 s1 b2 x2 y1
 go_enter Tryz.func97,Tryz.ntmps97
 go_wp2_with fail
 refine (uH K1 _ (uH HA)).mono ?_
 rintro e w1 ⟨rfl,hb1⟩
 replace HX:=hide (cell_keep (uH HX) hb1)
 replace HV:=hide (cell_keep (uH HV) hb1)
 replace HA:=hide ((uH HA).trans (hb1.mono (uH HA).size))
 clear hb1 K1
 go_wp2_with fail
 refine (uH K2 _ (uH HA)).mono ?_
 rintro e w2 ⟨rfl,hb1⟩
 replace HX:=hide (cell_keep (uH HX) hb1)
 replace HV:=hide (cell_keep (uH HV) hb1)
 replace HA:=hide ((uH HA).trans (hb1.mono (uH HA).size))
 clear hb1 K2
 have b3:=below_alloc9 w2 (.cells #[.int .u64 (t:Nat)] 30)
 have x3:=hide (new_cell w2 (.int .u64 (t:Nat)) 30)
 replace HX:=hide (cell_keep (uH HX) b3)
 replace HV:=hide (cell_keep (uH HV) b3)
 have HS:=hide (uH HA).size
 replace HA:=hide ((uH HA).trans (b3.mono (uH HA).size))
 clear b3
 go_wp2
 go_ret
 exact ⟨_,rfl,⟨_,_,_,rfl,Nat.le_refl _,uH HS,Nat.le_succ _,uH HX,uH x3,uH HV⟩,uH HA⟩
theorem himage_any (xo vo:Option Addr) (xc vc tau:Nat) (xs vs:List Nat) (w:World) (hX:BitsAt w xo xc (mxL xs)) (hV:BitsAt w vo vc (mxL vs)) (hl:xs.length = vs.length) (h6:vs.length≤64) (ht:tau < 18446744073709551616) (hT:Tab w) :
  Calls Tryz.prog 97 #[.slice xo xs.length xc,.slice vo vs.length vc,.int .u64 tau] w fun e w'=>∃ v,e = .returned v∧ImAt w' v w.heap.size xo vo xs.length xc vs.length vc (mV tau (dtV 0 vs xs))∧Below w.heap.size w w':=by
 refine himage_of xo vo xs.length xc vs.length vc tau (dtV 0 vs xs) _ w (fun w' hb=>?_) (fun w' hb=>?_)
 ·have D:=vDot_any vo xo vc xc (mxL vs) (mxL xs) w' (hV.below hb) (hX.below hb) (hT.all hb)
  have g:goB (mxL vs) (mxL xs) = true:=decide_eq_true ⟨by rw [mxL_len];exact h6,by rw [mxL_len,mxL_len,hl]⟩
  rw [if_pos g,if_pos g,dtK_dtV (mxL vs) (mxL xs) (mxL vs).length (Nat.le_refl _) (by rw [mxL_len,mxL_len,hl];exact Nat.le_refl _),toN_mxL,toN_mxL,mxL_len,mxL_len,List.take_of_length_le (Nat.le_refl _),List.take_of_length_le (by rw [hl];exact Nat.le_refl _)] at D
  exact D
 ·refine vmul_any tau (dtV 0 vs xs) w' ht ?_ (hT.all hb)
  have:=dtK_lt (mxL vs) (mxL xs) (mxL vs).length
  rwa [dtK_dtV (mxL vs) (mxL xs) (mxL vs).length (Nat.le_refl _) (by rw [mxL_len,mxL_len,hl];exact Nat.le_refl _),toN_mxL,toN_mxL,mxL_len,List.take_of_length_le (Nat.le_refl _),List.take_of_length_le (by rw [hl];exact Nat.le_refl _)] at this
structure MiSt (w wr:World) (r c n cap:Nat) (ao:Option Addr) (S:List Nat):Prop where
 bel:Below w.heap.size w wr
 m:BoxM wr w.heap.size (.int .i64 r) (.int .i64 c) (.slice ao n cap)
 res:BoxM wr (w.heap.size+1) (.int .i64 0) (.int .i64 0) (.slice none 0 0)
 row:RowB wr (w.heap.size+1+1) S
theorem MiSt.all {w wr w':World} {r c n cap:Nat} {ao:Option Addr} {S:List Nat} (h:MiSt w wr r c n cap ao S) (hb:Below wr.heap.size wr w'):MiSt w w' r c n cap ao S :=
 ⟨h.bel.trans (hb.mono h.bel.size),h.m.all hb,h.res.all hb,h.row.below hb h.row.lt⟩
theorem MiSt.set {w wr:World} {r c n cap:Nat} {ao:Option Addr} {S:List Nat} (h:MiSt w wr r c n cap ao S) (p x:Nat):MiSt w (wr.setCell ⟨w.heap.size+1+1,p,none⟩ (.int .u64 (x:Int))) r c n cap ao (S.set p x) :=
 ⟨h.bel.setCell (p:=⟨w.heap.size+1+1,p,none⟩) (by show w.heap.size≤w.heap.size+1+1;omega) _,h.m.other (p:=⟨w.heap.size+1+1,p,none⟩) (by show w.heap.size ≠ w.heap.size+1+1;omega) _,h.res.other (p:=⟨w.heap.size+1+1,p,none⟩) (by show w.heap.size+1 ≠ w.heap.size+1+1;omega) _,h.row.set p x⟩
theorem MiSt.start (w:World) (r c n cap:Nat) (ao:Option Addr) :
  MiSt w (((w.alloc (.cells #[.int .i64 r,.int .i64 c,.slice ao n cap] 24)).alloc (.cells #[.int .i64 0,.int .i64 0,.slice none 0 0] 24)).alloc (.cells (madeCells #[.int .u64 0] n) 30)) r c n cap ao (List.replicate n 0):=by
 have b0:=below_alloc9 w (.cells #[.int .i64 r,.int .i64 c,.slice ao n cap] 24)
 have s0:=size_alloc9 w (.cells #[.int .i64 r,.int .i64 c,.slice ao n cap] 24)
 have x0:=BoxM.new w (.int .i64 r) (.int .i64 c) (.slice ao n cap)
 generalize w.alloc (.cells #[.int .i64 r,.int .i64 c,.slice ao n cap] 24) = w0 at *
 have b3:=below_alloc9 w0 (.cells #[.int .i64 0,.int .i64 0,.slice none 0 0] 24)
 have z3:=size_alloc9 w0 (.cells #[.int .i64 0,.int .i64 0,.slice none 0 0] 24)
 have x3:=BoxM.new w0 (.int .i64 0) (.int .i64 0) (.slice none 0 0)
 generalize w0.alloc (.cells #[.int .i64 0,.int .i64 0,.slice none 0 0] 24) = w3 at *
 have b4:=below_alloc9 w3 (.cells (madeCells #[.int .u64 0] n) 30)
 have x4:=RowB.made w3 n
 rw [s0] at x3 z3
 rw [z3] at x4
 have c3:=b0.trans (b3.mono b0.size)
 exact ⟨c3.trans (b4.mono c3.size),(x0.all b3).all b4,x3.all b4,x4⟩
theorem MiSt.copied {w wr w':World} {r c n cap:Nat} {ao:Option Addr} {S T:List Nat} (h:MiSt w wr r c n cap ao S) (hb:Below (w.heap.size+1+1) wr w') (hr:RowB w' (w.heap.size+1+1) T):MiSt w w' r c n cap ao T :=
 ⟨h.bel.trans (hb.mono (by omega)),h.m.below hb (by omega),h.res.below hb (by omega),hr⟩
structure MjSt (w wr:World) (r c n cap:Nat) (ao:Option Addr) (S:List Nat) (bx bt bv:Nat) (po vo:Option Addr) (L pc vc t:Nat) (X:List Int):Prop where
 st:MiSt w wr r c n cap ao S
 lx:w.heap.size+1+1+1≤bx
 lt:w.heap.size+1+1+1≤bt
 lv:w.heap.size+1+1+1≤bv
 cx:wr.cell? ⟨bx,0,none⟩ = some (.slice po L pc)
 ct:wr.cell? ⟨bt,0,none⟩ = some (.int .u64 (t:Nat))
 cv:wr.cell? ⟨bv,0,none⟩ = some (.slice vo L vc)
 x:BitsAt wr po pc X
 nx:NewB (w.heap.size+1+1+1) po X
theorem MjSt.all {w wr w':World} {r c n cap:Nat} {ao:Option Addr} {S:List Nat} {bx bt bv:Nat} {po vo:Option Addr} {L pc vc t:Nat} {X:List Int} (h:MjSt w wr r c n cap ao S bx bt bv po vo L pc vc t X) (hb:Below wr.heap.size wr w'):MjSt w w' r c n cap ao S bx bt bv po vo L pc vc t X :=
 ⟨h.st.all hb,h.lx,h.lt,h.lv,cell_keep h.cx hb,cell_keep h.ct hb,cell_keep h.cv hb,h.x.below hb,h.nx⟩
theorem MjSt.set {w wr:World} {r c n cap:Nat} {ao:Option Addr} {S:List Nat} {bx bt bv:Nat} {po vo:Option Addr} {L pc vc t:Nat} {X:List Int} (h:MjSt w wr r c n cap ao S bx bt bv po vo L pc vc t X) (p x:Nat):MjSt w (wr.setCell ⟨w.heap.size+1+1,p,none⟩ (.int .u64 (x:Int))) r c n cap ao (S.set p x) bx bt bv po vo L pc vc t X:=by
 have l1:=h.lx;have l2:=h.lt;have l3:=h.lv
 refine ⟨h.st.set p x,l1,l2,l3,?_,?_,?_,h.x.far h.nx (by omega) p _,h.nx⟩
 ·rw [cell_setCell_other _ _ _ _ (show bx ≠ w.heap.size+1+1 by omega)];exact h.cx
 ·rw [cell_setCell_other _ _ _ _ (show bt ≠ w.heap.size+1+1 by omega)];exact h.ct
 ·rw [cell_setCell_other _ _ _ _ (show bv ≠ w.heap.size+1+1 by omega)];exact h.cv
end Go.Proofs.YtenpggicmfhhdaaGreatDoor
namespace Go.Proofs.YtenpggicmfhhdaaGreatDoor
open Go.RowKit
attribute [local go_sem ↓] Go.wp_at_zero Go.wp_at_succ
theorem mirrored_of (r c n cap i k L vc tau:Nat) (ao vo:Option Addr) (T:Nat→Nat→List Nat) (X:Nat→List Int) (P U:Nat→Nat→Nat) (t:Nat→Nat) (w:World) (h36:n≤36) (h6:c≤6) (hr6:r≤6) (hil:i+L≤r) (hk:k≤c)
  (hS:BitsAt w ao cap (mxL (T k 0))) (lT:∀ d j,(T d j).length = n) (hnext:∀ d,T d L = T (d+1) 0)
  (hP:∀ d j,k≤d→d < c→j < L→P d j < n∧(i+j) * c+d = P d j∧(T d j).set (P d j) (U d j) = T d (j+1))
  (C1:∀ w' d,Below w.heap.size w w'→k≤d→d < c→Calls Tryz.prog 50 #[.agg #[.int .i64 r,.int .i64 c,.slice ao n cap],.int .i64 i,.int .i64 (d:Nat),.int .i64 L,.int .i64 1] w' fun e w''=>∃ po pc,e = .returned (.tuple #[.agg #[.int .i64 L,.int .i64 1,.slice po L pc],.int .i64 0])∧NewB w'.heap.size po (X d)∧BitsAt w'' po pc (X d)∧Below w'.heap.size w' w'')
  (C2:∀ w' d po pc,Below w.heap.size w w'→k≤d→d < c→BitsAt w' po pc (X d)→Calls Tryz.prog 97 #[.slice po L pc,.slice vo L vc,.int .u64 tau] w' fun e w''=>∃ v,e = .returned v∧ImAt w'' v w'.heap.size po vo L pc L vc (t d)∧Below w'.heap.size w' w'')
  (C3:∀ w' d j po pc bx bt bv,Below w.heap.size w w'→k≤d→d < c→j < L→BitsAt w' po pc (X d)→w'.cell? ⟨bx,0,none⟩ = some (.slice po L pc)→w'.cell? ⟨bt,0,none⟩ = some (.int .u64 (t d:Nat))→w'.cell? ⟨bv,0,none⟩ = some (.slice vo L vc)→Calls Tryz.prog 117 #[.int .i64 (j:Nat),.pointer (some ⟨bx,0,none⟩),.pointer (some ⟨bt,0,none⟩),.pointer (some ⟨bv,0,none⟩)] w' fun e w''=>e = .returned (.int .u64 (U d j:Nat))∧Below w'.heap.size w' w'') :
  Calls Tryz.prog 77 #[.agg #[.int .i64 r,.int .i64 c,.slice ao n cap],.int .i64 i,.int .i64 k,.slice vo L vc,.int .u64 tau] w fun e w'=>∃ g,e = .returned (.agg #[.int .i64 r,.int .i64 c,.slice (some ⟨g,0,none⟩) n n])∧w.heap.size≤g∧RowB w' g (T c 0)∧Below w.heap.size w w':=by
 have ST:=hide (MiSt.start w r c n cap ao)
 have hmk:=run_make_row' (P:=Tryz.prog) 22 30 (.int .u64 0) 8 Tryz.underlying22 (by kernel_rfl) rfl .i64 .i64 n (by omega) (by omega)
 have HP:=hide hP;have K1:=hide C1;have K2:=hide C2;have K3:=hide C3;have LT:=hide lT;have HX:=hide hnext
 obtain ⟨w5,hcp,hr5,hb5⟩:=copy_run _ (w.heap.size+1+1) n cap ao (T k 0) (uH ST).row (hS.below (uH ST).bel) (lT k 0)
 have ST5:=hide ((uH ST).copied hb5 hr5)
 clear hP C1 C2 C3 lT hS hr5 hb5 hnext
 have y0:=(uH ST).m.c0;have y1:=(uH ST).m.c1;have y2:=(uH ST).m.c2
 go_enter Tryz.func77,Tryz.ntmps77
 go_wp2_with fail
 clear hmk hcp y0 y1 y2 ST
 go_loopw [12] (fun a wr=>∃ d:Nat,k≤d∧d≤c∧a = .int .i64 d∧Hid (MiSt w wr r c n cap ao (T d 0))) (fun a _=>c - (intOf a).toNat)
 case atStart=>exact ⟨k,Nat.le_refl _,hk,rfl,ST5⟩
 case round =>
  clear ST5
  obtain ⟨d,hkd,hdc,rfl,hS⟩:=hrel
  by_cases hlt:d < c
  ·have hdI:(d:Int) < (c:Int):=by omega
   have y0:=(uH hS).m.c0;have y1:=(uH hS).m.c1;have y2:=(uH hS).m.c2
   go_wp2_with fail
   clear y0 y1 y2
   refine (uH K1 _ d (uH hS).bel hkd hlt).mono ?_
   rintro e w2 ⟨po,pc,rfl,hn,hx,hb⟩
   have S2:=hide ((uH hS).all hb)
   have HN:=hide (NewB.least hn (show w.heap.size+1+1+1≤wr.heap.size from (uH hS).row.lt))
   have HB:=hide hx
   clear hn hx hb hS
   go_wp2_with fail
   have ba:=below_alloc9 w2 (.cells #[.int .i64 L,.int .i64 1,.slice po L pc] 24)
   replace S2:=hide ((uH S2).all ba)
   replace HB:=hide ((uH HB).below ba)
   clear ba
   have HL:=hide (show w.heap.size+1+1+1≤(w2.alloc (.cells #[.int .i64 L,.int .i64 1,.slice po L pc] 24)).heap.size from (uH S2).row.lt)
   refine (uH K2 _ d po pc (uH S2).bel hkd hlt (uH HB)).mono ?_
   rintro e w3 ⟨v,rfl,hv,hb⟩
   obtain ⟨bx,bt,bv,rfl,l1,l2,l3,c1,c2,c3⟩:=hv.ex
   have S3:=hide (show MjSt w w3 r c n cap ao (T d 0) bx bt bv po vo L pc vc (t d) (X d) from ⟨(uH S2).all hb,Nat.le_trans (uH HL) l1,Nat.le_trans (uH HL) l2,Nat.le_trans (uH HL) l3,c1,c2,c3,(uH HB).below hb,uH HN⟩)
   clear hv hb l1 l2 l3 c1 c2 c3 S2 HN HB HL
   have KC:=hide (fun w' j hb hj hx h1 h2 h3=>uH K3 w' d j po pc bx bt bv hb hkd hlt hj hx h1 h2 h3)
   have HPD:=hide (fun j hj=>uH HP d j hkd hlt hj)
   have LTD:=hide (uH LT d)
   have HXD:=hide (uH HX d)
   generalize hTD:T d = TD at *
   generalize hUD:U d = UD at *
   generalize hPD:P d = PD at *
   generalize t d = td at *
   generalize X d = XD at *
   go_wp2_with fail
   go_loopw [48] (fun a wr=>∃ j:Nat,j≤L∧a = .int .i64 j∧Hid (MjSt w wr r c n cap ao (TD j) bx bt bv po vo L pc vc td XD)) (fun a _=>L - (intOf a).toNat)
   case atStart=>exact ⟨0,Nat.zero_le _,rfl,S3⟩
   case round =>
    clear S3
    obtain ⟨j,hj,rfl,hS⟩:=hrel
    by_cases hjl:j < L
    ·have hjI:(j:Int) < (L:Int):=by omega
     obtain ⟨hp,hpe,hset⟩:=uH HPD j hjl
     have KJ:=hide (fun w' hb hx h1 h2 h3=>uH KC w' j hb hjl hx h1 h2 h3)
     have LL:=hide (uH LTD j);have HN:=hide hset
     clear hset
     obtain ⟨a,ha⟩:∃ a,i+j = a:=⟨_,rfl⟩
     rw [ha] at hpe
     obtain ⟨q,hq⟩:∃ q,a * c = q:=⟨_,rfl⟩
     rw [hq] at hpe
     have e1:IntKind.i64.wrap ((i:Int)+(j:Int)) = (a:Int):=(wrap_in _ (by omega)).trans (by omega)
     have e2:IntKind.i64.wrap ((a:Int) * (c:Int)) = (q:Int):=by
      rw [cast_mul10 a c,hq]
      exact wrap_in _ (by omega)
     have e3:IntKind.i64.wrap ((q:Int)+(d:Int)) = (PD j:Int):=(wrap_in _ (by omega)).trans (by omega)
     have e4:(i:Int)+(j:Int) = (a:Int):=by omega
     have e5:(a:Int) * (c:Int) = (q:Int):=by rw [cast_mul10 a c,hq]
     have e6:(q:Int)+(d:Int) = (PD j:Int):=by omega
     have w1:IntKind.i64.wrap (a:Int) = (a:Int):=wrap_in _ (by omega)
     have w2:IntKind.i64.wrap (q:Int) = (q:Int):=wrap_in _ (by omega)
     have w3:IntKind.i64.wrap (PD j:Int) = (PD j:Int):=wrap_in _ (by omega)
     generalize hTT:TD j = TT at *
     generalize hTN:TD (j+1) = TN at *
     generalize PD j = p at *
     generalize UD j = u at *
     have hpI:(p:Int) < (n:Int):=by omega
     clear hq hpe ha
     go_wp2_with fail
     refine at_world (fun W=>MjSt w W r c n cap ao TT bx bt bv po vo L pc vc td XD) (uH hS) ?_
     clear hS
     intro W st
     have ST:=hide (st.all ((Below.refl W.heap.size W).drew))
     clear st
     have y1:=(uH ST).st.m.c1
     go_region_with (first
      | (go_at_call 117;refine (uH KJ _ (uH ST).st.bel (uH ST).x (uH ST).cx (uH ST).ct (uH ST).cv).mono ?_;rintro e w8 ⟨rfl,hb⟩;clear y1;have S8:=(uH ST).all hb;have y1:=S8.st.m.c1;have d1:=S8.st.row.cell p (by rw [uH LL];exact hp);have f1':=S8.st.row.free p;have P9:=hide (S8.set p u);clear S8 hb ST KJ)
      | fail "NO ARM")
     all_goals
      clear d1 f1' y1
      go_wp2_with fail
      go_round
      case rel=>exact ⟨j+1,by omega,by go_num,by rw [hTN,← uH HN];exact P9⟩
      case measure=>simp [intOf];omega
    ·have hjj:j = L:=by omega
     subst hjj
     have S4:=hide (uH hS).st
     rw [uH HXD] at S4
     clear hS
     go_wp2_with fail
     go_round
     case rel=>exact ⟨d+1,by omega,by omega,by go_num,S4⟩
     case measure=>simp [intOf];omega
  ·have hdd:d = c:=by omega
   subst hdd
   obtain ⟨h6,h1,h4,h5⟩:=uH hS
   have y0:=h1.c0;have y1:=h1.c1;have y2:=h1.c2
   have r0:=h4.c0;have r1:=h4.c1;have r2:=h4.c2
   have f0:=h4.free 0;have f1:=h4.free 1;have f2:=h4.free 2
   have XP:=h4.put (.int .i64 r) (.int .i64 d) (.slice (some ⟨w.heap.size+1+1,0,none⟩) n n)
   have z0:=XP.c0;have z1:=XP.c1;have z2:=XP.c2
   have RW:=hide (h5.three (g:=w.heap.size+1) (by omega) (.int .i64 r) (.int .i64 d) (.slice (some ⟨w.heap.size+1+1,0,none⟩) n n))
   have BP:=hide (below_putM h6 (b:=w.heap.size+1) (by omega) (.int .i64 r) (.int .i64 d) (.slice (some ⟨w.heap.size+1+1,0,none⟩) n n))
   clear XP h1 h4 h5 h6 hS
   go_wp2_with fail
   exact bodyPost_ret (v:=.agg #[.int .i64 r,.int .i64 d,.slice (some ⟨w.heap.size+1+1,0,none⟩) n n]) (by simp [results,Tryz.results77,go_sem,z0,z1,z2]) rfl ⟨_,rfl,by omega,uH RW,uH BP⟩
end Go.Proofs.YtenpggicmfhhdaaGreatDoor
