/- Part 4 of the texts. -/
import Derived.Test.YtcbcmlaogehimaaGreatDoorPartc03
import Derived.Test.YtcbcmlaogehimaaGreatDoorPartc01
import Derived.Outline
import Derived.Deep.RegionWith
import Derived.Test.YtcbcmlaogehimaaGreatDoorPartc02
set_option maxHeartbeats 1000000
set_option maxRecDepth 20000
namespace Go.Proofs.YtcbcmlaogehimaaGreatDoor
open Go.RowKit
theorem Tryz.info84:(Tryz.prog.info? 84).map (fun i=>(i.zero,i.size,i.bytes)) = some (some (.int .u32 0),1,4):=by kernel_rfl
theorem int_eq {k:IntKind} {a b:Int} (h:a = b):Value.int k a = .int k b:=by rw [h]
theorem limbAt_x (ao:Option Addr) (cap:Nat) (L:List Nat) (i:Int) (k x:Nat) (w:World) (h:LimbsAt w ao cap L) (hl:L.length≤35184372088830) (hk:i = (k:Int)) (hx:Hid (L[k]?.getD 0 = x)) :
  Calls Tryz.prog 285 #[.slice ao L.length cap,.int .i64 i] w fun e w'=>e = .returned (.int .u64 (x:Int))∧w = w':=by
 have:=limbAt_any ao cap L i k w h hl hk
 rwa [hx.out] at this
theorem addLimbs_any (ao bo:Option Addr) (ca cb:Nat) (A B:List Nat) (w:World) (hA:LimbsAt w ao ca A) (hB:LimbsAt w bo cb B) (la:A.length≤35184372088830) (lb:B.length≤35184372088830) :
  Calls Tryz.prog 301 #[.slice ao A.length ca,.slice bo B.length cb] w fun e w'=>∃ ao' cap' L',e = .returned (.slice ao' L'.length cap')∧LimbsAt w' ao' cap' L'∧NewAt w.heap.size ao' L'∧L'.length = max A.length B.length+1∧val L' = val A+val B∧Below w.heap.size w w':=by
 obtain ⟨i0,hi,hz0,hz1,hz2⟩:=info_parts Tryz.info84
 obtain ⟨n,hn⟩:∃ n,n = max A.length B.length+1:=⟨_,rfl⟩
 have n1:A.length+1≤n:=by omega
 have n2:B.length+1≤n:=by omega
 have n3:n≤35184372088831:=by omega
 have HN:=hide hn
 clear hn
 go_enter Tryz.func301,Tryz.ntmps301
 go_wp2_with (at_make;have hn:=uH HN;refine wpList_make_full _ rfl _ _ 31 rfl w.heap.size 84 i0 (.int .u32 0) 1 Tryz.underlying31 hi hz0 hz1 .i64 .i64 _ _ n rfl rfl (by omega) (by omega) (by rw [hz2];omega) (by unfold maxLen;omega) (Nat.le_refl _) ?_;clear hn;intro w1 hown hgrow)
 all_goals
  have hrow:=RowAt.made hown
  have hb1:Below w.heap.size w w1:=(Below.refl _ _).grown hgrow (Nat.le_refl _) (fun k h=>by simp at h)
  have hs1:w.heap.size < w1.heap.size:=hrow.lt
  clear hown hgrow
  go_wp2
  go_loopw [6,17] (fun c i wr=>∃ (k:Nat) (S:List Nat) (y:Nat),k≤n∧i = .int .i64 k∧c = .int .u64 y∧y≤1∧RowAt wr w.heap.size S∧S.length = n∧Fits S∧Below w.heap.size w wr∧Hid (val (S.take k)+4294967296 ^ k * y = val (A.take k)+val (B.take k)))
   (fun _ i _=>n - (intOf i).toNat)
  case atStart=>exact ⟨0,List.replicate n 0,0,Nat.zero_le _,rfl,rfl,by omega,hrow,by simp,Fits.zeros _,hb1,by unfold Hid;simp [val]⟩
  case round =>
   obtain ⟨k,S,y,hk,rfl,rfl,hy,hr,hsl,hf,hbel,hv⟩:=hrel
   by_cases hlt:k < n
   ·obtain ⟨xa,hxa⟩:∃ x,A[k]?.getD 0 = x:=⟨_,rfl⟩
    obtain ⟨xb,hxb⟩:∃ x,B[k]?.getD 0 = x:=⟨_,rfl⟩
    have ba:xa < 4294967296:=by rw [← hxa];exact hA.lt k
    have bb:xb < 4294967296:=by rw [← hxb];exact hB.lt k
    have cA:=hA.below hbel
    have cB:=hB.below hbel
    have hst:=add_step A B S k y xa xb (by omega) hxa hxb hv.out
    have HST:=hide hst
    have HXA:=hide hxa
    have HXB:=hide hxb
    have hcell:=hr.cell k (by omega)
    have hfree:=hr.free k
    have HR:=hide hr
    clear hst hxa hxb hv hr
    generalize hS:S[k]?.getD 0 = sk at *
    clear hS
    go_wp2_with (first | (go_at_call_of 285 (Value.slice ao A.length ca);refine (limbAt_x ao ca A _ k xa _ cA la rfl HXA).mono ?_;rintro e w' ⟨rfl,rfl⟩) | (go_at_call_of 285 (Value.slice bo B.length cb);refine (limbAt_x bo cb B _ k xb _ cB lb rfl HXB).mono ?_;rintro e w' ⟨rfl,rfl⟩))
    have ec:(((y+(xa+xb)) % 4294967296:Nat):Int) = ((y:Int)+((xa:Int)+(xb:Int))) % 4294967296:=by omega
    have hr':=(uH HR).set k ((y+(xa+xb)) % 4294967296)
    rw [ec] at hr'
    go_roundw
    case rel=>exact ⟨k+1,S.set k ((y+(xa+xb)) % 4294967296),(y+(xa+xb)) / 4294967296,by omega,by go_num,int_eq (by omega),by omega,hr',by simpa using hsl,hf.set _ _ (by omega),hbel.setCell (by simp) _,HST⟩
    case measure=>simp [intOf];omega
   ·have hend:=add_end A B S n y hA.2.1 hB.2.1 n1 n2 hsl (by rw [show n = k by omega];exact hv.out)
    have HEND:=hide hend
    have HR:=hide hr
    have HV:=hide hv
    clear hend hr hv
    go_wp2
    go_ret
    have hN:=uH HN
    refine ⟨some ⟨w.heap.size,0,none⟩,n,S,by rw [hsl];rfl,(uH HR).limbs hf n (by omega),.inr ⟨_,_,rfl,Nat.le_refl _⟩,by rw [hsl];exact hN,uH HEND,hbel⟩
end Go.Proofs.YtcbcmlaogehimaaGreatDoor
namespace Go.Proofs.YtcbcmlaogehimaaGreatDoor
open Go.RowKit
theorem limb_x (ao:Option Addr) (cap:Nat) (L:List Nat) (i:Int) (k x:Nat) (w:World) (h:LimbsAt w ao cap L) (hl:L.length≤35184372088830) (hk:i = (k:Int)) (hx:Hid (L[k]?.getD 0 = x)) :
  Calls Tryz.prog 126 #[.slice ao L.length cap,.int .i64 i] w fun e w'=>e = .returned (.int .u64 (x:Int))∧w = w':=by
 have:=limb_any ao cap L i k w h hl hk
 rwa [hx.out] at this
theorem more_any (ao bo:Option Addr) (ca cb:Nat) (A B:List Nat) (w:World) (hA:LimbsAt w ao ca A) (hB:LimbsAt w bo cb B) (la:A.length≤35184372088830) (lb:B.length≤35184372088830) :
  Calls Tryz.prog 109 #[.slice ao A.length ca,.slice bo B.length cb] w fun e w'=>e = .returned (.int .i64 (cmpI (val A) (val B)))∧w = w':=by
 obtain ⟨n,hn⟩:∃ n,n = max A.length B.length:=⟨_,rfl⟩
 have hTop:∀ t:Nat,(∀ i:Nat,t < i→A[i]?.getD 0 = B[i]?.getD 0)→(A[t]?.getD 0 < B[t]?.getD 0→(-1:Int) = cmpI (val A) (val B))∧(B[t]?.getD 0 < A[t]?.getD 0→(1:Int) = cmpI (val A) (val B)):=by
  intro t h1
  constructor
  ·intro h2
   have:=lt_of_top A B hA.2.1 t h1 h2
   rw [cmpI_lt (by omega)]
  ·intro h2
   have:=lt_of_top B A hB.2.1 t (fun i hi=>(h1 i hi).symm) h2
   rw [cmpI_gt (by omega)]
 have hEq:(∀ i:Nat,A[i]?.getD 0 = B[i]?.getD 0)→(0:Int) = cmpI (val A) (val B):=by
  intro h
  have:=val_ext A B h
  simp [this,cmpI]
 have hAb:∀ i:Nat,n≤i→A[i]?.getD 0 = B[i]?.getD 0:=fun i hi=>by
  rw [List.getElem?_eq_none (by omega),List.getElem?_eq_none (by omega)]
 have HT:=hide hTop
 have HQ:=hide hEq
 have HA:=hide hAb
 have HN:=hide hn
 have n3:n≤35184372088830:=by omega
 clear hTop hEq hAb
 generalize cmpI (val A) (val B) = s at *
 rcases (show (A.length < B.length∧n = B.length) ∨ (¬ A.length < B.length∧n = A.length) by omega) with ⟨hm,e⟩ | ⟨hm,e⟩
 all_goals
  have HE:=hide e
  clear hn e
  go_enter Tryz.func109,Tryz.ntmps109
  go_wp2
  go_loop [5] (fun i=>∃ m:Nat,m≤n+1∧i = .int .i64 ((m:Int) - 1)∧Hid (∀ j,m≤j→A[j]?.getD 0 = B[j]?.getD 0)) (fun i=>(intOf i+1).toNat)
  case atStart=>exact ⟨n+1,by omega,int_eq (by have:=uH HE;omega),fun j hj=>uH HA j (by omega)⟩
  case round =>
   obtain ⟨m,hm1,rfl,hq⟩:=hrel
   clear HA HN HE
   by_cases h0:m = 0
   ·subst h0
    have HS:=hide (uH HQ (fun i=>hq.out i (by omega)))
    clear HT HQ
    go_wp2
    go_ret
    exact ⟨ret_int (uH HS),rfl⟩
   ·obtain ⟨xa,hxa⟩:∃ x,A[m - 1]?.getD 0 = x:=⟨_,rfl⟩
    obtain ⟨xb,hxb⟩:∃ x,B[m - 1]?.getD 0 = x:=⟨_,rfl⟩
    have ba:xa < 4294967296:=by rw [← hxa];exact hA.lt _
    have bb:xb < 4294967296:=by rw [← hxb];exact hB.lt _
    have hT:=uH HT (m - 1) (fun i hi=>hq.out i (by omega))
    rw [hxa,hxb] at hT
    have HT1:=hide hT
    have HQ1:Hid (xa = xb→∀ j,m - 1≤j→A[j]?.getD 0 = B[j]?.getD 0):=fun e j hj=>by
     by_cases h:m≤j
     ·exact hq.out j h
     ·rw [show j = m - 1 by omega,hxa,hxb];exact e
    have HXA:=hide hxa
    have HXB:=hide hxb
    clear hT hxa hxb hq HT HQ
    rcases Nat.lt_trichotomy xa xb with h | h | h
    ·have HS:=hide ((uH HT1).1 h)
     clear HT1 HQ1
     go_wp2_with (first | (go_at_call_of 126 (Value.slice ao A.length ca);refine (limb_x ao ca A _ (m - 1) xa _ hA la (by omega) HXA).mono ?_;rintro e w' ⟨rfl,rfl⟩) | (go_at_call_of 126 (Value.slice bo B.length cb);refine (limb_x bo cb B _ (m - 1) xb _ hB lb (by omega) HXB).mono ?_;rintro e w' ⟨rfl,rfl⟩))
     go_ret
     exact ⟨ret_int (uH HS),rfl⟩
    ·have HS:=hide (uH HQ1 h)
     clear HT1 HQ1
     go_wp2_with (first | (go_at_call_of 126 (Value.slice ao A.length ca);refine (limb_x ao ca A _ (m - 1) xa _ hA la (by omega) HXA).mono ?_;rintro e w' ⟨rfl,rfl⟩) | (go_at_call_of 126 (Value.slice bo B.length cb);refine (limb_x bo cb B _ (m - 1) xb _ hB lb (by omega) HXB).mono ?_;rintro e w' ⟨rfl,rfl⟩))
     go_round
     case rel=>exact ⟨m - 1,by omega,int_eq (by omega),uH HS⟩
     case measure=>simp [intOf];omega
    ·have HS:=hide ((uH HT1).2 h)
     clear HT1 HQ1
     go_wp2_with (first | (go_at_call_of 126 (Value.slice ao A.length ca);refine (limb_x ao ca A _ (m - 1) xa _ hA la (by omega) HXA).mono ?_;rintro e w' ⟨rfl,rfl⟩) | (go_at_call_of 126 (Value.slice bo B.length cb);refine (limb_x bo cb B _ (m - 1) xb _ hB lb (by omega) HXB).mono ?_;rintro e w' ⟨rfl,rfl⟩))
     go_ret
     exact ⟨ret_int (uH HS),rfl⟩
def IsNumM (M B:Nat) (w:World) (v:Value) (x:Int):Prop :=
 ∃ neg ao cap L,v = .agg #[.bool neg,.slice ao L.length cap]∧LimbsAt w ao cap L∧NewAt B ao L∧Canon L∧neg = decide (x < 0)∧val L = x.natAbs∧L.length≤M
theorem IsNumM.below {M B:Nat} {w w':World} {v:Value} {x:Int} (h:IsNumM M B w v x) (hb:Below w.heap.size w w'):IsNumM M B w' v x:=by
 obtain ⟨neg,ao,cap,L,h1,h2,h3⟩:=h
 exact ⟨neg,ao,cap,L,h1,h2.below hb,h3⟩
theorem IsNumM.more {M M' B:Nat} {w:World} {v:Value} {x:Int} (h:IsNumM M B w v x) (hM:M≤M'):IsNumM M' B w v x:=by
 obtain ⟨neg,ao,cap,L,h1,h2,h3,h4,h5,h6,h7⟩:=h
 exact ⟨neg,ao,cap,L,h1,h2,h3,h4,h5,h6,by omega⟩
theorem IsNumM.zero (M B:Nat) (w:World) (ao:Option Addr) (cap:Nat):IsNumM M B w (.agg #[.bool false,.slice ao 0 cap]) 0 :=
 ⟨false,ao,cap,[],rfl,LimbsAt.nil _ _ _,.inl rfl,.inl rfl,rfl,rfl,by simp⟩
theorem sval_IsNum {n:Bool} {L:List Nat} {x:Int} (h:n = decide (x < 0)) (hv:val L = x.natAbs):sval n L = x:=by
 unfold sval
 rw [h]
 by_cases hx0:x < 0
 ·simp [hx0];omega
 ·simp [hx0];omega
theorem IsNumM.stored {M B B':Nat} {w:World} {n:Bool} {ao:Option Addr} {cap:Nat} {L:List Nat} {x:Int} (h:LimbsAt w ao cap L∧NewAt B ao L∧Canon L∧n = decide (x < 0)∧val L = x.natAbs∧L.length≤M) {p q:Addr} (hp:p.block < B) (hq:q.block < B) (hB:B'≤B) (u u':Value) :
  IsNumM M B' ((w.setCell p u).setCell q u') (.agg #[.bool n,.slice ao L.length cap]) x :=
 ⟨n,ao,cap,L,rfl,(h.1.store h.2.1 hp u).store h.2.1 hq u',h.2.1.mono hB,h.2.2⟩
theorem made_any (B:Nat) (neg:Bool) (ao:Option Addr) (cap:Nat) (L:List Nat) (w:World) (h:LimbsAt w ao cap L) (hn:NewAt B ao L) (hl:L.length≤35184372088832) :
  Calls Tryz.prog 65 #[.bool neg,.slice ao L.length cap] w fun e w'=>∃ v,e = .returned v∧IsNumM L.length B w' v (sval neg L)∧Below w.heap.size w w':=by
 have hfin:∀ (k:Nat) (w':World),LimbsAt w' ao cap L→k≤L.length→val (L.take k) = val L→0 < k→L[k - 1]?.getD 0 ≠ 0→IsNumM L.length B w' (.agg #[.bool neg,.slice ao k cap]) (sval neg L):=by
  intro k w' hw hk hv h0 hx
  have hlen:(L.take k).length = k:=by rw [List.length_take,Nat.min_eq_left hk]
  have hC:Canon (L.take k):=by
   right
   rw [hlen,List.getElem?_take,if_pos (by omega)]
   exact hx
  have h1:L.take k ≠ []:=by intro e;rw [e] at hlen;simp at hlen;omega
  have hv0:val (L.take k) ≠ 0:=fun e=>h1 ((val_zero_of_canon _ hC).1 e)
  refine ⟨neg,ao,cap,L.take k,by rw [hlen],hw.take k,hn.take k,hC,?_,by rw [natAbs_sval];exact hv,by omega⟩
  rw [hv] at hv0
  unfold sval;cases neg <;> simp <;> omega
 have hzero:val (L.take 0) = val L→sval neg L = 0:=by
  intro hv
  rw [← sval_congr (neg:=neg) hv];exact sval_nil neg
 have HF:=hide hfin
 have HZ:=hide hzero
 clear hfin hzero hn
 have hcap:=h.1
 have H:=hide h
 go_enter Tryz.func65,Tryz.ntmps65
 go_wp2
 go_loop [5] (fun i=>∃ k:Nat,k≤L.length∧i = .int .i64 k∧Hid (val (L.take k) = val L)) (fun i=>(intOf i).toNat)
 case atStart=>exact ⟨L.length,Nat.le_refl _,rfl,by unfold Hid;simp⟩
 case round =>
  obtain ⟨k,hk,rfl,hv⟩:=hrel
  by_cases h0:k = 0
  ·subst h0
   have HS:=hide (uH HZ hv.out)
   clear HF HZ hv h
   go_wp2
   refine bodyPost_ret (v:=.agg #[.bool false,.slice none 0 0]) (by simp [results,Tryz.results65,go_sem]) rfl ⟨.agg #[.bool false,.slice none 0 0],rfl,?_,(Below.refl _ _).alloc (Nat.le_refl _) _⟩
   rw [uH HS];exact IsNumM.zero _ _ _ _ _
  ·obtain ⟨b,off,hao,hb,hc⟩:=h.ne (by omega)
   have hc1:=hc (k - 1) (by omega)
   have hbz:(w.alloc (.cells #[.bool false,.slice none 0 0] 33)).cell? ⟨b,off+(k - 1),none⟩ = some (.int .u32 ((L[k - 1]?.getD 0:Nat):Int)):=by
    rw [((Below.refl _ w).alloc (Nat.le_refl _) _).cell (p:=⟨b,off+(k - 1),none⟩) hb];exact hc1
   have hne:((k:Int) == 0) = false:=by simp;omega
   have hgt:(0:Int) < (k:Int):=by omega
   by_cases hx:L[k - 1]?.getD 0 = 0
   ·have HS:Hid (val (L.take (k - 1)) = val L):=by unfold Hid;rw [val_take_pred L k hx];exact hv.out
    rw [hx] at hc1 hbz
    clear HF HZ hv h hx hc
    subst hao
    go_wp2
    go_round
    case rel=>exact ⟨k - 1,by omega,int_eq (by omega),HS⟩
    case measure=>simp [intOf];omega
   ·have HS:=hide (fun w' hw=>uH HF k w' hw hk hv.out (by omega) hx)
    have hx1:(((L[k - 1]?.getD 0:Nat):Int) == 0) = false:=by simp;omega
    clear HF HZ hv h hc
    generalize L[k - 1]?.getD 0 = x at *
    clear hx
    subst hao
    go_wp2
    refine bodyPost_ret (v:=.agg #[.bool neg,.slice (some ⟨b,off,none⟩) k cap]) (by simp [results,Tryz.results65,go_sem]) rfl ⟨.agg #[.bool neg,.slice (some ⟨b,off,none⟩) k cap],rfl,?_,(Below.refl _ _).alloc (Nat.le_refl _) _⟩
    exact uH HS _ ((uH H).below ((Below.refl _ _).alloc (Nat.le_refl _) _))
end Go.Proofs.YtcbcmlaogehimaaGreatDoor
namespace Go.Proofs.YtcbcmlaogehimaaGreatDoor
open Go.RowKit
theorem own_limbs {w:World} {base:Nat} {v:Value} {n:Nat} {S:List Nat} (h:w.ownsRow base 84 1 v n (S.map limbV)) (hf:Fits S) :
  ∃ ao cap,v = .slice ao S.length cap∧LimbsAt w ao cap S∧NewAt base ao S∧S.length = n:=by
 have hl:S.length = n:=by have:=h.1;simpa using this
 rcases h.2 with ⟨hv,h0⟩ | ⟨g,cap,cur,hv,hg,hh,hc,hm,hs,ht⟩
 ·have:S = []:=List.length_eq_zero_iff.1 (by omega)
  subst this
  exact ⟨none,0,hv,LimbsAt.nil _ _ _,.inl rfl,hl⟩
 ·refine ⟨some ⟨g,0,none⟩,cap,by rw [hl];exact hv,⟨by omega,hf,.inr ⟨g,0,rfl,(Array.getElem?_eq_some_iff.1 hh).1,fun i hi=>?_⟩⟩,.inr ⟨g,0,rfl,hg⟩,hl⟩
  have hv':=h
  rw [hv] at hv'
  rw [Nat.zero_add,hv'.cellAt i (by omega)]
  simp [limbV,hi]
theorem own_snoc {w:World} {base:Nat} {v:Value} {n:Nat} {S:List Nat} {x:Nat} {d:Int} (h:w.ownsRow base 84 1 v (n+1) (S.map limbV ++ [.int .u32 d])) (hd:d = (x:Int)):w.ownsRow base 84 1 v (n+1) ((S ++ [x]).map limbV):=by
 subst hd
 simpa [limbV] using h
theorem plus_any (ao bo:Option Addr) (ca cb:Nat) (A B:List Nat) (w:World) (hA:LimbsAt w ao ca A) (hB:LimbsAt w bo cb B) (la:A.length≤35184372088830) (lb:B.length≤35184372088830) :
  Calls Tryz.prog 107 #[.slice ao A.length ca,.slice bo B.length cb] w fun e w'=>∃ ao' cap' L',e = .returned (.slice ao' L'.length cap')∧LimbsAt w' ao' cap' L'∧NewAt w.heap.size ao' L'∧L'.length = max A.length B.length+1∧val L' = val A+val B∧Below w.heap.size w w':=by
 obtain ⟨i0,hi,hz0,hz1,hz2⟩:=info_parts Tryz.info84
 obtain ⟨n,hn⟩:∃ n,n = max A.length B.length:=⟨_,rfl⟩
 have n1:A.length≤n:=by omega
 have n2:B.length≤n:=by omega
 have n3:n≤35184372088830:=by omega
 have HN:=hide hn
 have hst:∀ (S:List Nat) (c x y:Nat),A[S.length]?.getD 0 = x→B[S.length]?.getD 0 = y→val S+4294967296 ^ S.length * c = val (A.take S.length)+val (B.take S.length)→val (S ++ [(x+y+c) % 4294967296])+4294967296 ^ (S.length+1) * ((x+y+c) / 4294967296) = val (A.take (S.length+1))+val (B.take (S.length+1)):=fun S c x y=>plus_step A B S c x y
 have hen:∀ (S:List Nat) (c:Nat),S.length = n+1→val S+4294967296 ^ S.length * c = val (A.take S.length)+val (B.take S.length)→val S = val A+val B:=by
  intro S c hl h
  refine add_end A B S (n+1) c hA.2.1 hB.2.1 (by omega) (by omega) hl ?_
  rw [← hl,List.take_length];exact h
 have HST:=hide hst
 have HEN:=hide hen
 clear hst hen
 rcases (show (A.length < B.length∧n = B.length) ∨ (¬ A.length < B.length∧n = A.length) by omega) with ⟨hm,e⟩ | ⟨hm,e⟩
 all_goals
  have HE:=hide e
  have n4:(n:Int)≤35184372088830:=by omega
  clear hn e
  go_enter Tryz.func107,Tryz.ntmps107
  go_wp2
  go_loopw [5,6,7] (fun v c i wr=>∃ (S:List Nat) (y:Nat),S.length≤n+1∧i = .int .i64 (S.length:Nat)∧c = .int .u64 y∧y≤1∧wr.ownsRow w.heap.size 84 1 v S.length (S.map limbV)∧Fits S∧Below w.heap.size w wr∧Hid (val S+4294967296 ^ S.length * y = val (A.take S.length)+val (B.take S.length)))
   (fun _ _ i _=>n+1 - (intOf i).toNat)
  case atStart=>
   refine ⟨[],0,by simp,rfl,rfl,by omega,?_,by intro x hx;simp at hx,(Below.refl _ _).alloc (Nat.le_refl _) _,by unfold Hid;simp [val]⟩
   exact World.ownsRow_made w #[] 0 (Nat.le_refl _) (by simp [maxLen]) (by simp)
  case round =>
   obtain ⟨S,y,hk,rfl,rfl,hy,hown,hf,hbel,hv⟩:=hrel
   have hn:=uH HE
   by_cases hlt:S.length≤n
   ·obtain ⟨xa,hxa⟩:∃ x,A[S.length]?.getD 0 = x:=⟨_,rfl⟩
    obtain ⟨xb,hxb⟩:∃ x,B[S.length]?.getD 0 = x:=⟨_,rfl⟩
    have ba:xa < 4294967296:=by rw [← hxa];exact hA.lt _
    have bb:xb < 4294967296:=by rw [← hxb];exact hB.lt _
    have cA:=hA.below hbel
    have cB:=hB.below hbel
    have HS2:=hide (uH HST S y xa xb hxa hxb hv.out)
    have HXA:=hide hxa
    have HXB:=hide hxb
    have hsz:=hbel.size
    have HF:=hide hf
    clear hxa hxb hv HST HEN hf
    generalize hSl:S.length = k at *
    have HSL:=hide hSl
    clear hSl
    have hki:(k:Int)≤(n:Int):=by omega
    rw [hn] at hki
    clear hn
    go_wp2_with (first | (go_at_call_of 126 (Value.slice ao A.length ca);refine (limb_x ao ca A _ k xa _ cA la rfl HXA).mono ?_;rintro e w' ⟨rfl,rfl⟩) | (go_at_call_of 126 (Value.slice bo B.length cb);refine (limb_x bo cb B _ k xb _ cB lb rfl HXB).mono ?_;rintro e w' ⟨rfl,rfl⟩) | (at_builtin;refine wpList_append_own _ rfl _ _ 31 rfl w.heap.size 84 i0 (.int .u32 0) 1 4 Tryz.underlying31 hi hz0 hz1 hz2 rfl (by decide) _ _ _ rfl (hown.alloc _) ⟨wr.heap.size,0,none⟩ 1 1 [.int .u32 (((xa:Int)+(xb:Int)+(y:Int)) % 4294967296)] rfl rfl (cell_one_new _ _ _) (fun u hu=>by simp at hu;subst hu;rfl) (by unfold maxLen;omega) (by omega) (by simp;omega) ?_;intro v' w1 hown' hgrow _;have hbl:Below w.heap.size w w1:=((hbel.alloc hsz _).grown hgrow (by simp;omega) (fun g hg=>(hown.lt g hg).1));have ho2:=hide (own_snoc (x:=(xa+xb+y) % 4294967296) hown' (by omega));clear hown' hgrow))
    have hS2:=uH HS2
    have hl2:(S ++ [(xa+xb+y) % 4294967296]).length = k+1:=by simp [uH HSL]
    go_roundw
    case rel=>exact ⟨S ++ [(xa+xb+y) % 4294967296],(xa+xb+y) / 4294967296,by omega,by rw [hl2];go_num,int_eq (by omega),by omega,by rw [hl2];exact uH ho2,(uH HF).snoc (by omega),hbl,by rw [hl2];exact hS2⟩
    case measure=>simp [intOf];omega
   ·have hend:=uH HEN S y (by omega) hv.out
    have HEND:=hide hend
    obtain ⟨ao',cap',e1,e2,e3,e4⟩:=own_limbs hown hf
    have E2:=hide e2
    have E3:=hide e3
    have hki:¬ ((S.length:Nat):Int)≤(n:Int):=by omega
    rw [hn] at hki
    have HK:=hide hk
    have HLT:=hide hlt
    subst e1
    clear hend hv HST hown hn e2 e3 e4 HEN hk hlt
    go_wp2
    go_ret
    have hN:=uH HN
    have h1:=uH HK
    have h2:=uH HLT
    exact ⟨ao',cap',S,rfl,uH E2,uH E3,by omega,uH HEND,hbel⟩
end Go.Proofs.YtcbcmlaogehimaaGreatDoor
namespace Go.Proofs.YtcbcmlaogehimaaGreatDoor
open Go.RowKit
theorem minus_any (ao bo:Option Addr) (ca cb:Nat) (A B:List Nat) (w:World) (hA:LimbsAt w ao ca A) (hB:LimbsAt w bo cb B) (la:A.length≤35184372088830) (lb:B.length≤35184372088830) (hv:val B≤val A) :
  Calls Tryz.prog 110 #[.slice ao A.length ca,.slice bo B.length cb] w fun e w'=>∃ ao' cap' L',e = .returned (.slice ao' L'.length cap')∧LimbsAt w' ao' cap' L'∧NewAt w.heap.size ao' L'∧L'.length = A.length∧val L' = val A - val B∧Below w.heap.size w w':=by
 obtain ⟨i0,hi,hz0,hz1,hz2⟩:=info_parts Tryz.info84
 have hst:∀ (S:List Nat) (c x y t c':Nat),A[S.length]?.getD 0 = x→B[S.length]?.getD 0 = y→t+y+c = x+4294967296 * c'→val S+val (B.take S.length) = val (A.take S.length)+4294967296 ^ S.length * c→val (S ++ [t])+val (B.take (S.length+1)) = val (A.take (S.length+1))+4294967296 ^ (S.length+1) * c':=fun S c x y t c'=>minus_step A B S c x y t c'
 have hen:∀ (S:List Nat) (c:Nat),Fits S→S.length = A.length→val S+val (B.take S.length) = val (A.take S.length)+4294967296 ^ S.length * c→val S = val A - val B:=by
  intro S c f hl h
  refine sub_end A B S A.length c f hl rfl hv (take_le A B hA.2.1 hv) ?_
  rw [← hl,List.take_length];exact h
 have HST:=hide hst
 have HEN:=hide hen
 clear hst hen hv
 go_enter Tryz.func110,Tryz.ntmps110
 go_wp2
 go_loopw [5,6,7] (fun v c i wr=>∃ (S:List Nat) (y:Nat),S.length≤A.length∧i = .int .i64 (S.length:Nat)∧c = .int .u64 y∧y≤1∧wr.ownsRow w.heap.size 84 1 v S.length (S.map limbV)∧Fits S∧Below w.heap.size w wr∧Hid (val S+val (B.take S.length) = val (A.take S.length)+4294967296 ^ S.length * y))
  (fun _ _ i _=>A.length - (intOf i).toNat)
 case atStart =>
  refine ⟨[],0,by simp,rfl,rfl,by omega,?_,by intro x hx;simp at hx,(Below.refl _ _).alloc (Nat.le_refl _) _,by unfold Hid;simp [val]⟩
  exact World.ownsRow_made w #[] 0 (Nat.le_refl _) (by simp [maxLen]) (by simp)
 case round =>
  obtain ⟨S,y,hk,rfl,rfl,hy,hown,hf,hbel,hv⟩:=hrel
  by_cases hlt:S.length < A.length
  ·obtain ⟨xa,hxa⟩:∃ x,A[S.length]?.getD 0 = x:=⟨_,rfl⟩
   obtain ⟨xb,hxb⟩:∃ x,B[S.length]?.getD 0 = x:=⟨_,rfl⟩
   have ba:xa < 4294967296:=by rw [← hxa];exact hA.lt _
   have bb:xb < 4294967296:=by rw [← hxb];exact hB.lt _
   have cA:=hA.below hbel
   have cB:=hB.below hbel
   have HS2:=hide (uH HST S y xa xb ((4294967296+xa - xb - y) % 4294967296) (1 - (4294967296+xa - xb - y) / 4294967296) hxa hxb (by omega) hv.out)
   have HXA:=hide hxa
   have HXB:=hide hxb
   have hsz:=hbel.size
   have HF:=hide hf
   clear hxa hxb hv HST HEN hf
   generalize hSl:S.length = k at *
   have HSL:=hide hSl
   clear hSl
   go_wp2_with (first | (go_at_call_of 126 (Value.slice ao A.length ca);refine (limb_x ao ca A _ k xa _ cA la rfl HXA).mono ?_;rintro e w' ⟨rfl,rfl⟩) | (go_at_call_of 126 (Value.slice bo B.length cb);refine (limb_x bo cb B _ k xb _ cB lb rfl HXB).mono ?_;rintro e w' ⟨rfl,rfl⟩) | (at_builtin;refine wpList_append_own _ rfl _ _ 31 rfl w.heap.size 84 i0 (.int .u32 0) 1 4 Tryz.underlying31 hi hz0 hz1 hz2 rfl (by decide) _ _ _ rfl (hown.alloc _) ⟨wr.heap.size,0,none⟩ 1 1 [.int .u32 ((4294967296+(xa:Int) - (xb:Int) - (y:Int)) % 4294967296)] rfl rfl (cell_one_new _ _ _) (fun u hu=>by simp at hu;subst hu;rfl) (by unfold maxLen;omega) (by omega) (by simp;omega) ?_;intro v' w1 hown' hgrow _;have hbl:Below w.heap.size w w1:=((hbel.alloc hsz _).grown hgrow (by simp;omega) (fun g hg=>(hown.lt g hg).1));have ho2:=hide (own_snoc (x:=(4294967296+xa - xb - y) % 4294967296) hown' (by omega));clear hown' hgrow))
   have hS2:=uH HS2
   have hl2:(S ++ [(4294967296+xa - xb - y) % 4294967296]).length = k+1:=by simp [uH HSL]
   go_roundw
   case rel=>exact ⟨S ++ [(4294967296+xa - xb - y) % 4294967296],1 - (4294967296+xa - xb - y) / 4294967296,by omega,by rw [hl2];go_num,int_eq (by omega),by omega,by rw [hl2];exact uH ho2,(uH HF).snoc (by omega),hbl,by rw [hl2];exact hS2⟩
   case measure=>simp [intOf];omega
  ·have hend:=uH HEN S y hf (by omega) hv.out
   have HEND:=hide hend
   obtain ⟨ao',cap',e1,e2,e3,e4⟩:=own_limbs hown hf
   have E2:=hide e2
   have E3:=hide e3
   have hsl:S.length = A.length:=by omega
   have HSL:=hide hsl
   subst e1
   clear hend hv HST hown e2 e3 e4 HEN hsl
   go_wp2
   go_ret
   exact ⟨ao',cap',S,rfl,uH E2,uH E3,uH HSL,uH HEND,hbel⟩
end Go.Proofs.YtcbcmlaogehimaaGreatDoor
namespace Go.Proofs.YtcbcmlaogehimaaGreatDoor
open Go.RowKit
theorem wrap_sub2 (x y c:Nat) (hx:x < 4294967296) (hy:y < 4294967296) (hc:c≤1) (h:x < y) :
  IntKind.u64.wrap (IntKind.u64.wrap ((x:Int) - (y:Int)) - (c:Int)) = 18446744073709551616+(x:Int) - (y:Int) - (c:Int):=by
 simp only [IntKind.wrap,IntKind.signed,IntKind.bits]
 simp
 omega
theorem subLimbs_any (ao bo:Option Addr) (ca cb:Nat) (A B:List Nat) (w:World) (hA:LimbsAt w ao ca A) (hB:LimbsAt w bo cb B) (la:A.length≤35184372088830) (lb:B.length≤35184372088830) (hv:val B≤val A) :
  Calls Tryz.prog 303 #[.slice ao A.length ca,.slice bo B.length cb] w fun e w'=>∃ ao' cap' L',e = .returned (.slice ao' L'.length cap')∧LimbsAt w' ao' cap' L'∧NewAt w.heap.size ao' L'∧L'.length = A.length∧val L' = val A - val B∧Below w.heap.size w w':=by
 obtain ⟨i0,hi,hz0,hz1,hz2⟩:=info_parts Tryz.info84
 have hE:∀ (S:List Nat) (k c:Nat),Fits S→S.length = A.length→¬ k < A.length→k≤A.length→val (S.take k)+val (B.take k) = val (A.take k)+4294967296 ^ k * c→val S = val A - val B:=by
  intro S k c f hl h1 h2 h
  rw [show k = A.length by omega] at h
  exact sub_end A B S A.length c f hl rfl hv (take_le A B hA.2.1 hv) h
 have HE:=hide hE
 have hst:=fun (S:List Nat) (k c t c':Nat) (hk:k < S.length)=>sub_step A B S k c (A[k]?.getD 0) (B[k]?.getD 0) t c' hk rfl rfl
 have HST:=hide hst
 clear hE hst hv
 have hcA:0 < A.length→∃ b off,ao = some ⟨b,off,none⟩:=fun h=>by obtain ⟨b,off,h1,_⟩:=hA.ne h;exact ⟨b,off,h1⟩
 have HCA:=hide hcA
 clear hcA
 go_enter Tryz.func303,Tryz.ntmps303
 go_wp2_with (at_make;refine wpList_make_full _ rfl _ _ 31 rfl w.heap.size 84 i0 (.int .u32 0) 1 Tryz.underlying31 hi hz0 hz1 .i64 .i64 _ _ A.length rfl rfl rfl rfl (by rw [hz2];omega) (by unfold maxLen;omega) (Nat.le_refl _) ?_;intro w1 hown hgrow)
 have hrow:=RowAt.made hown
 have hb1:Below w.heap.size w w1:=(Below.refl _ _).grown hgrow (Nat.le_refl _) (fun k h=>by simp at h)
 have hs1:w.heap.size < w1.heap.size:=hrow.lt
 clear hown hgrow
 go_wp2
 go_loopw [6,14] (fun c i wr=>∃ (k:Nat) (S:List Nat) (y:Nat),k≤A.length∧i = .int .i64 k∧c = .int .u64 y∧y≤1∧RowAt wr w.heap.size S∧S.length = A.length∧Fits S∧Below w.heap.size w wr∧Hid (val (S.take k)+val (B.take k) = val (A.take k)+4294967296 ^ k * y))
  (fun _ i _=>A.length - (intOf i).toNat)
 case atStart=>exact ⟨0,List.replicate A.length 0,0,Nat.zero_le _,rfl,rfl,by omega,hrow,by simp,Fits.zeros _,hb1,by unfold Hid;simp [val]⟩
 case round =>
  obtain ⟨k,S,y,hk,rfl,rfl,hy,hr,hsl,hf,hbel,hv⟩:=hrel
  by_cases hlt:k < A.length
  ·obtain ⟨xa,hxa⟩:∃ x,A[k]?.getD 0 = x:=⟨_,rfl⟩
   obtain ⟨xb,hxb⟩:∃ x,B[k]?.getD 0 = x:=⟨_,rfl⟩
   have ba:xa < 4294967296:=by rw [← hxa];exact hA.lt k
   have bb:xb < 4294967296:=by rw [← hxb];exact hB.lt k
   have cA:=hA.below hbel
   have cB:=hB.below hbel
   have hst:=fun (t c':Nat) (ht:t+xb+y = xa+4294967296 * c')=>uH HST S k y t c' (by omega) (by rw [hxa,hxb];exact ht) hv.out
   have HS2:=hide hst
   have HXB:=hide hxb
   have hcell:=hr.cell k (by omega)
   have hfree:=hr.free k
   have HR:=hide hr
   obtain ⟨b1,o1,hao,hb1',hc1⟩:=cA.ne (by omega)
   have ca1:=hc1 k hlt
   rw [hxa] at ca1
   clear hst hxa hxb hv hr hc1 HST HE
   generalize hS:S[k]?.getD 0 = sk at *
   clear hS
   subst hao
   have hlt':(k:Int) < (A.length:Int):=by omega
   have fin:∀ (nq t c':Nat) (d:Int),d = (t:Int)→t < 4294967296→c'≤1→t+xb+y = xa+4294967296 * c' →
     RowAt ((wr.drewN nq).setCell ⟨w.heap.size,k,none⟩ (.int .u32 d)) w.heap.size (S.set k t)∧(S.set k t).length = A.length∧Fits (S.set k t)∧Below w.heap.size w ((wr.drewN nq).setCell ⟨w.heap.size,k,none⟩ (.int .u32 d)) ∧
     Hid (val ((S.set k t).take (k+1))+val (B.take (k+1)) = val (A.take (k+1))+4294967296 ^ (k+1) * c'):=by
    rintro nq t c' d rfl ht hc he
    exact ⟨((uH HR).drewN nq).set k t,by simpa using hsl,hf.set _ _ ht,(below_drewN hbel nq).setCell (by simp) _,uH HS2 t c' he⟩
   have FIN:=hide fin
   clear fin HS2 HR
   rcases (show xb+y≤xa ∨ xa < xb ∨ (xa = xb∧y = 1) by omega) with h1 | h1 | ⟨h1,h2⟩
   ·go_wp2
    go_quiet ((go_at_call 285;exact quiet_eq (limbAt_x bo cb B _ k xb _ (cB.below (below_drewN (Below.refl _ _) _)) lb rfl HXB)))
    go_wp2
    have R:=uH FIN nq (xa - xb - y) 0 ((xa:Int) - xb - y) (by omega) (by omega) (by omega) (by omega)
    go_roundw
    case rel=>exact ⟨k+1,_,0,by omega,by go_num,int_eq (by omega),by omega,R⟩
    case measure=>simp [intOf];omega
   ·go_wp2
    go_quiet ((go_at_call 285;exact quiet_eq (limbAt_x bo cb B _ k xb _ (cB.below (below_drewN (Below.refl _ _) _)) lb rfl HXB)))
    go_wp2
    have e:=wrap_sub2 xa xb y ba bb hy h1
    have R:=uH FIN nq (4294967296+xa - xb - y) 1 (IntKind.u64.wrap (IntKind.u64.wrap ((xa:Int) - xb) - y) % 4294967296) (by rw [e];omega) (by omega) (by omega) (by omega)
    go_roundw
    case rel=>exact ⟨k+1,_,1,by omega,by go_num,int_eq (by rw [e];omega),by omega,R⟩
    case measure=>simp [intOf];omega
   ·subst h1;subst h2
    go_wp2
    go_quiet ((go_at_call 285;exact quiet_eq (limbAt_x bo cb B _ k xa _ (cB.below (below_drewN (Below.refl _ _) _)) lb rfl HXB)))
    go_wp2
    have e:IntKind.u64.wrap (-1) = 18446744073709551615:=by decide
    have R:=uH FIN nq 4294967295 1 (IntKind.u64.wrap (-1) % 4294967296) (by rw [e];rfl) (by omega) (by omega) (by omega)
    go_roundw
    case rel=>exact ⟨k+1,_,1,by omega,by go_num,int_eq (by rw [e];rfl),by omega,R⟩
    case measure=>simp [intOf];omega
  ·have hend:=uH HE S k y hf hsl hlt hk hv.out
   have HEND:=hide hend
   have HR:=hide hr
   clear hend hr hv
   go_wp2
   go_ret
   exact ⟨some ⟨w.heap.size,0,none⟩,A.length,S,by rw [hsl];rfl,(uH HR).limbs hf _ (by omega),.inr ⟨_,_,rfl,Nat.le_refl _⟩,hsl,uH HEND,hbel⟩
end Go.Proofs.YtcbcmlaogehimaaGreatDoor
namespace Go.Proofs.YtcbcmlaogehimaaGreatDoor
open Go.RowKit
theorem fit_any (B:Nat) (neg:Bool) (ao:Option Addr) (cap:Nat) (L:List Nat) (w:World) (h:LimbsAt w ao cap L) (hn:NewAt B ao L) (hl:L.length≤35184372088832) :
  Calls Tryz.prog 266 #[.bool neg,.slice ao L.length cap] w fun e w'=>∃ v,e = .returned (.tuple #[v,.int .i64 (errOf (sval neg L))])∧IsNum B w' v (numOf (sval neg L))∧Below w.heap.size w w':=by
 have hT:∀ L':List Nat,Canon L'→Fits L'→val L' = val L→(L' = []→errOf (sval neg L) = 0∧numOf (sval neg L) = 0)∧(512 < L'.length→errOf (sval neg L) = 2∧numOf (sval neg L) = 0)∧(L'.length≤512→errOf (sval neg L) = 0∧numOf (sval neg L) = sval neg L'):=by
  intro L' c f hv
  have hi:=val_lt_TOP L' f c
  refine ⟨?_,?_,?_⟩
  ·rintro rfl
   have:val L = 0:=by rw [← hv];rfl
   have hT:0 < TOP:=Nat.pow_pos (by decide)
   have e:sval neg L = 0:=by unfold sval;cases neg <;> simp [this]
   simp [errOf,numOf,e,hT]
  ·intro h5
   have:¬ val L' < TOP:=fun h=>by have:=hi.1 h;omega
   simp [errOf,numOf,natAbs_sval,← hv,this]
  ·intro h5
   have:=hi.2 h5
   rw [sval_congr (neg:=neg) hv]
   simp [errOf,numOf,natAbs_sval,← hv,this]
 generalize errOf (sval neg L) = er at *
 generalize numOf (sval neg L) = nu at *
 have HT:=hide hT
 clear hT
 have HN:=hide hn
 clear hn
 go_enter Tryz.func266,Tryz.ntmps266
 go_wp2_with fail
 refine (trim_any ao cap L _ (h.below ?_) hl).mono ?_
 ·exact (Below.refl _ _).alloc (Nat.le_refl _) _
 rintro e w' ⟨v,rfl,⟨ao',cap',L',rfl,h2,h3,h4,h5,h6⟩,rfl⟩
 have h1:=h5 w h
 have H:=hide (uH HT L' h2 h1.2.1 h3)
 have HA:=hide (h6 B (uH HN))
 have H1:=hide h1
 have H2:=hide h2
 clear HT h3 h5 h6 h1 h2 h HN
 by_cases h0:L' = []
 ·have H0:=hide ((uH H).1 h0)
  have hz:L'.length = 0:=by rw [h0];rfl
  clear h0
  go_wp2
  refine bodyPost_ret (v:=.tuple #[.agg #[.bool false,.slice none 0 0],.int .i64 0]) (by simp [results,Tryz.results266,go_sem]) rfl ⟨.agg #[.bool false,.slice none 0 0],?_,?_,(Below.refl _ _).alloc (Nat.le_refl _) _⟩
  ·rw [(uH H0).1]
  ·rw [(uH H0).2];exact IsNum.zero _ _ _ _
 ·have hp:0 < L'.length:=List.length_pos_iff.2 h0
  have hne:((L'.length:Int) == 0) = false:=by simp;exact h0
  by_cases h5:L'.length≤512
  ·have H0:=hide ((uH H).2.2 h5)
   go_wp2
   refine bodyPost_ret (v:=.tuple #[.agg #[.bool neg,.slice ao' L'.length cap'],.int .i64 0]) (by simp [results,Tryz.results266,go_sem]) rfl ⟨.agg #[.bool neg,.slice ao' L'.length cap'],?_,?_,?_⟩
   ·rw [(uH H0).1]
   ·rw [(uH H0).2]
    exact IsNum.mk ((uH H1).below ((Below.refl _ _).alloc (Nat.le_refl _) _)) (uH HA) (uH H2) h0 (by omega)
   ·exact (Below.refl _ _).alloc (Nat.le_refl _) _
  ·have H0:=hide ((uH H).2.1 (by omega))
   go_wp2
   refine bodyPost_ret (v:=.tuple #[.agg #[.bool false,.slice none 0 0],.int .i64 2]) (by simp [results,Tryz.results266,go_sem]) rfl ⟨.agg #[.bool false,.slice none 0 0],?_,?_,(Below.refl _ _).alloc (Nat.le_refl _) _⟩
   ·rw [(uH H0).1]
   ·rw [(uH H0).2];exact IsNum.zero _ _ _ _
end Go.Proofs.YtcbcmlaogehimaaGreatDoor
namespace Go.Proofs.YtcbcmlaogehimaaGreatDoor
open Go.RowKit
attribute [local go_sem ↓] Go.wp_at_zero Go.wp_at_succ
theorem addSigned_same (na:Bool) (ao bo:Option Addr) (ca cb:Nat) (A B:List Nat) (w:World) (hA:LimbsAt w ao ca A) (hB:LimbsAt w bo cb B) (la:A.length≤35184372088830) (lb:B.length≤35184372088830) :
  Calls Tryz.prog 300 #[.agg #[.bool na,.slice ao A.length ca],.agg #[.bool na,.slice bo B.length cb]] w fun e w'=>∃ v,e = .returned (.tuple #[v,.int .i64 (errOf (sval na A+sval na B))])∧IsNum w.heap.size w' v (numOf (sval na A+sval na B))∧Below w.heap.size w w':=by
 have hsum:∀ L:List Nat,val L = val A+val B→sval na L = sval na A+sval na B:=by
  intro L h;unfold sval;cases na <;> simp [h] <;> omega
 have HS:=hide hsum
 clear hsum
 generalize sval na A+sval na B = z at *
 go_enter Tryz.func300,Tryz.ntmps300
 go_wp2
 refine at_world (fun W=>Below w.heap.size w W∧W.heap.size = w.heap.size+3∧Box2 W w.heap.size (.bool na) (.slice ao A.length ca)∧Box2 W (w.heap.size+1) (.bool na) (.slice bo B.length cb)∧Box2 W (w.heap.size+2) (.bool false) (.slice none 0 0)) ?_ ?_
 ·refine ⟨((((Below.refl _ _).alloc (Nat.le_refl _) _).alloc (by simp) _).alloc (by simp;omega) _),by simp,((Box2.new _ _ _).old _).old _,?_,?_⟩
  ·have:=(Box2.new (w.alloc (.cells #[.bool na,.slice ao A.length ca] 33)) (.bool na) (.slice bo B.length cb)).old (.cells #[.bool false,.slice none 0 0] 33)
   simpa using this
  ·have:=Box2.new ((w.alloc (.cells #[.bool na,.slice ao A.length ca] 33)).alloc (.cells #[.bool na,.slice bo B.length cb] 33)) (.bool false) (.slice none 0 0)
   simpa using this
 rintro W0 ⟨hw0,hs0,x0,x1,x2⟩
 have hK:∀ w',Below (w.heap.size+2) W0 w'→Below (w.heap.size+2) W0 w'∧w'.cell? ⟨w.heap.size,0,none⟩ = some (.bool na)∧w'.cell? ⟨w.heap.size,1,none⟩ = some (.slice ao A.length ca)∧w'.cell? ⟨w.heap.size+1,1,none⟩ = some (.slice bo B.length cb):=fun w' h =>
  ⟨h,(x0.below h (by omega)).c0,(x0.below h (by omega)).c1,(x1.below h (by omega)).c1⟩
 have HK:=hide hK
 have HA:=hide (hA.below hw0)
 have HB:=hide (hB.below hw0)
 have X2:=hide x2
 have HW0:=hide hw0
 clear hK hA hB x0 x1 x2 hw0
 go_region_held3 (fun w'=>Below (w.heap.size+2) W0 w'∧w'.cell? ⟨w.heap.size,0,none⟩ = some (.bool na)∧w'.cell? ⟨w.heap.size,1,none⟩ = some (.slice ao A.length ca)∧w'.cell? ⟨w.heap.size+1,1,none⟩ = some (.slice bo B.length cb))
  (first | exact uH HK _ (Below.refl _ _).drew | exact uH HK _ (by assumption) | exact uH HK _ ((hB2.setCell (by simp) _).setCell (by simp) _))
  (first | (go_at_call 301;refine (addLimbs_any ao bo ca cb A B _ ((uH HA).below ((Below.refl _ _).drew)) ((uH HB).below ((Below.refl _ _).drew)) la lb).mono ?_;rintro e w1 ⟨ao',cap',L',rfl,g1,g2,g3,g4,hb1⟩;have hB1:Below (w.heap.size+2) W0 w1:=((Below.refl _ _).drew).trans (hb1.mono (by simp [hs0]));have X3:=hide ((uH X2).drew.below hb1 (by simp [hs0]));have G1:=hide g1;have G2:=hide g2;have G4:=hide g4;have L4:L'.length≤35184372088832:=(by omega);have s1:=hb1.size;clear g1 g2 g4 g3 hb1) | (go_at_call 266;refine (fit_any _ na _ _ _ _ (uH G1) (uH G2) L4).mono ?_;rintro e w2 ⟨v,rfl,⟨n2,a2,c2,L2,rfl,i1⟩,hb2⟩;have hB2:Below (w.heap.size+2) W0 w2:=hB1.trans (hb2.mono (by simp at s1;omega));have X4:=(uH X3).below hb2 (by simp at s1;omega);have y0:=X4.c0;have y1:=X4.c1;have f0:=X4.free 0;have f1:=X4.free 1;have I1:=hide i1;clear i1 hb2 X4))
 have hz:=uH HS L' (uH G4)
 have HI:=hide (hz ▸ uH I1)
 have HE:=hide (show errOf (sval na L') = errOf z by rw [hz])
 clear hz
 go_wp2
 refine bodyPost_ret (v:=.tuple #[.agg #[.bool n2,.slice a2 L2.length c2],.int .i64 (errOf (sval na L'))]) (by simp [results,Tryz.results300,go_sem,y0,y1]) rfl ⟨.agg #[.bool n2,.slice a2 L2.length c2],?_,?_,?_⟩
 ·rw [uH HE]
 ·exact IsNum.stored (uH HI) (by simp;omega) (by simp;omega) (by simp;omega) _ _
 ·exact (((uH HW0).trans (hB2.mono (by omega))).setCell (by simp;omega) _).setCell (by simp;omega) _
end Go.Proofs.YtcbcmlaogehimaaGreatDoor
