/- Part 4 of the texts. -/
import Derived.Test.YtlnphkioddknfaaGreatDoorPartz01
import Derived.Test.YtlnphkioddknfaaGreatDoorPartz02
import Derived.Outline
import Derived.Deep.RegionWith
set_option maxHeartbeats 400000
set_option maxRecDepth 20000
namespace Go.Proofs.YtlnphkioddknfaaGreatDoor
open Go.RowKit
theorem quiet_eq {P:Program} {f:FuncId} {args:Array Value} {w:World} {n:Nat} {v:Value}
  (h:Calls P f args (w.drewN n) fun e w'=>e = .returned v∧w.drewN n = w'):Calls P f args (w.drewN n) fun e w''=>e = .returned v∧∃ m,w'' = w.drewN m :=
 h.mono fun _ _ ⟨he,hm⟩=>⟨he,n,hm.symm⟩
def Trimmed (ao:Option Addr) (cap:Nat) (L:List Nat) (v:Value):Prop :=
 ∃ ao' cap' L',v = .slice ao' L'.length cap'∧Canon L'∧val L' = val L∧L'.length≤L.length∧(∀ w,LimbsAt w ao cap L→LimbsAt w ao' cap' L')∧(∀ B,NewAt B ao L→NewAt B ao' L')
theorem NewAt.take {B:Nat} {ao:Option Addr} {L:List Nat} (h:NewAt B ao L) (n:Nat):NewAt B ao (L.take n):=by
 rcases h with h | h
 ·left;simp [h]
 ·exact .inr h
theorem trim_any (ao:Option Addr) (cap:Nat) (L:List Nat) (w:World) (h:LimbsAt w ao cap L) (hl:L.length≤35184372088832) :
  Calls Tryz.prog 253 #[.slice ao L.length cap] w fun e w'=>∃ v,e = .returned v∧Trimmed ao cap L v∧w = w':=by
 have key:∀ k,k < L.length→val (L.take (L.length - k)) = val L→L[L.length - k - 1]?.getD 0 ≠ 0→Trimmed ao cap L (.slice ao (L.length - k) cap):=by
  intro k hk hv hx
  refine ⟨ao,cap,L.take (L.length - k),?_,?_,hv,by simp,fun w h=>h.take _,fun B h=>h.take _⟩
  ·rw [List.length_take,Nat.min_eq_left (by omega)]
  ·right
   rw [List.length_take,Nat.min_eq_left (by omega),List.getElem?_take,if_pos (by omega)]
   exact hx
 have key0:val (L.take 0) = val L→Trimmed ao cap L (.slice none 0 0):=by
  intro hv
  exact ⟨none,0,[],rfl,.inl rfl,by simpa using hv,by simp,fun _ _=>LimbsAt.nil _ _ _,fun _ _=>.inl rfl⟩
 have K:=hide key
 have K0:=hide key0
 clear key key0
 rcases h.2.2 with h0 | ⟨b,off,rfl,hb,hc⟩
 ·subst h0
  clear K
  go_enter Tryz.func253,Tryz.ntmps253
  go_wp2
  refine wp_loop_rounds 1 ?_
  rw [rounds_succ]
  go_wp2
  go_ret
  exact ⟨_,rfl,uH K0 rfl,rfl⟩
 ·have hcap:=h.1
  go_enter Tryz.func253,Tryz.ntmps253
  go_wp2
  go_loop [7] (fun i=>∃ k:Nat,k≤L.length∧i = .int .i64 k∧Hid (val (L.take (L.length - k)) = val L)) (fun i=>L.length - (intOf i).toNat)
  case atStart=>exact ⟨0,Nat.zero_le _,rfl,by unfold Hid;simp⟩
  case round =>
   obtain ⟨k,hk,rfl,hv⟩:=hrel
   by_cases hlt:k < L.length
   ·have hc1:=hc (L.length - k - 1) (by omega)
    clear hc
    by_cases hx0:L[L.length - k - 1]?.getD 0 = 0
    ·have hp:=val_take_pred L (L.length - k) hx0
     have hp':Hid (val (L.take (L.length - (k+1))) = val L):=by
      unfold Hid;rw [show L.length - (k+1) = L.length - k - 1 by omega,hp];exact hv.out
     rw [hx0] at hc1
     clear hx0 hp hv K K0 h
     go_wp2
     go_round
     case rel=>exact ⟨k+1,by omega,by go_num,hp'⟩
     case measure=>simp [intOf];omega
    ·have hT:=uH K k hlt hv.out hx0
     have HT:=hide hT
     clear hT K K0 h hv
     have hx1:(((L[L.length - k - 1]?.getD 0:Nat):Int) != 0) = true:=by rw [bne_iff_ne];omega
     generalize L[L.length - k - 1]?.getD 0 = x at *
     generalize hn:L.length = n at *
     clear hn
     go_wp2
     go_ret
     exact ⟨_,rfl,uH HT,rfl⟩
   ·have hT:=uH K0 (by rw [← hv.out,show L.length - k = 0 by omega])
    have HT:=hide hT
    clear hT K K0 h hv hc
    go_wp2
    go_ret
    exact ⟨_,rfl,uH HT,rfl⟩
end Go.Proofs.YtlnphkioddknfaaGreatDoor
namespace Go.Proofs.YtlnphkioddknfaaGreatDoor
open Go.RowKit
theorem LimbsAt.ne {w:World} {ao:Option Addr} {cap:Nat} {L:List Nat} (h:LimbsAt w ao cap L) (h0:0 < L.length):∃ b off,ao = some ⟨b,off,none⟩∧b < w.heap.size∧∀ i,i < L.length→w.cell? ⟨b,off+i,none⟩ = some (.int .u32 ((L[i]?.getD 0:Nat):Int)):=by
 rcases h.2.2 with e | h
 ·subst e;simp at h0
 ·exact h
end Go.Proofs.YtlnphkioddknfaaGreatDoor
namespace Go.Proofs.YtlnphkioddknfaaGreatDoor
open Go.RowKit
def cmpL (A B:List Nat):Int:=if A.length = B.length then cmpI (val A) (val B) else cmpI A.length B.length
theorem cmpI_lt {a b:Int} (h:a < b):cmpI a b = -1:=by simp [cmpI,h]
theorem cmpI_gt {a b:Int} (h:b < a):cmpI a b = 1:=by simp only [cmpI];rw [if_neg (by omega),if_pos h]
theorem cmpI_top (A B:List Nat) (hA:Fits A) (hB:Fits B) (t:Nat) (heq:∀ i,t < i→A[i]?.getD 0 = B[i]?.getD 0) (hne:A[t]?.getD 0 ≠ B[t]?.getD 0) :
  cmpI ((A[t]?.getD 0:Nat):Int) ((B[t]?.getD 0:Nat):Int) = cmpI (val A) (val B):=by
 rcases Nat.lt_or_gt_of_ne hne with h | h
 ·have:=lt_of_top A B hA t heq h
  rw [cmpI_lt (by omega),cmpI_lt (by omega)]
 ·have:=lt_of_top B A hB t (fun i hi=>(heq i hi).symm) h
  rw [cmpI_gt (by omega),cmpI_gt (by omega)]
theorem compareLimbs_any (ao bo:Option Addr) (ca cb:Nat) (A B:List Nat) (w:World) (hA:LimbsAt w ao ca A) (hB:LimbsAt w bo cb B) (la:A.length≤35184372088832) (lb:B.length≤35184372088832) :
  Calls Tryz.prog 292 #[.slice ao A.length ca,.slice bo B.length cb] w fun e w'=>e = .returned (.int .i64 (cmpL A B))∧∃ m,w.drewN m = w':=by
 by_cases hl:A.length ≠ B.length
 ·have hne:((A.length:Int) != (B.length:Int)) = true:=by rw [bne_iff_ne];omega
  have HE:=hide (show cmpL A B = cmpI A.length B.length by simp [cmpL,hl])
  go_enter Tryz.func292,Tryz.ntmps292
  go_wp2_with (go_at_call 294;refine (cmpi_any _ _ _).mono ?_;rintro e w' ⟨rfl,rfl⟩)
  go_ret
  exact ⟨ret_int (uH HE).symm,0,rfl⟩
 have hl:A.length = B.length:=by omega
 by_cases h0:A.length = 0
 ·have eA:A = []:=List.length_eq_zero_iff.1 h0
  have eB:B = []:=List.length_eq_zero_iff.1 (by omega)
  subst eA;subst eB
  go_enter Tryz.func292,Tryz.ntmps292
  go_wp2
  refine wp_loop_rounds 1 ?_
  rw [rounds_succ]
  go_wp2
  go_ret
  exact ⟨ret_int (by simp [cmpL,cmpI]),0,rfl⟩
 obtain ⟨b1,o1,rfl,hb1,hc1⟩:=hA.ne (by omega)
 obtain ⟨b2,o2,rfl,hb2,hc2⟩:=hB.ne (by omega)
 have hTop:∀ t:Nat,(∀ i:Nat,t < i→A[i]?.getD 0 = B[i]?.getD 0)→A[t]?.getD 0 ≠ B[t]?.getD 0→cmpI ((A[t]?.getD 0:Nat):Int) ((B[t]?.getD 0:Nat):Int) = cmpL A B:=by
  intro t h1 h2
  rw [cmpI_top A B hA.2.1 hB.2.1 t h1 h2];simp [cmpL,hl]
 have hEq:(∀ i:Nat,A[i]?.getD 0 = B[i]?.getD 0)→(0:Int) = cmpL A B:=by
  intro h
  have:=val_ext A B h
  simp [cmpL,hl,this,cmpI]
 have HT:=hide hTop
 have HQ:=hide hEq
 have hAbove:∀ i:Nat,A.length≤i→A[i]?.getD 0 = B[i]?.getD 0:=fun i hi=>by
  rw [List.getElem?_eq_none (by omega),List.getElem?_eq_none (by omega)]
 have HA:=hide hAbove
 clear hTop hEq hAbove hA hB
 rw [← hl]
 generalize hb:cmpL A B = s at *
 clear hb
 generalize hm:A.length = n at *
 have hm':B.length = n:=hl.symm
 clear hl
 go_enter Tryz.func292,Tryz.ntmps292
 go_wp2
 go_loopw [19] (fun i wr=>∃ k:Nat,k≤n∧i = .int .i64 k∧Hid (∀ j,n - k≤j→A[j]?.getD 0 = B[j]?.getD 0)∧Hid (∃ m,wr = w.drewN m))
  (fun i _=>n - (intOf i).toNat)
 case atStart=>exact ⟨0,Nat.zero_le _,rfl,fun j hj=>uH HA j (by omega),0,rfl⟩
 case round =>
  obtain ⟨k,hk,rfl,hq,hw⟩:=hrel
  have hwc:∀ a,wr.cell? a = w.cell? a:=by obtain ⟨m,rfl⟩:=hw.out;intro a;rfl
  clear HA
  by_cases hlt:k < n
  ·have c1:=hc1 (n - 1 - k) (by omega)
   have c2:=hc2 (n - 1 - k) (by omega)
   rw [← hwc] at c1 c2
   clear hc1 hc2 hm hm' hwc
   have hi0:(0:Int)≤(n:Int) - 1 - (k:Int):=by omega
   have hi1:(n:Int) - 1 - (k:Int) < (n:Int):=by omega
   by_cases hx:A[n - 1 - k]?.getD 0 = B[n - 1 - k]?.getD 0
   ·have hq':Hid (∀ j,n - (k+1)≤j→A[j]?.getD 0 = B[j]?.getD 0):=fun j hj=>by
     by_cases h:n - k≤j
     ·exact hq.out j h
     ·rw [show j = n - 1 - k by omega];exact hx
    rw [hx] at c1
    clear hx hq HT HQ
    generalize B[n - 1 - k]?.getD 0 = x at *
    go_wp2
    go_quiet (fail)
    go_wp2
    go_roundw
    case rel=>exact ⟨k+1,by omega,by go_num,hq',by obtain ⟨m,rfl⟩:=hw.out;exact ⟨m+nq,by simp⟩⟩
    case measure=>simp [intOf];omega
   ·have HS:=hide (uH HT (n - 1 - k) (fun i hi=>hq.out i (by omega)) hx)
    have hx1:(((A[n - 1 - k]?.getD 0:Nat):Int) != ((B[n - 1 - k]?.getD 0:Nat):Int)) = true:=by rw [bne_iff_ne];omega
    clear HT HQ hq hx
    generalize B[n - 1 - k]?.getD 0 = x at *
    generalize A[n - 1 - k]?.getD 0 = y at *
    go_wp2
    go_quiet (fail)
    obtain ⟨w2,hw2⟩:∃ w2,w2 = wr.drewN nq:=⟨_,rfl⟩
    have c3:w2.cell? ⟨b1,o1+(n - 1 - k),none⟩ = some (.int .u32 (y:Int)):=by rw [hw2];exact c1
    have c4:w2.cell? ⟨b2,o2+(n - 1 - k),none⟩ = some (.int .u32 (x:Int)):=by rw [hw2];exact c2
    rw [← hw2]
    have HW2:Hid (∃ q,w2 = wr.drewN q):=⟨nq,hw2⟩
    clear hw2 c1 c2
    go_wp2
    go_quiet ((go_at_call 295;exact quiet_eq (cmpu_any _ _ _)))
    go_wp2
    go_ret
    obtain ⟨m,rfl⟩:=hw.out
    obtain ⟨q,hq2⟩:=HW2.out
    exact ⟨ret_int (uH HS),m+q+nq,by rw [hq2];simp⟩
  ·have HS:=hide (uH HQ (fun i=>hq.out i (by omega)))
   clear HT HQ hc1 hc2 hwc
   go_wp2
   go_ret
   obtain ⟨m,rfl⟩:=hw.out
   exact ⟨ret_int (uH HS),m,rfl⟩
end Go.Proofs.YtlnphkioddknfaaGreatDoor
namespace Go.Proofs.YtlnphkioddknfaaGreatDoor
open Go.RowKit
theorem cell_setCell_other (w:World) (a p:Addr) (u:Value) (h:a.block ≠ p.block):(w.setCell p u).cell? a = w.cell? a :=
 World.cell?_of_block (Below.heap_setCell w p u a.block h)
theorem LimbsAt.store {w:World} {ao:Option Addr} {cap B:Nat} {L:List Nat} (h:LimbsAt w ao cap L) (hn:NewAt B ao L) {p:Addr} (hp:p.block < B) (u:Value):LimbsAt (w.setCell p u) ao cap L:=by
 refine ⟨h.1,h.2.1,?_⟩
 rcases h.2.2 with h0 | ⟨b,off,h1,h2,h3⟩
 ·exact .inl h0
 ·rcases hn with h0 | ⟨b',off',h1',h2'⟩
  ·exact .inl h0
  ·rw [h1] at h1'
   simp only [Option.some.injEq,Addr.mk.injEq] at h1'
   obtain ⟨rfl,rfl,_⟩:=h1'
   refine .inr ⟨b,off,h1,by simpa [World.setCell] using h2,fun i hi=>?_⟩
   rw [cell_setCell_other w _ p u (by simp;omega)]
   exact h3 i hi
theorem IsNum.stored {B B':Nat} {w:World} {n:Bool} {ao:Option Addr} {cap:Nat} {L:List Nat} {x:Int} (h:LimbsAt w ao cap L∧NewAt B ao L∧Canon L∧n = decide (x < 0)∧val L = x.natAbs∧L.length≤35184372088832) {p q:Addr} (hp:p.block < B) (hq:q.block < B) (hB:B'≤B) (u u':Value) :
  IsNum B' ((w.setCell p u).setCell q u') (.agg #[.bool n,.slice ao L.length cap]) x :=
 ⟨n,ao,cap,L,rfl,(h.1.store h.2.1 hp u).store h.2.1 hq u',h.2.1.mono hB,h.2.2⟩
end Go.Proofs.YtlnphkioddknfaaGreatDoor
namespace Go.Proofs.YtlnphkioddknfaaGreatDoor
open Go.RowKit
theorem Tryz.info133:(Tryz.prog.info? 133).map (fun i=>(i.zero,i.size,i.bytes)) = some (some (.int .u32 0),1,4):=by kernel_rfl
theorem int_eq {k:IntKind} {a b:Int} (h:a = b):Value.int k a = .int k b:=by rw [h]
theorem limbAt_x (ao:Option Addr) (cap:Nat) (L:List Nat) (i:Int) (k x:Nat) (w:World) (h:LimbsAt w ao cap L) (hl:L.length≤35184372088830) (hk:i = (k:Int)) (hx:Hid (L[k]?.getD 0 = x)) :
  Calls Tryz.prog 280 #[.slice ao L.length cap,.int .i64 i] w fun e w'=>e = .returned (.int .u64 (x:Int))∧w = w':=by
 have:=limbAt_any ao cap L i k w h hl hk
 rwa [hx.out] at this
theorem addLimbs_any (ao bo:Option Addr) (ca cb:Nat) (A B:List Nat) (w:World) (hA:LimbsAt w ao ca A) (hB:LimbsAt w bo cb B) (la:A.length≤35184372088830) (lb:B.length≤35184372088830) :
  Calls Tryz.prog 291 #[.slice ao A.length ca,.slice bo B.length cb] w fun e w'=>∃ ao' cap' L',e = .returned (.slice ao' L'.length cap')∧LimbsAt w' ao' cap' L'∧NewAt w.heap.size ao' L'∧L'.length = max A.length B.length+1∧val L' = val A+val B∧Below w.heap.size w w':=by
 obtain ⟨i0,hi,hz0,hz1,hz2⟩:=info_parts Tryz.info133
 obtain ⟨n,hn⟩:∃ n,n = max A.length B.length+1:=⟨_,rfl⟩
 have n1:A.length+1≤n:=by omega
 have n2:B.length+1≤n:=by omega
 have n3:n≤35184372088831:=by omega
 have HN:=hide hn
 clear hn
 go_enter Tryz.func291,Tryz.ntmps291
 go_wp2_with (at_make;have hn:=uH HN;refine wpList_make_full _ rfl _ _ 43 rfl w.heap.size 133 i0 (.int .u32 0) 1 Tryz.underlying43 hi hz0 hz1 .i64 .i64 _ _ n rfl rfl (by omega) (by omega) (by rw [hz2];omega) (by unfold maxLen;omega) (Nat.le_refl _) ?_;clear hn;intro w1 hown hgrow)
 all_goals
  have hrow:=RowAt.made hown
  have hb1:Below w.heap.size w w1:=(Below.refl _ _).grown hgrow (Nat.le_refl _) (fun k h=>by simp at h)
  have hs1:w.heap.size < w1.heap.size:=hrow.lt
  clear hown hgrow
  go_wp2
  go_loopw [6,17] (fun c i wr=>∃ (k:Nat) (S:List Nat) (y:Nat),k≤n∧i = .int .i64 k∧c = .int .u64 y∧y≤1∧RowAt wr w.heap.size S∧S.length = n∧Fits S∧Below w.heap.size w wr∧Hid (val (S.take k)+4294967296 ^ k * y = val (A.take k)+val (B.take k)))
   (fun _ i _=>n - (intOf i).toNat)
  case atStart=>exact ⟨0,List.replicate n 0,0,Nat.zero_le _,rfl,rfl,by omega,hrow,by simp,Fits.zeros _,hb1,by unfold Hid;simp [val]⟩
  case round =>
   obtain ⟨k,S,y,hk,rfl,rfl,hy,hr,hsl,hf,hbel,hv⟩:=hrel
   by_cases hlt:k < n
   ·obtain ⟨xa,hxa⟩:∃ x,A[k]?.getD 0 = x:=⟨_,rfl⟩
    obtain ⟨xb,hxb⟩:∃ x,B[k]?.getD 0 = x:=⟨_,rfl⟩
    have ba:xa < 4294967296:=by rw [← hxa];exact hA.lt k
    have bb:xb < 4294967296:=by rw [← hxb];exact hB.lt k
    have cA:=hA.below hbel
    have cB:=hB.below hbel
    have hst:=add_step A B S k y xa xb (by omega) hxa hxb hv.out
    have HST:=hide hst
    have HXA:=hide hxa
    have HXB:=hide hxb
    have hcell:=hr.cell k (by omega)
    have hfree:=hr.free k
    have HR:=hide hr
    clear hst hxa hxb hv hr
    generalize hS:S[k]?.getD 0 = sk at *
    clear hS
    go_wp2_with (first | (go_at_call_of 280 (Value.slice ao A.length ca);refine (limbAt_x ao ca A _ k xa _ cA la rfl HXA).mono ?_;rintro e w' ⟨rfl,rfl⟩) | (go_at_call_of 280 (Value.slice bo B.length cb);refine (limbAt_x bo cb B _ k xb _ cB lb rfl HXB).mono ?_;rintro e w' ⟨rfl,rfl⟩))
    have ec:(((y+(xa+xb)) % 4294967296:Nat):Int) = ((y:Int)+((xa:Int)+(xb:Int))) % 4294967296:=by omega
    have hr':=(uH HR).set k ((y+(xa+xb)) % 4294967296)
    rw [ec] at hr'
    go_roundw
    case rel=>exact ⟨k+1,S.set k ((y+(xa+xb)) % 4294967296),(y+(xa+xb)) / 4294967296,by omega,by go_num,int_eq (by omega),by omega,hr',by simpa using hsl,hf.set _ _ (by omega),hbel.setCell (by simp) _,HST⟩
    case measure=>simp [intOf];omega
   ·have hend:=add_end A B S n y hA.2.1 hB.2.1 n1 n2 hsl (by rw [show n = k by omega];exact hv.out)
    have HEND:=hide hend
    have HR:=hide hr
    have HV:=hide hv
    clear hend hr hv
    go_wp2
    go_ret
    have hN:=uH HN
    refine ⟨some ⟨w.heap.size,0,none⟩,n,S,by rw [hsl];rfl,(uH HR).limbs hf n (by omega),.inr ⟨_,_,rfl,Nat.le_refl _⟩,by rw [hsl];exact hN,uH HEND,hbel⟩
end Go.Proofs.YtlnphkioddknfaaGreatDoor
