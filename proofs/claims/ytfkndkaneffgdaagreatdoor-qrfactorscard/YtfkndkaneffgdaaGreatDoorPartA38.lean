/- Part 38 of the texts. -/
import Derived.Test.YtfkndkaneffgdaaGreatDoorPartA09
import Derived.Lib.BitFns
import Derived.Test.YtfkndkaneffgdaaGreatDoorPartA33
import Derived.Test.YtfkndkaneffgdaaGreatDoorPartA08
import Derived.Test.YtfkndkaneffgdaaGreatDoorPartA05
import Derived.Maps.AppendAt
import Derived.Test.YtfkndkaneffgdaaGreatDoorPartA07
import Derived.Test.YtfkndkaneffgdaaGreatDoorPartA10
import Derived.Test.YtfkndkaneffgdaaGreatDoorPartA01
import Derived.OwnWalk
import Derived.Test.YtfkndkaneffgdaaGreatDoorPartA02
import Derived.Maps.Own
import Derived.Maps.OwnOps
import Derived.Maps.OwnSet
import Derived.DeepKeys4
import Derived.WalkSmall
import Derived.Deep.RegionHeld3
import Derived.Deep.AppendLies
import Derived.Test.YtfkndkaneffgdaaGreatDoorPartA35
import Derived.Test.YtfkndkaneffgdaaGreatDoorPartA31
import Derived.Test.YtfkndkaneffgdaaGreatDoorPartA16
import Derived.Test.YtfkndkaneffgdaaGreatDoorPartA17
import Derived.Test.YtfkndkaneffgdaaGreatDoorPartA18
import Derived.Deep.Cut
import Derived.BigQuiet
import Derived.Test.YtfkndkaneffgdaaGreatDoorPartA32
import Derived.Test.YtfkndkaneffgdaaGreatDoorPartA34
namespace Go.Proofs.YtfkndkaneffgdaaGreatDoor
open Go.RowKit
attribute [local go_sem ↓] Go.wp_at_zero Go.wp_at_succ
def nilAt (N:List Rw) (i c:Nat):Prop:=(nmAt (rwAt N i).R c).L.length = 0
end Go.Proofs.YtfkndkaneffgdaaGreatDoor
namespace Go.Proofs.YtfkndkaneffgdaaGreatDoor
open Go.RowKit
def KK:Nat→Nat
 | 0=>2098
 | c+1=>2 * KK c+1
end Go.Proofs.YtfkndkaneffgdaaGreatDoor
namespace Go.Proofs.YtfkndkaneffgdaaGreatDoor
open Go.RowKit
attribute [local go_sem ↓] Go.wp_at_zero Go.wp_at_succ
def HmSt (w wr:World) (v:Value) (S:List Nat):Prop:=OwnB (w.heap.size+1) wr v S∧BoxT 51 wr w.heap.size (.slice none 0 0) (.int .u64 0) (.int .u64 0)∧Below w.heap.size w wr
theorem HmSt.all {w wr w':World} {v:Value} {S:List Nat} (h:HmSt w wr v S) (hb:Below wr.heap.size wr w'):HmSt w w' v S:=⟨h.1.below hb,h.2.1.all hb,h.2.2.trans (hb.mono h.2.2.size)⟩
theorem HmSt.push {w wr:World} {v:Value} {S:List Nat} (h:HmSt w wr v S) (x:Nat) (hx:x < 18446744073709551616) (hl:S.length≤1000000) (ty:TypeId) :
  ∃ v' w',(Builtin.append_ #[22,22] ty #[v,.slice (some ⟨wr.heap.size,0,none⟩) 1 1]).run Tryz.prog (wr.alloc (.cells #[.int .u64 (x:Int)] 30)) = .ok v' w'∧HmSt w w' v' (S ++ [x]):=by
 obtain ⟨h1,h2,h3⟩:=h
 obtain ⟨v',w',e1,e2,e3,_⟩:=h1.push x hx hl (by have:=h2.lt;omega) ty
 exact ⟨v',w',e1,e2,h2.below e3 (by omega),h3.trans (e3.mono (by omega))⟩
theorem HmSt.start (w:World):HmSt w ((w.alloc (.cells #[.slice none 0 0,.int .u64 0,.int .u64 0] 51)).alloc (.cells #[.int .u64 4607182418800017408] 30)) (.slice (some ⟨w.heap.size+1,0,none⟩) 1 1) [4607182418800017408]:=by
 have b0:=below_alloc9 w (.cells #[.slice none 0 0,.int .u64 0,.int .u64 0] 51)
 have s0:=size_alloc9 w (.cells #[.slice none 0 0,.int .u64 0,.int .u64 0] 51)
 have x0:=BoxT.new 51 w (.slice none 0 0) (.int .u64 0) (.int .u64 0)
 generalize w.alloc (.cells #[.slice none 0 0,.int .u64 0,.int .u64 0] 51) = w0 at *
 have b1:=below_alloc9 w0 (.cells #[.int .u64 4607182418800017408] 30)
 have r1:(w0.alloc (.cells #[.int .u64 4607182418800017408] 30)).heap[w0.heap.size]? = some (.cells #[.int .u64 4607182418800017408] 30 (0,0)):=heap_alloc_new w0 _
 rw [s0] at r1
 refine ⟨⟨⟨rfl,.inr ⟨w.heap.size+1,1,#[.int .u64 4607182418800017408],rfl,Nat.le_refl _,r1,Nat.le_refl _,by unfold maxLen;omega,rfl,rfl⟩⟩,fun x hx=>by simp at hx;subst hx;decide⟩,x0.all b1,b0.trans (b1.mono b0.size)⟩
def mkJ (g:Nat→Nat) (j:Nat):List Nat:=4607182418800017408 :: fsL g (j - 1)
theorem mkJ_1 (g:Nat→Nat):mkJ g 1 = [4607182418800017408]:=rfl
theorem mkJ_len (g:Nat→Nat) {j:Nat} (hj:1≤j):(mkJ g j).length = j:=by
 show (fsL g (j - 1)).length+1 = j
 rw [fsL_len]
 omega
theorem mkJ_succ (g:Nat→Nat) {j:Nat} (hj:1≤j):mkJ g (j+1) = mkJ g j ++ [g (j - 1)]:=by
 obtain ⟨i,rfl⟩:∃ i,j = i+1:=⟨j - 1,by omega⟩
 show 4607182418800017408 :: fsL g (i+1) = (4607182418800017408 :: fsL g i) ++ [g i]
 rw [fsL_succ]
 rfl
set_option maxRecDepth 20000 in
set_option maxHeartbeats 4000000 in
theorem rmake13_noughts (ao:Option Addr) (n c a:Nat) (w:World) (hn1:1≤n) (hn:n≤64)
  (X0:∀ w',Below w.heap.size w w'→∃ b off,ao = some ⟨b,off,none⟩∧w'.cell? ⟨b,off,none⟩ = some (.int .u64 (a:Nat)))
  (C1:∀ w',Below w.heap.size w w'→Calls Tryz.prog 49 #[.slice ao n c] w' fun e w''=>e = .returned (.bool true)∧Below w'.heap.size w' w'') :
  Calls Tryz.prog 27 #[.slice ao n c] w fun e w'=>∃ vo vc,e = .returned (.tuple #[.agg #[.slice vo n vc,.int .u64 0,.int .u64 (a:Nat)],.bool true])∧NewB w.heap.size vo (mxL (mkJ (fun _=>0) n))∧BitsAt w' vo vc (mxL (mkJ (fun _=>0) n))∧Below w.heap.size w w':=by
 have ST:=hide (HmSt.start w)
 have K1:=hide C1;have KX:=hide X0
 clear C1 X0
 have hnI:(1:Int)≤(n:Int):=by omega
 go_enter Tryz.func27,Tryz.ntmps27
 go_wp2_with fail
 refine (uH K1 _ (uH ST).2.2).mono ?_
 rintro e w1 ⟨rfl,hb⟩
 replace ST:=hide ((uH ST).all hb)
 clear hb K1
 go_wp2_with fail
 go_loopw [4,5] (fun v i wr=>∃ j:Nat,1≤j∧j≤n∧i = .int .i64 j∧Hid (HmSt w wr v (mkJ (fun _=>0) j))) (fun _ i _=>n - (intOf i).toNat)
 case atStart=>exact ⟨1,Nat.le_refl _,hn1,rfl,by rw [mkJ_1];exact ST⟩
 case round =>
  clear ST
  obtain ⟨j,hj1,hj,rfl,hS⟩:=hrel
  by_cases hlt:j < n
  ·have hjI:(j:Int) < (n:Int):=by omega
   obtain ⟨v3,w3,run3,st3⟩:=(uH hS).push 0 (by decide) (by rw [mkJ_len _ hj1];omega) 22
   have RUN:=hide run3
   have S3:=hide (show HmSt w w3 v3 (mkJ (fun _=>0) (j+1)) from by rw [mkJ_succ _ hj1];exact st3)
   clear run3 st3 hS
   go_wp2_with (at_builtin;refine wpList_append_ran _ rfl _ _ 22 rfl _ _ _ _ rfl rfl (uH RUN) ?_;clear RUN)
   go_round
   case rel=>exact ⟨j+1,by omega,by omega,by go_num,S3⟩
   case measure=>simp [intOf];omega
  ·have hjj:j = n:=by omega
   subst hjj
   obtain ⟨b,off,rfl,ca⟩:=uH KX _ (uH hS).2.2
   obtain ⟨h1,h2,h3⟩:=uH hS
   obtain ⟨vo,vc,e1,q1⟩:=h1.bits
   rw [mkJ_len _ hj1] at e1
   subst e1
   have r0:=h2.c0;have r1:=h2.c1;have r2:=h2.c2
   have f0:=h2.free 0;have f1:=h2.free 1;have f2:=h2.free 2
   have XP:=h2.put (.slice vo j vc) (.int .u64 0) (.int .u64 (a:Nat))
   have z0:=XP.c0;have z1:=XP.c1;have z2:=XP.c2
   have HNW:=hide (NewB.least h1.newB (Nat.le_succ w.heap.size))
   have Q:=hide (((q1.far h1.newB (show w.heap.size < w.heap.size+1 by omega) 0 (.slice vo j vc)).far h1.newB (show w.heap.size < w.heap.size+1 by omega) 1 (.int .u64 0)).far h1.newB (show w.heap.size < w.heap.size+1 by omega) 2 (.int .u64 (a:Nat)))
   have BP:=hide (below_put3 h3 (Nat.le_refl _) (.slice vo j vc) (.int .u64 0) (.int .u64 (a:Nat)))
   clear hS h1 q1 XP h2 h3
   go_wp2_with fail
   exact bodyPost_ret (v:=.tuple #[.agg #[.slice vo j vc,.int .u64 0,.int .u64 (a:Nat)],.bool true]) (by simp [results,Tryz.results27,go_sem,z0,z1,z2]) rfl ⟨vo,vc,rfl,uH HNW,uH Q,uH BP⟩
set_option maxRecDepth 20000 in
set_option maxHeartbeats 8000000 in
theorem rmake13_bad (ao:Option Addr) (n c b0 bm b d:Nat) (sg f1 f2:Bool) (X:Nat→Nat) (w:World) (hn1:1≤n) (hn:n≤64) (hf:f1 = false ∨ (f1 = true∧f2 = false))
  (X0:∀ w',Below w.heap.size w w'→∃ b off,ao = some ⟨b,off,none⟩∧∀ j,j < n→w'.cell? ⟨b,off+j,none⟩ = some (.int .u64 (X j:Nat)))
  (C1:∀ w',Below w.heap.size w w'→Calls Tryz.prog 49 #[.slice ao n c] w' fun e w''=>e = .returned (.bool false)∧Below w'.heap.size w' w'')
  (C2:∀ w',Below w.heap.size w w'→Calls Tryz.prog 50 #[.slice ao n c] w' fun e w''=>e = .returned (.int .u64 (b0:Nat))∧Below w'.heap.size w' w'')
  (C3:∀ w',Below w.heap.size w w'→Calls Tryz.prog 52 #[.slice ao n c] w' fun e w''=>∃ p:Nat,e = .returned (.int .i64 (p:Nat))∧p < n∧fS (X p) = sg∧Below w'.heap.size w' w'')
  (C4:∀ w' p,fS (X p) = sg→Calls Tryz.prog 51 #[.int .u64 (X p:Nat)] w' fun e w''=>e = .returned (.bool sg)∧w' = w'')
  (C5:∀ w',Calls Tryz.prog 53 #[.int .u64 b0] w' fun e w''=>e = .returned (.int .u64 (bm:Nat))∧w' = w'')
  (hb:(sg = true∧b = b0) ∨ (sg = false∧b = bm))
  (C6:∀ w',Calls Tryz.prog 54 #[.int .u64 (X 0:Nat),.int .u64 b] w' fun e w''=>e = .returned (.int .u64 (d:Nat))∧Below w'.heap.size w' w'')
  (C7:∀ w',Calls Tryz.prog 48 #[.int .u64 b] w' fun e w''=>e = .returned (.bool f1)∧w' = w'')
  (C8:∀ w',Calls Tryz.prog 48 #[.int .u64 d] w' fun e w''=>e = .returned (.bool f2)∧w' = w'') :
  Calls Tryz.prog 27 #[.slice ao n c] w fun e w'=>e = .returned (.tuple #[.agg #[.slice none 0 0,.int .u64 0,.int .u64 0],.bool false])∧Below w.heap.size w w':=by
 have ST:=hide (HmSt.start w)
 have KX:=hide X0;have K1:=hide C1;have K2:=hide C2;have K3:=hide C3;have K4:=hide C4;have K5:=hide C5;have K6:=hide C6;have K7:=hide C7;have K8:=hide C8
 clear X0 C1 C2 C3 C4 C5 C6 C7 C8
 have hnI:(1:Int)≤(n:Int):=by omega
 rcases hb with ⟨rfl,rfl⟩ | ⟨rfl,rfl⟩
 ·go_enter Tryz.func27,Tryz.ntmps27
  go_wp2_with fail
  refine (uH K1 _ (uH ST).2.2).mono ?_
  rintro e w1 ⟨rfl,hb⟩
  replace ST:=hide ((uH ST).all hb)
  clear hb K1
  go_wp2_with fail
  refine (uH K2 _ (uH ST).2.2).mono ?_
  rintro e w2 ⟨rfl,hb⟩
  replace ST:=hide ((uH ST).all hb)
  clear hb K2
  go_wp2_with fail
  refine (uH K3 _ (uH ST).2.2).mono ?_
  rintro e w3 ⟨p,rfl,hp,hs,hb⟩
  replace ST:=hide ((uH ST).all hb)
  obtain ⟨bb,off,rfl,hcs⟩:=uH KX _ (uH ST).2.2
  have cp:=hcs p hp
  have K4':=hide (fun w'=>uH K4 w' p hs)
  have hpI:(p:Int) < (n:Int):=by omega
  generalize X p = x at *
  clear hb K3 hcs hs K4
  go_wp2_with fail
  refine (uH K4' _).mono ?_
  rintro e w4 ⟨rfl,rfl⟩
  clear K4' cp
  obtain ⟨bb',off',ee,hcs⟩:=uH KX _ (uH ST).2.2
  simp only [Option.some.injEq,Addr.mk.injEq] at ee
  obtain ⟨rfl,rfl,_⟩:=ee
  have c0:=hcs 0 (by omega)
  rw [Nat.add_zero] at c0
  clear hcs
  generalize hX0:X 0 = a at *
  go_wp2_with fail
  refine (uH K6 _).mono ?_
  rintro e w5 ⟨rfl,hb⟩
  replace ST:=hide ((uH ST).all hb)
  clear hb K6 c0
  go_wp2_with fail
  refine (uH K7 _).mono ?_
  rintro e w6 ⟨rfl,rfl⟩
  rcases hf with rfl | ⟨rfl,rfl⟩
  ·obtain ⟨h1,h2,h3⟩:=uH ST
   have r0:=h2.c0;have r1:=h2.c1;have r2:=h2.c2
   have f0:=h2.free 0;have f1':=h2.free 1;have f2':=h2.free 2
   have XP:=h2.put (.slice none 0 0) (.int .u64 0) (.int .u64 0)
   have z0:=XP.c0;have z1:=XP.c1;have z2:=XP.c2
   have BP:=hide (below_put3 h3 (Nat.le_refl _) (.slice none 0 0) (.int .u64 0) (.int .u64 0))
   clear h1 h2 h3 XP ST
   go_wp2_with fail
   exact bodyPost_ret (v:=.tuple #[.agg #[.slice none 0 0,.int .u64 0,.int .u64 0],.bool false]) (by simp [results,Tryz.results27,go_sem,z0,z1,z2]) rfl ⟨rfl,uH BP⟩
  ·go_wp2_with fail
   refine (uH K8 _).mono ?_
   rintro e w6 ⟨rfl,rfl⟩
   obtain ⟨h1,h2,h3⟩:=uH ST
   have r0:=h2.c0;have r1:=h2.c1;have r2:=h2.c2
   have f0:=h2.free 0;have f1':=h2.free 1;have f2':=h2.free 2
   have XP:=h2.put (.slice none 0 0) (.int .u64 0) (.int .u64 0)
   have z0:=XP.c0;have z1:=XP.c1;have z2:=XP.c2
   have BP:=hide (below_put3 h3 (Nat.le_refl _) (.slice none 0 0) (.int .u64 0) (.int .u64 0))
   clear h1 h2 h3 XP ST
   go_wp2_with fail
   exact bodyPost_ret (v:=.tuple #[.agg #[.slice none 0 0,.int .u64 0,.int .u64 0],.bool false]) (by simp [results,Tryz.results27,go_sem,z0,z1,z2]) rfl ⟨rfl,uH BP⟩
 ·go_enter Tryz.func27,Tryz.ntmps27
  go_wp2_with fail
  refine (uH K1 _ (uH ST).2.2).mono ?_
  rintro e w1 ⟨rfl,hb⟩
  replace ST:=hide ((uH ST).all hb)
  clear hb K1
  go_wp2_with fail
  refine (uH K2 _ (uH ST).2.2).mono ?_
  rintro e w2 ⟨rfl,hb⟩
  replace ST:=hide ((uH ST).all hb)
  clear hb K2
  go_wp2_with fail
  refine (uH K3 _ (uH ST).2.2).mono ?_
  rintro e w3 ⟨p,rfl,hp,hs,hb⟩
  replace ST:=hide ((uH ST).all hb)
  obtain ⟨bb,off,rfl,hcs⟩:=uH KX _ (uH ST).2.2
  have cp:=hcs p hp
  have K4':=hide (fun w'=>uH K4 w' p hs)
  have hpI:(p:Int) < (n:Int):=by omega
  generalize X p = x at *
  clear hb K3 hcs hs K4
  go_wp2_with fail
  refine (uH K4' _).mono ?_
  rintro e w4 ⟨rfl,rfl⟩
  clear K4' cp
  go_wp2_with fail
  refine (uH K5 _).mono ?_
  rintro e w4 ⟨rfl,rfl⟩
  obtain ⟨bb',off',ee,hcs⟩:=uH KX _ (uH ST).2.2
  simp only [Option.some.injEq,Addr.mk.injEq] at ee
  obtain ⟨rfl,rfl,_⟩:=ee
  have c0:=hcs 0 (by omega)
  rw [Nat.add_zero] at c0
  clear hcs
  generalize hX0:X 0 = a at *
  go_wp2_with fail
  refine (uH K6 _).mono ?_
  rintro e w5 ⟨rfl,hb⟩
  replace ST:=hide ((uH ST).all hb)
  clear hb K6 c0
  go_wp2_with fail
  refine (uH K7 _).mono ?_
  rintro e w6 ⟨rfl,rfl⟩
  rcases hf with rfl | ⟨rfl,rfl⟩
  ·obtain ⟨h1,h2,h3⟩:=uH ST
   have r0:=h2.c0;have r1:=h2.c1;have r2:=h2.c2
   have f0:=h2.free 0;have f1':=h2.free 1;have f2':=h2.free 2
   have XP:=h2.put (.slice none 0 0) (.int .u64 0) (.int .u64 0)
   have z0:=XP.c0;have z1:=XP.c1;have z2:=XP.c2
   have BP:=hide (below_put3 h3 (Nat.le_refl _) (.slice none 0 0) (.int .u64 0) (.int .u64 0))
   clear h1 h2 h3 XP ST
   go_wp2_with fail
   exact bodyPost_ret (v:=.tuple #[.agg #[.slice none 0 0,.int .u64 0,.int .u64 0],.bool false]) (by simp [results,Tryz.results27,go_sem,z0,z1,z2]) rfl ⟨rfl,uH BP⟩
  ·go_wp2_with fail
   refine (uH K8 _).mono ?_
   rintro e w6 ⟨rfl,rfl⟩
   obtain ⟨h1,h2,h3⟩:=uH ST
   have r0:=h2.c0;have r1:=h2.c1;have r2:=h2.c2
   have f0:=h2.free 0;have f1':=h2.free 1;have f2':=h2.free 2
   have XP:=h2.put (.slice none 0 0) (.int .u64 0) (.int .u64 0)
   have z0:=XP.c0;have z1:=XP.c1;have z2:=XP.c2
   have BP:=hide (below_put3 h3 (Nat.le_refl _) (.slice none 0 0) (.int .u64 0) (.int .u64 0))
   clear h1 h2 h3 XP ST
   go_wp2_with fail
   exact bodyPost_ret (v:=.tuple #[.agg #[.slice none 0 0,.int .u64 0,.int .u64 0],.bool false]) (by simp [results,Tryz.results27,go_sem,z0,z1,z2]) rfl ⟨rfl,uH BP⟩
set_option maxRecDepth 20000 in
set_option maxHeartbeats 8000000 in
theorem rmake13_ok (ao:Option Addr) (n c b0 bm b d e0 T:Nat) (sg f1 f2:Bool) (X g:Nat→Nat) (w:World) (hn1:1≤n) (hn:n≤64) (hf1:f1 = true) (hf2:f2 = true) (hg:∀ j,j+1 < n→g j < 18446744073709551616)
  (X0:∀ w',Below w.heap.size w w'→∃ b off,ao = some ⟨b,off,none⟩∧∀ j,j < n→w'.cell? ⟨b,off+j,none⟩ = some (.int .u64 (X j:Nat)))
  (C1:∀ w',Below w.heap.size w w'→Calls Tryz.prog 49 #[.slice ao n c] w' fun e w''=>e = .returned (.bool false)∧Below w'.heap.size w' w'')
  (C2:∀ w',Below w.heap.size w w'→Calls Tryz.prog 50 #[.slice ao n c] w' fun e w''=>e = .returned (.int .u64 (b0:Nat))∧Below w'.heap.size w' w'')
  (C3:∀ w',Below w.heap.size w w'→Calls Tryz.prog 52 #[.slice ao n c] w' fun e w''=>∃ p:Nat,e = .returned (.int .i64 (p:Nat))∧p < n∧fS (X p) = sg∧Below w'.heap.size w' w'')
  (C4:∀ w' p,fS (X p) = sg→Calls Tryz.prog 51 #[.int .u64 (X p:Nat)] w' fun e w''=>e = .returned (.bool sg)∧w' = w'')
  (C5:∀ w',Calls Tryz.prog 53 #[.int .u64 b0] w' fun e w''=>e = .returned (.int .u64 (bm:Nat))∧w' = w'')
  (hb:(sg = true∧b = b0) ∨ (sg = false∧b = bm))
  (C6:∀ w',Calls Tryz.prog 54 #[.int .u64 (X 0:Nat),.int .u64 b] w' fun e w''=>e = .returned (.int .u64 (d:Nat))∧Below w'.heap.size w' w'')
  (C7:∀ w',Calls Tryz.prog 48 #[.int .u64 b] w' fun e w''=>e = .returned (.bool f1)∧w' = w'')
  (C8:∀ w',Calls Tryz.prog 48 #[.int .u64 d] w' fun e w''=>e = .returned (.bool f2)∧w' = w'')
  (C9:∀ j,1≤j→j < n→∀ w',Calls Tryz.prog 55 #[.int .u64 (X j:Nat),.int .u64 d] w' fun e w''=>e = .returned (.int .u64 (g (j - 1):Nat))∧Below w'.heap.size w' w'')
  (CX:∀ w',Calls Tryz.prog 54 #[.int .u64 b,.int .u64 (X 0:Nat)] w' fun e w''=>e = .returned (.int .u64 (e0:Nat))∧Below w'.heap.size w' w'')
  (CY:∀ w',Calls Tryz.prog 55 #[.int .u64 e0,.int .u64 b] w' fun e w''=>e = .returned (.int .u64 (T:Nat))∧Below w'.heap.size w' w'') :
  Calls Tryz.prog 27 #[.slice ao n c] w fun e w'=>∃ vo vc,e = .returned (.tuple #[.agg #[.slice vo n vc,.int .u64 (T:Nat),.int .u64 (b:Nat)],.bool true])∧NewB w.heap.size vo (mxL (mkJ g n))∧BitsAt w' vo vc (mxL (mkJ g n))∧Below w.heap.size w w':=by
 subst hf1 hf2
 have ST:=hide (HmSt.start w)
 have KX:=hide X0;have K1:=hide C1;have K2:=hide C2;have K3:=hide C3;have K4:=hide C4;have K5:=hide C5;have K6:=hide C6;have K7:=hide C7;have K8:=hide C8
 clear X0 C1 C2 C3 C4 C5 C6 C7 C8
 have hnI:(1:Int)≤(n:Int):=by omega
 have K9:=hide C9;have KX2:=hide CX;have KY:=hide CY;have HG:=hide hg
 clear C9 CX CY hg
 rcases hb with ⟨rfl,rfl⟩ | ⟨rfl,rfl⟩
 ·go_enter Tryz.func27,Tryz.ntmps27
  go_wp2_with fail
  refine (uH K1 _ (uH ST).2.2).mono ?_
  rintro e w1 ⟨rfl,hb⟩
  replace ST:=hide ((uH ST).all hb)
  clear hb K1
  go_wp2_with fail
  refine (uH K2 _ (uH ST).2.2).mono ?_
  rintro e w2 ⟨rfl,hb⟩
  replace ST:=hide ((uH ST).all hb)
  clear hb K2
  go_wp2_with fail
  refine (uH K3 _ (uH ST).2.2).mono ?_
  rintro e w3 ⟨p,rfl,hp,hs,hb⟩
  replace ST:=hide ((uH ST).all hb)
  obtain ⟨bb,off,rfl,hcs⟩:=uH KX _ (uH ST).2.2
  have cp:=hcs p hp
  have K4':=hide (fun w'=>uH K4 w' p hs)
  have hpI:(p:Int) < (n:Int):=by omega
  generalize X p = x at *
  clear hb K3 hcs hs K4
  go_wp2_with fail
  refine (uH K4' _).mono ?_
  rintro e w4 ⟨rfl,rfl⟩
  clear K4' cp
  obtain ⟨bb',off',ee,hcs⟩:=uH KX _ (uH ST).2.2
  simp only [Option.some.injEq,Addr.mk.injEq] at ee
  obtain ⟨rfl,rfl,_⟩:=ee
  have c0:=hcs 0 (by omega)
  rw [Nat.add_zero] at c0
  clear hcs
  generalize hX0:X 0 = a at *
  go_wp2_with fail
  refine (uH K6 _).mono ?_
  rintro e w5 ⟨rfl,hb⟩
  replace ST:=hide ((uH ST).all hb)
  clear hb K6 c0
  go_wp2_with fail
  refine (uH K7 _).mono ?_
  rintro e w6 ⟨rfl,rfl⟩
  go_wp2_with fail
  refine (uH K8 _).mono ?_
  rintro e w6 ⟨rfl,rfl⟩
  go_wp2_with fail
  go_loopw [4,8] (fun v i wr=>∃ j:Nat,1≤j∧j≤n∧i = .int .i64 j∧Hid (HmSt w wr v (mkJ g j))) (fun _ i _=>n - (intOf i).toNat)
  case atStart=>exact ⟨1,Nat.le_refl _,hn1,rfl,by rw [mkJ_1];exact ST⟩
  case round =>
   clear ST
   obtain ⟨j,hj1,hj,rfl,hS⟩:=hrel
   obtain ⟨bb',off',ee,hcs⟩:=uH KX _ (uH hS).2.2
   simp only [Option.some.injEq,Addr.mk.injEq] at ee
   obtain ⟨rfl,rfl,_⟩:=ee
   by_cases hlt:j < n
   ·have hjI:(j:Int) < (n:Int):=by omega
    have cj:=hcs j hlt
    have KD:=hide (uH K9 j hj1 hlt)
    have GL:=hide (uH HG (j - 1) (by omega))
    have GS:=hide (mkJ_succ g hj1)
    generalize g (j - 1) = o at *
    generalize X j = xj at *
    clear hcs
    go_wp2_with fail
    refine (uH KD _).mono ?_
    rintro e w7 ⟨rfl,hb⟩
    obtain ⟨v3,w8,run3,st3⟩:=((uH hS).all hb).push o (uH GL) (by rw [mkJ_len _ hj1];omega) 22
    have RUN:=hide run3
    have S3:=hide (show HmSt w w8 v3 (mkJ g (j+1)) from by rw [uH GS];exact st3)
    clear run3 st3 hS hb cj KD
    go_wp2_with (at_builtin;refine wpList_append_ran _ rfl _ _ 22 rfl _ _ _ _ rfl rfl (uH RUN) ?_;clear RUN)
    go_round
    case rel=>exact ⟨j+1,by omega,by omega,by go_num,S3⟩
    case measure=>simp [intOf];omega
   ·have hjj:j = n:=by omega
    subst hjj
    have c0:=hcs 0 (by omega)
    rw [Nat.add_zero,hX0] at c0
    clear hcs
    go_wp2_with fail
    refine (uH KX2 _).mono ?_
    rintro e w7 ⟨rfl,hb⟩
    replace hS:=hide ((uH hS).all hb)
    clear hb KX2 c0
    go_wp2_with fail
    refine (uH KY _).mono ?_
    rintro e w8 ⟨rfl,hb⟩
    obtain ⟨h1,h2,h3⟩:=(uH hS).all hb
    obtain ⟨vo,vc,e1,q1⟩:=h1.bits
    rw [mkJ_len _ hj1] at e1
    subst e1
    have r0:=h2.c0;have r1:=h2.c1;have r2:=h2.c2
    have f0:=h2.free 0;have f1':=h2.free 1;have f2':=h2.free 2
    have XP:=h2.put (.slice vo j vc) (.int .u64 (T:Nat)) (.int .u64 (b:Nat))
    have z0:=XP.c0;have z1:=XP.c1;have z2:=XP.c2
    have HNW:=hide (NewB.least h1.newB (Nat.le_succ w.heap.size))
    have Q:=hide (((q1.far h1.newB (show w.heap.size < w.heap.size+1 by omega) 0 (.slice vo j vc)).far h1.newB (show w.heap.size < w.heap.size+1 by omega) 1 (.int .u64 (T:Nat))).far h1.newB (show w.heap.size < w.heap.size+1 by omega) 2 (.int .u64 (b:Nat)))
    have BP:=hide (below_put3 h3 (Nat.le_refl _) (.slice vo j vc) (.int .u64 (T:Nat)) (.int .u64 (b:Nat)))
    clear hS h1 q1 XP h2 h3 hb KY
    go_wp2_with fail
    exact bodyPost_ret (v:=.tuple #[.agg #[.slice vo j vc,.int .u64 (T:Nat),.int .u64 (b:Nat)],.bool true]) (by simp [results,Tryz.results27,go_sem,z0,z1,z2]) rfl ⟨vo,vc,rfl,uH HNW,uH Q,uH BP⟩
 ·go_enter Tryz.func27,Tryz.ntmps27
  go_wp2_with fail
  refine (uH K1 _ (uH ST).2.2).mono ?_
  rintro e w1 ⟨rfl,hb⟩
  replace ST:=hide ((uH ST).all hb)
  clear hb K1
  go_wp2_with fail
  refine (uH K2 _ (uH ST).2.2).mono ?_
  rintro e w2 ⟨rfl,hb⟩
  replace ST:=hide ((uH ST).all hb)
  clear hb K2
  go_wp2_with fail
  refine (uH K3 _ (uH ST).2.2).mono ?_
  rintro e w3 ⟨p,rfl,hp,hs,hb⟩
  replace ST:=hide ((uH ST).all hb)
  obtain ⟨bb,off,rfl,hcs⟩:=uH KX _ (uH ST).2.2
  have cp:=hcs p hp
  have K4':=hide (fun w'=>uH K4 w' p hs)
  have hpI:(p:Int) < (n:Int):=by omega
  generalize X p = x at *
  clear hb K3 hcs hs K4
  go_wp2_with fail
  refine (uH K4' _).mono ?_
  rintro e w4 ⟨rfl,rfl⟩
  clear K4' cp
  go_wp2_with fail
  refine (uH K5 _).mono ?_
  rintro e w4 ⟨rfl,rfl⟩
  obtain ⟨bb',off',ee,hcs⟩:=uH KX _ (uH ST).2.2
  simp only [Option.some.injEq,Addr.mk.injEq] at ee
  obtain ⟨rfl,rfl,_⟩:=ee
  have c0:=hcs 0 (by omega)
  rw [Nat.add_zero] at c0
  clear hcs
  generalize hX0:X 0 = a at *
  go_wp2_with fail
  refine (uH K6 _).mono ?_
  rintro e w5 ⟨rfl,hb⟩
  replace ST:=hide ((uH ST).all hb)
  clear hb K6 c0
  go_wp2_with fail
  refine (uH K7 _).mono ?_
  rintro e w6 ⟨rfl,rfl⟩
  go_wp2_with fail
  refine (uH K8 _).mono ?_
  rintro e w6 ⟨rfl,rfl⟩
  go_wp2_with fail
  go_loopw [4,8] (fun v i wr=>∃ j:Nat,1≤j∧j≤n∧i = .int .i64 j∧Hid (HmSt w wr v (mkJ g j))) (fun _ i _=>n - (intOf i).toNat)
  case atStart=>exact ⟨1,Nat.le_refl _,hn1,rfl,by rw [mkJ_1];exact ST⟩
  case round =>
   clear ST
   obtain ⟨j,hj1,hj,rfl,hS⟩:=hrel
   obtain ⟨bb',off',ee,hcs⟩:=uH KX _ (uH hS).2.2
   simp only [Option.some.injEq,Addr.mk.injEq] at ee
   obtain ⟨rfl,rfl,_⟩:=ee
   by_cases hlt:j < n
   ·have hjI:(j:Int) < (n:Int):=by omega
    have cj:=hcs j hlt
    have KD:=hide (uH K9 j hj1 hlt)
    have GL:=hide (uH HG (j - 1) (by omega))
    have GS:=hide (mkJ_succ g hj1)
    generalize g (j - 1) = o at *
    generalize X j = xj at *
    clear hcs
    go_wp2_with fail
    refine (uH KD _).mono ?_
    rintro e w7 ⟨rfl,hb⟩
    obtain ⟨v3,w8,run3,st3⟩:=((uH hS).all hb).push o (uH GL) (by rw [mkJ_len _ hj1];omega) 22
    have RUN:=hide run3
    have S3:=hide (show HmSt w w8 v3 (mkJ g (j+1)) from by rw [uH GS];exact st3)
    clear run3 st3 hS hb cj KD
    go_wp2_with (at_builtin;refine wpList_append_ran _ rfl _ _ 22 rfl _ _ _ _ rfl rfl (uH RUN) ?_;clear RUN)
    go_round
    case rel=>exact ⟨j+1,by omega,by omega,by go_num,S3⟩
    case measure=>simp [intOf];omega
   ·have hjj:j = n:=by omega
    subst hjj
    have c0:=hcs 0 (by omega)
    rw [Nat.add_zero,hX0] at c0
    clear hcs
    go_wp2_with fail
    refine (uH KX2 _).mono ?_
    rintro e w7 ⟨rfl,hb⟩
    replace hS:=hide ((uH hS).all hb)
    clear hb KX2 c0
    go_wp2_with fail
    refine (uH KY _).mono ?_
    rintro e w8 ⟨rfl,hb⟩
    obtain ⟨h1,h2,h3⟩:=(uH hS).all hb
    obtain ⟨vo,vc,e1,q1⟩:=h1.bits
    rw [mkJ_len _ hj1] at e1
    subst e1
    have r0:=h2.c0;have r1:=h2.c1;have r2:=h2.c2
    have f0:=h2.free 0;have f1':=h2.free 1;have f2':=h2.free 2
    have XP:=h2.put (.slice vo j vc) (.int .u64 (T:Nat)) (.int .u64 (b:Nat))
    have z0:=XP.c0;have z1:=XP.c1;have z2:=XP.c2
    have HNW:=hide (NewB.least h1.newB (Nat.le_succ w.heap.size))
    have Q:=hide (((q1.far h1.newB (show w.heap.size < w.heap.size+1 by omega) 0 (.slice vo j vc)).far h1.newB (show w.heap.size < w.heap.size+1 by omega) 1 (.int .u64 (T:Nat))).far h1.newB (show w.heap.size < w.heap.size+1 by omega) 2 (.int .u64 (b:Nat)))
    have BP:=hide (below_put3 h3 (Nat.le_refl _) (.slice vo j vc) (.int .u64 (T:Nat)) (.int .u64 (b:Nat)))
    clear hS h1 q1 XP h2 h3 hb KY
    go_wp2_with fail
    exact bodyPost_ret (v:=.tuple #[.agg #[.slice vo j vc,.int .u64 (T:Nat),.int .u64 (b:Nat)],.bool true]) (by simp [results,Tryz.results27,go_sem,z0,z1,z2]) rfl ⟨vo,vc,rfl,uH HNW,uH Q,uH BP⟩
end Go.Proofs.YtfkndkaneffgdaaGreatDoor
namespace Go.Proofs.YtfkndkaneffgdaaGreatDoor
open Go.RowKit
theorem toN_cons {I:List Int} (h:1≤I.length):toN I = atB I 0 :: (toN I).drop 1:=by
 have h1:0 < (toN I).length:=by rw [toN_len];omega
 have:=List.drop_eq_getElem_cons h1
 rw [List.drop_zero] at this
 rw [this]
 congr 1
 have e:=toN_at I 0 (by omega)
 rw [List.getElem?_eq_getElem h1] at e
 exact Option.some.inj e
theorem drop_getD (I:List Int) {j:Nat} (h:j+1 < I.length):((toN I).drop 1).getD j 0 = atB I (j+1):=by
 rw [List.getD_eq_getElem?_getD,List.getElem?_drop,Nat.add_comm 1 j,toN_at I (j+1) h]
 rfl
theorem mr_mkJ {I:List Int} (h:1≤I.length) (k:Nat→Nat) (hk:∀ x,(if ngt ((toN I).drop 1) = true then 0 else dV x (hmD (atB I 0) ((toN I).drop 1))) = k x):mrV (toN I) = mkJ (fun j=>k (atB I (j+1))) I.length:=by
 have hl:((toN I).drop 1).length = I.length - 1:=by rw [List.length_drop,toN_len]
 rw [toN_cons h]
 show 4607182418800017408 :: ((toN I).drop 1).map (fun x=>if ngt ((toN I).drop 1) = true then 0 else dV x (hmD (atB I 0) ((toN I).drop 1))) = 4607182418800017408 :: fsL (fun j=>k (atB I (j+1))) (I.length - 1)
 congr 1
 rw [List.map_congr_left (g:=k) (fun x _=>hk x),list_range ((toN I).drop 1),List.map_map,hl]
 unfold fsL
 refine List.map_congr_left (fun j hj=>?_)
 show k (((toN I).drop 1).getD j 0) = _
 rw [drop_getD I (by have:=List.mem_range.1 hj;omega)]
theorem mk_facts {I:List Int} (h:1≤I.length):mrB (toN I) = (if ngt ((toN I).drop 1) = true then atB I 0 else hmB (atB I 0) ((toN I).drop 1))∧mrT (toN I) = (if ngt ((toN I).drop 1) = true then 0 else dV (aV (hmB (atB I 0) ((toN I).drop 1)) (fN (atB I 0))) (hmB (atB I 0) ((toN I).drop 1)))∧mrK (toN I) = (ngt ((toN I).drop 1) || (fFin (hmB (atB I 0) ((toN I).drop 1)) && fFin (hmD (atB I 0) ((toN I).drop 1)))):=by
 have e:=toN_cons h
 refine ⟨?_,?_,?_⟩
 ·conv=>lhs;rw [e]
  rfl
 ·conv=>lhs;rw [e]
  rfl
 ·conv=>lhs;rw [e]
  rfl
theorem ngt_all {I:List Int} (h:1≤I.length) (hn:ngt ((toN I).drop 1) = false):ngt (toN I) = false:=by
 rw [toN_cons h]
 show (decide (fK (atB I 0) = 0) && ngt ((toN I).drop 1)) = false
 rw [hn,Bool.and_false]
theorem cells_of {w:World} {ao:Option Addr} {c:Nat} {I:List Int} (hI:BitsAt w ao c I) (h:1≤I.length) (w':World) (hb:Below w.heap.size w w'):∃ b off,ao = some ⟨b,off,none⟩∧∀ j,j < I.length→w'.cell? ⟨b,off+j,none⟩ = some (.int .u64 (atB I j:Nat)):=by
 obtain ⟨b,off,e1,_,e3⟩:=(hI.below hb).ne (by omega)
 exact ⟨b,off,e1,e3⟩
theorem rmake13_new (ao:Option Addr) (c:Nat) (I:List Int) (w:World) (hI:BitsAt w ao c I) (h1:1≤I.length) (h2:I.length≤64) (hk:mrK (toN I) = true) :
  Calls Tryz.prog 27 #[.slice ao I.length c] w fun e w'=>∃ vo vc,e = .returned (.tuple #[.agg #[.slice vo I.length vc,.int .u64 (mrT (toN I):Nat),.int .u64 (mrB (toN I):Nat)],.bool true])∧NewB w.heap.size vo (mxL (mrV (toN I)))∧BitsAt w' vo vc (mxL (mrV (toN I)))∧Below w.heap.size w w':=by
 obtain ⟨eB,eT,eK⟩:=mk_facts h1
 have N1:=fun w' (hb:Below w.heap.size w w')=>rnoughts13_any ao c I w' (hI.below hb) h2
 cases hn:ngt ((toN I).drop 1)
 ·rw [hn] at N1
  rw [hn,if_neg (by decide)] at eB eT
  rw [hk,hn,Bool.false_or] at eK
  obtain ⟨f1,f2⟩:=Bool.and_eq_true_iff.1 eK.symm
  rw [mr_mkJ h1 (fun x=>dV x (hmD (atB I 0) ((toN I).drop 1))) (fun x=>if_neg (by rw [hn];decide)),eB,eT]
  have la:=hI.lt 0
  have lB:=hmB_lt (atB I 0) ((toN I).drop 1)
  have lD:=hmD_lt (atB I 0) ((toN I).drop 1) la
  refine rmake13_ok ao I.length c (nrV (toN I)) (fN (nrV (toN I))) (hmB (atB I 0) ((toN I).drop 1)) (hmD (atB I 0) ((toN I).drop 1)) (aV (hmB (atB I 0) ((toN I).drop 1)) (fN (atB I 0))) _ (ldS (toN I)) true true (fun j=>atB I j) (fun j=>dV (atB I (j+1)) (hmD (atB I 0) ((toN I).drop 1))) w h1 h2 rfl rfl (fun j _=>dV_lt _ _) (cells_of hI h1) N1 (fun w' hb=>?_) (fun w' hb=>rlead13_any ao c I w' (hI.below hb) h2 (ngt_all h1 hn)) (fun w' p hs=>?_) (fun w'=>rminus4_any _ w' (nrV_lt _)) ?_ (fun w'=>r9sub_any _ _ w' la lB) (fun w'=>?_) (fun w'=>?_) (fun j hj1 hj w'=>?_) (fun w'=>r9sub_any _ _ w' lB la) (fun w'=>r9div_any _ _ w' (aV_lt _ _ lB (fN_lt _ la)) lB)
  ·have:=r9norm_any ao c I w' (hI.below hb) (by omega)
   rwa [nmV_nrV] at this
  ·have:=rneg4_any (atB I p) w' (hI.lt p)
   rwa [hs] at this
  ·have e:hmB (atB I 0) ((toN I).drop 1) = if ldS (toN I) = true then nrV (toN I) else fN (nrV (toN I)):=by
    unfold hmB
    rw [← toN_cons h1]
   rw [e]
   cases hl:ldS (toN I)
   ·exact .inr ⟨rfl,rfl⟩
   ·exact .inl ⟨rfl,rfl⟩
  ·have:=rfinite_any (hmB (atB I 0) ((toN I).drop 1)) w' lB
   rwa [f1] at this
  ·have:=rfinite_any (hmD (atB I 0) ((toN I).drop 1)) w' lD
   rwa [f2] at this
  ·have:=r9div_any (atB I j) (hmD (atB I 0) ((toN I).drop 1)) w' (hI.lt j) lD
   rw [show j - 1+1 = j by omega]
   exact this
 ·rw [hn] at N1
  rw [if_pos hn] at eB eT
  rw [mr_mkJ h1 (fun _=>0) (fun x=>if_pos hn),eB,eT]
  refine rmake13_noughts ao I.length c (atB I 0) w h1 h2 (fun w' hb=>?_) N1
  obtain ⟨b,off,e1,e2⟩:=cells_of hI h1 w' hb
  exact ⟨b,off,e1,e2 0 (by omega)⟩
theorem rmake13_no (ao:Option Addr) (c:Nat) (I:List Int) (w:World) (hI:BitsAt w ao c I) (h1:1≤I.length) (h2:I.length≤64) (hk:mrK (toN I) = false) :
  Calls Tryz.prog 27 #[.slice ao I.length c] w fun e w'=>e = .returned (.tuple #[.agg #[.slice none 0 0,.int .u64 0,.int .u64 0],.bool false])∧Below w.heap.size w w':=by
 obtain ⟨_,_,eK⟩:=mk_facts h1
 have N1:=fun w' (hb:Below w.heap.size w w')=>rnoughts13_any ao c I w' (hI.below hb) h2
 rw [hk] at eK
 obtain ⟨hn,hf⟩:=Bool.or_eq_false_iff.1 eK.symm
 rw [hn] at N1
 have la:=hI.lt 0
 have lB:=hmB_lt (atB I 0) ((toN I).drop 1)
 have lD:=hmD_lt (atB I 0) ((toN I).drop 1) la
 refine rmake13_bad ao I.length c (nrV (toN I)) (fN (nrV (toN I))) (hmB (atB I 0) ((toN I).drop 1)) (hmD (atB I 0) ((toN I).drop 1)) (ldS (toN I)) (fFin (hmB (atB I 0) ((toN I).drop 1))) (fFin (hmD (atB I 0) ((toN I).drop 1))) (fun j=>atB I j) w h1 h2 ?_ (cells_of hI h1) N1 (fun w' hb=>?_) (fun w' hb=>rlead13_any ao c I w' (hI.below hb) h2 (ngt_all h1 hn)) (fun w' p hs=>?_) (fun w'=>rminus4_any _ w' (nrV_lt _)) ?_ (fun w'=>r9sub_any _ _ w' la lB) (fun w'=>rfinite_any _ w' lB) (fun w'=>rfinite_any _ w' lD)
 ·cases g1:fFin (hmB (atB I 0) ((toN I).drop 1))
  ·exact .inl rfl
  ·cases g2:fFin (hmD (atB I 0) ((toN I).drop 1))
   ·exact .inr ⟨rfl,rfl⟩
   ·rw [g1,g2] at hf;cases hf
 ·have:=r9norm_any ao c I w' (hI.below hb) (by omega)
  rwa [nmV_nrV] at this
 ·have:=rneg4_any (atB I p) w' (hI.lt p)
  rwa [hs] at this
 ·have e:hmB (atB I 0) ((toN I).drop 1) = if ldS (toN I) = true then nrV (toN I) else fN (nrV (toN I)):=by
   unfold hmB
   rw [← toN_cons h1]
  rw [e]
  cases hl:ldS (toN I)
  ·exact .inr ⟨rfl,rfl⟩
  ·exact .inl ⟨rfl,rfl⟩
end Go.Proofs.YtfkndkaneffgdaaGreatDoor
namespace Go.Proofs.YtfkndkaneffgdaaGreatDoor
open Go.RowKit
attribute [local go_sem ↓] Go.wp_at_zero Go.wp_at_succ
set_option maxRecDepth 20000 in
set_option maxHeartbeats 4000000 in
theorem rcolF_any (r c cap k f:Nat) (ao:Option Addr) (S:List Nat) (w:World) (h:Mx w ao cap r c S) (hk:k < c) (hf:f≤r) :
  Calls Tryz.prog 26 #[.agg #[.int .i64 r,.int .i64 c,.slice ao S.length cap],.int .i64 k,.int .i64 f] w fun e w'=>∃ bo d,e = .returned (.slice bo (r - f) d)∧BitsAt w' bo d (mxL (colL c S f (r - f) k))∧Below w.heap.size w w':=by
 have HH:=hide h
 have r6:=h.2.2.1
 have s0:=size_alloc9 w (.cells #[.int .i64 r,.int .i64 c,.slice ao S.length cap] 24)
 have b0:=below_alloc9 w (.cells #[.int .i64 r,.int .i64 c,.slice ao S.length cap] 24)
 have X0:=BoxM.new w (.int .i64 r) (.int .i64 c) (.slice ao S.length cap)
 have b1:=below_alloc9 (w.alloc (.cells #[.int .i64 r,.int .i64 c,.slice ao S.length cap] 24)) (.cells #[] 30)
 have O0:=OwnB.nil (w.alloc (.cells #[.int .i64 r,.int .i64 c,.slice ao S.length cap] 24)) (w.heap.size+1) (by rw [s0];omega)
 rw [s0] at O0
 have HO:=hide O0;have HX:=hide (X0.all b1);have HB:=hide (b0.trans (b1.mono b0.size))
 obtain ⟨l,hl⟩:∃ l,S.length = l:=⟨_,rfl⟩
 rw [hl] at HX HB HO
 rw [hl]
 have HLL:=hide hl
 clear h s0 b0 X0 b1 O0 hl
 go_enter Tryz.func26,Tryz.ntmps26
 go_wp2_with fail
 go_loopw [7,8] (fun v i wr=>∃ j:Nat,f≤j∧j≤r∧i = .int .i64 j∧Hid (OwnB (w.heap.size+1) wr v (fsL (fun t=>elM c S (f+t) k) (j - f)))∧Hid (BoxM wr w.heap.size (.int .i64 r) (.int .i64 c) (.slice ao l cap))∧Hid (Below w.heap.size w wr)) (fun _ i _=>r - (intOf i).toNat)
 case atStart=>exact ⟨f,Nat.le_refl _,hf,rfl,by rw [Nat.sub_self];exact HO,HX,HB⟩
 case round =>
  clear HO HX HB
  obtain ⟨j,hfj,hj,rfl,hO,hX,hB⟩:=hrel
  have t0:=(uH hX).c0;have t1:=(uH hX).c1;have t2:=(uH hX).c2
  by_cases hlt:j < r
  ·have hjI:(j:Int) < (r:Int):=by omega
   have C:=hide (fun w' (m:Mx w' ao cap r c S)=>rat_any r c cap j k ao S w' m hlt hk)
   rw [uH HLL] at C
   have HM:=hide ((uH HH).below hB.out)
   have ho:=hide ((uH HH).el_lt j k)
   have hlen:=hide (show (fsL (fun t=>elM c S (f+t) k) (j - f)).length≤1000000 from by rw [fsL_len];omega)
   have eS:=hide (show fsL (fun t=>elM c S (f+t) k) (j+1 - f) = fsL (fun t=>elM c S (f+t) k) (j - f) ++ [elM c S j k] from by rw [show j+1 - f = j - f+1 by omega,fsL_succ,show f+(j - f) = j by omega])
   generalize elM c S j k = o at *
   go_wp2_with fail
   refine (uH C _ (uH HM)).mono ?_
   rintro e w2 ⟨rfl,hb2⟩
   have own2:=(uH hO).below hb2
   have box2:=(uH hX).all hb2
   have B2:=hB.out.trans (hb2.mono hB.out.size)
   obtain ⟨v3,w3,run3,own3,bel3,_,_⟩:=own2.push o (uH ho) (uH hlen) (by have:=box2.lt;omega) 22
   have RUN:=hide run3
   have O3:=hide (show OwnB (w.heap.size+1) w3 v3 (fsL (fun t=>elM c S (f+t) k) (j+1 - f)) from by rw [uH eS];exact own3)
   have X3:=hide (box2.below bel3 (by omega))
   have B3:=hide (B2.trans (bel3.mono (by omega)))
   clear hb2 C hO hX hB own2 box2 B2 run3 own3 bel3 ho hlen eS HM t0 t1 t2
   go_wp2_with (at_builtin;refine wpList_append_ran _ rfl _ _ 22 rfl _ _ _ _ rfl rfl (uH RUN) ?_;clear RUN)
   go_round
   case rel=>exact ⟨j+1,by omega,by omega,by go_num,O3,X3,B3⟩
   case measure=>simp [intOf];omega
  ·have hjj:r = j:=by omega
   subst hjj
   obtain ⟨b1,d1,e1,q1⟩:=(uH hO).bits
   rw [fsL_len] at e1
   subst e1
   have Q1:=hide q1
   clear q1 hO
   go_wp2_with fail
   go_ret
   exact ⟨b1,d1,rfl,uH Q1,hB.out⟩
end Go.Proofs.YtfkndkaneffgdaaGreatDoor
