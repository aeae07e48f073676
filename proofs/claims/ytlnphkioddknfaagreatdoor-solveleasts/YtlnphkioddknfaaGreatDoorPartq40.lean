/- Part 40 of the texts. -/
import Derived.Test.YtlnphkioddknfaaGreatDoorPartq35
import Derived.Test.YtlnphkioddknfaaGreatDoorPartq31
import Derived.Test.YtlnphkioddknfaaGreatDoorPartq32
import Derived.Test.YtlnphkioddknfaaGreatDoorPartq16
import Derived.Test.YtlnphkioddknfaaGreatDoorPartq17
import Derived.Test.YtlnphkioddknfaaGreatDoorPartq18
import Derived.Deep.Cut
import Derived.BigQuiet
import Derived.Test.YtlnphkioddknfaaGreatDoorPartq33
import Derived.Test.YtlnphkioddknfaaGreatDoorPartq05
import Derived.Maps.AppendAt
import Derived.Test.YtlnphkioddknfaaGreatDoorPartq09
import Derived.Lib.BitFns
import Derived.Test.YtlnphkioddknfaaGreatDoorPartq08
import Derived.Test.YtlnphkioddknfaaGreatDoorPartq07
import Derived.Test.YtlnphkioddknfaaGreatDoorPartq10
import Derived.Maps.Own
import Derived.Maps.OwnOps
import Derived.Maps.OwnSet
import Derived.DeepKeys4
import Derived.WalkSmall
import Derived.Test.YtlnphkioddknfaaGreatDoorPartq01
import Derived.OwnWalk
import Derived.Test.YtlnphkioddknfaaGreatDoorPartq02
import Derived.Test.YtlnphkioddknfaaGreatDoorPartq39
import Derived.Test.YtlnphkioddknfaaGreatDoorPartq37
set_option maxHeartbeats 16000000
set_option maxRecDepth 20000
namespace Go.Proofs.YtlnphkioddknfaaGreatDoor
open Go.RowKit
attribute [local go_sem ↓] Go.wp_at_zero Go.wp_at_succ
def HmSt (w wr:World) (v:Value) (S:List Nat):Prop:=OwnB (w.heap.size+1) wr v S∧BoxT 150 wr w.heap.size (.slice none 0 0) (.int .u64 0) (.int .u64 0)∧Below w.heap.size w wr
theorem HmSt.all {w wr w':World} {v:Value} {S:List Nat} (h:HmSt w wr v S) (hb:Below wr.heap.size wr w'):HmSt w w' v S:=⟨h.1.below hb,h.2.1.all hb,h.2.2.trans (hb.mono h.2.2.size)⟩
theorem HmSt.push {w wr:World} {v:Value} {S:List Nat} (h:HmSt w wr v S) (x:Nat) (hx:x < 18446744073709551616) (hl:S.length≤1000000) (ty:TypeId) :
  ∃ v' w',(Builtin.append_ #[22,22] ty #[v,.slice (some ⟨wr.heap.size,0,none⟩) 1 1]).run Tryz.prog (wr.alloc (.cells #[.int .u64 (x:Int)] 37)) = .ok v' w'∧HmSt w w' v' (S ++ [x]):=by
 obtain ⟨h1,h2,h3⟩:=h
 obtain ⟨v',w',e1,e2,e3,_⟩:=h1.push x hx hl (by have:=h2.lt;omega) ty
 exact ⟨v',w',e1,e2,h2.below e3 (by omega),h3.trans (e3.mono (by omega))⟩
theorem HmSt.start (w:World):HmSt w ((w.alloc (.cells #[.slice none 0 0,.int .u64 0,.int .u64 0] 150)).alloc (.cells #[.int .u64 4607182418800017408] 37)) (.slice (some ⟨w.heap.size+1,0,none⟩) 1 1) [4607182418800017408]:=by
 have b0:=below_alloc9 w (.cells #[.slice none 0 0,.int .u64 0,.int .u64 0] 150)
 have s0:=size_alloc9 w (.cells #[.slice none 0 0,.int .u64 0,.int .u64 0] 150)
 have x0:=BoxT.new 150 w (.slice none 0 0) (.int .u64 0) (.int .u64 0)
 generalize w.alloc (.cells #[.slice none 0 0,.int .u64 0,.int .u64 0] 150) = w0 at *
 have b1:=below_alloc9 w0 (.cells #[.int .u64 4607182418800017408] 37)
 have r1:(w0.alloc (.cells #[.int .u64 4607182418800017408] 37)).heap[w0.heap.size]? = some (.cells #[.int .u64 4607182418800017408] 37 (0,0)):=heap_alloc_new w0 _
 rw [s0] at r1
 refine ⟨⟨⟨rfl,.inr ⟨w.heap.size+1,1,#[.int .u64 4607182418800017408],rfl,Nat.le_refl _,r1,Nat.le_refl _,by unfold maxLen;omega,rfl,rfl⟩⟩,fun x hx=>by simp at hx;subst hx;decide⟩,x0.all b1,b0.trans (b1.mono b0.size)⟩
def mkJ (g:Nat→Nat) (j:Nat):List Nat:=4607182418800017408 :: fsL g (j - 1)
theorem mkJ_1 (g:Nat→Nat):mkJ g 1 = [4607182418800017408]:=rfl
theorem mkJ_len (g:Nat→Nat) {j:Nat} (hj:1≤j):(mkJ g j).length = j:=by
 show (fsL g (j - 1)).length+1 = j
 rw [fsL_len]
 omega
theorem mkJ_succ (g:Nat→Nat) {j:Nat} (hj:1≤j):mkJ g (j+1) = mkJ g j ++ [g (j - 1)]:=by
 obtain ⟨i,rfl⟩:∃ i,j = i+1:=⟨j - 1,by omega⟩
 show 4607182418800017408 :: fsL g (i+1) = (4607182418800017408 :: fsL g i) ++ [g i]
 rw [fsL_succ]
 rfl
theorem rmake13_noughts (ao:Option Addr) (n c a:Nat) (w:World) (hn1:1≤n) (hn:n≤64)
  (X0:∀ w',Below w.heap.size w w'→∃ b off,ao = some ⟨b,off,none⟩∧w'.cell? ⟨b,off,none⟩ = some (.int .u64 (a:Nat)))
  (C1:∀ w',Below w.heap.size w w'→Calls Tryz.prog 195 #[.slice ao n c] w' fun e w''=>e = .returned (.bool true)∧Below w'.heap.size w' w'') :
  Calls Tryz.prog 154 #[.slice ao n c] w fun e w'=>∃ vo vc,e = .returned (.tuple #[.agg #[.slice vo n vc,.int .u64 0,.int .u64 (a:Nat)],.bool true])∧NewB w.heap.size vo (mxL (mkJ (fun _=>0) n))∧BitsAt w' vo vc (mxL (mkJ (fun _=>0) n))∧Below w.heap.size w w':=by
 have ST:=hide (HmSt.start w)
 have K1:=hide C1;have KX:=hide X0
 clear C1 X0
 have hnI:(1:Int)≤(n:Int):=by omega
 go_enter Tryz.func154,Tryz.ntmps154
 go_wp2_with fail
 refine (uH K1 _ (uH ST).2.2).mono ?_
 rintro e w1 ⟨rfl,hb⟩
 replace ST:=hide ((uH ST).all hb)
 clear hb K1
 go_wp2_with fail
 go_loopw [4,5] (fun v i wr=>∃ j:Nat,1≤j∧j≤n∧i = .int .i64 j∧Hid (HmSt w wr v (mkJ (fun _=>0) j))) (fun _ i _=>n - (intOf i).toNat)
 case atStart=>exact ⟨1,Nat.le_refl _,hn1,rfl,by rw [mkJ_1];exact ST⟩
 case round =>
  clear ST
  obtain ⟨j,hj1,hj,rfl,hS⟩:=hrel
  by_cases hlt:j < n
  ·have hjI:(j:Int) < (n:Int):=by omega
   obtain ⟨v3,w3,run3,st3⟩:=(uH hS).push 0 (by decide) (by rw [mkJ_len _ hj1];omega) 22
   have RUN:=hide run3
   have S3:=hide (show HmSt w w3 v3 (mkJ (fun _=>0) (j+1)) from by rw [mkJ_succ _ hj1];exact st3)
   clear run3 st3 hS
   go_wp2_with (at_builtin;refine wpList_append_ran _ rfl _ _ 22 rfl _ _ _ _ rfl rfl (uH RUN) ?_;clear RUN)
   go_round
   case rel=>exact ⟨j+1,by omega,by omega,by go_num,S3⟩
   case measure=>simp [intOf];omega
  ·have hjj:j = n:=by omega
   subst hjj
   obtain ⟨b,off,rfl,ca⟩:=uH KX _ (uH hS).2.2
   obtain ⟨h1,h2,h3⟩:=uH hS
   obtain ⟨vo,vc,e1,q1⟩:=h1.bits
   rw [mkJ_len _ hj1] at e1
   subst e1
   have r0:=h2.c0;have r1:=h2.c1;have r2:=h2.c2
   have f0:=h2.free 0;have f1:=h2.free 1;have f2:=h2.free 2
   have XP:=h2.put (.slice vo j vc) (.int .u64 0) (.int .u64 (a:Nat))
   have z0:=XP.c0;have z1:=XP.c1;have z2:=XP.c2
   have HNW:=hide (NewB.least h1.newB (Nat.le_succ w.heap.size))
   have Q:=hide (((q1.far h1.newB (show w.heap.size < w.heap.size+1 by omega) 0 (.slice vo j vc)).far h1.newB (show w.heap.size < w.heap.size+1 by omega) 1 (.int .u64 0)).far h1.newB (show w.heap.size < w.heap.size+1 by omega) 2 (.int .u64 (a:Nat)))
   have BP:=hide (below_put3 h3 (Nat.le_refl _) (.slice vo j vc) (.int .u64 0) (.int .u64 (a:Nat)))
   clear hS h1 q1 XP h2 h3
   go_wp2_with fail
   exact bodyPost_ret (v:=.tuple #[.agg #[.slice vo j vc,.int .u64 0,.int .u64 (a:Nat)],.bool true]) (by simp [results,Tryz.results154,go_sem,z0,z1,z2]) rfl ⟨vo,vc,rfl,uH HNW,uH Q,uH BP⟩
theorem rmake13_bad (ao:Option Addr) (n c b0 bm b d:Nat) (sg f1 f2:Bool) (X:Nat→Nat) (w:World) (hn1:1≤n) (hn:n≤64) (hf:f1 = false ∨ (f1 = true∧f2 = false))
  (X0:∀ w',Below w.heap.size w w'→∃ b off,ao = some ⟨b,off,none⟩∧∀ j,j < n→w'.cell? ⟨b,off+j,none⟩ = some (.int .u64 (X j:Nat)))
  (C1:∀ w',Below w.heap.size w w'→Calls Tryz.prog 195 #[.slice ao n c] w' fun e w''=>e = .returned (.bool false)∧Below w'.heap.size w' w'')
  (C2:∀ w',Below w.heap.size w w'→Calls Tryz.prog 196 #[.slice ao n c] w' fun e w''=>e = .returned (.int .u64 (b0:Nat))∧Below w'.heap.size w' w'')
  (C3:∀ w',Below w.heap.size w w'→Calls Tryz.prog 197 #[.slice ao n c] w' fun e w''=>∃ p:Nat,e = .returned (.int .i64 (p:Nat))∧p < n∧fS (X p) = sg∧Below w'.heap.size w' w'')
  (C4:∀ w' p,fS (X p) = sg→Calls Tryz.prog 120 #[.int .u64 (X p:Nat)] w' fun e w''=>e = .returned (.bool sg)∧w' = w'')
  (C5:∀ w',Calls Tryz.prog 121 #[.int .u64 b0] w' fun e w''=>e = .returned (.int .u64 (bm:Nat))∧w' = w'')
  (hb:(sg = true∧b = b0) ∨ (sg = false∧b = bm))
  (C6:∀ w',Calls Tryz.prog 49 #[.int .u64 (X 0:Nat),.int .u64 b] w' fun e w''=>e = .returned (.int .u64 (d:Nat))∧Below w'.heap.size w' w'')
  (C7:∀ w',Calls Tryz.prog 100 #[.int .u64 b] w' fun e w''=>e = .returned (.bool f1)∧w' = w'')
  (C8:∀ w',Calls Tryz.prog 100 #[.int .u64 d] w' fun e w''=>e = .returned (.bool f2)∧w' = w'') :
  Calls Tryz.prog 154 #[.slice ao n c] w fun e w'=>e = .returned (.tuple #[.agg #[.slice none 0 0,.int .u64 0,.int .u64 0],.bool false])∧Below w.heap.size w w':=by
 have ST:=hide (HmSt.start w)
 have KX:=hide X0;have K1:=hide C1;have K2:=hide C2;have K3:=hide C3;have K4:=hide C4;have K5:=hide C5;have K6:=hide C6;have K7:=hide C7;have K8:=hide C8
 clear X0 C1 C2 C3 C4 C5 C6 C7 C8
 have hnI:(1:Int)≤(n:Int):=by omega
 rcases hb with ⟨rfl,rfl⟩ | ⟨rfl,rfl⟩
 ·go_enter Tryz.func154,Tryz.ntmps154
  go_wp2_with fail
  refine (uH K1 _ (uH ST).2.2).mono ?_
  rintro e w1 ⟨rfl,hb⟩
  replace ST:=hide ((uH ST).all hb)
  clear hb K1
  go_wp2_with fail
  refine (uH K2 _ (uH ST).2.2).mono ?_
  rintro e w2 ⟨rfl,hb⟩
  replace ST:=hide ((uH ST).all hb)
  clear hb K2
  go_wp2_with fail
  refine (uH K3 _ (uH ST).2.2).mono ?_
  rintro e w3 ⟨p,rfl,hp,hs,hb⟩
  replace ST:=hide ((uH ST).all hb)
  obtain ⟨bb,off,rfl,hcs⟩:=uH KX _ (uH ST).2.2
  have cp:=hcs p hp
  have K4':=hide (fun w'=>uH K4 w' p hs)
  have hpI:(p:Int) < (n:Int):=by omega
  generalize X p = x at *
  clear hb K3 hcs hs K4
  go_wp2_with fail
  refine (uH K4' _).mono ?_
  rintro e w4 ⟨rfl,rfl⟩
  clear K4' cp
  obtain ⟨bb',off',ee,hcs⟩:=uH KX _ (uH ST).2.2
  simp only [Option.some.injEq,Addr.mk.injEq] at ee
  obtain ⟨rfl,rfl,_⟩:=ee
  have c0:=hcs 0 (by omega)
  rw [Nat.add_zero] at c0
  clear hcs
  generalize hX0:X 0 = a at *
  go_wp2_with fail
  refine (uH K6 _).mono ?_
  rintro e w5 ⟨rfl,hb⟩
  replace ST:=hide ((uH ST).all hb)
  clear hb K6 c0
  go_wp2_with fail
  refine (uH K7 _).mono ?_
  rintro e w6 ⟨rfl,rfl⟩
  rcases hf with rfl | ⟨rfl,rfl⟩
  ·obtain ⟨h1,h2,h3⟩:=uH ST
   have r0:=h2.c0;have r1:=h2.c1;have r2:=h2.c2
   have f0:=h2.free 0;have f1':=h2.free 1;have f2':=h2.free 2
   have XP:=h2.put (.slice none 0 0) (.int .u64 0) (.int .u64 0)
   have z0:=XP.c0;have z1:=XP.c1;have z2:=XP.c2
   have BP:=hide (below_put3 h3 (Nat.le_refl _) (.slice none 0 0) (.int .u64 0) (.int .u64 0))
   clear h1 h2 h3 XP ST
   go_wp2_with fail
   exact bodyPost_ret (v:=.tuple #[.agg #[.slice none 0 0,.int .u64 0,.int .u64 0],.bool false]) (by simp [results,Tryz.results154,go_sem,z0,z1,z2]) rfl ⟨rfl,uH BP⟩
  ·go_wp2_with fail
   refine (uH K8 _).mono ?_
   rintro e w6 ⟨rfl,rfl⟩
   obtain ⟨h1,h2,h3⟩:=uH ST
   have r0:=h2.c0;have r1:=h2.c1;have r2:=h2.c2
   have f0:=h2.free 0;have f1':=h2.free 1;have f2':=h2.free 2
   have XP:=h2.put (.slice none 0 0) (.int .u64 0) (.int .u64 0)
   have z0:=XP.c0;have z1:=XP.c1;have z2:=XP.c2
   have BP:=hide (below_put3 h3 (Nat.le_refl _) (.slice none 0 0) (.int .u64 0) (.int .u64 0))
   clear h1 h2 h3 XP ST
   go_wp2_with fail
   exact bodyPost_ret (v:=.tuple #[.agg #[.slice none 0 0,.int .u64 0,.int .u64 0],.bool false]) (by simp [results,Tryz.results154,go_sem,z0,z1,z2]) rfl ⟨rfl,uH BP⟩
 ·go_enter Tryz.func154,Tryz.ntmps154
  go_wp2_with fail
  refine (uH K1 _ (uH ST).2.2).mono ?_
  rintro e w1 ⟨rfl,hb⟩
  replace ST:=hide ((uH ST).all hb)
  clear hb K1
  go_wp2_with fail
  refine (uH K2 _ (uH ST).2.2).mono ?_
  rintro e w2 ⟨rfl,hb⟩
  replace ST:=hide ((uH ST).all hb)
  clear hb K2
  go_wp2_with fail
  refine (uH K3 _ (uH ST).2.2).mono ?_
  rintro e w3 ⟨p,rfl,hp,hs,hb⟩
  replace ST:=hide ((uH ST).all hb)
  obtain ⟨bb,off,rfl,hcs⟩:=uH KX _ (uH ST).2.2
  have cp:=hcs p hp
  have K4':=hide (fun w'=>uH K4 w' p hs)
  have hpI:(p:Int) < (n:Int):=by omega
  generalize X p = x at *
  clear hb K3 hcs hs K4
  go_wp2_with fail
  refine (uH K4' _).mono ?_
  rintro e w4 ⟨rfl,rfl⟩
  clear K4' cp
  go_wp2_with fail
  refine (uH K5 _).mono ?_
  rintro e w4 ⟨rfl,rfl⟩
  obtain ⟨bb',off',ee,hcs⟩:=uH KX _ (uH ST).2.2
  simp only [Option.some.injEq,Addr.mk.injEq] at ee
  obtain ⟨rfl,rfl,_⟩:=ee
  have c0:=hcs 0 (by omega)
  rw [Nat.add_zero] at c0
  clear hcs
  generalize hX0:X 0 = a at *
  go_wp2_with fail
  refine (uH K6 _).mono ?_
  rintro e w5 ⟨rfl,hb⟩
  replace ST:=hide ((uH ST).all hb)
  clear hb K6 c0
  go_wp2_with fail
  refine (uH K7 _).mono ?_
  rintro e w6 ⟨rfl,rfl⟩
  rcases hf with rfl | ⟨rfl,rfl⟩
  ·obtain ⟨h1,h2,h3⟩:=uH ST
   have r0:=h2.c0;have r1:=h2.c1;have r2:=h2.c2
   have f0:=h2.free 0;have f1':=h2.free 1;have f2':=h2.free 2
   have XP:=h2.put (.slice none 0 0) (.int .u64 0) (.int .u64 0)
   have z0:=XP.c0;have z1:=XP.c1;have z2:=XP.c2
   have BP:=hide (below_put3 h3 (Nat.le_refl _) (.slice none 0 0) (.int .u64 0) (.int .u64 0))
   clear h1 h2 h3 XP ST
   go_wp2_with fail
   exact bodyPost_ret (v:=.tuple #[.agg #[.slice none 0 0,.int .u64 0,.int .u64 0],.bool false]) (by simp [results,Tryz.results154,go_sem,z0,z1,z2]) rfl ⟨rfl,uH BP⟩
  ·go_wp2_with fail
   refine (uH K8 _).mono ?_
   rintro e w6 ⟨rfl,rfl⟩
   obtain ⟨h1,h2,h3⟩:=uH ST
   have r0:=h2.c0;have r1:=h2.c1;have r2:=h2.c2
   have f0:=h2.free 0;have f1':=h2.free 1;have f2':=h2.free 2
   have XP:=h2.put (.slice none 0 0) (.int .u64 0) (.int .u64 0)
   have z0:=XP.c0;have z1:=XP.c1;have z2:=XP.c2
   have BP:=hide (below_put3 h3 (Nat.le_refl _) (.slice none 0 0) (.int .u64 0) (.int .u64 0))
   clear h1 h2 h3 XP ST
   go_wp2_with fail
   exact bodyPost_ret (v:=.tuple #[.agg #[.slice none 0 0,.int .u64 0,.int .u64 0],.bool false]) (by simp [results,Tryz.results154,go_sem,z0,z1,z2]) rfl ⟨rfl,uH BP⟩
theorem rmake13_ok (ao:Option Addr) (n c b0 bm b d e0 T:Nat) (sg f1 f2:Bool) (X g:Nat→Nat) (w:World) (hn1:1≤n) (hn:n≤64) (hf1:f1 = true) (hf2:f2 = true) (hg:∀ j,j+1 < n→g j < 18446744073709551616)
  (X0:∀ w',Below w.heap.size w w'→∃ b off,ao = some ⟨b,off,none⟩∧∀ j,j < n→w'.cell? ⟨b,off+j,none⟩ = some (.int .u64 (X j:Nat)))
  (C1:∀ w',Below w.heap.size w w'→Calls Tryz.prog 195 #[.slice ao n c] w' fun e w''=>e = .returned (.bool false)∧Below w'.heap.size w' w'')
  (C2:∀ w',Below w.heap.size w w'→Calls Tryz.prog 196 #[.slice ao n c] w' fun e w''=>e = .returned (.int .u64 (b0:Nat))∧Below w'.heap.size w' w'')
  (C3:∀ w',Below w.heap.size w w'→Calls Tryz.prog 197 #[.slice ao n c] w' fun e w''=>∃ p:Nat,e = .returned (.int .i64 (p:Nat))∧p < n∧fS (X p) = sg∧Below w'.heap.size w' w'')
  (C4:∀ w' p,fS (X p) = sg→Calls Tryz.prog 120 #[.int .u64 (X p:Nat)] w' fun e w''=>e = .returned (.bool sg)∧w' = w'')
  (C5:∀ w',Calls Tryz.prog 121 #[.int .u64 b0] w' fun e w''=>e = .returned (.int .u64 (bm:Nat))∧w' = w'')
  (hb:(sg = true∧b = b0) ∨ (sg = false∧b = bm))
  (C6:∀ w',Calls Tryz.prog 49 #[.int .u64 (X 0:Nat),.int .u64 b] w' fun e w''=>e = .returned (.int .u64 (d:Nat))∧Below w'.heap.size w' w'')
  (C7:∀ w',Calls Tryz.prog 100 #[.int .u64 b] w' fun e w''=>e = .returned (.bool f1)∧w' = w'')
  (C8:∀ w',Calls Tryz.prog 100 #[.int .u64 d] w' fun e w''=>e = .returned (.bool f2)∧w' = w'')
  (C9:∀ j,1≤j→j < n→∀ w',Calls Tryz.prog 52 #[.int .u64 (X j:Nat),.int .u64 d] w' fun e w''=>e = .returned (.int .u64 (g (j - 1):Nat))∧Below w'.heap.size w' w'')
  (CX:∀ w',Calls Tryz.prog 49 #[.int .u64 b,.int .u64 (X 0:Nat)] w' fun e w''=>e = .returned (.int .u64 (e0:Nat))∧Below w'.heap.size w' w'')
  (CY:∀ w',Calls Tryz.prog 52 #[.int .u64 e0,.int .u64 b] w' fun e w''=>e = .returned (.int .u64 (T:Nat))∧Below w'.heap.size w' w'') :
  Calls Tryz.prog 154 #[.slice ao n c] w fun e w'=>∃ vo vc,e = .returned (.tuple #[.agg #[.slice vo n vc,.int .u64 (T:Nat),.int .u64 (b:Nat)],.bool true])∧NewB w.heap.size vo (mxL (mkJ g n))∧BitsAt w' vo vc (mxL (mkJ g n))∧Below w.heap.size w w':=by
 subst hf1 hf2
 have ST:=hide (HmSt.start w)
 have KX:=hide X0;have K1:=hide C1;have K2:=hide C2;have K3:=hide C3;have K4:=hide C4;have K5:=hide C5;have K6:=hide C6;have K7:=hide C7;have K8:=hide C8
 clear X0 C1 C2 C3 C4 C5 C6 C7 C8
 have hnI:(1:Int)≤(n:Int):=by omega
 have K9:=hide C9;have KX2:=hide CX;have KY:=hide CY;have HG:=hide hg
 clear C9 CX CY hg
 rcases hb with ⟨rfl,rfl⟩ | ⟨rfl,rfl⟩
 ·go_enter Tryz.func154,Tryz.ntmps154
  go_wp2_with fail
  refine (uH K1 _ (uH ST).2.2).mono ?_
  rintro e w1 ⟨rfl,hb⟩
  replace ST:=hide ((uH ST).all hb)
  clear hb K1
  go_wp2_with fail
  refine (uH K2 _ (uH ST).2.2).mono ?_
  rintro e w2 ⟨rfl,hb⟩
  replace ST:=hide ((uH ST).all hb)
  clear hb K2
  go_wp2_with fail
  refine (uH K3 _ (uH ST).2.2).mono ?_
  rintro e w3 ⟨p,rfl,hp,hs,hb⟩
  replace ST:=hide ((uH ST).all hb)
  obtain ⟨bb,off,rfl,hcs⟩:=uH KX _ (uH ST).2.2
  have cp:=hcs p hp
  have K4':=hide (fun w'=>uH K4 w' p hs)
  have hpI:(p:Int) < (n:Int):=by omega
  generalize X p = x at *
  clear hb K3 hcs hs K4
  go_wp2_with fail
  refine (uH K4' _).mono ?_
  rintro e w4 ⟨rfl,rfl⟩
  clear K4' cp
  obtain ⟨bb',off',ee,hcs⟩:=uH KX _ (uH ST).2.2
  simp only [Option.some.injEq,Addr.mk.injEq] at ee
  obtain ⟨rfl,rfl,_⟩:=ee
  have c0:=hcs 0 (by omega)
  rw [Nat.add_zero] at c0
  clear hcs
  generalize hX0:X 0 = a at *
  go_wp2_with fail
  refine (uH K6 _).mono ?_
  rintro e w5 ⟨rfl,hb⟩
  replace ST:=hide ((uH ST).all hb)
  clear hb K6 c0
  go_wp2_with fail
  refine (uH K7 _).mono ?_
  rintro e w6 ⟨rfl,rfl⟩
  go_wp2_with fail
  refine (uH K8 _).mono ?_
  rintro e w6 ⟨rfl,rfl⟩
  go_wp2_with fail
  go_loopw [4,8] (fun v i wr=>∃ j:Nat,1≤j∧j≤n∧i = .int .i64 j∧Hid (HmSt w wr v (mkJ g j))) (fun _ i _=>n - (intOf i).toNat)
  case atStart=>exact ⟨1,Nat.le_refl _,hn1,rfl,by rw [mkJ_1];exact ST⟩
  case round =>
   clear ST
   obtain ⟨j,hj1,hj,rfl,hS⟩:=hrel
   obtain ⟨bb',off',ee,hcs⟩:=uH KX _ (uH hS).2.2
   simp only [Option.some.injEq,Addr.mk.injEq] at ee
   obtain ⟨rfl,rfl,_⟩:=ee
   by_cases hlt:j < n
   ·have hjI:(j:Int) < (n:Int):=by omega
    have cj:=hcs j hlt
    have KD:=hide (uH K9 j hj1 hlt)
    have GL:=hide (uH HG (j - 1) (by omega))
    have GS:=hide (mkJ_succ g hj1)
    generalize g (j - 1) = o at *
    generalize X j = xj at *
    clear hcs
    go_wp2_with fail
    refine (uH KD _).mono ?_
    rintro e w7 ⟨rfl,hb⟩
    obtain ⟨v3,w8,run3,st3⟩:=((uH hS).all hb).push o (uH GL) (by rw [mkJ_len _ hj1];omega) 22
    have RUN:=hide run3
    have S3:=hide (show HmSt w w8 v3 (mkJ g (j+1)) from by rw [uH GS];exact st3)
    clear run3 st3 hS hb cj KD
    go_wp2_with (at_builtin;refine wpList_append_ran _ rfl _ _ 22 rfl _ _ _ _ rfl rfl (uH RUN) ?_;clear RUN)
    go_round
    case rel=>exact ⟨j+1,by omega,by omega,by go_num,S3⟩
    case measure=>simp [intOf];omega
   ·have hjj:j = n:=by omega
    subst hjj
    have c0:=hcs 0 (by omega)
    rw [Nat.add_zero,hX0] at c0
    clear hcs
    go_wp2_with fail
    refine (uH KX2 _).mono ?_
    rintro e w7 ⟨rfl,hb⟩
    replace hS:=hide ((uH hS).all hb)
    clear hb KX2 c0
    go_wp2_with fail
    refine (uH KY _).mono ?_
    rintro e w8 ⟨rfl,hb⟩
    obtain ⟨h1,h2,h3⟩:=(uH hS).all hb
    obtain ⟨vo,vc,e1,q1⟩:=h1.bits
    rw [mkJ_len _ hj1] at e1
    subst e1
    have r0:=h2.c0;have r1:=h2.c1;have r2:=h2.c2
    have f0:=h2.free 0;have f1':=h2.free 1;have f2':=h2.free 2
    have XP:=h2.put (.slice vo j vc) (.int .u64 (T:Nat)) (.int .u64 (b:Nat))
    have z0:=XP.c0;have z1:=XP.c1;have z2:=XP.c2
    have HNW:=hide (NewB.least h1.newB (Nat.le_succ w.heap.size))
    have Q:=hide (((q1.far h1.newB (show w.heap.size < w.heap.size+1 by omega) 0 (.slice vo j vc)).far h1.newB (show w.heap.size < w.heap.size+1 by omega) 1 (.int .u64 (T:Nat))).far h1.newB (show w.heap.size < w.heap.size+1 by omega) 2 (.int .u64 (b:Nat)))
    have BP:=hide (below_put3 h3 (Nat.le_refl _) (.slice vo j vc) (.int .u64 (T:Nat)) (.int .u64 (b:Nat)))
    clear hS h1 q1 XP h2 h3 hb KY
    go_wp2_with fail
    exact bodyPost_ret (v:=.tuple #[.agg #[.slice vo j vc,.int .u64 (T:Nat),.int .u64 (b:Nat)],.bool true]) (by simp [results,Tryz.results154,go_sem,z0,z1,z2]) rfl ⟨vo,vc,rfl,uH HNW,uH Q,uH BP⟩
 ·go_enter Tryz.func154,Tryz.ntmps154
  go_wp2_with fail
  refine (uH K1 _ (uH ST).2.2).mono ?_
  rintro e w1 ⟨rfl,hb⟩
  replace ST:=hide ((uH ST).all hb)
  clear hb K1
  go_wp2_with fail
  refine (uH K2 _ (uH ST).2.2).mono ?_
  rintro e w2 ⟨rfl,hb⟩
  replace ST:=hide ((uH ST).all hb)
  clear hb K2
  go_wp2_with fail
  refine (uH K3 _ (uH ST).2.2).mono ?_
  rintro e w3 ⟨p,rfl,hp,hs,hb⟩
  replace ST:=hide ((uH ST).all hb)
  obtain ⟨bb,off,rfl,hcs⟩:=uH KX _ (uH ST).2.2
  have cp:=hcs p hp
  have K4':=hide (fun w'=>uH K4 w' p hs)
  have hpI:(p:Int) < (n:Int):=by omega
  generalize X p = x at *
  clear hb K3 hcs hs K4
  go_wp2_with fail
  refine (uH K4' _).mono ?_
  rintro e w4 ⟨rfl,rfl⟩
  clear K4' cp
  go_wp2_with fail
  refine (uH K5 _).mono ?_
  rintro e w4 ⟨rfl,rfl⟩
  obtain ⟨bb',off',ee,hcs⟩:=uH KX _ (uH ST).2.2
  simp only [Option.some.injEq,Addr.mk.injEq] at ee
  obtain ⟨rfl,rfl,_⟩:=ee
  have c0:=hcs 0 (by omega)
  rw [Nat.add_zero] at c0
  clear hcs
  generalize hX0:X 0 = a at *
  go_wp2_with fail
  refine (uH K6 _).mono ?_
  rintro e w5 ⟨rfl,hb⟩
  replace ST:=hide ((uH ST).all hb)
  clear hb K6 c0
  go_wp2_with fail
  refine (uH K7 _).mono ?_
  rintro e w6 ⟨rfl,rfl⟩
  go_wp2_with fail
  refine (uH K8 _).mono ?_
  rintro e w6 ⟨rfl,rfl⟩
  go_wp2_with fail
  go_loopw [4,8] (fun v i wr=>∃ j:Nat,1≤j∧j≤n∧i = .int .i64 j∧Hid (HmSt w wr v (mkJ g j))) (fun _ i _=>n - (intOf i).toNat)
  case atStart=>exact ⟨1,Nat.le_refl _,hn1,rfl,by rw [mkJ_1];exact ST⟩
  case round =>
   clear ST
   obtain ⟨j,hj1,hj,rfl,hS⟩:=hrel
   obtain ⟨bb',off',ee,hcs⟩:=uH KX _ (uH hS).2.2
   simp only [Option.some.injEq,Addr.mk.injEq] at ee
   obtain ⟨rfl,rfl,_⟩:=ee
   by_cases hlt:j < n
   ·have hjI:(j:Int) < (n:Int):=by omega
    have cj:=hcs j hlt
    have KD:=hide (uH K9 j hj1 hlt)
    have GL:=hide (uH HG (j - 1) (by omega))
    have GS:=hide (mkJ_succ g hj1)
    generalize g (j - 1) = o at *
    generalize X j = xj at *
    clear hcs
    go_wp2_with fail
    refine (uH KD _).mono ?_
    rintro e w7 ⟨rfl,hb⟩
    obtain ⟨v3,w8,run3,st3⟩:=((uH hS).all hb).push o (uH GL) (by rw [mkJ_len _ hj1];omega) 22
    have RUN:=hide run3
    have S3:=hide (show HmSt w w8 v3 (mkJ g (j+1)) from by rw [uH GS];exact st3)
    clear run3 st3 hS hb cj KD
    go_wp2_with (at_builtin;refine wpList_append_ran _ rfl _ _ 22 rfl _ _ _ _ rfl rfl (uH RUN) ?_;clear RUN)
    go_round
    case rel=>exact ⟨j+1,by omega,by omega,by go_num,S3⟩
    case measure=>simp [intOf];omega
   ·have hjj:j = n:=by omega
    subst hjj
    have c0:=hcs 0 (by omega)
    rw [Nat.add_zero,hX0] at c0
    clear hcs
    go_wp2_with fail
    refine (uH KX2 _).mono ?_
    rintro e w7 ⟨rfl,hb⟩
    replace hS:=hide ((uH hS).all hb)
    clear hb KX2 c0
    go_wp2_with fail
    refine (uH KY _).mono ?_
    rintro e w8 ⟨rfl,hb⟩
    obtain ⟨h1,h2,h3⟩:=(uH hS).all hb
    obtain ⟨vo,vc,e1,q1⟩:=h1.bits
    rw [mkJ_len _ hj1] at e1
    subst e1
    have r0:=h2.c0;have r1:=h2.c1;have r2:=h2.c2
    have f0:=h2.free 0;have f1':=h2.free 1;have f2':=h2.free 2
    have XP:=h2.put (.slice vo j vc) (.int .u64 (T:Nat)) (.int .u64 (b:Nat))
    have z0:=XP.c0;have z1:=XP.c1;have z2:=XP.c2
    have HNW:=hide (NewB.least h1.newB (Nat.le_succ w.heap.size))
    have Q:=hide (((q1.far h1.newB (show w.heap.size < w.heap.size+1 by omega) 0 (.slice vo j vc)).far h1.newB (show w.heap.size < w.heap.size+1 by omega) 1 (.int .u64 (T:Nat))).far h1.newB (show w.heap.size < w.heap.size+1 by omega) 2 (.int .u64 (b:Nat)))
    have BP:=hide (below_put3 h3 (Nat.le_refl _) (.slice vo j vc) (.int .u64 (T:Nat)) (.int .u64 (b:Nat)))
    clear hS h1 q1 XP h2 h3 hb KY
    go_wp2_with fail
    exact bodyPost_ret (v:=.tuple #[.agg #[.slice vo j vc,.int .u64 (T:Nat),.int .u64 (b:Nat)],.bool true]) (by simp [results,Tryz.results154,go_sem,z0,z1,z2]) rfl ⟨vo,vc,rfl,uH HNW,uH Q,uH BP⟩
end Go.Proofs.YtlnphkioddknfaaGreatDoor
namespace Go.Proofs.YtlnphkioddknfaaGreatDoor
open Go.RowKit
theorem toN_cons {I:List Int} (h:1≤I.length):toN I = atB I 0 :: (toN I).drop 1:=by
 have h1:0 < (toN I).length:=by rw [toN_len];omega
 have:=List.drop_eq_getElem_cons h1
 rw [List.drop_zero] at this
 rw [this]
 congr 1
 have e:=toN_at I 0 (by omega)
 rw [List.getElem?_eq_getElem h1] at e
 exact Option.some.inj e
theorem drop_getD (I:List Int) {j:Nat} (h:j+1 < I.length):((toN I).drop 1).getD j 0 = atB I (j+1):=by
 rw [List.getD_eq_getElem?_getD,List.getElem?_drop,Nat.add_comm 1 j,toN_at I (j+1) h]
 rfl
theorem mr_mkJ {I:List Int} (h:1≤I.length) (k:Nat→Nat) (hk:∀ x,(if ngt ((toN I).drop 1) = true then 0 else dV x (hmD (atB I 0) ((toN I).drop 1))) = k x):mrV (toN I) = mkJ (fun j=>k (atB I (j+1))) I.length:=by
 have hl:((toN I).drop 1).length = I.length - 1:=by rw [List.length_drop,toN_len]
 rw [toN_cons h]
 show 4607182418800017408 :: ((toN I).drop 1).map (fun x=>if ngt ((toN I).drop 1) = true then 0 else dV x (hmD (atB I 0) ((toN I).drop 1))) = 4607182418800017408 :: fsL (fun j=>k (atB I (j+1))) (I.length - 1)
 congr 1
 rw [List.map_congr_left (g:=k) (fun x _=>hk x),list_range ((toN I).drop 1),List.map_map,hl]
 unfold fsL
 refine List.map_congr_left (fun j hj=>?_)
 show k (((toN I).drop 1).getD j 0) = _
 rw [drop_getD I (by have:=List.mem_range.1 hj;omega)]
theorem mk_facts {I:List Int} (h:1≤I.length):mrB (toN I) = (if ngt ((toN I).drop 1) = true then atB I 0 else hmB (atB I 0) ((toN I).drop 1))∧mrT (toN I) = (if ngt ((toN I).drop 1) = true then 0 else dV (aV (hmB (atB I 0) ((toN I).drop 1)) (fN (atB I 0))) (hmB (atB I 0) ((toN I).drop 1)))∧mrK (toN I) = (ngt ((toN I).drop 1) || (fFin (hmB (atB I 0) ((toN I).drop 1)) && fFin (hmD (atB I 0) ((toN I).drop 1)))):=by
 have e:=toN_cons h
 refine ⟨?_,?_,?_⟩
 ·conv=>lhs;rw [e]
  rfl
 ·conv=>lhs;rw [e]
  rfl
 ·conv=>lhs;rw [e]
  rfl
theorem ngt_all {I:List Int} (h:1≤I.length) (hn:ngt ((toN I).drop 1) = false):ngt (toN I) = false:=by
 rw [toN_cons h]
 show (decide (fK (atB I 0) = 0) && ngt ((toN I).drop 1)) = false
 rw [hn,Bool.and_false]
theorem cells_of {w:World} {ao:Option Addr} {c:Nat} {I:List Int} (hI:BitsAt w ao c I) (h:1≤I.length) (w':World) (hb:Below w.heap.size w w'):∃ b off,ao = some ⟨b,off,none⟩∧∀ j,j < I.length→w'.cell? ⟨b,off+j,none⟩ = some (.int .u64 (atB I j:Nat)):=by
 obtain ⟨b,off,e1,_,e3⟩:=(hI.below hb).ne (by omega)
 exact ⟨b,off,e1,e3⟩
theorem rmake13_new (ao:Option Addr) (c:Nat) (I:List Int) (w:World) (hI:BitsAt w ao c I) (h1:1≤I.length) (h2:I.length≤64) (hk:mrK (toN I) = true) :
  Calls Tryz.prog 154 #[.slice ao I.length c] w fun e w'=>∃ vo vc,e = .returned (.tuple #[.agg #[.slice vo I.length vc,.int .u64 (mrT (toN I):Nat),.int .u64 (mrB (toN I):Nat)],.bool true])∧NewB w.heap.size vo (mxL (mrV (toN I)))∧BitsAt w' vo vc (mxL (mrV (toN I)))∧Below w.heap.size w w':=by
 obtain ⟨eB,eT,eK⟩:=mk_facts h1
 have N1:=fun w' (hb:Below w.heap.size w w')=>rnoughts13_any ao c I w' (hI.below hb) h2
 cases hn:ngt ((toN I).drop 1)
 ·rw [hn] at N1
  rw [hn,if_neg (by decide)] at eB eT
  rw [hk,hn,Bool.false_or] at eK
  obtain ⟨f1,f2⟩:=Bool.and_eq_true_iff.1 eK.symm
  rw [mr_mkJ h1 (fun x=>dV x (hmD (atB I 0) ((toN I).drop 1))) (fun x=>if_neg (by rw [hn];decide)),eB,eT]
  have la:=hI.lt 0
  have lB:=hmB_lt (atB I 0) ((toN I).drop 1)
  have lD:=hmD_lt (atB I 0) ((toN I).drop 1) la
  refine rmake13_ok ao I.length c (nrV (toN I)) (fN (nrV (toN I))) (hmB (atB I 0) ((toN I).drop 1)) (hmD (atB I 0) ((toN I).drop 1)) (aV (hmB (atB I 0) ((toN I).drop 1)) (fN (atB I 0))) _ (ldS (toN I)) true true (fun j=>atB I j) (fun j=>dV (atB I (j+1)) (hmD (atB I 0) ((toN I).drop 1))) w h1 h2 rfl rfl (fun j _=>dV_lt _ _) (cells_of hI h1) N1 (fun w' hb=>?_) (fun w' hb=>rlead13_any ao c I w' (hI.below hb) h2 (ngt_all h1 hn)) (fun w' p hs=>?_) (fun w'=>rminus4_any _ w' (nrV_lt _)) ?_ (fun w'=>r9sub_any _ _ w' la lB) (fun w'=>?_) (fun w'=>?_) (fun j hj1 hj w'=>?_) (fun w'=>r9sub_any _ _ w' lB la) (fun w'=>r9div_any _ _ w' (aV_lt _ _ lB (fN_lt _ la)) lB)
  ·have:=r9norm_any ao c I w' (hI.below hb) (by omega)
   rwa [nmV_nrV] at this
  ·have:=rneg4_any (atB I p) w' (hI.lt p)
   rwa [hs] at this
  ·have e:hmB (atB I 0) ((toN I).drop 1) = if ldS (toN I) = true then nrV (toN I) else fN (nrV (toN I)):=by
    unfold hmB
    rw [← toN_cons h1]
   rw [e]
   cases hl:ldS (toN I)
   ·exact .inr ⟨rfl,rfl⟩
   ·exact .inl ⟨rfl,rfl⟩
  ·have:=rfinite_any (hmB (atB I 0) ((toN I).drop 1)) w' lB
   rwa [f1] at this
  ·have:=rfinite_any (hmD (atB I 0) ((toN I).drop 1)) w' lD
   rwa [f2] at this
  ·have:=r9div_any (atB I j) (hmD (atB I 0) ((toN I).drop 1)) w' (hI.lt j) lD
   rw [show j - 1+1 = j by omega]
   exact this
 ·rw [hn] at N1
  rw [if_pos hn] at eB eT
  rw [mr_mkJ h1 (fun _=>0) (fun x=>if_pos hn),eB,eT]
  refine rmake13_noughts ao I.length c (atB I 0) w h1 h2 (fun w' hb=>?_) N1
  obtain ⟨b,off,e1,e2⟩:=cells_of hI h1 w' hb
  exact ⟨b,off,e1,e2 0 (by omega)⟩
theorem rmake13_no (ao:Option Addr) (c:Nat) (I:List Int) (w:World) (hI:BitsAt w ao c I) (h1:1≤I.length) (h2:I.length≤64) (hk:mrK (toN I) = false) :
  Calls Tryz.prog 154 #[.slice ao I.length c] w fun e w'=>e = .returned (.tuple #[.agg #[.slice none 0 0,.int .u64 0,.int .u64 0],.bool false])∧Below w.heap.size w w':=by
 obtain ⟨_,_,eK⟩:=mk_facts h1
 have N1:=fun w' (hb:Below w.heap.size w w')=>rnoughts13_any ao c I w' (hI.below hb) h2
 rw [hk] at eK
 obtain ⟨hn,hf⟩:=Bool.or_eq_false_iff.1 eK.symm
 rw [hn] at N1
 have la:=hI.lt 0
 have lB:=hmB_lt (atB I 0) ((toN I).drop 1)
 have lD:=hmD_lt (atB I 0) ((toN I).drop 1) la
 refine rmake13_bad ao I.length c (nrV (toN I)) (fN (nrV (toN I))) (hmB (atB I 0) ((toN I).drop 1)) (hmD (atB I 0) ((toN I).drop 1)) (ldS (toN I)) (fFin (hmB (atB I 0) ((toN I).drop 1))) (fFin (hmD (atB I 0) ((toN I).drop 1))) (fun j=>atB I j) w h1 h2 ?_ (cells_of hI h1) N1 (fun w' hb=>?_) (fun w' hb=>rlead13_any ao c I w' (hI.below hb) h2 (ngt_all h1 hn)) (fun w' p hs=>?_) (fun w'=>rminus4_any _ w' (nrV_lt _)) ?_ (fun w'=>r9sub_any _ _ w' la lB) (fun w'=>rfinite_any _ w' lB) (fun w'=>rfinite_any _ w' lD)
 ·cases g1:fFin (hmB (atB I 0) ((toN I).drop 1))
  ·exact .inl rfl
  ·cases g2:fFin (hmD (atB I 0) ((toN I).drop 1))
   ·exact .inr ⟨rfl,rfl⟩
   ·rw [g1,g2] at hf;cases hf
 ·have:=r9norm_any ao c I w' (hI.below hb) (by omega)
  rwa [nmV_nrV] at this
 ·have:=rneg4_any (atB I p) w' (hI.lt p)
  rwa [hs] at this
 ·have e:hmB (atB I 0) ((toN I).drop 1) = if ldS (toN I) = true then nrV (toN I) else fN (nrV (toN I)):=by
   unfold hmB
   rw [← toN_cons h1]
  rw [e]
  cases hl:ldS (toN I)
  ·exact .inr ⟨rfl,rfl⟩
  ·exact .inl ⟨rfl,rfl⟩
end Go.Proofs.YtlnphkioddknfaaGreatDoor
namespace Go.Proofs.YtlnphkioddknfaaGreatDoor
open Go.RowKit
attribute [local go_sem ↓] Go.wp_at_zero Go.wp_at_succ
theorem rcolF_any (r c cap k f:Nat) (ao:Option Addr) (S:List Nat) (w:World) (h:Mx w ao cap r c S) (hk:k < c) (hf:f≤r) :
  Calls Tryz.prog 80 #[.agg #[.int .i64 r,.int .i64 c,.slice ao S.length cap],.int .i64 k,.int .i64 f] w fun e w'=>∃ bo d,e = .returned (.slice bo (r - f) d)∧BitsAt w' bo d (mxL (colL c S f (r - f) k))∧Below w.heap.size w w':=by
 have HH:=hide h
 have r6:=h.2.2.1
 have s0:=size_alloc9 w (.cells #[.int .i64 r,.int .i64 c,.slice ao S.length cap] 24)
 have b0:=below_alloc9 w (.cells #[.int .i64 r,.int .i64 c,.slice ao S.length cap] 24)
 have X0:=BoxM.new w (.int .i64 r) (.int .i64 c) (.slice ao S.length cap)
 have b1:=below_alloc9 (w.alloc (.cells #[.int .i64 r,.int .i64 c,.slice ao S.length cap] 24)) (.cells #[] 37)
 have O0:=OwnB.nil (w.alloc (.cells #[.int .i64 r,.int .i64 c,.slice ao S.length cap] 24)) (w.heap.size+1) (by rw [s0];omega)
 rw [s0] at O0
 have HO:=hide O0;have HX:=hide (X0.all b1);have HB:=hide (b0.trans (b1.mono b0.size))
 obtain ⟨l,hl⟩:∃ l,S.length = l:=⟨_,rfl⟩
 rw [hl] at HX HB HO
 rw [hl]
 have HLL:=hide hl
 clear h s0 b0 X0 b1 O0 hl
 go_enter Tryz.func80,Tryz.ntmps80
 go_wp2_with fail
 go_loopw [7,8] (fun v i wr=>∃ j:Nat,f≤j∧j≤r∧i = .int .i64 j∧Hid (OwnB (w.heap.size+1) wr v (fsL (fun t=>elM c S (f+t) k) (j - f)))∧Hid (BoxM wr w.heap.size (.int .i64 r) (.int .i64 c) (.slice ao l cap))∧Hid (Below w.heap.size w wr)) (fun _ i _=>r - (intOf i).toNat)
 case atStart=>exact ⟨f,Nat.le_refl _,hf,rfl,by rw [Nat.sub_self];exact HO,HX,HB⟩
 case round =>
  clear HO HX HB
  obtain ⟨j,hfj,hj,rfl,hO,hX,hB⟩:=hrel
  have t0:=(uH hX).c0;have t1:=(uH hX).c1;have t2:=(uH hX).c2
  by_cases hlt:j < r
  ·have hjI:(j:Int) < (r:Int):=by omega
   have C:=hide (fun w' (m:Mx w' ao cap r c S)=>rat_any r c cap j k ao S w' m hlt hk)
   rw [uH HLL] at C
   have HM:=hide ((uH HH).below hB.out)
   have ho:=hide ((uH HH).el_lt j k)
   have hlen:=hide (show (fsL (fun t=>elM c S (f+t) k) (j - f)).length≤1000000 from by rw [fsL_len];omega)
   have eS:=hide (show fsL (fun t=>elM c S (f+t) k) (j+1 - f) = fsL (fun t=>elM c S (f+t) k) (j - f) ++ [elM c S j k] from by rw [show j+1 - f = j - f+1 by omega,fsL_succ,show f+(j - f) = j by omega])
   generalize elM c S j k = o at *
   go_wp2_with fail
   refine (uH C _ (uH HM)).mono ?_
   rintro e w2 ⟨rfl,hb2⟩
   have own2:=(uH hO).below hb2
   have box2:=(uH hX).all hb2
   have B2:=hB.out.trans (hb2.mono hB.out.size)
   obtain ⟨v3,w3,run3,own3,bel3,_,_⟩:=own2.push o (uH ho) (uH hlen) (by have:=box2.lt;omega) 22
   have RUN:=hide run3
   have O3:=hide (show OwnB (w.heap.size+1) w3 v3 (fsL (fun t=>elM c S (f+t) k) (j+1 - f)) from by rw [uH eS];exact own3)
   have X3:=hide (box2.below bel3 (by omega))
   have B3:=hide (B2.trans (bel3.mono (by omega)))
   clear hb2 C hO hX hB own2 box2 B2 run3 own3 bel3 ho hlen eS HM t0 t1 t2
   go_wp2_with (at_builtin;refine wpList_append_ran _ rfl _ _ 22 rfl _ _ _ _ rfl rfl (uH RUN) ?_;clear RUN)
   go_round
   case rel=>exact ⟨j+1,by omega,by omega,by go_num,O3,X3,B3⟩
   case measure=>simp [intOf];omega
  ·have hjj:r = j:=by omega
   subst hjj
   obtain ⟨b1,d1,e1,q1⟩:=(uH hO).bits
   rw [fsL_len] at e1
   subst e1
   have Q1:=hide q1
   clear q1 hO
   go_wp2_with fail
   go_ret
   exact ⟨b1,d1,rfl,uH Q1,hB.out⟩
end Go.Proofs.YtlnphkioddknfaaGreatDoor
namespace Go.Proofs.YtlnphkioddknfaaGreatDoor
open Go.RowKit
attribute [local go_sem ↓] Go.wp_at_zero Go.wp_at_succ
theorem cell_putM {w:World} {a:Addr} {z:Int} {b:Nat} {x y:Int} {o:Option Addr} {n d:Nat} (h:w.cell? a = some (.int .u64 z)) (hx:BoxM w b (.int .i64 x) (.int .i64 y) (.slice o n d)) (u u' u'':Value):(((w.setCell ⟨b,0,none⟩ u).setCell ⟨b,1,none⟩ u').setCell ⟨b,2,none⟩ u'').cell? a = some (.int .u64 z):=by
 obtain ⟨g,k,sp⟩:=a
 have e:sp = none:=World.cell?_spot h
 subst e
 have hne:b ≠ g:=hx.away h
 rw [cell_setCell_other _ _ _ _ (show g ≠ b from fun e=>hne e.symm),cell_setCell_other _ _ _ _ (show g ≠ b from fun e=>hne e.symm),cell_setCell_other _ _ _ _ (show g ≠ b from fun e=>hne e.symm)]
 exact h
theorem rapply13_of (r c n cap i k m tau:Nat) (ao vo:Option Addr) (vc:Nat) (TJ:Nat→Nat→List Nat) (CL:Nat→List Nat) (V:Nat→Nat) (w0 t:Nat→Nat) (p u:Nat→Nat→Nat) (w:World) (hc:c≤6) (hr:r≤6) (hkc:k≤c) (him:i+m≤r)
  (h0:BitsAt w ao cap (mxL (TJ k 0))) (lJ:∀ d j,(TJ d j).length = n) (hN:∀ d,TJ d m = TJ (d+1) 0) (hCL:∀ d,(CL d).length = r - i)
  (HV:∀ w',Below w.heap.size w w'→∀ j,j < m→∃ b off,vo = some ⟨b,off,none⟩∧w'.cell? ⟨b,off+j,none⟩ = some (.int .u64 (V j:Nat)))
  (A1:∀ w' d,Below w.heap.size w w'→d < c→Calls Tryz.prog 80 #[.agg #[.int .i64 r,.int .i64 c,.slice ao n cap],.int .i64 (d:Nat),.int .i64 i] w' fun e w''=>∃ bo dd,e = .returned (.slice bo (r - i) dd)∧BitsAt w'' bo dd (mxL (CL d))∧Below w'.heap.size w' w'')
  (A2:∀ w' d bo dd,Below w.heap.size w w'→d < c→BitsAt w' bo dd (mxL (CL d))→Calls Tryz.prog 92 #[.slice vo m vc,.slice bo m dd] w' fun e w''=>e = .returned (.int .u64 (w0 d:Nat))∧Below w'.heap.size w' w'')
  (A3:∀ w' d,d < c→Calls Tryz.prog 50 #[.int .u64 tau,.int .u64 (w0 d:Nat)] w' fun e w''=>e = .returned (.int .u64 (t d:Nat))∧Below w'.heap.size w' w'')
  (A4:∀ w' d j,d < c→j < m→Calls Tryz.prog 50 #[.int .u64 (t d:Nat),.int .u64 (V j:Nat)] w' fun e w''=>e = .returned (.int .u64 (p d j:Nat))∧Below w'.heap.size w' w'')
  (A5:∀ w' d j,d < c→j < m→Calls Tryz.prog 49 #[.int .u64 ((CL d).getD j 0:Nat),.int .u64 (p d j:Nat)] w' fun e w''=>e = .returned (.int .u64 (u d j:Nat))∧Below w'.heap.size w' w'')
  (A6:∀ w' d j qo qc,k≤d→d < c→j < m→BitsAt w' qo qc (mxL (TJ d j))→Calls Tryz.prog 51 #[.agg #[.int .i64 r,.int .i64 c,.slice qo n qc],.int .i64 ((i+j:Nat):Int),.int .i64 (d:Nat),.int .u64 (u d j:Nat)] w' fun e w''=>∃ v,e = .returned v∧(∃ po pc,v = .agg #[.int .i64 r,.int .i64 c,.slice po n pc]∧BitsAt w'' po pc (mxL (TJ d (j+1))))∧Below w'.heap.size w' w'') :
  Calls Tryz.prog 156 #[.agg #[.int .i64 r,.int .i64 c,.slice ao n cap],.int .i64 i,.int .i64 k,.slice vo m vc,.int .u64 tau] w fun e w'=>∃ po pc,e = .returned (.agg #[.int .i64 r,.int .i64 c,.slice po n pc])∧BitsAt w' po pc (mxL (TJ c 0))∧Below w.heap.size w w':=by
 have ST:=hide (RoSt.start w r c n cap ao (TJ k 0) h0 (lJ k 0))
 have KV:=hide HV;have K1:=hide A1;have K2:=hide A2;have K3:=hide A3;have K4:=hide A4;have K5:=hide A5;have K6:=hide A6;have LJ:=hide lJ;have NX:=hide hN;have LC:=hide hCL
 clear HV A1 A2 A3 A4 A5 A6 lJ h0 hN hCL
 have y0:=(uH ST).1.c0;have y1:=(uH ST).1.c1;have y2:=(uH ST).1.c2
 go_enter Tryz.func156,Tryz.ntmps156
 go_wp2_with fail
 clear y0 y1 y2
 go_loopw [12] (fun a wr=>∃ (d:Nat) (po:Option Addr) (pc:Nat),k≤d∧d≤c∧a = .int .i64 d∧Hid (RoSt w wr r c n cap ao (TJ d 0) po pc)) (fun a _=>c - (intOf a).toNat)
 case atStart=>exact ⟨k,ao,cap,Nat.le_refl _,hkc,rfl,ST⟩
 case round =>
  clear ST
  obtain ⟨d,po,pc,hkd,hd,rfl,hS⟩:=hrel
  have y0:=(uH hS).1.c0;have y1:=(uH hS).1.c1;have y2:=(uH hS).1.c2
  by_cases hlt:d < c
  ·have hdI:(d:Int) < (c:Int):=by omega
   have W1:=hide (fun w' h=>uH K1 w' d h hlt);have W2:=hide (fun w' bo dd h hb=>uH K2 w' d bo dd h hlt hb);have W3:=hide (fun w'=>uH K3 w' d hlt);have W4:=hide (fun w' j hj=>uH K4 w' d j hlt hj);have W5:=hide (fun w' j hj=>uH K5 w' d j hlt hj);have W6:=hide (fun w' j qo qc hj hb=>uH K6 w' d j qo qc hkd hlt hj hb);have WN:=hide (uH NX d);have WL:=hide (fun j=>uH LJ d j);have WC:=hide (uH LC d)
   generalize hTN:TJ (d+1) 0 = TN at *
   generalize hTd:TJ d = Td at *
   generalize CL d = Cd at *
   generalize p d = pd at *
   generalize u d = ud at *
   generalize t d = td at *
   generalize w0 d = wd at *
   clear K1 K2 K3 K4 K5 K6 NX
   go_wp2_with fail
   refine (uH W1 _ (uH hS).2.2.2.2.2).mono ?_
   rintro e w1 ⟨bo,dd,rfl,bc,hb⟩
   have hmd:(m:Int)≤(dd:Int):=by have:=bc.1;rw [mxL_len,uH WC] at this;omega
   replace hS:=hide ((uH hS).all hb)
   have BC:=hide bc
   clear hb bc y0 y1 y2 W1
   go_wp2_with fail
   refine (uH W2 _ _ _ (uH hS).2.2.2.2.2 (uH BC)).mono ?_
   rintro e w2 ⟨rfl,hb⟩
   replace hS:=hide ((uH hS).all hb)
   replace BC:=hide ((uH BC).below hb)
   clear hb W2
   go_wp2_with fail
   refine (uH W3 _).mono ?_
   rintro e w3 ⟨rfl,hb⟩
   replace hS:=hide ((uH hS).all hb)
   replace BC:=hide ((uH BC).below hb)
   clear hb W3
   go_wp2_with fail
   go_loopw [15] (fun a wr=>∃ (j:Nat) (po:Option Addr) (pc:Nat),j≤m∧a = .int .i64 j∧Hid (RoSt w wr r c n cap ao (Td j) po pc)∧Hid (BitsAt wr bo dd (mxL Cd))) (fun a _=>m - (intOf a).toNat)
   case atStart=>exact ⟨0,po,pc,Nat.zero_le _,rfl,hS,BC⟩
   case round =>
    clear hS BC
    obtain ⟨j,qo,qc,hj,rfl,hS,BC⟩:=hrel
    by_cases hjm:j < m
    ·have hjI:(j:Int) < (m:Int):=by omega
     have hjr:(j:Int) < (r - i:Nat):=by omega
     have hij:(i:Int)+(j:Int) = ((i+j:Nat):Int):=by omega
     obtain ⟨b1,o1,e1,x1⟩:=uH KV _ (uH hS).2.2.2.2.2 j hjm
     obtain ⟨b2,o2,e2,_,hc2⟩:=(uH BC).ne (by rw [mxL_len,uH WC];omega)
     subst e1 e2
     have x2:=hc2 j (by rw [mxL_len,uH WC];omega)
     rw [mxL_at] at x2
     have V4:=hide (fun w'=>uH W4 w' j hjm);have V5:=hide (fun w'=>uH W5 w' j hjm);have V6:=hide (fun w' qo qc hb=>uH W6 w' j qo qc hjm hb);have VL:=hide (uH WL (j+1))
     have hwij:IntKind.i64.wrap ((i+j:Nat):Int) = ((i+j:Nat):Int):=wrap_in _ (by omega)
     generalize i+j = ij at *
     generalize V j = vj at *
     generalize Cd.getD j 0 = cj at *
     generalize pd j = pj at *
     generalize ud j = uj at *
     go_wp2_with fail
     refine at_world (fun W=>RoSt w W r c n cap ao (Td j) qo qc∧W.cell? ⟨b1,o1+j,none⟩ = some (.int .u64 (vj:Nat))∧W.cell? ⟨b2,o2+j,none⟩ = some (.int .u64 (cj:Nat))∧BitsAt W (some ⟨b2,o2,none⟩) dd (mxL Cd)) ⟨uH hS,x1,x2,uH BC⟩ ?_
     clear hS BC x1 x2 hc2
     rintro W0 ⟨s0,x1',x2',bc'⟩
     have SS:=hide (show RoSt w W0.drew r c n cap ao (Td j) qo qc∧W0.drew.cell? ⟨b1,o1+j,none⟩ = some (.int .u64 (vj:Nat))∧W0.drew.cell? ⟨b2,o2+j,none⟩ = some (.int .u64 (cj:Nat))∧BitsAt W0.drew (some ⟨b2,o2,none⟩) dd (mxL Cd) from ⟨s0.all ((Below.refl W0.heap.size W0).drew),x1',x2',bc'.below ((Below.refl W0.heap.size W0).drew)⟩)
     clear s0 x1' x2' bc' KV W4 W5 W6 WN WL WC LC LJ hTN hTd
     have y0:=(uH SS).1.2.2.1.c0;have y1:=(uH SS).1.2.2.1.c1;have y2:=(uH SS).1.2.2.1.c2;have x1:=(uH SS).2.1;have x2:=(uH SS).2.2.1
     refine wp_region_held_drew (S:=(fun w'=>w'.cell? ⟨b1,o1+j,none⟩ = some (.int .u64 (vj:Nat))∧w'.cell? ⟨b2,o2+j,none⟩ = some (.int .u64 (cj:Nat)))) (by kernel_rfl) ?_ (fun hHeld=>?_)
     ·exact ⟨(uH SS).2.1,(uH SS).2.2.1⟩
     refine wpAnyH_take (i:=1) (oi:={ dst:=some 43,op:=Op.move (Operand.tmp 1),type:=3,pos := "ref.go:72",after:=#[],guard:=none }) (v:=(Value.int .i64 (i:Int))) rfl (by kernel_rfl) (by kernel_rfl) (by kernel_rfl) (fun _ _ _ h=>h) (Or.inl ⟨by rfl,?_⟩) (by assumption) ?_
     ·(intro w hSw;(try dsimp only at hSw);go_simp)
     simp only [Act.put,List.setIfInBounds_toArray,List.set_cons_zero,List.set_cons_succ]
     refine wpAnyH_take (i:=2) (oi:={ dst:=some 44,op:=Op.move (Operand.tmp 15),type:=3,pos := "ref.go:72",after:=#[],guard:=none }) (v:=(Value.int .i64 (j:Int))) rfl (by kernel_rfl) (by kernel_rfl) (by kernel_rfl) (fun _ _ _ h=>h) (Or.inl ⟨by rfl,?_⟩) (by assumption) ?_
     ·(intro w hSw;(try dsimp only at hSw);go_simp)
     simp only [Act.put,List.setIfInBounds_toArray,List.set_cons_zero,List.set_cons_succ]
     refine wpAnyH_take (i:=3) (oi:={ dst:=some 45,op:=Op.binOp BinOp.add 3 (Operand.tmp 43) (Operand.tmp 44) 3,type:=3,pos := "ref.go:72",after:=#[{ on:=1,ground:=Ground.data },{ on:=2,ground:=Ground.data }],guard:=none }) (v:=(Value.int .i64 (ij:Int))) rfl (by kernel_rfl) (by kernel_rfl) (by kernel_rfl) (fun _ _ _ h=>h) (Or.inl ⟨by rfl,?_⟩) (by assumption) ?_
     ·(intro w hSw;(try dsimp only at hSw);go_simp)
     simp only [Act.put,List.setIfInBounds_toArray,List.set_cons_zero,List.set_cons_succ]
     refine wpAnyH_take (i:=4) (oi:={ dst:=some 46,op:=Op.move (Operand.tmp 12),type:=3,pos := "ref.go:72",after:=#[],guard:=none }) (v:=(Value.int .i64 (d:Int))) rfl (by kernel_rfl) (by kernel_rfl) (by kernel_rfl) (fun _ _ _ h=>h) (Or.inl ⟨by rfl,?_⟩) (by assumption) ?_
     ·(intro w hSw;(try dsimp only at hSw);go_simp)
     simp only [Act.put,List.setIfInBounds_toArray,List.set_cons_zero,List.set_cons_succ]
     refine wpAnyH_take (i:=5) (oi:={ dst:=some 47,op:=Op.move (Operand.tmp 13),type:=22,pos := "ref.go:72",after:=#[],guard:=none }) (v:=(Value.slice (some ⟨b2,o2,none⟩) (r - i) dd)) rfl (by kernel_rfl) (by kernel_rfl) (by kernel_rfl) (fun _ _ _ h=>h) (Or.inl ⟨by rfl,?_⟩) (by assumption) ?_
     ·(intro w hSw;(try dsimp only at hSw);go_simp)
     simp only [Act.put,List.setIfInBounds_toArray,List.set_cons_zero,List.set_cons_succ]
     refine wpAnyH_take (i:=6) (oi:={ dst:=some 48,op:=Op.move (Operand.tmp 15),type:=3,pos := "ref.go:72",after:=#[],guard:=none }) (v:=(Value.int .i64 (j:Int))) rfl (by kernel_rfl) (by kernel_rfl) (by kernel_rfl) (fun _ _ _ h=>h) (Or.inl ⟨by rfl,?_⟩) (by assumption) ?_
     ·(intro w hSw;(try dsimp only at hSw);go_simp)
     simp only [Act.put,List.setIfInBounds_toArray,List.set_cons_zero,List.set_cons_succ]
     refine wpAnyH_take (i:=7) (oi:={ dst:=some 49,op:=Op.indexAddr 22 (Operand.tmp 47) (Operand.tmp 48),type:=0,pos := "ref.go:72",after:=#[{ on:=5,ground:=Ground.data },{ on:=6,ground:=Ground.data }],guard:=none }) (v:=(Value.pointer (some ⟨b2,o2+j,none⟩))) rfl (by kernel_rfl) (by kernel_rfl) (by kernel_rfl) (fun _ _ _ h=>h) (Or.inl ⟨by rfl,?_⟩) (by assumption) ?_
     ·(intro w hSw;(try dsimp only at hSw);go_simp)
     simp only [Act.put,List.setIfInBounds_toArray,List.set_cons_zero,List.set_cons_succ]
     refine wpAnyH_take (i:=8) (oi:={ dst:=some 50,op:=Op.load 37 (Operand.tmp 49),type:=37,pos := "ref.go:72",after:=#[{ on:=7,ground:=Ground.data }],guard:=none }) (v:=(Value.int .u64 (cj:Int))) rfl (by kernel_rfl) (by kernel_rfl) (by kernel_rfl) (fun _ _ _ h=>h) (Or.inl ⟨by rfl,?_⟩) (by assumption) ?_
     ·(intro w hSw;(try dsimp only at hSw);go_simp)
     simp only [Act.put,List.setIfInBounds_toArray,List.set_cons_zero,List.set_cons_succ]
     refine wpAnyH_take (i:=9) (oi:={ dst:=some 51,op:=Op.move (Operand.tmp 14),type:=37,pos := "ref.go:72",after:=#[],guard:=none }) (v:=(Value.int .u64 (td:Int))) rfl (by kernel_rfl) (by kernel_rfl) (by kernel_rfl) (fun _ _ _ h=>h) (Or.inl ⟨by rfl,?_⟩) (by assumption) ?_
     ·(intro w hSw;(try dsimp only at hSw);go_simp)
     simp only [Act.put,List.setIfInBounds_toArray,List.set_cons_zero,List.set_cons_succ]
     refine wpAnyH_take (i:=10) (oi:={ dst:=some 52,op:=Op.move (Operand.tmp 3),type:=22,pos := "ref.go:72",after:=#[],guard:=none }) (v:=(Value.slice (some ⟨b1,o1,none⟩) m vc)) rfl (by kernel_rfl) (by kernel_rfl) (by kernel_rfl) (fun _ _ _ h=>h) (Or.inl ⟨by rfl,?_⟩) (by assumption) ?_
     ·(intro w hSw;(try dsimp only at hSw);go_simp)
     simp only [Act.put,List.setIfInBounds_toArray,List.set_cons_zero,List.set_cons_succ]
     refine wpAnyH_take (i:=11) (oi:={ dst:=some 53,op:=Op.move (Operand.tmp 15),type:=3,pos := "ref.go:72",after:=#[],guard:=none }) (v:=(Value.int .i64 (j:Int))) rfl (by kernel_rfl) (by kernel_rfl) (by kernel_rfl) (fun _ _ _ h=>h) (Or.inl ⟨by rfl,?_⟩) (by assumption) ?_
     ·(intro w hSw;(try dsimp only at hSw);go_simp)
     simp only [Act.put,List.setIfInBounds_toArray,List.set_cons_zero,List.set_cons_succ]
     refine wpAnyH_take (i:=12) (oi:={ dst:=some 54,op:=Op.indexAddr 22 (Operand.tmp 52) (Operand.tmp 53),type:=0,pos := "ref.go:72",after:=#[{ on:=10,ground:=Ground.data },{ on:=11,ground:=Ground.data }],guard:=none }) (v:=(Value.pointer (some ⟨b1,o1+j,none⟩))) rfl (by kernel_rfl) (by kernel_rfl) (by kernel_rfl) (fun _ _ _ h=>h) (Or.inl ⟨by rfl,?_⟩) (by assumption) ?_
     ·(intro w hSw;(try dsimp only at hSw);go_simp)
     simp only [Act.put,List.setIfInBounds_toArray,List.set_cons_zero,List.set_cons_succ]
     refine wpAnyH_take (i:=13) (oi:={ dst:=some 55,op:=Op.load 37 (Operand.tmp 54),type:=37,pos := "ref.go:72",after:=#[{ on:=12,ground:=Ground.data }],guard:=none }) (v:=(Value.int .u64 (vj:Int))) rfl (by kernel_rfl) (by kernel_rfl) (by kernel_rfl) (fun _ _ _ h=>h) (Or.inl ⟨by rfl,?_⟩) (by assumption) ?_
     ·(intro w hSw;(try dsimp only at hSw);go_simp)
     simp only [Act.put,List.setIfInBounds_toArray,List.set_cons_zero,List.set_cons_succ]
     refine wpAnyH_ready (rs:=[0,14]) (by kernel_rfl) (by simp) ?_
     refine AllReadyH.cons (o:={ dst:=some 42,op:=Op.load 24 (Operand.tmp 11),type:=24,pos := "ref.go:72",after:=#[],guard:=none }) rfl (fun K hK=>?_) (AllReadyH.cons (o:={ dst:=some 56,op:=Op.call { callee:=Callee.value (Operand.func 50),args:=#[Operand.tmp 51,Operand.tmp 55],argTypes:=#[37,37] },type:=37,pos := "ref.go:72",after:=#[{ on:=9,ground:=Ground.data },{ on:=13,ground:=Ground.data }],guard:=none }) rfl (fun K hK=>?_) AllReadyH.nil)
     ·go_simp
      refine hK.out _ _ ?_ (fun hHeld=>?_)
      ·exact ⟨(uH SS).2.1,(uH SS).2.2.1⟩
      clear hK K
      refine wpAnyH_ready (rs:=[14]) (by kernel_rfl) (by simp) ?_
      refine AllReadyH.cons (o:={ dst:=some 56,op:=Op.call { callee:=Callee.value (Operand.func 50),args:=#[Operand.tmp 51,Operand.tmp 55],argTypes:=#[37,37] },type:=37,pos := "ref.go:72",after:=#[{ on:=9,ground:=Ground.data },{ on:=13,ground:=Ground.data }],guard:=none }) rfl (fun K hK=>?_) AllReadyH.nil
      go_simp
      refine (uH V4 _).mono ?_
      rintro e w4 ⟨rfl,hb⟩
      clear y0 y1 y2 x1 x2
      have S4:=(uH SS).1.all hb
      have y0:=S4.2.2.1.c0
      have y1:=S4.2.2.1.c1
      have y2:=S4.2.2.1.c2
      have x1:=cell_keep (uH SS).2.1 hb
      have x2:=cell_keep (uH SS).2.2.1 hb
      replace SS:=hide (And.intro S4 (And.intro x1 (And.intro x2 ((uH SS).2.2.2.below hb))))
      clear S4 hb
      go_wp2_with fail
      refine hK.out _ _ ?_ (fun hHeld=>?_)
      ·exact ⟨(uH SS).2.1,(uH SS).2.2.1⟩
      clear hK K
      refine wpAnyH_ready (rs:=[15]) (by kernel_rfl) (by simp) ?_
      refine AllReadyH.cons (o:={ dst:=some 57,op:=Op.call { callee:=Callee.value (Operand.func 49),args:=#[Operand.tmp 50,Operand.tmp 56],argTypes:=#[37,37] },type:=37,pos := "ref.go:72",after:=#[{ on:=8,ground:=Ground.data },{ on:=14,ground:=Ground.data },{ on:=14,ground:=Ground.chain }],guard:=none }) rfl (fun K hK=>?_) AllReadyH.nil
      go_simp
      refine (uH V5 _).mono ?_
      rintro e w5 ⟨rfl,hb⟩
      clear y0 y1 y2 x1 x2
      have S4:=(uH SS).1.all hb
      have y0:=S4.2.2.1.c0
      have y1:=S4.2.2.1.c1
      have y2:=S4.2.2.1.c2
      have x1:=cell_keep (uH SS).2.1 hb
      have x2:=cell_keep (uH SS).2.2.1 hb
      replace SS:=hide (And.intro S4 (And.intro x1 (And.intro x2 ((uH SS).2.2.2.below hb))))
      clear S4 hb
      go_wp2_with fail
      refine hK.out _ _ ?_ (fun hHeld=>?_)
      ·exact ⟨(uH SS).2.1,(uH SS).2.2.1⟩
      clear hK K
      refine wpAnyH_ready (rs:=[16]) (by kernel_rfl) (by simp) ?_
      refine AllReadyH.cons (o:={ dst:=some 58,op:=Op.call { callee:=Callee.value (Operand.func 51),args:=#[Operand.tmp 42,Operand.tmp 45,Operand.tmp 46,Operand.tmp 57],argTypes:=#[24,3,3,37] },type:=24,pos := "ref.go:72",after:=#[{ on:=0,ground:=Ground.data },{ on:=3,ground:=Ground.data },{ on:=4,ground:=Ground.data },{ on:=15,ground:=Ground.data },{ on:=15,ground:=Ground.chain }],guard:=none }) rfl (fun K hK=>?_) AllReadyH.nil
      go_simp
      refine (uH V6 _ _ _ (uH SS).1.2.2.2.1).mono ?_
      rintro e w6 ⟨v6,rfl,⟨po6,pc6,rfl,b6⟩,hb⟩
      clear y0 y1 y2 x1 x2
      have S5:=(uH SS).1.all hb
      have y0:=S5.2.2.1.c0;have y1:=S5.2.2.1.c1;have y2:=S5.2.2.1.c2
      have f0:=S5.2.2.1.free 0;have f1:=S5.2.2.1.free 1;have f2:=S5.2.2.1.free 2
      have P6:=hide (S5.put b6 (uH VL))
      have PC:=hide (((uH SS).2.2.2.below hb).putM S5.2.2.1 (.int .i64 r) (.int .i64 c) (.slice po6 n pc6))
      have HS5:=hide (And.intro (cell_keep (uH SS).2.1 hb) (cell_keep (uH SS).2.2.1 hb))
      have HS6:=hide (And.intro (cell_putM (uH HS5).1 S5.2.2.1 (.int .i64 r) (.int .i64 c) (.slice po6 n pc6)) (cell_putM (uH HS5).2 S5.2.2.1 (.int .i64 r) (.int .i64 c) (.slice po6 n pc6)))
      clear S5 hb b6 SS
      go_wp2_with fail
      refine hK.out _ _ ?_ (fun hHeld=>?_)
      ·exact uH HS5
      clear hK K
      refine wpAnyH_ready (rs:=[17]) (by kernel_rfl) (by simp) ?_
      refine AllReadyH.cons (o:={ dst:=none,op:=Op.store 24 (Operand.tmp 11) (Operand.tmp 58),type:=0,pos := "ref.go:72",after:=#[{ on:=16,ground:=Ground.data },{ on:=16,ground:=Ground.chain },{ on:=0,ground:=Ground.phase },{ on:=1,ground:=Ground.phase },{ on:=2,ground:=Ground.phase },{ on:=3,ground:=Ground.phase },{ on:=4,ground:=Ground.phase },{ on:=5,ground:=Ground.phase },{ on:=6,ground:=Ground.phase },{ on:=7,ground:=Ground.phase },{ on:=8,ground:=Ground.phase },{ on:=9,ground:=Ground.phase },{ on:=10,ground:=Ground.phase },{ on:=11,ground:=Ground.phase },{ on:=12,ground:=Ground.phase },{ on:=13,ground:=Ground.phase },{ on:=14,ground:=Ground.phase },{ on:=15,ground:=Ground.phase },{ on:=16,ground:=Ground.phase }],guard:=none }) rfl (fun K hK=>?_) AllReadyH.nil
      go_simp
      refine hK.out _ _ ?_ (fun hHeld=>?_)
      ·exact uH HS6
      clear hK K
      refine wpAnyH_done (by kernel_rfl) ?_ _
      clear y0 y1 y2 f0 f1 f2 HS5 HS6
      go_wp2_with fail
      go_round
      case rel=>exact ⟨j+1,po6,pc6,by omega,by go_num,P6,PC⟩
      case measure=>simp [intOf];omega
     ·go_simp
      refine (uH V4 _).mono ?_
      rintro e w4 ⟨rfl,hb⟩
      clear y0 y1 y2 x1 x2
      have S4:=(uH SS).1.all hb
      have y0:=S4.2.2.1.c0
      have y1:=S4.2.2.1.c1
      have y2:=S4.2.2.1.c2
      have x1:=cell_keep (uH SS).2.1 hb
      have x2:=cell_keep (uH SS).2.2.1 hb
      replace SS:=hide (And.intro S4 (And.intro x1 (And.intro x2 ((uH SS).2.2.2.below hb))))
      clear S4 hb
      go_wp2_with fail
      refine hK.out _ _ ?_ (fun hHeld=>?_)
      ·exact ⟨(uH SS).2.1,(uH SS).2.2.1⟩
      clear hK K
      refine wpAnyH_ready (rs:=[0,15]) (by kernel_rfl) (by simp) ?_
      refine AllReadyH.cons (o:={ dst:=some 42,op:=Op.load 24 (Operand.tmp 11),type:=24,pos := "ref.go:72",after:=#[],guard:=none }) rfl (fun K hK=>?_) (AllReadyH.cons (o:={ dst:=some 57,op:=Op.call { callee:=Callee.value (Operand.func 49),args:=#[Operand.tmp 50,Operand.tmp 56],argTypes:=#[37,37] },type:=37,pos := "ref.go:72",after:=#[{ on:=8,ground:=Ground.data },{ on:=14,ground:=Ground.data },{ on:=14,ground:=Ground.chain }],guard:=none }) rfl (fun K hK=>?_) AllReadyH.nil)
      ·go_simp
       refine hK.out _ _ ?_ (fun hHeld=>?_)
       ·exact ⟨(uH SS).2.1,(uH SS).2.2.1⟩
       clear hK K
       refine wpAnyH_ready (rs:=[15]) (by kernel_rfl) (by simp) ?_
       refine AllReadyH.cons (o:={ dst:=some 57,op:=Op.call { callee:=Callee.value (Operand.func 49),args:=#[Operand.tmp 50,Operand.tmp 56],argTypes:=#[37,37] },type:=37,pos := "ref.go:72",after:=#[{ on:=8,ground:=Ground.data },{ on:=14,ground:=Ground.data },{ on:=14,ground:=Ground.chain }],guard:=none }) rfl (fun K hK=>?_) AllReadyH.nil
       go_simp
       refine (uH V5 _).mono ?_
       rintro e w5 ⟨rfl,hb⟩
       clear y0 y1 y2 x1 x2
       have S4:=(uH SS).1.all hb
       have y0:=S4.2.2.1.c0
       have y1:=S4.2.2.1.c1
       have y2:=S4.2.2.1.c2
       have x1:=cell_keep (uH SS).2.1 hb
       have x2:=cell_keep (uH SS).2.2.1 hb
       replace SS:=hide (And.intro S4 (And.intro x1 (And.intro x2 ((uH SS).2.2.2.below hb))))
       clear S4 hb
       go_wp2_with fail
       refine hK.out _ _ ?_ (fun hHeld=>?_)
       ·exact ⟨(uH SS).2.1,(uH SS).2.2.1⟩
       clear hK K
       refine wpAnyH_ready (rs:=[16]) (by kernel_rfl) (by simp) ?_
       refine AllReadyH.cons (o:={ dst:=some 58,op:=Op.call { callee:=Callee.value (Operand.func 51),args:=#[Operand.tmp 42,Operand.tmp 45,Operand.tmp 46,Operand.tmp 57],argTypes:=#[24,3,3,37] },type:=24,pos := "ref.go:72",after:=#[{ on:=0,ground:=Ground.data },{ on:=3,ground:=Ground.data },{ on:=4,ground:=Ground.data },{ on:=15,ground:=Ground.data },{ on:=15,ground:=Ground.chain }],guard:=none }) rfl (fun K hK=>?_) AllReadyH.nil
       go_simp
       refine (uH V6 _ _ _ (uH SS).1.2.2.2.1).mono ?_
       rintro e w6 ⟨v6,rfl,⟨po6,pc6,rfl,b6⟩,hb⟩
       clear y0 y1 y2 x1 x2
       have S5:=(uH SS).1.all hb
       have y0:=S5.2.2.1.c0;have y1:=S5.2.2.1.c1;have y2:=S5.2.2.1.c2
       have f0:=S5.2.2.1.free 0;have f1:=S5.2.2.1.free 1;have f2:=S5.2.2.1.free 2
       have P6:=hide (S5.put b6 (uH VL))
       have PC:=hide (((uH SS).2.2.2.below hb).putM S5.2.2.1 (.int .i64 r) (.int .i64 c) (.slice po6 n pc6))
       have HS5:=hide (And.intro (cell_keep (uH SS).2.1 hb) (cell_keep (uH SS).2.2.1 hb))
       have HS6:=hide (And.intro (cell_putM (uH HS5).1 S5.2.2.1 (.int .i64 r) (.int .i64 c) (.slice po6 n pc6)) (cell_putM (uH HS5).2 S5.2.2.1 (.int .i64 r) (.int .i64 c) (.slice po6 n pc6)))
       clear S5 hb b6 SS
       go_wp2_with fail
       refine hK.out _ _ ?_ (fun hHeld=>?_)
       ·exact uH HS5
       clear hK K
       refine wpAnyH_ready (rs:=[17]) (by kernel_rfl) (by simp) ?_
       refine AllReadyH.cons (o:={ dst:=none,op:=Op.store 24 (Operand.tmp 11) (Operand.tmp 58),type:=0,pos := "ref.go:72",after:=#[{ on:=16,ground:=Ground.data },{ on:=16,ground:=Ground.chain },{ on:=0,ground:=Ground.phase },{ on:=1,ground:=Ground.phase },{ on:=2,ground:=Ground.phase },{ on:=3,ground:=Ground.phase },{ on:=4,ground:=Ground.phase },{ on:=5,ground:=Ground.phase },{ on:=6,ground:=Ground.phase },{ on:=7,ground:=Ground.phase },{ on:=8,ground:=Ground.phase },{ on:=9,ground:=Ground.phase },{ on:=10,ground:=Ground.phase },{ on:=11,ground:=Ground.phase },{ on:=12,ground:=Ground.phase },{ on:=13,ground:=Ground.phase },{ on:=14,ground:=Ground.phase },{ on:=15,ground:=Ground.phase },{ on:=16,ground:=Ground.phase }],guard:=none }) rfl (fun K hK=>?_) AllReadyH.nil
       go_simp
       refine hK.out _ _ ?_ (fun hHeld=>?_)
       ·exact uH HS6
       clear hK K
       refine wpAnyH_done (by kernel_rfl) ?_ _
       clear y0 y1 y2 f0 f1 f2 HS5 HS6
       go_wp2_with fail
       go_round
       case rel=>exact ⟨j+1,po6,pc6,by omega,by go_num,P6,PC⟩
       case measure=>simp [intOf];omega
      ·go_simp
       refine (uH V5 _).mono ?_
       rintro e w5 ⟨rfl,hb⟩
       clear y0 y1 y2 x1 x2
       have S4:=(uH SS).1.all hb
       have y0:=S4.2.2.1.c0
       have y1:=S4.2.2.1.c1
       have y2:=S4.2.2.1.c2
       have x1:=cell_keep (uH SS).2.1 hb
       have x2:=cell_keep (uH SS).2.2.1 hb
       replace SS:=hide (And.intro S4 (And.intro x1 (And.intro x2 ((uH SS).2.2.2.below hb))))
       clear S4 hb
       go_wp2_with fail
       refine hK.out _ _ ?_ (fun hHeld=>?_)
       ·exact ⟨(uH SS).2.1,(uH SS).2.2.1⟩
       clear hK K
       refine wpAnyH_ready (rs:=[0]) (by kernel_rfl) (by simp) ?_
       refine AllReadyH.cons (o:={ dst:=some 42,op:=Op.load 24 (Operand.tmp 11),type:=24,pos := "ref.go:72",after:=#[],guard:=none }) rfl (fun K hK=>?_) AllReadyH.nil
       go_simp
       refine hK.out _ _ ?_ (fun hHeld=>?_)
       ·exact ⟨(uH SS).2.1,(uH SS).2.2.1⟩
       clear hK K
       refine wpAnyH_ready (rs:=[16]) (by kernel_rfl) (by simp) ?_
       refine AllReadyH.cons (o:={ dst:=some 58,op:=Op.call { callee:=Callee.value (Operand.func 51),args:=#[Operand.tmp 42,Operand.tmp 45,Operand.tmp 46,Operand.tmp 57],argTypes:=#[24,3,3,37] },type:=24,pos := "ref.go:72",after:=#[{ on:=0,ground:=Ground.data },{ on:=3,ground:=Ground.data },{ on:=4,ground:=Ground.data },{ on:=15,ground:=Ground.data },{ on:=15,ground:=Ground.chain }],guard:=none }) rfl (fun K hK=>?_) AllReadyH.nil
       go_simp
       refine (uH V6 _ _ _ (uH SS).1.2.2.2.1).mono ?_
       rintro e w6 ⟨v6,rfl,⟨po6,pc6,rfl,b6⟩,hb⟩
       clear y0 y1 y2 x1 x2
       have S5:=(uH SS).1.all hb
       have y0:=S5.2.2.1.c0;have y1:=S5.2.2.1.c1;have y2:=S5.2.2.1.c2
       have f0:=S5.2.2.1.free 0;have f1:=S5.2.2.1.free 1;have f2:=S5.2.2.1.free 2
       have P6:=hide (S5.put b6 (uH VL))
       have PC:=hide (((uH SS).2.2.2.below hb).putM S5.2.2.1 (.int .i64 r) (.int .i64 c) (.slice po6 n pc6))
       have HS5:=hide (And.intro (cell_keep (uH SS).2.1 hb) (cell_keep (uH SS).2.2.1 hb))
       have HS6:=hide (And.intro (cell_putM (uH HS5).1 S5.2.2.1 (.int .i64 r) (.int .i64 c) (.slice po6 n pc6)) (cell_putM (uH HS5).2 S5.2.2.1 (.int .i64 r) (.int .i64 c) (.slice po6 n pc6)))
       clear S5 hb b6 SS
       go_wp2_with fail
       refine hK.out _ _ ?_ (fun hHeld=>?_)
       ·exact uH HS5
       clear hK K
       refine wpAnyH_ready (rs:=[17]) (by kernel_rfl) (by simp) ?_
       refine AllReadyH.cons (o:={ dst:=none,op:=Op.store 24 (Operand.tmp 11) (Operand.tmp 58),type:=0,pos := "ref.go:72",after:=#[{ on:=16,ground:=Ground.data },{ on:=16,ground:=Ground.chain },{ on:=0,ground:=Ground.phase },{ on:=1,ground:=Ground.phase },{ on:=2,ground:=Ground.phase },{ on:=3,ground:=Ground.phase },{ on:=4,ground:=Ground.phase },{ on:=5,ground:=Ground.phase },{ on:=6,ground:=Ground.phase },{ on:=7,ground:=Ground.phase },{ on:=8,ground:=Ground.phase },{ on:=9,ground:=Ground.phase },{ on:=10,ground:=Ground.phase },{ on:=11,ground:=Ground.phase },{ on:=12,ground:=Ground.phase },{ on:=13,ground:=Ground.phase },{ on:=14,ground:=Ground.phase },{ on:=15,ground:=Ground.phase },{ on:=16,ground:=Ground.phase }],guard:=none }) rfl (fun K hK=>?_) AllReadyH.nil
       go_simp
       refine hK.out _ _ ?_ (fun hHeld=>?_)
       ·exact uH HS6
       clear hK K
       refine wpAnyH_done (by kernel_rfl) ?_ _
       clear y0 y1 y2 f0 f1 f2 HS5 HS6
       go_wp2_with fail
       go_round
       case rel=>exact ⟨j+1,po6,pc6,by omega,by go_num,P6,PC⟩
       case measure=>simp [intOf];omega
    ·have hjj:j = m:=by omega
     subst hjj
     have hjI:¬ (j:Int) < (j:Int):=by omega
     rw [uH WN] at hS
     go_wp2_with fail
     go_round
     case rel=>exact ⟨d+1,qo,qc,by omega,by omega,by go_num,by rw [hTN];exact hS⟩
     case measure=>simp [intOf];omega
  ·have hdd:d = c:=by omega
   subst hdd
   obtain ⟨h1,h2,h3,h4,h5,h6⟩:=uH hS
   have t1:=h1.c1
   have z0':=h3.c0;have z1':=h3.c1;have z2':=h3.c2
   have r0:=h2.c0;have r1:=h2.c1;have r2:=h2.c2
   have f0:=h2.free 0;have f1:=h2.free 1;have f2:=h2.free 2
   have XP:=h2.put (.int .i64 r) (.int .i64 d) (.slice po n pc)
   have z0:=XP.c0;have z1:=XP.c1;have z2:=XP.c2
   have Q:=hide (h4.putM h2 (.int .i64 r) (.int .i64 d) (.slice po n pc))
   have BP:=hide (below_putM h6 (b:=w.heap.size+1) (by omega) (.int .i64 r) (.int .i64 d) (.slice po n pc))
   clear XP hS h1 h2 h3 h4 h5 h6
   go_wp2_with fail
   exact bodyPost_ret (v:=.agg #[.int .i64 r,.int .i64 d,.slice po n pc]) (by simp [results,Tryz.results156,go_sem,z0,z1,z2]) rfl ⟨po,pc,rfl,uH Q,uH BP⟩
end Go.Proofs.YtlnphkioddknfaaGreatDoor
namespace Go.Proofs.YtlnphkioddknfaaGreatDoor
open Go.RowKit
theorem BitsAt.front {w:World} {ao:Option Addr} {cap:Nat} {I J:List Int} (h:BitsAt w ao cap I) (hl:J.length≤I.length) (he:∀ j,j < J.length→J[j]? = I[j]?):BitsAt w ao cap J:=by
 refine ⟨Nat.le_trans hl h.1,fun x hx=>?_,?_⟩
 ·obtain ⟨j,hj,rfl⟩:=List.getElem_of_mem hx
  have e:=he j hj
  rw [List.getElem?_eq_getElem hj] at e
  exact h.2.1 _ (List.mem_of_getElem? e.symm)
 ·rcases Nat.eq_zero_or_pos J.length with g | g
  ·exact .inl (List.eq_nil_of_length_eq_zero g)
  ·obtain ⟨b,off,e1,e2,e3⟩:=h.2.2.resolve_left (fun e=>by rw [e,List.length_nil] at hl;omega)
   refine .inr ⟨b,off,e1,e2,fun j hj=>?_⟩
   rw [e3 j (by omega),he j hj]
theorem dtV_lt:∀ (xs ys:List Nat) (s:Nat),s < 18446744073709551616→dtV s xs ys < 18446744073709551616:=by
 intro xs
 induction xs with
 | nil=>intro ys s h;exact h
 | cons x xs ih =>
  intro ys s h
  match ys with
  | []=>exact h
  | y :: ys=>exact ih ys _ (aV_lt _ _ h (mV_lt _ _))
theorem col_front (c:Nat) (S:List Nat) (i q:Nat) {m l:Nat} (h:m≤l):∀ j,j < (mxL (colL c S i m q)).length→(mxL (colL c S i m q))[j]? = (mxL (colL c S i l q))[j]?:=by
 intro j hj
 rw [mxL_len,colL_len] at hj
 unfold mxL colL
 rw [List.getElem?_map,List.getElem?_map,List.getElem?_map,List.getElem?_map,List.getElem?_range hj,List.getElem?_range (show j < l by omega)]
theorem rapply13_any (r c cap i k tau:Nat) (ao vo:Option Addr) (vc:Nat) (S vs:List Nat) (w:World) (h:Mx w ao cap r c S) (hv:BitsAt w vo vc (mxL vs)) (hi:i+vs.length≤r) (hk:k≤c) (ht:tau < 18446744073709551616) :
  Calls Tryz.prog 156 #[.agg #[.int .i64 r,.int .i64 c,.slice ao S.length cap],.int .i64 i,.int .i64 k,.slice vo vs.length vc,.int .u64 tau] w fun e w'=>∃ po pc,e = .returned (.agg #[.int .i64 r,.int .i64 c,.slice po S.length pc])∧BitsAt w' po pc (mxL (apM r c S i k vs tau))∧Below w.heap.size w w':=by
 have c6:=h.2.2.2
 have r6:=h.2.2.1
 have lJ:∀ d j,(apJ r c S i k vs tau d j).length = S.length:=fun d j=>by rw [apJ_len,h.2.1]
 have hvl:∀ j,vs.getD j 0 < 18446744073709551616:=fun j=>by
  have:=hv.lt j
  rwa [mxL_at] at this
 rw [← apJ_all r c S i k vs tau c (Nat.le_refl _)]
 refine rapply13_of r c S.length cap i k vs.length tau ao vo vc (fun d j=>apJ r c S i k vs tau d j) (fun d=>colL c S i (r - i) d) (fun j=>vs.getD j 0) (fun d=>dtV 0 vs (colL c S i vs.length d)) (fun d=>mV tau (dtV 0 vs (colL c S i vs.length d))) (fun d j=>mV (mV tau (dtV 0 vs (colL c S i vs.length d))) (vs.getD j 0)) (fun d j=>(apL c S i d vs tau).getD j 0) w c6 r6 hk hi (by show BitsAt w ao cap (mxL (apJ r c S i k vs tau k 0));rw [apJ_0 r c S i k vs tau h.2.1];exact h.1) lJ (fun d=>apJ_next r c S i k vs tau d) (fun d=>colL_len _ _ _ _ _) (fun w' hb j hj=>?_) (fun w' d hb hd=>?_) (fun w' d bo dd hb hd hc=>?_) (fun w' d hd=>?_) (fun w' d j hd hj=>?_) (fun w' d j hd hj=>?_) (fun w' d j qo qc hkd hd hj hq=>?_)
 ·obtain ⟨b,off,e1,_,e3⟩:=(hv.below hb).ne (by rw [mxL_len];omega)
  refine ⟨b,off,e1,?_⟩
  rw [e3 j (by rw [mxL_len];exact hj),mxL_at]
 ·exact rcolF_any r c cap d i ao S w' (h.below hb) hd (by omega)
 ·have hf:=hc.front (J:=mxL (colL c S i vs.length d)) (by rw [mxL_len,mxL_len,colL_len,colL_len];omega) (col_front c S i d (by omega))
  have:=r9dot_any vo bo vc dd (mxL vs) (mxL (colL c S i vs.length d)) w' (hv.below hb) hf (by rw [mxL_len,mxL_len,colL_len]) (by rw [mxL_len];omega)
  rw [dtK_dtV (mxL vs) (mxL (colL c S i vs.length d)) (mxL vs).length (Nat.le_refl _) (by rw [mxL_len,mxL_len,colL_len];exact Nat.le_refl _),toN_mxL,toN_mxL,mxL_len,mxL_len,colL_len,List.take_of_length_le (Nat.le_refl _),List.take_of_length_le (by rw [colL_len];exact Nat.le_refl _)] at this
  exact this
 ·exact r9mul_any tau _ w' ht (dtV_lt _ _ _ (by decide))
 ·exact r9mul_any _ _ w' (mV_lt _ _) (hvl j)
 ·show Calls Tryz.prog 49 #[.int .u64 ((colL c S i (r - i) d).getD j 0:Nat),_] w' _
  rw [colL_at c S i (r - i) d (show j < r - i by omega),apL_at c S i d vs tau hj]
  exact r9sub_any _ _ w' (h.el_lt _ _) (mV_lt _ _)
 ·have hX:Mx w' qo qc r c (apJ r c S i k vs tau d j):=⟨hq,apJ_len _ _ _ _ _ _ _ _ _,r6,c6⟩
  have:=rwith_any r c qc (i+j) d ((apL c S i d vs tau).getD j 0) qo _ w' hX (by omega) hd (apL_lt c S i d vs tau hj (fun p q=>h.el_lt p q))
  rw [lJ d j] at this
  refine this.mono ?_
  rintro e w'' ⟨v,rfl,⟨po,pc,rfl,_,b5⟩,hb⟩
  rw [apJ_set r c S hi hd hkd hj] at b5 ⊢
  exact ⟨_,rfl,⟨po,pc,by rw [lJ d (j+1)],b5⟩,hb⟩
end Go.Proofs.YtlnphkioddknfaaGreatDoor
