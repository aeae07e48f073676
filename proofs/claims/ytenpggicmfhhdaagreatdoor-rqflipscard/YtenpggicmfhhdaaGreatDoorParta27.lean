/- Part 27 of the texts. -/
import Derived.Test.YtenpggicmfhhdaaGreatDoorParta26
import Derived.Deep.RegionLaw
import Derived.Test.YtenpggicmfhhdaaGreatDoorParta04
import Derived.Test.YtenpggicmfhhdaaGreatDoorParta23
import Derived.Test.YtenpggicmfhhdaaGreatDoorParta24
import Derived.Test.YtenpggicmfhhdaaGreatDoorParta25
import Derived.Test.YtenpggicmfhhdaaGreatDoorParta13
set_option maxHeartbeats 4000000
set_option maxRecDepth 20000
namespace Go.Proofs.YtenpggicmfhhdaaGreatDoor
open Go.RowKit
attribute [local go_sem ↓] Go.wp_at_zero Go.wp_at_succ
theorem rright_any (r c:Int) (ao:Option Addr) (n cap:Nat) (w:World) :
  Calls Tryz.prog 8 #[.agg #[.int .i64 r,.int .i64 c,.slice ao n cap]] w fun e w'=>e = .returned (.bool (okB r c n))∧Below w.heap.size w w':=by
 have hb0:=hide (below_alloc9 w (.cells #[.int .i64 r,.int .i64 c,.slice ao n cap] 24))
 rcases (show (r < 0∧okB r c n = false) ∨ (0≤r∧6 < r∧okB r c n = false) ∨ (0≤r∧r≤6∧c < 0∧okB r c n = false) ∨ (0≤r∧r≤6∧0≤c∧6 < c∧okB r c n = false) ∨ (0≤r∧r≤6∧0≤c∧c≤6) by
  unfold okB
  by_cases h:0≤r∧r≤6∧0≤c∧c≤6
  ·omega
  ·rw [decide_eq_false (fun g=>h g.1)];simp;omega) with ⟨h1,e⟩ | ⟨h1,h2,e⟩ | ⟨h1,h2,h3,e⟩ | ⟨h1,h2,h3,h4,e⟩ | ⟨h1,h2,h3,h4⟩
 ·rw [e]
  clear e
  go_enter Tryz.func8,Tryz.ntmps8
  go_wp2
  go_ret
  exact ⟨rfl,uH hb0⟩
 ·rw [e]
  clear e
  go_enter Tryz.func8,Tryz.ntmps8
  go_wp2
  go_ret
  exact ⟨rfl,uH hb0⟩
 ·rw [e]
  clear e
  go_enter Tryz.func8,Tryz.ntmps8
  go_wp2
  go_ret
  exact ⟨rfl,uH hb0⟩
 ·rw [e]
  clear e
  go_enter Tryz.func8,Tryz.ntmps8
  go_wp2
  go_ret
  exact ⟨rfl,uH hb0⟩
 ·have hm:∃ m:Nat,r * c = (m:Int)∧m≤36:=by
   obtain ⟨a,rfl⟩:=Int.eq_ofNat_of_zero_le h1
   obtain ⟨b,rfl⟩:=Int.eq_ofNat_of_zero_le h3
   refine ⟨a * b,by simp,?_⟩
   have:a * b≤6 * 6:=Nat.mul_le_mul (by omega) (by omega)
   omega
  obtain ⟨m,hm,h36⟩:=hm
  have e2:okB r c n = decide ((n:Int) = (m:Int)):=decide_eq_decide.2 (by rw [hm];exact ⟨fun h=>h.2,fun h=>⟨⟨h1,h2,h3,h4⟩,h⟩⟩)
  rw [e2]
  clear e2
  go_enter Tryz.func8,Tryz.ntmps8
  go_wp2
  go_ret
  refine ⟨?_,uH hb0⟩
  first | rfl | simp
theorem rat_of (r c n cap b off i k q x:Nat) (w:World) (hq:(i:Int) * (c:Int) = (q:Int)) (hlt:q+k < n) (hn:n≤36)
  (hx:w.cell? ⟨b,off+(q+k),none⟩ = some (.int .u64 (x:Nat))) :
  Calls Tryz.prog 18 #[.agg #[.int .i64 r,.int .i64 c,.slice (some ⟨b,off,none⟩) n cap],.int .i64 i,.int .i64 k] w fun e w'=>e = .returned (.int .u64 (x:Nat))∧Below w.heap.size w w':=by
 have hb0:=hide (below_alloc9 w (.cells #[.int .i64 r,.int .i64 c,.slice (some ⟨b,off,none⟩) n cap] 24))
 have cx:=cell_keep hx (uH hb0)
 clear hx
 have hkI:(q:Int)+(k:Int) < (n:Int):=by omega
 go_enter Tryz.func18,Tryz.ntmps18
 go_wp2
 go_ret
 exact ⟨rfl,uH hb0⟩
theorem rat_any (r c cap i k:Nat) (ao:Option Addr) (S:List Nat) (w:World) (h:Mx w ao cap r c S) (hi:i < r) (hk:k < c) :
  Calls Tryz.prog 18 #[.agg #[.int .i64 r,.int .i64 c,.slice ao S.length cap],.int .i64 i,.int .i64 k] w fun e w'=>e = .returned (.int .u64 (elM c S i k:Nat))∧Below w.heap.size w w':=by
 obtain ⟨b,off,rfl,h2,h3,h4⟩:=h.cells hi hk
 exact rat_of r c S.length cap b off i k (i * c) _ w (cast_mul10 i c) h4 h.small h3
theorem rrow_of (r c n cap i q p:Nat) (ao:Option Addr) (w:World) (hq:(i:Int) * (c:Int) = (q:Int)) (hp:((i:Int)+1) * (c:Int) = (p:Int)) (hqp:q≤p) (hlt:p≤n) (hnc:n≤cap) (hn:n≤36) (hi:i≤6) :
  Calls Tryz.prog 31 #[.agg #[.int .i64 r,.int .i64 c,.slice ao n cap],.int .i64 i] w fun e w'=>e = .returned (.slice (if cap = q then ao else ao.map (·.add (q * 1))) (p - q) (cap - q))∧Below w.heap.size w w':=by
 have hb0:=hide (below_alloc9 w (.cells #[.int .i64 r,.int .i64 c,.slice ao n cap] 24))
 by_cases h:cap = q
 ·subst h
  rw [if_pos rfl]
  go_enter Tryz.func31,Tryz.ntmps31
  go_wp2
  go_ret
  exact ⟨by simp,uH hb0⟩
 ·rw [if_neg h]
  go_enter Tryz.func31,Tryz.ntmps31
  go_wp2
  go_ret
  exact ⟨by simp,uH hb0⟩
theorem rrow_any (r c cap i:Nat) (ao:Option Addr) (S:List Nat) (w:World) (h:Mx w ao cap r c S) (hi:i < r) :
  Calls Tryz.prog 31 #[.agg #[.int .i64 r,.int .i64 c,.slice ao S.length cap],.int .i64 i] w fun e w'=>∃ bo d,e = .returned (.slice bo c d)∧BitsAt w' bo d (mxL (rwL c S i))∧Below w.heap.size w w':=by
 have hp:(i+1) * c≤S.length:=by rw [h.2.1];exact Nat.mul_le_mul_right c hi
 have hq:i * c≤(i+1) * c:=Nat.mul_le_mul_right c (by omega)
 have hc:=h.1.1
 rw [mxL_len] at hc
 have h6:=h.2.2.1
 refine (rrow_of r c S.length cap i (i * c) ((i+1) * c) ao w (cast_mul10 i c) (by simp) hq hp hc h.small (by omega)).mono ?_
 rintro e w' ⟨rfl,hb⟩
 rw [show (i+1) * c - i * c = c by rw [Nat.add_mul,Nat.one_mul];omega]
 exact ⟨_,_,rfl,row_bits h hb hi,hb⟩
theorem rzeros_any (r c:Nat) (w:World) (hr:r≤6) (hc:c≤6) :
  Calls Tryz.prog 44 #[.int .i64 r,.int .i64 c] w fun e w'=>∃ v,e = .returned v∧NewM w.heap.size w' r c (List.replicate (r * c) 0) v∧Below w.heap.size w w':=by
 have hm:(r:Int) * (c:Int) = ((r * c:Nat):Int):=cast_mul10 r c
 have h36:r * c≤36:=Nat.mul_le_mul hr hc
 have hmk:=run_make_row' (P:=Tryz.prog) 22 30 (.int .u64 0) 8 Tryz.underlying22 (by kernel_rfl) rfl .i64 .i64 (r * c) (by omega) (by omega)
 generalize hrc:r * c = n at *
 clear hrc
 have b0:=below_alloc9 w (.cells #[.int .i64 r,.int .i64 c,.slice (some ⟨w.heap.size+1,0,none⟩) n n] 24)
 have s0:=size_alloc9 w (.cells #[.int .i64 r,.int .i64 c,.slice (some ⟨w.heap.size+1,0,none⟩) n n] 24)
 have b1:=below_alloc9 (w.alloc (.cells #[.int .i64 r,.int .i64 c,.slice (some ⟨w.heap.size+1,0,none⟩) n n] 24)) (.cells (madeCells #[.int .u64 0] n) 30)
 have RB:=RowB.made (w.alloc (.cells #[.int .i64 r,.int .i64 c,.slice (some ⟨w.heap.size+1,0,none⟩) n n] 24)) n
 have BP:=hide (b0.trans (b1.mono b0.size))
 have q1:=RB.bits (fun x hx=>by rw [(List.mem_replicate.1 hx).2];decide)
 rw [s0,List.length_replicate] at q1
 have Q:=hide q1
 clear b0 b1 RB q1 s0
 go_enter Tryz.func44,Tryz.ntmps44
 go_wp2
 exact bodyPost_ret (v:=.agg #[.int .i64 r,.int .i64 c,.slice (some ⟨w.heap.size+1,0,none⟩) n n]) (by simp [results,Tryz.results44,go_sem]) rfl ⟨_,rfl,⟨some ⟨w.heap.size+1,0,none⟩,n,by rw [List.length_replicate],.inr ⟨_,_,rfl,by omega⟩,uH Q⟩,uH BP⟩
end Go.Proofs.YtenpggicmfhhdaaGreatDoor
namespace Go.Proofs.YtenpggicmfhhdaaGreatDoor
open Go.RowKit
attribute [local go_sem ↓] Go.wp_at_zero Go.wp_at_succ
theorem OwnB.at {base:Nat} {w:World} {ao:Option Addr} {n cap:Nat} {S:List Nat} (h:OwnB base w (.slice ao n cap) S) {j:Nat} (hj:j < S.length) :
  ∃ g,ao = some ⟨g,0,none⟩∧base≤g∧g < w.heap.size∧w.cell? ⟨g,j,none⟩ = some (.int .u64 (S.getD j 0:Nat))∧w.frozen? ⟨g,j,none⟩ = false ∧
   ∀ x,x < 18446744073709551616→OwnB base (w.setCell ⟨g,j,none⟩ (.int .u64 (x:Nat))) (.slice ao n cap) (S.set j x):=by
 obtain ⟨⟨h1,h2⟩,h3⟩:=h
 rcases h2 with ⟨_,h0⟩ | ⟨g,cap',cur,hv,hg,hh,hc,hm,hs,ht⟩
 ·omega
 ·simp only [Value.slice.injEq] at hv
  obtain ⟨rfl,rfl,rfl⟩:=hv
  have q:(S.map bitV)[j]? = some (.int .u64 ((S[j]:Nat):Int)):=by
   rw [List.getElem?_map,List.getElem?_eq_getElem hj];rfl
  rw [← ht,List.getElem?_take,if_pos (by omega)] at q
  refine ⟨g,rfl,hg,(Array.getElem?_eq_some_iff.1 hh).1,?_,frozen_of_row w g j _ _ hh,fun x hx=>⟨⟨by simp,.inr ⟨g,cap,cur.setIfInBounds j (.int .u64 (x:Nat)),?_,hg,heap_setCell_same w g j _ _ _ hh,by simpa using hc,hm,by simpa using hs,?_⟩⟩,?_⟩⟩
  ·rw [cell_of_row w g j _ _ _ hh]
   have e:S.getD j 0 = S[j]:=by rw [List.getD_eq_getElem?_getD,List.getElem?_eq_getElem hj];rfl
   rw [e]
   simpa using q
  ·simp
  ·rw [Array.toList_setIfInBounds,List.take_set,List.length_set,ht,List.map_set]
   rfl
  ·intro y hy
   rcases List.mem_or_eq_of_mem_set hy with e | e
   ·exact h3 y e
   ·rw [e];exact hx
theorem rwith_of (r c n cap i k q x g:Nat) (ao:Option Addr) (po:Option Addr) (pc:Nat) (S:List Nat) (w w1:World) (hl:S.length = n) (hq:(i:Int) * (c:Int) = (q:Int)) (hlt:q+k < n) (hn:n≤36) (hx:x < 18446744073709551616)
  (run:(Builtin.append_ #[22,22] 22 #[.slice (some ⟨w.heap.size+1+1,0,none⟩) 0 0,.slice ao n cap]).run Tryz.prog (((w.alloc (.cells #[.int .i64 r,.int .i64 c,.slice ao n cap] 24)).alloc (.cells #[.int .i64 0,.int .i64 0,.slice none 0 0] 24)).alloc (.cells #[] 30)) = .ok (.slice po n pc) w1)
  (hO:OwnB (w.heap.size+1+1) w1 (.slice po n pc) S) (hB:Below (w.heap.size+1+1) ((w.alloc (.cells #[.int .i64 r,.int .i64 c,.slice ao n cap] 24)).alloc (.cells #[.int .i64 0,.int .i64 0,.slice none 0 0] 24)) w1) (hp:po = some ⟨g,0,none⟩) :
  Calls Tryz.prog 45 #[.agg #[.int .i64 r,.int .i64 c,.slice ao n cap],.int .i64 i,.int .i64 k,.int .u64 x] w fun e w'=>∃ v,e = .returned v∧NewM w.heap.size w' r c (S.set (q+k) x) v∧Below w.heap.size w w':=by
 have RUN:=hide run
 obtain ⟨hB1,hA,hX⟩:=boxes2 w _ _ _ _ _ _ w1 hB
 obtain ⟨g',e1,hg,hlt2,cx,fx,put⟩:=hO.at (j:=q+k) (by omega)
 rw [hp] at e1
 simp only [Option.some.injEq,Addr.mk.injEq] at e1
 obtain ⟨rfl,_⟩:=e1
 subst hp
 have O2:=put x hx
 have hA2:=hA.other (p:=⟨g,q+k,none⟩) (by show w.heap.size ≠ g;omega) (.int .u64 (x:Nat))
 have hX2:=hX.other (p:=⟨g,q+k,none⟩) (by show w.heap.size+1 ≠ g;omega) (.int .u64 (x:Nat))
 have hB2:=hB1.setCell (p:=⟨g,q+k,none⟩) (by show w.heap.size≤g;omega) (.int .u64 (x:Nat))
 have c0:=hA.c0;have c1:=hA.c1;have c2:=hA.c2
 have y0:=hA2.c0;have y1:=hA2.c1;have y2:=hA2.c2
 have u0:=hX2.c0;have u1:=hX2.c1;have u2:=hX2.c2
 have f0:=hX2.free 0;have f1:=hX2.free 1;have f2:=hX2.free 2
 have XP:=hX2.put (.int .i64 r) (.int .i64 c) (.slice (some ⟨g,0,none⟩) n pc)
 have z0:=XP.c0;have z1:=XP.c1;have z2:=XP.c2
 obtain ⟨bo',d',e2,q2⟩:=O2.bits
 have HN:=hide (O2.newB.least (H':=w.heap.size) (by omega))
 rw [List.length_set,hl] at e2
 simp only [Value.slice.injEq] at e2
 obtain ⟨rfl,_,rfl⟩:=e2
 have Q:=hide (BitsAt.putM q2 hX2 (.int .i64 r) (.int .i64 c) (.slice (some ⟨g,0,none⟩) n pc))
 have BP:=hide (below_putM hB2 (b:=w.heap.size+1) (by omega) (.int .i64 r) (.int .i64 c) (.slice (some ⟨g,0,none⟩) n pc))
 have hkI:(q:Int)+(k:Int) < (n:Int):=by omega
 have HL:=hide hl
 generalize S.getD (q+k) 0 = old at *
 clear run hO hB hB1 hA hX hA2 hX2 hB2 XP O2 q2 put hl hg
 go_enter Tryz.func45,Tryz.ntmps45
 go_wp2_with (at_builtin;refine wpList_append_ran _ rfl _ _ 22 rfl _ _ _ _ rfl rfl (uH RUN) ?_;clear RUN)
 exact bodyPost_ret (v:=.agg #[.int .i64 r,.int .i64 c,.slice (some ⟨g,0,none⟩) n pc]) (by simp [results,Tryz.results45,go_sem,z0,z1,z2]) rfl ⟨_,rfl,⟨some ⟨g,0,none⟩,pc,by rw [List.length_set,uH HL],uH HN,uH Q⟩,uH BP⟩
end Go.Proofs.YtenpggicmfhhdaaGreatDoor
namespace Go.Proofs.YtenpggicmfhhdaaGreatDoor
open Go.RowKit
attribute [local go_sem ↓] Go.wp_at_zero Go.wp_at_succ
theorem step_append_ex {P:Program} (w:World) {ops:Array Oper} {o:Oper} {a:Act} {K:Act→World→Prop} {Q:Exit→Act→World→Prop} {E:Prop} (hgd:o.guard = none) (s x:Operand) (t:TypeId)
  (ho:o.op = .call { callee:=.builtin .append,args:=#[s,x],argTypes:=#[t,t] }) (v1 v2:Value) (n:Nat) (F:Option Addr→Nat→World→Prop) (hs:a.eval s = v1) (hx:a.eval x = v2)
  (hr:∃ po pc w',(Builtin.append_ #[t,t] o.type #[v1,v2]).run P w = .ok (.slice po n pc) w'∧F po pc w') (h:∀ po pc w',F po pc w'→K (a.put o.dst (.slice po n pc)) w') :
  if Region.wanted o (yielded ops a.tmps) = true then Oper.wp P o a w K Q else E:=by
 have hw:Region.wanted o (yielded ops a.tmps) = true:=by simp [Region.wanted,hgd]
 rw [if_pos hw]
 obtain ⟨po,pc,w',hrun,hF⟩:=hr
 unfold Oper.wp execOp
 simp only [ho,resolve,invoke,builtin,Sem.run_bind,Sem.run_pure,Result.andThen_ok,List.map_toArray,List.map_cons,List.map_nil,hs,hx,hrun]
 exact h po pc w' hF
theorem append_nilc (w:World) (ty:TypeId) (po:Option Addr) (n pc c:Nat) (h:n≤pc) :
  (Builtin.append_ #[22,22] ty #[.slice po n pc,.slice none 0 c]).run Tryz.prog w = .ok (.slice po n pc) w:=by
 cases po
 all_goals
  simp [Builtin.append_,go_sem]
  omega
theorem append_bits (w:World) (base:Nat) (ty:TypeId) (v:Value) (S:List Nat) (ao:Option Addr) (c:Nat) (T:List Nat) (hv:OwnB base w v S) (h:BitsAt w ao c (mxL T)) (hl:S.length+T.length≤1000000) (hbase:base≤w.heap.size) :
  ∃ po pc w',(Builtin.append_ #[22,22] ty #[v,.slice ao T.length c]).run Tryz.prog w = .ok (.slice po (S.length+T.length) pc) w'∧OwnB base w' (.slice po (S.length+T.length) pc) (S ++ T)∧w.grownBy w' v.ownBlock:=by
 obtain ⟨i0,hi,hz0,hz1,hz2⟩:=info_parts infoBits
 cases ao with
 | none =>
  have e:T = []:=by
   rcases h.2.2 with e | ⟨b,off,e,_⟩
   ·cases T with
    | nil=>rfl
    | cons x T=>cases e
   ·cases e
  subst e
  obtain ⟨po,pc,rfl,hq⟩:=hv.bits
  refine ⟨po,pc,w,append_nilc w ty po S.length pc c (by have:=hq.1;simpa using this),by simpa using hv,?_⟩
  exact ⟨rfl,rfl,rfl,Nat.le_refl _,fun k _ _=>rfl⟩
 | some a =>
  have hnews:∀ j u,(T.map bitV)[j]? = some u→w.cell? (a.add j) = some u:=by
   intro j u hu
   rw [List.getElem?_map] at hu
   have hj:j < T.length:=by
    rcases Nat.lt_or_ge j T.length with e | e
    ·exact e
    ·rw [List.getElem?_eq_none e] at hu;cases hu
   obtain ⟨b,off,e1,e2,e3⟩:=h.ne (by rw [mxL_len];omega)
   cases e1
   rw [show (⟨b,off,none⟩:Addr).add j = ⟨b,off+j,none⟩ by simp [Addr.add],e3 j (by rw [mxL_len];exact hj),mxL_at]
   rw [← hu]
   simp [hj,bitV,List.getD_eq_getElem?_getD]
  obtain ⟨v',w',e1,e2,e3,e4,e5⟩:=run_append_own_at (P:=Tryz.prog) w base 22 ty 30 i0 (.int .u64 0) 1 8 Tryz.underlying22 hi hz0 hz1 hz2 rfl (by decide) v S.length (S.map bitV) hv.1 a T.length c (T.map bitV) (by simp) hnews (fun u hu=>by
   obtain ⟨x,_,rfl⟩:=List.mem_map.1 hu
   rfl) (by unfold maxLen;omega) (by omega) hbase
  have ho:OwnB base w' v' (S ++ T):=⟨by
   rw [List.length_append]
   simpa using e2,fun x hx=>by
    rcases List.mem_append.1 hx with g | g
    ·exact hv.2 x g
    ·exact h.nat x g⟩
  obtain ⟨po,pc,rfl,_⟩:=ho.bits
  rw [List.length_append] at e1 ho
  exact ⟨po,pc,w',e1,ho,e3⟩
theorem rwith_any (r c cap i k x:Nat) (ao:Option Addr) (S:List Nat) (w:World) (h:Mx w ao cap r c S) (hi:i < r) (hk:k < c) (hx:x < 18446744073709551616) :
  Calls Tryz.prog 45 #[.agg #[.int .i64 r,.int .i64 c,.slice ao S.length cap],.int .i64 i,.int .i64 k,.int .u64 x] w fun e w'=>∃ v,e = .returned v∧NewM w.heap.size w' r c (S.set (i * c+k) x) v∧Below w.heap.size w w':=by
 have hp:i * c+k < S.length:=by rw [h.2.1];exact place_lt hi hk
 have h36:=h.small
 have b0:=below_alloc9 w (.cells #[.int .i64 r,.int .i64 c,.slice ao S.length cap] 24)
 have s0:=size_alloc9 w (.cells #[.int .i64 r,.int .i64 c,.slice ao S.length cap] 24)
 have b1:=below_alloc9 (w.alloc (.cells #[.int .i64 r,.int .i64 c,.slice ao S.length cap] 24)) (.cells #[.int .i64 0,.int .i64 0,.slice none 0 0] 24)
 have s1:=size_alloc9 (w.alloc (.cells #[.int .i64 r,.int .i64 c,.slice ao S.length cap] 24)) (.cells #[.int .i64 0,.int .i64 0,.slice none 0 0] 24)
 have bb:=b0.trans (b1.mono b0.size)
 have b2:=below_alloc9 ((w.alloc (.cells #[.int .i64 r,.int .i64 c,.slice ao S.length cap] 24)).alloc (.cells #[.int .i64 0,.int .i64 0,.slice none 0 0] 24)) (.cells #[] 30)
 have on:=OwnB.nil ((w.alloc (.cells #[.int .i64 r,.int .i64 c,.slice ao S.length cap] 24)).alloc (.cells #[.int .i64 0,.int .i64 0,.slice none 0 0] 24)) (w.heap.size+1+1) (by rw [s1,s0];omega)
 have bits:=(h.1.below bb).below b2
 obtain ⟨po,pc,w1,run,own,gr⟩:=copy_bits _ (w.heap.size+1+1) 22 ao cap (mxL S) _ bits (by rw [mxL_len];omega) on.1 (by simp)
 rw [natL_mxL,mxL_len] at *
 have bel:=(b2.mono (Nat.le_of_eq (by rw [s1,s0]))).grown gr (by simp) (fun g hg=>by cases hg;rw [s1,s0];exact Nat.le_refl _)
 rw [s1,s0] at run
 obtain ⟨g,hg,_⟩:=own.at hp
 exact rwith_of r c S.length cap i k (i * c) x g ao po pc S w w1 rfl (cast_mul10 i c) hp h36 hx run own bel hg
theorem rsame_any (r c:Int) (ao bo:Option Addr) (cap d:Nat) (S:List Nat) (w:World) (h:BitsAt w ao cap (mxL S)) (h2:BitsAt w bo d (mxL S)) (hl:S.length≤1000000) :
  Calls Tryz.prog 9 #[.agg #[.int .i64 r,.int .i64 c,.slice ao S.length cap],.agg #[.int .i64 r,.int .i64 c,.slice bo S.length d]] w fun e w'=>e = .returned (.bool true)∧Below w.heap.size w w':=by
 have b0:=below_alloc9 w (.cells #[.int .i64 r,.int .i64 c,.slice ao S.length cap] 24)
 have b1:=below_alloc9 (w.alloc (.cells #[.int .i64 r,.int .i64 c,.slice ao S.length cap] 24)) (.cells #[.int .i64 r,.int .i64 c,.slice bo S.length d] 24)
 have bb:=b0.trans (b1.mono b0.size)
 have K:=hide (same_any ao bo cap d (mxL S) _ (h.below bb) (h2.below bb) (by rw [mxL_len];omega))
 rw [mxL_len] at K
 have HB:=hide bb
 clear b0 b1 bb h h2
 generalize S.length = n at *
 go_enter Tryz.func9,Tryz.ntmps9
 go_wp2_with fail
 refine Calls.mono (uH K) ?_
 rintro e w1 ⟨rfl,hb1⟩
 clear K
 go_wp2
 go_ret
 exact ⟨rfl,(uH HB).trans (hb1.mono (uH HB).size)⟩
end Go.Proofs.YtenpggicmfhhdaaGreatDoor
namespace Go.Proofs.YtenpggicmfhhdaaGreatDoor
open Go.RowKit
structure Nm where
 neg:Bool
 ao:Option Addr
 cap:Nat
 L:List Nat
structure Rw where
 ao:Option Addr
 cap:Nat
 R:List Nm
def Nm.nil:Nm:=⟨false,none,0,[]⟩
def Rw.nil:Rw:=⟨none,0,[]⟩
def nmAt (R:List Nm) (k:Nat):Nm:=R[k]?.getD Nm.nil
def rwAt (M:List Rw) (i:Nat):Rw:=M[i]?.getD Rw.nil
end Go.Proofs.YtenpggicmfhhdaaGreatDoor
namespace Go.Proofs.YtenpggicmfhhdaaGreatDoor
open Go.RowKit
attribute [local go_sem ↓] Go.wp_at_zero Go.wp_at_succ
def ckE (r c:Int) (I:List Int):Int:=if okB r c I.length = true then (if fnK I I.length = true then 0 else 4) else 1
theorem ccheck_any (r c:Int) (ao:Option Addr) (cap:Nat) (I:List Int) (w:World) (hI:BitsAt w ao cap I) (hn:I.length≤35184372088830) :
  Calls Tryz.prog 34 #[.agg #[.int .i64 r,.int .i64 c,.slice ao I.length cap]] w fun e w'=>e = .returned (.int .i64 (ckE r c I))∧Below w.heap.size w w':=by
 have HC:=hide (fun w'=>mcheck_any r c ao I.length cap w' hn)
 have b0:=below_alloc9 w (.cells #[.int .i64 r,.int .i64 c,.slice ao I.length cap] 24)
 have B0:=hide b0;have X0:=hide (BoxM.new w (.int .i64 r) (.int .i64 c) (.slice ao I.length cap));have HI:=hide hI
 clear b0 hI
 cases ho:okB r c I.length
 ·rw [ho] at HC
  have e:ckE r c I = 1:=by unfold ckE;rw [ho];rfl
  rw [e]
  rw [if_neg (by decide)] at HC
  clear e ho
  go_enter Tryz.func34,Tryz.ntmps34
  go_wp2_with fail
  refine (uH HC _).mono ?_
  rintro e w1 ⟨rfl,hb1⟩
  clear HC
  go_wp2
  go_ret
  exact ⟨rfl,(uH B0).trans (hb1.mono (uH B0).size)⟩
 ·rw [ho] at HC
  rw [if_pos rfl] at HC
  have e:ckE r c I = if fnK I I.length = true then 0 else 4:=by unfold ckE;rw [ho];rfl
  rw [e]
  clear e ho
  obtain ⟨fe,hfe⟩:∃ fe:Int,(if fnK I I.length = true then 0 else 4) = fe:=⟨_,rfl⟩
  rw [hfe]
  obtain ⟨n,hnn⟩:∃ n,I.length = n:=⟨_,rfl⟩
  have HN:=hide hnn
  rw [hnn] at HC B0 X0 hn hfe ⊢
  have FE:=hide hfe
  clear hnn hfe
  go_enter Tryz.func34,Tryz.ntmps34
  go_wp2_with fail
  refine (uH HC _).mono ?_
  rintro e w1 ⟨rfl,hb1⟩
  have B1:=hide ((uH B0).trans (hb1.mono (uH B0).size));have X1:=hide ((uH X0).all hb1)
  clear HC B0 X0 hb1
  have x2:=(uH X1).c2
  go_wp2_with fail
  go_loopw [13] (fun i wr=>∃ k:Nat,k≤n∧i = .int .i64 k∧Hid (Below w1.heap.size w1 wr)∧Hid (fnK I k = true)) (fun i _=>n - (intOf i).toNat)
  case atStart=>exact ⟨0,Nat.zero_le _,rfl,Below.refl _ _,rfl⟩
  case round =>
   clear x2
   obtain ⟨k,hk,rfl,hB,hF⟩:=hrel
   have x2:=((uH X1).all (uH hB)).c2
   by_cases hlt:k < n
   ·have hkI:(k:Int) < (n:Int):=by omega
    have BW:=hide ((uH B1).trans ((uH hB).mono (uH B1).size))
    obtain ⟨b,off,hao,hb,hc⟩:=((uH HI).below (uH BW)).ne (by rw [uH HN];omega)
    have hck:=hc k (by rw [uH HN];exact hlt)
    have x64:=(uH HI).lt k
    have CF:=hide (fun w'=>sfinite_any (atB I k) w' x64)
    have NX:=hide (show fnK I (k+1) = (fnK I k && fFin (atB I k)) from rfl)
    subst hao
    clear hc x64 hb
    cases hf:fFin (atB I k)
    ·rw [hf] at CF NX
     have e:fnK I n = false:=by
      cases h:fnK I n
      ·rfl
      ·have:=fnK_down I n (k+1) (by omega) h
       rw [uH NX,Bool.and_false] at this
       cases this
     have E4:=hide (show (4:Int) = fe from by rw [← uH FE,if_neg (by rw [e];decide)])
     clear e NX hf
     generalize atB I k = x at *
     go_wp2_with fail
     refine (uH CF _).mono ?_
     rintro e w3 ⟨rfl,hb3⟩
     have BE:=hide ((uH BW).trans (hb3.mono (uH BW).size))
     clear CF hb3 hck x2
     go_wp2
     go_ret
     exact ⟨ret_int (uH E4),uH BE⟩
    ·rw [hf] at CF NX
     rw [uH hF,Bool.true_and] at NX
     clear hf
     generalize atB I k = x at *
     go_wp2_with fail
     refine (uH CF _).mono ?_
     rintro e w3 ⟨rfl,hb3⟩
     have BE:=hide ((uH hB).trans (hb3.mono (uH hB).size))
     clear CF hb3 hck x2
     go_wp2
     go_round
     case rel=>exact ⟨k+1,by omega,by go_num,BE,NX⟩
     case measure=>simp [intOf];omega
   ·have hkk:k = n:=by omega
    subst hkk
    have E0:=hide (show (0:Int) = fe from by rw [← uH FE,if_pos (uH hF)])
    have BE:=hide ((uH B1).trans ((uH hB).mono (uH B1).size))
    go_wp2
    go_ret
    exact ⟨ret_int (uH E0),uH BE⟩
end Go.Proofs.YtenpggicmfhhdaaGreatDoor
