/- Part 24 of the texts. -/
import Derived.Test.YtcbcmlaogehimaaGreatDoorPartr23
set_option maxHeartbeats 4000000
set_option maxRecDepth 20000
namespace Go.Proofs.YtcbcmlaogehimaaGreatDoor
open Go.RowKit
attribute [local go_sem ↓] Go.wp_at_zero Go.wp_at_succ
theorem Jx(r c n h b d i k q x:Nat)(w:World)(G:(i:Int)*(c:Int)=(q:Int))(A:q+k<n)(H:n≤36)
  (z:w.cell? ⟨b,d+(q+k),none⟩=some (.int .u64 (x:Nat))):
  Calls Tryz.prog 133 #[.agg #[.int .i64 r,.int .i64 c,.slice (some ⟨b,d,none⟩) n h],.int .i64 i,.int .i64 k] w fun e D=>e=.returned (.int .u64 (x:Nat))∧Below w.heap.size w D:=by
 have u:=ac (ad w (.cells #[.int .i64 r,.int .i64 c,.slice (some ⟨b,d,none⟩) n h] 24))
 have I:=aG z (uH u)
 clear z
 have F:(q:Int)+(k:Int)<(n:Int):=by omega
 go_enter Tryz.func133,Tryz.ntmps133
 go_wp2
 go_ret
 exact⟨rfl,uH u⟩
theorem cw(i c:Nat):(i:Int)*(c:Int)=((i*c:Nat):Int):=by simp
theorem Gi(r c d i k:Nat)(z:Option Addr)(S:List Nat)(w:World)(h:Mx w z d r c S)(A:i<r)(D:k<c):
  Calls Tryz.prog 133 #[.agg #[.int .i64 r,.int .i64 c,.slice z S.length d],.int .i64 i,.int .i64 k] w fun e F=>e=.returned (.int .u64 (aS c S i k:Nat))∧Below w.heap.size w F:=by
 obtain⟨b,u,rfl,I,G,H⟩:=h.cells A D
 exact Jx r c S.length d b u i k (i*c) _ w (cw i c) H h.small G
def Gj(c:Nat)(S:List Nat)(i:Nat):List Nat:=(List.range c).map (fun k=>aS c S i k)
theorem rk(c:Nat)(S:List Nat)(i:Nat):(Gj c S i).length=c:=by simp[Gj]
theorem Jy(c:Nat)(S:List Nat)(i k:Nat)(h:k<c):(Gj c S i).getD k 0=aS c S i k:=by simp[Gj,List.getD_eq_getElem?_getD,h]
theorem CY{w G:World}{z:Option Addr}{d r c:Nat}{S:List Nat}(h:Mx w z d r c S)(H:Below w.heap.size w G){i:Nat}(A:i<r):ap G (if d=i*c then z else z.map (·.add (i*c*1))) (d-i*c) (bH (Gj c S i)):=by
 have L:(i+1)*c≤S.length:=by rw[h.2.1];exact Nat.mul_le_mul_right c A
 rw[Nat.add_mul,Nat.one_mul]at L
 have N:=h.1.1
 rw[aH]at N
 refine⟨by rw[aH,rk];omega,?_,?_⟩
 ·intro x X
  obtain⟨y,O,rfl⟩:=List.mem_map.1 X
  obtain⟨k,_,rfl⟩:=List.mem_map.1 O
  have:=h.el_lt i k
  omega
 ·rcases Nat.eq_zero_or_pos c with e|e
  ·subst e;exact .inl rfl
  ·obtain⟨b,D,I,Q,Y,Z⟩:=(h.below H).cells A e
   refine .inr ⟨b,D+i*c,?_,Q,fun k K=>?_⟩
   ·rw[if_neg (by omega),I]
    simp[Addr.add]
   ·have u:k<c:=by rwa[aH,rk]at K
    obtain⟨b',J,F,f2,U,f4⟩:=(h.below H).cells A u
    rw[I]at F
    simp only[Option.some.injEq,Addr.mk.injEq]at F
    obtain⟨rfl,rfl,_⟩:=F
    rw[Nat.add_assoc,U]
    simp[bH,Gj,u]
theorem tU.least{H u:Nat}{z:Option Addr}{I:List Int}(h:tU H z I)(A:u≤H):tU u z I:=by
 rcases h with e|⟨b,d,D,F⟩
 ·exact .inl e
 ·exact .inr ⟨b,d,D,Nat.le_trans A F⟩
theorem dP.newB{d:Nat}{w:World}{z:Option Addr}{n u:Nat}{S:List Nat}(h:dP d w (.slice z n u) S):tU d z (bH S):=by
 rcases h.1.2 with⟨_,F⟩|⟨g,A,G,D,H,_⟩
 ·exact .inl (by rw[List.length_eq_zero_iff.1 F];rfl)
 ·simp only[Value.slice.injEq]at D
  exact .inr ⟨g,0,D.1,H⟩
theorem qk(fn:Nat)(L:Array Value)(r c:Nat)(f:Nat→Nat→Nat)(w:World)
  (a4:∀args w,(callFunc fn args).run Tryz.prog w=.ok (.enter fn args) w) (hr:r≤6) (hc:c≤6) (hf:∀i k,i<r→k<c→f i k<18446744073709551616)
  (z:∀H i k,Below w.heap.size w H→i<r→k<c→Calls Tryz.prog fn (#[.int .i64 (i:Nat),.int .i64 (k:Nat)]++L) H fun e ar=>e=.returned (.int .u64 (f i k:Nat))∧Below H.heap.size H ar):
  Calls Tryz.prog 131 #[.int .i64 r,.int .i64 c,.func (.func fn) #[] L] w fun e H=>∃v,e=.returned v∧df w.heap.size H r c (mj r c f) v∧Below w.heap.size w H:=by
 obtain⟨i0,aI,a0,a1,a2⟩:=info_parts oL
 have HS:=ac z;have HF:=ac hf
 have hm:(r:Int)*(c:Int)=((r*c:Nat):Int):=cw r c
 have a5:r*c≤36:=Nat.mul_le_mul hr hc
 have X0:=ac (aL.new w (.int .i64 0) (.int .i64 0) (.slice none 0 0))
 have B0:=ac (ad w (.cells #[.int .i64 0,.int .i64 0,.slice none 0 0] 24))
 obtain⟨w1,a3,Q,Z⟩:=run_make_own (P:=Tryz.prog) (w.alloc (.cells #[.int .i64 0,.int .i64 0,.slice none 0 0] 24)) (w.heap.size+1) 22 69 i0 (.int .u64 0) 1 Tryz.underlying22 aI a0 a1 .i64 .i64 (r*c) (by rw[a2];omega) (by unfold maxLen;omega) (by simp)
 have B1:=ac ((uH B0).grown Z (by simp) (fun g hg=>by cases hg))
 have X1:aL w1 w.heap.size (.int .i64 0) (.int .i64 0) (.slice none 0 0):=(uH X0).grown Z (by simp)
 have O1:=ac (show dP (w.heap.size+1) w1 (.slice (some ⟨w.heap.size+1,0,none⟩) 0 (r*c)) (lD (fun p=>f (p/c) (p%c)) (0*c))from⟨by rw[Nat.zero_mul];simpa[lD]using Q,by rw[Nat.zero_mul];intro x hx;cases hx⟩)
 have aa:=ac X1
 clear Q Z X0 B0 X1
 obtain⟨F,hF⟩:∃F:Nat→Nat,F=fun p=>f (p/c) (p%c):=⟨_,rfl⟩
 rw[←hF]at O1
 have FV:=ac (show∀j k,k<c→F (j*c+k)=f j k from fun j k hk=>by rw[hF];show f ((j*c+k)/c) ((j*c+k)%c)=_;rw[iw hk,iy hk])
 have FM:=ac (show mj r c f=lD F (r*c)from by rw[hF];rfl)
 rw[uH FM]
 generalize ao:r*c=n at*
 have ae:=ac ao
 clear ao z hf hF
 go_enter Tryz.func131,Tryz.ntmps131
 go_wp2_with fail
 clear a3
 go_loopw[7,15] (fun v i wr=>∃j:Nat,j≤r∧i=.int .i64 j∧Hid (dP (w.heap.size+1) wr v (lD F (j*c)))∧Hid (aL wr w.heap.size (.int .i64 0) (.int .i64 0) (.slice none 0 0))∧Hid (Below w.heap.size w wr)) (fun _ i _=>r-(intOf i).toNat)
 case atStart=>exact⟨0,Nat.zero_le _,rfl,O1,aa,B1⟩
 case round=>
  clear O1 aa B1
  obtain⟨j,hj,rfl,u,d,G⟩:=hrel
  by_cases Y:j<r
  ·have a6:(j:Int)<(r:Int):=by omega
   have I:=ac (show dP (w.heap.size+1) wr _ (lD F (j*c+0))from uH u)
   clear u
   go_wp2_with fail
   go_loopw[7,19] (fun v i wr=>∃k:Nat,k≤c∧i=.int .i64 k∧Hid (dP (w.heap.size+1) wr v (lD F (j*c+k)))∧Hid (aL wr w.heap.size (.int .i64 0) (.int .i64 0) (.slice none 0 0))∧Hid (Below w.heap.size w wr)) (fun _ i _=>c-(intOf i).toNat)
   case atStart=>exact⟨0,Nat.zero_le _,rfl,I,d,G⟩
   case round=>
    clear I d G
    obtain⟨k,hk,rfl,u,d,G⟩:=hrel
    by_cases J:k<c
    ·have a7:(k:Int)<(c:Int):=by omega
     have C:=ac (fun H h=>uH HS H j k h Y J)
     have ho:=ac (uH HF j k Y J)
     have eo:=ac (uH FV j k J)
     have N:=ac (show(lD F (j*c+k)).length≤1000000 from by
      rw[gu]
      have:=cZ Y J
      rw[uH ae]at this
      omega)
     generalize f j k=o at*
     go_wp2_with fail
     refine(uH C _ G.out).mono ?_
     rintro e w2 ⟨rfl,K⟩
     have O:=(uH u).below K
     have A:=(uH d).all K
     have B2:=G.out.trans (K.mono G.out.size)
     obtain⟨v3,w3,U,X,D,_,_⟩:=O.push o (uH ho) (uH N) (by have:=A.lt;omega) 22
     have ah:=ac U
     have O3:=ac (show dP (w.heap.size+1) w3 v3 (lD F (j*c+(k+1)))from by
      rw[←Nat.add_assoc,oN,uH eo];exact X)
     have X3:=ac (A.below D (by omega))
     have B3:=ac (B2.trans (D.mono (by omega)))
     clear K C u d G O A B2 U X D ho eo N
     go_wp2_with(at_builtin;refine eT _ rfl _ _ 22 rfl _ _ _ _ rfl rfl (uH ah) ?_;clear ah)
     go_round
     case rel=>exact⟨k+1,by omega,by go_num,O3,X3,B3⟩
     case measure=>simp[intOf];omega
    ·have ax:k=c:=by omega
     subst ax
     have I:=ac (show dP (w.heap.size+1) _ _ (lD F ((j+1)*k))from by rw[Nat.add_mul,Nat.one_mul];exact uH u)
     clear u
     go_wp2_with fail
     go_round
     case rel=>exact⟨j+1,by omega,by go_num,I,d,G⟩
     case measure=>simp[intOf];omega
  ·have az:j=r:=by omega
   subst az
   rw[uH ae]at u
   obtain⟨b1,d1,e1,q1⟩:=(uH u).bits
   have am:=(uH u).1
   rw[gu]at e1
   subst e1
   have an:=ac ((uH u).newB.least (Nat.le_succ w.heap.size))
   have s0:=(uH d).c0;have s1:=(uH d).c1;have s2:=(uH d).c2
   have f0:=(uH d).free 0;have f1:=(uH d).free 1;have f2:=(uH d).free 2
   have XP:=(uH d).put (.int .i64 j) (.int .i64 c) (.slice b1 n d1)
   have z0:=XP.c0;have z1:=XP.c1;have z2:=XP.c2
   have QP:=ac (q1.putM (uH d) (.int .i64 j) (.int .i64 c) (.slice b1 n d1))
   have BP:=ac (aN (uH G) (Nat.le_refl _) (.int .i64 j) (.int .i64 c) (.slice b1 n d1))
   clear q1 am u d G XP
   go_wp2
   exact bodyPost_ret (v:=.agg #[.int .i64 j,.int .i64 c,.slice b1 n d1]) (by simp[results,Tryz.results131,go_sem,z0,z1,z2]) rfl ⟨_,rfl,⟨b1,d1,by rw[gu],uH an,uH QP⟩,uH BP⟩
end Go.Proofs.YtcbcmlaogehimaaGreatDoor
namespace Go.Proofs.YtcbcmlaogehimaaGreatDoor
open Go.RowKit
def gx(T:Nat)(w:World)(b:Nat)(x y z:Value):Prop:=w.heap[b]? =some (.cells #[x,y,z] T (0,0))
theorem gx.c0{T:Nat}{w:World}{b:Nat}{x y z:Value}(h:gx T w b x y z):w.cell? ⟨b,0,none⟩=some x:=by rw[cell_of_row w b 0 _ _ _ h];rfl
theorem gx.c1{T:Nat}{w:World}{b:Nat}{x y z:Value}(h:gx T w b x y z):w.cell? ⟨b,1,none⟩=some y:=by rw[cell_of_row w b 1 _ _ _ h];rfl
theorem gx.c2{T:Nat}{w:World}{b:Nat}{x y z:Value}(h:gx T w b x y z):w.cell? ⟨b,2,none⟩=some z:=by rw[cell_of_row w b 2 _ _ _ h];rfl
theorem gx.lt{T:Nat}{w:World}{b:Nat}{x y z:Value}(h:gx T w b x y z):b<w.heap.size:=(Array.getElem?_eq_some_iff.1 h).1
theorem gx.below{T:Nat}{w u:World}{b:Nat}{x y z:Value}(h:gx T w b x y z){B:Nat}(A:Below B w u)(d:b<B):gx T u b x y z:=(A.block b d).trans h
theorem gx.new(T:Nat)(w:World)(x y z:Value):gx T (w.alloc (.cells #[x,y,z] T)) w.heap.size x y z:=heap_alloc_new w _
theorem gx.all{T:Nat}{w d:World}{b:Nat}{x y z:Value}(h:gx T w b x y z)(u:Below w.heap.size w d):gx T d b x y z:=h.below u h.lt
theorem gx.other{T:Nat}{w:World}{b:Nat}{x y z:Value}(h:gx T w b x y z){p:Addr}(d:b≠p.block)(u:Value):gx T (w.setCell p u) b x y z:=(Below.heap_setCell w p u b d).trans h
attribute [local go_sem ↓] Go.wp_at_zero Go.wp_at_succ
def Jz(w:World)(g k:Nat)(R C:Nat→Int)(A:Nat→Option Addr)(N P:Nat→Nat):Prop:=
 ∀i,i<k→w.cell? ⟨g,i*3,none⟩=some (.int .i64 (R i))∧w.cell? ⟨g,i*3+1,none⟩=some (.int .i64 (C i))∧w.cell? ⟨g,i*3+2,none⟩=some (.slice (A i) (N i) (P i))
theorem C9(k g:Nat)(R C:Nat→Int)(A:Nat→Option Addr)(N P:Nat→Nat)(w:World)(hk:k≤2)(L:∀i,i<k→N i≤35184372088830)(O:Jz w g k R C A N P):
  Calls Tryz.prog 130 #[.slice (some ⟨g,0,none⟩) k k] w fun e F=>∃b,e=.returned (.bool b)∧(b=true↔∀i,i<k→kl (R i) (C i) (N i)=true)∧Below w.heap.size w F:=by
 have HM:=ac O;have HN:=ac L
 clear O L
 go_enter Tryz.func130,Tryz.ntmps130
 go_wp2_with fail
 go_loopw[7] (fun i wr=>∃j:Nat,j≤k∧i=.int .i64 j∧Hid (Below w.heap.size w wr)∧Hid (∀t,t<j→kl (R t) (C t) (N t)=true)) (fun i _=>k-(intOf i).toNat)
 case atStart=>exact⟨0,Nat.zero_le _,rfl,Below.refl _ _,fun t h=>by omega⟩
 case round=>
  obtain⟨j,hj,rfl,z,Y⟩:=hrel
  by_cases u:j<k
  ·have aa:(j:Int)<(k:Int):=by omega
   obtain⟨K,Z,c2⟩:=uH HM j u
   have Q:=uH HN j u
   have U:=ac (fun F=>gL (R j) (C j) (A j) (N j) (P j) F Q)
   have d:=World.block_lt_of_cell? w _ K
   have G:=ac (z.out.mono (Nat.le_refl _))
   have d0:wr.cell? ⟨g,j*3,none⟩=some (.int .i64 (R j)):=by rw[z.out.cell (p:=⟨g,j*3,none⟩) d];exact K
   have d1:wr.cell? ⟨g,j*3+1,none⟩=some (.int .i64 (C j)):=by rw[z.out.cell (p:=⟨g,j*3+1,none⟩) d];exact Z
   have d2:wr.cell? ⟨g,j*3+2,none⟩=some (.slice (A j) (N j) (P j)):=by rw[z.out.cell (p:=⟨g,j*3+2,none⟩) d];exact c2
   have H:=ac ((uH G).alloc (uH G).size (.cells #[.int .i64 (R j),.int .i64 (C j),.slice (A j) (N j) (P j)] 24))
   clear K Z c2 Q z G d
   go_wp2_with fail
   refine(uH U _).mono ?_
   rintro e w2 ⟨rfl,D⟩
   have X:Hid (Below w.heap.size w w2):=(uH H).trans (D.mono (uH H).size)
   clear U D d0 d1 d2 H
   cases ho:kl (R j) (C j) (N j)
   ·have I:=ac ho
    clear ho
    rw[if_neg (by decide)]
    go_wp2
    go_ret
    refine⟨false,rfl,⟨(fun h=>nomatch h),fun h=>?_⟩,uH X⟩
    have:=h j u
    rw[uH I]at this
    cases this
   ·have I:=ac ho
    clear ho
    rw[if_pos rfl]
    go_wp2
    go_round
    case rel=>
     refine⟨j+1,by omega,by go_num,X,ac fun t ht=>?_⟩
     by_cases e:t=j
     ·subst e;exact uH I
     ·exact Y.out t (by omega)
    case measure=>simp[intOf];omega
  ·have J:j=k:=by omega
   subst J
   go_wp2
   go_ret
   exact⟨true,rfl,⟨fun _=>Y.out,fun _=>rfl⟩,z.out⟩
theorem oO(r c:Int)(u:Option Addr)(n d:Nat)(w:World)(D:n≤35184372088830):
  Calls Tryz.prog 130 #[.slice (some ⟨w.heap.size,0,none⟩) 1 1] (w.alloc (.cells #[.int .i64 r,.int .i64 c,.slice u n d] 24)) fun e z=>e=.returned (.bool (kl r c n))∧Below w.heap.size w z:=by
 have X:=aL.new w (.int .i64 r) (.int .i64 c) (.slice u n d)
 have B:=ad w (.cells #[.int .i64 r,.int .i64 c,.slice u n d] 24)
 refine(C9 1 w.heap.size (fun _=>r) (fun _=>c) (fun _=>u) (fun _=>n) (fun _=>d) _ (by omega) (fun _ _=>D) ?_).mono ?_
 ·intro i G
  obtain rfl:i=0:=by omega
  exact⟨X.c0,X.c1,X.c2⟩
 ·rintro e z ⟨b,rfl,A,F⟩
  refine⟨?_,B.trans (F.mono B.size)⟩
  have:b=kl r c n:=by
   cases h:kl r c n
   ·cases b
    ·rfl
    ·have:=A.1 rfl 0 (by omega);rw[h]at this;cases this
   ·exact A.2 (fun _ _=>h)
  rw[this]
theorem tY(f p e:Int)(w:World)(z:-9223372036854775808≤f∧f≤9223372036854775807)(A:0≤e∧e≤6):
  Calls Tryz.prog 153 #[.int .i64 f,.int .i64 p,.int .i64 e] w fun x h=>x=.returned (.bool (decide (0≤f∧0≤p∧p≤e-f)))∧w=h:=by
 rcases(show f<0∨(0≤f∧p<0)∨(0≤f∧0≤p) by omega)with d|⟨d,u⟩|⟨d,u⟩
 ·rw[decide_eq_false (by omega)]
  go_enter Tryz.func153,Tryz.ntmps153
  go_wp2
  go_ret
  exact⟨rfl,rfl⟩
 ·rw[decide_eq_false (by omega)]
  go_enter Tryz.func153,Tryz.ntmps153
  go_wp2
  go_ret
  exact⟨rfl,rfl⟩
 ·rw[show decide (0≤f∧0≤p∧p≤e-f)=decide (p≤e-f)from decide_eq_decide.2 (by omega)]
  go_enter Tryz.func153,Tryz.ntmps153
  go_wp2
  go_ret
  exact⟨rfl,rfl⟩
theorem vY(w:World)(x y z:Value)(d:World)(h:Below (w.heap.size+1) (w.alloc (.cells #[x,y,z] 24)) d):
  Below w.heap.size w d∧aL d w.heap.size x y z:=by
 have u:=ad w (.cells #[x,y,z] 24)
 exact⟨u.trans (h.mono (by omega)),(aL.new w x y z).below h (by omega)⟩
theorem mn(w:World)(x y z x' y' u:Value)(d:World)(h:Below (w.heap.size+1+1) ((w.alloc (.cells #[x,y,z] 24)).alloc (.cells #[x',y',u] 24)) d):
  Below w.heap.size w d∧aL d w.heap.size x y z∧aL d (w.heap.size+1) x' y' u:=by
 have A:=aq w (.cells #[x,y,z] 24)
 have G:Below ((w.alloc (.cells #[x,y,z] 24)).heap.size+1) ((w.alloc (.cells #[x,y,z] 24)).alloc (.cells #[x',y',u] 24)) d:=by rw[A];exact h
 obtain⟨D,F⟩:=vY _ x' y' u d G
 rw[A]at D F
 obtain⟨H,I⟩:=vY w x y z d D
 exact⟨H,I,F⟩
theorem oP(w:World)(x y z x' y' u A D z2:Value)(d:World)(h:Below (w.heap.size+1+1+1) (((w.alloc (.cells #[x,y,z] 24)).alloc (.cells #[x',y',u] 24)).alloc (.cells #[A,D,z2] 24)) d):
  Below w.heap.size w d∧aL d w.heap.size x y z∧aL d (w.heap.size+1) x' y' u∧aL d (w.heap.size+1+1) A D z2:=by
 have F:=aq w (.cells #[x,y,z] 24)
 have J:Below ((w.alloc (.cells #[x,y,z] 24)).heap.size+1+1) (((w.alloc (.cells #[x,y,z] 24)).alloc (.cells #[x',y',u] 24)).alloc (.cells #[A,D,z2] 24)) d:=by rw[F];exact h
 obtain⟨G,H,I⟩:=mn _ x' y' u A D z2 d J
 rw[F]at G H I
 obtain⟨K,L⟩:=vY w x y z d G
 exact⟨K,L,H,I⟩
theorem Da(i k:Nat)(w:World):
  Calls Tryz.prog 209 #[.int .i64 i,.int .i64 k] w fun e d=>e=.returned (.int .u64 ((if k=i then 4607182418800017408 else 0:Nat):Int))∧Below w.heap.size w d:=by
 by_cases h:k=i
 ·rw[if_pos h]
  subst h
  go_enter Tryz.func209,Tryz.ntmps209
  go_wp2
  go_ret
  exact⟨rfl,Below.refl _ _⟩
 ·rw[if_neg h]
  have u:decide ((i:Int)=(k:Int))=false:=decide_eq_false (by omega)
  go_enter Tryz.func209,Tryz.ntmps209
  go_wp2
  go_ret
  exact⟨rfl,Below.refl _ _⟩
theorem Db(r c n d i k a b x A D bk:Nat)(F:Option Addr)(w:World)(G:a+i≤6)(H:b+k≤6)(h:aL w A (.int .i64 r) (.int .i64 c) (.slice F n d))(I:w.cell? ⟨D,0,none⟩=some (.int .i64 (a:Nat)))(J:w.cell? ⟨bk,0,none⟩=some (.int .i64 (b:Nat)))
  (C:Calls Tryz.prog 133 #[.agg #[.int .i64 r,.int .i64 c,.slice F n d],.int .i64 ((a:Int)+(i:Int)),.int .i64 ((b:Int)+(k:Int))] w fun e u=>e=.returned (.int .u64 (x:Nat))∧Below w.heap.size w u):
  Calls Tryz.prog 154 #[.int .i64 i,.int .i64 k,.pointer (some ⟨A,0,none⟩),.pointer (some ⟨D,0,none⟩),.pointer (some ⟨bk,0,none⟩)] w fun e u=>e=.returned (.int .u64 (x:Nat))∧Below w.heap.size w u:=by
 have K:=ac C
 have L:=h.c0;have N:=h.c1;have p2:=h.c2
 clear C h
 go_enter Tryz.func154,Tryz.ntmps154
 go_wp2_with fail
 refine Calls.mono (uH K) ?_
 rintro e O ⟨rfl,z⟩
 clear K
 go_wp2
 go_ret
 exact⟨rfl,z⟩
theorem Dc(w:World)(x y z u v:Value)(d:World)(h:Below (w.heap.size+1+1+1+1) ((((w.alloc (.cells #[x,y,z] 24)).alloc (.cells #[u] 3)).alloc (.cells #[v] 3)).alloc (.cells #[.int .i64 0,.int .i64 0,.slice none 0 0] 24)) d):
  Below w.heap.size w d∧aL d w.heap.size x y z∧(d.cell? ⟨w.heap.size+1,0,none⟩=some u∧d.cell? ⟨w.heap.size+1+1,0,none⟩=some v)∧aL d (w.heap.size+1+1+1) (.int .i64 0) (.int .i64 0) (.slice none 0 0):=by
 have Q:=ad w (.cells #[x,y,z] 24)
 have U:=aL.new w x y z
 have G:=aq w (.cells #[x,y,z] 24)
 generalize w.alloc (.cells #[x,y,z] 24)=D at*
 have I:=ad D (.cells #[u] 3)
 have X:=gc D u 3
 have J:=aq D (.cells #[u] 3)
 have Y:=U.all I
 generalize D.alloc (.cells #[u] 3)=F at*
 have H:=ad F (.cells #[v] 3)
 have Z:=gc F v 3
 have s2:=aq F (.cells #[v] 3)
 have x2:=Y.all H
 have d1:=aG X H
 generalize F.alloc (.cells #[v] 3)=wc at*
 have A:=ad wc (.cells #[.int .i64 0,.int .i64 0,.slice none 0 0] 24)
 have K:=aL.new wc (.int .i64 0) (.int .i64 0) (.slice none 0 0)
 have s3:=aq wc (.cells #[.int .i64 0,.int .i64 0,.slice none 0 0] 24)
 have x3:=x2.all A
 have L:=aG d1 A
 have N:=aG Z A
 generalize wc.alloc (.cells #[.int .i64 0,.int .i64 0,.slice none 0 0] 24)=O at*
 rw[s2,J,G]at K
 rw[G]at L
 rw[J,G]at N
 have hd:O.heap.size=w.heap.size+1+1+1+1:=by omega
 rw[←hd]at h
 have bb:Below w.heap.size w O:=((Q.trans (I.mono (by omega))).trans (H.mono (by omega))).trans (A.mono (by omega))
 exact⟨bb.trans (h.mono (by omega)),x3.all h,⟨aG L h,aG N h⟩,K.all h⟩
theorem JA(r c:Int)(A:Option Addr)(n d:Nat)(i k a b:Int)(w:World)(I:n≤35184372088830)(h:kl r c n=false):
  Calls Tryz.prog 95 #[.agg #[.int .i64 r,.int .i64 c,.slice A n d],.int .i64 i,.int .i64 k,.int .i64 a,.int .i64 b] w fun e F=>∃v,e=.returned (.tuple #[v,.int .i64 1])∧df w.heap.size F 0 0 [] v∧Below w.heap.size w F:=by
 have K:=ac (oO r c A n d ((((w.alloc (.cells #[.int .i64 r,.int .i64 c,.slice A n d] 24)).alloc (.cells #[.int .i64 i] 3)).alloc (.cells #[.int .i64 k] 3)).alloc (.cells #[.int .i64 0,.int .i64 0,.slice none 0 0] 24)) I)
 rw[h]at K
 simp only[aq]at K
 have G:=ac (Dc w (.int .i64 r) (.int .i64 c) (.slice A n d) (.int .i64 i) (.int .i64 k))
 clear h
 go_enter Tryz.func95,Tryz.ntmps95
 go_wp2_with fail
 refine Calls.mono (uH K) ?_
 rintro e U ⟨rfl,z⟩
 obtain⟨H,N,⟨O,Q⟩,u⟩:=uH G U z
 clear K G z N O Q
 have X:=u.free 0;have Y:=u.free 1;have Z:=u.free 2
 have s0:=u.c0;have s1:=u.c1;have s2:=u.c2
 have D:=u.put (.int .i64 0) (.int .i64 0) (.slice none 0 0)
 have J:=D.c0;have z1:=D.c1;have z2:=D.c2
 have L:=ac (aN H (b:=w.heap.size+1+1+1) (by omega) (.int .i64 0) (.int .i64 0) (.slice none 0 0))
 clear D u H
 go_wp2
 exact bodyPost_ret (v:=.tuple #[.agg #[.int .i64 0,.int .i64 0,.slice none 0 0],.int .i64 1]) (by simp[results,Tryz.results95,go_sem,J,z1,z2]) rfl ⟨_,rfl,df.zero _ _,uH L⟩
theorem Dd(r c:Int)(H:Option Addr)(n A:Nat)(i k a b:Int)(x y:Nat)(S:List Nat)(w:World)(hn:n≤35184372088830)(h:kl r c n=true)(Y:∀D,Calls Tryz.prog 153 #[.int .i64 i,.int .i64 a,.int .i64 r] D fun x d=>x=.returned (.bool true)∧D=d)(Z:∀D,Calls Tryz.prog 153 #[.int .i64 k,.int .i64 b,.int .i64 c] D fun x d=>x=.returned (.bool true)∧D=d)
  (C:∀u,Below w.heap.size w u→aL u w.heap.size (.int .i64 r) (.int .i64 c) (.slice H n A)→u.cell? ⟨w.heap.size+1,0,none⟩=some (.int .i64 i)→u.cell? ⟨w.heap.size+1+1,0,none⟩=some (.int .i64 k)→Calls Tryz.prog 131 #[.int .i64 a,.int .i64 b,.func (.func 154) #[] #[.pointer (some ⟨w.heap.size,0,none⟩),.pointer (some ⟨w.heap.size+1,0,none⟩),.pointer (some ⟨w.heap.size+1+1,0,none⟩)]] u fun e d=>∃v,e=.returned v∧df u.heap.size d x y S v∧Below u.heap.size u d):
  Calls Tryz.prog 95 #[.agg #[.int .i64 r,.int .i64 c,.slice H n A],.int .i64 i,.int .i64 k,.int .i64 a,.int .i64 b] w fun e D=>∃v,e=.returned (.tuple #[v,.int .i64 0])∧df w.heap.size D x y S v∧Below w.heap.size w D:=by
 have M1:=ac Y;have M2:=ac Z
 clear Y Z
 have K:=ac (oO r c H n A ((((w.alloc (.cells #[.int .i64 r,.int .i64 c,.slice H n A] 24)).alloc (.cells #[.int .i64 i] 3)).alloc (.cells #[.int .i64 k] 3)).alloc (.cells #[.int .i64 0,.int .i64 0,.slice none 0 0] 24)) hn)
 rw[h]at K
 simp only[aq]at K
 have KB:=ac (Dc w (.int .i64 r) (.int .i64 c) (.slice H n A) (.int .i64 i) (.int .i64 k))
 have KT:=ac (fun u (F:Below w.heap.size w u) (G:aL u w.heap.size (.int .i64 r) (.int .i64 c) (.slice H n A)) (U:u.cell? ⟨w.heap.size+1,0,none⟩=some (.int .i64 i)) (X:u.cell? ⟨w.heap.size+1+1,0,none⟩=some (.int .i64 k)) (z:aL u (w.heap.size+1+1+1) (.int .i64 0) (.int .i64 0) (.slice none 0 0))=>(C u F G U X).mono (R':=fun e d=>∃v,e=.returned v∧df w.heap.size d x y S v∧Below w.heap.size w d∧aL d (w.heap.size+1+1+1) (.int .i64 0) (.int .i64 0) (.slice none 0 0)) (by
  rintro e d ⟨v,rfl,h1,h2⟩
  exact⟨v,rfl,h1.least F.size,F.trans (h2.mono F.size),z.all h2⟩))
 clear h C
 go_enter Tryz.func95,Tryz.ntmps95
 go_wp2_with fail
 refine Calls.mono (uH K) ?_
 rintro e u ⟨rfl,I⟩
 obtain⟨F,G,⟨U,X⟩,z⟩:=uH KB u I
 have p0:=G.c0;have p1:=G.c1;have p2:=G.c2
 have KC:=ac (uH KT u F G U X z)
 clear K KB KT I G z F
 go_wp2_with fail
 refine(uH M1 _).mono ?_
 rintro e w9 ⟨rfl,rfl⟩
 clear M1
 go_wp2_with fail
 refine(uH M2 _).mono ?_
 rintro e w9 ⟨rfl,rfl⟩
 clear M2
 go_wp2_with fail
 refine Calls.mono (uH KC) ?_
 clear KC
 rintro e w2 ⟨v,rfl,⟨J,L,rfl,n1,q1⟩,N,z⟩
 have f0:=z.free 0;have f1:=z.free 1;have f2:=z.free 2
 have O:=z.put (.int .i64 x) (.int .i64 y) (.slice J S.length L)
 have z0:=O.c0;have z1:=O.c1;have z2:=O.c2
 have s0:=z.c0;have s1:=z.c1;have s2:=z.c2
 have Q:=ac (q1.putM z (.int .i64 x) (.int .i64 y) (.slice J S.length L))
 have BP:=ac (aN N (b:=w.heap.size+1+1+1) (by omega) (.int .i64 x) (.int .i64 y) (.slice J S.length L))
 clear O q1 N z
 go_wp2
 exact bodyPost_ret (v:=.tuple #[.agg #[.int .i64 x,.int .i64 y,.slice J S.length L],.int .i64 0]) (by simp[results,Tryz.results95,go_sem,z0,z1,z2]) rfl ⟨_,rfl,⟨J,L,rfl,n1,uH Q⟩,uH BP⟩
theorem J9(r c:Int)(x y:Nat)(S:List Nat)(w:World)(h:CX r c=true)
  (C:∀z,Below w.heap.size w z→Calls Tryz.prog 131 #[.int .i64 r,.int .i64 c,.func (.func 231) #[] #[]] z fun e d=>∃v,e=.returned v∧df z.heap.size d x y S v∧Below z.heap.size z d):
  Calls Tryz.prog 201 #[.int .i64 r,.int .i64 c] w fun e G=>∃v,e=.returned (.tuple #[v,.int .i64 0])∧df w.heap.size G x y S v∧Below w.heap.size w G:=by
 have K:=ac (fun G=>js r c G)
 rw[h]at K
 have I:=ac ((C _ (ad w (.cells #[.int .i64 0,.int .i64 0,.slice none 0 0] 24))).mono (R':=fun e d=>∃v,e=.returned v∧df w.heap.size d x y S v∧Below w.heap.size w d∧aL d w.heap.size (.int .i64 0) (.int .i64 0) (.slice none 0 0)) (by
  rintro e d ⟨v,rfl,U,J⟩
  have b:=ad w (.cells #[.int .i64 0,.int .i64 0,.slice none 0 0] 24)
  exact⟨v,rfl,U.least b.size,b.trans (J.mono b.size),(aL.new w (.int .i64 0) (.int .i64 0) (.slice none 0 0)).all J⟩))
 clear h C
 go_enter Tryz.func201,Tryz.ntmps201
 go_wp2_with fail
 refine(uH K _).mono ?_
 rintro e z ⟨rfl,rfl⟩
 clear K
 go_wp2_with fail
 refine Calls.mono (uH I) ?_
 clear I
 rintro e w2 ⟨v,rfl,⟨A,D,rfl,X,L⟩,F,u⟩
 have Y:=u.free 0;have Z:=u.free 1;have f2:=u.free 2
 have H:=u.put (.int .i64 x) (.int .i64 y) (.slice A S.length D)
 have N:=H.c0;have z1:=H.c1;have z2:=H.c2
 have s0:=u.c0;have s1:=u.c1;have s2:=u.c2
 have Q:=ac (L.putM u (.int .i64 x) (.int .i64 y) (.slice A S.length D))
 have O:=ac (aN F (b:=w.heap.size) (by omega) (.int .i64 x) (.int .i64 y) (.slice A S.length D))
 clear H L F u
 go_wp2
 exact bodyPost_ret (v:=.tuple #[.agg #[.int .i64 x,.int .i64 y,.slice A S.length D],.int .i64 0]) (by simp[results,Tryz.results201,go_sem,N,z1,z2]) rfl ⟨_,rfl,⟨A,D,rfl,X,uH Q⟩,uH O⟩
theorem Gk(r:Int)(x y:Nat)(S:List Nat)(w:World)(h:CX r r=true)
  (C:∀z,Below w.heap.size w z→Calls Tryz.prog 131 #[.int .i64 r,.int .i64 r,.func (.func 209) #[] #[]] z fun e d=>∃v,e=.returned v∧df z.heap.size d x y S v∧Below z.heap.size z d):
  Calls Tryz.prog 170 #[.int .i64 r] w fun e G=>∃v,e=.returned (.tuple #[v,.int .i64 0])∧df w.heap.size G x y S v∧Below w.heap.size w G:=by
 have K:=ac (fun G=>js r r G)
 rw[h]at K
 have I:=ac ((C _ (ad w (.cells #[.int .i64 0,.int .i64 0,.slice none 0 0] 24))).mono (R':=fun e d=>∃v,e=.returned v∧df w.heap.size d x y S v∧Below w.heap.size w d∧aL d w.heap.size (.int .i64 0) (.int .i64 0) (.slice none 0 0)) (by
  rintro e d ⟨v,rfl,U,J⟩
  have b:=ad w (.cells #[.int .i64 0,.int .i64 0,.slice none 0 0] 24)
  exact⟨v,rfl,U.least b.size,b.trans (J.mono b.size),(aL.new w (.int .i64 0) (.int .i64 0) (.slice none 0 0)).all J⟩))
 clear h C
 go_enter Tryz.func170,Tryz.ntmps170
 go_wp2_with fail
 refine(uH K _).mono ?_
 rintro e z ⟨rfl,rfl⟩
 clear K
 go_wp2_with fail
 refine Calls.mono (uH I) ?_
 clear I
 rintro e w2 ⟨v,rfl,⟨A,D,rfl,X,L⟩,F,u⟩
 have Y:=u.free 0;have Z:=u.free 1;have f2:=u.free 2
 have H:=u.put (.int .i64 x) (.int .i64 y) (.slice A S.length D)
 have N:=H.c0;have z1:=H.c1;have z2:=H.c2
 have s0:=u.c0;have s1:=u.c1;have s2:=u.c2
 have Q:=ac (L.putM u (.int .i64 x) (.int .i64 y) (.slice A S.length D))
 have O:=ac (aN F (b:=w.heap.size) (by omega) (.int .i64 x) (.int .i64 y) (.slice A S.length D))
 clear H L F u
 go_wp2
 exact bodyPost_ret (v:=.tuple #[.agg #[.int .i64 x,.int .i64 y,.slice A S.length D],.int .i64 0]) (by simp[results,Tryz.results170,go_sem,N,z1,z2]) rfl ⟨_,rfl,⟨A,D,rfl,X,uH Q⟩,uH O⟩
end Go.Proofs.YtcbcmlaogehimaaGreatDoor
namespace Go.Proofs.YtcbcmlaogehimaaGreatDoor
open Go.RowKit
theorem Gl(args:Array Value)(w:World):(callFunc 154 args).run Tryz.prog w=.ok (.enter 154 args) w:=by
 simp only[callFunc,go_sem]
 rfl
theorem JB(args:Array Value)(w:World):(callFunc 209 args).run Tryz.prog w=.ok (.enter 209 args) w:=by
 simp only[callFunc,go_sem]
 rfl
theorem De(r c d i k a b:Nat)(z:Option Addr)(S:List Nat)(w:World)(h:Mx w z d r c S)(K:i+a≤r)(L:k+b≤c):
  Calls Tryz.prog 95 #[.agg #[.int .i64 r,.int .i64 c,.slice z S.length d],.int .i64 i,.int .i64 k,.int .i64 a,.int .i64 b] w fun e u=>∃v,e=.returned (.tuple #[v,.int .i64 0])∧df w.heap.size u a b (J8 c S i k a b) v∧Below w.heap.size w u:=by
 have N:=h.2.2.1
 have O:=h.2.2.2
 refine Dd r c z S.length d i k a b a b (J8 c S i k a b) w (by have:=h.small;omega) (xL h) (fun u=>?_) (fun u=>?_) ?_
 ·have:=tY i a r u (by omega) (by omega)
  rwa[decide_eq_true (by omega)]at this
 ·have:=tY k b c u (by omega) (by omega)
  rwa[decide_eq_true (by omega)]at this
 ·intro G F H I J
  refine qk 154 _ a b _ G Gl (by omega) (by omega) (fun x y _ _=>h.el_lt _ _) ?_
  intro u x y A Q U
  have D:Below w.heap.size w u:=F.trans (A.mono F.size)
  refine Db r c S.length d x y i k _ w.heap.size (w.heap.size+1) (w.heap.size+1+1) z u (by omega) (by omega) (H.all A) (aG I A) (aG J A) ?_
  rw[show(i:Int)+(x:Int)=((i+x:Nat):Int) by simp,show(k:Int)+(y:Int)=((k+y:Nat):Int) by simp]
  exact Gi r c d (i+x) (k+y) z S u (h.below D) (by omega) (by omega)
theorem Gm(n:Nat)(w:World)(h:n≤6):
  Calls Tryz.prog 170 #[.int .i64 n] w fun e d=>∃v,e=.returned (.tuple #[v,.int .i64 0])∧df w.heap.size d n n (iH n) v∧Below w.heap.size w d:=
 Gk n n n _ w (decide_eq_true (by omega)) (fun u _=>qk 209 #[] n n _ u JB h h (fun i k _ _=>by split<;>decide) (fun d i k _ _ _=>Da i k d))
end Go.Proofs.YtcbcmlaogehimaaGreatDoor
