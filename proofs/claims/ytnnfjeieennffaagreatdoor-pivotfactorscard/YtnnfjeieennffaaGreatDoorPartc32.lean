/- Part 32 of the texts. -/
import Derived.Test.YtnnfjeieennffaaGreatDoorPartc31
set_option maxHeartbeats 4000000
set_option maxRecDepth 20000
namespace Go.Proofs.YtnnfjeieennffaaGreatDoor
open Go.RowKit
def aT(I:List Int):List Nat:=I.map Int.toNat
theorem de(I:List Int):(aT I).length=I.length:=by simp[aT]
theorem oz(I:List Int)(j:Nat)(d:j<I.length):(aT I)[j]? =some (aL I j):=by simp[aT,aL,d]
theorem kN(I:List Int)(j:Nat)(d:j<I.length):(aT I).take (j+1)=(aT I).take j++[aL I j]:=by
 rw[List.take_add_one,oz I j d]
 rfl
theorem Fq(I:List Int)(P:Nat→Prop)(h:∀j,j<I.length→P (aL I j)):∀x∈aT I,P x:=by
 intro x l
 obtain⟨j,f,rfl⟩:=List.getElem_of_mem l
 have d:j<I.length:=by rw[←de];exact f
 have e:=oz I j d
 rw[List.getElem?_eq_getElem f]at e
 rw[Option.some.inj e]
 exact h j d
theorem Cf(x:Nat):∀(d:List Nat) (m:Nat),fO m (d++[x])=mx (fO m d) (fR x):=by
 intro d
 induction d with
 |nil=>intro m;rfl
 |cons y ys ih=>intro m;exact ih _
theorem Cg(k:Int)(x:Nat):∀(d:List Nat) (s:Nat),wR k s (d++[x])=H7 k (wR k s d) x:=by
 intro d
 induction d with
 |nil=>intro m;rfl
 |cons y ys ih=>intro m;exact ih _
theorem Ch(I:List Int):∀j,j≤I.length→jp I j=fO 0 ((aT I).take j):=by
 intro j
 induction j with
 |zero=>intro _;rfl
 |succ j ih=>
  intro d
  rw[kN I j (by omega),Cf,←ih (by omega)]
  rfl
theorem mO(I:List Int):jp I I.length=fO 0 (aT I):=by
 rw[Ch I _ (Nat.le_refl _),List.take_of_length_le (by rw[de];exact Nat.le_refl _)]
theorem Ci(k:Int)(I:List Int):∀j,j≤I.length→jH (tL k I) (tL k I) j=wR k 0 ((aT I).take j):=by
 intro j
 induction j with
 |zero=>intro _;rfl
 |succ j ih=>
  intro d
  rw[kN I j (by omega),Cg,←ih (by omega)]
  show aV (jH (tL k I) (tL k I) j) (mV (aL (tL k I) j) (aL (tL k I) j))=_
  rw[show aL (tL k I) j=xV (aL I j) (-k)from BK _ _ j (by omega)]
  rfl
theorem Fr(k:Int)(I:List Int):jH (tL k I) (tL k I) I.length=wR k 0 (aT I):=by
 rw[Ci k I _ (Nat.le_refl _),List.take_of_length_le (by rw[de];exact Nat.le_refl _)]
theorem iJ(I:List Int):Gg I=jn (aT I):=by
 unfold Gg jn
 rw[Fr,mO]
def JN(f:Nat→Int):Nat→Int
 |0=>0
 |n+1=>JN f n+f n
attribute [local go_sem ↓] Go.wp_at_zero Go.wp_at_succ
theorem Ij(r c n f b d i k q x:Nat)(w:World)(z:(i:Int)*(c:Int)=(q:Int))(m:q+k<n)(A:n≤36)
  (l:w.cell? ⟨b,d+(q+k),none⟩=some (.int .u64 (x:Nat))):
  Calls Tryz.prog 118 #[.agg #[.int .i64 r,.int .i64 c,.slice (some ⟨b,d,none⟩) n f],.int .i64 i,.int .i64 k] w fun e w'=>e=.returned (.int .u64 (x:Nat))∧Below w.heap.size w w':=by
 have h:=aa (ac w (.cells #[.int .i64 r,.int .i64 c,.slice (some ⟨b,d,none⟩) n f] 24))
 have D:=ai l (uH h)
 clear l
 have t:(q:Int)+(k:Int)<(n:Int):=by omega
 go_enter Tryz.func118,Tryz.ntmps118
 go_wp2
 go_ret
 exact⟨rfl,uH h⟩
theorem bY(i c:Nat):(i:Int)*(c:Int)=((i*c:Nat):Int):=by simp
theorem Fs(r c d i k:Nat)(l:Option Addr)(S:List Nat)(w:World)(h:Mx w l d r c S)(m:i<r)(t:k<c):
  Calls Tryz.prog 118 #[.agg #[.int .i64 r,.int .i64 c,.slice l S.length d],.int .i64 i,.int .i64 k] w fun e w'=>e=.returned (.int .u64 (gJ c S i k:Nat))∧Below w.heap.size w w':=by
 obtain⟨b,f,rfl,D,z,A⟩:=h.cells m t
 exact Ij r c S.length d b f i k (i*c) _ w (bY i c) A h.small z
theorem bD.least{H H':Nat}{f:Option Addr}{I:List Int}(h:bD H f I)(l:H'≤H):bD H' f I:=by
 rcases h with e|⟨b,d,m,t⟩
 ·exact .inl e
 ·exact .inr ⟨b,d,m,Nat.le_trans l t⟩
theorem bL.newB{d:Nat}{w:World}{l:Option Addr}{n f:Nat}{S:List Nat}(h:bL d w (.slice l n f) S):bD d l (az S):=by
 rcases h.1.2 with⟨_,z⟩|⟨g,m,A,t,D,_⟩
 ·exact .inl (by rw[List.length_eq_zero_iff.1 z];rfl)
 ·simp only[Value.slice.injEq]at t
  exact .inr ⟨g,0,t.1,D⟩
theorem qh(fn:Nat)(K:Array Value)(r c:Nat)(f:Nat→Nat→Nat)(w:World)
  (a6:∀L w,(callFunc fn L).run Tryz.prog w=.ok (.enter fn L) w) (hr:r≤6) (hc:c≤6) (hf:∀i k,i<r→k<c→f i k<18446744073709551616)
  (m:∀w' i k,Below w.heap.size w w'→i<r→k<c→Calls Tryz.prog fn (#[.int .i64 (i:Nat),.int .i64 (k:Nat)]++K) w' fun e ax=>e=.returned (.int .u64 (f i k:Nat))∧Below w'.heap.size w' ax):
  Calls Tryz.prog 116 #[.int .i64 r,.int .i64 c,.func (.func fn) #[] K] w fun e w'=>∃v,e=.returned v∧bS w.heap.size w' r c (fu r c f) v∧Below w.heap.size w w':=by
 obtain⟨i0,a1,a2,a3,a4⟩:=info_parts kG
 have HS:=aa m;have HF:=aa hf
 have hm:(r:Int)*(c:Int)=((r*c:Nat):Int):=bY r c
 have a7:r*c≤36:=Nat.mul_le_mul hr hc
 have X0:=aa (aw.new w (.int .i64 0) (.int .i64 0) (.slice none 0 0))
 have B0:=aa (ac w (.cells #[.int .i64 0,.int .i64 0,.slice none 0 0] 24))
 obtain⟨w1,a5,O,X⟩:=run_make_own (P:=Tryz.prog) (w.alloc (.cells #[.int .i64 0,.int .i64 0,.slice none 0 0] 24)) (w.heap.size+1) 22 31 i0 (.int .u64 0) 1 Tryz.underlying22 a1 a2 a3 .i64 .i64 (r*c) (by rw[a4];omega) (by unfold maxLen;omega) (by simp)
 have B1:=aa ((uH B0).grown X (by simp) (fun g hg=>by cases hg))
 have X1:aw w1 w.heap.size (.int .i64 0) (.int .i64 0) (.slice none 0 0):=(uH X0).grown X (by simp)
 have O1:=aa (show bL (w.heap.size+1) w1 (.slice (some ⟨w.heap.size+1,0,none⟩) 0 (r*c)) (kH (fun p=>f (p/c) (p%c)) (0*c))from⟨by rw[Nat.zero_mul];simpa[kH]using O,by rw[Nat.zero_mul];intro x hx;cases hx⟩)
 have Y:=aa X1
 clear O X X0 B0 X1
 obtain⟨F,hF⟩:∃F:Nat→Nat,F=fun p=>f (p/c) (p%c):=⟨_,rfl⟩
 rw[←hF]at O1
 have FV:=aa (show∀j k,k<c→F (j*c+k)=f j k from fun j k hk=>by rw[hF];show f ((j*c+k)/c) ((j*c+k)%c)=_;rw[jq hk,jr hk])
 have FM:=aa (show fu r c f=kH F (r*c)from by rw[hF];rfl)
 rw[uH FM]
 generalize ao:r*c=n at*
 have Z:=aa ao
 clear ao m hf hF
 go_enter Tryz.func116,Tryz.ntmps116
 go_wp2_with fail
 clear a5
 go_loopw[7,15] (fun v i wr=>∃j:Nat,j≤r∧i=.int .i64 j∧Hid (bL (w.heap.size+1) wr v (kH F (j*c)))∧Hid (aw wr w.heap.size (.int .i64 0) (.int .i64 0) (.slice none 0 0))∧Hid (Below w.heap.size w wr)) (fun _ i _=>r-(intOf i).toNat)
 case atStart=>exact⟨0,Nat.zero_le _,rfl,O1,Y,B1⟩
 case round=>
  clear O1 Y B1
  obtain⟨j,hj,rfl,l,d,A⟩:=hrel
  by_cases V:j<r
  ·have a9:(j:Int)<(r:Int):=by omega
   have D:=aa (show bL (w.heap.size+1) wr _ (kH F (j*c+0))from uH l)
   clear l
   go_wp2_with fail
   go_loopw[7,19] (fun v i wr=>∃k:Nat,k≤c∧i=.int .i64 k∧Hid (bL (w.heap.size+1) wr v (kH F (j*c+k)))∧Hid (aw wr w.heap.size (.int .i64 0) (.int .i64 0) (.slice none 0 0))∧Hid (Below w.heap.size w wr)) (fun _ i _=>c-(intOf i).toNat)
   case atStart=>exact⟨0,Nat.zero_le _,rfl,D,d,A⟩
   case round=>
    clear D d A
    obtain⟨k,hk,rfl,l,d,A⟩:=hrel
    by_cases G:k<c
    ·have ba:(k:Int)<(c:Int):=by omega
     have C:=aa (fun w' h=>uH HS w' j k h V G)
     have ho:=aa (uH HF j k V G)
     have eo:=aa (uH FV j k G)
     have M:=aa (show(kH F (j*c+k)).length≤1000000 from by
      rw[iG]
      have:=gD V G
      rw[uH Z]at this
      omega)
     generalize f j k=o at*
     go_wp2_with fail
     refine(uH C _ A.out).mono ?_
     rintro e w2 ⟨rfl,H⟩
     have N:=(uH l).below H
     have t:=(uH d).all H
     have B2:=A.out.trans (H.mono A.out.size)
     obtain⟨v3,w3,Q,U,z,_,_⟩:=N.push o (uH ho) (uH M) (by have:=t.lt;omega) 22
     have ae:=aa Q
     have O3:=aa (show bL (w.heap.size+1) w3 v3 (kH F (j*c+(k+1)))from by
      rw[←Nat.add_assoc,kI,uH eo];exact U)
     have X3:=aa (t.below z (by omega))
     have B3:=aa (B2.trans (z.mono (by omega)))
     clear H C l d A N t B2 Q U z ho eo M
     go_wp2_with(at_builtin;refine aW _ rfl _ _ 22 rfl _ _ _ _ rfl rfl (uH ae) ?_;clear ae)
     go_round
     case rel=>exact⟨k+1,by omega,by go_num,O3,X3,B3⟩
     case measure=>simp[intOf];omega
    ·have aI:k=c:=by omega
     subst aI
     have D:=aa (show bL (w.heap.size+1) _ _ (kH F ((j+1)*k))from by rw[Nat.add_mul,Nat.one_mul];exact uH l)
     clear l
     go_wp2_with fail
     go_round
     case rel=>exact⟨j+1,by omega,by go_num,D,d,A⟩
     case measure=>simp[intOf];omega
  ·have a0:j=r:=by omega
   subst a0
   rw[uH Z]at l
   obtain⟨b1,d1,e1,q1⟩:=(uH l).bits
   have aj:=(uH l).1
   rw[iG]at e1
   subst e1
   have am:=aa ((uH l).newB.least (Nat.le_succ w.heap.size))
   have s0:=(uH d).c0;have s1:=(uH d).c1;have s2:=(uH d).c2
   have f0:=(uH d).free 0;have f1:=(uH d).free 1;have f2:=(uH d).free 2
   have XP:=(uH d).put (.int .i64 j) (.int .i64 c) (.slice b1 n d1)
   have z0:=XP.c0;have z1:=XP.c1;have z2:=XP.c2
   have QP:=aa (q1.putM (uH d) (.int .i64 j) (.int .i64 c) (.slice b1 n d1))
   have BP:=aa (aA (uH A) (Nat.le_refl _) (.int .i64 j) (.int .i64 c) (.slice b1 n d1))
   clear q1 aj l d A XP
   go_wp2
   exact bodyPost_ret (v:=.agg #[.int .i64 j,.int .i64 c,.slice b1 n d1]) (by simp[results,Tryz.results116,go_sem,z0,z1,z2]) rfl ⟨_,rfl,⟨b1,d1,by rw[iG],uH am,uH QP⟩,uH BP⟩
end Go.Proofs.YtnnfjeieennffaaGreatDoor
namespace Go.Proofs.YtnnfjeieennffaaGreatDoor
open Go.RowKit
def eg(T:Nat)(w:World)(b:Nat)(x y z:Value):Prop:=w.heap[b]? =some (.cells #[x,y,z] T (0,0))
theorem eg.c0{T:Nat}{w:World}{b:Nat}{x y z:Value}(h:eg T w b x y z):w.cell? ⟨b,0,none⟩=some x:=by rw[cell_of_row w b 0 _ _ _ h];rfl
theorem eg.c1{T:Nat}{w:World}{b:Nat}{x y z:Value}(h:eg T w b x y z):w.cell? ⟨b,1,none⟩=some y:=by rw[cell_of_row w b 1 _ _ _ h];rfl
theorem eg.c2{T:Nat}{w:World}{b:Nat}{x y z:Value}(h:eg T w b x y z):w.cell? ⟨b,2,none⟩=some z:=by rw[cell_of_row w b 2 _ _ _ h];rfl
theorem eg.free{T:Nat}{w:World}{b:Nat}{x y z:Value}(h:eg T w b x y z)(j:Nat):w.frozen? ⟨b,j,none⟩=false:=frozen_of_row w b j _ _ h
theorem eg.lt{T:Nat}{w:World}{b:Nat}{x y z:Value}(h:eg T w b x y z):b<w.heap.size:=(Array.getElem?_eq_some_iff.1 h).1
theorem eg.below{T:Nat}{w w':World}{b:Nat}{x y z:Value}(h:eg T w b x y z){B:Nat}(f:Below B w w')(d:b<B):eg T w' b x y z:=(f.block b d).trans h
theorem eg.new(T:Nat)(w:World)(x y z:Value):eg T (w.alloc (.cells #[x,y,z] T)) w.heap.size x y z:=heap_alloc_new w _
theorem eg.all{T:Nat}{w w':World}{b:Nat}{x y z:Value}(h:eg T w b x y z)(d:Below w.heap.size w w'):eg T w' b x y z:=h.below d h.lt
theorem eg.other{T:Nat}{w:World}{b:Nat}{x y z:Value}(h:eg T w b x y z){p:Addr}(d:b≠p.block)(u:Value):eg T (w.setCell p u) b x y z:=(Below.heap_setCell w p u b d).trans h
theorem eg.put{T:Nat}{w:World}{b:Nat}{x y z:Value}(h:eg T w b x y z)(u u' u'':Value):eg T (((w.setCell ⟨b,0,none⟩ u).setCell ⟨b,1,none⟩ u').setCell ⟨b,2,none⟩ u'') b u u' u'':=by
 have d:=heap_setCell_same w b 0 _ _ u h
 have f:=heap_setCell_same (w.setCell ⟨b,0,none⟩ u) b 1 _ _ u' d
 have l:=heap_setCell_same ((w.setCell ⟨b,0,none⟩ u).setCell ⟨b,1,none⟩ u') b 2 _ _ u'' f
 unfold eg
 rw[l]
 simp
attribute [local go_sem ↓] Go.wp_at_zero Go.wp_at_succ
def Ik(w:World)(g k:Nat)(R C:Nat→Int)(A:Nat→Option Addr)(N P:Nat→Nat):Prop:=
 ∀i,i<k→w.cell? ⟨g,i*3,none⟩=some (.int .i64 (R i))∧w.cell? ⟨g,i*3+1,none⟩=some (.int .i64 (C i))∧w.cell? ⟨g,i*3+2,none⟩=some (.slice (A i) (N i) (P i))
theorem Cj(k g:Nat)(R C:Nat→Int)(A:Nat→Option Addr)(N P:Nat→Nat)(w:World)(hk:k≤2)(K:∀i,i<k→N i≤35184372088830)(L:Ik w g k R C A N P):
  Calls Tryz.prog 114 #[.slice (some ⟨g,0,none⟩) k k] w fun e w'=>∃b,e=.returned (.bool b)∧(b=true↔∀i,i<k→lH (R i) (C i) (N i)=true)∧Below w.heap.size w w':=by
 have Y:=aa L;have Z:=aa K
 clear L K
 go_enter Tryz.func114,Tryz.ntmps114
 go_wp2_with fail
 go_loopw[7] (fun i wr=>∃j:Nat,j≤k∧i=.int .i64 j∧Hid (Below w.heap.size w wr)∧Hid (∀t,t<j→lH (R t) (C t) (N t)=true)) (fun i _=>k-(intOf i).toNat)
 case atStart=>exact⟨0,Nat.zero_le _,rfl,Below.refl _ _,fun t h=>by omega⟩
 case round=>
  obtain⟨j,hj,rfl,l,U⟩:=hrel
  by_cases f:j<k
  ·have ae:(j:Int)<(k:Int):=by omega
   obtain⟨H,V,X⟩:=uH Y j f
   have M:=uH Z j f
   have O:=aa (fun w'=>jX (R j) (C j) (A j) (N j) (P j) w' M)
   have d:=World.block_lt_of_cell? w _ H
   have z:=aa (l.out.mono (Nat.le_refl _))
   have d0:wr.cell? ⟨g,j*3,none⟩=some (.int .i64 (R j)):=by rw[l.out.cell (p:=⟨g,j*3,none⟩) d];exact H
   have d1:wr.cell? ⟨g,j*3+1,none⟩=some (.int .i64 (C j)):=by rw[l.out.cell (p:=⟨g,j*3+1,none⟩) d];exact V
   have d2:wr.cell? ⟨g,j*3+2,none⟩=some (.slice (A j) (N j) (P j)):=by rw[l.out.cell (p:=⟨g,j*3+2,none⟩) d];exact X
   have D:=aa ((uH z).alloc (uH z).size (.cells #[.int .i64 (R j),.int .i64 (C j),.slice (A j) (N j) (P j)] 24))
   clear H V X M l z d
   go_wp2_with fail
   refine(uH O _).mono ?_
   rintro e w2 ⟨rfl,m⟩
   have Q:Hid (Below w.heap.size w w2):=(uH D).trans (m.mono (uH D).size)
   clear O m d0 d1 d2 D
   cases ho:lH (R j) (C j) (N j)
   ·have F:=aa ho
    clear ho
    rw[if_neg (by decide)]
    go_wp2
    go_ret
    refine⟨false,rfl,⟨(fun h=>nomatch h),fun h=>?_⟩,uH Q⟩
    have:=h j f
    rw[uH F]at this
    cases this
   ·have F:=aa ho
    clear ho
    rw[if_pos rfl]
    go_wp2
    go_round
    case rel=>
     refine⟨j+1,by omega,by go_num,Q,aa fun t ht=>?_⟩
     by_cases e:t=j
     ·subst e;exact uH F
     ·exact U.out t (by omega)
    case measure=>simp[intOf];omega
  ·have G:j=k:=by omega
   subst G
   go_wp2
   go_ret
   exact⟨true,rfl,⟨fun _=>U.out,fun _=>rfl⟩,l.out⟩
theorem oA(r c:Int)(f:Option Addr)(n d:Nat)(w:World)(m:n≤35184372088830):
  Calls Tryz.prog 114 #[.slice (some ⟨w.heap.size,0,none⟩) 1 1] (w.alloc (.cells #[.int .i64 r,.int .i64 c,.slice f n d] 24)) fun e w'=>e=.returned (.bool (lH r c n))∧Below w.heap.size w w':=by
 have X:=aw.new w (.int .i64 r) (.int .i64 c) (.slice f n d)
 have B:=ac w (.cells #[.int .i64 r,.int .i64 c,.slice f n d] 24)
 refine(Cj 1 w.heap.size (fun _=>r) (fun _=>c) (fun _=>f) (fun _=>n) (fun _=>d) _ (by omega) (fun _ _=>m) ?_).mono ?_
 ·intro i z
  obtain rfl:i=0:=by omega
  exact⟨X.c0,X.c1,X.c2⟩
 ·rintro e w' ⟨b,rfl,l,t⟩
  refine⟨?_,B.trans (t.mono B.size)⟩
  have:b=lH r c n:=by
   cases h:lH r c n
   ·cases b
    ·rfl
    ·have:=l.1 rfl 0 (by omega);rw[h]at this;cases this
   ·exact l.2 (fun _ _=>h)
  rw[this]
theorem tu(f p e:Int)(w:World)(l:-9223372036854775808≤f∧f≤9223372036854775807)(m:0≤e∧e≤6):
  Calls Tryz.prog 115 #[.int .i64 f,.int .i64 p,.int .i64 e] w fun x w'=>x=.returned (.bool (decide (0≤f∧0≤p∧p≤e-f)))∧w=w':=by
 rcases(show f<0∨(0≤f∧p<0)∨(0≤f∧0≤p) by omega)with d|⟨d,h⟩|⟨d,h⟩
 ·rw[decide_eq_false (by omega)]
  go_enter Tryz.func115,Tryz.ntmps115
  go_wp2
  go_ret
  exact⟨rfl,rfl⟩
 ·rw[decide_eq_false (by omega)]
  go_enter Tryz.func115,Tryz.ntmps115
  go_wp2
  go_ret
  exact⟨rfl,rfl⟩
 ·rw[show decide (0≤f∧0≤p∧p≤e-f)=decide (p≤e-f)from decide_eq_decide.2 (by omega)]
  go_enter Tryz.func115,Tryz.ntmps115
  go_wp2
  go_ret
  exact⟨rfl,rfl⟩
end Go.Proofs.YtnnfjeieennffaaGreatDoor
