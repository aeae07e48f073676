/- Part 37 of the texts. -/
import Derived.Test.YtmpkkhackbpflaaGreatDoorPartg36
set_option maxHeartbeats 4000000
set_option maxRecDepth 20000
namespace Go.Proofs.YtmpkkhackbpflaaGreatDoor
open Go.RowKit
attribute [local go_sem ↓] Go.wp_at_zero Go.wp_at_succ
def aT(w:World)(b:Nat)(x y z:Value):Prop:=w.heap[b]? =some (.cells #[x,y,z] 25 (0,0))
theorem aT.c0{w:World}{b:Nat}{x y z:Value}(h:aT w b x y z):w.cell? ⟨b,0,none⟩=some x:=by rw[cell_of_row w b 0 _ _ _ h];rfl
theorem aT.c1{w:World}{b:Nat}{x y z:Value}(h:aT w b x y z):w.cell? ⟨b,1,none⟩=some y:=by rw[cell_of_row w b 1 _ _ _ h];rfl
theorem aT.c2{w:World}{b:Nat}{x y z:Value}(h:aT w b x y z):w.cell? ⟨b,2,none⟩=some z:=by rw[cell_of_row w b 2 _ _ _ h];rfl
theorem aT.free{w:World}{b:Nat}{x y z:Value}(h:aT w b x y z)(j:Nat):w.frozen? ⟨b,j,none⟩=false:=frozen_of_row w b j _ _ h
theorem aT.lt{w:World}{b:Nat}{x y z:Value}(h:aT w b x y z):b<w.heap.size:=(Array.getElem?_eq_some_iff.1 h).1
theorem aT.below{w l:World}{b:Nat}{x y z:Value}(h:aT w b x y z){B:Nat}(t:Below B w l)(d:b<B):aT l b x y z:=(t.block b d).trans h
theorem aT.new(w:World)(x y z:Value):aT (w.alloc (.cells #[x,y,z] 25)) w.heap.size x y z:=heap_alloc_new w _
theorem aT.all{w d:World}{b:Nat}{x y z:Value}(h:aT w b x y z)(l:Below w.heap.size w d):aT d b x y z:=h.below l h.lt
theorem aT.other{w:World}{b:Nat}{x y z:Value}(h:aT w b x y z){p:Addr}(d:b≠p.block)(u:Value):aT (w.setCell p u) b x y z:=(Below.heap_setCell w p u b d).trans h
theorem aT.put{w:World}{b:Nat}{x y z:Value}(h:aT w b x y z)(u u' u'':Value):aT (((w.setCell ⟨b,0,none⟩ u).setCell ⟨b,1,none⟩ u').setCell ⟨b,2,none⟩ u'') b u u' u'':=by
 have d:=heap_setCell_same w b 0 _ _ u h
 have l:=heap_setCell_same (w.setCell ⟨b,0,none⟩ u) b 1 _ _ u' d
 have t:=heap_setCell_same ((w.setCell ⟨b,0,none⟩ u).setCell ⟨b,1,none⟩ u') b 2 _ _ u'' l
 unfold aT
 rw[t]
 simp
theorem aW{w l:World}{B b:Nat}(h:Below B w l)(d:B≤b)(u u' u'':Value):Below B w (((l.setCell ⟨b,0,none⟩ u).setCell ⟨b,1,none⟩ u').setCell ⟨b,2,none⟩ u''):=
 ((h.setCell d _).setCell d _).setCell d _
theorem aT.grown{w d:World}{b:Nat}{x y z:Value}(h:aT w b x y z){o:Option Nat}(l:w.grownBy d o)(t:o≠some b):aT d b x y z:=
 (l.block b h.lt t.symm).trans h
def EO(r c:Int):Bool:=decide (0≤r∧r≤6∧0≤c∧c≤6)
def ya(r c:Int)(n:Nat):Bool:=decide ((0≤r∧r≤6∧0≤c∧c≤6)∧(n:Int)=r*c)
theorem jZ(r c:Int)(w:World):
  Calls Tryz.prog 149 #[.int .i64 r,.int .i64 c] w fun e d=>e=.returned (.bool (EO r c))∧w=d:=by
 rcases(show(r<0∧EO r c=false)∨(0≤r∧6<r∧EO r c=false)∨(0≤r∧r≤6∧c<0∧EO r c=false)∨(0≤r∧r≤6∧0≤c∧6<c∧EO r c=false)∨(0≤r∧r≤6∧0≤c∧c≤6∧EO r c=true) by
  unfold EO
  by_cases h:0≤r∧r≤6∧0≤c∧c≤6
  ·rw[decide_eq_true h];simp;omega
  ·rw[decide_eq_false h];simp;omega)with⟨h1,e⟩|⟨h1,h2,e⟩|⟨h1,h2,h3,e⟩|⟨h1,h2,h3,h4,e⟩|⟨h1,h2,h3,h4,e⟩
 all_goals
  rw[e]
  clear e
  go_enter Tryz.func149,Tryz.ntmps149
  go_wp2
  go_ret
  refine⟨?_,rfl⟩
  first|rfl|(simp;omega)
theorem lk(r c:Int)(J:Option Addr)(n F:Nat)(w:World)(O:n≤35184372088830):
  Calls Tryz.prog 97 #[.agg #[.int .i64 r,.int .i64 c,.slice J n F]] w fun e G=>e=.returned (.int .i64 (if ya r c n=true then 0 else 1))∧Below w.heap.size w G:=by
 have l:=ac (fun G=>jZ r c G)
 have z:=ac (ag w (.cells #[.int .i64 r,.int .i64 c,.slice J n F] 25))
 by_cases d:0≤r∧r≤6∧0≤c∧c≤6
 ·have D:EO r c=true:=decide_eq_true d
  rw[D]at l
  have H:∃m:Nat,r*c=(m:Int)∧m≤36:=by
   obtain⟨a,rfl⟩:=Int.eq_ofNat_of_zero_le d.1
   obtain⟨b,rfl⟩:=Int.eq_ofNat_of_zero_le d.2.2.1
   refine⟨a*b,by simp,?_⟩
   have:a*b≤6*6:=Nat.mul_le_mul (by omega) (by omega)
   omega
  obtain⟨m,H,N⟩:=H
  by_cases I:n=m
  ·have t:ya r c n=true:=decide_eq_true ⟨d,by rw[H,I]⟩
   rw[if_pos t]
   subst I
   clear D t d
   go_enter Tryz.func97,Tryz.ntmps97
   go_wp2_with fail
   refine(uH l _).mono ?_
   rintro e L ⟨rfl,rfl⟩
   clear l
   go_wp2
   go_ret
   exact⟨rfl,uH z⟩
  ·have t:ya r c n=false:=decide_eq_false (fun h=>I (by have:=h.2;omega))
   rw[if_neg (by rw[t];decide)]
   have M:decide ((n:Int)=(m:Int))=false:=decide_eq_false (by omega)
   clear D t d
   go_enter Tryz.func97,Tryz.ntmps97
   go_wp2_with fail
   refine(uH l _).mono ?_
   rintro e L ⟨rfl,rfl⟩
   clear l
   go_wp2
   go_ret
   exact⟨rfl,uH z⟩
 ·have D:EO r c=false:=decide_eq_false d
  rw[D]at l
  have t:ya r c n=false:=decide_eq_false (fun h=>d h.1)
  rw[if_neg (by rw[t];decide)]
  clear D t d
  go_enter Tryz.func97,Tryz.ntmps97
  go_wp2_with fail
  refine(uH l _).mono ?_
  rintro e L ⟨rfl,rfl⟩
  clear l
  go_wp2
  go_ret
  exact⟨rfl,uH z⟩
end Go.Proofs.YtmpkkhackbpflaaGreatDoor
namespace Go.Proofs.YtmpkkhackbpflaaGreatDoor
open Go.RowKit
def bs(S:List Nat):List Int:=S.map (fun x:Nat=>(x:Int))
theorem aM(S:List Nat):(bs S).length=S.length:=by simp[bs]
theorem jz(S:List Nat)(j:Nat):bN (bs S) j=S.getD j 0:=by
 unfold bs bN
 rw[List.getElem?_map,List.getD_eq_getElem?_getD]
 cases S[j]? <;>simp
theorem ak.nat{w:World}{d:Option Addr}{c:Nat}{S:List Nat}(h:ak w d c (bs S)):∀x∈S,x<18446744073709551616:=by
 intro x l
 have:=h.2.1 (x:Int) (List.mem_map.2 ⟨x,l,rfl⟩)
 omega
theorem ak.none(w:World)(c:Nat):ak w .none c (bs []):=⟨by simp[bs],by simp[bs],.inl rfl⟩
theorem ak.nilAt(w:World)(d:Option Addr)(c:Nat):ak w d c (bs []):=⟨by simp[bs],by simp[bs],.inl rfl⟩
theorem ak.putM{w:World}{D:Option Addr}{c:Nat}{I:List Int}(h:ak w D c I){g:Nat}{x y:Int}{a:Option Addr}{n d:Nat}(H:aT w g (.int .i64 x) (.int .i64 y) (.slice a n d))(u u' u'':Value):
  ak (((w.setCell ⟨g,0,.none⟩ u).setCell ⟨g,1,.none⟩ u').setCell ⟨g,2,.none⟩ u'') D c I:=by
 refine⟨h.1,h.2.1,?_⟩
 rcases h.2.2 with M|⟨b,l,N,O,G⟩
 ·exact .inl M
 ·by_cases F:I= []
  ·exact .inl F
  ·have L:0<I.length:=List.length_pos_iff.2 F
   have t:b≠g:=by
    rintro rfl
    have z:=G 0 L
    rw[cell_of_row w b (l+0) _ _ _ H]at z
    rcases(show l=0∨l=1∨l=2∨3≤l by omega)with e|e|e|e
    ·subst e;simp at z
    ·subst e;simp at z
    ·subst e;simp at z
    ·rw[Array.getElem?_eq_none (by simp;omega)]at z;simp at z
   refine .inr ⟨b,l,N,by simpa[World.setCell]using O,fun i J=>?_⟩
   rw[an _ _ _ _ (by simpa using t),an _ _ _ _ (by simpa using t),an _ _ _ _ (by simpa using t)]
   exact G i J
def Mx(w:World)(ao:Option Addr)(cap r c:Nat)(S:List Nat):Prop:=ak w ao cap (bs S)∧S.length=r*c∧r≤6∧c≤6
theorem Mx.below{w l:World}{t:Option Addr}{d r c:Nat}{S:List Nat}(h:Mx w t d r c S)(z:Below w.heap.size w l):Mx l t d r c S:=⟨h.1.below z,h.2⟩
theorem Mx.small{w:World}{l:Option Addr}{d r c:Nat}{S:List Nat}(h:Mx w l d r c S):S.length≤36:=by
 rw[h.2.1]
 exact Nat.mul_le_mul h.2.2.1 h.2.2.2
theorem Mx.el_lt{w:World}{l:Option Addr}{d r c:Nat}{S:List Nat}(h:Mx w l d r c S)(i k:Nat):cj c S i k<18446744073709551616:=by
 unfold cj
 rw[List.getD_eq_getElem?_getD]
 by_cases g:i*c+k<S.length
 ·rw[List.getElem?_eq_getElem g];exact h.1.nat _ (List.getElem_mem g)
 ·rw[List.getElem?_eq_none (by omega)];decide
theorem Mx.cells{w:World}{t:Option Addr}{l r c:Nat}{S:List Nat}(h:Mx w t l r c S){i k:Nat}(D:i<r)(F:k<c):∃b d,t=some ⟨b,d,.none⟩∧b<w.heap.size∧w.cell? ⟨b,d+(i*c+k),.none⟩=some (.int .u64 (cj c S i k:Nat))∧i*c+k<S.length:=by
 have z:i*c+k<S.length:=by rw[h.2.1];exact gN D F
 obtain⟨b,d,G,H,I⟩:=h.1.ne (by rw[aM];omega)
 refine⟨b,d,G,H,?_,z⟩
 rw[I _ (by rw[aM];exact z),jz]
 rfl
theorem zT{w:World}{l:Option Addr}{d r c:Nat}{S:List Nat}(h:Mx w l d r c S):ya (r:Int) (c:Int) S.length=true:=by
 refine decide_eq_true ⟨⟨by omega,?_,by omega,?_⟩,?_⟩
 ·have:=h.2.2.1;omega
 ·have:=h.2.2.2;omega
 ·rw[h.2.1];simp
def dc(H:Nat)(w':World)(r c:Nat)(S:List Nat)(v:Value):Prop:=∃ao cap,v=.agg #[.int .i64 r,.int .i64 c,.slice ao S.length cap]∧dJ H ao (bs S)∧ak w' ao cap (bs S)
theorem dc.zero(H:Nat)(w:World):dc H w 0 0 [] (.agg #[.int .i64 0,.int .i64 0,.slice .none 0 0]):=⟨.none,0,rfl,.inl rfl,ak.none w 0⟩
theorem dc.least{H t:Nat}{w:World}{r c:Nat}{S:List Nat}{v:Value}(h:dc H w r c S v)(z:t≤H):dc t w r c S v:=by
 obtain⟨D,d,F,G,I⟩:=h
 refine⟨D,d,F,?_,I⟩
 rcases G with e|⟨b,l,J,L⟩
 ·exact .inl e
 ·exact .inr ⟨b,l,J,Nat.le_trans z L⟩
attribute [local go_sem ↓] Go.wp_at_zero Go.wp_at_succ
theorem LB(r c n h b d i k q x:Nat)(w:World)(G:(i:Int)*(c:Int)=(q:Int))(z:q+k<n)(H:n≤36)
  (t:w.cell? ⟨b,d+(q+k),none⟩=some (.int .u64 (x:Nat))):
  Calls Tryz.prog 154 #[.agg #[.int .i64 r,.int .i64 c,.slice (some ⟨b,d,none⟩) n h],.int .i64 i,.int .i64 k] w fun e D=>e=.returned (.int .u64 (x:Nat))∧Below w.heap.size w D:=by
 have l:=ac (ag w (.cells #[.int .i64 r,.int .i64 c,.slice (some ⟨b,d,none⟩) n h] 25))
 have I:=av t (uH l)
 clear t
 have F:(q:Int)+(k:Int)<(n:Int):=by omega
 go_enter Tryz.func154,Tryz.ntmps154
 go_wp2
 go_ret
 exact⟨rfl,uH l⟩
theorem cK(i c:Nat):(i:Int)*(c:Int)=((i*c:Nat):Int):=by simp
theorem H9(r c d i k:Nat)(t:Option Addr)(S:List Nat)(w:World)(h:Mx w t d r c S)(z:i<r)(D:k<c):
  Calls Tryz.prog 154 #[.agg #[.int .i64 r,.int .i64 c,.slice t S.length d],.int .i64 i,.int .i64 k] w fun e F=>e=.returned (.int .u64 (cj c S i k:Nat))∧Below w.heap.size w F:=by
 obtain⟨b,l,rfl,I,G,H⟩:=h.cells z D
 exact LB r c S.length d b l i k (i*c) _ w (cK i c) H h.small G
theorem dJ.least{H l:Nat}{t:Option Addr}{I:List Int}(h:dJ H t I)(z:l≤H):dJ l t I:=by
 rcases h with e|⟨b,d,D,F⟩
 ·exact .inl e
 ·exact .inr ⟨b,d,D,Nat.le_trans z F⟩
theorem gL.newB{d:Nat}{w:World}{t:Option Addr}{n l:Nat}{S:List Nat}(h:gL d w (.slice t n l) S):dJ d t (bs S):=by
 rcases h.1.2 with⟨_,F⟩|⟨g,z,G,D,H,_⟩
 ·exact .inl (by rw[List.length_eq_zero_iff.1 F];rfl)
 ·simp only[Value.slice.injEq]at D
  exact .inr ⟨g,0,D.1,H⟩
theorem rU(fn:Nat)(M:Array Value)(r c:Nat)(f:Nat→Nat→Nat)(w:World)
  (a0:∀N w,(callFunc fn N).run Tryz.prog w=.ok (.enter fn N) w) (hr:r≤6) (hc:c≤6) (hf:∀i k,i<r→k<c→f i k<18446744073709551616)
  (t:∀H i k,Below w.heap.size w H→i<r→k<c→Calls Tryz.prog fn (#[.int .i64 (i:Nat),.int .i64 (k:Nat)]++M) H fun e ao=>e=.returned (.int .u64 (f i k:Nat))∧Below H.heap.size H ao):
  Calls Tryz.prog 152 #[.int .i64 r,.int .i64 c,.func (.func fn) #[] M] w fun e H=>∃v,e=.returned v∧dc w.heap.size H r c (mW r c f) v∧Below w.heap.size w H:=by
 obtain⟨i0,ax,ay,az,aD⟩:=info_parts qe
 have HS:=ac t;have HF:=ac hf
 have hm:(r:Int)*(c:Int)=((r*c:Nat):Int):=cK r c
 have a1:r*c≤36:=Nat.mul_le_mul hr hc
 have X0:=ac (aT.new w (.int .i64 0) (.int .i64 0) (.slice none 0 0))
 have B0:=ac (ag w (.cells #[.int .i64 0,.int .i64 0,.slice none 0 0] 25))
 obtain⟨w1,aI,T,Y⟩:=run_make_own (P:=Tryz.prog) (w.alloc (.cells #[.int .i64 0,.int .i64 0,.slice none 0 0] 25)) (w.heap.size+1) 23 28 i0 (.int .u64 0) 1 Tryz.underlying23 ax ay az .i64 .i64 (r*c) (by rw[aD];omega) (by unfold maxLen;omega) (by simp)
 have B1:=ac ((uH B0).grown Y (by simp) (fun g hg=>by cases hg))
 have X1:aT w1 w.heap.size (.int .i64 0) (.int .i64 0) (.slice none 0 0):=(uH X0).grown Y (by simp)
 have O1:=ac (show gL (w.heap.size+1) w1 (.slice (some ⟨w.heap.size+1,0,none⟩) 0 (r*c)) (q8 (fun p=>f (p/c) (p%c)) (0*c))from⟨by rw[Nat.zero_mul];simpa[q8]using T,by rw[Nat.zero_mul];intro x hx;cases hx⟩)
 have Z:=ac X1
 clear T Y X0 B0 X1
 obtain⟨F,hF⟩:∃F:Nat→Nat,F=fun p=>f (p/c) (p%c):=⟨_,rfl⟩
 rw[←hF]at O1
 have FV:=ac (show∀j k,k<c→F (j*c+k)=f j k from fun j k hk=>by rw[hF];show f ((j*c+k)/c) ((j*c+k)%c)=_;rw[kt hk,ku hk])
 have FM:=ac (show mW r c f=q8 F (r*c)from by rw[hF];rfl)
 rw[uH FM]
 generalize am:r*c=n at*
 have aa:=ac am
 clear am t hf hF
 go_enter Tryz.func152,Tryz.ntmps152
 go_wp2_with fail
 clear aI
 go_loopw[7,15] (fun v i wr=>∃j:Nat,j≤r∧i=.int .i64 j∧Hid (gL (w.heap.size+1) wr v (q8 F (j*c)))∧Hid (aT wr w.heap.size (.int .i64 0) (.int .i64 0) (.slice none 0 0))∧Hid (Below w.heap.size w wr)) (fun _ i _=>r-(intOf i).toNat)
 case atStart=>exact⟨0,Nat.zero_le _,rfl,O1,Z,B1⟩
 case round=>
  clear O1 Z B1
  obtain⟨j,hj,rfl,l,d,G⟩:=hrel
  by_cases X:j<r
  ·have a2:(j:Int)<(r:Int):=by omega
   have I:=ac (show gL (w.heap.size+1) wr _ (q8 F (j*c+0))from uH l)
   clear l
   go_wp2_with fail
   go_loopw[7,19] (fun v i wr=>∃k:Nat,k≤c∧i=.int .i64 k∧Hid (gL (w.heap.size+1) wr v (q8 F (j*c+k)))∧Hid (aT wr w.heap.size (.int .i64 0) (.int .i64 0) (.slice none 0 0))∧Hid (Below w.heap.size w wr)) (fun _ i _=>c-(intOf i).toNat)
   case atStart=>exact⟨0,Nat.zero_le _,rfl,I,d,G⟩
   case round=>
    clear I d G
    obtain⟨k,hk,rfl,l,d,G⟩:=hrel
    by_cases J:k<c
    ·have a3:(k:Int)<(c:Int):=by omega
     have C:=ac (fun H h=>uH HS H j k h X J)
     have ho:=ac (uH HF j k X J)
     have eo:=ac (uH FV j k J)
     have O:=ac (show(q8 F (j*c+k)).length≤1000000 from by
      rw[oP]
      have:=gN X J
      rw[uH aa]at this
      omega)
     generalize f j k=o at*
     go_wp2_with fail
     refine(uH C _ G.out).mono ?_
     rintro e w2 ⟨rfl,L⟩
     have Q:=(uH l).below L
     have z:=(uH d).all L
     have B2:=G.out.trans (L.mono G.out.size)
     obtain⟨v3,w3,U,V,D,_,_⟩:=Q.push o (uH ho) (uH O) (by have:=z.lt;omega) 23
     have ad:=ac U
     have O3:=ac (show gL (w.heap.size+1) w3 v3 (q8 F (j*c+(k+1)))from by
      rw[←Nat.add_assoc,vU,uH eo];exact V)
     have X3:=ac (z.below D (by omega))
     have B3:=ac (B2.trans (D.mono (by omega)))
     clear L C l d G Q z B2 U V D ho eo O
     go_wp2_with(at_builtin;refine fU _ rfl _ _ 23 rfl _ _ _ _ rfl rfl (uH ad) ?_;clear ad)
     go_round
     case rel=>exact⟨k+1,by omega,by go_num,O3,X3,B3⟩
     case measure=>simp[intOf];omega
    ·have ap:k=c:=by omega
     subst ap
     have I:=ac (show gL (w.heap.size+1) _ _ (q8 F ((j+1)*k))from by rw[Nat.add_mul,Nat.one_mul];exact uH l)
     clear l
     go_wp2_with fail
     go_round
     case rel=>exact⟨j+1,by omega,by go_num,I,d,G⟩
     case measure=>simp[intOf];omega
  ·have aq:j=r:=by omega
   subst aq
   rw[uH aa]at l
   obtain⟨b1,d1,e1,q1⟩:=(uH l).bits
   have ae:=(uH l).1
   rw[oP]at e1
   subst e1
   have ai:=ac ((uH l).newB.least (Nat.le_succ w.heap.size))
   have s0:=(uH d).c0;have s1:=(uH d).c1;have s2:=(uH d).c2
   have f0:=(uH d).free 0;have f1:=(uH d).free 1;have f2:=(uH d).free 2
   have XP:=(uH d).put (.int .i64 j) (.int .i64 c) (.slice b1 n d1)
   have z0:=XP.c0;have z1:=XP.c1;have z2:=XP.c2
   have QP:=ac (q1.putM (uH d) (.int .i64 j) (.int .i64 c) (.slice b1 n d1))
   have BP:=ac (aW (uH G) (Nat.le_refl _) (.int .i64 j) (.int .i64 c) (.slice b1 n d1))
   clear q1 ae l d G XP
   go_wp2
   exact bodyPost_ret (v:=.agg #[.int .i64 j,.int .i64 c,.slice b1 n d1]) (by simp[results,Tryz.results152,go_sem,z0,z1,z2]) rfl ⟨_,rfl,⟨b1,d1,by rw[oP],uH ai,uH QP⟩,uH BP⟩
def LC(w:World)(g k:Nat)(R C:Nat→Int)(A:Nat→Option Addr)(N P:Nat→Nat):Prop:=
 ∀i,i<k→w.cell? ⟨g,i*3,none⟩=some (.int .i64 (R i))∧w.cell? ⟨g,i*3+1,none⟩=some (.int .i64 (C i))∧w.cell? ⟨g,i*3+2,none⟩=some (.slice (A i) (N i) (P i))
theorem EP(k g:Nat)(R C:Nat→Int)(A:Nat→Option Addr)(N P:Nat→Nat)(w:World)(hk:k≤2)(M:∀i,i<k→N i≤35184372088830)(O:LC w g k R C A N P):
  Calls Tryz.prog 150 #[.slice (some ⟨g,0,none⟩) k k] w fun e F=>∃b,e=.returned (.bool b)∧(b=true↔∀i,i<k→ya (R i) (C i) (N i)=true)∧Below w.heap.size w F:=by
 have Z:=ac O;have HN:=ac M
 clear O M
 go_enter Tryz.func150,Tryz.ntmps150
 go_wp2_with fail
 go_loopw[7] (fun i wr=>∃j:Nat,j≤k∧i=.int .i64 j∧Hid (Below w.heap.size w wr)∧Hid (∀t,t<j→ya (R t) (C t) (N t)=true)) (fun i _=>k-(intOf i).toNat)
 case atStart=>exact⟨0,Nat.zero_le _,rfl,Below.refl _ _,fun t h=>by omega⟩
 case round=>
  obtain⟨j,hj,rfl,z,V⟩:=hrel
  by_cases l:j<k
  ·have aa:(j:Int)<(k:Int):=by omega
   obtain⟨L,X,Y⟩:=uH Z j l
   have Q:=uH HN j l
   have T:=ac (fun F=>lk (R j) (C j) (A j) (N j) (P j) F Q)
   have d:=World.block_lt_of_cell? w _ L
   have G:=ac (z.out.mono (Nat.le_refl _))
   have d0:wr.cell? ⟨g,j*3,none⟩=some (.int .i64 (R j)):=by rw[z.out.cell (p:=⟨g,j*3,none⟩) d];exact L
   have d1:wr.cell? ⟨g,j*3+1,none⟩=some (.int .i64 (C j)):=by rw[z.out.cell (p:=⟨g,j*3+1,none⟩) d];exact X
   have d2:wr.cell? ⟨g,j*3+2,none⟩=some (.slice (A j) (N j) (P j)):=by rw[z.out.cell (p:=⟨g,j*3+2,none⟩) d];exact Y
   have H:=ac ((uH G).alloc (uH G).size (.cells #[.int .i64 (R j),.int .i64 (C j),.slice (A j) (N j) (P j)] 25))
   clear L X Y Q z G d
   go_wp2_with fail
   refine(uH T _).mono ?_
   rintro e w2 ⟨rfl,D⟩
   have U:Hid (Below w.heap.size w w2):=(uH H).trans (D.mono (uH H).size)
   clear T D d0 d1 d2 H
   cases ho:ya (R j) (C j) (N j)
   ·have I:=ac ho
    clear ho
    rw[if_neg (by decide)]
    go_wp2
    go_ret
    refine⟨false,rfl,⟨(fun h=>nomatch h),fun h=>?_⟩,uH U⟩
    have:=h j l
    rw[uH I]at this
    cases this
   ·have I:=ac ho
    clear ho
    rw[if_pos rfl]
    go_wp2
    go_round
    case rel=>
     refine⟨j+1,by omega,by go_num,U,ac fun t ht=>?_⟩
     by_cases e:t=j
     ·subst e;exact uH I
     ·exact V.out t (by omega)
    case measure=>simp[intOf];omega
  ·have J:j=k:=by omega
   subst J
   go_wp2
   go_ret
   exact⟨true,rfl,⟨fun _=>V.out,fun _=>rfl⟩,z.out⟩
theorem qf(r c:Int)(l:Option Addr)(n d:Nat)(w:World)(D:n≤35184372088830):
  Calls Tryz.prog 150 #[.slice (some ⟨w.heap.size,0,none⟩) 1 1] (w.alloc (.cells #[.int .i64 r,.int .i64 c,.slice l n d] 25)) fun e t=>e=.returned (.bool (ya r c n))∧Below w.heap.size w t:=by
 have X:=aT.new w (.int .i64 r) (.int .i64 c) (.slice l n d)
 have B:=ag w (.cells #[.int .i64 r,.int .i64 c,.slice l n d] 25)
 refine(EP 1 w.heap.size (fun _=>r) (fun _=>c) (fun _=>l) (fun _=>n) (fun _=>d) _ (by omega) (fun _ _=>D) ?_).mono ?_
 ·intro i G
  obtain rfl:i=0:=by omega
  exact⟨X.c0,X.c1,X.c2⟩
 ·rintro e t ⟨b,rfl,z,F⟩
  refine⟨?_,B.trans (F.mono B.size)⟩
  have:b=ya r c n:=by
   cases h:ya r c n
   ·cases b
    ·rfl
    ·have:=z.1 rfl 0 (by omega);rw[h]at this;cases this
   ·exact z.2 (fun _ _=>h)
  rw[this]
theorem vV(f p e:Int)(w:World)(t:-9223372036854775808≤f∧f≤9223372036854775807)(z:0≤e∧e≤6):
  Calls Tryz.prog 151 #[.int .i64 f,.int .i64 p,.int .i64 e] w fun x h=>x=.returned (.bool (decide (0≤f∧0≤p∧p≤e-f)))∧w=h:=by
 rcases(show f<0∨(0≤f∧p<0)∨(0≤f∧0≤p) by omega)with d|⟨d,l⟩|⟨d,l⟩
 ·rw[decide_eq_false (by omega)]
  go_enter Tryz.func151,Tryz.ntmps151
  go_wp2
  go_ret
  exact⟨rfl,rfl⟩
 ·rw[decide_eq_false (by omega)]
  go_enter Tryz.func151,Tryz.ntmps151
  go_wp2
  go_ret
  exact⟨rfl,rfl⟩
 ·rw[show decide (0≤f∧0≤p∧p≤e-f)=decide (p≤e-f)from decide_eq_decide.2 (by omega)]
  go_enter Tryz.func151,Tryz.ntmps151
  go_wp2
  go_ret
  exact⟨rfl,rfl⟩
theorem yb(w:World)(x y z:Value)(d:World)(h:Below (w.heap.size+1) (w.alloc (.cells #[x,y,z] 25)) d):
  Below w.heap.size w d∧aT d w.heap.size x y z:=by
 have l:=ag w (.cells #[x,y,z] 25)
 exact⟨l.trans (h.mono (by omega)),(aT.new w x y z).below h (by omega)⟩
theorem tC(w:World)(x y z l t D:Value)(d:World)(h:Below (w.heap.size+1+1) ((w.alloc (.cells #[x,y,z] 25)).alloc (.cells #[l,t,D] 25)) d):
  Below w.heap.size w d∧aT d w.heap.size x y z∧aT d (w.heap.size+1) l t D:=by
 have F:=aH w (.cells #[x,y,z] 25)
 have I:Below ((w.alloc (.cells #[x,y,z] 25)).heap.size+1) ((w.alloc (.cells #[x,y,z] 25)).alloc (.cells #[l,t,D] 25)) d:=by rw[F];exact h
 obtain⟨G,H⟩:=yb _ l t D d I
 rw[F]at G H
 obtain⟨J,L⟩:=yb w x y z d G
 exact⟨J,L,H⟩
theorem LD(w:World)(x y z l t D F G z2:Value)(d:World)(h:Below (w.heap.size+1+1+1) (((w.alloc (.cells #[x,y,z] 25)).alloc (.cells #[l,t,D] 25)).alloc (.cells #[F,G,z2] 25)) d):
  Below w.heap.size w d∧aT d w.heap.size x y z∧aT d (w.heap.size+1) l t D∧aT d (w.heap.size+1+1) F G z2:=by
 have H:=aH w (.cells #[x,y,z] 25)
 have M:Below ((w.alloc (.cells #[x,y,z] 25)).heap.size+1+1) (((w.alloc (.cells #[x,y,z] 25)).alloc (.cells #[l,t,D] 25)).alloc (.cells #[F,G,z2] 25)) d:=by rw[H];exact h
 obtain⟨I,J,L⟩:=tC _ l t D F G z2 d M
 rw[H]at I J L
 obtain⟨N,O⟩:=yb w x y z d I
 exact⟨N,O,J,L⟩
end Go.Proofs.YtmpkkhackbpflaaGreatDoor
