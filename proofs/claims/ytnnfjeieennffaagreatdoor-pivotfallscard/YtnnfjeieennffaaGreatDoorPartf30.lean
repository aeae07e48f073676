/- Part 30 of the texts. -/
import Derived.Test.YtnnfjeieennffaaGreatDoorPartf29
import Derived.Test.YtnnfjeieennffaaGreatDoorPartf26
import Derived.Test.YtnnfjeieennffaaGreatDoorPartf27
set_option maxRecDepth 20000
namespace Go.Proofs.YtnnfjeieennffaaGreatDoor
open Go.RowKit
def Mr.pair (x:Mr):List Value:=[.slice x.ao x.V.length x.cap,.int .u64 (x.tau:Nat)]
def mtCells (R:List Mr):List Value:=R.flatMap Mr.pair
theorem mtCells_get:∀ (R:List Mr) (k:Nat),k < R.length→(mtCells R)[k * 2]? = some (.slice (mrAt R k).ao (mrAt R k).V.length (mrAt R k).cap)∧(mtCells R)[k * 2+1]? = some (.int .u64 ((mrAt R k).tau:Nat))
 | x :: R,0,_=>by simp [mtCells,mrAt,Mr.pair]
 | x :: R,k+1,h=>by
  have:=mtCells_get R k (by simpa using h)
  have e:mtCells (x :: R) = .slice x.ao x.V.length x.cap :: .int .u64 (x.tau:Nat) :: mtCells R:=rfl
  rw [e,show (k+1) * 2 = k * 2+1+1 by omega]
  simpa [mrAt] using this
def OwnMt (base:Nat) (w:World) (v:Value) (R:List Mr):Prop:=w.ownsRow base 105 2 v R.length (mtCells R)∧∀ x ∈ R,BitsAt w x.ao x.cap (mxL x.V)∧AvM v.ownBlock x
theorem OwnMt.start (w:World) (base:Nat):OwnMt base w (.slice none 0 0) []:=⟨⟨by rfl,.inl ⟨rfl,rfl⟩⟩,by simp⟩
theorem OwnMt.below {base:Nat} {w w':World} {v:Value} {R:List Mr} (h:OwnMt base w v R) (hb:Below w.heap.size w w'):OwnMt base w' v R :=
 ⟨ownsRow_grownM h.1 ⟨hb.os,hb.tape,hb.output,hb.size,fun k hk _=>hb.block k hk⟩ (fun k _=>by simp:∀ k,v.ownBlock = some k→some k ≠ none),fun x hx=>⟨((h.2 x hx).1).below hb,(h.2 x hx).2⟩⟩
theorem OwnMt.lt {base:Nat} {w:World} {v:Value} {R:List Mr} (h:OwnMt base w v R):∀ k,v.ownBlock = some k→base≤k∧k < w.heap.size:=h.1.lt
theorem infoMt:(Tryz.prog.info? 105).map (fun i=>(i.zero,i.size,i.bytes)) = some (some (.agg #[.slice none 0 0,.int .u64 0]),2,32):=by kernel_rfl
theorem OwnMt.push {base:Nat} {w:World} {v:Value} {R:List Mr} (h:OwnMt base w v R) (x:Mr) (hx:BitsAt w x.ao x.cap (mxL x.V)) (ha:AvM v.ownBlock x) (hl:R.length≤1000000) (hb:base≤w.heap.size) (ty:TypeId) :
  ∃ v' w',(Builtin.append_ #[64,64] ty #[v,.slice (some ⟨w.heap.size,0,none⟩) 1 1]).run Tryz.prog (w.alloc (.cells #[.slice x.ao x.V.length x.cap,.int .u64 (x.tau:Nat)] 105)) = .ok v' w'∧OwnMt base w' v' (R ++ [x])∧Below base w w'∧(w.alloc (.cells #[.slice x.ao x.V.length x.cap,.int .u64 (x.tau:Nat)] 105)).grownBy w' v.ownBlock∧(v'.ownBlock = v.ownBlock ∨ v'.ownBlock = some (w.heap.size+1)):=by
 obtain ⟨i0,hi,hz0,hz1,hz2⟩:=info_parts infoMt
 have b1:=below_alloc9 w (.cells #[.slice x.ao x.V.length x.cap,.int .u64 (x.tau:Nat)] 105)
 have n1:=heap_alloc_new w (.cells #[.slice x.ao x.V.length x.cap,.int .u64 (x.tau:Nat)] 105)
 have s1:=size_alloc9 w (.cells #[.slice x.ao x.V.length x.cap,.int .u64 (x.tau:Nat)] 105)
 have h1:=h.below b1
 have hx1:=hx.below b1
 generalize w.alloc (.cells #[.slice x.ao x.V.length x.cap,.int .u64 (x.tau:Nat)] 105) = W at *
 obtain ⟨v',w',e1,e2,e3,e4,e5⟩:=run_append_own_at (P:=Tryz.prog) W base 64 ty 105 i0 (.agg #[.slice none 0 0,.int .u64 0]) 2 32 Tryz.underlying64 hi hz0 hz1 hz2 rfl (by decide) v R.length (mtCells R) h1.1 ⟨w.heap.size,0,none⟩ 1 1 x.pair rfl (fun j u hj=>by
   rw [show (⟨w.heap.size,0,none⟩:Addr).add j = ⟨w.heap.size,j,none⟩ from by unfold Addr.add;split <;> simp_all,cell_of_row _ w.heap.size j _ _ _ n1]
   simpa [Mr.pair] using hj) (fun u hu=>by
   simp [Mr.pair] at hu
   rcases hu with rfl | rfl <;> rfl) (by unfold maxLen;omega) (by omega) (by omega)
 ·refine ⟨v',w',e1,⟨?_,fun y hy=>?_⟩,(b1.mono hb).grown e3 (by omega) (fun g hg=>(h.1.lt g hg).1),e3,by rw [← s1];exact e5⟩
  ·rw [List.length_append,show mtCells (R ++ [x]) = mtCells R ++ x.pair by simp [mtCells]]
   exact e2
  ·have hy':BitsAt W y.ao y.cap (mxL y.V)∧AvM v.ownBlock y:=by
    rcases List.mem_append.1 hy with hy | hy
    ·exact h1.2 y hy
    ·simp at hy;subst hy;exact ⟨hx1,ha⟩
   refine ⟨bits_grownAv hy'.1 hy'.2 e3,?_⟩
   rcases e5 with e | e
   ·rw [e];exact hy'.2
   ·rw [e];exact AvM.new hy'.1 (Nat.le_refl _)
theorem OwnMt.putQ {base:Nat} {w:World} {v:Value} {R:List Mr} (h:OwnMt base w v R) {g:Nat} {x y:Int} {o:Option Addr} {n d:Nat} (hx:BoxM w g (.int .i64 x) (.int .i64 y) (.slice o n d)) (u u' u'':Value):OwnMt base (((w.setCell ⟨g,0,none⟩ u).setCell ⟨g,1,none⟩ u').setCell ⟨g,2,none⟩ u'') v R:=by
 refine ⟨⟨h.1.1,?_⟩,fun z hz=>⟨(h.2 z hz).1.putM hx u u' u'',(h.2 z hz).2⟩⟩
 rcases h.1.2 with e | ⟨k,cap,cur,hv,hk,hh,rest⟩
 ·exact .inl e
 ·have hne:k ≠ g:=by
   rintro rfl
   have e:=hh.symm.trans hx
   simp at e
  exact .inr ⟨k,cap,cur,hv,hk,(Below.heap_setCell _ ⟨g,2,none⟩ u'' k hne).trans ((Below.heap_setCell _ ⟨g,1,none⟩ u' k hne).trans ((Below.heap_setCell _ ⟨g,0,none⟩ u k hne).trans hh)),rest⟩
theorem OwnMt.grown {base:Nat} {w w':World} {v:Value} {R:List Mr} (h:OwnMt base w v R) {g:Nat} (hv:v.ownBlock ≠ some g) (ha:∀ x ∈ R,AvM (some g) x) (hg:w.grownBy w' (some g)):OwnMt base w' v R :=
 ⟨ownsRow_grownM h.1 hg (fun k hk e=>hv (by rw [hk,e])),fun x hx=>⟨bits_grownAv (h.2 x hx).1 (ha x hx) hg,(h.2 x hx).2⟩⟩
theorem OwnMt.slice {base:Nat} {w:World} {v:Value} {R:List Mr} (h:OwnMt base w v R):∃ lo lc,v = .slice lo R.length lc:=by
 rcases h.1.2 with ⟨e1,e2⟩ | ⟨g,cap,cur,hv,_⟩
 ·exact ⟨none,0,by rw [e1,e2]⟩
 ·exact ⟨_,_,hv⟩
theorem OwnMt.least {base b':Nat} {w:World} {v:Value} {R:List Mr} (h:OwnMt base w v R) (hb:b'≤base):OwnMt b' w v R:=by
 refine ⟨⟨h.1.1,?_⟩,h.2⟩
 rcases h.1.2 with e | ⟨k,cap,cur,hv,hk,rest⟩
 ·exact .inl e
 ·exact .inr ⟨k,cap,cur,hv,Nat.le_trans hb hk,rest⟩
theorem OwnMt.at {base:Nat} {w:World} {v:Value} {R:List Mr} (h:OwnMt base w v R) {k:Nat} (hk:k < R.length):∃ g cap,v = .slice (some ⟨g,0,none⟩) R.length cap∧base≤g∧g < w.heap.size∧w.cell? ⟨g,k * 2,none⟩ = some (.slice (mrAt R k).ao (mrAt R k).V.length (mrAt R k).cap)∧w.cell? ⟨g,k * 2+1,none⟩ = some (.int .u64 ((mrAt R k).tau:Nat))∧BitsAt w (mrAt R k).ao (mrAt R k).cap (mxL (mrAt R k).V):=by
 rcases h.1.2 with ⟨hv,h0⟩ | ⟨g,cap,cur,hv,hg,hh,hc,hm,hs,ht⟩
 ·omega
 ·obtain ⟨q1,q2⟩:=mtCells_get R k hk
  rw [← ht,List.getElem?_take] at q1 q2
  rw [if_pos (by omega)] at q1 q2
  simp only [Array.getElem?_toList] at q1 q2
  refine ⟨g,cap,hv,hg,(Array.getElem?_eq_some_iff.1 hh).1,?_,?_,(h.2 (mrAt R k) ?_).1⟩
  ·rw [cell_of_row w g _ _ _ _ hh];exact q1
  ·rw [cell_of_row w g _ _ _ _ hh];exact q2
  ·unfold mrAt
   rw [List.getElem?_eq_getElem hk]
   exact List.getElem_mem hk
end Go.Proofs.YtnnfjeieennffaaGreatDoor
namespace Go.Proofs.YtnnfjeieennffaaGreatDoor
open Go.RowKit
theorem stk_err (N d:Nat) (hd:0 < d):stk N d * d≤2 * N+d∧2 * N≤stk N d * d+d:=by
 have h1:=Nat.div_add_mod N d
 have h2:=Nat.mod_lt N hd
 unfold stk
 split
 ·have e:(2 * (N / d)+0) * d = 2 * (d * (N / d)):=by rw [Nat.add_zero,Nat.mul_assoc,Nat.mul_comm d]
  rw [e]
  generalize d * (N / d) = Q at *
  omega
 ·have e:(2 * (N / d)+1) * d = 2 * (d * (N / d))+d:=by rw [Nat.add_mul,Nat.mul_assoc,Nat.one_mul,Nat.mul_comm d]
  rw [e]
  generalize d * (N / d) = Q at *
  omega
theorem quo_near (a b:Nat) (ha:a < 18446744073709551616) (hb:b < 18446744073709551616) (fa:fFin a = true) (fb:fFin b = true) (a0:fK a ≠ 0) (b0:fK b ≠ 0) :
  340282366920938463463374607431768211456 * (xE (qS a b) (fX a - fX b - 181) * ab (fQ b))≤340282366920938463463374607431768211456 * ab (fQ a)+ab (fQ a) ∧
  340282366920938463463374607431768211456 * ab (fQ a)≤340282366920938463463374607431768211456 * (xE (qS a b) (fX a - fX b - 181) * ab (fQ b))+ab (fQ a):=by
 obtain ⟨x1,x2,x3,x4,x5,x6,x7,x8,x9⟩:=sc_facts a ha fa a0
 obtain ⟨y1,y2,y3,y4,y5,y6,y7,y8,y9⟩:=sc_facts b hb fb b0
 have eA:ab (fQ a) = (((fD a).natAbs * 2 ^ 180:Nat):Rat) * (2 * p2 (fX a - 181)):=by
  have e:=fD_mag a ha fa a0 0
  rw [Int.add_zero,p2_0,Rat.mul_one,← fQ_ab] at e
  rw [← e]
  unfold xE
  rw [Rat.natCast_mul,← p2_nat,show fX a = ((180:Nat):Int)+(fX a - 181+1) by omega,p2_add,p2_succ,show ((180:Nat):Int)+(fX a - 181+1) - 181 = fX a - 181 by omega]
  grind
 have eB:ab (fQ b) = ((fD b).natAbs:Rat) * p2 (fX b):=by
  have e:=fD_mag b hb fb b0 0
  rw [Int.add_zero,p2_0,Rat.mul_one,← fQ_ab] at e
  exact e.symm
 have eX:xE (qS a b) (fX a - fX b - 181) * ab (fQ b) = ((qS a b * (fD b).natAbs:Nat):Rat) * p2 (fX a - 181):=by
  rw [eB]
  unfold xE
  rw [Rat.natCast_mul,show fX a - 181 = (fX a - fX b - 181)+fX b by omega,p2_add]
  grind
 obtain ⟨s1,s2⟩:=stk_err ((fD a).natAbs * 2 ^ 180) (fD b).natAbs (by omega)
 have hP:=p2_pos (fX a - 181)
 have hd:340282366920938463463374607431768211456 * (fD b).natAbs≤2 * ((fD a).natAbs * 2 ^ 180):=by
  have h1:2 ^ 181≤(fD a).natAbs * 2 ^ 181:=Nat.le_mul_of_pos_left _ (by omega)
  have e1:(2:Nat) ^ 181 = 340282366920938463463374607431768211456 * 9007199254740992:=by decide
  have e2:(2:Nat) ^ 181 = 2 ^ 180 * 2:=by decide
  have h2:340282366920938463463374607431768211456 * (fD b).natAbs≤340282366920938463463374607431768211456 * 9007199254740992:=Nat.mul_le_mul_left _ (by omega)
  rw [← e1] at h2
  rw [e2,← Nat.mul_assoc] at h1
  omega
 have hq:qS a b = stk ((fD a).natAbs * 2 ^ 180) (fD b).natAbs:=rfl
 rw [← hq] at s1 s2
 rw [eX,eA]
 generalize (fD a).natAbs * 2 ^ 180 = N at *
 generalize qS a b * (fD b).natAbs = Z at *
 have g1:340282366920938463463374607431768211456 * Z≤340282366920938463463374607431768211456 * (2 * N)+2 * N:=by omega
 have g2:340282366920938463463374607431768211456 * (2 * N)≤340282366920938463463374607431768211456 * Z+2 * N:=by omega
 have c1:=Rat.mul_le_mul_of_nonneg_left (Rat.natCast_le_natCast.2 g1) (Rat.le_of_lt hP)
 have c2:=Rat.mul_le_mul_of_nonneg_left (Rat.natCast_le_natCast.2 g2) (Rat.le_of_lt hP)
 rw [Rat.natCast_add,Rat.natCast_mul 340282366920938463463374607431768211456,Rat.natCast_mul 340282366920938463463374607431768211456,Rat.natCast_mul 2] at c1 c2
 have k1:((340282366920938463463374607431768211456:Nat):Rat) = 340282366920938463463374607431768211456:=rfl
 have k2:((2:Nat):Rat) = 2:=rfl
 rw [k1,k2] at c1 c2
 constructor <;> grind
theorem div_err (a b:Nat) (ha:a < 18446744073709551616) (hb:b < 18446744073709551616) (fa:fFin a = true) (fb:fFin b = true) (a0:fK a ≠ 0) (b0:fK b ≠ 0) (hf:fFin (dV a b) = true) :
  10633823966279326983230456482242756608 * ab (fQ (dV a b) * fQ b - fQ a)≤1180591620717411303425 * ab (fQ a) ∨
  (fR (dV a b)≤4503599627370496∧170141183460469231731687303715884105728 * ab (fQ (dV a b) * fQ b - fQ a)≤170141183460469231731687303715884105728 * (p2 (-1075) * ab (fQ b))+ab (fQ a)):=by
 have hr:=fR_fin _ hf
 have hd:=(dV_fin a b fa fb a0 b0).1
 have hle:qV a b≤9218868437227405312:=rnd_le _ _
 have hR:fR (dV a b) = qV a b:=by rw [hd,fR_wrd _ _ (by omega)]
 have hS:fS (dV a b) = (fS a ^^ fS b):=by rw [hd,fS_wrd _ _ (by omega)]
 rw [hR] at hr
 have e:=rnd_err (qS a b) (fX a - fX b - 181) hr
 obtain ⟨q1,q2⟩:=quo_near a b ha hb fa fb a0 b0
 have hx0:0≤xE (qS a b) (fX a - fX b - 181):=Rat.mul_nonneg Rat.natCast_nonneg (Rat.le_of_lt (p2_pos _))
 have hy:(rv (qV a b):Rat) * p2 (-1074) = yE (qS a b) (fX a - fX b - 181):=rfl
 have h74:p2 (-1074) = 2 * p2 (-1075):=by rw [show (-1074:Int) = -1075+1 by rfl,p2_succ]
 have hp:=p2_pos (-1075)
 have n0:=mag_0 (fR a);have n1:=mag_0 (fR b)
 rw [fQ_ab,fQ_ab] at *
 rw [fQ_sign (dV a b),hS,hR,hy,fQ_sign a,fQ_sign b]
 generalize (rv (fR a):Rat) * p2 (-1074) = A at *
 generalize (rv (fR b):Rat) * p2 (-1074) = B at *
 generalize yE (qS a b) (fX a - fX b - 181) = Y at *
 generalize xE (qS a b) (fX a - fX b - 181) = X at *
 rw [h74] at e
 generalize p2 (-1075) = η at *
 have main:10633823966279326983230456482242756608 * ab (Y * B - A)≤1180591620717411303425 * A ∨ (qV a b≤4503599627370496∧170141183460469231731687303715884105728 * ab (Y * B - A)≤170141183460469231731687303715884105728 * (η * B)+A):=by
  rcases e with ⟨e1,e2⟩ | ⟨e1,e2,e3,e4⟩
  ·refine .inl ?_
   have c1:=Rat.mul_le_mul_of_nonneg_left e1 n1
   have c2:=Rat.mul_le_mul_of_nonneg_left e2 n1
   unfold ab
   grind
  ·refine .inr ⟨e1,?_⟩
   have c1:=Rat.mul_le_mul_of_nonneg_left e3 n1
   have c2:=Rat.mul_le_mul_of_nonneg_left e4 n1
   unfold ab
   grind
 have k2:ab (Y * B - A) = ab (A - Y * B):=ab_sub _ _
 cases fS a <;> cases fS b <;> simp only [Bool.xor_false,Bool.xor_true,Bool.not_true,Bool.not_false,Bool.false_eq_true,if_true,if_false]
 ·exact main
 ·rw [show -Y * -B - A = Y * B - A by grind];exact main
 ·rw [show -Y * B - -A = A - Y * B by grind,← k2];exact main
 ·rw [show Y * -B - -A = A - Y * B by grind,← k2];exact main
end Go.Proofs.YtnnfjeieennffaaGreatDoor
namespace Go.Proofs.YtnnfjeieennffaaGreatDoor
open Go.RowKit
theorem eta_p2 (e:Int) (h:-975≤e):1267650600228229401496703205376 * p2 (-1075)≤p2 e:=by
 have h1:=p2_mono h
 have h2:p2 (-975) = 1267650600228229401496703205376 * p2 (-1075):=by
  rw [show (-975:Int) = ((100:Nat):Int)+-1075 by rfl,p2_add,p2_nat]
  rfl
 rw [← h2]
 exact h1
theorem mul_err2 (a b:Nat) (fa:fFin a = true) (fb:fFin b = true) (h:ab (fQ a * fQ b) < p2 1023) :
  fFin (mV a b) = true∧9007199254740992 * ab (fQ (mV a b) - fQ a * fQ b)≤ab (fQ a * fQ b)+9007199254740992 * p2 (-1075):=by
 have hf:=mul_fin a b fa fb h
 have h74:p2 (-1074) = 2 * p2 (-1075):=by rw [show (-1074:Int) = -1075+1 by rfl,p2_succ]
 have hp:=p2_pos (-1075)
 have h0:=ab_0 (fQ a * fQ b)
 refine ⟨hf,?_⟩
 rcases mul_err a b fa fb hf with e | e
 ·grind
 ·have:=e.2
  rw [h74] at this
  grind
theorem div_fin (a b:Nat) (ha:a < 18446744073709551616) (hb:b < 18446744073709551616) (fa:fFin a = true) (fb:fFin b = true) (a0:fK a ≠ 0) (b0:fK b ≠ 0) (h:ab (fQ a)≤1024 * ab (fQ b)):fFin (dV a b) = true:=by
 obtain ⟨q1,q2⟩:=quo_near a b ha hb fa fb a0 b0
 have hb1:=eX_top b hb fb b0
 have hbp:=p2_pos (eX b)
 have hx0:0≤xE (qS a b) (fX a - fX b - 181):=Rat.mul_nonneg Rat.natCast_nonneg (Rat.le_of_lt (p2_pos _))
 have hlt:xE (qS a b) (fX a - fX b - 181) < p2 1023:=by
  have hB:(2048:Rat)≤p2 1023:=by
   have h:=p2_mono (show (11:Int)≤1023 by decide)
   have h3:p2 11 = 2048:=by rw [show (11:Int) = ((11:Nat):Int) by rfl,p2_nat];rfl
   grind
  generalize xE (qS a b) (fX a - fX b - 181) = X at *
  rcases Rat.le_total (a:=2048) (b:=X) with g | g
  ·exfalso
   have hm:=Rat.mul_le_mul_of_nonneg_left g (show 0≤ab (fQ b) by grind)
   have:=ab_0 (fQ a)
   generalize ab (fQ a) = A at *
   have hc:ab (fQ b) * X = X * ab (fQ b):=Rat.mul_comm _ _
   rw [hc] at hm
   generalize X * ab (fQ b) = XB at *
   grind
  ·rcases Rat.le_total (a:=X) (b:=2047) with g2 | g2
   ·grind
   ·exfalso
    have hm:=Rat.mul_le_mul_of_nonneg_left g2 (show 0≤ab (fQ b) by grind)
    have:=ab_0 (fQ a)
    generalize ab (fQ a) = A at *
    have hc:ab (fQ b) * X = X * ab (fQ b):=Rat.mul_comm _ _
    rw [hc] at hm
    generalize X * ab (fQ b) = XB at *
    grind
 have:=rnd_finite _ _ hlt
 have hle:qV a b≤9218868437227405312:=rnd_le _ _
 exact (fK_rungs _).2.2.2 (by rw [(dV_fin a b fa fb a0 b0).1,fR_wrd _ _ (by omega)];exact this)
theorem div_err2 (a b:Nat) (ha:a < 18446744073709551616) (hb:b < 18446744073709551616) (fa:fFin a = true) (fb:fFin b = true) (a0:fK a ≠ 0) (b0:fK b ≠ 0) (h:ab (fQ a)≤1024 * ab (fQ b))
  (hs:1267650600228229401496703205376 * (p2 (-1075) * ab (fQ b))≤ab (fQ a)) :
  fFin (dV a b) = true∧9007199254740992 * ab (fQ (dV a b) * fQ b - fQ a)≤2 * ab (fQ a):=by
 have hf:=div_fin a b ha hb fa fb a0 b0 h
 refine ⟨hf,?_⟩
 have h0:=ab_0 (fQ a)
 have h1:=ab_0 (fQ (dV a b) * fQ b - fQ a)
 rcases div_err a b ha hb fa fb a0 b0 hf with e | e
 ·grind
 ·have:=e.2
  generalize p2 (-1075) * ab (fQ b) = z at *
  grind
end Go.Proofs.YtnnfjeieennffaaGreatDoor
namespace Go.Proofs.YtnnfjeieennffaaGreatDoor
open Go.RowKit
def dtV:Nat→List Nat→List Nat→Nat
 | s,x :: xs,y :: ys=>dtV (aV s (mV x y)) xs ys
 | s,_,_=>s
def dtQ:List Nat→List Nat→Rat
 | x :: xs,y :: ys=>fQ x * fQ y+dtQ xs ys
 | _,_=>0
def daQ:List Nat→List Nat→Rat
 | x :: xs,y :: ys=>ab (fQ x * fQ y)+daQ xs ys
 | _,_=>0
theorem daQ_0:∀ (xs ys:List Nat),0≤daQ xs ys:=by
 intro xs
 induction xs with
 | nil=>intro ys;exact Rat.le_refl
 | cons x xs ih =>
  intro ys
  cases ys with
  | nil=>exact Rat.le_refl
  | cons y ys =>
   have h1:=ih ys
   have h2:=ab_0 (fQ x * fQ y)
   show 0≤ab (fQ x * fQ y)+daQ xs ys
   grind
theorem dtQ_le:∀ (xs ys:List Nat),ab (dtQ xs ys)≤daQ xs ys:=by
 intro xs
 induction xs with
 | nil=>intro ys;show ab 0≤0;unfold ab;grind
 | cons x xs ih =>
  intro ys
  cases ys with
  | nil=>show ab 0≤0;unfold ab;grind
  | cons y ys =>
   have h1:=ih ys
   have h2:=ab_add (fQ x * fQ y) (dtQ xs ys)
   show ab (fQ x * fQ y+dtQ xs ys)≤ab (fQ x * fQ y)+daQ xs ys
   grind
theorem dot_step (s x y:Nat) (T W H:Rat) (fs:fFin s = true) (fx:fFin x = true) (fy:fFin y = true) (hW0:0≤W) (hW:W≤p2 1000) (hη:9007199254740992 * (4 * p2 (-1075))≤W)
  (hT:ab T+ab (fQ x * fQ y)≤W) (hH:H≤192 * W) (he:9007199254740992 * ab (fQ s - T)≤H) :
  fFin (aV s (mV x y)) = true∧9007199254740992 * ab (fQ (aV s (mV x y)) - (T+fQ x * fQ y))≤H+3 * W:=by
 have T0:=ab_0 T;have xy0:=ab_0 (fQ x * fQ y)
 have hB:16 * p2 1000≤p2 1023∧0 < p2 1000:=by
  have h1:=p2_mono (show (1000+1+1+1+1:Int)≤1023 by decide)
  simp only [p2_succ] at h1
  exact ⟨by grind,p2_pos _⟩
 obtain ⟨B1,B2⟩:=hB
 obtain ⟨n1,n2,n3⟩:=eta_small
 obtain ⟨f1,e1⟩:=mul_err2 x y fx fy (by grind)
 have l1:=le_ab (fQ (mV x y) - fQ x * fQ y);have l2:=le_ab (fQ s - T);have l3:=le_ab T;have l4:=le_ab (fQ x * fQ y)
 have tt:=ab_le (x:=fQ s+fQ (mV x y)) (y:=ab (fQ s - T)+ab (fQ (mV x y) - fQ x * fQ y)+ab T+ab (fQ x * fQ y)) (by grind) (by grind)
 have fa:=add_fin _ _ fs f1 (by grind)
 have ea:=add_err _ _ fs f1 fa
 refine ⟨fa,?_⟩
 have l5:=le_ab (fQ (aV s (mV x y)) - (fQ s+fQ (mV x y)))
 have ll:=ab_le (x:=fQ (aV s (mV x y)) - (T+fQ x * fQ y)) (y:=ab (fQ (aV s (mV x y)) - (fQ s+fQ (mV x y)))+ab (fQ (mV x y) - fQ x * fQ y)+ab (fQ s - T)) (by grind) (by grind)
 clear l1 l2 l3 l4 l5
 generalize ab (fQ (aV s (mV x y)) - (T+fQ x * fQ y)) = z0 at *
 generalize ab (fQ (aV s (mV x y)) - (fQ s+fQ (mV x y))) = z1 at *
 generalize ab (fQ (mV x y) - fQ x * fQ y) = z2 at *
 generalize ab (fQ s - T) = z3 at *
 generalize ab (fQ s+fQ (mV x y)) = z4 at *
 generalize ab (fQ x * fQ y) = z5 at *
 generalize ab T = z6 at *
 generalize p2 (-1075) = η at *
 grind
theorem dot_err (W:Rat) (hW0:0≤W) (hW:W≤p2 1000) (hη:9007199254740992 * (4 * p2 (-1075))≤W):∀ (xs ys:List Nat) (s:Nat) (T H:Rat),(∀ x ∈ xs,fFin x = true)→(∀ y ∈ ys,fFin y = true)→fFin s = true →
  ab T+daQ xs ys≤W→H+3 * ((xs.length:Rat) * W)≤192 * W→9007199254740992 * ab (fQ s - T)≤H →
  fFin (dtV s xs ys) = true∧9007199254740992 * ab (fQ (dtV s xs ys) - (T+dtQ xs ys))≤H+3 * ((xs.length:Rat) * W):=by
 intro xs
 induction xs with
 | nil =>
  intro ys s T H _ _ fs _ _ he
  have e1:dtV s [] ys = s:=by cases ys <;> rfl
  have e2:dtQ [] ys = 0:=by cases ys <;> rfl
  have e3:(([]:List Nat).length:Rat) = 0:=rfl
  rw [e1,e2,e3,Rat.add_zero]
  exact ⟨fs,by grind⟩
 | cons x xs ih =>
  intro ys s T H hx hy fs hT hH he
  have e3:((x :: xs).length:Rat) = (xs.length:Rat)+1:=by rw [List.length_cons,Rat.natCast_add];rfl
  have l0:0≤(xs.length:Rat) * W:=Rat.mul_nonneg Rat.natCast_nonneg hW0
  have e4:((x :: xs).length:Rat) * W = (xs.length:Rat) * W+W:=by rw [e3];grind
  cases ys with
  | nil =>
   have e1:dtV s (x :: xs) [] = s:=rfl
   have e2:dtQ (x :: xs) [] = 0:=rfl
   rw [e1,e2,e4,Rat.add_zero]
   exact ⟨fs,by grind⟩
  | cons y ys =>
   have e1:dtV s (x :: xs) (y :: ys) = dtV (aV s (mV x y)) xs ys:=rfl
   have e2:dtQ (x :: xs) (y :: ys) = fQ x * fQ y+dtQ xs ys:=rfl
   have e5:daQ (x :: xs) (y :: ys) = ab (fQ x * fQ y)+daQ xs ys:=rfl
   have d0:=daQ_0 xs ys
   rw [e5] at hT
   rw [e4] at hH ⊢
   obtain ⟨g1,g2⟩:=dot_step s x y T W H fs (hx x List.mem_cons_self) (hy y List.mem_cons_self) hW0 hW hη (by grind) (by grind) he
   have ht:=ab_add T (fQ x * fQ y)
   obtain ⟨i1,i2⟩:=ih ys (aV s (mV x y)) (T+fQ x * fQ y) (H+3 * W) (fun z hz=>hx z (List.mem_cons_of_mem _ hz)) (fun z hz=>hy z (List.mem_cons_of_mem _ hz)) g1 (by grind) (by grind) g2
   rw [e1,e2]
   refine ⟨i1,?_⟩
   rw [show T+(fQ x * fQ y+dtQ xs ys) = T+fQ x * fQ y+dtQ xs ys by grind]
   grind
theorem dot_err0 (W:Rat) (xs ys:List Nat) (hl:xs.length≤64) (hW:W≤p2 1000) (hη:9007199254740992 * (4 * p2 (-1075))≤W) (hx:∀ x ∈ xs,fFin x = true) (hy:∀ y ∈ ys,fFin y = true) (hd:daQ xs ys≤W) :
  fFin (dtV 0 xs ys) = true∧9007199254740992 * ab (fQ (dtV 0 xs ys) - dtQ xs ys)≤3 * ((xs.length:Rat) * W):=by
 have hp:=p2_pos (-1075)
 have hW0:0≤W:=by grind
 have z0:fQ 0 = 0:=fQ_nought 0 (by decide)
 have a0:ab 0 = 0:=by unfold ab;grind
 have hl2:(xs.length:Rat)≤64:=Rat.natCast_le_natCast.2 hl
 have hlW:=Rat.mul_nonneg (show 0≤64 - (xs.length:Rat) by grind) hW0
 obtain ⟨g1,g2⟩:=dot_err W hW0 hW hη xs ys 0 0 0 hx hy (by decide) (by rw [a0];grind) (by grind) (by rw [z0,show (0:Rat) - 0 = 0 by grind,a0];grind)
 refine ⟨g1,?_⟩
 rw [Rat.zero_add] at g2
 grind
def s1Q:List Nat→Rat
 | []=>0
 | x :: xs=>ab (fQ x)+s1Q xs
theorem s1Q_0 (xs:List Nat):0≤s1Q xs:=by
 induction xs with
 | nil=>exact Rat.le_refl
 | cons x xs ih =>
  have:=ab_0 (fQ x)
  unfold s1Q
  grind
theorem sumQ_nonneg (xs:List Nat):0≤sumQ xs:=by
 induction xs with
 | nil=>exact Rat.le_refl
 | cons x xs ih =>
  have:=sq_nonneg (fQ x)
  unfold sumQ
  grind
theorem s1Q_sq:∀ (xs:List Nat),s1Q xs * s1Q xs≤(xs.length:Rat) * sumQ xs:=by
 intro xs
 induction xs with
 | nil =>
  have e1:s1Q [] = 0:=rfl
  have e3:(([]:List Nat).length:Rat) = 0:=rfl
  rw [e1,e3];grind
 | cons x xs ih =>
  have e1:s1Q (x :: xs) = ab (fQ x)+s1Q xs:=rfl
  have e2:sumQ (x :: xs) = fQ x * fQ x+sumQ xs:=rfl
  have e3:((x :: xs).length:Rat) = (xs.length:Rat)+1:=by rw [List.length_cons,Rat.natCast_add];rfl
  have qx:=sq_nonneg (fQ x)
  have ex:ab (fQ x) * ab (fQ x) = fQ x * fQ x:=by rw [← ab_mul];exact ab_pos qx
  have q0:=sumQ_nonneg xs
  have s0:=s1Q_0 xs
  have n0:(0:Rat)≤(xs.length:Rat):=Rat.natCast_nonneg
  rw [e1,e2,e3]
  by_cases hn:xs.length = 0
  ·have hx:xs = []:=List.length_eq_zero_iff.1 hn
   subst hx
   have h1:s1Q [] = 0:=rfl
   have h2:sumQ [] = 0:=rfl
   have h3:(([]:List Nat).length:Rat) = 0:=rfl
   rw [h1,h2,h3]
   grind
  ·have n1:(0:Rat) < (xs.length:Rat):=Rat.natCast_pos.2 (by omega)
   refine Rat.le_of_mul_le_mul_left (c:=(xs.length:Rat)) ?_ n1
   have h:=sq_nonneg ((xs.length:Rat) * ab (fQ x) - s1Q xs)
   have h2:=Rat.mul_le_mul_of_nonneg_left ih (show 0≤(xs.length:Rat)+1 by grind)
   generalize (xs.length:Rat) = N at *
   generalize ab (fQ x) = p at *
   generalize s1Q xs = Y at *
   generalize sumQ xs = Q at *
   rw [← ex]
   clear ex qx
   grind
end Go.Proofs.YtnnfjeieennffaaGreatDoor
namespace Go.Proofs.YtnnfjeieennffaaGreatDoor
open Go.RowKit
theorem mirror_alg (a b R t g:Rat) (hR:0≤R) (hb:0 < ab b) (hs:ab (a - b) = ab a+ab b) (h1:9007199254740992 * ab (b * b - (a * a+R))≤135 * (a * a+R))
  (h3:9007199254740992 * ab (g - (b - a))≤ab (b - a)) (h4:9007199254740992 * ab (t * b - g)≤2 * ab g) :
  9007199254740992 * ab (t * b+(a - b))≤4 * ab (a - b)∧4503599627370496 * ab a≤4503599627370496 * ab b+70 * ab b:=by
 obtain ⟨D,hD⟩:∃ D,a - b = D:=⟨_,rfl⟩
 have k1:ab (b - a) = ab D:=by rw [← hD];exact ab_sub _ _
 rw [k1,show b - a = -D by grind] at h3
 rw [hD] at hs ⊢
 have l1:=le_ab (g - -D);have l2:=le_ab (t * b - g);have l3:=le_ab D;have l4:=le_ab g;have D0:=ab_0 D;have a0:=ab_0 a
 constructor
 ·have gg:=ab_le (x:=g) (y:=ab (g - -D)+ab D) (by grind) (by grind)
  refine Rat.le_trans (Rat.mul_le_mul_of_nonneg_left (ab_le (y:=ab (t * b - g)+ab (g - -D)) (by grind) (by grind)) (by decide)) ?_
  grind
 ·have qa:=sq_nonneg a;have qb:=sq_nonneg b
  have ea:ab a * ab a = a * a:=by rw [← ab_mul];exact ab_pos qa
  have eb:ab b * ab b = b * b:=by rw [← ab_mul];exact ab_pos qb
  have l5:=le_ab (b * b - (a * a+R))
  rcases Rat.le_total (a:=4503599627370496 * ab a) (b:=4503599627370496 * ab b+70 * ab b) with h | h
  ·exact h
  ·exfalso
   have m1:=Rat.mul_nonneg (show 0≤4503599627370496 * ab a - (4503599627370496 * ab b+70 * ab b) by grind) a0
   have m2:=Rat.mul_nonneg (show 0≤4503599627370496 * ab a - (4503599627370496 * ab b+70 * ab b) by grind) (show 0≤ab b by grind)
   have bp:=Rat.mul_pos hb hb
   rw [eb] at bp
   generalize ab (b * b - (a * a+R)) = z at *
   grind
theorem ab_mul_le {x y:Rat} (h:ab x≤1):ab (x * y)≤ab y:=by
 rw [ab_mul]
 have:=Rat.mul_le_mul_of_nonneg_left h (ab_0 y)
 grind
end Go.Proofs.YtnnfjeieennffaaGreatDoor
