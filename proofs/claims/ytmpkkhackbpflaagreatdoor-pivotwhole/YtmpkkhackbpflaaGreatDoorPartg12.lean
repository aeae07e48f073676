/- Part 12 of the texts. -/
import Derived.Test.YtmpkkhackbpflaaGreatDoorPartg11
set_option maxHeartbeats 4000000
namespace Go.Proofs.YtmpkkhackbpflaaGreatDoor
def aB(v:Nat)(E:Int):Int:=max ((bl v:Int)+E-53) (-1074)
def dY(v:Nat)(E:Int):Nat:=mS v (E-aB v E)
def cC(v:Nat)(E:Int):Nat:=if v=0 then 0 else if 1024<(bl v:Int)+E then 9218868437227405312 else dY v E+(aB v E+1074).toNat*4503599627370496
def bX(v:Nat)(E:Int):Int:=if v=0 then 0 else if 1024<(bl v:Int)+E then 5 else if aB v E≤E then 0 else if cC v E=9218868437227405312 then 5 else if cC v E<4503599627370496 then 3 else 1
theorem cD(v:Nat)(E:Int):-1074≤aB v E∧(bl v:Int)+E-53≤aB v E∧(aB v E= -1074∨aB v E=(bl v:Int)+E-53):=by
 unfold aB;omega
theorem Df:(2:Nat)^53=9007199254740992:=by decide
theorem Je:(2:Nat)^52=4503599627370496:=by decide
theorem cE(v:Nat)(E:Int)(h:v≠0):dY v E≤9007199254740992∧(-1074<aB v E→4503599627370496≤dY v E)∧(aB v E≤E→dY v E<9007199254740992):=by
 obtain⟨L,M,N⟩:=cD v E
 obtain⟨O,F,G⟩:=bQ v h
 unfold dY
 generalize aB v E=l at*
 rcases Int.le_total l E with H|H
 ·obtain⟨k,I⟩:=Int.eq_ofNat_of_zero_le (show 0≤E-l by omega)
  rw[I,mc]
  have J:0<2^k:=Nat.two_pow_pos _
  have t:v*2^k<2^53:=by
   have d:v*2^k<2^bl v*2^k:=Nat.mul_lt_mul_of_pos_right G J
   rw[←Nat.pow_add]at d
   exact Nat.lt_of_lt_of_le d (gX (by omega))
  rw[Df]at t
  refine⟨by omega,fun z=>?_,fun _=>t⟩
  have d:2^(bl v-1)*2^k≤v*2^k:=Nat.mul_le_mul_right _ F
  rw[←Nat.pow_add,show bl v-1+k=52 by omega,Je]at d
  exact d
 ·obtain⟨k,I⟩:=Int.eq_ofNat_of_zero_le (show 0≤l-E by omega)
  by_cases D:k=0
  ·subst D
   rw[show E-l=((0:Nat):Int) by omega,mc]
   have t:v<2^53:=Nat.lt_of_lt_of_le G (gX (by omega))
   rw[Df]at t
   refine⟨by omega,fun z=>?_,fun _=>by omega⟩
   rw[show bl v-1=52 by omega,Je]at F
   omega
  ·rw[show E-l= -(k:Int) by omega,dO _ _ (by omega)]
   refine⟨?_,fun z=>?_,fun z=>by omega⟩
   ·rw[←Df]
    refine nB ?_
    rw[←Nat.pow_add]
    exact Nat.le_trans (Nat.le_of_lt G) (gX (by omega))
   ·rw[←Je]
    refine Ga ?_
    rw[←Nat.pow_add,show 52+k=bl v-1 by omega]
    exact F
theorem cY(v:Nat)(E:Int)(h:v≠0)(d:(bl v:Int)+E≤1024):cC v E=dY v E+(aB v E+1074).toNat*4503599627370496:=by
 unfold cC;rw[if_neg h,if_neg (by omega)]
theorem di(v:Nat)(E:Int):cC v E≤9218868437227405312:=by
 by_cases h:v=0
 ·subst h;simp[cC]
 ·by_cases d:1024<(bl v:Int)+E
  ·unfold cC;rw[if_neg h,if_pos d];exact Nat.le_refl _
  ·rw[cY v E h (by omega)]
   obtain⟨l,t,z⟩:=cD v E
   have:=(cE v E h).1
   omega
theorem sH(v:Nat)(E:Int)(h:v≠0)(d:(bl v:Int)+E≤1024)(l:aB v E≤E):cC v E<9218868437227405312:=by
 rw[cY v E h d]
 obtain⟨t,z,D⟩:=cD v E
 have:=(cE v E h).2.2 l
 omega
theorem nC(v i:Nat)(E:Int):cC (v*2^i) E=cC v (E+i):=by
 by_cases h:v=0
 ·subst h;simp[cC]
 ·have z:0<2^i:=Nat.two_pow_pos _
  have l:v*2^i≠0:=Nat.mul_ne_zero h (by omega)
  have d:=l9 v i h
  have t:aB (v*2^i) E=aB v (E+i):=by unfold aB;rw[d];congr 1;omega
  unfold cC dY
  rw[if_neg h,if_neg l,t,d,De,show E-aB v (E+i)+i=E+i-aB v (E+i) by omega,show((bl v+i:Nat):Int)+E=(bl v:Int)+(E+i) by omega]
theorem me{v u:Nat}(E:Int)(h:v≤u):cC v E≤cC u E:=by
 by_cases d:v=0
 ·subst d;simp[cC]
 ·have D:=F9 h
  by_cases t:1024<(bl u:Int)+E
  ·have:cC u E=9218868437227405312:=by unfold cC;rw[if_neg (by omega),if_pos t]
   rw[this];exact di v E
  ·rw[cY v E d (by omega),cY u E (by omega) (by omega)]
   obtain⟨F,G,H⟩:=cD v E
   obtain⟨I,J,L⟩:=cD u E
   by_cases l:aB v E=aB u E
   ·have:dY v E≤dY u E:=by unfold dY;rw[l];exact Gb _ h
    rw[l];omega
   ·have z:aB v E<aB u E:=by omega
    have:=(cE v E d).1
    have:=(cE u E (by omega)).2.1 (by omega)
    omega
def rv(r:Nat):Nat:=if r<4503599627370496 then r else(4503599627370496+r%4503599627370496)*2^(r/4503599627370496-1)
theorem mf(m k:Nat)(t:m≤9007199254740992)(d:k≠0→4503599627370496≤m):rv (m+k*4503599627370496)=m*2^k:=by
 unfold rv
 by_cases h:m+k*4503599627370496<4503599627370496
 ·rw[if_pos h]
  obtain rfl:k=0:=by omega
  simp
 ·rw[if_neg h]
  by_cases z:m<9007199254740992
  ·have D:4503599627370496≤m:=by
    by_cases l:k=0
    ·omega
    ·exact d l
   rw[show(m+k*4503599627370496)/4503599627370496=k+1 by omega,show(m+k*4503599627370496)%4503599627370496=m-4503599627370496 by omega,show 4503599627370496+(m-4503599627370496)=m by omega]
   rfl
  ·obtain rfl:m=9007199254740992:=by omega
   rw[show(9007199254740992+k*4503599627370496)/4503599627370496=k+2 by omega,show(9007199254740992+k*4503599627370496)%4503599627370496=0 by omega,show k+2-1=k+1 by omega,Nat.pow_succ]
   omega
theorem sI(r:Nat):rv r<rv (r+1):=by
 by_cases h:r<4503599627370496
 ·have d:=mf r 0 (by omega) (by simp)
  have l:=mf (r+1) 0 (by omega) (by simp)
  simp at d l
  rw[d,l];omega
 ·obtain⟨k,D⟩:∃k,r/4503599627370496=k+1:=⟨r/4503599627370496-1,by omega⟩
  have t:r=(4503599627370496+r%4503599627370496)+k*4503599627370496:=by omega
  generalize F:4503599627370496+r%4503599627370496=m at*
  have z:m<9007199254740992:=by omega
  have d:=mf m k (by omega) (fun _=>by omega)
  have l:=mf (m+1) k (by omega) (fun _=>by omega)
  rw[←t]at d
  rw[show m+1+k*4503599627370496=r+1 by omega]at l
  rw[d,l]
  exact Nat.mul_lt_mul_of_pos_right (by omega) (Nat.two_pow_pos _)
theorem jl{r s:Nat}(h:r≤s):rv r≤rv s:=by
 obtain⟨d,rfl⟩:=Nat.exists_eq_add_of_le h
 induction d with
 |zero=>exact Nat.le_refl _
 |succ d ih=>exact Nat.le_trans (ih (by omega)) (Nat.le_of_lt (sI (r+d)))
theorem fC:rv 0=0:=by decide
open Go.RowKit
def fS(b:Nat):Bool:=decide (9223372036854775808≤b)
def fP(b:Nat):Nat:=b%9223372036854775808/4503599627370496
def fF(b:Nat):Nat:=b%4503599627370496
def fN(b:Nat):Nat:=if 9223372036854775808≤b then b-9223372036854775808 else b+9223372036854775808
def fK(b:Nat):Int:=if fP b=2047 then(if fF b=0 then 3 else 4)else if fP b=0 then(if fF b=0 then 0 else 1)else 2
theorem Gc(b:Nat)(h:b<18446744073709551616):bits .and .u64 (b:Int) 9223372036854775808=if fS b then 9223372036854775808 else 0:=by
 have t:=bits_and_u64_nat b 9223372036854775808 h (by decide)
 refine t.trans ?_
 have z:(b&&& 2^63)%2^63=0:=by rw[Nat.and_mod_two_pow];simp
 have D:(b&&& 2^63)/2^63=(b/2^63)&&& 1:=by rw[Nat.and_div_two_pow]
 rw[show(9223372036854775808:Nat)=2^63 by decide]
 have d:=Nat.div_add_mod (b&&& 2^63) (2^63)
 rw[z,D]at d
 unfold fS
 by_cases l:9223372036854775808≤b
 ·rw[decide_eq_true l,if_pos rfl]
  rw[show b/2^63=1 by omega]at d
  simp only[Nat.and_self]at d
  omega
 ·rw[decide_eq_false l,if_neg (by simp)]
  rw[show b/2^63=0 by omega]at d
  simp only[Nat.zero_and]at d
  omega
theorem Gd(b:Nat)(h:b<18446744073709551616):bits .and .u64 (b:Int) 4503599627370495=(fF b:Int):=by
 have d:=bits_and_u64_nat b 4503599627370495 h (by decide)
 refine d.trans ?_
 have l:b&&& 2^52-1=b%2^52:=Nat.and_two_pow_sub_one_eq_mod b 52
 rw[show(4503599627370495:Nat)=2^52-1 by decide,l]
 rfl
theorem Ge(b:Nat)(h:b<18446744073709551616):bits .and .u64 ((b:Int)/4503599627370496) 2047=(fP b:Int):=by
 have d:=bits_and_u64_nat (b/4503599627370496) 2047 (by omega) (by decide)
 refine d.trans ?_
 have l:(b/4503599627370496)&&& 2^11-1=(b/4503599627370496)%2^11:=Nat.and_two_pow_sub_one_eq_mod _ 11
 rw[show(2047:Nat)=2^11-1 by decide,l]
 unfold fP
 omega
theorem Gf(b:Nat)(h:b<18446744073709551616):bits .xor .u64 (b:Int) 9223372036854775808=(fN b:Int):=by
 have t:=bits_xor_u64_nat b 9223372036854775808 h (by decide)
 refine t.trans ?_
 have z:(b ^^^ 2^63)%2^63=b%2^63:=by rw[Nat.xor_mod_two_pow];simp
 have D:(b ^^^ 2^63)/2^63=(b/2^63) ^^^ 1:=by rw[Nat.xor_div_two_pow]
 rw[show(9223372036854775808:Nat)=2^63 by decide]
 unfold fN
 have d:=Nat.div_add_mod (b ^^^ 2^63) (2^63)
 rw[z,D]at d
 by_cases l:9223372036854775808≤b
 ·rw[if_pos l]
  rw[show b/2^63=1 by omega]at d
  simp only[Nat.xor_self]at d
  omega
 ·rw[if_neg l]
  rw[show b/2^63=0 by omega]at d
  simp only[Nat.zero_xor]at d
  omega
theorem rD(b:Nat):fP b<2048:=by unfold fP;omega
theorem ux(b:Nat):fF b<4503599627370496:=by unfold fF;omega
theorem jF(b:Nat)(h:b<18446744073709551616):fN b<18446744073709551616:=by unfold fN;split<;>omega
def cV(w:World)(b:Nat)(x y z:Value):Prop:=w.heap[b]? =some (.cells #[x,y,z] 167 (0,0))
theorem cV.c0{w:World}{b:Nat}{x y z:Value}(h:cV w b x y z):w.cell? ⟨b,0,none⟩=some x:=by rw[cell_of_row w b 0 _ _ _ h];rfl
theorem cV.c1{w:World}{b:Nat}{x y z:Value}(h:cV w b x y z):w.cell? ⟨b,1,none⟩=some y:=by rw[cell_of_row w b 1 _ _ _ h];rfl
theorem cV.c2{w:World}{b:Nat}{x y z:Value}(h:cV w b x y z):w.cell? ⟨b,2,none⟩=some z:=by rw[cell_of_row w b 2 _ _ _ h];rfl
theorem cV.lt{w:World}{b:Nat}{x y z:Value}(h:cV w b x y z):b<w.heap.size:=(Array.getElem?_eq_some_iff.1 h).1
theorem cV.below{w l:World}{b:Nat}{x y z:Value}(h:cV w b x y z){B:Nat}(t:Below B w l)(d:b<B):cV l b x y z:=(t.block b d).trans h
theorem cV.new(w:World)(x y z:Value):cV (w.alloc (.cells #[x,y,z] 167)) w.heap.size x y z:=heap_alloc_new w _
theorem cV.all{w d:World}{b:Nat}{x y z:Value}(h:cV w b x y z)(l:Below w.heap.size w d):cV d b x y z:=h.below l h.lt
def fV(b:Nat):Value:=.agg #[.bool (fS b),.int .u64 (fP b),.int .u64 (fF b)]
theorem gq(b:Nat)(w:World)(h:b<18446744073709551616):
  Calls Tryz.prog 166 #[.int .u64 b] w fun e z=>e=.returned (fV b)∧Below w.heap.size w z:=by
 have d:=Gc b h
 have l:=Gd b h
 have t:=Ge b h
 unfold fV
 generalize fF b=f at*
 generalize fP b=p at*
 generalize fS b=s at*
 have F:(0:Int)≤b:=by omega
 have D:(b:Int)<18446744073709551616:=by omega
 clear h
 cases s
 ·simp only[Bool.false_eq_true,if_false]at d
  go_enter Tryz.func166,Tryz.ntmps166
  go_wp2_with(simp only[d,l,t])
  refine bodyPost_ret (v:=.agg #[.bool false,.int .u64 p,.int .u64 f]) (by simp[results,Tryz.results166,go_sem]) rfl ⟨rfl,(Below.refl _ _).alloc (Nat.le_refl _) _⟩
 ·simp only[if_true]at d
  go_enter Tryz.func166,Tryz.ntmps166
  go_wp2_with(simp only[d,l,t])
  refine bodyPost_ret (v:=.agg #[.bool true,.int .u64 p,.int .u64 f]) (by simp[results,Tryz.results166,go_sem]) rfl ⟨rfl,(Below.refl _ _).alloc (Nat.le_refl _) _⟩
theorem ig(b:Nat)(w:World)(h:b<18446744073709551616):
  Calls Tryz.prog 130 #[.int .u64 b] w fun e d=>e=.returned (.int .u64 (fN b))∧w=d:=by
 have l:=Gf b h
 generalize fN b=f at*
 clear h
 go_enter Tryz.func130,Tryz.ntmps130
 go_wp2_with(simp only[l])
 go_ret
 exact⟨rfl,rfl⟩
theorem wY(s:Bool)(p f:Int)(W:World):(Instr.field 167 (.agg #[.bool s,.int .u64 p,.int .u64 f]) 0).run Tryz.prog W=.ok (.bool s) W:=by kernel_rfl
theorem fh(b:Nat)(w:World)(h:b<18446744073709551616):
  Calls Tryz.prog 129 #[.int .u64 b] w fun e d=>e=.returned (.bool (fS b))∧Below w.heap.size w d:=by
 have t:=ac (fun d=>gq b d h)
 unfold fV at t
 generalize fF b=f at*
 generalize fP b=p at*
 generalize fS b=s at*
 have z:=fun W=>wY s p f W
 clear h
 go_enter Tryz.func129,Tryz.ntmps129
 go_wp2_with(go_at_call 166;refine(uH t _).mono ?_;rintro r D ⟨rfl,l⟩)
 go_ret
 exact⟨rfl,l⟩
theorem Ay(b:Nat)(w:World)(h:b<18446744073709551616):
  Calls Tryz.prog 114 #[.int .u64 b] w fun e t=>e=.returned (.bool (fS b))∧w=t:=by
 unfold fS
 by_cases d:9223372036854775808≤b
 ·rw[decide_eq_true d]
  have l:(b:Int)/9223372036854775808=1:=by omega
  clear d h
  go_enter Tryz.func114,Tryz.ntmps114
  go_wp2_with(simp only[l])
  go_ret
  exact⟨rfl,rfl⟩
 ·rw[decide_eq_false d]
  have l:(b:Int)/9223372036854775808=0:=by omega
  clear d h
  go_enter Tryz.func114,Tryz.ntmps114
  go_wp2_with(simp only[l])
  go_ret
  exact⟨rfl,rfl⟩
theorem kW(b:Nat)(w:World)(_h:b<18446744073709551616):
  Calls Tryz.prog 113 #[.int .u64 b] w fun e d=>e=.returned (.int .i64 (fP b))∧w=d:=by
 have h:(b:Int)%9223372036854775808/4503599627370496=(fP b:Int):=by unfold fP;omega
 have l:=rD b
 generalize fP b=p at*
 go_enter Tryz.func113,Tryz.ntmps113
 go_wp2_with(simp only[h])
 go_ret
 exact⟨rfl,rfl⟩
theorem rE(b:Nat)(w:World)(_h:b<18446744073709551616):
  Calls Tryz.prog 112 #[.int .u64 b] w fun e d=>e=.returned (.int .u64 (fF b))∧w=d:=by
 have h:(b:Int)%4503599627370496=(fF b:Int):=by unfold fF;omega
 have l:=ux b
 generalize fF b=p at*
 go_enter Tryz.func112,Tryz.ntmps112
 go_wp2_with(simp only[h])
 go_ret
 exact⟨rfl,rfl⟩
theorem cN{d:World}{g:Nat}{x y z:Value}(t:cV d g x y z):∀l,Below d.heap.size d l→Below d.heap.size d l∧l.cell? ⟨g,0,none⟩=some x∧l.cell? ⟨g,1,none⟩=some y∧l.cell? ⟨g,2,none⟩=some z:=fun _ h=>⟨h,(t.all h).c0,(t.all h).c1,(t.all h).c2⟩
theorem fG{l t d:World}{p:Prop}(h:Below l.heap.size l t∧p)(z:Below t.heap.size t d):Below l.heap.size l d:=h.1.trans (z.mono h.1.size)
theorem dy{w d l:World}{p:Prop}(t:Hid (Below w.heap.size w d))(h:Below d.heap.size d l∧p):Below w.heap.size w l:=t.out.trans (h.1.mono t.out.size)
theorem eQ(w:World):Calls Tryz.prog 166 #[.int .u64 0] w fun e d=>e=.returned (.agg #[.bool false,.int .u64 0,.int .u64 0])∧Below w.heap.size w d:=by
 have h:=gq 0 w (by decide)
 simpa[fV,fS,fP,fF]using h
theorem fH(w:World):Calls Tryz.prog 166 #[.int .u64 9223372036854775808] w fun e d=>e=.returned (.agg #[.bool true,.int .u64 0,.int .u64 0])∧Below w.heap.size w d:=by
 have h:=gq 9223372036854775808 w (by decide)
 simpa[fV,fS,fP,fF]using h
theorem gH(w:World):Calls Tryz.prog 166 #[.int .u64 9218868437227405312] w fun e d=>e=.returned (.agg #[.bool false,.int .u64 2047,.int .u64 0])∧Below w.heap.size w d:=by
 have h:=gq 9218868437227405312 w (by decide)
 simpa[fV,fS,fP,fF]using h
theorem ii(w:World):Calls Tryz.prog 166 #[.int .u64 18442240474082181120] w fun e d=>e=.returned (.agg #[.bool true,.int .u64 2047,.int .u64 0])∧Below w.heap.size w d:=by
 have h:=gq 18442240474082181120 w (by decide)
 simpa[fV,fS,fP,fF]using h
theorem Gg(b:Nat)(w:World)(C:∀h,Calls Tryz.prog 166 #[.int .u64 b] h fun e l=>e=.returned (.agg #[.bool false,.int .u64 0,.int .u64 0])∧Below h.heap.size h l):
  Calls Tryz.prog 122 #[.int .u64 b] w fun e h=>e=.returned (.int .i64 0)∧Below w.heap.size w h:=by
 have I:=ac eQ
 have z:=ac C
 clear C
 go_enter Tryz.func122,Tryz.ntmps122
 go_wp2_with fail
 refine(uH z _).mono ?_
 rintro e F ⟨rfl,d⟩
 clear z
 go_wp2
 refine aG (fun W=>Below w.heap.size w W∧cV W F.heap.size (.bool false) (.int .u64 0) (.int .u64 0)) ⟨d.alloc d.size _,cV.new _ _ _ _⟩ ?_
 rintro G ⟨H,t⟩
 clear d
 generalize F.heap.size=g at*
 have D:=ac (cN t);have J:=ac H;have L:=ac t;clear t H
 go_region_held3(fun h=>Below G.heap.size G h∧h.cell? ⟨g,0,none⟩=some (.bool false)∧h.cell? ⟨g,1,none⟩=some (.int .u64 0)∧h.cell? ⟨g,2,none⟩=some (.int .u64 0))
  (first|exact uH D _ (Below.refl _ _).drew|exact uH D _ (by assumption)|fail "NO KEEP")
  (first|(go_at_call 166;refine(uH I _).mono ?_;rintro e N ⟨rfl,d⟩;have M:=fG (by assumption) d;clear d)|fail "NO ARM")
 go_wp2
 go_ret
 exact⟨rfl,dy J (by assumption)⟩
theorem Gh(b:Nat)(w:World)(C:∀h,Calls Tryz.prog 166 #[.int .u64 b] h fun e J=>e=.returned (.agg #[.bool false,.int .u64 2047,.int .u64 0])∧Below h.heap.size h J):
  Calls Tryz.prog 122 #[.int .u64 b] w fun e h=>e=.returned (.int .i64 3)∧Below w.heap.size w h:=by
 have F:=ac eQ
 have G:=ac fH
 have H:=ac gH
 have M:=ac C
 clear C
 go_enter Tryz.func122,Tryz.ntmps122
 go_wp2_with fail
 refine(uH M _).mono ?_
 rintro e N ⟨rfl,d⟩
 clear M
 go_wp2
 refine aG (fun W=>Below w.heap.size w W∧cV W N.heap.size (.bool false) (.int .u64 2047) (.int .u64 0)) ⟨d.alloc d.size _,cV.new _ _ _ _⟩ ?_
 rintro z ⟨D,l⟩
 clear d
 generalize N.heap.size=g at*
 have t:=ac (cN l);have I:=ac D;have L:=ac l;clear l D
 iterate 2 (go_region_held3(fun h=>Below z.heap.size z h∧h.cell? ⟨g,0,none⟩=some (.bool false)∧h.cell? ⟨g,1,none⟩=some (.int .u64 2047)∧h.cell? ⟨g,2,none⟩=some (.int .u64 0))
  (first|exact uH t _ (Below.refl _ _).drew|exact uH t _ (by assumption)|fail "NO KEEP")
  (first|(go_at_call 166;(first|(refine(uH F _).mono ?_;clear F)|(refine(uH G _).mono ?_;clear G)|(refine(uH H _).mono ?_;clear H));rintro e Q ⟨rfl,d⟩;have O:=fG (by assumption) d;clear d)|fail "NO ARM");go_wp2;refine aG (fun W=>Below w.heap.size w W∧cV W g (.bool false) (.int .u64 2047) (.int .u64 0)) ⟨dy I (by assumption),(uH L).all (And.left (by assumption))⟩ ?_;clear t I L;rintro z ⟨D,l⟩;have t:=ac (cN l);have I:=ac D;have L:=ac l;clear l D)
 go_region_held3(fun h=>Below z.heap.size z h∧h.cell? ⟨g,0,none⟩=some (.bool false)∧h.cell? ⟨g,1,none⟩=some (.int .u64 2047)∧h.cell? ⟨g,2,none⟩=some (.int .u64 0))
  (first|exact uH t _ (Below.refl _ _).drew|exact uH t _ (by assumption)|fail "NO KEEP")
  (first|(go_at_call 166;(first|(refine(uH F _).mono ?_;clear F)|(refine(uH G _).mono ?_;clear G)|(refine(uH H _).mono ?_;clear H));rintro e Q ⟨rfl,d⟩;have O:=fG (by assumption) d;clear d)|fail "NO ARM")
 go_wp2
 go_ret
 exact⟨rfl,dy I (by assumption)⟩
theorem Gi(b:Nat)(f:Nat)(w:World)(C:∀h,Calls Tryz.prog 166 #[.int .u64 b] h fun e L=>e=.returned (.agg #[.bool false,.int .u64 0,.int .u64 f])∧Below h.heap.size h L)(U:((f:Int)==0)=false):
  Calls Tryz.prog 122 #[.int .u64 b] w fun e h=>e=.returned (.int .i64 1)∧Below w.heap.size w h:=by
 have F:=ac eQ
 have G:=ac fH
 have H:=ac gH
 have I:=ac ii
 have N:=ac C
 clear C
 go_enter Tryz.func122,Tryz.ntmps122
 go_wp2_with fail
 refine(uH N _).mono ?_
 rintro e O ⟨rfl,d⟩
 clear N
 go_wp2
 refine aG (fun W=>Below w.heap.size w W∧cV W O.heap.size (.bool false) (.int .u64 0) (.int .u64 f)) ⟨d.alloc d.size _,cV.new _ _ _ _⟩ ?_
 rintro z ⟨D,l⟩
 clear d
 generalize O.heap.size=g at*
 have t:=ac (cN l);have J:=ac D;have M:=ac l;clear l D
 iterate 3 (go_region_held3(fun h=>Below z.heap.size z h∧h.cell? ⟨g,0,none⟩=some (.bool false)∧h.cell? ⟨g,1,none⟩=some (.int .u64 0)∧h.cell? ⟨g,2,none⟩=some (.int .u64 f))
  (first|exact uH t _ (Below.refl _ _).drew|exact uH t _ (by assumption)|fail "NO KEEP")
  (first|(go_at_call 166;(first|(refine(uH F _).mono ?_;clear F)|(refine(uH G _).mono ?_;clear G)|(refine(uH H _).mono ?_;clear H)|(refine(uH I _).mono ?_;clear I));rintro e T ⟨rfl,d⟩;have Q:=fG (by assumption) d;clear d)|fail "NO ARM");go_wp2;refine aG (fun W=>Below w.heap.size w W∧cV W g (.bool false) (.int .u64 0) (.int .u64 f)) ⟨dy J (by assumption),(uH M).all (And.left (by assumption))⟩ ?_;clear t J M;rintro z ⟨D,l⟩;have t:=ac (cN l);have J:=ac D;have M:=ac l;clear l D)
 go_region_held3(fun h=>Below z.heap.size z h∧h.cell? ⟨g,0,none⟩=some (.bool false)∧h.cell? ⟨g,1,none⟩=some (.int .u64 0)∧h.cell? ⟨g,2,none⟩=some (.int .u64 f))
  (first|exact uH t _ (Below.refl _ _).drew|exact uH t _ (by assumption)|fail "NO KEEP")
  (first|(go_at_call 166;(first|(refine(uH F _).mono ?_;clear F)|(refine(uH G _).mono ?_;clear G)|(refine(uH H _).mono ?_;clear H)|(refine(uH I _).mono ?_;clear I));rintro e T ⟨rfl,d⟩;have Q:=fG (by assumption) d;clear d)|fail "NO ARM")
 go_wp2
 go_ret
 exact⟨rfl,dy J (by assumption)⟩
theorem Gj(b:Nat)(f:Nat)(w:World)(C:∀h,Calls Tryz.prog 166 #[.int .u64 b] h fun e L=>e=.returned (.agg #[.bool false,.int .u64 2047,.int .u64 f])∧Below h.heap.size h L)(U:((f:Int)==0)=false):
  Calls Tryz.prog 122 #[.int .u64 b] w fun e h=>e=.returned (.int .i64 4)∧Below w.heap.size w h:=by
 have F:=ac eQ
 have G:=ac fH
 have H:=ac gH
 have I:=ac ii
 have N:=ac C
 clear C
 go_enter Tryz.func122,Tryz.ntmps122
 go_wp2_with fail
 refine(uH N _).mono ?_
 rintro e O ⟨rfl,d⟩
 clear N
 go_wp2
 refine aG (fun W=>Below w.heap.size w W∧cV W O.heap.size (.bool false) (.int .u64 2047) (.int .u64 f)) ⟨d.alloc d.size _,cV.new _ _ _ _⟩ ?_
 rintro z ⟨D,l⟩
 clear d
 generalize O.heap.size=g at*
 have t:=ac (cN l);have J:=ac D;have M:=ac l;clear l D
 iterate 3 (go_region_held3(fun h=>Below z.heap.size z h∧h.cell? ⟨g,0,none⟩=some (.bool false)∧h.cell? ⟨g,1,none⟩=some (.int .u64 2047)∧h.cell? ⟨g,2,none⟩=some (.int .u64 f))
  (first|exact uH t _ (Below.refl _ _).drew|exact uH t _ (by assumption)|fail "NO KEEP")
  (first|(go_at_call 166;(first|(refine(uH F _).mono ?_;clear F)|(refine(uH G _).mono ?_;clear G)|(refine(uH H _).mono ?_;clear H)|(refine(uH I _).mono ?_;clear I));rintro e T ⟨rfl,d⟩;have Q:=fG (by assumption) d;clear d)|fail "NO ARM");go_wp2;refine aG (fun W=>Below w.heap.size w W∧cV W g (.bool false) (.int .u64 2047) (.int .u64 f)) ⟨dy J (by assumption),(uH M).all (And.left (by assumption))⟩ ?_;clear t J M;rintro z ⟨D,l⟩;have t:=ac (cN l);have J:=ac D;have M:=ac l;clear l D)
 go_region_held3(fun h=>Below z.heap.size z h∧h.cell? ⟨g,0,none⟩=some (.bool false)∧h.cell? ⟨g,1,none⟩=some (.int .u64 2047)∧h.cell? ⟨g,2,none⟩=some (.int .u64 f))
  (first|exact uH t _ (Below.refl _ _).drew|exact uH t _ (by assumption)|fail "NO KEEP")
  (first|(go_at_call 166;(first|(refine(uH F _).mono ?_;clear F)|(refine(uH G _).mono ?_;clear G)|(refine(uH H _).mono ?_;clear H)|(refine(uH I _).mono ?_;clear I));rintro e T ⟨rfl,d⟩;have Q:=fG (by assumption) d;clear d)|fail "NO ARM")
 go_wp2
 go_ret
 exact⟨rfl,dy J (by assumption)⟩
theorem Gk(b:Nat)(p:Nat)(f:Nat)(w:World)(C:∀h,Calls Tryz.prog 166 #[.int .u64 b] h fun e L=>e=.returned (.agg #[.bool false,.int .u64 p,.int .u64 f])∧Below h.heap.size h L)(U:((p:Int)==0)=false)(V:((p:Int)==2047)=false):
  Calls Tryz.prog 122 #[.int .u64 b] w fun e h=>e=.returned (.int .i64 2)∧Below w.heap.size w h:=by
 have F:=ac eQ
 have G:=ac fH
 have H:=ac gH
 have I:=ac ii
 have N:=ac C
 clear C
 go_enter Tryz.func122,Tryz.ntmps122
 go_wp2_with fail
 refine(uH N _).mono ?_
 rintro e O ⟨rfl,d⟩
 clear N
 go_wp2
 refine aG (fun W=>Below w.heap.size w W∧cV W O.heap.size (.bool false) (.int .u64 p) (.int .u64 f)) ⟨d.alloc d.size _,cV.new _ _ _ _⟩ ?_
 rintro z ⟨D,l⟩
 clear d
 generalize O.heap.size=g at*
 have t:=ac (cN l);have J:=ac D;have M:=ac l;clear l D
 iterate 3 (go_region_held3(fun h=>Below z.heap.size z h∧h.cell? ⟨g,0,none⟩=some (.bool false)∧h.cell? ⟨g,1,none⟩=some (.int .u64 p)∧h.cell? ⟨g,2,none⟩=some (.int .u64 f))
  (first|exact uH t _ (Below.refl _ _).drew|exact uH t _ (by assumption)|fail "NO KEEP")
  (first|(go_at_call 166;(first|(refine(uH F _).mono ?_;clear F)|(refine(uH G _).mono ?_;clear G)|(refine(uH H _).mono ?_;clear H)|(refine(uH I _).mono ?_;clear I));rintro e T ⟨rfl,d⟩;have Q:=fG (by assumption) d;clear d)|fail "NO ARM");go_wp2;refine aG (fun W=>Below w.heap.size w W∧cV W g (.bool false) (.int .u64 p) (.int .u64 f)) ⟨dy J (by assumption),(uH M).all (And.left (by assumption))⟩ ?_;clear t J M;rintro z ⟨D,l⟩;have t:=ac (cN l);have J:=ac D;have M:=ac l;clear l D)
 go_region_held3(fun h=>Below z.heap.size z h∧h.cell? ⟨g,0,none⟩=some (.bool false)∧h.cell? ⟨g,1,none⟩=some (.int .u64 p)∧h.cell? ⟨g,2,none⟩=some (.int .u64 f))
  (first|exact uH t _ (Below.refl _ _).drew|exact uH t _ (by assumption)|fail "NO KEEP")
  (first|(go_at_call 166;(first|(refine(uH F _).mono ?_;clear F)|(refine(uH G _).mono ?_;clear G)|(refine(uH H _).mono ?_;clear H)|(refine(uH I _).mono ?_;clear I));rintro e T ⟨rfl,d⟩;have Q:=fG (by assumption) d;clear d)|fail "NO ARM")
 go_wp2
 go_ret
 exact⟨rfl,dy J (by assumption)⟩
theorem Gl(b:Nat)(w:World)(C:∀h,Calls Tryz.prog 166 #[.int .u64 b] h fun e I=>e=.returned (.agg #[.bool true,.int .u64 0,.int .u64 0])∧Below h.heap.size h I):
  Calls Tryz.prog 122 #[.int .u64 b] w fun e h=>e=.returned (.int .i64 0)∧Below w.heap.size w h:=by
 have F:=ac eQ
 have G:=ac fH
 have L:=ac C
 clear C
 go_enter Tryz.func122,Tryz.ntmps122
 go_wp2_with fail
 refine(uH L _).mono ?_
 rintro e M ⟨rfl,d⟩
 clear L
 go_wp2
 refine aG (fun W=>Below w.heap.size w W∧cV W M.heap.size (.bool true) (.int .u64 0) (.int .u64 0)) ⟨d.alloc d.size _,cV.new _ _ _ _⟩ ?_
 rintro z ⟨D,l⟩
 clear d
 generalize M.heap.size=g at*
 have t:=ac (cN l);have H:=ac D;have J:=ac l;clear l D
 iterate 1 (go_region_held3(fun h=>Below z.heap.size z h∧h.cell? ⟨g,0,none⟩=some (.bool true)∧h.cell? ⟨g,1,none⟩=some (.int .u64 0)∧h.cell? ⟨g,2,none⟩=some (.int .u64 0))
  (first|exact uH t _ (Below.refl _ _).drew|exact uH t _ (by assumption)|fail "NO KEEP")
  (first|(go_at_call 166;(first|(refine(uH F _).mono ?_;clear F)|(refine(uH G _).mono ?_;clear G));rintro e O ⟨rfl,d⟩;have N:=fG (by assumption) d;clear d)|fail "NO ARM");go_wp2;refine aG (fun W=>Below w.heap.size w W∧cV W g (.bool true) (.int .u64 0) (.int .u64 0)) ⟨dy H (by assumption),(uH J).all (And.left (by assumption))⟩ ?_;clear t H J;rintro z ⟨D,l⟩;have t:=ac (cN l);have H:=ac D;have J:=ac l;clear l D)
 go_region_held3(fun h=>Below z.heap.size z h∧h.cell? ⟨g,0,none⟩=some (.bool true)∧h.cell? ⟨g,1,none⟩=some (.int .u64 0)∧h.cell? ⟨g,2,none⟩=some (.int .u64 0))
  (first|exact uH t _ (Below.refl _ _).drew|exact uH t _ (by assumption)|fail "NO KEEP")
  (first|(go_at_call 166;(first|(refine(uH F _).mono ?_;clear F)|(refine(uH G _).mono ?_;clear G));rintro e O ⟨rfl,d⟩;have N:=fG (by assumption) d;clear d)|fail "NO ARM")
 go_wp2
 go_ret
 exact⟨rfl,dy H (by assumption)⟩
theorem Gm(b:Nat)(w:World)(C:∀h,Calls Tryz.prog 166 #[.int .u64 b] h fun e L=>e=.returned (.agg #[.bool true,.int .u64 2047,.int .u64 0])∧Below h.heap.size h L):
  Calls Tryz.prog 122 #[.int .u64 b] w fun e h=>e=.returned (.int .i64 3)∧Below w.heap.size w h:=by
 have F:=ac eQ
 have G:=ac fH
 have H:=ac gH
 have I:=ac ii
 have N:=ac C
 clear C
 go_enter Tryz.func122,Tryz.ntmps122
 go_wp2_with fail
 refine(uH N _).mono ?_
 rintro e O ⟨rfl,d⟩
 clear N
 go_wp2
 refine aG (fun W=>Below w.heap.size w W∧cV W O.heap.size (.bool true) (.int .u64 2047) (.int .u64 0)) ⟨d.alloc d.size _,cV.new _ _ _ _⟩ ?_
 rintro z ⟨D,l⟩
 clear d
 generalize O.heap.size=g at*
 have t:=ac (cN l);have J:=ac D;have M:=ac l;clear l D
 iterate 3 (go_region_held3(fun h=>Below z.heap.size z h∧h.cell? ⟨g,0,none⟩=some (.bool true)∧h.cell? ⟨g,1,none⟩=some (.int .u64 2047)∧h.cell? ⟨g,2,none⟩=some (.int .u64 0))
  (first|exact uH t _ (Below.refl _ _).drew|exact uH t _ (by assumption)|fail "NO KEEP")
  (first|(go_at_call 166;(first|(refine(uH F _).mono ?_;clear F)|(refine(uH G _).mono ?_;clear G)|(refine(uH H _).mono ?_;clear H)|(refine(uH I _).mono ?_;clear I));rintro e T ⟨rfl,d⟩;have Q:=fG (by assumption) d;clear d)|fail "NO ARM");go_wp2;refine aG (fun W=>Below w.heap.size w W∧cV W g (.bool true) (.int .u64 2047) (.int .u64 0)) ⟨dy J (by assumption),(uH M).all (And.left (by assumption))⟩ ?_;clear t J M;rintro z ⟨D,l⟩;have t:=ac (cN l);have J:=ac D;have M:=ac l;clear l D)
 go_region_held3(fun h=>Below z.heap.size z h∧h.cell? ⟨g,0,none⟩=some (.bool true)∧h.cell? ⟨g,1,none⟩=some (.int .u64 2047)∧h.cell? ⟨g,2,none⟩=some (.int .u64 0))
  (first|exact uH t _ (Below.refl _ _).drew|exact uH t _ (by assumption)|fail "NO KEEP")
  (first|(go_at_call 166;(first|(refine(uH F _).mono ?_;clear F)|(refine(uH G _).mono ?_;clear G)|(refine(uH H _).mono ?_;clear H)|(refine(uH I _).mono ?_;clear I));rintro e T ⟨rfl,d⟩;have Q:=fG (by assumption) d;clear d)|fail "NO ARM")
 go_wp2
 go_ret
 exact⟨rfl,dy J (by assumption)⟩
theorem Gn(b:Nat)(f:Nat)(w:World)(C:∀h,Calls Tryz.prog 166 #[.int .u64 b] h fun e L=>e=.returned (.agg #[.bool true,.int .u64 0,.int .u64 f])∧Below h.heap.size h L)(U:((f:Int)==0)=false):
  Calls Tryz.prog 122 #[.int .u64 b] w fun e h=>e=.returned (.int .i64 1)∧Below w.heap.size w h:=by
 have F:=ac eQ
 have G:=ac fH
 have H:=ac gH
 have I:=ac ii
 have N:=ac C
 clear C
 go_enter Tryz.func122,Tryz.ntmps122
 go_wp2_with fail
 refine(uH N _).mono ?_
 rintro e O ⟨rfl,d⟩
 clear N
 go_wp2
 refine aG (fun W=>Below w.heap.size w W∧cV W O.heap.size (.bool true) (.int .u64 0) (.int .u64 f)) ⟨d.alloc d.size _,cV.new _ _ _ _⟩ ?_
 rintro z ⟨D,l⟩
 clear d
 generalize O.heap.size=g at*
 have t:=ac (cN l);have J:=ac D;have M:=ac l;clear l D
 iterate 3 (go_region_held3(fun h=>Below z.heap.size z h∧h.cell? ⟨g,0,none⟩=some (.bool true)∧h.cell? ⟨g,1,none⟩=some (.int .u64 0)∧h.cell? ⟨g,2,none⟩=some (.int .u64 f))
  (first|exact uH t _ (Below.refl _ _).drew|exact uH t _ (by assumption)|fail "NO KEEP")
  (first|(go_at_call 166;(first|(refine(uH F _).mono ?_;clear F)|(refine(uH G _).mono ?_;clear G)|(refine(uH H _).mono ?_;clear H)|(refine(uH I _).mono ?_;clear I));rintro e T ⟨rfl,d⟩;have Q:=fG (by assumption) d;clear d)|fail "NO ARM");go_wp2;refine aG (fun W=>Below w.heap.size w W∧cV W g (.bool true) (.int .u64 0) (.int .u64 f)) ⟨dy J (by assumption),(uH M).all (And.left (by assumption))⟩ ?_;clear t J M;rintro z ⟨D,l⟩;have t:=ac (cN l);have J:=ac D;have M:=ac l;clear l D)
 go_region_held3(fun h=>Below z.heap.size z h∧h.cell? ⟨g,0,none⟩=some (.bool true)∧h.cell? ⟨g,1,none⟩=some (.int .u64 0)∧h.cell? ⟨g,2,none⟩=some (.int .u64 f))
  (first|exact uH t _ (Below.refl _ _).drew|exact uH t _ (by assumption)|fail "NO KEEP")
  (first|(go_at_call 166;(first|(refine(uH F _).mono ?_;clear F)|(refine(uH G _).mono ?_;clear G)|(refine(uH H _).mono ?_;clear H)|(refine(uH I _).mono ?_;clear I));rintro e T ⟨rfl,d⟩;have Q:=fG (by assumption) d;clear d)|fail "NO ARM")
 go_wp2
 go_ret
 exact⟨rfl,dy J (by assumption)⟩
theorem Gp(b:Nat)(f:Nat)(w:World)(C:∀h,Calls Tryz.prog 166 #[.int .u64 b] h fun e L=>e=.returned (.agg #[.bool true,.int .u64 2047,.int .u64 f])∧Below h.heap.size h L)(U:((f:Int)==0)=false):
  Calls Tryz.prog 122 #[.int .u64 b] w fun e h=>e=.returned (.int .i64 4)∧Below w.heap.size w h:=by
 have F:=ac eQ
 have G:=ac fH
 have H:=ac gH
 have I:=ac ii
 have N:=ac C
 clear C
 go_enter Tryz.func122,Tryz.ntmps122
 go_wp2_with fail
 refine(uH N _).mono ?_
 rintro e O ⟨rfl,d⟩
 clear N
 go_wp2
 refine aG (fun W=>Below w.heap.size w W∧cV W O.heap.size (.bool true) (.int .u64 2047) (.int .u64 f)) ⟨d.alloc d.size _,cV.new _ _ _ _⟩ ?_
 rintro z ⟨D,l⟩
 clear d
 generalize O.heap.size=g at*
 have t:=ac (cN l);have J:=ac D;have M:=ac l;clear l D
 iterate 3 (go_region_held3(fun h=>Below z.heap.size z h∧h.cell? ⟨g,0,none⟩=some (.bool true)∧h.cell? ⟨g,1,none⟩=some (.int .u64 2047)∧h.cell? ⟨g,2,none⟩=some (.int .u64 f))
  (first|exact uH t _ (Below.refl _ _).drew|exact uH t _ (by assumption)|fail "NO KEEP")
  (first|(go_at_call 166;(first|(refine(uH F _).mono ?_;clear F)|(refine(uH G _).mono ?_;clear G)|(refine(uH H _).mono ?_;clear H)|(refine(uH I _).mono ?_;clear I));rintro e T ⟨rfl,d⟩;have Q:=fG (by assumption) d;clear d)|fail "NO ARM");go_wp2;refine aG (fun W=>Below w.heap.size w W∧cV W g (.bool true) (.int .u64 2047) (.int .u64 f)) ⟨dy J (by assumption),(uH M).all (And.left (by assumption))⟩ ?_;clear t J M;rintro z ⟨D,l⟩;have t:=ac (cN l);have J:=ac D;have M:=ac l;clear l D)
 go_region_held3(fun h=>Below z.heap.size z h∧h.cell? ⟨g,0,none⟩=some (.bool true)∧h.cell? ⟨g,1,none⟩=some (.int .u64 2047)∧h.cell? ⟨g,2,none⟩=some (.int .u64 f))
  (first|exact uH t _ (Below.refl _ _).drew|exact uH t _ (by assumption)|fail "NO KEEP")
  (first|(go_at_call 166;(first|(refine(uH F _).mono ?_;clear F)|(refine(uH G _).mono ?_;clear G)|(refine(uH H _).mono ?_;clear H)|(refine(uH I _).mono ?_;clear I));rintro e T ⟨rfl,d⟩;have Q:=fG (by assumption) d;clear d)|fail "NO ARM")
 go_wp2
 go_ret
 exact⟨rfl,dy J (by assumption)⟩
theorem Gq(b:Nat)(p:Nat)(f:Nat)(w:World)(C:∀h,Calls Tryz.prog 166 #[.int .u64 b] h fun e L=>e=.returned (.agg #[.bool true,.int .u64 p,.int .u64 f])∧Below h.heap.size h L)(U:((p:Int)==0)=false)(V:((p:Int)==2047)=false):
  Calls Tryz.prog 122 #[.int .u64 b] w fun e h=>e=.returned (.int .i64 2)∧Below w.heap.size w h:=by
 have F:=ac eQ
 have G:=ac fH
 have H:=ac gH
 have I:=ac ii
 have N:=ac C
 clear C
 go_enter Tryz.func122,Tryz.ntmps122
 go_wp2_with fail
 refine(uH N _).mono ?_
 rintro e O ⟨rfl,d⟩
 clear N
 go_wp2
 refine aG (fun W=>Below w.heap.size w W∧cV W O.heap.size (.bool true) (.int .u64 p) (.int .u64 f)) ⟨d.alloc d.size _,cV.new _ _ _ _⟩ ?_
 rintro z ⟨D,l⟩
 clear d
 generalize O.heap.size=g at*
 have t:=ac (cN l);have J:=ac D;have M:=ac l;clear l D
 iterate 3 (go_region_held3(fun h=>Below z.heap.size z h∧h.cell? ⟨g,0,none⟩=some (.bool true)∧h.cell? ⟨g,1,none⟩=some (.int .u64 p)∧h.cell? ⟨g,2,none⟩=some (.int .u64 f))
  (first|exact uH t _ (Below.refl _ _).drew|exact uH t _ (by assumption)|fail "NO KEEP")
  (first|(go_at_call 166;(first|(refine(uH F _).mono ?_;clear F)|(refine(uH G _).mono ?_;clear G)|(refine(uH H _).mono ?_;clear H)|(refine(uH I _).mono ?_;clear I));rintro e T ⟨rfl,d⟩;have Q:=fG (by assumption) d;clear d)|fail "NO ARM");go_wp2;refine aG (fun W=>Below w.heap.size w W∧cV W g (.bool true) (.int .u64 p) (.int .u64 f)) ⟨dy J (by assumption),(uH M).all (And.left (by assumption))⟩ ?_;clear t J M;rintro z ⟨D,l⟩;have t:=ac (cN l);have J:=ac D;have M:=ac l;clear l D)
 go_region_held3(fun h=>Below z.heap.size z h∧h.cell? ⟨g,0,none⟩=some (.bool true)∧h.cell? ⟨g,1,none⟩=some (.int .u64 p)∧h.cell? ⟨g,2,none⟩=some (.int .u64 f))
  (first|exact uH t _ (Below.refl _ _).drew|exact uH t _ (by assumption)|fail "NO KEEP")
  (first|(go_at_call 166;(first|(refine(uH F _).mono ?_;clear F)|(refine(uH G _).mono ?_;clear G)|(refine(uH H _).mono ?_;clear H)|(refine(uH I _).mono ?_;clear I));rintro e T ⟨rfl,d⟩;have Q:=fG (by assumption) d;clear d)|fail "NO ARM")
 go_wp2
 go_ret
 exact⟨rfl,dy J (by assumption)⟩
theorem dj(b:Nat)(w:World)(h:b<18446744073709551616):
  Calls Tryz.prog 122 #[.int .u64 b] w fun e t=>e=.returned (.int .i64 (fK b))∧Below w.heap.size w t:=by
 have C:=fun t=>gq b t h
 unfold fV at C
 unfold fK
 generalize fF b=f at*
 generalize fP b=p at*
 generalize fS b=s at*
 by_cases z:p=2047
 ·subst z
  rw[if_pos rfl]
  by_cases d:f=0
  ·subst d
   rw[if_pos rfl]
   cases s
   ·exact Gh b w C
   ·exact Gm b w C
  ·rw[if_neg d]
   have l:((f:Int)==0)=false:=by simp;omega
   cases s
   ·exact Gj b f w C l
   ·exact Gp b f w C l
 ·rw[if_neg z]
  by_cases d:p=0
  ·subst d
   rw[if_pos rfl]
   by_cases D:f=0
   ·subst D
    rw[if_pos rfl]
    cases s
    ·exact Gg b w C
    ·exact Gl b w C
   ·rw[if_neg D]
    have l:((f:Int)==0)=false:=by simp;omega
    cases s
    ·exact Gi b f w C l
    ·exact Gn b f w C l
  ·rw[if_neg d]
   have F:((p:Int)==0)=false:=by simp;omega
   have G:((p:Int)==2047)=false:=by simp;omega
   cases s
   ·exact Gk b p f w C F G
   ·exact Gq b p f w C F G
def ah(b:Nat):Bool:=decide (fP b≠2047)
theorem iS(b:Nat):(ah b=false∧(fK b=3∨fK b=4))∨(ah b=true∧(fK b=0∨fK b=1∨fK b=2)):=by
 unfold fK ah
 by_cases d:fP b=2047
 ·left
  refine⟨by simp[d],?_⟩
  rw[if_pos d]
  split<;>simp
 ·right
  refine⟨by simp[d],?_⟩
  rw[if_neg d]
  split
  ·split<;>simp
  ·simp
theorem fi(b:Nat)(w:World)(h:b<18446744073709551616):
  Calls Tryz.prog 98 #[.int .u64 b] w fun e d=>e=.returned (.bool (ah b))∧Below w.heap.size w d:=by
 have t:=ac (fun d=>dj b d h)
 have z:=iS b
 generalize ah b=q at*
 generalize fK b=k at*
 rcases z with⟨rfl,rfl|rfl⟩|⟨rfl,rfl|rfl|rfl⟩
 all_goals
  clear h
  go_enter Tryz.func98,Tryz.ntmps98
  go_wp2_with(go_at_call 122;refine(uH t _).mono ?_;rintro e D ⟨rfl,l⟩)
  go_ret
  exact⟨rfl,l⟩
theorem uy(b:Nat)(w:World)(h:b<18446744073709551616):
  Calls Tryz.prog 52 #[.int .u64 b] w fun e d=>e=.returned (.bool (ah b))∧w=d:=by
 have t:=ac (fun d=>kW b d h)
 have z:=rD b
 unfold ah
 generalize fP b=k at*
 clear h
 by_cases l:k=2047
 ·subst l
  go_enter Tryz.func52,Tryz.ntmps52
  go_wp2_with(go_at_call 113;refine(uH t _).mono ?_;rintro e D ⟨rfl,rfl⟩)
  go_ret
  exact⟨rfl,rfl⟩
 ·rw[decide_eq_true l]
  have F:(k:Int)<2047:=by omega
  clear l z
  go_enter Tryz.func52,Tryz.ntmps52
  go_wp2_with(go_at_call 113;refine(uH t _).mono ?_;rintro e D ⟨rfl,rfl⟩)
  go_ret
  exact⟨rfl,rfl⟩
theorem rF(b:Nat)(w:World)(h:b<18446744073709551616):
  Calls Tryz.prog 53 #[.int .u64 b] w fun e l=>e=.returned (.int .i64 (fK b))∧w=l:=by
 have t:=ac (fun l=>kW b l h)
 have z:=ac (fun l=>rE b l h)
 unfold fK
 generalize fF b=f at*
 generalize fP b=p at*
 clear h
 by_cases G:p=2047
 ·subst G
  rw[if_pos rfl]
  by_cases d:f=0
  ·subst d
   rw[if_pos rfl]
   go_enter Tryz.func53,Tryz.ntmps53
   go_wp2_with(first|(go_at_call 113;refine(uH t _).mono ?_;rintro e D ⟨rfl,rfl⟩)|(go_at_call 112;refine(uH z _).mono ?_;rintro e F ⟨rfl,rfl⟩))
   go_ret
   exact⟨rfl,rfl⟩
  ·rw[if_neg d]
   have J:((f:Int)==0)=false:=by simp;omega
   clear d
   go_enter Tryz.func53,Tryz.ntmps53
   go_wp2_with(first|(go_at_call 113;refine(uH t _).mono ?_;rintro e D ⟨rfl,rfl⟩)|(go_at_call 112;refine(uH z _).mono ?_;rintro e F ⟨rfl,rfl⟩))
   go_ret
   exact⟨rfl,rfl⟩
 ·rw[if_neg G]
  have L:((p:Int)==2047)=false:=by simp;omega
  clear G
  by_cases d:p=0
  ·subst d
   rw[if_pos rfl]
   by_cases H:f=0
   ·subst H
    rw[if_pos rfl]
    go_enter Tryz.func53,Tryz.ntmps53
    go_wp2_with(first|(go_at_call 113;refine(uH t _).mono ?_;rintro e D ⟨rfl,rfl⟩)|(go_at_call 112;refine(uH z _).mono ?_;rintro e F ⟨rfl,rfl⟩))
    go_ret
    exact⟨rfl,rfl⟩
   ·rw[if_neg H]
    have J:decide ((0:Int)<(f:Int))=true:=decide_eq_true (by omega)
    have I:(0:Int)<(f:Int):=by omega
    clear H
    go_enter Tryz.func53,Tryz.ntmps53
    go_wp2_with(first|(go_at_call 113;refine(uH t _).mono ?_;rintro e D ⟨rfl,rfl⟩)|(go_at_call 112;refine(uH z _).mono ?_;rintro e F ⟨rfl,rfl⟩))
    go_ret
    exact⟨rfl,rfl⟩
  ·rw[if_neg d]
   have J:decide ((0:Int)<(p:Int))=true:=decide_eq_true (by omega)
   have I:(0:Int)<(p:Int):=by omega
   clear d
   go_enter Tryz.func53,Tryz.ntmps53
   go_wp2_with(first|(go_at_call 113;refine(uH t _).mono ?_;rintro e D ⟨rfl,rfl⟩)|(go_at_call 112;refine(uH z _).mono ?_;rintro e F ⟨rfl,rfl⟩))
   go_ret
   exact⟨rfl,rfl⟩
set_option maxRecDepth 100000 in
theorem Az(x:Int)(w:World)(J:0≤x)(L:x≤4294967295):
  Calls Tryz.prog 246 #[.int .u32 x] w fun e G=>e=.returned (.int .i64 (Lib.bitLen x.toNat))∧w=G:=by
 rcases(show x<256∨(256≤x∧x<65536)∨(65536≤x∧x<16777216)∨16777216≤x by omega)with h|⟨H,I⟩|⟨H,I⟩|h
 ·have F:=fun w=>Lib.run_index_len8tab (P:=Tryz.prog) w 9 .u8 (x) Tryz.underlying9 (by omega) (by omega)
  have d:=Lib.len8_eq ⟨(x).toNat,by omega⟩
  have l:=Lib.bitLen_le8 ⟨(x).toNat,by omega⟩
  have t:0≤Lib.len8 (x):=by simp only[Int.toNat_of_nonneg (show 0≤x by omega)]at d;rw[d];omega
  have z:Lib.len8 (x)≤8:=by simp only[Int.toNat_of_nonneg (show 0≤x by omega)]at d;rw[d];simp only at l;omega
  have D:Hid (Lib.len8 (x)=(Lib.bitLen (x).toNat:Int)):=by unfold Hid;simp only[Int.toNat_of_nonneg (show 0≤x by omega)]at d;exact d
  clear d l
  go_enter Tryz.func246,Tryz.ntmps246
  go_wp2
  go_ret
  refine⟨bj ?_,rfl⟩
  rw[D.out]
 ·have F:=fun w=>Lib.run_index_len8tab (P:=Tryz.prog) w 9 .u8 (x/256) Tryz.underlying9 (by omega) (by omega)
  have d:=Lib.len8_eq ⟨(x/256).toNat,by omega⟩
  have l:=Lib.bitLen_le8 ⟨(x/256).toNat,by omega⟩
  have t:0≤Lib.len8 (x/256):=by simp only[Int.toNat_of_nonneg (show 0≤x/256 by omega)]at d;rw[d];omega
  have z:Lib.len8 (x/256)≤8:=by simp only[Int.toNat_of_nonneg (show 0≤x/256 by omega)]at d;rw[d];simp only at l;omega
  have D:Hid (Lib.len8 (x/256)=(Lib.bitLen (x/256).toNat:Int)):=by unfold Hid;simp only[Int.toNat_of_nonneg (show 0≤x/256 by omega)]at d;exact d
  clear d l
  go_enter Tryz.func246,Tryz.ntmps246
  go_wp2
  go_ret
  refine⟨bj ?_,rfl⟩
  rw[D.out]
  have s:=Lib.bitLen_shift8 x.toNat (by omega) (by omega)
  rw[show(x/256).toNat=x.toNat/256 by omega]
  omega
 ·have F:=fun w=>Lib.run_index_len8tab (P:=Tryz.prog) w 9 .u8 (x/65536) Tryz.underlying9 (by omega) (by omega)
  have d:=Lib.len8_eq ⟨(x/65536).toNat,by omega⟩
  have l:=Lib.bitLen_le8 ⟨(x/65536).toNat,by omega⟩
  have t:0≤Lib.len8 (x/65536):=by simp only[Int.toNat_of_nonneg (show 0≤x/65536 by omega)]at d;rw[d];omega
  have z:Lib.len8 (x/65536)≤8:=by simp only[Int.toNat_of_nonneg (show 0≤x/65536 by omega)]at d;rw[d];simp only at l;omega
  have D:Hid (Lib.len8 (x/65536)=(Lib.bitLen (x/65536).toNat:Int)):=by unfold Hid;simp only[Int.toNat_of_nonneg (show 0≤x/65536 by omega)]at d;exact d
  clear d l
  go_enter Tryz.func246,Tryz.ntmps246
  go_wp2
  go_ret
  refine⟨bj ?_,rfl⟩
  rw[D.out]
  have s:=Lib.bitLen_shift16 x.toNat (by omega) (by omega)
  rw[show(x/65536).toNat=x.toNat/65536 by omega]
  omega
 ·have F:=fun w=>Lib.run_index_len8tab (P:=Tryz.prog) w 9 .u8 (x/65536/256) Tryz.underlying9 (by omega) (by omega)
  have d:=Lib.len8_eq ⟨(x/65536/256).toNat,by omega⟩
  have l:=Lib.bitLen_le8 ⟨(x/65536/256).toNat,by omega⟩
  have t:0≤Lib.len8 (x/65536/256):=by simp only[Int.toNat_of_nonneg (show 0≤x/65536/256 by omega)]at d;rw[d];omega
  have z:Lib.len8 (x/65536/256)≤8:=by simp only[Int.toNat_of_nonneg (show 0≤x/65536/256 by omega)]at d;rw[d];simp only at l;omega
  have D:Hid (Lib.len8 (x/65536/256)=(Lib.bitLen (x/65536/256).toNat:Int)):=by unfold Hid;simp only[Int.toNat_of_nonneg (show 0≤x/65536/256 by omega)]at d;exact d
  clear d l
  go_enter Tryz.func246,Tryz.ntmps246
  go_wp2
  go_ret
  refine⟨bj ?_,rfl⟩
  rw[D.out]
  have s:=Lib.bitLen_shift24 x.toNat (by omega) (by omega)
  rw[show(x/65536/256).toNat=x.toNat/16777216 by omega]
  omega
end Go.Proofs.YtmpkkhackbpflaaGreatDoor
