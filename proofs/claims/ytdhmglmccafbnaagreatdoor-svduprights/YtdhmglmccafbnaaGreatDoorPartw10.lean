/- Part 10 of the texts. -/
import Derived.Test.YtdhmglmccafbnaaGreatDoorPartw09
set_option maxHeartbeats 4000000
namespace Go.Proofs.YtdhmglmccafbnaaGreatDoor
open Go.RowKit
theorem rW:∀(t:Nat),0<t→t<4294967296→1≤Lib.bitLen t∧2^(Lib.bitLen t-1)≤t∧t<2^Lib.bitLen t:=by
 intro t
 induction t using Nat.strongRecOn with
 |ind t ih=>
  intro h l
  have d:=lL t h l
  by_cases f:t=1
  ·subst f;decide
  ·obtain⟨u,z,D⟩:=ih (t/2) (by omega) (by omega) (by omega)
   rw[d]
   refine⟨by omega,?_,?_⟩
   ·rw[show 1+Lib.bitLen (t/2)-1=(Lib.bitLen (t/2)-1)+1 by omega,Nat.pow_succ]
    omega
   ·rw[show 1+Lib.bitLen (t/2)=Lib.bitLen (t/2)+1 by omega,Nat.pow_succ]
    omega
def jr(L:List Nat):Nat:=if L.length=0 then 0 else 32*(L.length-1)+Lib.bitLen (L[L.length-1]?.getD 0)
theorem gP(L:List Nat):dw L=(jr L:Int):=by
 unfold dw jr
 by_cases h:L.length=0
 ·rw[if_pos h,if_pos h];rfl
 ·rw[if_neg h,if_neg h];omega
theorem gQ(L:List Nat)(l:aX L)(z:bG L)(u:L≠ []):1≤jr L∧2^(jr L-1)≤ai L∧ai L<2^jr L:=by
 have H:0<L.length:=List.length_pos_iff.2 u
 have J:L[L.length-1]?.getD 0≠0:=by
  rcases z with h|h
  ·exact absurd h u
  ·exact h
 have f:L[L.length-1]?.getD 0<4294967296:=by
  rw[List.getElem?_eq_getElem (by omega)]
  exact l _ (List.getElem_mem _)
 obtain⟨K,F,G⟩:=rW (L[L.length-1]?.getD 0) (by omega) f
 have d:=aD L (L.length-1)
 rw[show L.length-1+1=L.length by omega,List.take_length]at d
 have D:=gf L l (L.length-1)
 rw[show(4294967296:Nat)=2^32 by decide,←Nat.pow_mul]at D d
 unfold jr
 rw[if_neg (by omega)]
 generalize L[L.length-1]?.getD 0=t at*
 generalize Lib.bitLen t=b at*
 generalize ai (L.take (L.length-1))=r at*
 generalize M:32*(L.length-1)=k at*
 refine⟨by omega,?_,?_⟩
 ·rw[show k+b-1=k+(b-1) by omega,Nat.pow_add,d]
  have:2^k*2^(b-1)≤2^k*t:=Nat.mul_le_mul_left _ F
  omega
 ·rw[Nat.pow_add,d]
  have:2^k*(t+1)≤2^k*2^b:=Nat.mul_le_mul_left _ G
  rw[Nat.mul_add]at this
  omega
theorem vC(v n d k:Nat)(D:1≤n)(l:2^(n-1)≤v)(u:v<2^n):v*2^d<2^k↔n+d≤k:=by
 constructor
 ·intro h
  apply Nat.le_of_not_lt
  intro z
  have f:2^(n-1)*2^d≤v*2^d:=Nat.mul_le_mul_right _ l
  rw[←Nat.pow_add]at f
  have F:2^k≤2^(n-1+d):=Nat.pow_le_pow_right (by decide) (by omega)
  omega
 ·intro h
  have f:v*2^d<2^n*2^d:=Nat.mul_lt_mul_of_pos_right u (Nat.pow_pos (by decide))
  rw[←Nat.pow_add]at f
  exact Nat.lt_of_lt_of_le f (Nat.pow_le_pow_right (by decide) h)
theorem wS(n:Bool)(L:List Nat)(x l:Int):(up (ad n L) x l).natAbs=ai L*2^(x-l).toNat:=by
 unfold up
 rw[Int.natAbs_mul,aM,Int.natAbs_pow]
 rfl
theorem vD(n:Bool)(L:List Nat)(x l:Int)(f:aX L)(u:al n L=true)(z:L≠ [])(H:l≤x):eu (ad n L) x l=0↔(x-l≤16384∧dw L+x-l≤16384):=by
 obtain⟨D,F,G⟩:=gQ L f (au u).2.1 z
 have d:=vC (ai L) (jr L) (x-l).toNat (32*kN) D F G
 rw[←uj,←wS n L x l]at d
 have J:32*kN=16384:=rfl
 rw[gP]
 constructor
 ·intro h
  have:=d.1 (j7 h)
  omega
 ·intro h
  exact ib _ _ _ (d.2 (by omega)) h.1
def fA(b:Nat):Nat:=if fP b=0 then fF b else fF b+4503599627370496
def fM(b:Nat):Int:=sg (fS b) (fA b)
def fE(b:Nat):Int:=if fP b=0 then-1074 else(fP b:Int)-1075
theorem Fd(b:Nat):fA b<9007199254740992:=by unfold fA;have:=rF b;split<;>omega
theorem rX(b:Nat):(fM b).natAbs<9007199254740992:=by
 have:=Fd b
 unfold fM sg
 split<;>omega
theorem zi(b:Nat):-1074≤fE b∧fE b≤972:=by
 have:=mQ b
 unfold fE
 split<;>omega
theorem wT(b:Nat)(w:World):
  Calls Tryz.prog 235 #[fV b] w fun e w'=>e=.returned (.tuple #[.int .i64 (fM b),.int .i64 (fE b)])∧Below w.heap.size w w':=by
 unfold fV fM fE fA
 have D:=mQ b
 have F:=rF b
 generalize fF b=f at*
 generalize fP b=p at*
 generalize fS b=s at*
 have h:(0:Int)≤f:=by omega
 have l:(f:Int)<4503599627370496:=by omega
 have u:(p:Int)<2048:=by omega
 by_cases d:p=0
 ·subst d
  rw[if_pos rfl,if_pos rfl]
  cases s
  ·go_enter Tryz.func235,Tryz.ntmps235
   go_wp2
   exact bodyPost_ret (v:=.tuple #[.int .i64 f,.int .i64 (-1074)]) (by simp[results,Tryz.results235,go_sem]) rfl ⟨rfl,(Below.refl _ _).alloc (Nat.le_refl _) _⟩
  ·go_enter Tryz.func235,Tryz.ntmps235
   go_wp2
   exact bodyPost_ret (v:=.tuple #[.int .i64 (-f),.int .i64 (-1074)]) (by simp[results,Tryz.results235,go_sem]) rfl ⟨rfl,(Below.refl _ _).alloc (Nat.le_refl _) _⟩
 ·rw[if_neg d,if_neg d]
  have G:0<p:=by omega
  have H:decide (0<p)=true:=decide_eq_true G
  have J:IntKind.i64.wrap (f:Int)=(f:Int):=by simp only[IntKind.wrap_i64];omega
  have K:IntKind.i64.wrap (p:Int)=(p:Int):=by simp only[IntKind.wrap_i64];omega
  obtain⟨a,z⟩:∃a:Nat,a=f+4503599627370496:=⟨_,rfl⟩
  have L:IntKind.i64.wrap ((f:Int)+4503599627370496)=(a:Int):=by simp only[IntKind.wrap_i64];omega
  have M:IntKind.i64.wrap (-(a:Int))= -(a:Int):=by simp only[IntKind.wrap_i64];omega
  have N:IntKind.i64.wrap ((p:Int)-1)=(p:Int)-1:=by simp only[IntKind.wrap_i64];omega
  have O:IntKind.i64.wrap (-1074+((p:Int)-1))=(p:Int)-1075:=by simp only[IntKind.wrap_i64];omega
  rw[←z]
  clear d F D l u h z
  cases s
  ·go_enter Tryz.func235,Tryz.ntmps235
   go_wp2
   exact bodyPost_ret (v:=.tuple #[.int .i64 a,.int .i64 (p-1075)]) (by simp[results,Tryz.results235,go_sem]) rfl ⟨rfl,(Below.refl _ _).alloc (Nat.le_refl _) _⟩
  ·go_enter Tryz.func235,Tryz.ntmps235
   go_wp2
   exact bodyPost_ret (v:=.tuple #[.int .i64 (-a),.int .i64 (p-1075)]) (by simp[results,Tryz.results235,go_sem]) rfl ⟨rfl,(Below.refl _ _).alloc (Nat.le_refl _) _⟩
attribute [local go_sem ↓] Go.wp_at_zero Go.wp_at_succ
def kW(n m:Nat)(x y:Int):Int:=if n=0 then y else if m=0 then x else min x y
theorem FG{h l:Bool}{A B:List Nat}{x y:Int}(u:al h A=true)(z:al l B=true):kW A.length B.length x y=bF (ad h A) x (ad l B) y:=by
 unfold kW bF
 by_cases d:A.length=0
 ·rw[if_pos d,if_pos ((aE u).2 d)]
 ·rw[if_neg d,if_neg (fun e=>d ((aE u).1 e))]
  by_cases f:B.length=0
  ·rw[if_pos f,if_pos ((aE z).2 f)]
  ·rw[if_neg f,if_neg (fun e=>f ((aE z).1 e))]
theorem Do(G H:Bool)(J K:Option Addr)(L M n m:Nat)(x y:Int)(w:World):
  Calls Tryz.prog 73 #[.agg #[.bool G,.slice J n L,.int .i64 x],.agg #[.bool H,.slice K m M,.int .i64 y]] w fun r w'=>r=.returned (.int .i64 (kW n m x y))∧Below w.heap.size w w':=by
 have z:Below w.heap.size w ((w.alloc (.cells #[.bool G,.slice J n L,.int .i64 x] 41)).alloc (.cells #[.bool H,.slice K m M,.int .i64 y] 41)):=((Below.refl _ _).alloc (Nat.le_refl _) _).alloc (by simp) _
 have D:=aa z
 clear z
 by_cases h:n=0
 ·have d:kW n m x y=y:=by unfold kW;rw[if_pos h]
  rw[d]
  subst h
  clear d
  go_enter Tryz.func73,Tryz.ntmps73
  go_wp2
  go_ret
  exact⟨rfl,uH D⟩
 have N:((n:Int)==0)=false:=by rw[beq_eq_false_iff_ne];omega
 by_cases F:m=0
 ·have d:kW n m x y=x:=by unfold kW;rw[if_neg h,if_pos F]
  rw[d]
  subst F
  clear d h
  go_enter Tryz.func73,Tryz.ntmps73
  go_wp2
  go_ret
  exact⟨rfl,uH D⟩
 have O:((m:Int)==0)=false:=by rw[beq_eq_false_iff_ne];omega
 have u:=aa (show kW n m x y=min x y by unfold kW;rw[if_neg h,if_neg F])
 generalize kW n m x y=l at*
 clear h F
 rcases(show x<y∨x=y∨y<x by omega)with f|f|f
 ·have d:l=x:=by rw[uH u];omega
  subst d
  clear u
  go_enter Tryz.func73,Tryz.ntmps73
  go_wp2
  go_ret
  exact⟨rfl,uH D⟩
 ·have d:l=x:=by rw[uH u];omega
  subst f
  subst d
  clear u
  go_enter Tryz.func73,Tryz.ntmps73
  go_wp2
  go_ret
  exact⟨rfl,uH D⟩
 ·have d:l=y:=by rw[uH u];omega
  subst d
  clear u
  go_enter Tryz.func73,Tryz.ntmps73
  go_wp2
  go_ret
  exact⟨rfl,uH D⟩
theorem rY(n m:Nat)(x y:Int)(d:-16384≤x∧x≤16384)(f:-16384≤y∧y≤16384):-16384≤kW n m x y∧kW n m x y≤16384:=by
 unfold kW
 split
 ·omega
 ·split<;>omega
theorem pz(d:Bool)(u:Option Addr)(D:Nat)(A:List Nat)(x l:Int)(w:World)(hA:ag w u D A)(H:al d A=true)(h:A.length≠0→l≤x∧x-l≤16384)(hx:-16384≤x∧x≤16384)(hl:-16384≤l∧l≤16384):
  Calls Tryz.prog 75 #[.agg #[.bool d,.slice u A.length D,.int .i64 x],.int .i64 l] w fun r w'=>∃v,r=.returned v∧an 0 w' v (up (ad d A) x l)∧Below w.heap.size w w':=by
 have la:=(au H).1
 have M:=aa (show A.length=0→up (ad d A) x l=0∧d=false from fun f=>by
  refine⟨by rw[(aE H).2 f,fr],?_⟩
  cases d
  ·rfl
  ·exact absurd (List.length_eq_zero_iff.1 f) ((au H).2.2 rfl))
 have N:=aa (fun w' L (f:A.length≠0)=>show Calls Tryz.prog 131 #[.agg #[.bool d,.slice u A.length D],.int .i64 (x-l)] w' fun e J=>∃v,e=.returned v∧an 0 J v (up (ad d A) x l)∧Below w'.heap.size w' J by
  have:=qm d u D A (x-l) w' L H (by have:=h f;omega)
  rwa[rQ d A (x-l) (by have:=h f;omega)]at this)
 clear h H
 generalize up (ad d A) x l=z at*
 obtain⟨am,ap⟩:=hx
 obtain⟨ax,aI⟩:=hl
 have K:Below w.heap.size w ((w.alloc (.cells #[.bool d,.slice u A.length D,.int .i64 x] 41)).alloc (.cells #[.bool false,.slice none 0 0] 39)):=((Below.refl _ _).alloc (Nat.le_refl _) _).alloc (by simp) _
 have V:ay ((w.alloc (.cells #[.bool d,.slice u A.length D,.int .i64 x] 41)).alloc (.cells #[.bool false,.slice none 0 0] 39)) w.heap.size (.bool d) (.slice u A.length D) (.int .i64 x):=(ay.new _ _ _ _).old _
 have F:az ((w.alloc (.cells #[.bool d,.slice u A.length D,.int .i64 x] 41)).alloc (.cells #[.bool false,.slice none 0 0] 39)) (w.heap.size+1) (.bool false) (.slice none 0 0):=by
  have:=az.new (w.alloc (.cells #[.bool d,.slice u A.length D,.int .i64 x] 41)) (.bool false) (.slice none 0 0)
  simpa using this
 have O:=aa K;have X0:=aa V;have X2:=aa F
 clear K V F
 by_cases f:A.length=0
 ·obtain⟨rfl,rfl⟩:=uH M f
  have Q:A= []:=List.length_eq_zero_iff.1 f
  subst Q
  clear M N f
  go_enter Tryz.func75,Tryz.ntmps75
  go_wp2
  refine bodyPost_ret (v:=.agg #[.bool false,.slice u 0 D]) (by simp[results,Tryz.results75,go_sem]) rfl ⟨_,rfl,an.zero _ _ _ _,?_⟩
  exact((Below.refl w.heap.size w).alloc (Nat.le_refl _) _).alloc (by simp) _
 have ae:((A.length:Int)==0)=false:=by rw[beq_eq_false_iff_ne];omega
 have U:=aa (fun w' L=>uH N w' L f)
 clear M N f
 go_enter Tryz.func75,Tryz.ntmps75
 go_wp2_with fail
 refine(uH U _ (hA.below (uH O))).mono ?_
 rintro r w2 ⟨v,rfl,⟨Z,a3,c3,L3,rfl,i3⟩,G⟩
 have F:=(uH X2).all G
 have X:=(uH O).trans (G.mono (uH O).size)
 have y0:=F.c0;have y1:=F.c1;have f0:=F.free 0;have f1:=F.free 1
 have X3:=aa F;have B2:=aa X;have Y:=aa i3
 clear F X G i3
 go_wp2
 refine bodyPost_ret (v:=.agg #[.bool Z,.slice a3 L3.length c3]) (by simp[results,Tryz.results75,go_sem,y0,y1]) rfl ⟨_,rfl,⟨Z,a3,c3,L3,rfl,(uH Y).1.box (uH X3) _ _,(uH Y).2⟩,bN (uH B2) (by omega) _ _⟩
theorem zj(d:Bool)(f:Option Addr)(l:Nat)(A:List Nat)(x:Int)(w:World)(hA:ag w f l A)(la:A.length≤512):
  Calls Tryz.prog 115 #[.agg #[.bool d,.slice f A.length l,.int .i64 x]] w fun r w'=>∃v,r=.returned v∧aC w' v (-ad d A) x∧Below w.heap.size w w':=by
 have CN:=aa (fun w' h=>mX d f l A w' h (by omega))
 generalize-ad d A=z at*
 have J:Below w.heap.size w ((w.alloc (.cells #[.bool d,.slice f A.length l,.int .i64 x] 41)).alloc (.cells #[.bool false,.slice none 0 0,.int .i64 0] 41)):=((Below.refl _ _).alloc (Nat.le_refl _) _).alloc (by simp) _
 have D:ay ((w.alloc (.cells #[.bool d,.slice f A.length l,.int .i64 x] 41)).alloc (.cells #[.bool false,.slice none 0 0,.int .i64 0] 41)) w.heap.size (.bool d) (.slice f A.length l) (.int .i64 x):=(ay.new _ _ _ _).old _
 have H:ay ((w.alloc (.cells #[.bool d,.slice f A.length l,.int .i64 x] 41)).alloc (.cells #[.bool false,.slice none 0 0,.int .i64 0] 41)) (w.heap.size+1) (.bool false) (.slice none 0 0) (.int .i64 0):=by
  have:=ay.new (w.alloc (.cells #[.bool d,.slice f A.length l,.int .i64 x] 41)) (.bool false) (.slice none 0 0) (.int .i64 0)
  simpa using this
 have Z:=aa J;have X0:=aa D;have U:=aa H
 clear J D H
 go_enter Tryz.func115,Tryz.ntmps115
 go_wp2_with fail
 refine aj (fun W=>Below w.heap.size w W∧ay W w.heap.size (.bool d) (.slice f A.length l) (.int .i64 x)∧ay W (w.heap.size+1) (.bool false) (.slice none 0 0) (.int .i64 0)) ⟨uH Z,uH X0,uH U⟩ ?_
 clear Z X0 U
 rintro L ⟨b0,D,H⟩
 have s0:w.heap.size+1<L.heap.size:=H.lt
 have hK:∀w',Below (w.heap.size+1) L w'→Below (w.heap.size+1) L w'∧w'.cell? ⟨w.heap.size,0,none⟩=some (.bool d)∧w'.cell? ⟨w.heap.size,1,none⟩=some (.slice f A.length l)∧w'.cell? ⟨w.heap.size,2,none⟩=some (.int .i64 x):=fun w' h=>
  ⟨h,(D.below h (by omega)).c0,(D.below h (by omega)).c1,(D.below h (by omega)).c2⟩
 have V:=aa hK;have BB:=aa b0;have U:=aa H
 clear hK b0 D H
 go_region_held3(fun w'=>Below (w.heap.size+1) L w'∧w'.cell? ⟨w.heap.size,0,none⟩=some (.bool d)∧w'.cell? ⟨w.heap.size,1,none⟩=some (.slice f A.length l)∧w'.cell? ⟨w.heap.size,2,none⟩=some (.int .i64 x))
  (first|exact uH V _ (Below.refl _ _).drew|exact uH V _ (by assumption)|exact uH V _ (aK K (by omega) _ _ _))
  (first|(go_at_call 119;refine(uH CN _ (hA.below ((uH BB).trans ((Below.refl _ _).drew)))).mono ?_;rintro e Y ⟨v,rfl,⟨M,N,O,Q,rfl,F⟩,G⟩;have K:Below (w.heap.size+1) L Y:=((Below.refl _ _).drew).trans (G.mono (by simp;omega));have u:=((uH U).drew.below G (by simp;omega));have IZ:=aa (show an 0 Y (.agg #[.bool M,.slice N Q.length O]) z from⟨M,N,O,Q,rfl,F.1,F.2.1,F.2.2.1,F.2.2.2.1,F.2.2.2.2.1,by have:=F.2.2.2.2.2;omega⟩);have y0:=u.c0;have y1:=u.c1;have y2:=u.c2;have f0:=u.free 0;have f1:=u.free 1;have f2:=u.free 2;have X5:=aa u;have X:=aa ((uH BB).trans (K.mono (by omega)));clear G F u))
 go_wp2
 have j2:aC Y (.agg #[.bool M,.slice N Q.length O,.int .i64 x]) z x:=⟨M,N,O,Q,rfl,uH IZ⟩
 refine bodyPost_ret (v:=.agg #[.bool M,.slice N Q.length O,.int .i64 x]) (by simp[results,Tryz.results115,go_sem,y0,y1,y2]) rfl ⟨_,rfl,j2.put3 (uH X5) _ _ _,aK (uH X) (by omega) _ _ _⟩
theorem uk{B d:Nat}{w:World}{v u:Value}{x y:Int}(f:an B w v x)(h:an d w u y)(l:x.natAbs<dt)(z:y.natAbs<dt):
  Calls Tryz.prog 74 #[v,u] w fun e w'=>∃r,e=.returned r∧aB 513 w.heap.size w' r (x+y)∧Below w.heap.size w w':=by
 obtain⟨H,J,K,A,rfl,L,X,M,Y⟩:=f.right l
 obtain⟨N,O,Q,C,rfl,U,Z,V,b4⟩:=h.right z
 have:=t7 H N J O K Q A C w L U (by omega) (by omega)
 rw[M,V]at this
 exact this.mono fun e w' ⟨r,D,F,G⟩=>⟨r,D,F.more (by omega),G⟩
theorem zk{s x l:Int}(h:eu s x l=0):x-l≤16384:=by
 unfold eu at h
 by_cases d:(up s x l).natAbs<dt∧x-l≤16384
 ·exact d.2
 ·rw[if_neg d]at h;exact absurd h (by decide)
theorem zl(d f:Bool)(F G:Option Addr)(H J:Nat)(A B:List Nat)(x y:Int)(w:World)(hA:ag w F H A)(hB:ag w G J B)(ra:al d A=true)(rb:al f B=true)(hx:-16384≤x∧x≤16384)(hy:-16384≤y∧y≤16384)(e1:eu (ad d A) x (bF (ad d A) x (ad f B) y)=0)(e2:eu (ad f B) y (bF (ad d A) x (ad f B) y)=0):
  Calls Tryz.prog 26 #[.agg #[.bool d,.slice F A.length H,.int .i64 x],.agg #[.bool f,.slice G B.length J,.int .i64 y]] w fun r w'=>∃v,r=.returned v∧aC w' v (oM (dK (ad d A) x (ad f B) y)) (oE (dK (ad d A) x (ad f B) y) (bF (ad d A) x (ad f B) y))∧Below w.heap.size w w':=by
 have CL:=aa (fun w'=>Do d f F G H J A.length B.length x y w')
 have O:=rY A.length B.length x y hx hy
 rw[FG ra rb]at CL O
 have g1:A.length≠0→bF (ad d A) x (ad f B) y≤x:=fun h=>by
  unfold bF
  rw[if_neg (fun e=>h ((aE ra).1 e))]
  split<;>omega
 have g2:B.length≠0→bF (ad d A) x (ad f B) y≤y:=fun h=>by
  unfold bF
  split
  ·omega
  ·rw[if_neg (fun e=>h ((aE rb).1 e))];omega
 obtain⟨z,hz⟩:∃z,dK (ad d A) x (ad f B) y=z:=⟨_,rfl⟩
 have Z:z=up (ad d A) x (bF (ad d A) x (ad f B) y)+up (ad f B) y (bF (ad d A) x (ad f B) y):=by rw[←hz];rfl
 rw[hz]
 clear hz
 generalize bF (ad d A) x (ad f B) y=l at*
 have a6:=aa (fun w' h=>pz d F H A x l w' h ra (fun h0=>⟨g1 h0,zk e1⟩) hx O)
 have a7:=aa (fun w' h=>pz f G J B y l w' h rb (fun h0=>⟨g2 h0,zk e2⟩) hy O)
 have ae:=aa (fun w' u v (Y:an 0 w' u (up (ad d A) x l)) (iv:an 0 w' v (up (ad f B) y l))=>uk Y iv (j7 e1) (j7 e2))
 rw[←Z]at ae
 have CO:=aa (fun w' u B' (Y:aB 513 B' w' u z)=>gO l Y (by decide) (by omega))
 clear ra rb e1 e2 Z g1 g2 hx hy
 generalize oE z l=ox at*
 generalize oM z=om at*
 generalize up (ad d A) x l=za at*
 generalize up (ad f B) y l=zb at*
 obtain⟨bn,bq⟩:=O
 have am:Below w.heap.size w (((w.alloc (.cells #[.bool d,.slice F A.length H,.int .i64 x] 41)).alloc (.cells #[.bool f,.slice G B.length J,.int .i64 y] 41)).alloc (.cells #[.bool false,.slice none 0 0,.int .i64 0] 41)):=
  (((Below.refl _ _).alloc (Nat.le_refl _) _).alloc (by simp) _).alloc (by simp;omega) _
 have M:ay (((w.alloc (.cells #[.bool d,.slice F A.length H,.int .i64 x] 41)).alloc (.cells #[.bool f,.slice G B.length J,.int .i64 y] 41)).alloc (.cells #[.bool false,.slice none 0 0,.int .i64 0] 41)) w.heap.size (.bool d) (.slice F A.length H) (.int .i64 x):=((ay.new _ _ _ _).old _).old _
 have N:ay (((w.alloc (.cells #[.bool d,.slice F A.length H,.int .i64 x] 41)).alloc (.cells #[.bool f,.slice G B.length J,.int .i64 y] 41)).alloc (.cells #[.bool false,.slice none 0 0,.int .i64 0] 41)) (w.heap.size+1) (.bool f) (.slice G B.length J) (.int .i64 y):=by
  have:=(ay.new (w.alloc (.cells #[.bool d,.slice F A.length H,.int .i64 x] 41)) (.bool f) (.slice G B.length J) (.int .i64 y)).old (.cells #[.bool false,.slice none 0 0,.int .i64 0] 41)
  simpa using this
 have Q:ay (((w.alloc (.cells #[.bool d,.slice F A.length H,.int .i64 x] 41)).alloc (.cells #[.bool f,.slice G B.length J,.int .i64 y] 41)).alloc (.cells #[.bool false,.slice none 0 0,.int .i64 0] 41)) (w.heap.size+1+1) (.bool false) (.slice none 0 0) (.int .i64 0):=by
  have:=ay.new ((w.alloc (.cells #[.bool d,.slice F A.length H,.int .i64 x] 41)).alloc (.cells #[.bool f,.slice G B.length J,.int .i64 y] 41)) (.bool false) (.slice none 0 0) (.int .i64 0)
  simpa using this
 have B0:=aa am;have X0:=aa M;have X1:=aa N;have X2:=aa Q
 clear am M N Q
 go_enter Tryz.func26,Tryz.ntmps26
 go_wp2_with fail
 refine(uH CL _).mono ?_
 rintro r w1 ⟨rfl,D⟩
 have M:=(uH X0).all D;have N:=(uH X1).all D;have Q:=(uH X2).all D
 have b1:=(uH B0).trans (D.mono (uH B0).size)
 have ap:=aa M;have ax:=aa N;have aI:=aa Q;have B1:=aa b1
 clear D M N Q b1 X0 X1 X2 B0 CL
 go_wp2_with fail
 refine aj (fun W=>Below w.heap.size w W∧ay W w.heap.size (.bool d) (.slice F A.length H) (.int .i64 x)∧ay W (w.heap.size+1) (.bool f) (.slice G B.length J) (.int .i64 y)∧ay W (w.heap.size+1+1) (.bool false) (.slice none 0 0) (.int .i64 0)) ⟨uH B1,uH ap,uH ax,uH aI⟩ ?_
 clear B1 ap ax aI
 rintro X ⟨b0,M,N,Q⟩
 have s0:w.heap.size+1+1<X.heap.size:=Q.lt
 have hK:∀w',Below (w.heap.size+1+1) X w'→Below (w.heap.size+1+1) X w'∧w'.cell? ⟨w.heap.size,0,none⟩=some (.bool d)∧w'.cell? ⟨w.heap.size,1,none⟩=some (.slice F A.length H)∧w'.cell? ⟨w.heap.size,2,none⟩=some (.int .i64 x)∧w'.cell? ⟨w.heap.size+1,0,none⟩=some (.bool f)∧w'.cell? ⟨w.heap.size+1,1,none⟩=some (.slice G B.length J)∧w'.cell? ⟨w.heap.size+1,2,none⟩=some (.int .i64 y):=fun w' h=>
  ⟨h,(M.below h (by omega)).c0,(M.below h (by omega)).c1,(M.below h (by omega)).c2,(N.below h (by omega)).c0,(N.below h (by omega)).c1,(N.below h (by omega)).c2⟩
 have HK:=aa hK;have BB:=aa b0;have X2:=aa Q
 clear hK b0 M N Q
 go_region_held3(fun w'=>Below (w.heap.size+1+1) X w'∧w'.cell? ⟨w.heap.size,0,none⟩=some (.bool d)∧w'.cell? ⟨w.heap.size,1,none⟩=some (.slice F A.length H)∧w'.cell? ⟨w.heap.size,2,none⟩=some (.int .i64 x)∧w'.cell? ⟨w.heap.size+1,0,none⟩=some (.bool f)∧w'.cell? ⟨w.heap.size+1,1,none⟩=some (.slice G B.length J)∧w'.cell? ⟨w.heap.size+1,2,none⟩=some (.int .i64 y))
  (first|exact uH HK _ (Below.refl _ _).drew|exact uH HK _ (by assumption)|exact uH HK _ (aK bi (by omega) _ _ _))
  (first|(go_at_call_of 75 (Value.agg #[.bool d,.slice F A.length H,.int .i64 x]);refine(uH a6 _ (hA.below ((uH BB).trans ((Below.refl _ _).drew)))).mono ?_;rintro e w3 ⟨v,rfl,⟨n1,a1,c1,L1,rfl,i1⟩,D⟩;have a0:Below (w.heap.size+1+1) X w3:=((Below.refl _ _).drew).trans (D.mono (by simp;omega));have X3:=aa ((uH X2).drew.below D (by simp;omega));have IA:=aa (show an 0 w3 (.agg #[.bool n1,.slice a1 L1.length c1]) za from⟨n1,a1,c1,L1,rfl,i1⟩);have s1:w.heap.size+1+1<w3.heap.size:=(by have:=D.size;simp at this;omega);have a4:=aa ((uH BB).trans (a0.mono (by omega)));clear D i1)|(go_at_call_of 75 (Value.agg #[.bool f,.slice G B.length J,.int .i64 y]);refine(uH a7 _ (hB.below (uH a4))).mono ?_;rintro e w4 ⟨v,rfl,⟨n2,a2,c2,L2,rfl,i2⟩,K⟩;have a9:Below (w.heap.size+1+1) X w4:=a0.trans (K.mono (by omega));have X4:=aa ((uH X3).below K (by omega));have ba:=aa ((uH IA).below K);have IB:=aa (show an 0 w4 (.agg #[.bool n2,.slice a2 L2.length c2]) zb from⟨n2,a2,c2,L2,rfl,i2⟩);have s2:w.heap.size+1+1<w4.heap.size:=(by have:=K.size;omega);have bb:=aa ((uH a4).trans (K.mono (by omega)));clear K i2)|(go_at_call 74;refine(uH ae _ _ _ (uH ba) (uH IB)).mono ?_;rintro e w5 ⟨v,rfl,⟨n3,a3,c3,L3,rfl,i3⟩,L⟩;have be:Below (w.heap.size+1+1) X w5:=a9.trans (L.mono (by omega));have X5:=aa ((uH X4).below L (by omega));have IZ:=aa (show aB 513 w4.heap.size w5 (.agg #[.bool n3,.slice a3 L3.length c3]) z from⟨n3,a3,c3,L3,rfl,i3⟩);have s3:w.heap.size+1+1<w5.heap.size:=(by have:=L.size;omega);have bg:=aa ((uH bb).trans (L.mono (by omega)));clear L i3)|(go_at_call 45;refine(uH CO _ _ _ (uH IZ)).mono ?_;rintro e w6 ⟨u,rfl,Y,U⟩;obtain⟨n5,a5,c5,L5,rfl,i5⟩:=Y.num;have bi:Below (w.heap.size+1+1) X w6:=be.trans (U.mono (by omega));have V:=(uH X5).below U (by omega);have y0:=V.c0;have y1:=V.c1;have y2:=V.c2;have f0:=V.free 0;have f1:=V.free 1;have f2:=V.free 2;have IU:=aa Y;have X7:=aa V;have bm:=aa ((uH bg).trans (U.mono (by omega)));clear U Y i5 V))
 go_wp2
 refine bodyPost_ret (v:=.agg #[.bool n5,.slice a5 L5.length c5,.int .i64 ox]) (by simp[results,Tryz.results26,go_sem,y0,y1,y2]) rfl ⟨_,rfl,(uH IU).put3 (uH X7) _ _ _,aK (uH bm) (by omega) _ _ _⟩
theorem zm(f d:Bool)(l D:Option Addr)(z F:Nat)(A B:List Nat)(x y:Int)(w:World)(hA:ag w l z A)(hB:ag w D F B)(ra:al f A=true)(Z:al d B=true)(hx:-16384≤x∧x≤16384)(hy:-16384≤y∧y≤16384)(e1:eu (ad f A) x (bF (ad f A) x (-ad d B) y)=0)(e2:eu (-ad d B) y (bF (ad f A) x (-ad d B) y)=0):
  Calls Tryz.prog 64 #[.agg #[.bool f,.slice l A.length z,.int .i64 x],.agg #[.bool d,.slice D B.length F,.int .i64 y]] w fun r w'=>∃v,r=.returned v∧aC w' v (oM (dK (ad f A) x (-ad d B) y)) (oE (dK (ad f A) x (-ad d B) y) (bF (ad f A) x (-ad d B) y))∧Below w.heap.size w w':=by
 have lb:=(au Z).1
 have tb:=nh hB Z
 have CN:=aa (fun w' h=>zj d D F B y w' h lb)
 have ae:=aa (fun w' u (h:ag w' l z A) (O:aC w' u (-ad d B) y)=>show Calls Tryz.prog 26 #[.agg #[.bool f,.slice l A.length z,.int .i64 x],u] w' fun r Q=>∃v,r=.returned v∧aC Q v (oM (dK (ad f A) x (-ad d B) y)) (oE (dK (ad f A) x (-ad d B) y) (bF (ad f A) x (-ad d B) y))∧Below w'.heap.size w' Q by
  obtain⟨n1,a1,c1,L1,rfl,q1,q2,q3,q4,q5⟩:=O.right (by rw[Int.natAbs_neg];exact tb)
  have:=zl f n1 l a1 z c1 A L1 x y w' h q1 ra q2 hx hy (by rw[q3];exact e1) (by rw[q3];exact e2)
  rwa[q3]at this)
 clear ra Z hx hy e1 e2 tb
 generalize oE (dK (ad f A) x (-ad d B) y) (bF (ad f A) x (-ad d B) y)=ox at*
 generalize oM (dK (ad f A) x (-ad d B) y)=om at*
 generalize-ad d B=sb at*
 have U:Below w.heap.size w (((w.alloc (.cells #[.bool f,.slice l A.length z,.int .i64 x] 41)).alloc (.cells #[.bool d,.slice D B.length F,.int .i64 y] 41)).alloc (.cells #[.bool false,.slice none 0 0,.int .i64 0] 41)):=
  (((Below.refl _ _).alloc (Nat.le_refl _) _).alloc (by simp) _).alloc (by simp;omega) _
 have K:ay (((w.alloc (.cells #[.bool f,.slice l A.length z,.int .i64 x] 41)).alloc (.cells #[.bool d,.slice D B.length F,.int .i64 y] 41)).alloc (.cells #[.bool false,.slice none 0 0,.int .i64 0] 41)) w.heap.size (.bool f) (.slice l A.length z) (.int .i64 x):=((ay.new _ _ _ _).old _).old _
 have L:ay (((w.alloc (.cells #[.bool f,.slice l A.length z,.int .i64 x] 41)).alloc (.cells #[.bool d,.slice D B.length F,.int .i64 y] 41)).alloc (.cells #[.bool false,.slice none 0 0,.int .i64 0] 41)) (w.heap.size+1) (.bool d) (.slice D B.length F) (.int .i64 y):=by
  have:=(ay.new (w.alloc (.cells #[.bool f,.slice l A.length z,.int .i64 x] 41)) (.bool d) (.slice D B.length F) (.int .i64 y)).old (.cells #[.bool false,.slice none 0 0,.int .i64 0] 41)
  simpa using this
 have M:ay (((w.alloc (.cells #[.bool f,.slice l A.length z,.int .i64 x] 41)).alloc (.cells #[.bool d,.slice D B.length F,.int .i64 y] 41)).alloc (.cells #[.bool false,.slice none 0 0,.int .i64 0] 41)) (w.heap.size+1+1) (.bool false) (.slice none 0 0) (.int .i64 0):=by
  have:=ay.new ((w.alloc (.cells #[.bool f,.slice l A.length z,.int .i64 x] 41)).alloc (.cells #[.bool d,.slice D B.length F,.int .i64 y] 41)) (.bool false) (.slice none 0 0) (.int .i64 0)
  simpa using this
 have B0:=aa U;have X0:=aa K;have X1:=aa L;have Y:=aa M
 clear U K L M
 go_enter Tryz.func64,Tryz.ntmps64
 go_wp2_with fail
 refine aj (fun W=>Below w.heap.size w W∧ay W w.heap.size (.bool f) (.slice l A.length z) (.int .i64 x)∧ay W (w.heap.size+1) (.bool d) (.slice D B.length F) (.int .i64 y)∧ay W (w.heap.size+1+1) (.bool false) (.slice none 0 0) (.int .i64 0)) ⟨uH B0,uH X0,uH X1,uH Y⟩ ?_
 clear B0 X0 X1 Y
 rintro N ⟨b0,K,L,M⟩
 have s0:w.heap.size+1+1<N.heap.size:=M.lt
 have hK:∀w',Below (w.heap.size+1+1) N w'→Below (w.heap.size+1+1) N w'∧w'.cell? ⟨w.heap.size,0,none⟩=some (.bool f)∧w'.cell? ⟨w.heap.size,1,none⟩=some (.slice l A.length z)∧w'.cell? ⟨w.heap.size,2,none⟩=some (.int .i64 x)∧w'.cell? ⟨w.heap.size+1,0,none⟩=some (.bool d)∧w'.cell? ⟨w.heap.size+1,1,none⟩=some (.slice D B.length F)∧w'.cell? ⟨w.heap.size+1,2,none⟩=some (.int .i64 y):=fun w' h=>
  ⟨h,(K.below h (by omega)).c0,(K.below h (by omega)).c1,(K.below h (by omega)).c2,(L.below h (by omega)).c0,(L.below h (by omega)).c1,(L.below h (by omega)).c2⟩
 have HK:=aa hK;have BB:=aa b0;have Y:=aa M
 clear hK b0 K L M
 go_region_held3(fun w'=>Below (w.heap.size+1+1) N w'∧w'.cell? ⟨w.heap.size,0,none⟩=some (.bool f)∧w'.cell? ⟨w.heap.size,1,none⟩=some (.slice l A.length z)∧w'.cell? ⟨w.heap.size,2,none⟩=some (.int .i64 x)∧w'.cell? ⟨w.heap.size+1,0,none⟩=some (.bool d)∧w'.cell? ⟨w.heap.size+1,1,none⟩=some (.slice D B.length F)∧w'.cell? ⟨w.heap.size+1,2,none⟩=some (.int .i64 y))
  (first|exact uH HK _ (Below.refl _ _).drew|exact uH HK _ (by assumption)|exact uH HK _ (aK am (by omega) _ _ _))
  (first|(go_at_call 115;refine(uH CN _ (hB.below ((uH BB).trans ((Below.refl _ _).drew)))).mono ?_;rintro e w3 ⟨v,rfl,iv,G⟩;obtain⟨n1,a1,c1,L1,rfl,i1⟩:=iv.num;have V:Below (w.heap.size+1+1) N w3:=((Below.refl _ _).drew).trans (G.mono (by simp;omega));have X3:=aa ((uH Y).drew.below G (by simp;omega));have IN:=aa iv;have s1:w.heap.size+1+1<w3.heap.size:=(by have:=G.size;simp at this;omega);have X:=aa ((uH BB).trans (V.mono (by omega)));clear G i1 iv)|(go_at_call 26;refine(uH ae _ _ (hA.below (uH X)) (uH IN)).mono ?_;rintro e w6 ⟨u,rfl,O,H⟩;obtain⟨n5,a5,c5,L5,rfl,i5⟩:=O.num;have am:Below (w.heap.size+1+1) N w6:=V.trans (H.mono (by omega));have J:=(uH X3).below H (by omega);have y0:=J.c0;have y1:=J.c1;have y2:=J.c2;have f0:=J.free 0;have f1:=J.free 1;have f2:=J.free 2;have IU:=aa O;have X7:=aa J;have ap:=aa ((uH X).trans (H.mono (by omega)));clear H O i5 J))
 go_wp2
 refine bodyPost_ret (v:=.agg #[.bool n5,.slice a5 L5.length c5,.int .i64 ox]) (by simp[results,Tryz.results64,go_sem,y0,y1,y2]) rfl ⟨_,rfl,(uH IU).put3 (uH X7) _ _ _,aK (uH ap) (by omega) _ _ _⟩
end Go.Proofs.YtdhmglmccafbnaaGreatDoor
namespace Go.Proofs.YtdhmglmccafbnaaGreatDoor
open Go.RowKit
theorem zn(s x l:Int):up (-s) x l= -up s x l:=by unfold up;rw[Int.neg_mul]
theorem Dp(s x l:Int):eu (-s) x l=eu s x l:=by unfold eu;rw[zn,Int.natAbs_neg]
theorem nl(f x d y:Int):bF f x (-d) y=bF f x d y:=by
 unfold bF
 by_cases h:d=0
 ·subst h;rfl
 ·rw[if_neg h,if_neg (show¬-d=0 by omega)]
attribute [local go_sem ↓] Go.wp_at_zero Go.wp_at_succ
theorem Dq{d x f y:Int}(h:eu d x (bF d x f y)=0)(l:eu f y (bF d x f y)=0)(u:(dK d x f y).natAbs<dt):
  rT d x f y=cK (dK d x f y) (bF d x f y)∧rU d x f y=dM (dK d x f y) (bF d x f y)∧rV d x f y=dX (dK d x f y) (bF d x f y):=by
 have z:j6 d x f y=true:=decide_eq_true ⟨h,l,u⟩
 unfold rT rU rV
 rw[z]
 exact⟨rfl,rfl,rfl⟩
end Go.Proofs.YtdhmglmccafbnaaGreatDoor
