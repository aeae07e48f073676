/- Part 17 of the texts. -/
import Derived.Test.YtdhmglmccafbnaaGreatDoorPartw16
set_option maxHeartbeats 8000000
set_option maxRecDepth 20000
namespace Go.Proofs.YtdhmglmccafbnaaGreatDoor
open Go.RowKit
theorem Aj(a:Nat)(k:Int)(f:Bool)(w:World)(D:f=false∨(f=true∧k=0))
  (h:∀w',Calls Tryz.prog 85 #[.int .u64 a] w' fun r d=>r=.returned (.bool f)∧w'=d)
  (l:∀w',Calls Tryz.prog 106 #[.int .u64 a] w' fun r d=>r=.returned (.int .i64 k)∧w'=d):
  Calls Tryz.prog 90 #[.int .u64 a] w fun r w'=>r=.returned (.int .i64 0)∧Below w.heap.size w w':=by
 have u:=aa h;have F:=aa l
 clear h l
 rcases D with rfl|⟨rfl,rfl⟩
 ·go_enter Tryz.func90,Tryz.ntmps90
  go_wp2_with fail
  refine(uH u _).mono ?_
  rintro e z ⟨rfl,rfl⟩
  go_wp2
  go_ret
  exact⟨rfl,Below.refl _ _⟩
 ·go_enter Tryz.func90,Tryz.ntmps90
  go_wp2_with fail
  refine(uH u _).mono ?_
  rintro e z ⟨rfl,rfl⟩
  go_wp2_with fail
  refine(uH F _).mono ?_
  rintro e z ⟨rfl,rfl⟩
  go_wp2
  go_ret
  exact⟨rfl,Below.refl _ _⟩
theorem Ak(a:Nat)(k D X t:Int)(w:World)(h0:(k==0)=false)(ht:-2000≤t∧t≤2000)
  (F:∀w',Calls Tryz.prog 85 #[.int .u64 a] w' fun r d=>r=.returned (.bool true)∧w'=d)
  (G:∀w',Calls Tryz.prog 106 #[.int .u64 a] w' fun r d=>r=.returned (.int .i64 k)∧w'=d)
  (H:∀w',Calls Tryz.prog 65 #[.int .u64 a] w' fun r d=>∃u,r=.returned u∧aC d u D X∧Below w'.heap.size w' d)
  (J:∀w' v,aC w' v D X→Calls Tryz.prog 105 #[v] w' fun r d=>r=.returned (.int .i64 t)∧Below w'.heap.size w' d):
  Calls Tryz.prog 90 #[.int .u64 a] w fun r w'=>r=.returned (.int .i64 (t-1))∧Below w.heap.size w w':=by
 have K:=aa F;have L:=aa G;have M:=aa H;have N:=aa J
 clear F G H J
 have hw:=aW (t-1) (by omega)
 go_enter Tryz.func90,Tryz.ntmps90
 go_wp2_with fail
 refine(uH K _).mono ?_
 rintro e z ⟨rfl,rfl⟩
 go_wp2_with fail
 refine(uH L _).mono ?_
 rintro e z ⟨rfl,rfl⟩
 go_wp2_with fail
 refine(uH M _).mono ?_
 rintro e z ⟨v,rfl,hv,f⟩
 obtain⟨Q,U,V,l,rfl,Y⟩:=hv
 have O:=aa (show aC z (.agg #[.bool Q,.slice U l.length V,.int .i64 X]) D X from⟨Q,U,V,l,rfl,Y⟩)
 have h:=aa f
 clear Y f K L M
 generalize l.length=l1 at*
 go_wp2_with fail
 refine(uH N _ _ (uH O)).mono ?_
 rintro e w2 ⟨rfl,f⟩
 have Z:=aa ((uH h).trans (f.mono (uH h).size))
 clear f h O N
 go_wp2
 go_ret
 exact⟨rfl,uH Z⟩
theorem Ib{w:World}{v:Value}{D X:Int}(d:aC w v D X)(K:D%2=1)(L:D.natAbs<9007199254740992)(M:-1074≤X∧X≤1024):
  Calls Tryz.prog 105 #[v] w fun r w'=>r=.returned (.int .i64 ((bl D.natAbs:Int)+X))∧Below w.heap.size w w':=by
 obtain⟨F,G,H,A,rfl,f,l,J,N,O⟩:=d.right (cS _ (by omega))
 have:=ng F G H A X w f (by omega) (by omega)
 have d:ai A=D.natAbs:=by rw[←J,aM]
 have u:=ig f.2.1 l
 have z:A.length≠0:=fun h=>by
  have:=(aE l).2 h
  omega
 unfold gy at this
 rw[if_neg z,u,d]at this
 exact this
theorem pL(a:Nat)(w:World)(d:a<18446744073709551616):
  Calls Tryz.prog 90 #[.int .u64 a] w fun r w'=>r=.returned (.int .i64 (eX a))∧Below w.heap.size w w':=by
 have f:=fun w'=>gi a w' d
 have u:=fun w'=>ja a w' d
 unfold eX
 by_cases h:fK a=4∨fK a=3∨fK a=0
 ·rw[if_pos h]
  refine Aj a _ _ w ?_ f u
  rcases eT a with⟨l,_⟩|⟨l,N⟩
  ·exact .inl l
  ·exact .inr ⟨l,by omega⟩
 ·rw[if_neg h]
  have z:=aY a (by omega) (by omega)
  obtain⟨z1,z2,F,G,H,J,K,L,M⟩:=f8 a d z (by omega)
  rw[z]at f
  exact Ak a _ (fD a) (fX a) _ w (by simp;omega) (by omega) f u (fun w'=>jD a w' d) (fun w' v D=>Ib D z1 z2 (by omega))
def eN(b:Nat):Int:=if aA b=true then 0 else if fS b=true then-1 else 1
theorem DZ(b:Nat)(f s:Bool)(w:World)
  (u:∀w',Calls Tryz.prog 85 #[.int .u64 b] w' fun r d=>r=.returned (.bool f)∧w'=d)
  (z:∀w',Calls Tryz.prog 118 #[.int .u64 b] w' fun r d=>r=.returned (.bool s)∧w'=d):
  Calls Tryz.prog 107 #[.int .u64 b] w fun e w'=>e=.returned (.int .i64 (if f=true then 0 else if s=true then-1 else 1))∧w=w':=by
 have l:=aa u;have D:=aa z
 clear u z
 cases f
 ·cases s
  ·go_enter Tryz.func107,Tryz.ntmps107
   go_wp2_with fail
   refine(uH l _).mono ?_
   rintro e h ⟨rfl,rfl⟩
   go_wp2_with fail
   refine(uH D _).mono ?_
   rintro e h ⟨rfl,rfl⟩
   go_wp2
   go_ret
   exact⟨rfl,rfl⟩
  ·go_enter Tryz.func107,Tryz.ntmps107
   go_wp2_with fail
   refine(uH l _).mono ?_
   rintro e h ⟨rfl,rfl⟩
   go_wp2_with fail
   refine(uH D _).mono ?_
   rintro e h ⟨rfl,rfl⟩
   go_wp2
   go_ret
   exact⟨rfl,rfl⟩
 ·go_enter Tryz.func107,Tryz.ntmps107
  go_wp2_with fail
  refine(uH l _).mono ?_
  rintro e h ⟨rfl,rfl⟩
  go_wp2
  go_ret
  exact⟨rfl,rfl⟩
theorem sK(b:Nat)(w:World)(d:b<18446744073709551616):
  Calls Tryz.prog 107 #[.int .u64 b] w fun e w'=>e=.returned (.int .i64 (eN b))∧w=w':=
 DZ b (aA b) (fS b) w (fun w'=>gi b w' d) (fun w'=>gI b w' d)
theorem xC(a b:Nat)(w:World)
  (f:∀w',Calls Tryz.prog 106 #[.int .u64 a] w' fun r d=>r=.returned (.int .i64 4)∧w'=d):
  Calls Tryz.prog 52 #[.int .u64 a,.int .u64 b] w fun r w'=>r=.returned (.tuple #[.int .i64 0,.bool false])∧Below w.heap.size w w':=by
 have h:=aa f
 clear f
 go_enter Tryz.func52,Tryz.ntmps52
 go_wp2_with fail
 refine(uH h _).mono ?_
 rintro e l ⟨rfl,rfl⟩
 clear h
 go_wp2
 exact bodyPost_ret (v:=.tuple #[.int .i64 0,.bool false]) (by simp[results,Tryz.results52,go_sem]) rfl ⟨rfl,Below.refl _ _⟩
theorem xD(a b:Nat)(f:Int)(w:World)(F:(f==4)=false)
  (h:∀w',Calls Tryz.prog 106 #[.int .u64 a] w' fun r d=>r=.returned (.int .i64 f)∧w'=d)
  (l:∀w',Calls Tryz.prog 106 #[.int .u64 b] w' fun r d=>r=.returned (.int .i64 4)∧w'=d):
  Calls Tryz.prog 52 #[.int .u64 a,.int .u64 b] w fun r w'=>r=.returned (.tuple #[.int .i64 0,.bool false])∧Below w.heap.size w w':=by
 have u:=aa h;have z:=aa l
 clear h l
 go_enter Tryz.func52,Tryz.ntmps52
 go_wp2_with fail
 refine(uH u _).mono ?_
 rintro e D ⟨rfl,rfl⟩
 clear u
 go_wp2_with fail
 refine(uH z _).mono ?_
 rintro e D ⟨rfl,rfl⟩
 clear z
 go_wp2
 exact bodyPost_ret (v:=.tuple #[.int .i64 0,.bool false]) (by simp[results,Tryz.results52,go_sem]) rfl ⟨rfl,Below.refl _ _⟩
theorem e9(a b:Nat)(h l x y o:Int)(w:World)(M:(h==4)=false)(N:(l==4)=false)
  (L:(x=0∧y= -1∧o=1)∨(x=0∧y=1∧o= -1)∨(x= -1∧y=0∧o= -1)∨(x=1∧y=0∧o=1)∨(x= -1∧y= -1∧o=0)∨(x=1∧y=1∧o=0)∨(x= -1∧y=1∧o= -1)∨(x=1∧y= -1∧o=1))
  (u:∀w',Calls Tryz.prog 106 #[.int .u64 a] w' fun r d=>r=.returned (.int .i64 h)∧w'=d)
  (z:∀w',Calls Tryz.prog 106 #[.int .u64 b] w' fun r d=>r=.returned (.int .i64 l)∧w'=d)
  (D:∀w',Calls Tryz.prog 107 #[.int .u64 a] w' fun r d=>r=.returned (.int .i64 x)∧w'=d)
  (F:∀w',Calls Tryz.prog 107 #[.int .u64 b] w' fun r d=>r=.returned (.int .i64 y)∧w'=d):
  Calls Tryz.prog 52 #[.int .u64 a,.int .u64 b] w fun r w'=>r=.returned (.tuple #[.int .i64 o,.bool true])∧Below w.heap.size w w':=by
 have G:=aa u;have H:=aa z;have J:=aa D;have K:=aa F
 clear u z D F
 rcases L with⟨rfl,rfl,rfl⟩|⟨rfl,rfl,rfl⟩|⟨rfl,rfl,rfl⟩|⟨rfl,rfl,rfl⟩|⟨rfl,rfl,rfl⟩|⟨rfl,rfl,rfl⟩|⟨rfl,rfl,rfl⟩|⟨rfl,rfl,rfl⟩
 all_goals
  go_enter Tryz.func52,Tryz.ntmps52
  go_wp2_with fail
  refine(uH G _).mono ?_
  rintro e f ⟨rfl,rfl⟩
  clear G
  go_wp2_with fail
  refine(uH H _).mono ?_
  rintro e f ⟨rfl,rfl⟩
  clear H
  go_wp2_with fail
  refine(uH J _).mono ?_
  rintro e f ⟨rfl,rfl⟩
  clear J
  go_wp2_with fail
  refine(uH K _).mono ?_
  rintro e f ⟨rfl,rfl⟩
  clear K
  go_wp2
  refine bodyPost_ret (v:=.tuple #[.int .i64 _,.bool true]) (by simp[results,Tryz.results52,go_sem];try rfl) rfl ⟨rfl,Below.refl _ _⟩
theorem Al(a b:Nat)(J K z1 z2 l z o:Int)(w:World)(h4:(J==4)=false)(g4:(K==4)=false)
  (L:∀w',Calls Tryz.prog 106 #[.int .u64 a] w' fun r d=>r=.returned (.int .i64 J)∧w'=d)
  (M:∀w',Calls Tryz.prog 106 #[.int .u64 b] w' fun r d=>r=.returned (.int .i64 K)∧w'=d)
  (N:∀w',Calls Tryz.prog 107 #[.int .u64 a] w' fun r d=>r=.returned (.int .i64 0)∧w'=d)
  (O:∀w',Calls Tryz.prog 107 #[.int .u64 b] w' fun r d=>r=.returned (.int .i64 0)∧w'=d)
  (Q:∀w',Calls Tryz.prog 65 #[.int .u64 a] w' fun r d=>∃u,r=.returned u∧aC d u z1 l∧Below w'.heap.size w' d)
  (U:∀w',Calls Tryz.prog 65 #[.int .u64 b] w' fun r d=>∃u,r=.returned u∧aC d u z2 z∧Below w'.heap.size w' d)
  (V:∀w' v u,aC w' v z1 l→aC w' u z2 z→Calls Tryz.prog 51 #[v,u] w' fun r d=>r=.returned (.int .i64 o)∧Below w'.heap.size w' d):
  Calls Tryz.prog 52 #[.int .u64 a,.int .u64 b] w fun r w'=>r=.returned (.tuple #[.int .i64 o,.bool true])∧Below w.heap.size w w':=by
 have X:=aa L;have Y:=aa M;have Z:=aa N;have K4:=aa O;have K5:=aa Q;have K6:=aa U;have K7:=aa V
 clear L M N O Q U V
 go_enter Tryz.func52,Tryz.ntmps52
 go_wp2_with fail
 refine(uH X _).mono ?_
 rintro e h ⟨rfl,rfl⟩
 clear X
 go_wp2_with fail
 refine(uH Y _).mono ?_
 rintro e h ⟨rfl,rfl⟩
 clear Y
 go_wp2_with fail
 refine(uH Z _).mono ?_
 rintro e h ⟨rfl,rfl⟩
 clear Z
 go_wp2_with fail
 refine(uH K4 _).mono ?_
 rintro e h ⟨rfl,rfl⟩
 clear K4
 go_wp2_with fail
 refine(uH K5 _).mono ?_
 rintro e h ⟨v,rfl,H,f⟩
 obtain⟨n1,a1,c1,L1,rfl,i1⟩:=H
 have HV:=aa (show aC h (.agg #[.bool n1,.slice a1 L1.length c1,.int .i64 l]) z1 l from⟨n1,a1,c1,L1,rfl,i1⟩)
 have D:=aa f
 clear i1 f K5
 go_wp2_with fail
 refine(uH K6 _).mono ?_
 rintro e w2 ⟨v,rfl,H,f⟩
 obtain⟨n2,a2,c2,L2,rfl,i2⟩:=H
 have HU:=aa (show aC w2 (.agg #[.bool n2,.slice a2 L2.length c2,.int .i64 z]) z2 z from⟨n2,a2,c2,L2,rfl,i2⟩)
 have F:=aa ((uH HV).below f)
 have G:=aa ((uH D).trans (f.mono (uH D).size))
 clear i2 f K6 D HV
 go_wp2_with fail
 refine(uH K7 _ _ _ (uH F) (uH HU)).mono ?_
 rintro e w3 ⟨rfl,f⟩
 have B3:=aa ((uH G).trans (f.mono (uH G).size))
 clear f K7 G
 go_wp2
 exact bodyPost_ret (v:=.tuple #[.int .i64 o,.bool true]) (by simp[results,Tryz.results52,go_sem]) rfl ⟨rfl,uH B3⟩
theorem uD{b:Nat}(h:aA b=true):eN b=0:=by unfold eN;rw[if_pos h]
theorem uE{b:Nat}(h:fK b=3):(eN b= -1∧fZ b= -((2^2098:Nat):Int))∨(eN b=1∧fZ b=((2^2098:Nat):Int)):=by
 have f:aA b=false:=by
  rcases eT b with d|d
  ·exact d.1
  ·omega
 have l:=(aP b).2.1.1 h
 unfold eN fZ pv
 rw[l,zB,if_neg (by rw[f];decide)]
 cases fS b
 ·exact .inr ⟨rfl,rfl⟩
 ·exact .inl ⟨rfl,rfl⟩
theorem nL(a b:Nat)(w:World)(U:a<18446744073709551616)(V:b<18446744073709551616):
  Calls Tryz.prog 52 #[.int .u64 a,.int .u64 b] w fun r w'=>r=.returned (.tuple #[.int .i64 (cO a b),.bool (cB a b)])∧Below w.heap.size w w':=by
 have f:=fun w'=>ja a w' U
 have D:=fun w'=>ja b w' V
 have z:=fun w'=>sK a w' U
 have d:=fun w'=>sK b w' V
 unfold cO cB
 by_cases H:fK a=4
 ·rw[if_pos (Or.inl H),if_pos (Or.inl H)]
  rw[H]at f
  exact xC a b w f
 by_cases J:fK b=4
 ·rw[if_pos (Or.inr J),if_pos (Or.inr J)]
  rw[J]at D
  exact xD a b _ w (by simp[H]) f D
 have h:¬(fK a=4∨fK b=4):=fun h=>h.elim H J
 rw[if_neg h,if_neg h]
 have F:(fK a==4)=false:=by simp[H]
 have G:(fK b==4)=false:=by simp[J]
 have hP:(0:Int)<((2^2098:Nat):Int):=Int.natCast_pos.2 (Nat.two_pow_pos 2098)
 by_cases Z:fK a=3
 ·have za:=uE Z
  by_cases L:fK b=3
  ·have Y:=uE L
   rcases za with⟨M,N⟩|⟨M,N⟩<;>rcases Y with⟨O,Q⟩|⟨O,Q⟩<;>rw[M]at z<;>rw[O]at d<;>rw[N,Q]<;>generalize ((2^2098:Nat):Int)=P at*
   ·rw[iP rfl];exact e9 a b _ _ _ _ _ w F G (by decide) f D z d
   ·rw[gT (by omega)];exact e9 a b _ _ _ _ _ w F G (by decide) f D z d
   ·rw[gU (by omega)];exact e9 a b _ _ _ _ _ w F G (by decide) f D z d
   ·rw[iP rfl];exact e9 a b _ _ _ _ _ w F G (by decide) f D z d
  ·have K:=aY b L J
   have l:=js b K
   rw[uD K]at d
   rcases za with⟨M,N⟩|⟨M,N⟩<;>rw[M]at z<;>rw[N]<;>generalize (2^2098:Nat)=P at*
   ·rw[gT (by omega)];exact e9 a b _ _ _ _ _ w F G (by decide) f D z d
   ·rw[gU (by omega)];exact e9 a b _ _ _ _ _ w F G (by decide) f D z d
 ·have X:=aY a Z H
  have la:=js a X
  rw[uD X]at z
  by_cases L:fK b=3
  ·have Y:=uE L
   rcases Y with⟨O,Q⟩|⟨O,Q⟩<;>rw[O]at d<;>rw[Q]<;>generalize (2^2098:Nat)=P at*
   ·rw[gU (by omega)];exact e9 a b _ _ _ _ _ w F G (by decide) f D z d
   ·rw[gT (by omega)];exact e9 a b _ _ _ _ _ w F G (by decide) f D z d
  ·have K:=aY b L J
   rw[uD K]at d
   clear la
   obtain⟨d1,d2⟩:=dC a U X
   obtain⟨d3,d4⟩:=dC b V K
   exact Al a b _ _ (fD a) (fD b) (fX a) (fX b) _ w F G f D z d (fun w'=>jD a w' U) (fun w'=>jD b w' V)
    (fun w' v u hv hu=>Hn (W:=2099) (lo:=-1074) (z1:=fZ a) (z2:=fZ b) (by rw[d1,d2];exact hv) (by rw[d3,d4];exact hu) (kX a X) (kX b K))
theorem ld(a:Nat)(w:World)(d:a<18446744073709551616):
  Calls Tryz.prog 160 #[.int .u64 a] w fun e w'=>e=.returned (.int .u64 (fR a:Nat))∧w=w':=by
 have f:=aa (fun w'=>gI a w' d)
 have h:=aa (fun w'=>iG a w' d)
 cases hs:fS a
 ·rw[hs]at f
  rw[sz a hs d]
  clear hs d h
  go_enter Tryz.func160,Tryz.ntmps160
  go_wp2_with fail
  refine(uH f _).mono ?_
  rintro e l ⟨rfl,rfl⟩
  clear f
  go_wp2
  go_ret
  exact⟨rfl,rfl⟩
 ·rw[hs]at f
  rw[pH a hs d]
  clear hs d
  generalize fN a=q at*
  go_enter Tryz.func160,Tryz.ntmps160
  go_wp2_with fail
  refine(uH f _).mono ?_
  rintro e l ⟨rfl,rfl⟩
  clear f
  go_wp2_with fail
  refine(uH h _).mono ?_
  rintro e u ⟨rfl,rfl⟩
  clear h
  go_wp2
  go_ret
  exact⟨rfl,rfl⟩
theorem dW(R:Nat)(W:World):(callFunc 216 #[.int .u64 R]).run Tryz.prog W=.ok (.value (.float .f64 R)) W:=by
 rw[run_callFunc_extern (e:=Extern.MathFloatBits.float64frombits) Tryz.func216 (by kernel_rfl) (by kernel_rfl) (by kernel_rfl) (by kernel_rfl)]
 show((pure (.float .f64 ((R:Int).toNat)):Sem Value).run Tryz.prog W).andThen (fun v w'=>.ok (Next.value v) w')=_
 simp
def fk(o:Option Nat)(x y:Nat)(w:World):Nat:=
 match o with
 |some r=>r
 |none=>(Question.nanBits .f64 x y).cut (w.tape w.drawn (.nanBits .f64 x y))
def le(o:Option Nat)(w:World):World:=
 match o with
 |some _=>w
 |none=>{w with drawn:=w.drawn+1}
theorem Am(t:TypeId)(x y:Nat)(w:World):(binOp .add t (.float .f64 x) (.float .f64 y)).run Tryz.prog w=.ok (.float .f64 (fk (Ieee.double.add x y) x y w)) (le (Ieee.double.add x y) w):=by
 have d:FloatKind.f64.format=Ieee.double:=rfl
 cases h:Ieee.double.add x y with
 |some r=>exact run_float_arith w .add t .f64 x y r (by unfold floatBits;rw[d];exact h)
 |none=>
  simp only[binOp,Op.floatArith,d,h]
  rfl
theorem An(t:TypeId)(x y:Nat)(w:World):(binOp .sub t (.float .f64 x) (.float .f64 y)).run Tryz.prog w=.ok (.float .f64 (fk (Ieee.double.sub x y) x y w)) (le (Ieee.double.sub x y) w):=by
 have d:FloatKind.f64.format=Ieee.double:=rfl
 cases h:Ieee.double.sub x y with
 |some r=>exact run_float_arith w .sub t .f64 x y r (by unfold floatBits;rw[d];exact h)
 |none=>
  simp only[binOp,Op.floatArith,d,h]
  rfl
theorem f9(o:Option Nat)(w:World):Below w.heap.size w (le o w):=by
 cases o
 ·exact(Below.refl _ _).drew
 ·exact Below.refl _ _
theorem lf(x y:Nat)(w:World):fk none x y w<18446744073709551616∧fK (fk none x y w)=4:=by
 have h:fk none x y w=(w.tape w.drawn (.nanBits .f64 x y)%2)*9223372036854775808+9218868437227405312+1+(w.tape w.drawn (.nanBits .f64 x y)/2)%4503599627370495:=rfl
 rw[h]
 clear h
 generalize w.tape w.drawn (.nanBits .f64 x y)=t
 have d:=Nat.mod_lt t (show 0<2 by decide)
 have f:=Nat.mod_lt (t/2) (show 0<4503599627370495 by decide)
 generalize t/2%4503599627370495=u at*
 generalize t%2=v at*
 refine⟨by omega,(aP _).1.2 ?_⟩
 unfold fR
 obtain rfl|rfl:v=0∨v=1:=by omega
 ·omega
 ·omega
theorem kn(R:Nat)(W:World):(callFunc 109 #[.float .f64 R]).run Tryz.prog W=.ok (.value (.int .u64 R)) W:=by
 rw[run_callFunc_extern (e:=Extern.MathFloatBits.float64bits) Tryz.func109 (by kernel_rfl) (by kernel_rfl) (by kernel_rfl) (by kernel_rfl)]
 show((pure (.int .u64 (R:Int)):Sem Value).run Tryz.prog W).andThen (fun v w'=>.ok (Next.value v) w')=_
 simp
theorem eG(b:Nat)(w:World)(h:b<18446744073709551616):
  Calls Tryz.prog 108 #[.int .u64 b] w fun r w'=>r=.returned (.int .u64 ((if fK b=4 then 9221120237041090560 else b:Nat):Int))∧w=w':=by
 have K:=aa (fun w'=>ja b w' h)
 have l:IntKind.u64.wrap (b:Int)=(b:Int):=by simp only[IntKind.wrap_u64];omega
 by_cases d:fK b=4
 ·rw[if_pos d]
  rw[d]at K
  clear d h
  go_enter Tryz.func108,Tryz.ntmps108
  go_wp2_with fail
  refine(uH K _).mono ?_
  rintro e f ⟨rfl,rfl⟩
  go_wp2
  go_ret
  exact⟨rfl,rfl⟩
 ·rw[if_neg d]
  have u:(fK b==4)=false:=by simp[d]
  generalize fK b=k at*
  clear d h
  go_enter Tryz.func108,Tryz.ntmps108
  go_wp2_with fail
  refine(uH K _).mono ?_
  rintro e f ⟨rfl,rfl⟩
  go_wp2
  go_ret
  exact⟨rfl,rfl⟩
theorem pO(a b:Nat)(w w':World)(u:a<18446744073709551616)(z:b<18446744073709551616):
  Calls Tryz.prog 108 #[.int .u64 (fk (Ieee.double.add a b) a b w:Nat)] w' fun r D=>r=.returned (.int .u64 (aV a b:Nat))∧w'=D:=by
 cases h:aN a b with
 |true=>
  obtain⟨J,K⟩:=pC a b u z h
  rw[J,K]
  obtain⟨L,d⟩:=lf a b w
  have:=eG _ w' L
  rw[if_pos d]at this
  exact this
 |false=>
  rw[pD a b u z h]
  have:=eG (aV a b) w' (dR a b u z)
  by_cases d:fK (aV a b)=4
  ·exfalso
   have F:=of_decide_eq_false h
   have G:¬(fK a=4∨fK b=4):=fun e=>F (Or.inl e)
   unfold aV at d
   rw[if_neg G]at d
   by_cases f:fK a=3
   ·rw[if_pos f,if_neg (fun h=>F (Or.inr ⟨f,h.1,h.2⟩))]at d
    omega
   ·rw[if_neg f]at d
    by_cases l:fK b=3
    ·rw[if_pos l]at d;omega
    ·rw[if_neg l]at d
     have M:=(qy a b (aY a f (by omega)) (aY b l (by omega))).1
     have H:=cH (aZ a b).natAbs (-1074)
     have e:=(sn a b f (by omega) l (by omega)).1
     rw[←e]at d
     have:=(aP _).1.1 d
     omega
  ·rw[if_neg d]at this
   exact this
theorem o5(x y S:Nat)(Q R:Nat→Nat)(w:World)(hy:y<9007199254740992)(O:Q 0=0∧R 0=x)
  (U:∀i,Q (i+1)=2*Q i+(if y≤R i then 1 else 0)∧R (i+1)=2*(R i-(if y≤R i then y else 0)))
  (z:∀i,R i<2*y) (D:∀i,i<55→Q i<18014398509481984) (h5:Q 55<36028797018963968) (V:S=2*Q 55+(if 0<R 55 then 1 else 0)):
  Calls Tryz.prog 280 #[.int .i64 x,.int .i64 y] w fun r w'=>r=.returned (.int .i64 (S:Nat))∧w=w':=by
 have f:=aa O;have F:=aa U;have h:=aa z;have G:=aa D;have d:=aa V
 clear O U z D V
 go_enter Tryz.func280,Tryz.ntmps280
 go_wp2
 go_loop [0,5,6] (fun p q i=>∃k:Nat,k≤55∧i=.int .i64 k∧p=.int .i64 (R k:Nat)∧q=.int .i64 (Q k:Nat)) (fun _ _ i=>55-(intOf i).toNat)
 case atStart=>exact⟨0,by omega,rfl,by rw[(uH f).2],by rw[(uH f).1];rfl⟩
 case round=>
  obtain⟨k,hk,rfl,rfl,rfl⟩:=hrel
  by_cases H:k<55
  ·have Z:=uH F k
   have r1:=uH h k
   have q3:=uH G k H
   obtain⟨X,Y⟩:=Z
   have l:=aa X;have u:=aa Y
   clear X Y f F h G d
   generalize z:R k=r at*
   generalize D:Q k=q at*
   by_cases c:y≤r
   ·have J:(r:Int)≥(y:Int):=by omega
    have K:=aa (show Q (k+1)=2*q+1 by rw[uH l,if_pos c])
    have L:=aa (show R (k+1)=2*(r-y) by rw[uH u,if_pos c])
    clear l u
    go_wp2
    go_round
    case rel=>exact⟨k+1,by omega,by go_num,cJ (by rw[uH L];omega),cJ (by rw[uH K];omega)⟩
    case measure=>simp[intOf];omega
   ·have J:¬(r:Int)≥(y:Int):=by omega
    have K:=aa (show Q (k+1)=2*q by rw[uH l,if_neg c];rfl)
    have L:=aa (show R (k+1)=2*r by rw[uH u,if_neg c];rfl)
    clear l u
    go_wp2
    go_round
    case rel=>exact⟨k+1,by omega,by go_num,cJ (by rw[uH L];omega),cJ (by rw[uH K];omega)⟩
    case measure=>simp[intOf];omega
  ·have N:k=55:=by omega
   subst N
   have r1:=uH h 55
   clear f F h G
   generalize R 55=r at*
   generalize Q 55=q at*
   by_cases c:0<r
   ·have M:=aa (show S=2*q+1 by rw[uH d,if_pos c])
    have J:(r:Int)>0:=by omega
    clear d
    go_wp2
    go_ret
    exact⟨aH (by rw[uH M];omega),rfl⟩
   ·have M:=aa (show S=2*q by rw[uH d,if_neg c];rfl)
    have J:¬(r:Int)>0:=by omega
    clear d
    go_wp2
    go_ret
    exact⟨aH (by rw[uH M];omega),rfl⟩
theorem Ic(x y i:Nat)(f:x<2*y)(l:i<55):lQ x y i<18014398509481984:=by
 have h:=zX x y i f
 have d:(2:Nat)^i≤2^54:=Nat.pow_le_pow_right (by decide) (by omega)
 rw[show(2:Nat)^54=18014398509481984 by decide]at d
 exact Nat.lt_of_lt_of_le h d
theorem Ie(x y:Nat)(d:x<2*y):lQ x y 55<36028797018963968:=by
 have f:=zX x y 55 d
 rwa[show(2:Nat)^55=36028797018963968 by decide]at f
theorem qN(x y:Nat)(w:World)(f:y<9007199254740992)(d:x<2*y):
  Calls Tryz.prog 280 #[.int .i64 x,.int .i64 y] w fun r w'=>r=.returned (.int .i64 (cq (x*2^54) y:Nat))∧w=w':=
 o5 x y _ (lQ x y) (lR x y) w f (Ga x y d) (fun i=>Gb x y i (by omega)) (fun i=>Hx x y i (by omega)) (fun i h=>Ic x y i d h) (Ie x y d) (Fg x y)
theorem sL(b:Nat)(z1 X z2 ln tp:Int)(w:World)(ap:1≤ln∧ln≤53)
  (C1:∀w',Below w.heap.size w w'→Calls Tryz.prog 207 #[.int .u64 b] w' fun r M=>mi M r 0 z1 X∧Below w'.heap.size w' M)
  (C2:∀w' n a l c,aC w' (.agg #[.bool n,.slice a l c,.int .i64 X]) z1 X→Calls Tryz.prog 238 #[.agg #[.bool false,.slice a l c]] w' fun r M=>r=.returned (.int .i64 ln)∧Below w'.heap.size w' M)
  (C3:∀w' n a l c,aC w' (.agg #[.bool n,.slice a l c,.int .i64 X]) z1 X→Calls Tryz.prog 268 #[.agg #[.bool false,.slice a l c],.int .i64 (53-ln)] w' fun r M=>∃v,r=.returned (.tuple #[v,.int .i64 0])∧an w'.heap.size M v z2∧Below w'.heap.size w' M)
  (C4:∀B w' v,an B w' v z2→Calls Tryz.prog 299 #[v] w' fun r M=>r=.returned (.tuple #[.int .i64 z2,.int .i64 0])∧Below w'.heap.size w' M)
  (C5:∀w' n a l c,aC w' (.agg #[.bool n,.slice a l c,.int .i64 X]) z1 X→Calls Tryz.prog 208 #[.agg #[.bool false,.slice a l c,.int .i64 X]] w' fun r M=>r=.returned (.int .i64 tp)∧Below w'.heap.size w' M):
  Calls Tryz.prog 279 #[.int .u64 b] w fun r w'=>r=.returned (.tuple #[.int .i64 z2,.int .i64 tp])∧Below w.heap.size w w':=by
 have K1:=aa C1;have K2:=aa C2;have K3:=aa C3;have K4:=aa C4;have K5:=aa C5
 clear C1 C2 C3 C4 C5
 go_enter Tryz.func279,Tryz.ntmps279
 go_wp2_with fail
 refine(uH K1 _ (Below.refl _ _)).mono ?_
 rintro e w1 ⟨⟨v,rfl,hv⟩,d⟩
 obtain⟨n1,a1,c1,L1,rfl,i1⟩:=hv
 have x:=ay.new w1 (.bool n1) (.slice a1 L1.length c1) (.int .i64 X)
 have y0:=x.c0;have y1:=x.c1;have y2:=x.c2;have f0:=x.free 0;have f1:=x.free 1;have f2:=x.free 2
 clear x
 generalize hl:L1.length=l1 at*
 have hd:aC w1 (.agg #[.bool n1,.slice a1 l1 c1,.int .i64 X]) z1 X:=⟨n1,a1,c1,L1,by rw[hl],by rw[hl];exact i1⟩
 clear i1 hl K1
 go_wp2_with fail
 clear y0 y1 y2 f0 f1 f2
 have ae:Below w1.heap.size w1 (w1.alloc (.cells #[.bool false,.slice a1 l1 c1,.int .i64 X] 41)):=(Below.refl _ _).alloc (Nat.le_refl _) _
 have x:=ay.new w1 (.bool false) (.slice a1 l1 c1) (.int .i64 X)
 have HV:=aa (hd.below ae)
 have B1:=aa (d.trans (ae.mono d.size))
 clear hd d ae
 refine aj (fun W=>W=(w1.alloc (.cells #[.bool false,.slice a1 l1 c1,.int .i64 X] 41))) rfl ?_
 rintro z e0
 rw[←e0]at x HV B1
 clear e0
 generalize w1.heap.size=g at*
 have D:∀w',Below z.heap.size z w'→Below z.heap.size z w'∧w'.cell? ⟨g,0,none⟩=some (.bool false)∧w'.cell? ⟨g,1,none⟩=some (.slice a1 l1 c1):=fun w' h=>
  ⟨h,(x.all h).c0,(x.all h).c1⟩
 have Z:=aa D
 have XB:=aa x
 clear D x
 refine wp_region_held_drew (S:=(fun w'=>Below z.heap.size z w'∧w'.cell? ⟨g,0,none⟩=some (.bool false)∧w'.cell? ⟨g,1,none⟩=some (.slice a1 l1 c1))) (by kernel_rfl) ?_ (fun u=>?_)
 ·exact uH Z _ (Below.refl _ _).drew
 refine wpAnyH_take (i:=0) (oi:={dst:=some 16,op:=Op.fieldAddr 41 (Operand.tmp 4) 0,type:=0,pos:= "quotient.go:30",after:=#[],guard:=none}) (v:=Value.pointer (some ⟨g,0,none⟩)) rfl (by kernel_rfl) (by kernel_rfl) (by kernel_rfl) (fun _ _ _ h=>h) (Or.inl ⟨by rfl,?_⟩) (by assumption) ?_
 ·(intro w f;(try dsimp only at f);go_simp)
 simp only[Act.put,List.setIfInBounds_toArray,List.set_cons_zero,List.set_cons_succ]
 refine wpAnyH_take (i:=1) (oi:={dst:=some 17,op:=Op.load 39 (Operand.tmp 16),type:=39,pos:= "quotient.go:30",after:=#[{on:=0,ground:=Ground.data}],guard:=none}) (v:=(Value.agg #[.bool false,.slice a1 l1 c1])) rfl (by kernel_rfl) (by kernel_rfl) (by kernel_rfl) (fun _ _ _ h=>h) (Or.inl ⟨by rfl,?_⟩) (by assumption) ?_
 ·(intro w f;(try dsimp only at f);go_simp)
 simp only[Act.put,List.setIfInBounds_toArray,List.set_cons_zero,List.set_cons_succ]
 refine wpAnyH_take (i:=2) (oi:={dst:=some 18,op:=Op.fieldAddr 41 (Operand.tmp 4) 0,type:=0,pos:= "quotient.go:30",after:=#[],guard:=none}) (v:=Value.pointer (some ⟨g,0,none⟩)) rfl (by kernel_rfl) (by kernel_rfl) (by kernel_rfl) (fun _ _ _ h=>h) (Or.inl ⟨by rfl,?_⟩) (by assumption) ?_
 ·(intro w f;(try dsimp only at f);go_simp)
 simp only[Act.put,List.setIfInBounds_toArray,List.set_cons_zero,List.set_cons_succ]
 refine wpAnyH_take (i:=3) (oi:={dst:=some 19,op:=Op.load 39 (Operand.tmp 18),type:=39,pos:= "quotient.go:30",after:=#[{on:=2,ground:=Ground.data}],guard:=none}) (v:=(Value.agg #[.bool false,.slice a1 l1 c1])) rfl (by kernel_rfl) (by kernel_rfl) (by kernel_rfl) (fun _ _ _ h=>h) (Or.inl ⟨by rfl,?_⟩) (by assumption) ?_
 ·(intro w f;(try dsimp only at f);go_simp)
 simp only[Act.put,List.setIfInBounds_toArray,List.set_cons_zero,List.set_cons_succ]
 refine wpAnyH_ready (rs:=[4,10]) (by kernel_rfl) (by simp) ?_
 refine AllReadyH.cons (o:={dst:=some 20,op:=Op.call {callee:=Callee.value (Operand.func 238),args:=#[Operand.tmp 19],argTypes:=#[39]},type:=3,pos:= "quotient.go:30",after:=#[{on:=3,ground:=Ground.data}],guard:=none}) rfl (fun K D=>?_) (AllReadyH.cons (o:={dst:=some 6,op:=Op.alloc 39,type:=0,pos:= "quotient.go:30",after:=#[],guard:=none}) rfl (fun K D=>?_) AllReadyH.nil)
 ·go_simp
  refine(uH K2 _ _ _ _ _ ((uH HV).below (And.left (by assumption)))).mono ?_
  rintro e wn ⟨rfl,d⟩
  have am:Below z.heap.size z wn:=Below.trans (And.left (by assumption)) (d.mono (Below.size (And.left (by assumption))))
  clear d
  go_wp2_with fail
  refine D.out _ _ ?_ (fun u=>?_)
  ·exact uH Z _ am
  clear D K
  refine wpAnyH_take (i:=5) (oi:={dst:=some 21,op:=Op.binOp BinOp.sub 3 (Operand.const (Value.int IntKind.i64 53)) (Operand.tmp 20) 3,type:=3,pos:= "quotient.go:30",after:=#[{on:=4,ground:=Ground.data}],guard:=none}) (v:=(.int .i64 (53-ln))) rfl (by kernel_rfl) (by kernel_rfl) (by kernel_rfl) (fun _ _ _ h=>h) (Or.inl ⟨by rfl,?_⟩) (by assumption) ?_
  ·(intro w f;(try dsimp only at f);go_simp;exact aW _ (by omega))
  simp only[Act.put,List.setIfInBounds_toArray,List.set_cons_zero,List.set_cons_succ]
  refine wpAnyH_ready (rs:=[6,10]) (by kernel_rfl) (by simp) ?_
  refine AllReadyH.cons (o:={dst:=some 22,op:=Op.call {callee:=Callee.value (Operand.func 268),args:=#[Operand.tmp 17,Operand.tmp 21],argTypes:=#[39,3]},type:=241,pos:= "quotient.go:30",after:=#[{on:=1,ground:=Ground.data},{on:=5,ground:=Ground.data},{on:=4,ground:=Ground.chain}],guard:=none}) rfl (fun K D=>?_) (AllReadyH.cons (o:={dst:=some 6,op:=Op.alloc 39,type:=0,pos:= "quotient.go:30",after:=#[],guard:=none}) rfl (fun K D=>?_) AllReadyH.nil)
  ·go_simp
   refine(uH K3 _ _ _ _ _ ((uH HV).below (And.left (by assumption)))).mono ?_
   rintro e N ⟨v,rfl,⟨F,G,H,L2,rfl,i2⟩,d⟩
   have O:Below z.heap.size z N:=Below.trans (And.left (by assumption)) (d.mono (Below.size (And.left (by assumption))))
   have I2:=aa (show an 0 N (.agg #[.bool F,.slice G L2.length H]) z2 from an.mono ⟨F,G,H,L2,rfl,i2⟩ (Nat.zero_le _))
   clear i2
   generalize L2.length=L at*
   clear d
   go_wp2_with fail
   refine D.out _ _ ?_ (fun u=>?_)
   ·exact uH Z _ O
   clear D K
   refine wpAnyH_take (i:=7) (oi:={dst:=some 15,op:=Op.move (Operand.tmp 22),type:=241,pos:= "quotient.go:30",after:=#[{on:=6,ground:=Ground.data}],guard:=none}) (v:=(Value.tuple #[.agg #[.bool F,.slice G L H],.int .i64 0])) rfl (by kernel_rfl) (by kernel_rfl) (by kernel_rfl) (fun _ _ _ h=>h) (Or.inl ⟨by rfl,?_⟩) (by assumption) ?_
   ·(intro w f;(try dsimp only at f);go_simp)
   simp only[Act.put,List.setIfInBounds_toArray,List.set_cons_zero,List.set_cons_succ]
   refine wpAnyH_take (i:=8) (oi:={dst:=some 23,op:=Op.extract (Operand.tmp 15) 0,type:=39,pos:= "quotient.go:30",after:=#[{on:=7,ground:=Ground.data}],guard:=none}) (v:=(Value.agg #[.bool F,.slice G L H])) rfl (by kernel_rfl) (by kernel_rfl) (by kernel_rfl) (fun _ _ _ h=>h) (Or.inl ⟨by rfl,?_⟩) (by assumption) ?_
   ·(intro w f;(try dsimp only at f);go_simp)
   simp only[Act.put,List.setIfInBounds_toArray,List.set_cons_zero,List.set_cons_succ]
   refine wpAnyH_take (i:=9) (oi:={dst:=some 24,op:=Op.extract (Operand.tmp 15) 1,type:=32,pos:= "quotient.go:30",after:=#[{on:=7,ground:=Ground.data},{on:=11,ground:=Ground.gcOnly Departure.lateStores}],guard:=none}) (v:=(.int .i64 0)) rfl (by kernel_rfl) (by kernel_rfl) (by kernel_rfl) (fun _ _ _ h=>h) (Or.inl ⟨by rfl,?_⟩) (by assumption) ?_
   ·(intro w f;(try dsimp only at f);go_simp)
   simp only[Act.put,List.setIfInBounds_toArray,List.set_cons_zero,List.set_cons_succ]
   refine wpAnyH_ready (rs:=[10]) (by kernel_rfl) (by simp) ?_
   refine AllReadyH.cons (o:={dst:=some 6,op:=Op.alloc 39,type:=0,pos:= "quotient.go:30",after:=#[],guard:=none}) rfl (fun K D=>?_) AllReadyH.nil
   go_wp2_with fail
   refine D.out _ _ ?_ (fun u=>?_)
   ·exact uH Z _ (Below.alloc (And.left (by assumption)) (Below.size (And.left (by assumption))) _)
   clear D K
   have J:=az.new N (.bool false) (.slice none 0 0)
   have U:z.heap.size≤N.heap.size:=Below.size (B:=z.heap.size) (w:=z) O
   have I0:=I2
   have I2:=aa (show an 0 (N.alloc (.cells #[.bool false,.slice none 0 0] 39)) (.agg #[.bool F,.slice G L H]) z2 from(uH I2).below ((Below.refl _ _).alloc (Nat.le_refl _) _))
   have hW:=Below.alloc O U (.cells #[.bool false,.slice none 0 0] 39)
   have IS:=aa (show an 0 ((((N.alloc (.cells #[.bool false,.slice none 0 0] 39)).setCell ⟨N.heap.size,0,none⟩ (.bool F)).setCell ⟨N.heap.size,1,none⟩ (.slice G L H))) (.agg #[.bool F,.slice G L H]) z2 from(uH I0).below ((((Below.refl _ _).alloc (Nat.le_refl _) _).setCell (Nat.le_refl _) _).setCell (Nat.le_refl _) _))
   generalize ao:(N.alloc (.cells #[.bool false,.slice none 0 0] 39))=wa at*
   generalize N.heap.size=V at*
   refine wpAnyH_ready (rs:=[11]) (by kernel_rfl) (by simp) ?_
   refine AllReadyH.cons (o:={dst:=none,op:=Op.store 39 (Operand.tmp 6) (Operand.tmp 23),type:=0,pos:= "quotient.go:30",after:=#[{on:=10,ground:=Ground.data},{on:=8,ground:=Ground.data},{on:=6,ground:=Ground.chain},{on:=0,ground:=Ground.phase},{on:=1,ground:=Ground.phase},{on:=2,ground:=Ground.phase},{on:=3,ground:=Ground.phase},{on:=4,ground:=Ground.phase},{on:=5,ground:=Ground.phase},{on:=6,ground:=Ground.phase},{on:=7,ground:=Ground.phase},{on:=8,ground:=Ground.phase},{on:=9,ground:=Ground.textOnly Departure.lateStores},{on:=10,ground:=Ground.phase}],guard:=none}) rfl (fun K D=>?_) AllReadyH.nil
   have q0:=J.c0;have q1:=J.c1;have f0:=J.free 0;have f1:=J.free 1
   go_wp2_with fail
   refine D.out _ _ ?_ (fun u=>?_)
   ·exact uH Z _ (Below.setCell (Below.setCell (And.left (by assumption)) U _) U _)
   clear D K q0 q1 f0 f1
   refine wpAnyH_take (i:=12) (oi:={dst:=some 7,op:=Op.assign (Operand.tmp 24),type:=32,pos:= "quotient.go:30",after:=#[{on:=9,ground:=Ground.data},{on:=11,ground:=Ground.chain},{on:=0,ground:=Ground.phase},{on:=1,ground:=Ground.phase},{on:=2,ground:=Ground.phase},{on:=3,ground:=Ground.phase},{on:=4,ground:=Ground.phase},{on:=5,ground:=Ground.phase},{on:=6,ground:=Ground.phase},{on:=7,ground:=Ground.phase},{on:=8,ground:=Ground.phase},{on:=9,ground:=Ground.phase},{on:=10,ground:=Ground.phase},{on:=11,ground:=Ground.phase}],guard:=none}) (v:=(.int .i64 0)) rfl (by kernel_rfl) (by kernel_rfl) (by kernel_rfl) (fun _ _ _ h=>h) (Or.inl ⟨by rfl,?_⟩) (by assumption) ?_
   ·(intro w f;(try dsimp only at f);go_simp)
   simp only[Act.put,List.setIfInBounds_toArray,List.set_cons_zero,List.set_cons_succ]
   refine wpAnyH_done (by kernel_rfl) ?_ _
   have bz:=J.put (.bool F) (.slice G L H)
   have HZ:=aa (show an 0 ((wa.setCell ⟨V,0,none⟩ (.bool F)).setCell ⟨V,1,none⟩ (.slice G L H)) (.agg #[.bool F,.slice G L H]) z2 from uH IS)
   have BZ:=aa (show Below z.heap.size z ((wa.setCell ⟨V,0,none⟩ (.bool F)).setCell ⟨V,1,none⟩ (.slice G L H))from Below.setCell (Below.setCell hW U _) U _)
   have r0:=bz.c0;have r1:=bz.c1
   clear J I2 u
   generalize ((wa.setCell ⟨V,0,none⟩ (.bool F)).setCell ⟨V,1,none⟩ (.slice G L H))=WE at*
   go_wp2_with fail
   refine(uH K4 _ _ _ (uH HZ)).mono ?_
   rintro e we ⟨rfl,d⟩
   have Q:=aa ((uH BZ).trans (d.mono (uH BZ).size))
   have HW:=aa ((uH HV).below (uH Q))
   have Y:=(uH XB).all (uH Q)
   have y0:=Y.c0;have y1:=Y.c1;have y2:=Y.c2
   clear r0 r1 bz d BZ HZ Y
   go_wp2_with fail
   refine(uH K5 _ _ _ _ _ (uH HW)).mono ?_
   rintro e wf ⟨rfl,d⟩
   have BF:=aa ((uH B1).trans (((uH Q).trans (d.mono (uH Q).size)).mono (uH B1).size))
   clear d Q HW y0 y1 y2
   go_wp2
   exact bodyPost_ret (v:=.tuple #[.int .i64 z2,.int .i64 tp]) (by simp[results,Tryz.results279,go_sem]) rfl ⟨rfl,uH BF⟩
  ·go_wp2_with fail
   refine D.out _ _ ?_ (fun u=>?_)
   ·exact uH Z _ (Below.alloc (And.left (by assumption)) (Below.size (And.left (by assumption))) _)
   clear D K
   have J:=az.new wn (.bool false) (.slice none 0 0)
   have U:z.heap.size≤wn.heap.size:=Below.size (B:=z.heap.size) (w:=z) am
   have hW:=Below.alloc am U (.cells #[.bool false,.slice none 0 0] 39)
   generalize ao:(wn.alloc (.cells #[.bool false,.slice none 0 0] 39))=wa at*
   generalize wn.heap.size=V at*
   refine wpAnyH_ready (rs:=[6]) (by kernel_rfl) (by simp) ?_
   refine AllReadyH.cons (o:={dst:=some 22,op:=Op.call {callee:=Callee.value (Operand.func 268),args:=#[Operand.tmp 17,Operand.tmp 21],argTypes:=#[39,3]},type:=241,pos:= "quotient.go:30",after:=#[{on:=1,ground:=Ground.data},{on:=5,ground:=Ground.data},{on:=4,ground:=Ground.chain}],guard:=none}) rfl (fun K D=>?_) AllReadyH.nil
   go_simp
   refine(uH K3 _ _ _ _ _ ((uH HV).below (And.left (by assumption)))).mono ?_
   rintro e N ⟨v,rfl,⟨F,G,H,L2,rfl,i2⟩,d⟩
   have O:Below z.heap.size z N:=Below.trans (And.left (by assumption)) (d.mono (Below.size (And.left (by assumption))))
   have I2:=aa (show an (V+1) N (.agg #[.bool F,.slice G L2.length H]) z2 from an.mono ⟨F,G,H,L2,rfl,i2⟩ (Nat.succ_le_of_lt J.lt))
   have J:=J.all d
   clear i2
   generalize L2.length=L at*
   clear d
   go_wp2_with fail
   refine D.out _ _ ?_ (fun u=>?_)
   ·exact uH Z _ O
   clear D K
   refine wpAnyH_take (i:=7) (oi:={dst:=some 15,op:=Op.move (Operand.tmp 22),type:=241,pos:= "quotient.go:30",after:=#[{on:=6,ground:=Ground.data}],guard:=none}) (v:=(Value.tuple #[.agg #[.bool F,.slice G L H],.int .i64 0])) rfl (by kernel_rfl) (by kernel_rfl) (by kernel_rfl) (fun _ _ _ h=>h) (Or.inl ⟨by rfl,?_⟩) (by assumption) ?_
   ·(intro w f;(try dsimp only at f);go_simp)
   simp only[Act.put,List.setIfInBounds_toArray,List.set_cons_zero,List.set_cons_succ]
   refine wpAnyH_take (i:=8) (oi:={dst:=some 23,op:=Op.extract (Operand.tmp 15) 0,type:=39,pos:= "quotient.go:30",after:=#[{on:=7,ground:=Ground.data}],guard:=none}) (v:=(Value.agg #[.bool F,.slice G L H])) rfl (by kernel_rfl) (by kernel_rfl) (by kernel_rfl) (fun _ _ _ h=>h) (Or.inl ⟨by rfl,?_⟩) (by assumption) ?_
   ·(intro w f;(try dsimp only at f);go_simp)
   simp only[Act.put,List.setIfInBounds_toArray,List.set_cons_zero,List.set_cons_succ]
   refine wpAnyH_take (i:=9) (oi:={dst:=some 24,op:=Op.extract (Operand.tmp 15) 1,type:=32,pos:= "quotient.go:30",after:=#[{on:=7,ground:=Ground.data},{on:=11,ground:=Ground.gcOnly Departure.lateStores}],guard:=none}) (v:=(.int .i64 0)) rfl (by kernel_rfl) (by kernel_rfl) (by kernel_rfl) (fun _ _ _ h=>h) (Or.inl ⟨by rfl,?_⟩) (by assumption) ?_
   ·(intro w f;(try dsimp only at f);go_simp)
   simp only[Act.put,List.setIfInBounds_toArray,List.set_cons_zero,List.set_cons_succ]
   refine wpAnyH_ready (rs:=[11]) (by kernel_rfl) (by simp) ?_
   refine AllReadyH.cons (o:={dst:=none,op:=Op.store 39 (Operand.tmp 6) (Operand.tmp 23),type:=0,pos:= "quotient.go:30",after:=#[{on:=10,ground:=Ground.data},{on:=8,ground:=Ground.data},{on:=6,ground:=Ground.chain},{on:=0,ground:=Ground.phase},{on:=1,ground:=Ground.phase},{on:=2,ground:=Ground.phase},{on:=3,ground:=Ground.phase},{on:=4,ground:=Ground.phase},{on:=5,ground:=Ground.phase},{on:=6,ground:=Ground.phase},{on:=7,ground:=Ground.phase},{on:=8,ground:=Ground.phase},{on:=9,ground:=Ground.textOnly Departure.lateStores},{on:=10,ground:=Ground.phase}],guard:=none}) rfl (fun K D=>?_) AllReadyH.nil
   have q0:=J.c0;have q1:=J.c1;have f0:=J.free 0;have f1:=J.free 1
   go_wp2_with fail
   refine D.out _ _ ?_ (fun u=>?_)
   ·exact uH Z _ (Below.setCell (Below.setCell (And.left (by assumption)) U _) U _)
   clear D K q0 q1 f0 f1
   refine wpAnyH_take (i:=12) (oi:={dst:=some 7,op:=Op.assign (Operand.tmp 24),type:=32,pos:= "quotient.go:30",after:=#[{on:=9,ground:=Ground.data},{on:=11,ground:=Ground.chain},{on:=0,ground:=Ground.phase},{on:=1,ground:=Ground.phase},{on:=2,ground:=Ground.phase},{on:=3,ground:=Ground.phase},{on:=4,ground:=Ground.phase},{on:=5,ground:=Ground.phase},{on:=6,ground:=Ground.phase},{on:=7,ground:=Ground.phase},{on:=8,ground:=Ground.phase},{on:=9,ground:=Ground.phase},{on:=10,ground:=Ground.phase},{on:=11,ground:=Ground.phase}],guard:=none}) (v:=(.int .i64 0)) rfl (by kernel_rfl) (by kernel_rfl) (by kernel_rfl) (fun _ _ _ h=>h) (Or.inl ⟨by rfl,?_⟩) (by assumption) ?_
   ·(intro w f;(try dsimp only at f);go_simp)
   simp only[Act.put,List.setIfInBounds_toArray,List.set_cons_zero,List.set_cons_succ]
   refine wpAnyH_done (by kernel_rfl) ?_ _
   have bz:=J.put (.bool F) (.slice G L H)
   have HZ:=aa (show an 0 ((N.setCell ⟨V,0,none⟩ (.bool F)).setCell ⟨V,1,none⟩ (.slice G L H)) (.agg #[.bool F,.slice G L H]) z2 from((uH I2).put2 (p:=⟨V,0,none⟩) (q:=⟨V,1,none⟩) (by simp) (by simp) (.bool F) (.slice G L H)).mono (Nat.zero_le _))
   have BZ:=aa (show Below z.heap.size z ((N.setCell ⟨V,0,none⟩ (.bool F)).setCell ⟨V,1,none⟩ (.slice G L H))from Below.setCell (Below.setCell O U _) U _)
   have r0:=bz.c0;have r1:=bz.c1
   clear J I2 u
   generalize ((N.setCell ⟨V,0,none⟩ (.bool F)).setCell ⟨V,1,none⟩ (.slice G L H))=WE at*
   go_wp2_with fail
   refine(uH K4 _ _ _ (uH HZ)).mono ?_
   rintro e we ⟨rfl,d⟩
   have Q:=aa ((uH BZ).trans (d.mono (uH BZ).size))
   have HW:=aa ((uH HV).below (uH Q))
   have Y:=(uH XB).all (uH Q)
   have y0:=Y.c0;have y1:=Y.c1;have y2:=Y.c2
   clear r0 r1 bz d BZ HZ Y
   go_wp2_with fail
   refine(uH K5 _ _ _ _ _ (uH HW)).mono ?_
   rintro e wf ⟨rfl,d⟩
   have BF:=aa ((uH B1).trans (((uH Q).trans (d.mono (uH Q).size)).mono (uH B1).size))
   clear d Q HW y0 y1 y2
   go_wp2
   exact bodyPost_ret (v:=.tuple #[.int .i64 z2,.int .i64 tp]) (by simp[results,Tryz.results279,go_sem]) rfl ⟨rfl,uH BF⟩
 ·go_wp2_with fail
  refine D.out _ _ ?_ (fun u=>?_)
  ·exact uH Z _ (((Below.refl z.heap.size z).alloc (Nat.le_refl _) _).drew)
  clear D K
  have J:az (z.alloc (.cells #[.bool false,.slice none 0 0] 39)).drew z.heap.size (.bool false) (.slice none 0 0):=(az.new z (.bool false) (.slice none 0 0)).drew
  have U:z.heap.size≤z.heap.size:=Nat.le_refl _
  generalize ao:(z.alloc (.cells #[.bool false,.slice none 0 0] 39)).drew=wa at*
  refine wpAnyH_ready (rs:=[4]) (by kernel_rfl) (by simp) ?_
  refine AllReadyH.cons (o:={dst:=some 20,op:=Op.call {callee:=Callee.value (Operand.func 238),args:=#[Operand.tmp 19],argTypes:=#[39]},type:=3,pos:= "quotient.go:30",after:=#[{on:=3,ground:=Ground.data}],guard:=none}) rfl (fun K D=>?_) AllReadyH.nil
  go_simp
  refine(uH K2 _ _ _ _ _ ((uH HV).below (And.left (by assumption)))).mono ?_
  rintro e wn ⟨rfl,d⟩
  have am:Below z.heap.size z wn:=Below.trans (And.left (by assumption)) (d.mono (Below.size (And.left (by assumption))))
  have J:=J.all d
  clear d
  go_wp2_with fail
  refine D.out _ _ ?_ (fun u=>?_)
  ·exact uH Z _ am
  clear D K
  refine wpAnyH_take (i:=5) (oi:={dst:=some 21,op:=Op.binOp BinOp.sub 3 (Operand.const (Value.int IntKind.i64 53)) (Operand.tmp 20) 3,type:=3,pos:= "quotient.go:30",after:=#[{on:=4,ground:=Ground.data}],guard:=none}) (v:=(.int .i64 (53-ln))) rfl (by kernel_rfl) (by kernel_rfl) (by kernel_rfl) (fun _ _ _ h=>h) (Or.inl ⟨by rfl,?_⟩) (by assumption) ?_
  ·(intro w f;(try dsimp only at f);go_simp;exact aW _ (by omega))
  simp only[Act.put,List.setIfInBounds_toArray,List.set_cons_zero,List.set_cons_succ]
  refine wpAnyH_ready (rs:=[6]) (by kernel_rfl) (by simp) ?_
  refine AllReadyH.cons (o:={dst:=some 22,op:=Op.call {callee:=Callee.value (Operand.func 268),args:=#[Operand.tmp 17,Operand.tmp 21],argTypes:=#[39,3]},type:=241,pos:= "quotient.go:30",after:=#[{on:=1,ground:=Ground.data},{on:=5,ground:=Ground.data},{on:=4,ground:=Ground.chain}],guard:=none}) rfl (fun K D=>?_) AllReadyH.nil
  go_simp
  refine(uH K3 _ _ _ _ _ ((uH HV).below (And.left (by assumption)))).mono ?_
  rintro e N ⟨v,rfl,⟨F,G,H,L2,rfl,i2⟩,d⟩
  have O:Below z.heap.size z N:=Below.trans (And.left (by assumption)) (d.mono (Below.size (And.left (by assumption))))
  have I2:=aa (show an (z.heap.size+1) N (.agg #[.bool F,.slice G L2.length H]) z2 from an.mono ⟨F,G,H,L2,rfl,i2⟩ (Nat.succ_le_of_lt J.lt))
  have J:=J.all d
  clear i2
  generalize L2.length=L at*
  clear d
  go_wp2_with fail
  refine D.out _ _ ?_ (fun u=>?_)
  ·exact uH Z _ O
  clear D K
  refine wpAnyH_take (i:=7) (oi:={dst:=some 15,op:=Op.move (Operand.tmp 22),type:=241,pos:= "quotient.go:30",after:=#[{on:=6,ground:=Ground.data}],guard:=none}) (v:=(Value.tuple #[.agg #[.bool F,.slice G L H],.int .i64 0])) rfl (by kernel_rfl) (by kernel_rfl) (by kernel_rfl) (fun _ _ _ h=>h) (Or.inl ⟨by rfl,?_⟩) (by assumption) ?_
  ·(intro w f;(try dsimp only at f);go_simp)
  simp only[Act.put,List.setIfInBounds_toArray,List.set_cons_zero,List.set_cons_succ]
  refine wpAnyH_take (i:=8) (oi:={dst:=some 23,op:=Op.extract (Operand.tmp 15) 0,type:=39,pos:= "quotient.go:30",after:=#[{on:=7,ground:=Ground.data}],guard:=none}) (v:=(Value.agg #[.bool F,.slice G L H])) rfl (by kernel_rfl) (by kernel_rfl) (by kernel_rfl) (fun _ _ _ h=>h) (Or.inl ⟨by rfl,?_⟩) (by assumption) ?_
  ·(intro w f;(try dsimp only at f);go_simp)
  simp only[Act.put,List.setIfInBounds_toArray,List.set_cons_zero,List.set_cons_succ]
  refine wpAnyH_take (i:=9) (oi:={dst:=some 24,op:=Op.extract (Operand.tmp 15) 1,type:=32,pos:= "quotient.go:30",after:=#[{on:=7,ground:=Ground.data},{on:=11,ground:=Ground.gcOnly Departure.lateStores}],guard:=none}) (v:=(.int .i64 0)) rfl (by kernel_rfl) (by kernel_rfl) (by kernel_rfl) (fun _ _ _ h=>h) (Or.inl ⟨by rfl,?_⟩) (by assumption) ?_
  ·(intro w f;(try dsimp only at f);go_simp)
  simp only[Act.put,List.setIfInBounds_toArray,List.set_cons_zero,List.set_cons_succ]
  refine wpAnyH_ready (rs:=[11]) (by kernel_rfl) (by simp) ?_
  refine AllReadyH.cons (o:={dst:=none,op:=Op.store 39 (Operand.tmp 6) (Operand.tmp 23),type:=0,pos:= "quotient.go:30",after:=#[{on:=10,ground:=Ground.data},{on:=8,ground:=Ground.data},{on:=6,ground:=Ground.chain},{on:=0,ground:=Ground.phase},{on:=1,ground:=Ground.phase},{on:=2,ground:=Ground.phase},{on:=3,ground:=Ground.phase},{on:=4,ground:=Ground.phase},{on:=5,ground:=Ground.phase},{on:=6,ground:=Ground.phase},{on:=7,ground:=Ground.phase},{on:=8,ground:=Ground.phase},{on:=9,ground:=Ground.textOnly Departure.lateStores},{on:=10,ground:=Ground.phase}],guard:=none}) rfl (fun K D=>?_) AllReadyH.nil
  have q0:=J.c0;have q1:=J.c1;have f0:=J.free 0;have f1:=J.free 1
  go_wp2_with fail
  refine D.out _ _ ?_ (fun u=>?_)
  ·exact uH Z _ (Below.setCell (Below.setCell (And.left (by assumption)) U _) U _)
  clear D K q0 q1 f0 f1
  refine wpAnyH_take (i:=12) (oi:={dst:=some 7,op:=Op.assign (Operand.tmp 24),type:=32,pos:= "quotient.go:30",after:=#[{on:=9,ground:=Ground.data},{on:=11,ground:=Ground.chain},{on:=0,ground:=Ground.phase},{on:=1,ground:=Ground.phase},{on:=2,ground:=Ground.phase},{on:=3,ground:=Ground.phase},{on:=4,ground:=Ground.phase},{on:=5,ground:=Ground.phase},{on:=6,ground:=Ground.phase},{on:=7,ground:=Ground.phase},{on:=8,ground:=Ground.phase},{on:=9,ground:=Ground.phase},{on:=10,ground:=Ground.phase},{on:=11,ground:=Ground.phase}],guard:=none}) (v:=(.int .i64 0)) rfl (by kernel_rfl) (by kernel_rfl) (by kernel_rfl) (fun _ _ _ h=>h) (Or.inl ⟨by rfl,?_⟩) (by assumption) ?_
  ·(intro w f;(try dsimp only at f);go_simp)
  simp only[Act.put,List.setIfInBounds_toArray,List.set_cons_zero,List.set_cons_succ]
  refine wpAnyH_done (by kernel_rfl) ?_ _
  have bz:=J.put (.bool F) (.slice G L H)
  have HZ:=aa (show an 0 ((N.setCell ⟨z.heap.size,0,none⟩ (.bool F)).setCell ⟨z.heap.size,1,none⟩ (.slice G L H)) (.agg #[.bool F,.slice G L H]) z2 from((uH I2).put2 (p:=⟨z.heap.size,0,none⟩) (q:=⟨z.heap.size,1,none⟩) (by simp) (by simp) (.bool F) (.slice G L H)).mono (Nat.zero_le _))
  have BZ:=aa (show Below z.heap.size z ((N.setCell ⟨z.heap.size,0,none⟩ (.bool F)).setCell ⟨z.heap.size,1,none⟩ (.slice G L H))from Below.setCell (Below.setCell O U _) U _)
  have r0:=bz.c0;have r1:=bz.c1
  clear J I2 u
  generalize ((N.setCell ⟨z.heap.size,0,none⟩ (.bool F)).setCell ⟨z.heap.size,1,none⟩ (.slice G L H))=WE at*
  go_wp2_with fail
  refine(uH K4 _ _ _ (uH HZ)).mono ?_
  rintro e we ⟨rfl,d⟩
  have Q:=aa ((uH BZ).trans (d.mono (uH BZ).size))
  have HW:=aa ((uH HV).below (uH Q))
  have Y:=(uH XB).all (uH Q)
  have y0:=Y.c0;have y1:=Y.c1;have y2:=Y.c2
  clear r0 r1 bz d BZ HZ Y
  go_wp2_with fail
  refine(uH K5 _ _ _ _ _ (uH HW)).mono ?_
  rintro e wf ⟨rfl,d⟩
  have BF:=aa ((uH B1).trans (((uH Q).trans (d.mono (uH Q).size)).mono (uH B1).size))
  clear d Q HW y0 y1 y2
  go_wp2
  exact bodyPost_ret (v:=.tuple #[.int .i64 z2,.int .i64 tp]) (by simp[results,Tryz.results279,go_sem]) rfl ⟨rfl,uH BF⟩
theorem aC.limbs{w:World}{n:Bool}{a:Option Addr}{l c:Nat}{X m Y:Int}(h:aC w (.agg #[.bool n,.slice a l c,.int .i64 X]) m Y)(u:m.natAbs<dt):
  ∃L,l=L.length∧ag w a c L∧al false L=true∧ai L=m.natAbs∧L.length≤512:=by
 obtain⟨J,K,M,L,f,D,d,F,G,N⟩:=h.right u
 simp only[Value.agg.injEq,Array.mk.injEq,List.cons.injEq,Value.bool.injEq,Value.slice.injEq,and_true]at f
 obtain⟨rfl,⟨rfl,H,rfl⟩,_⟩:=f
 have z:al false L=true:=by
  simp only[al,Bool.and_eq_true,decide_eq_true_eq,Bool.not_eq_true',Bool.and_eq_false_iff,decide_eq_false_iff_not,Bool.or_eq_true]at d⊢
  exact⟨⟨d.1.1,Or.inr trivial⟩,d.2⟩
 exact⟨L,H,D,z,by rw[←F,aM],G⟩
theorem Ao{B:Nat}{w:World}{v:Value}{x:Int}(u:an B w v x)(G:-9223372036854775808≤x)(H:x≤9223372036854775807):
  Calls Tryz.prog 299 #[v] w fun e w'=>e=.returned (.tuple #[.int .i64 x,.int .i64 0])∧Below w.heap.size w w':=by
 obtain⟨d,z,D,A,rfl,F,h,l,J⟩:=u.right (cS _ (by omega))
 have:=py d z D A w F (by omega)
 have f:g9 x=true:=by unfold g9;rw[decide_eq_true (by omega)]
 rwa[show rq d A=x by unfold rq;rw[h,l,f];rfl,show rp d A=0 by unfold rp;rw[h,l,f];rfl]at this
theorem nM(b:Nat)(w:World)(F:b<18446744073709551616)(G:aA b=true)(M:fK b≠0)(N:bT w):
  Calls Tryz.prog 279 #[.int .u64 b] w fun r w'=>r=.returned (.tuple #[.int .i64 (dS b:Nat),.int .i64 (dT b)])∧Below w.heap.size w w':=by
 obtain⟨Q,U,V,X,Y,Z,x7,x8⟩:=cw b F G M
 have D:(fD b).natAbs<dt:=cS _ (by omega)
 have O:(dS b:Int)=((fD b).natAbs*2^(53-(bl (fD b).natAbs:Int)).toNat:Nat):=by
  unfold dS
  rw[show(53-(bl (fD b).natAbs:Int)).toNat=53-bl (fD b).natAbs by omega]
 refine sL b (fD b) (fX b) (dS b:Nat) (bl (fD b).natAbs:Nat) (dT b) w (by omega) (fun w' h=>df b w' F G (N.all h)) ?_ ?_ ?_ ?_
 ·intro w' n a l c h
  obtain⟨L,rfl,d,u,z,K⟩:=h.limbs D
  have:=qk false a c L w' d (by omega)
  rwa[ig d.2.1 u,z]at this
 ·intro w' n a l c h
  obtain⟨L,rfl,d,u,z,K⟩:=h.limbs D
  have:=gL false a c L (53-(bl (fD b).natAbs:Int)) w' d (by omega) (by omega)
  have H:oT false L (53-(bl (fD b).natAbs:Int))=(dS b:Int):=by
   unfold oT
   rw[if_pos (by omega),z,O];rfl
  have f:kT false L (53-(bl (fD b).natAbs:Int))=true:=by unfold kT;rw[u,decide_eq_true (by omega)];rfl
  have J:((dS b:Nat):Int).natAbs<dt:=cS _ (by omega)
  rwa[show tU false L (53-(bl (fD b).natAbs:Int))=0 by unfold tU;rw[f,if_pos rfl,H,eU _ J],show rM false L (53-(bl (fD b).natAbs:Int))=(dS b:Nat) by unfold rM;rw[f,if_pos rfl,H,eW _ J]]at this
 ·intro B w' v h
  exact Ao h (by omega) (by omega)
 ·intro w' n a l c h
  obtain⟨L,rfl,d,u,z,K⟩:=h.limbs D
  have:=j4 false a c L (fX b) w' d (by omega)
  rwa[ig d.2.1 u,z,aW _ (by omega)]at this
theorem sM(a b:Nat)(x y l u q E M X O:Int)(w:World)(r o:Nat)(ht:-3000≤l∧l≤3000∧-3000≤u∧u≤3000)(Y:E=l-u-55)
  (Z:∀w',Below w.heap.size w w'→Calls Tryz.prog 279 #[.int .u64 a] w' fun r f=>r=.returned (.tuple #[.int .i64 x,.int .i64 l])∧Below w'.heap.size w' f)
  (C2:∀w',Below w.heap.size w w'→Calls Tryz.prog 279 #[.int .u64 b] w' fun r f=>r=.returned (.tuple #[.int .i64 y,.int .i64 u])∧Below w'.heap.size w' f)
  (C3:∀w',Calls Tryz.prog 280 #[.int .i64 x,.int .i64 y] w' fun r f=>r=.returned (.int .i64 q)∧w'=f)
  (C4:∀w',Calls Tryz.prog 237 #[.int .i64 q] w' fun r f=>∃v,r=.returned v∧an w'.heap.size f v q∧Below w'.heap.size w' f)
  (C5:∀B w' v,Below w.heap.size w w'→an B w' v q→Calls Tryz.prog 236 #[v,.int .i64 E] w' fun r f=>mi f r 0 M X∧Below w'.heap.size w' f)
  (C6:∀w' v,Below w.heap.size w w'→aC w' v M X→Calls Tryz.prog 251 #[v] w' fun s f=>s=.returned (.tuple #[.int .u64 (r:Nat),.int .u8 O,.int .i64 0])∧Below w'.heap.size w' f)
  (C7:∀w',Calls Tryz.prog 253 #[.int .u64 (r:Nat),.int .u64 a,.int .u64 b] w' fun s f=>s=.returned (.int .u64 (o:Nat))∧Below w'.heap.size w' f):
  Calls Tryz.prog 255 #[.int .u64 a,.int .u64 b] w fun s w'=>s=.returned (.tuple #[.int .u64 (o:Nat),.int .u8 O])∧Below w.heap.size w w':=by
 have K1:=aa Z;have K2:=aa C2;have K3:=aa C3;have K4:=aa C4;have K5:=aa C5;have K6:=aa C6;have K7:=aa C7
 clear Z C2 C3 C4 C5 C6 C7
 have e1:=aW (l-u) (by omega)
 have e2:=aW (l-u-55) (by omega)
 rw[←Y]at e2
 go_enter Tryz.func255,Tryz.ntmps255
 go_wp2_with fail
 refine(uH K1 _ (Below.refl _ _)).mono ?_
 rintro e w1 ⟨rfl,d⟩
 have F:=aa d
 clear d K1
 go_wp2_with fail
 refine(uH K2 _ (uH F)).mono ?_
 rintro e w2 ⟨rfl,d⟩
 have Q:=aa ((uH F).trans (d.mono (uH F).size))
 clear d K2 F
 go_wp2_with fail
 refine(uH K3 _).mono ?_
 rintro e wk ⟨rfl,rfl⟩
 go_wp2_with fail
 refine(uH K4 _).mono ?_
 rintro e w3 ⟨v,rfl,⟨n3,a3,c3,V,rfl,i3⟩,d⟩
 have G:=aa ((uH Q).trans (d.mono (uH Q).size))
 have I3:=aa (show an w2.heap.size w3 (.agg #[.bool n3,.slice a3 V.length c3]) q from⟨n3,a3,c3,V,rfl,i3⟩)
 clear d K3 K4 Q i3
 generalize V.length=l3 at*
 subst Y
 go_wp2_with fail
 refine(uH K5 _ _ _ (uH G) (uH I3)).mono ?_
 rintro e D ⟨⟨v,rfl,hv⟩,d⟩
 obtain⟨K,L,N,z,rfl,i1⟩:=hv
 have h:Below D.heap.size D (D.alloc (.cells #[.bool K,.slice L z.length N,.int .i64 X] 41)):=(Below.refl _ _).alloc (Nat.le_refl _) _
 have HX:=aa ((show aC D (.agg #[.bool K,.slice L z.length N,.int .i64 X]) M X from⟨K,L,N,z,rfl,i1⟩).below h)
 have H:=aa ((uH G).trans ((d.trans (h.mono d.size)).mono (uH G).size))
 have J:=ay.new D (.bool K) (.slice L z.length N) (.int .i64 X)
 have y0:=J.c0;have y1:=J.c1;have y2:=J.c2
 clear i1 d h K5 G J I3
 generalize z.length=l1 at*
 go_wp2_with fail
 refine(uH K6 _ _ (uH H) (uH HX)).mono ?_
 rintro e w5 ⟨rfl,d⟩
 have U:=aa ((uH H).trans (d.mono (uH H).size))
 clear d K6 H y0 y1 y2 HX
 go_wp2_with fail
 refine(uH K7 _).mono ?_
 rintro e w6 ⟨rfl,d⟩
 have B6:=aa ((uH U).trans (d.mono (uH U).size))
 clear d K7 U
 go_wp2
 exact bodyPost_ret (v:=.tuple #[.int .u64 o,.int .u8 O]) (by simp[results,Tryz.results255,go_sem]) rfl ⟨rfl,uH B6⟩
theorem Ig{S:Nat}(h:S<144115188075855872):S<2^57:=by
 have:(2:Nat)^57=144115188075855872:=by decide
 omega
theorem qO(a b S D F r:Nat)(f l L:Int)(w:World)(X:a<18446744073709551616)(Y:b<18446744073709551616)(hr:r≤9218868437227405312)
  (ht:-1100≤f∧f≤1100∧-1100≤l∧l≤1100) (s1:S≠0) (Z:S<144115188075855872)
  (M:bf S (f-l-55)=r) (N:bj (oM (S:Nat)).natAbs (oE (S:Nat) (f-l-55))=L) (O:bT w)
  (C1:∀w',Below w.heap.size w w'→Calls Tryz.prog 279 #[.int .u64 a] w' fun r d=>r=.returned (.tuple #[.int .i64 (D:Nat),.int .i64 f])∧Below w'.heap.size w' d)
  (C2:∀w',Below w.heap.size w w'→Calls Tryz.prog 279 #[.int .u64 b] w' fun r d=>r=.returned (.tuple #[.int .i64 (F:Nat),.int .i64 l])∧Below w'.heap.size w' d)
  (C3:∀w',Calls Tryz.prog 280 #[.int .i64 (D:Nat),.int .i64 (F:Nat)] w' fun r d=>r=.returned (.int .i64 (S:Nat))∧w'=d):
  Calls Tryz.prog 255 #[.int .u64 a,.int .u64 b] w fun s w'=>s=.returned (.tuple #[.int .u64 (bY (fS a^^fS b) r:Nat),.int .u8 L])∧Below w.heap.size w w':=by
 have Q:((S:Nat):Int).natAbs<dt:=cS _ (by omega)
 have z:((S:Nat):Int)≠0:=by omega
 have ae:tz ((S:Nat):Int).natAbs<57:=lF _ 57 (by omega) (by rw[Int.natAbs_natCast];exact Ig Z)
 obtain⟨E,V⟩:∃E,E=f-l-55:=⟨_,rfl⟩
 rw[←V]at M N
 have am:-2300≤E∧E≤2300:=by omega
 have H:kU (S:Nat) E=true:=by
  unfold kU
  rw[decide_eq_true (show-32768≤E∧E≤32768 by omega),decide_eq_true (show-16384≤E+(tz ((S:Nat):Int).natAbs:Int)∧E+(tz ((S:Nat):Int).natAbs:Int)≤16384 by omega),Bool.or_true]
  rfl
 have J:qn (oM (S:Nat)) (oE (S:Nat) E)=true:=by
  unfold qn
  rw[if_neg (gj _ z).1,dz _ _ z,decide_eq_true (gj _ z).2,decide_eq_true (by omega)]
  rfl
 have K:(oM (S:Nat)).natAbs<dt:=Nat.lt_of_le_of_lt (vB _) Q
 have U:∀w' v,Below w.heap.size w w'→aC w' v (oM (S:Nat)) (oE (S:Nat) E)→_:=fun w' v h G=>iL G K J (O.all h)
 rw[(jg ((S:Nat):Int) E).1,jf,decide_eq_false (show¬((S:Nat):Int)<0 by omega),aQ,Int.natAbs_natCast,M,N]at U
 refine sM a b (D:Nat) (F:Nat) f l (S:Nat) E _ _ _ w _ _ (by omega) V C1 C2 C3
  (fun w'=>uc _ w' (by omega) (by omega)) (fun B w' v h G=>?_) U (fun w'=>eZ r a b w' X Y (by omega))
 have:=iJ E G Q (by omega) (O.all h)
 unfold cK dM dX at this
 rw[H]at this
 exact this.mono fun r d ⟨u,g1,g2,g3⟩=>⟨⟨u,g1,g2⟩,g3⟩
theorem Gw(a b:Nat):cq (dS a*2^54) (dS b)=pS a b:=by unfold pS;rfl
theorem Fk(b:Nat)(d:b<18446744073709551616)(f:aA b=true)(h:fK b≠0):-1100≤dT b∧dT b≤1100:=by
 obtain⟨l,u,z,D,F,G,H,J⟩:=cw b d f h
 unfold dT
 omega
theorem o6(a b:Nat)(w:World)(D:a<18446744073709551616)(l:b<18446744073709551616)(u:aA a=true)(d:aA b=true)(z:fK a≠0)(f:fK b≠0)(F:bT w):
  Calls Tryz.prog 255 #[.int .u64 a,.int .u64 b] w fun r w'=>r=.returned (.tuple #[.int .u64 (dV a b:Nat),.int .u8 (dF a b)])∧Below w.heap.size w w':=by
 obtain⟨Y,Z,y3,N,y5,y6,y7,y8⟩:=cw b l d f
 obtain⟨O,Q,U⟩:=zZ a b D l u d z f
 obtain⟨V,X⟩:=zY a b D l u d z f
 have K:qV a b≤9218868437227405312:=cH _ _
 have G:=fun w'=>qN (dS a) (dS b) w' N U
 have H:=Fk a D u z
 have J:=Fk b l d f
 have L:=(zH a b u d z f).1
 have M:=(zH a b u d z f).2
 rw[Gw]at G
 rw[L,M]
 exact qO a b (pS a b) (dS a) (dS b) (qV a b) (dT a) (dT b) (qF a b) w D l K ⟨H.1,H.2,J.1,J.2⟩ O Q V X F (fun w' h=>nM a w' D u z (F.all h)) (fun w' h=>nM b w' l d f (F.all h)) G
end Go.Proofs.YtdhmglmccafbnaaGreatDoor
