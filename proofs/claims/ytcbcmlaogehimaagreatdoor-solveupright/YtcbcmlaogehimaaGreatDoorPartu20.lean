/- Part 20 of the texts. -/
import Derived.Test.YtcbcmlaogehimaaGreatDoorPartu19
set_option maxHeartbeats 8000000
set_option maxRecDepth 20000
namespace Go.Proofs.YtcbcmlaogehimaaGreatDoor
open Go.RowKit
def eN(b:Nat):Int:=if ah b=true then 0 else if fS b=true then-1 else 1
theorem Ka(b:Nat)(f s:Bool)(w:World)
  (F:∀l,GF 88 #[CI b] l fun r h=>r=.returned (.bool f)/\l=h)
  (G:∀l,GF 115 #[CI b] l fun r h=>r=.returned (.bool s)/\l=h):
  GF 190 #[CI b] w fun e l=>e=.returned (C0 (if f=true then 0 else if s=true then-1 else 1))/\w=l:=by
 have D:=ac F;have H:=ac G;clear F G
 cases f
 ·cases s
  ·go_enter Tryz.func190,Tryz.ntmps190
   go_wp2_with fail;refine(uH D _).mono ?_;rintro e t ⟨rfl,rfl⟩;go_wp2_with fail;refine(uH H _).mono ?_;rintro e t ⟨rfl,rfl⟩
   go_wp2
   go_ret
   exact⟨rfl,rfl⟩
  ·go_enter Tryz.func190,Tryz.ntmps190
   go_wp2_with fail;refine(uH D _).mono ?_;rintro e t ⟨rfl,rfl⟩;go_wp2_with fail;refine(uH H _).mono ?_;rintro e t ⟨rfl,rfl⟩
   go_wp2
   go_ret
   exact⟨rfl,rfl⟩
 ·go_enter Tryz.func190,Tryz.ntmps190
  go_wp2_with fail;refine(uH D _).mono ?_;rintro e t ⟨rfl,rfl⟩
  go_wp2
  go_ret
  exact⟨rfl,rfl⟩
theorem wV(b:Nat)(w:World)(l:b<18446744073709551616):
  GF 190 #[CI b] w fun e h=>e=.returned (C0 (eN b))/\w=h:=
 Ka b (ah b) (fS b) w (fun h=>jo b h l) (fun h=>lu b h l)
theorem Di(a b:Nat)(w:World)
  (t:∀h,GF 89 #[CI a] h fun r l=>r=.returned (C0 4)/\h=l):
  BS 143 #[CI a,CI b] w (.tuple #[C0 0,.bool false]):=by
 have D:=ac t;clear t
 go_enter Tryz.func143,Tryz.ntmps143
 go_wp2_with fail;refine(uH D _).mono ?_;rintro e F ⟨rfl,rfl⟩;clear D
 go_wp2
 exact bodyPost_ret (v:=.tuple #[C0 0,.bool false]) (by simp[results,Tryz.results143,go_sem]) rfl ⟨rfl,Below.refl _ _⟩
theorem Dj(a b:Nat)(t:Int)(w:World)(J:(t==4)=false)
  (D:∀l,GF 89 #[CI a] l fun r h=>r=.returned (C0 t)/\l=h)
  (F:∀l,GF 89 #[CI b] l fun r h=>r=.returned (C0 4)/\l=h):
  BS 143 #[CI a,CI b] w (.tuple #[C0 0,.bool false]):=by
 have G:=ac D;have H:=ac F;clear D F
 go_enter Tryz.func143,Tryz.ntmps143
 go_wp2_with fail;refine(uH G _).mono ?_;rintro e I ⟨rfl,rfl⟩;clear G;go_wp2_with fail;refine(uH H _).mono ?_;rintro e I ⟨rfl,rfl⟩;clear H
 go_wp2
 exact bodyPost_ret (v:=.tuple #[C0 0,.bool false]) (by simp[results,Tryz.results143,go_sem]) rfl ⟨rfl,Below.refl _ _⟩
theorem iC(a b:Nat)(D F x y o:Int)(w:World)(Q:(D==4)=false)(U:(F==4)=false)
  (O:(x=0/\y= -1/\o=1)\/(x=0/\y=1/\o= -1)\/(x= -1/\y=0/\o= -1)\/(x=1/\y=0/\o=1)\/(x= -1/\y= -1/\o=0)\/(x=1/\y=1/\o=0)\/(x= -1/\y=1/\o= -1)\/(x=1/\y= -1/\o=1))
  (G:∀l,GF 89 #[CI a] l fun r h=>r=.returned (C0 D)/\l=h)
  (H:∀l,GF 89 #[CI b] l fun r h=>r=.returned (C0 F)/\l=h)
  (I:∀l,GF 190 #[CI a] l fun r h=>r=.returned (C0 x)/\l=h)
  (J:∀l,GF 190 #[CI b] l fun r h=>r=.returned (C0 y)/\l=h):
  BS 143 #[CI a,CI b] w (.tuple #[C0 o,.bool true]):=by
 have K:=ac G;have L:=ac H;have M:=ac I;have N:=ac J;clear G H I J;rcases O with⟨rfl,rfl,rfl⟩|⟨rfl,rfl,rfl⟩|⟨rfl,rfl,rfl⟩|⟨rfl,rfl,rfl⟩|⟨rfl,rfl,rfl⟩|⟨rfl,rfl,rfl⟩|⟨rfl,rfl,rfl⟩|⟨rfl,rfl,rfl⟩
 all_goals
  go_enter Tryz.func143,Tryz.ntmps143
  go_wp2_with fail;refine(uH K _).mono ?_;rintro e t ⟨rfl,rfl⟩;clear K;go_wp2_with fail;refine(uH L _).mono ?_;rintro e t ⟨rfl,rfl⟩;clear L;go_wp2_with fail;refine(uH M _).mono ?_;rintro e t ⟨rfl,rfl⟩;clear M;go_wp2_with fail;refine(uH N _).mono ?_;rintro e t ⟨rfl,rfl⟩;clear N
  go_wp2
  refine bodyPost_ret (v:=.tuple #[C0 _,.bool true]) (by simp[results,Tryz.results143,go_sem];try rfl) rfl ⟨rfl,Below.refl _ _⟩
theorem F9(a b:Nat)(L M z1 z2 F G o:Int)(w:World)(h4:(L==4)=false)(g4:(M==4)=false)
  (N:∀l,GF 89 #[CI a] l fun r h=>r=.returned (C0 L)/\l=h)
  (O:∀l,GF 89 #[CI b] l fun r h=>r=.returned (C0 M)/\l=h)
  (Q:∀l,GF 190 #[CI a] l fun r h=>r=.returned (C0 0)/\l=h)
  (U:∀l,GF 190 #[CI b] l fun r h=>r=.returned (C0 0)/\l=h)
  (Z:∀l,GF 60 #[CI a] l fun r h=>∃u,r=.returned u/\aH h u z1 F/\H8 l h)
  (C6:∀l,GF 60 #[CI b] l fun r h=>∃u,r=.returned u/\aH h u z2 G/\H8 l h)
  (C7:∀l v u,aH l v z1 F->aH l u z2 G->BS 33 #[v,u] l (C0 o)):
  BS 143 #[CI a,CI b] w (.tuple #[C0 o,.bool true]):=by
 have K1:=ac N;have K2:=ac O;have K3:=ac Q;have K4:=ac U;have K5:=ac Z;have K6:=ac C6;have K7:=ac C7;clear N O Q U Z C6 C7
 go_enter Tryz.func143,Tryz.ntmps143
 go_wp2_with fail;refine(uH K1 _).mono ?_;rintro e D ⟨rfl,rfl⟩;clear K1;go_wp2_with fail;refine(uH K2 _).mono ?_;rintro e D ⟨rfl,rfl⟩;clear K2;go_wp2_with fail;refine(uH K3 _).mono ?_;rintro e D ⟨rfl,rfl⟩;clear K3;go_wp2_with fail;refine(uH K4 _).mono ?_;rintro e D ⟨rfl,rfl⟩;clear K4;go_wp2_with fail;refine(uH K5 _).mono ?_;rintro e D ⟨v,rfl,K,t⟩;obtain⟨n1,a1,c1,L1,rfl,i1⟩:=K;have HV:=ac (show aH D (.agg #[.bool n1,.slice a1 L1.length c1,C0 F]) z1 F from⟨n1,a1,c1,L1,rfl,i1⟩);have H:=ac t;clear i1 t K5;go_wp2_with fail;refine(uH K6 _).mono ?_;rintro e w2 ⟨v,rfl,K,t⟩;obtain⟨n2,a2,c2,L2,rfl,i2⟩:=K;have HU:=ac (show aH w2 (.agg #[.bool n2,.slice a2 L2.length c2,C0 G]) z2 G from⟨n2,a2,c2,L2,rfl,i2⟩);have I:=ac ((uH HV).below t);have J:=ac ((uH H).trans (t.mono (uH H).size));clear i2 t K6 H HV;go_wp2_with fail;refine(uH K7 _ _ _ (uH I) (uH HU)).mono ?_;rintro e w3 ⟨rfl,t⟩;have B3:=ac ((uH J).trans (t.mono (uH J).size));clear t K7 J
 go_wp2
 exact bodyPost_ret (v:=.tuple #[C0 o,.bool true]) (by simp[results,Tryz.results143,go_sem]) rfl ⟨rfl,uH B3⟩
theorem zv{b:Nat}(h:ah b=true):eN b=0:=by unfold eN;rw[if_pos h]
theorem zw{b:Nat}(h:fK b=3):(eN b= -1/\fZ b= -((2^2098:Nat):Int))\/(eN b=1/\fZ b=((2^2098:Nat):Int)):=by
 have t:ah b=false:=by
  rcases i9 b with l|l
  ·exact l.1
  ·omega
 have D:=(cY b).2.1.1 h;unfold eN fZ pv;rw[D,Fo,if_neg (by rw[t];decide)]
 cases fS b
 ·exact .inr ⟨rfl,rfl⟩
 ·exact .inl ⟨rfl,rfl⟩
theorem zA(a b:Nat)(w:World)(ha:a<18446744073709551616)(hb:b<18446744073709551616):
  BS 143 #[CI a,CI b] w (.tuple #[C0 (cO a b),.bool (cB a b)]):=by
 have F:=fun t=>lw a t ha
 have H:=fun t=>lw b t hb
 have G:=fun t=>wV a t ha
 have D:=fun t=>wV b t hb
 unfold cO cB
 by_cases K:fK a=4
 ·rw[if_pos (Or.inl K),if_pos (Or.inl K)]
  rw[K]at F;exact Di a b w F
 by_cases L:fK b=4
 ·rw[if_pos (Or.inr L),if_pos (Or.inr L)]
  rw[L]at H;exact Dj a b _ w (by simp[K]) F H
 have h:¬(fK a=4\/fK b=4):=fun h=>h.elim K L
 rw[if_neg h,if_neg h];have I:(fK a==4)=false:=by simp[K]
 have J:(fK b==4)=false:=by simp[L]
 have hP:(0:Int)<((2^2098:Nat):Int):=Int.natCast_pos.2 (Nat.two_pow_pos 2098)
 by_cases a3:fK a=3
 ·have za:=zw a3
  by_cases N:fK b=3
  ·have zb:=zw N
   rcases za with⟨O,Q⟩|⟨O,Q⟩<;>rcases zb with⟨U,Z⟩|⟨U,Z⟩<;>rw[O]at G<;>rw[U]at D<;>rw[Q,Z]<;>generalize ((2^2098:Nat):Int)=P at*
   ·rw[kO rfl];exact iC a b _ _ _ _ _ w I J (by decide) F H G D
   ·rw[jN (by omega)];exact iC a b _ _ _ _ _ w I J (by decide) F H G D
   ·rw[jO (by omega)];exact iC a b _ _ _ _ _ w I J (by decide) F H G D
   ·rw[kO rfl];exact iC a b _ _ _ _ _ w I J (by decide) F H G D
  ·have M:=fO b N L
   have l:=ew b M;rw[zv M]at D;rcases za with⟨O,Q⟩|⟨O,Q⟩<;>rw[O]at G<;>rw[Q]<;>generalize (2^2098:Nat)=P at*
   ·rw[jN (by omega)];exact iC a b _ _ _ _ _ w I J (by decide) F H G D
   ·rw[jO (by omega)];exact iC a b _ _ _ _ _ w I J (by decide) F H G D
 ·have fa:=fO a a3 K
  have la:=ew a fa;rw[zv fa]at G
  by_cases N:fK b=3
  ·have zb:=zw N
   rcases zb with⟨U,Z⟩|⟨U,Z⟩<;>rw[U]at D<;>rw[Z]<;>generalize (2^2098:Nat)=P at*
   ·rw[jO (by omega)];exact iC a b _ _ _ _ _ w I J (by decide) F H G D
   ·rw[jN (by omega)];exact iC a b _ _ _ _ _ w I J (by decide) F H G D
  ·have M:=fO b N L
   rw[zv M]at D;clear la;obtain⟨d1,d2⟩:=d7 a ha fa;obtain⟨d3,d4⟩:=d7 b hb M;exact F9 a b _ _ (fD a) (fD b) (fX a) (fX b) _ w I J F H G D (fun t=>ke a t ha) (fun t=>ke b t hb)
    (fun t v u hv hu=>Mu (W:=2099) (lo:=-1074) (z1:=fZ a) (z2:=fZ b) (by rw[d1,d2];exact hv) (by rw[d3,d4];exact hu) (oP a fa) (oP b M))
theorem Dk(a:Nat)(w:World)(h:a<18446744073709551616):
  GF 142 #[CI a] w fun e t=>e=.returned (CI (fR a:Nat))/\w=t:=by
 have l:=ac (fun t=>lu a t h);have D:=ac (fun t=>vN a t h)
 cases hs:fS a
 ·rw[hs]at l
  rw[wF a hs h];clear hs h D
  go_enter Tryz.func142,Tryz.ntmps142
  go_wp2_with fail;refine(uH l _).mono ?_;rintro e F ⟨rfl,rfl⟩;clear l
  go_wp2
  go_ret
  exact⟨rfl,rfl⟩
 ·rw[hs]at l
  rw[tR a hs h];clear hs h;generalize fN a=q at*
  go_enter Tryz.func142,Tryz.ntmps142
  go_wp2_with fail;refine(uH l _).mono ?_;rintro e F ⟨rfl,rfl⟩;clear l;go_wp2_with fail;refine(uH D _).mono ?_;rintro e G ⟨rfl,rfl⟩;clear D
  go_wp2
  go_ret
  exact⟨rfl,rfl⟩
theorem sX(x y S:Nat)(Q R:Nat->Nat)(w:World)(hy:y<9007199254740992)(Z:Q 0=0/\R 0=x)
  (hs:∀i,Q (i+1)=2*Q i+(if y<=R i then 1 else 0)/\R (i+1)=2*(R i-(if y<=R i then y else 0)))
  (G:∀i,R i<2*y) (H:∀i,i<55->Q i<18014398509481984) (h5:Q 55<36028797018963968) (he:S=2*Q 55+(if 0<R 55 then 1 else 0)):
  GF 284 #[C0 x,C0 y] w fun r w'=>r=.returned (C0 (S:Nat))/\w=w':=by
 have l:=ac Z;have I:=ac hs;have t:=ac G;have J:=ac H;have h:=ac he;clear Z hs G H he
 go_enter Tryz.func284,Tryz.ntmps284
 go_wp2
 go_loop [0,5,6] (fun p q i=>∃k:Nat,k<=55/\i=.int .i64 k/\p=.int .i64 (R k:Nat)/\q=.int .i64 (Q k:Nat)) (fun _ _ i=>55-(intOf i).toNat)
 case atStart=>exact⟨0,by omega,rfl,by rw[(uH l).2],by rw[(uH l).1];rfl⟩
 case round=>
  obtain⟨k,hk,rfl,rfl,rfl⟩:=hrel
  by_cases K:k<55
  ·have s1:=uH I k
   have r1:=uH t k;have q3:=uH J k K;obtain⟨s2,s3⟩:=s1;have D:=ac s2;have F:=ac s3;clear s2 s3 l I t J h;generalize G:R k=r at*;generalize H:Q k=q at*
   by_cases c:y<=r
   ·have L:(r:Int)≥(y:Int):=by omega
    have N:=ac (show Q (k+1)=2*q+1 by rw[uH D,if_pos c]);have O:=ac (show R (k+1)=2*(r-y) by rw[uH F,if_pos c]);clear D F
    go_wp2
    go_round
    case rel=>exact⟨k+1,by omega,by go_num,dG (by rw[uH O];omega),dG (by rw[uH N];omega)⟩
    case measure=>simp[intOf];omega
   ·have L:¬(r:Int)≥(y:Int):=by omega
    have N:=ac (show Q (k+1)=2*q by rw[uH D,if_neg c];rfl);have O:=ac (show R (k+1)=2*r by rw[uH F,if_neg c];rfl);clear D F
    go_wp2
    go_round
    case rel=>exact⟨k+1,by omega,by go_num,dG (by rw[uH O];omega),dG (by rw[uH N];omega)⟩
    case measure=>simp[intOf];omega
  ·have U:k=55:=by omega
   subst U;have r1:=uH t 55;clear l I t J;generalize R 55=r at*;generalize Q 55=q at*
   by_cases c:0<r
   ·have M:=ac (show S=2*q+1 by rw[uH h,if_pos c])
    have L:(r:Int)>0:=by omega
    clear h
    go_wp2
    go_ret
    exact⟨bh (by rw[uH M];omega),rfl⟩
   ·have M:=ac (show S=2*q by rw[uH h,if_neg c];rfl)
    have L:¬(r:Int)>0:=by omega
    clear h
    go_wp2
    go_ret
    exact⟨bh (by rw[uH M];omega),rfl⟩
theorem Qc(x y i:Nat)(l:x<2*y)(D:i<55):lQ x y i<18014398509481984:=by
 have t:=FJ x y i l;have h:(2:Nat)^i<=2^54:=Nat.pow_le_pow_right (by decide) (by omega);rw[show(2:Nat)^54=18014398509481984 by decide]at h;exact Nat.lt_of_lt_of_le t h
theorem Qd(x y:Nat)(h:x<2*y):lQ x y 55<36028797018963968:=by
 have l:=FJ x y 55 h
 rwa[show(2:Nat)^55=36028797018963968 by decide]at l
theorem uO(x y:Nat)(w:World)(l:y<9007199254740992)(h:x<2*y):
  GF 284 #[C0 x,C0 y] w fun r t=>r=.returned (C0 (dC (x*2^54) y:Nat))/\w=t:=
 sX x y _ (lQ x y) (lR x y) w l (NU x y h) (fun i=>NW x y i (by omega)) (fun i=>PT x y i (by omega)) (fun i D=>Qc x y i h D) (Qd x y h) (MD x y)
theorem wW(b:Nat)(z1 X1 z2 ln tp:Int)(w:World)(ap:1<=ln/\ln<=53)
  (C1:∀H,H8 w H->GF 168 #[CI b] H fun r Q=>pG Q r 0 z1 X1/\H8 H Q)
  (C2:∀H n a l c,aH H (.agg #[.bool n,.slice a l c,C0 X1]) z1 X1->BS 208 #[.agg #[.bool false,.slice a l c]] H (C0 ln))
  (C3:∀H n a l c,aH H (.agg #[.bool n,.slice a l c,C0 X1]) z1 X1->GF 238 #[.agg #[.bool false,.slice a l c],C0 (53-ln)] H fun r Q=>∃v,r=.returned (.tuple #[v,C0 0])/\aA H.heap.size Q v z2/\H8 H Q)
  (C4:∀B H v,aA B H v z2->BS 290 #[v] H (.tuple #[C0 z2,C0 0]))
  (C5:∀H n a l c,aH H (.agg #[.bool n,.slice a l c,C0 X1]) z1 X1->BS 169 #[.agg #[.bool false,.slice a l c,C0 X1]] H (C0 tp)):
  BS 283 #[CI b] w (.tuple #[C0 z2,C0 tp]):=by
 have K1:=ac C1;have K2:=ac C2;have K3:=ac C3;have K4:=ac C4;have K5:=ac C5;clear C1 C2 C3 C4 C5
 go_enter Tryz.func283,Tryz.ntmps283
 go_wp2_with fail;refine(uH K1 _ (Below.refl _ _)).mono ?_;rintro e w1 ⟨⟨v,rfl,hv⟩,t⟩;obtain⟨n1,a1,c1,L1,rfl,i1⟩:=hv;have x:=ar.new w1 (.bool n1) (.slice a1 L1.length c1) (C0 X1);have y0:=x.c0;have y1:=x.c1;have y2:=x.c2;have f0:=x.free 0;have f1:=x.free 1;have f2:=x.free 2;clear x;generalize hl:L1.length=l1 at*;have hd:aH w1 (.agg #[.bool n1,.slice a1 l1 c1,C0 X1]) z1 X1:=⟨n1,a1,c1,L1,by rw[hl],by rw[hl];exact i1⟩;clear i1 hl K1;go_wp2_with fail;clear y0 y1 y2 f0 f1 f2;have aa:H8 w1 (w1.alloc (.cells #[.bool false,.slice a1 l1 c1,C0 X1] 35)):=(Below.refl _ _).alloc (Nat.le_refl _) _;have x:=ar.new w1 (.bool false) (.slice a1 l1 c1) (C0 X1);have HV:=ac (hd.below aa);have B1:=ac (t.trans (aa.mono t.size));clear hd t aa;refine aB (fun W=>W=(w1.alloc (.cells #[.bool false,.slice a1 l1 c1,C0 X1] 35))) rfl ?_;rintro G e0;rw[<-e0]at x HV B1;clear e0;generalize w1.heap.size=g at*;have I:∀H,H8 G H->H8 G H/\H.cell? ⟨g,0,none⟩=some (.bool false)/\H.cell? ⟨g,1,none⟩=some (.slice a1 l1 c1):=fun H h=>
  ⟨h,(x.all h).c0,(x.all h).c1⟩
 have HK:=ac I;have XB:=ac x;clear I x;refine wp_region_held_drew (S:=(fun H=>H8 G H/\H.cell? ⟨g,0,none⟩=some (.bool false)/\H.cell? ⟨g,1,none⟩=some (.slice a1 l1 c1))) (by kernel_rfl) ?_ (fun F=>?_)
 ·exact uH HK _ (Below.refl _ _).drew
 refine wpAnyH_take (i:=0) (oi:={dst:=some 16,op:=Op.fieldAddr 35 (Operand.tmp 4) 0,type:=0,pos:= "quotient.go:30",after:=#[],guard:=none}) (v:=Value.pointer (some ⟨g,0,none⟩)) rfl (by kernel_rfl) (by kernel_rfl) (by kernel_rfl) (fun _ _ _ h=>h) (Or.inl ⟨by rfl,?_⟩) (by assumption) ?_
 ·(intro w D;(try dsimp only at D);go_simp)
 simp only[Act.put,List.setIfInBounds_toArray,List.set_cons_zero,List.set_cons_succ];refine wpAnyH_take (i:=1) (oi:={dst:=some 17,op:=Op.load 33 (Operand.tmp 16),type:=33,pos:= "quotient.go:30",after:=#[{on:=0,ground:=Ground.data}],guard:=none}) (v:=(Value.agg #[.bool false,.slice a1 l1 c1])) rfl (by kernel_rfl) (by kernel_rfl) (by kernel_rfl) (fun _ _ _ h=>h) (Or.inl ⟨by rfl,?_⟩) (by assumption) ?_
 ·(intro w D;(try dsimp only at D);go_simp)
 simp only[Act.put,List.setIfInBounds_toArray,List.set_cons_zero,List.set_cons_succ];refine wpAnyH_take (i:=2) (oi:={dst:=some 18,op:=Op.fieldAddr 35 (Operand.tmp 4) 0,type:=0,pos:= "quotient.go:30",after:=#[],guard:=none}) (v:=Value.pointer (some ⟨g,0,none⟩)) rfl (by kernel_rfl) (by kernel_rfl) (by kernel_rfl) (fun _ _ _ h=>h) (Or.inl ⟨by rfl,?_⟩) (by assumption) ?_
 ·(intro w D;(try dsimp only at D);go_simp)
 simp only[Act.put,List.setIfInBounds_toArray,List.set_cons_zero,List.set_cons_succ];refine wpAnyH_take (i:=3) (oi:={dst:=some 19,op:=Op.load 33 (Operand.tmp 18),type:=33,pos:= "quotient.go:30",after:=#[{on:=2,ground:=Ground.data}],guard:=none}) (v:=(Value.agg #[.bool false,.slice a1 l1 c1])) rfl (by kernel_rfl) (by kernel_rfl) (by kernel_rfl) (fun _ _ _ h=>h) (Or.inl ⟨by rfl,?_⟩) (by assumption) ?_
 ·(intro w D;(try dsimp only at D);go_simp)
 simp only[Act.put,List.setIfInBounds_toArray,List.set_cons_zero,List.set_cons_succ];refine wpAnyH_ready (rs:=[4,10]) (by kernel_rfl) (by simp) ?_;refine AllReadyH.cons (o:={dst:=some 20,op:=Op.call {callee:=Callee.value (Operand.func 208),args:=#[Operand.tmp 19],argTypes:=#[33]},type:=3,pos:= "quotient.go:30",after:=#[{on:=3,ground:=Ground.data}],guard:=none}) rfl (fun K I=>?_) (AllReadyH.cons (o:={dst:=some 6,op:=Op.alloc 33,type:=0,pos:= "quotient.go:30",after:=#[],guard:=none}) rfl (fun K I=>?_) AllReadyH.nil)
 ·go_simp
  refine(uH K2 _ _ _ _ _ ((uH HV).below (And.left (by assumption)))).mono ?_;rintro e wn ⟨rfl,t⟩;have ae:H8 G wn:=Below.trans (And.left (by assumption)) (t.mono (Below.size (And.left (by assumption))));clear t;go_wp2_with fail;refine I.out _ _ ?_ (fun F=>?_)
  ·exact uH HK _ ae
  clear I K;refine wpAnyH_take (i:=5) (oi:={dst:=some 21,op:=Op.binOp BinOp.sub 3 (Operand.const (Value.int IntKind.i64 53)) (Operand.tmp 20) 3,type:=3,pos:= "quotient.go:30",after:=#[{on:=4,ground:=Ground.data}],guard:=none}) (v:=(C0 (53-ln))) rfl (by kernel_rfl) (by kernel_rfl) (by kernel_rfl) (fun _ _ _ h=>h) (Or.inl ⟨by rfl,?_⟩) (by assumption) ?_
  ·(intro w D;(try dsimp only at D);go_simp;exact bC _ (by omega))
  simp only[Act.put,List.setIfInBounds_toArray,List.set_cons_zero,List.set_cons_succ];refine wpAnyH_ready (rs:=[6,10]) (by kernel_rfl) (by simp) ?_;refine AllReadyH.cons (o:={dst:=some 22,op:=Op.call {callee:=Callee.value (Operand.func 238),args:=#[Operand.tmp 17,Operand.tmp 21],argTypes:=#[33,3]},type:=206,pos:= "quotient.go:30",after:=#[{on:=1,ground:=Ground.data},{on:=5,ground:=Ground.data},{on:=4,ground:=Ground.chain}],guard:=none}) rfl (fun K I=>?_) (AllReadyH.cons (o:={dst:=some 6,op:=Op.alloc 33,type:=0,pos:= "quotient.go:30",after:=#[],guard:=none}) rfl (fun K I=>?_) AllReadyH.nil)
  ·go_simp
   refine(uH K3 _ _ _ _ _ ((uH HV).below (And.left (by assumption)))).mono ?_;rintro e U ⟨v,rfl,⟨J,L,M,L2,rfl,i2⟩,t⟩;have Z:H8 G U:=Below.trans (And.left (by assumption)) (t.mono (Below.size (And.left (by assumption))));have I2:=ac (show aA 0 U (.agg #[.bool J,.slice L L2.length M]) z2 from aA.mono ⟨J,L,M,L2,rfl,i2⟩ (Nat.zero_le _));clear i2;generalize L2.length=O at*;clear t;go_wp2_with fail;refine I.out _ _ ?_ (fun F=>?_)
   ·exact uH HK _ Z
   clear I K;refine wpAnyH_take (i:=7) (oi:={dst:=some 15,op:=Op.move (Operand.tmp 22),type:=206,pos:= "quotient.go:30",after:=#[{on:=6,ground:=Ground.data}],guard:=none}) (v:=(Value.tuple #[.agg #[.bool J,.slice L O M],C0 0])) rfl (by kernel_rfl) (by kernel_rfl) (by kernel_rfl) (fun _ _ _ h=>h) (Or.inl ⟨by rfl,?_⟩) (by assumption) ?_
   ·(intro w D;(try dsimp only at D);go_simp)
   simp only[Act.put,List.setIfInBounds_toArray,List.set_cons_zero,List.set_cons_succ];refine wpAnyH_take (i:=8) (oi:={dst:=some 23,op:=Op.extract (Operand.tmp 15) 0,type:=33,pos:= "quotient.go:30",after:=#[{on:=7,ground:=Ground.data}],guard:=none}) (v:=(Value.agg #[.bool J,.slice L O M])) rfl (by kernel_rfl) (by kernel_rfl) (by kernel_rfl) (fun _ _ _ h=>h) (Or.inl ⟨by rfl,?_⟩) (by assumption) ?_
   ·(intro w D;(try dsimp only at D);go_simp)
   simp only[Act.put,List.setIfInBounds_toArray,List.set_cons_zero,List.set_cons_succ];refine wpAnyH_take (i:=9) (oi:={dst:=some 24,op:=Op.extract (Operand.tmp 15) 1,type:=27,pos:= "quotient.go:30",after:=#[{on:=7,ground:=Ground.data},{on:=11,ground:=Ground.gcOnly Departure.lateStores}],guard:=none}) (v:=(C0 0)) rfl (by kernel_rfl) (by kernel_rfl) (by kernel_rfl) (fun _ _ _ h=>h) (Or.inl ⟨by rfl,?_⟩) (by assumption) ?_
   ·(intro w D;(try dsimp only at D);go_simp)
   simp only[Act.put,List.setIfInBounds_toArray,List.set_cons_zero,List.set_cons_succ];refine wpAnyH_ready (rs:=[10]) (by kernel_rfl) (by simp) ?_;refine AllReadyH.cons (o:={dst:=some 6,op:=Op.alloc 33,type:=0,pos:= "quotient.go:30",after:=#[],guard:=none}) rfl (fun K I=>?_) AllReadyH.nil;go_wp2_with fail;refine I.out _ _ ?_ (fun F=>?_)
   ·exact uH HK _ (Below.alloc (And.left (by assumption)) (Below.size (And.left (by assumption))) _)
   clear I K;have N:=aK.new U (.bool false) (.slice none 0 0);have gB:G.heap.size<=U.heap.size:=Below.size (B:=G.heap.size) (w:=G) Z;have I0:=I2;have I2:=ac (show aA 0 (U.alloc (.cells #[.bool false,.slice none 0 0] 33)) (.agg #[.bool J,.slice L O M]) z2 from(uH I2).below ((Below.refl _ _).alloc (Nat.le_refl _) _));have hW:=Below.alloc Z gB (.cells #[.bool false,.slice none 0 0] 33);have IS:=ac (show aA 0 ((((U.alloc (.cells #[.bool false,.slice none 0 0] 33)).setCell ⟨U.heap.size,0,none⟩ (.bool J)).setCell ⟨U.heap.size,1,none⟩ (.slice L O M))) (.agg #[.bool J,.slice L O M]) z2 from(uH I0).below ((((Below.refl _ _).alloc (Nat.le_refl _) _).setCell (Nat.le_refl _) _).setCell (Nat.le_refl _) _));generalize am:(U.alloc (.cells #[.bool false,.slice none 0 0] 33))=wa at*;generalize U.heap.size=gm at*;refine wpAnyH_ready (rs:=[11]) (by kernel_rfl) (by simp) ?_;refine AllReadyH.cons (o:={dst:=none,op:=Op.store 33 (Operand.tmp 6) (Operand.tmp 23),type:=0,pos:= "quotient.go:30",after:=#[{on:=10,ground:=Ground.data},{on:=8,ground:=Ground.data},{on:=6,ground:=Ground.chain},{on:=0,ground:=Ground.phase},{on:=1,ground:=Ground.phase},{on:=2,ground:=Ground.phase},{on:=3,ground:=Ground.phase},{on:=4,ground:=Ground.phase},{on:=5,ground:=Ground.phase},{on:=6,ground:=Ground.phase},{on:=7,ground:=Ground.phase},{on:=8,ground:=Ground.phase},{on:=9,ground:=Ground.textOnly Departure.lateStores},{on:=10,ground:=Ground.phase}],guard:=none}) rfl (fun K I=>?_) AllReadyH.nil;have q0:=N.c0;have q1:=N.c1;have f0:=N.free 0;have f1:=N.free 1;go_wp2_with fail;refine I.out _ _ ?_ (fun F=>?_)
   ·exact uH HK _ (Below.setCell (Below.setCell (And.left (by assumption)) gB _) gB _)
   clear I K q0 q1 f0 f1;refine wpAnyH_take (i:=12) (oi:={dst:=some 7,op:=Op.assign (Operand.tmp 24),type:=27,pos:= "quotient.go:30",after:=#[{on:=9,ground:=Ground.data},{on:=11,ground:=Ground.chain},{on:=0,ground:=Ground.phase},{on:=1,ground:=Ground.phase},{on:=2,ground:=Ground.phase},{on:=3,ground:=Ground.phase},{on:=4,ground:=Ground.phase},{on:=5,ground:=Ground.phase},{on:=6,ground:=Ground.phase},{on:=7,ground:=Ground.phase},{on:=8,ground:=Ground.phase},{on:=9,ground:=Ground.phase},{on:=10,ground:=Ground.phase},{on:=11,ground:=Ground.phase}],guard:=none}) (v:=(C0 0)) rfl (by kernel_rfl) (by kernel_rfl) (by kernel_rfl) (fun _ _ _ h=>h) (Or.inl ⟨by rfl,?_⟩) (by assumption) ?_
   ·(intro w D;(try dsimp only at D);go_simp)
   simp only[Act.put,List.setIfInBounds_toArray,List.set_cons_zero,List.set_cons_succ];refine wpAnyH_done (by kernel_rfl) ?_ _;have bz:=N.put (.bool J) (.slice L O M);have HZ:=ac (show aA 0 ((wa.setCell ⟨gm,0,none⟩ (.bool J)).setCell ⟨gm,1,none⟩ (.slice L O M)) (.agg #[.bool J,.slice L O M]) z2 from uH IS);have BZ:=ac (show H8 G ((wa.setCell ⟨gm,0,none⟩ (.bool J)).setCell ⟨gm,1,none⟩ (.slice L O M))from Below.setCell (Below.setCell hW gB _) gB _);have r0:=bz.c0;have r1:=bz.c1;clear N I2 F;generalize ((wa.setCell ⟨gm,0,none⟩ (.bool J)).setCell ⟨gm,1,none⟩ (.slice L O M))=WE at*;go_wp2_with fail;refine(uH K4 _ _ _ (uH HZ)).mono ?_;rintro e we ⟨rfl,t⟩;have BE:=ac ((uH BZ).trans (t.mono (uH BZ).size));have HW:=ac ((uH HV).below (uH BE));have xe:=(uH XB).all (uH BE);have y0:=xe.c0;have y1:=xe.c1;have y2:=xe.c2;clear r0 r1 bz t BZ HZ xe;go_wp2_with fail;refine(uH K5 _ _ _ _ _ (uH HW)).mono ?_;rintro e wf ⟨rfl,t⟩;have BF:=ac ((uH B1).trans (((uH BE).trans (t.mono (uH BE).size)).mono (uH B1).size));clear t BE HW y0 y1 y2
   go_wp2
   exact bodyPost_ret (v:=.tuple #[C0 z2,C0 tp]) (by simp[results,Tryz.results283,go_sem]) rfl ⟨rfl,uH BF⟩
  ·go_wp2_with fail
   refine I.out _ _ ?_ (fun F=>?_)
   ·exact uH HK _ (Below.alloc (And.left (by assumption)) (Below.size (And.left (by assumption))) _)
   clear I K;have N:=aK.new wn (.bool false) (.slice none 0 0);have gB:G.heap.size<=wn.heap.size:=Below.size (B:=G.heap.size) (w:=G) ae;have hW:=Below.alloc ae gB (.cells #[.bool false,.slice none 0 0] 33);generalize am:(wn.alloc (.cells #[.bool false,.slice none 0 0] 33))=wa at*;generalize wn.heap.size=gm at*;refine wpAnyH_ready (rs:=[6]) (by kernel_rfl) (by simp) ?_;refine AllReadyH.cons (o:={dst:=some 22,op:=Op.call {callee:=Callee.value (Operand.func 238),args:=#[Operand.tmp 17,Operand.tmp 21],argTypes:=#[33,3]},type:=206,pos:= "quotient.go:30",after:=#[{on:=1,ground:=Ground.data},{on:=5,ground:=Ground.data},{on:=4,ground:=Ground.chain}],guard:=none}) rfl (fun K I=>?_) AllReadyH.nil;go_simp;refine(uH K3 _ _ _ _ _ ((uH HV).below (And.left (by assumption)))).mono ?_;rintro e U ⟨v,rfl,⟨J,L,M,L2,rfl,i2⟩,t⟩;have Z:H8 G U:=Below.trans (And.left (by assumption)) (t.mono (Below.size (And.left (by assumption))));have I2:=ac (show aA (gm+1) U (.agg #[.bool J,.slice L L2.length M]) z2 from aA.mono ⟨J,L,M,L2,rfl,i2⟩ (Nat.succ_le_of_lt N.lt));have N:=N.all t;clear i2;generalize L2.length=O at*;clear t;go_wp2_with fail;refine I.out _ _ ?_ (fun F=>?_)
   ·exact uH HK _ Z
   clear I K;refine wpAnyH_take (i:=7) (oi:={dst:=some 15,op:=Op.move (Operand.tmp 22),type:=206,pos:= "quotient.go:30",after:=#[{on:=6,ground:=Ground.data}],guard:=none}) (v:=(Value.tuple #[.agg #[.bool J,.slice L O M],C0 0])) rfl (by kernel_rfl) (by kernel_rfl) (by kernel_rfl) (fun _ _ _ h=>h) (Or.inl ⟨by rfl,?_⟩) (by assumption) ?_
   ·(intro w D;(try dsimp only at D);go_simp)
   simp only[Act.put,List.setIfInBounds_toArray,List.set_cons_zero,List.set_cons_succ];refine wpAnyH_take (i:=8) (oi:={dst:=some 23,op:=Op.extract (Operand.tmp 15) 0,type:=33,pos:= "quotient.go:30",after:=#[{on:=7,ground:=Ground.data}],guard:=none}) (v:=(Value.agg #[.bool J,.slice L O M])) rfl (by kernel_rfl) (by kernel_rfl) (by kernel_rfl) (fun _ _ _ h=>h) (Or.inl ⟨by rfl,?_⟩) (by assumption) ?_
   ·(intro w D;(try dsimp only at D);go_simp)
   simp only[Act.put,List.setIfInBounds_toArray,List.set_cons_zero,List.set_cons_succ];refine wpAnyH_take (i:=9) (oi:={dst:=some 24,op:=Op.extract (Operand.tmp 15) 1,type:=27,pos:= "quotient.go:30",after:=#[{on:=7,ground:=Ground.data},{on:=11,ground:=Ground.gcOnly Departure.lateStores}],guard:=none}) (v:=(C0 0)) rfl (by kernel_rfl) (by kernel_rfl) (by kernel_rfl) (fun _ _ _ h=>h) (Or.inl ⟨by rfl,?_⟩) (by assumption) ?_
   ·(intro w D;(try dsimp only at D);go_simp)
   simp only[Act.put,List.setIfInBounds_toArray,List.set_cons_zero,List.set_cons_succ];refine wpAnyH_ready (rs:=[11]) (by kernel_rfl) (by simp) ?_;refine AllReadyH.cons (o:={dst:=none,op:=Op.store 33 (Operand.tmp 6) (Operand.tmp 23),type:=0,pos:= "quotient.go:30",after:=#[{on:=10,ground:=Ground.data},{on:=8,ground:=Ground.data},{on:=6,ground:=Ground.chain},{on:=0,ground:=Ground.phase},{on:=1,ground:=Ground.phase},{on:=2,ground:=Ground.phase},{on:=3,ground:=Ground.phase},{on:=4,ground:=Ground.phase},{on:=5,ground:=Ground.phase},{on:=6,ground:=Ground.phase},{on:=7,ground:=Ground.phase},{on:=8,ground:=Ground.phase},{on:=9,ground:=Ground.textOnly Departure.lateStores},{on:=10,ground:=Ground.phase}],guard:=none}) rfl (fun K I=>?_) AllReadyH.nil;have q0:=N.c0;have q1:=N.c1;have f0:=N.free 0;have f1:=N.free 1;go_wp2_with fail;refine I.out _ _ ?_ (fun F=>?_)
   ·exact uH HK _ (Below.setCell (Below.setCell (And.left (by assumption)) gB _) gB _)
   clear I K q0 q1 f0 f1;refine wpAnyH_take (i:=12) (oi:={dst:=some 7,op:=Op.assign (Operand.tmp 24),type:=27,pos:= "quotient.go:30",after:=#[{on:=9,ground:=Ground.data},{on:=11,ground:=Ground.chain},{on:=0,ground:=Ground.phase},{on:=1,ground:=Ground.phase},{on:=2,ground:=Ground.phase},{on:=3,ground:=Ground.phase},{on:=4,ground:=Ground.phase},{on:=5,ground:=Ground.phase},{on:=6,ground:=Ground.phase},{on:=7,ground:=Ground.phase},{on:=8,ground:=Ground.phase},{on:=9,ground:=Ground.phase},{on:=10,ground:=Ground.phase},{on:=11,ground:=Ground.phase}],guard:=none}) (v:=(C0 0)) rfl (by kernel_rfl) (by kernel_rfl) (by kernel_rfl) (fun _ _ _ h=>h) (Or.inl ⟨by rfl,?_⟩) (by assumption) ?_
   ·(intro w D;(try dsimp only at D);go_simp)
   simp only[Act.put,List.setIfInBounds_toArray,List.set_cons_zero,List.set_cons_succ];refine wpAnyH_done (by kernel_rfl) ?_ _;have bz:=N.put (.bool J) (.slice L O M);have HZ:=ac (show aA 0 ((U.setCell ⟨gm,0,none⟩ (.bool J)).setCell ⟨gm,1,none⟩ (.slice L O M)) (.agg #[.bool J,.slice L O M]) z2 from((uH I2).put2 (p:=⟨gm,0,none⟩) (q:=⟨gm,1,none⟩) (by simp) (by simp) (.bool J) (.slice L O M)).mono (Nat.zero_le _));have BZ:=ac (show H8 G ((U.setCell ⟨gm,0,none⟩ (.bool J)).setCell ⟨gm,1,none⟩ (.slice L O M))from Below.setCell (Below.setCell Z gB _) gB _);have r0:=bz.c0;have r1:=bz.c1;clear N I2 F;generalize ((U.setCell ⟨gm,0,none⟩ (.bool J)).setCell ⟨gm,1,none⟩ (.slice L O M))=WE at*;go_wp2_with fail;refine(uH K4 _ _ _ (uH HZ)).mono ?_;rintro e we ⟨rfl,t⟩;have BE:=ac ((uH BZ).trans (t.mono (uH BZ).size));have HW:=ac ((uH HV).below (uH BE));have xe:=(uH XB).all (uH BE);have y0:=xe.c0;have y1:=xe.c1;have y2:=xe.c2;clear r0 r1 bz t BZ HZ xe;go_wp2_with fail;refine(uH K5 _ _ _ _ _ (uH HW)).mono ?_;rintro e wf ⟨rfl,t⟩;have BF:=ac ((uH B1).trans (((uH BE).trans (t.mono (uH BE).size)).mono (uH B1).size));clear t BE HW y0 y1 y2
   go_wp2
   exact bodyPost_ret (v:=.tuple #[C0 z2,C0 tp]) (by simp[results,Tryz.results283,go_sem]) rfl ⟨rfl,uH BF⟩
 ·go_wp2_with fail
  refine I.out _ _ ?_ (fun F=>?_)
  ·exact uH HK _ (((Below.refl G.heap.size G).alloc (Nat.le_refl _) _).drew)
  clear I K;have N:aK (G.alloc (.cells #[.bool false,.slice none 0 0] 33)).drew G.heap.size (.bool false) (.slice none 0 0):=(aK.new G (.bool false) (.slice none 0 0)).drew;have gB:G.heap.size<=G.heap.size:=Nat.le_refl _;generalize am:(G.alloc (.cells #[.bool false,.slice none 0 0] 33)).drew=wa at*;refine wpAnyH_ready (rs:=[4]) (by kernel_rfl) (by simp) ?_;refine AllReadyH.cons (o:={dst:=some 20,op:=Op.call {callee:=Callee.value (Operand.func 208),args:=#[Operand.tmp 19],argTypes:=#[33]},type:=3,pos:= "quotient.go:30",after:=#[{on:=3,ground:=Ground.data}],guard:=none}) rfl (fun K I=>?_) AllReadyH.nil;go_simp;refine(uH K2 _ _ _ _ _ ((uH HV).below (And.left (by assumption)))).mono ?_;rintro e wn ⟨rfl,t⟩;have ae:H8 G wn:=Below.trans (And.left (by assumption)) (t.mono (Below.size (And.left (by assumption))));have N:=N.all t;clear t;go_wp2_with fail;refine I.out _ _ ?_ (fun F=>?_)
  ·exact uH HK _ ae
  clear I K;refine wpAnyH_take (i:=5) (oi:={dst:=some 21,op:=Op.binOp BinOp.sub 3 (Operand.const (Value.int IntKind.i64 53)) (Operand.tmp 20) 3,type:=3,pos:= "quotient.go:30",after:=#[{on:=4,ground:=Ground.data}],guard:=none}) (v:=(C0 (53-ln))) rfl (by kernel_rfl) (by kernel_rfl) (by kernel_rfl) (fun _ _ _ h=>h) (Or.inl ⟨by rfl,?_⟩) (by assumption) ?_
  ·(intro w D;(try dsimp only at D);go_simp;exact bC _ (by omega))
  simp only[Act.put,List.setIfInBounds_toArray,List.set_cons_zero,List.set_cons_succ];refine wpAnyH_ready (rs:=[6]) (by kernel_rfl) (by simp) ?_;refine AllReadyH.cons (o:={dst:=some 22,op:=Op.call {callee:=Callee.value (Operand.func 238),args:=#[Operand.tmp 17,Operand.tmp 21],argTypes:=#[33,3]},type:=206,pos:= "quotient.go:30",after:=#[{on:=1,ground:=Ground.data},{on:=5,ground:=Ground.data},{on:=4,ground:=Ground.chain}],guard:=none}) rfl (fun K I=>?_) AllReadyH.nil;go_simp;refine(uH K3 _ _ _ _ _ ((uH HV).below (And.left (by assumption)))).mono ?_;rintro e U ⟨v,rfl,⟨J,L,M,L2,rfl,i2⟩,t⟩;have Z:H8 G U:=Below.trans (And.left (by assumption)) (t.mono (Below.size (And.left (by assumption))));have I2:=ac (show aA (G.heap.size+1) U (.agg #[.bool J,.slice L L2.length M]) z2 from aA.mono ⟨J,L,M,L2,rfl,i2⟩ (Nat.succ_le_of_lt N.lt));have N:=N.all t;clear i2;generalize L2.length=O at*;clear t;go_wp2_with fail;refine I.out _ _ ?_ (fun F=>?_)
  ·exact uH HK _ Z
  clear I K;refine wpAnyH_take (i:=7) (oi:={dst:=some 15,op:=Op.move (Operand.tmp 22),type:=206,pos:= "quotient.go:30",after:=#[{on:=6,ground:=Ground.data}],guard:=none}) (v:=(Value.tuple #[.agg #[.bool J,.slice L O M],C0 0])) rfl (by kernel_rfl) (by kernel_rfl) (by kernel_rfl) (fun _ _ _ h=>h) (Or.inl ⟨by rfl,?_⟩) (by assumption) ?_
  ·(intro w D;(try dsimp only at D);go_simp)
  simp only[Act.put,List.setIfInBounds_toArray,List.set_cons_zero,List.set_cons_succ];refine wpAnyH_take (i:=8) (oi:={dst:=some 23,op:=Op.extract (Operand.tmp 15) 0,type:=33,pos:= "quotient.go:30",after:=#[{on:=7,ground:=Ground.data}],guard:=none}) (v:=(Value.agg #[.bool J,.slice L O M])) rfl (by kernel_rfl) (by kernel_rfl) (by kernel_rfl) (fun _ _ _ h=>h) (Or.inl ⟨by rfl,?_⟩) (by assumption) ?_
  ·(intro w D;(try dsimp only at D);go_simp)
  simp only[Act.put,List.setIfInBounds_toArray,List.set_cons_zero,List.set_cons_succ];refine wpAnyH_take (i:=9) (oi:={dst:=some 24,op:=Op.extract (Operand.tmp 15) 1,type:=27,pos:= "quotient.go:30",after:=#[{on:=7,ground:=Ground.data},{on:=11,ground:=Ground.gcOnly Departure.lateStores}],guard:=none}) (v:=(C0 0)) rfl (by kernel_rfl) (by kernel_rfl) (by kernel_rfl) (fun _ _ _ h=>h) (Or.inl ⟨by rfl,?_⟩) (by assumption) ?_
  ·(intro w D;(try dsimp only at D);go_simp)
  simp only[Act.put,List.setIfInBounds_toArray,List.set_cons_zero,List.set_cons_succ];refine wpAnyH_ready (rs:=[11]) (by kernel_rfl) (by simp) ?_;refine AllReadyH.cons (o:={dst:=none,op:=Op.store 33 (Operand.tmp 6) (Operand.tmp 23),type:=0,pos:= "quotient.go:30",after:=#[{on:=10,ground:=Ground.data},{on:=8,ground:=Ground.data},{on:=6,ground:=Ground.chain},{on:=0,ground:=Ground.phase},{on:=1,ground:=Ground.phase},{on:=2,ground:=Ground.phase},{on:=3,ground:=Ground.phase},{on:=4,ground:=Ground.phase},{on:=5,ground:=Ground.phase},{on:=6,ground:=Ground.phase},{on:=7,ground:=Ground.phase},{on:=8,ground:=Ground.phase},{on:=9,ground:=Ground.textOnly Departure.lateStores},{on:=10,ground:=Ground.phase}],guard:=none}) rfl (fun K I=>?_) AllReadyH.nil;have q0:=N.c0;have q1:=N.c1;have f0:=N.free 0;have f1:=N.free 1;go_wp2_with fail;refine I.out _ _ ?_ (fun F=>?_)
  ·exact uH HK _ (Below.setCell (Below.setCell (And.left (by assumption)) gB _) gB _)
  clear I K q0 q1 f0 f1;refine wpAnyH_take (i:=12) (oi:={dst:=some 7,op:=Op.assign (Operand.tmp 24),type:=27,pos:= "quotient.go:30",after:=#[{on:=9,ground:=Ground.data},{on:=11,ground:=Ground.chain},{on:=0,ground:=Ground.phase},{on:=1,ground:=Ground.phase},{on:=2,ground:=Ground.phase},{on:=3,ground:=Ground.phase},{on:=4,ground:=Ground.phase},{on:=5,ground:=Ground.phase},{on:=6,ground:=Ground.phase},{on:=7,ground:=Ground.phase},{on:=8,ground:=Ground.phase},{on:=9,ground:=Ground.phase},{on:=10,ground:=Ground.phase},{on:=11,ground:=Ground.phase}],guard:=none}) (v:=(C0 0)) rfl (by kernel_rfl) (by kernel_rfl) (by kernel_rfl) (fun _ _ _ h=>h) (Or.inl ⟨by rfl,?_⟩) (by assumption) ?_
  ·(intro w D;(try dsimp only at D);go_simp)
  simp only[Act.put,List.setIfInBounds_toArray,List.set_cons_zero,List.set_cons_succ];refine wpAnyH_done (by kernel_rfl) ?_ _;have bz:=N.put (.bool J) (.slice L O M);have HZ:=ac (show aA 0 ((U.setCell ⟨G.heap.size,0,none⟩ (.bool J)).setCell ⟨G.heap.size,1,none⟩ (.slice L O M)) (.agg #[.bool J,.slice L O M]) z2 from((uH I2).put2 (p:=⟨G.heap.size,0,none⟩) (q:=⟨G.heap.size,1,none⟩) (by simp) (by simp) (.bool J) (.slice L O M)).mono (Nat.zero_le _));have BZ:=ac (show H8 G ((U.setCell ⟨G.heap.size,0,none⟩ (.bool J)).setCell ⟨G.heap.size,1,none⟩ (.slice L O M))from Below.setCell (Below.setCell Z gB _) gB _);have r0:=bz.c0;have r1:=bz.c1;clear N I2 F;generalize ((U.setCell ⟨G.heap.size,0,none⟩ (.bool J)).setCell ⟨G.heap.size,1,none⟩ (.slice L O M))=WE at*;go_wp2_with fail;refine(uH K4 _ _ _ (uH HZ)).mono ?_;rintro e we ⟨rfl,t⟩;have BE:=ac ((uH BZ).trans (t.mono (uH BZ).size));have HW:=ac ((uH HV).below (uH BE));have xe:=(uH XB).all (uH BE);have y0:=xe.c0;have y1:=xe.c1;have y2:=xe.c2;clear r0 r1 bz t BZ HZ xe;go_wp2_with fail;refine(uH K5 _ _ _ _ _ (uH HW)).mono ?_;rintro e wf ⟨rfl,t⟩;have BF:=ac ((uH B1).trans (((uH BE).trans (t.mono (uH BE).size)).mono (uH B1).size));clear t BE HW y0 y1 y2
  go_wp2
  exact bodyPost_ret (v:=.tuple #[C0 z2,C0 tp]) (by simp[results,Tryz.results283,go_sem]) rfl ⟨rfl,uH BF⟩
theorem aH.limbs{w:World}{n:Bool}{a:GY}{l c:Nat}{X m Y:Int}(h:aH w (.agg #[.bool n,.slice a l c,C0 X]) m Y)(F:m.natAbs<eE):
  ∃L,l=L.length/\ai w a c L/\aD false L=true/\aj L=m.natAbs/\L.length<=512:=by
 obtain⟨M,N,O,L,D,H,t,I,J,Q⟩:=h.right F;simp only[Value.agg.injEq,Array.mk.injEq,List.cons.injEq,Value.bool.injEq,Value.slice.injEq,and_true]at D;obtain⟨rfl,⟨rfl,K,rfl⟩,_⟩:=D;have G:aD false L=true:=by
  simp only[aD,Bool.and_eq_true,decide_eq_true_eq,Bool.not_eq_true',Bool.and_eq_false_iff,decide_eq_false_iff_not,Bool.or_eq_true]at t⊢;exact⟨⟨t.1.1,Or.inr trivial⟩,t.2⟩
 exact⟨L,K,H,G,by rw[<-I,aU],J⟩
theorem Ga{B:Nat}{w:World}{v:Value}{x:Int}(F:aA B w v x)(J:-9223372036854775808<=x)(K:x<=9223372036854775807):
  BS 290 #[v] w (.tuple #[C0 x,C0 0]):=by
 obtain⟨h,ao,H,A,rfl,I,t,D,L⟩:=F.right (df _ (by omega));have:=tN h ao H A w I (by omega);have l:j3 x=true:=by unfold j3;rw[decide_eq_true (by omega)]
 rwa[show vD h A=x by unfold vD;rw[t,D,l];rfl,show vC h A=0 by unfold vC;rw[t,D,l];rfl]at this
theorem rC(b:Nat)(w:World)(J:b<18446744073709551616)(K:ah b=true)(Q:fK b≠0)(U:cX w):
  BS 283 #[CI b] w (.tuple #[C0 (dS b:Nat),C0 (dT b)]):=by
 obtain⟨x1,x2,x3,x4,x5,x6,x7,x8⟩:=dJ b J K Q;have I:(fD b).natAbs<eE:=df _ (by omega);have Z:(dS b:Int)=((fD b).natAbs*2^(53-(bl (fD b).natAbs:Int)).toNat:Nat):=by
  unfold dS;rw[show(53-(bl (fD b).natAbs:Int)).toNat=53-bl (fD b).natAbs by omega]
 refine wW b (fD b) (fX b) (dS b:Nat) (bl (fD b).natAbs:Nat) (dT b) w (by omega) (fun t h=>fh b t J K (U.all h)) ?_ ?_ ?_ ?_
 ·intro t n a l c h
  obtain⟨L,rfl,D,G,H,O⟩:=h.limbs I;have:=ut false a c L t D (by omega)
  rwa[kf D.2.1 G,H]at this
 ·intro t n a l c h
  obtain⟨L,rfl,D,G,H,O⟩:=h.limbs I;have:=jI false a c L (53-(bl (fD b).natAbs:Int)) t D (by omega) (by omega);have M:sM false L (53-(bl (fD b).natAbs:Int))=(dS b:Int):=by
   unfold sM;rw[if_pos (by omega),H,Z];rfl
  have F:oJ false L (53-(bl (fD b).natAbs:Int))=true:=by unfold oJ;rw[G,decide_eq_true (by omega)];rfl
  have N:((dS b:Nat):Int).natAbs<eE:=df _ (by omega)
  rwa[show yz false L (53-(bl (fD b).natAbs:Int))=0 by unfold yz;rw[F,if_pos rfl,M,iq _ N],show vS false L (53-(bl (fD b).natAbs:Int))=(dS b:Nat) by unfold vS;rw[F,if_pos rfl,M,ir _ N]]at this
 ·intro B t v h
  exact Ga h (by omega) (by omega)
 ·intro t n a l c h
  obtain⟨L,rfl,D,G,H,O⟩:=h.limbs I;have:=nF false a c L (fX b) t D (by omega)
  rwa[kf D.2.1 G,H,bC _ (by omega)]at this
theorem wX(a b:Nat)(x y F G q E M X Z:Int)(w:World)(r o:Nat)(ht:-3000<=F/\F<=3000/\-3000<=G/\G<=3000)(hE:E=F-G-55)
  (C1:∀l,H8 w l->BS 283 #[CI a] l (.tuple #[C0 x,C0 F]))
  (C2:∀l,H8 w l->BS 283 #[CI b] l (.tuple #[C0 y,C0 G]))
  (C3:∀l,GF 284 #[C0 x,C0 y] l fun r t=>r=.returned (C0 q)/\l=t)
  (C4:∀l,GF 207 #[C0 q] l fun r t=>∃v,r=.returned v/\aA l.heap.size t v q/\H8 l t)
  (C5:∀B l v,H8 w l->aA B l v q->GF 206 #[v,C0 E] l fun r t=>pG t r 0 M X/\H8 l t)
  (C6:∀l v,H8 w l->aH l v M X->BS 229 #[v] l (.tuple #[CI (r:Nat),.int .u8 Z,C0 0]))
  (C7:∀l,BS 262 #[CI (r:Nat),CI a,CI b] l (CI (o:Nat))):
  BS 264 #[CI a,CI b] w (.tuple #[CI (o:Nat),.int .u8 Z]):=by
 have K1:=ac C1;have K2:=ac C2;have K3:=ac C3;have K4:=ac C4;have K5:=ac C5;have K6:=ac C6;have K7:=ac C7;clear C1 C2 C3 C4 C5 C6 C7;have e1:=bC (F-G) (by omega);have e2:=bC (F-G-55) (by omega);rw[<-hE]at e2
 go_enter Tryz.func264,Tryz.ntmps264
 go_wp2_with fail;refine(uH K1 _ (Below.refl _ _)).mono ?_;rintro e w1 ⟨rfl,h⟩;have J:=ac h;clear h K1;go_wp2_with fail;refine(uH K2 _ (uH J)).mono ?_;rintro e w2 ⟨rfl,h⟩;have B2:=ac ((uH J).trans (h.mono (uH J).size));clear h K2 J;go_wp2_with fail;refine(uH K3 _).mono ?_;rintro e wk ⟨rfl,rfl⟩;go_wp2_with fail;refine(uH K4 _).mono ?_;rintro e w3 ⟨v,rfl,⟨n3,a3,c3,L3,rfl,i3⟩,h⟩;have K:=ac ((uH B2).trans (h.mono (uH B2).size));have I3:=ac (show aA w2.heap.size w3 (.agg #[.bool n3,.slice a3 L3.length c3]) q from⟨n3,a3,c3,L3,rfl,i3⟩);clear h K3 K4 B2 i3;generalize L3.length=l3 at*;subst hE;go_wp2_with fail;refine(uH K5 _ _ _ (uH K) (uH I3)).mono ?_;rintro e I ⟨⟨v,rfl,hv⟩,h⟩;obtain⟨O,Q,U,H,rfl,i1⟩:=hv;have D:H8 I (I.alloc (.cells #[.bool O,.slice Q H.length U,C0 X] 35)):=(Below.refl _ _).alloc (Nat.le_refl _) _;have HX:=ac ((show aH I (.agg #[.bool O,.slice Q H.length U,C0 X]) M X from⟨O,Q,U,H,rfl,i1⟩).below D);have L:=ac ((uH K).trans ((h.trans (D.mono h.size)).mono (uH K).size));have N:=ar.new I (.bool O) (.slice Q H.length U) (C0 X);have y0:=N.c0;have y1:=N.c1;have y2:=N.c2;clear i1 h D K5 K N I3;generalize H.length=l1 at*;go_wp2_with fail;refine(uH K6 _ _ (uH L) (uH HX)).mono ?_;rintro e w5 ⟨rfl,h⟩;have B5:=ac ((uH L).trans (h.mono (uH L).size));clear h K6 L y0 y1 y2 HX;go_wp2_with fail;refine(uH K7 _).mono ?_;rintro e w6 ⟨rfl,h⟩;have B6:=ac ((uH B5).trans (h.mono (uH B5).size));clear h K7 B5
 go_wp2
 exact bodyPost_ret (v:=.tuple #[CI o,.int .u8 Z]) (by simp[results,Tryz.results264,go_sem]) rfl ⟨rfl,uH B6⟩
theorem Qe{S:Nat}(h:S<144115188075855872):S<2^57:=by
 have:(2:Nat)^57=144115188075855872:=by decide
 omega
theorem uP(a b S H I r:Nat)(D F N:Int)(w:World)(ha:a<18446744073709551616)(hb:b<18446744073709551616)(hr:r<=9218868437227405312)
  (ht:-1100<=D/\D<=1100/\-1100<=F/\F<=1100) (s1:S≠0) (s2:S<144115188075855872)
  (O:cU S (D-F-55)=r) (Q:cD (oM (S:Nat)).natAbs (oE (S:Nat) (D-F-55))=N) (U:cX w)
  (C1:∀l,H8 w l->BS 283 #[CI a] l (.tuple #[C0 (H:Nat),C0 D]))
  (C2:∀l,H8 w l->BS 283 #[CI b] l (.tuple #[C0 (I:Nat),C0 F]))
  (C3:∀l,GF 284 #[C0 (H:Nat),C0 (I:Nat)] l fun r t=>r=.returned (C0 (S:Nat))/\l=t):
  BS 264 #[CI a,CI b] w (.tuple #[CI (iJ (fS a^^fS b) r:Nat),.int .u8 N]):=by
 have Z:((S:Nat):Int).natAbs<eE:=df _ (by omega);have G:((S:Nat):Int)≠0:=by omega
 have aa:tz ((S:Nat):Int).natAbs<57:=mr _ 57 (by omega) (by rw[Int.natAbs_natCast];exact Qe s2);obtain⟨E,hE⟩:∃E,E=D-F-55:=⟨_,rfl⟩;rw[<-hE]at O Q;have ae:-2300<=E/\E<=2300:=by omega
 have K:oK (S:Nat) E=true:=by
  unfold oK;rw[decide_eq_true (show-32768<=E/\E<=32768 by omega),decide_eq_true (show-16384<=E+(tz ((S:Nat):Int).natAbs:Int)/\E+(tz ((S:Nat):Int).natAbs:Int)<=16384 by omega),Bool.or_true];rfl
 have L:sR (oM (S:Nat)) (oE (S:Nat) E)=true:=by
  unfold sR;rw[if_neg (g6 _ G).1,dc _ _ G,decide_eq_true (g6 _ G).2,decide_eq_true (by omega)];rfl
 have M:(oM (S:Nat)).natAbs<eE:=Nat.lt_of_le_of_lt (tO _) Z;have C6:∀l v,H8 w l->aH l v (oM (S:Nat)) (oE (S:Nat) E)->_:=fun l v h J=>kK J M L (U.all h)
 rw[(lM ((S:Nat):Int) E).1,lL,decide_eq_false (show¬((S:Nat):Int)<0 by omega),cJ,Int.natAbs_natCast,O,Q]at C6;refine wX a b (H:Nat) (I:Nat) D F (S:Nat) E _ _ _ w _ _ (by omega) hE C1 C2 C3
  (fun l=>yL _ l (by omega) (by omega)) (fun B l v h J=>?_) C6 (fun l=>iB r a b l ha hb (by omega))
 have:=kH E J Z (by omega) (U.all h);unfold dU dM dX at this;rw[K]at this;exact this.mono fun r t ⟨u,g1,g2,g3⟩=>⟨⟨u,g1,g2⟩,g3⟩
theorem Ok(a b:Nat):dC (dS a*2^54) (dS b)=pS a b:=by unfold pS;rfl
theorem MF(b:Nat)(h:b<18446744073709551616)(l:ah b=true)(t:fK b≠0):-1100<=dT b/\dT b<=1100:=by
 obtain⟨D,F,G,H,I,J,K,L⟩:=dJ b h l t;unfold dT;omega
theorem sY(a b:Nat)(w:World)(I:a<18446744073709551616)(F:b<18446744073709551616)(G:ah a=true)(l:ah b=true)(H:fK a≠0)(t:fK b≠0)(J:cX w):
  BS 264 #[CI a,CI b] w (.tuple #[CI (dV a b:Nat),.int .u8 (dF a b)]):=by
 obtain⟨y1,y2,y3,U,y5,y6,y7,y8⟩:=dJ b F l t;obtain⟨Z,s2,s3⟩:=FL a b I F G l H t;obtain⟨q1,q2⟩:=FK a b I F G l H t;have N:qV a b<=9218868437227405312:=ej _ _;have K:=fun D=>uO (dS a) (dS b) D U s3
 have L:=MF a I G H;have M:=MF b F l t;have O:=(rh a b G l H t).1;have Q:=(rh a b G l H t).2;rw[Ok]at K;rw[O,Q];exact uP a b (pS a b) (dS a) (dS b) (qV a b) (dT a) (dT b) (qF a b) w I F N ⟨L.1,L.2,M.1,M.2⟩ Z s2 q1 q2 J (fun D h=>rC a D I G H (J.all h)) (fun D h=>rC b D F l t (J.all h)) K
theorem Kb(a b:Nat)(J:Int)(w:World)
  (F:∀h,BS 164 #[CI a] h (C0 4))
  (G:∀h,BS 164 #[CI b] h (C0 J)):
  BS 233 #[CI a,CI b] w (.tuple #[CI 9221120237041090560,.int .u8 0]):=by
 have H:=ac F;have I:=ac G;clear F G
 go_enter Tryz.func233,Tryz.ntmps233
 go_wp2_with fail;refine(uH H _).mono ?_;rintro e K ⟨rfl,t⟩;go_wp2_with fail;refine(uH I _).mono ?_;rintro e L ⟨rfl,D⟩;have B:=ac (t.trans (D.mono t.size));clear t D H I
 go_wp2
 exact bodyPost_ret (v:=.tuple #[CI 9221120237041090560,.int .u8 0]) (by simp[results,Tryz.results233,go_sem]) rfl ⟨rfl,uH B⟩
theorem Kc(a b:Nat)(F:Int)(w:World)(K:(F==4)=false)
  (G:∀h,BS 164 #[CI a] h (C0 F))
  (H:∀h,BS 164 #[CI b] h (C0 4)):
  BS 233 #[CI a,CI b] w (.tuple #[CI 9221120237041090560,.int .u8 0]):=by
 have I:=ac G;have J:=ac H;clear G H
 go_enter Tryz.func233,Tryz.ntmps233
 go_wp2_with fail;refine(uH I _).mono ?_;rintro e L ⟨rfl,t⟩;go_wp2_with fail;refine(uH J _).mono ?_;rintro e M ⟨rfl,D⟩;have B:=ac (t.trans (D.mono t.size));clear t D I J
 go_wp2
 exact bodyPost_ret (v:=.tuple #[CI 9221120237041090560,.int .u8 0]) (by simp[results,Tryz.results233,go_sem]) rfl ⟨rfl,uH B⟩
theorem Kd(a b:Nat)(w:World)
  (F:∀h,BS 164 #[CI a] h (C0 3))
  (G:∀h,BS 164 #[CI b] h (C0 3)):
  BS 233 #[CI a,CI b] w (.tuple #[CI 9221120237041090560,.int .u8 16]):=by
 have H:=ac F;have I:=ac G;clear F G
 go_enter Tryz.func233,Tryz.ntmps233
 go_wp2_with fail;refine(uH H _).mono ?_;rintro e J ⟨rfl,t⟩;go_wp2_with fail;refine(uH I _).mono ?_;rintro e K ⟨rfl,D⟩;have B:=ac (t.trans (D.mono t.size));clear t D H I
 go_wp2
 exact bodyPost_ret (v:=.tuple #[CI 9221120237041090560,.int .u8 16]) (by simp[results,Tryz.results233,go_sem]) rfl ⟨rfl,uH B⟩
theorem Ke(a b:Nat)(w:World)
  (F:∀h,BS 164 #[CI a] h (C0 0))
  (G:∀h,BS 164 #[CI b] h (C0 0)):
  BS 233 #[CI a,CI b] w (.tuple #[CI 9221120237041090560,.int .u8 16]):=by
 have H:=ac F;have I:=ac G;clear F G
 go_enter Tryz.func233,Tryz.ntmps233
 go_wp2_with fail;refine(uH H _).mono ?_;rintro e J ⟨rfl,t⟩;go_wp2_with fail;refine(uH I _).mono ?_;rintro e K ⟨rfl,D⟩;have B:=ac (t.trans (D.mono t.size));clear t D H I
 go_wp2
 exact bodyPost_ret (v:=.tuple #[CI 9221120237041090560,.int .u8 16]) (by simp[results,Tryz.results233,go_sem]) rfl ⟨rfl,uH B⟩
theorem Ol(a b:Nat)(G:Int)(o:Nat)(w:World)(N:(G==4)=false)(O:(G==3)=false)
  (H:∀h,BS 164 #[CI a] h (C0 3))
  (I:∀h,BS 164 #[CI b] h (C0 G))
  (J:∀h,BS 262 #[CI 9218868437227405312,CI a,CI b] h (CI (o:Nat))):
  BS 233 #[CI a,CI b] w (.tuple #[CI (o:Nat),.int .u8 0]):=by
 have K:=ac H;have L:=ac I;clear H I
 go_enter Tryz.func233,Tryz.ntmps233
 go_wp2_with fail;refine(uH K _).mono ?_;rintro e Q ⟨rfl,t⟩;go_wp2_with fail;refine(uH L _).mono ?_;rintro e U ⟨rfl,D⟩;have B:=ac (t.trans (D.mono t.size));clear t D K L;have M:=ac J;clear J;go_wp2_with fail;refine(uH M _).mono ?_;rintro e Z ⟨rfl,F⟩;have B:=ac ((uH B).trans (F.mono (uH B).size));clear F M
 go_wp2
 exact bodyPost_ret (v:=.tuple #[CI (o:Nat),.int .u8 0]) (by simp[results,Tryz.results233,go_sem]) rfl ⟨rfl,uH B⟩
theorem Om(a b:Nat)(G:Int)(o:Nat)(w:World)(N:(G==4)=false)(O:(G==0)=false)
  (H:∀h,BS 164 #[CI a] h (C0 0))
  (I:∀h,BS 164 #[CI b] h (C0 G))
  (J:∀h,BS 262 #[CI 0,CI a,CI b] h (CI (o:Nat))):
  BS 233 #[CI a,CI b] w (.tuple #[CI (o:Nat),.int .u8 0]):=by
 have K:=ac H;have L:=ac I;clear H I
 go_enter Tryz.func233,Tryz.ntmps233
 go_wp2_with fail;refine(uH K _).mono ?_;rintro e Q ⟨rfl,t⟩;go_wp2_with fail;refine(uH L _).mono ?_;rintro e U ⟨rfl,D⟩;have B:=ac (t.trans (D.mono t.size));clear t D K L;have M:=ac J;clear J;go_wp2_with fail;refine(uH M _).mono ?_;rintro e Z ⟨rfl,F⟩;have B:=ac ((uH B).trans (F.mono (uH B).size));clear F M
 go_wp2
 exact bodyPost_ret (v:=.tuple #[CI (o:Nat),.int .u8 0]) (by simp[results,Tryz.results233,go_sem]) rfl ⟨rfl,uH B⟩
theorem On(a b:Nat)(G:Int)(o:Nat)(w:World)(N:(G==4)=false)(O:(G==3)=false)(Q:(G==0)=false)
  (H:∀h,BS 164 #[CI a] h (C0 G))
  (I:∀h,BS 164 #[CI b] h (C0 3))
  (J:∀h,BS 262 #[CI 0,CI a,CI b] h (CI (o:Nat))):
  BS 233 #[CI a,CI b] w (.tuple #[CI (o:Nat),.int .u8 0]):=by
 have K:=ac H;have L:=ac I;clear H I
 go_enter Tryz.func233,Tryz.ntmps233
 go_wp2_with fail;refine(uH K _).mono ?_;rintro e U ⟨rfl,t⟩;go_wp2_with fail;refine(uH L _).mono ?_;rintro e Z ⟨rfl,D⟩;have B:=ac (t.trans (D.mono t.size));clear t D K L;have M:=ac J;clear J;go_wp2_with fail;refine(uH M _).mono ?_;rintro e w3 ⟨rfl,F⟩;have B:=ac ((uH B).trans (F.mono (uH B).size));clear F M
 go_wp2
 exact bodyPost_ret (v:=.tuple #[CI (o:Nat),.int .u8 0]) (by simp[results,Tryz.results233,go_sem]) rfl ⟨rfl,uH B⟩
theorem Oo(a b:Nat)(G:Int)(o:Nat)(w:World)(N:(G==4)=false)(O:(G==3)=false)(Q:(G==0)=false)
  (H:∀h,BS 164 #[CI a] h (C0 G))
  (I:∀h,BS 164 #[CI b] h (C0 0))
  (J:∀h,BS 262 #[CI 9218868437227405312,CI a,CI b] h (CI (o:Nat))):
  BS 233 #[CI a,CI b] w (.tuple #[CI (o:Nat),.int .u8 8]):=by
 have K:=ac H;have L:=ac I;clear H I
 go_enter Tryz.func233,Tryz.ntmps233
 go_wp2_with fail;refine(uH K _).mono ?_;rintro e U ⟨rfl,t⟩;go_wp2_with fail;refine(uH L _).mono ?_;rintro e Z ⟨rfl,D⟩;have B:=ac (t.trans (D.mono t.size));clear t D K L;have M:=ac J;clear J;go_wp2_with fail;refine(uH M _).mono ?_;rintro e w3 ⟨rfl,F⟩;have B:=ac ((uH B).trans (F.mono (uH B).size));clear F M
 go_wp2
 exact bodyPost_ret (v:=.tuple #[CI (o:Nat),.int .u8 8]) (by simp[results,Tryz.results233,go_sem]) rfl ⟨rfl,uH B⟩
theorem Oq(a b:Nat)(G H:Int)(I:Int)(o:Nat)(w:World)(Z:(G==4)=false)(h1:(G==3)=false)(h2:(G==0)=false)(h3:(H==4)=false)(h4:(H==3)=false)(h5:(H==0)=false)(J:cX w)
  (K:∀h,BS 164 #[CI a] h (C0 G))
  (L:∀h,BS 164 #[CI b] h (C0 H))
  (M:∀h,cX h->BS 264 #[CI a,CI b] h (.tuple #[CI (o:Nat),.int .u8 I])):
  BS 233 #[CI a,CI b] w (.tuple #[CI (o:Nat),.int .u8 I]):=by
 have N:=ac K;have O:=ac L;clear K L
 go_enter Tryz.func233,Tryz.ntmps233
 go_wp2_with fail;refine(uH N _).mono ?_;rintro e w1 ⟨rfl,t⟩;go_wp2_with fail;refine(uH O _).mono ?_;rintro e w2 ⟨rfl,D⟩;have B:=ac (t.trans (D.mono t.size));clear t D N O;have Q:=ac M;have U:=ac (J.all (uH B));clear M J;go_wp2_with fail;refine(uH Q _ (uH U)).mono ?_;rintro e w3 ⟨rfl,F⟩;have B:=ac ((uH B).trans (F.mono (uH B).size));clear F Q U
 go_wp2
 exact bodyPost_ret (v:=.tuple #[CI (o:Nat),.int .u8 I]) (by simp[results,Tryz.results233,go_sem]) rfl ⟨rfl,uH B⟩
theorem Gb(a b:Nat)(w:World)(M:a<18446744073709551616)(N:b<18446744073709551616)(hT:cX w):
  BS 233 #[CI a,CI b] w (.tuple #[CI (dV a b:Nat),.int .u8 (dF a b)]):=by
 have h:=fun D=>dp a D M
 have l:=fun D=>dp b D N
 have O:=fun D=>iB 9218868437227405312 a b D M N (by decide)
 have Q:=fun D=>iB 0 a b D M N (by decide)
 by_cases H:fK a=4
 ·rw[show dV a b=9221120237041090560 by unfold dV;rw[if_pos (Or.inl H)],show dF a b=0 by unfold dF;rw[if_pos (Or.inl H)]]
  rw[H]at h;exact Kb a b _ w h l
 by_cases J:fK b=4
 ·rw[show dV a b=9221120237041090560 by unfold dV;rw[if_pos (Or.inr J)],show dF a b=0 by unfold dF;rw[if_pos (Or.inr J)]]
  rw[J]at l;exact Kc a b _ w (by simp[H]) h l
 have I:¬(fK a=4\/fK b=4):=by omega
 by_cases G:fK a=fK b/\(fK a=3\/fK a=0)
 ·rw[show dV a b=9221120237041090560 by unfold dV;rw[if_neg I,if_pos G],show dF a b=16 by unfold dF;rw[if_neg I,if_pos G]]
  rcases G with⟨Z,K|h0⟩
  ·rw[K]at h
   rw[<-Z,K]at l;exact Kd a b w h l
  ·rw[h0]at h
   rw[<-Z,h0]at l;exact Ke a b w h l
 by_cases F:fK a=3
 ·rw[show dV a b=iJ (fS a^^fS b) 9218868437227405312 by unfold dV;rw[if_neg I,if_neg G,if_pos F],show dF a b=0 by unfold dF;rw[if_neg I,if_neg G,if_pos F]]
  rw[F]at h;exact Ol a b _ _ w (by simp[J]) (by simp;omega) h l O
 by_cases K:fK b=3\/fK a=0
 ·rw[show dV a b=iJ (fS a^^fS b) 0 by unfold dV;rw[if_neg I,if_neg G,if_neg F,if_pos K],show dF a b=0 by unfold dF;rw[if_neg I,if_neg G,if_neg F,if_pos K]]
  by_cases U:fK a=0
  ·rw[U]at h
   exact Om a b _ _ w (by simp[J]) (by simp;omega) h l Q
  ·have b3:fK b=3:=by omega
   rw[b3]at l;exact On a b _ _ w (by simp[H]) (by simp[F]) (by simp[U]) h l Q
 by_cases L:fK b=0
 ·rw[show dV a b=iJ (fS a^^fS b) 9218868437227405312 by unfold dV;rw[if_neg I,if_neg G,if_neg F,if_neg K,if_pos L],show dF a b=8 by unfold dF;rw[if_neg I,if_neg G,if_neg F,if_neg K,if_pos L]]
  rw[L]at l;exact Oo a b _ _ w (by simp[H]) (by simp[F]) (by simp;omega) h l O
 ·exact Oq a b _ _ _ _ w (by simp[H]) (by simp[F]) (by simp;omega) (by simp[J]) (by simp;omega) (by simp[L]) hT h l (fun D t=>sY a b D M N (fO a F H) (fO b (by omega) J) (by omega) L t)
def lV(a:Nat)(n:Int):Nat:=if fK a=4 then a else xV a n
def eC(N:Nat):Nat:=N-bX N*bX N
theorem Qf(N p:Nat)(l:p<4):
  (4*eC N+p<4*bX N+1->bX (4*N+p)=2*bX N/\eC (4*N+p)=4*eC N+p)/\
  (¬4*eC N+p<4*bX N+1->bX (4*N+p)=2*bX N+1/\eC (4*N+p)=4*eC N+p-(4*bX N+1)):=by
 obtain⟨H,I⟩:=cZ N;have t:=ig (bX N);have D:=ig (2*bX N);have F:=ig (2*bX N+1);have G:2*bX N*(2*bX N)=4*(bX N*bX N):=by rw[show(4:Nat)=2*2 by decide];ac_rfl
 unfold eC;refine⟨fun h=>?_,fun h=>?_⟩
 ·have e:bX (4*N+p)=2*bX N:=kh (by omega) (by omega)
  refine⟨e,?_⟩;rw[e];omega
 ·have e:bX (4*N+p)=2*bX N+1:=kh (by omega) (by omega)
  refine⟨e,?_⟩;rw[e];omega
theorem Gc(N:Nat):eC N<=2*bX N:=by
 obtain⟨l,t⟩:=cZ N;have h:=ig (bX N);unfold eC;omega
theorem zB(N:Nat):eC N=0↔bX N*bX N=N:=by
 obtain⟨h,l⟩:=cZ N;unfold eC;omega
theorem Gd{N k:Nat}(h:N<k*k):bX N<k:=by
 obtain⟨l,t⟩:=cZ N;exact fu.1 (by omega)
def oX(n i:Nat):Nat:=n/4^(32-i)
theorem Dl(n:Nat)(h:n<18446744073709551616):oX n 0=0:=by
 unfold oX;rw[show(4:Nat)^(32-0)=18446744073709551616 by decide];omega
theorem Ge(n:Nat):oX n 32=n:=by
 unfold oX
 simp
theorem Dm(n i:Nat)(l:i<32):oX n (i+1)=4*oX n i+n/2^(2*(31-i))%4:=by
 unfold oX;have e:(4:Nat)^(32-i)=4^(32-(i+1))*4:=by rw[<-Nat.pow_succ];congr 1;omega
 have h:(2:Nat)^(2*(31-i))=4^(32-(i+1)):=by rw[Nat.pow_mul,show 32-(i+1)=31-i by omega]
 rw[e,h,<-Nat.div_div_eq_div_mul];omega
theorem Kf(n i:Nat)(h:n<18446744073709551616):oX n i<18446744073709551616:=by
 unfold oX;exact Nat.lt_of_le_of_lt (Nat.div_le_self _ _) h
theorem Gf(n i:Nat)(h:n<18446744073709551616):bX (oX n i)<4294967296:=Gd (Nat.lt_of_lt_of_le (Kf n i h) (by decide))
theorem rD(n i:Nat)(h:n<18446744073709551616)(t:i<=22):bX (n*4^i)<18014398509481984:=by
 refine Gd ?_;have l:(4:Nat)^i<=4^22:=Nat.pow_le_pow_right (by decide) t;rw[show(4:Nat)^22=17592186044416 by decide]at l;have D:n*4^i<=n*17592186044416:=Nat.mul_le_mul_left _ l;omega
theorem Do(n i:Nat):n*4^(i+1)=4*(n*4^i)+0:=by rw[Nat.pow_succ];ac_rfl
def nS(b:Nat):Nat:=(fD b).natAbs*2^(64-bl (fD b).natAbs-((dT b)%2).toNat)
def nT(b:Nat):Int:=dT b+(dT b)%2
theorem kW(b:Nat)(F:b<18446744073709551616)(G:ah b=true)(H:fK b≠0):
  nS b<18446744073709551616/\4611686018427387904<=nS b:=by
 obtain⟨L,M,N,O,Q,U,Z,x8⟩:=dJ b F G H;obtain⟨b1,J,K⟩:=cC (fD b).natAbs (by omega);unfold nS;have I:=Nat.two_pow_pos (64-bl (fD b).natAbs-((dT b)%2).toNat);have h:=(Nat.mul_lt_mul_right I).2 K;have l:=Nat.mul_le_mul_right (2^(64-bl (fD b).natAbs-((dT b)%2).toNat)) J;rw[<-Nat.pow_add]at h l;have t:2^(bl (fD b).natAbs+(64-bl (fD b).natAbs-((dT b)%2).toNat))<=2^64:=Nat.pow_le_pow_right (by decide) (by omega);have D:2^62<=2^(bl (fD b).natAbs-1+(64-bl (fD b).natAbs-((dT b)%2).toNat)):=Nat.pow_le_pow_right (by decide) (by omega);rw[show(2:Nat)^64=18446744073709551616 by decide]at t;rw[show(2:Nat)^62=4611686018427387904 by decide]at D;exact⟨Nat.lt_of_lt_of_le h t,Nat.le_trans D l⟩
theorem Kg(a:Nat)(t:a<18446744073709551616)(D:ah a=true)(l:fK a≠0):
  cU (rS (nS a*4^22)) (nT a/2-55)=tV a/\cD (oM (rS (nS a*4^22):Nat)).natAbs (oE (rS (nS a*4^22):Nat) (nT a/2-55))=tF a:=by
 obtain⟨α,K,G,L,M⟩:=p9 a t D l;obtain⟨N,O,Q,U,Z,y6,y7,y8⟩:=dJ a t D l;obtain⟨n1,H⟩:=kW a t D l;have F:nS a*4^22=(fD a).natAbs*2^(64-bl (fD a).natAbs-((dT a)%2).toNat+44):=by
  unfold nS;rw[Nat.pow_add,Nat.mul_assoc]
 have h:9007199254740992<=bX (nS a*4^22):=by
  refine Fx ?_;rw[show(2:Nat)^106=4611686018427387904*4^22 by decide];exact Nat.mul_le_mul_right _ H
 rw[F]at h⊢;have I:dT a=(bl (fD a).natAbs:Int)+fX a:=rfl;have J:nT a=dT a+dT a%2:=rfl;have:=Fy a (fD a).natAbs α (64-bl (fD a).natAbs-((dT a)%2).toNat+44) (nT a/2-54) l G.symm (by omega) h
 rwa[show nT a/2-54-1=nT a/2-55 by omega]at this
theorem Qg(n:Nat)(h:n<18446744073709551616):rS (n*4^22)<36028797018963968:=by
 have:=rD n 22 h (by decide);unfold rS
 split<;>omega
end Go.Proofs.YtcbcmlaogehimaaGreatDoor
