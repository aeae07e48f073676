/- Part 22 of the texts. -/
import Derived.Test.YtlnphkioddknfaaGreatDoorParty21
set_option maxHeartbeats 4000000
set_option maxRecDepth 20000
namespace Go.Proofs.YtlnphkioddknfaaGreatDoor
open Go.RowKit
def Je(t:Nat):List Nat→List Nat→List Nat
 |v::vs,y::ys=>aV y (fN (mV t v))::Je t vs ys
 |_,_=>[]
def sm:Nat→(Nat→Rat)→Rat
 |0,_=>0
 |n+1,f=>sm n f+f n
def gw(ε:Rat):Nat→Rat
 |0=>1
 |k+1=>(1+2*ε)*gw ε k
def bk(ε:Rat):Nat→Rat
 |0=>0
 |k+1=>3+(1+2*ε)*(1+2*ε)*bk ε k
def er(ε δ:Rat):Nat→Rat
 |0=>0
 |k+1=>gw ε k+er ε δ k*(1+2*ε+δ)
def aO(s t:Bool):Nat:=if(s&&t)=true then 9223372036854775808 else 0
theorem ve(a b:Nat)(w:World)(l:a<18446744073709551616)(m:b<18446744073709551616):
  Calls Tryz.prog 263 #[.int .u64 a,.int .u64 b] w fun e f=>e=.returned (.int .u64 (aO (fS a) (fS b):Nat))∧Below w.heap.size w f:=by
 have y:=aa (fun f=>dZ a f l)
 have z:=aa (fun f=>dZ b f m)
 generalize fS a=s at*
 generalize fS b=t at*
 clear l m
 go_enter Tryz.func263,Tryz.ntmps263
 go_wp2_with fail
 refine(uH y _).mono ?_
 rintro e A ⟨rfl,d⟩
 cases s
 ·go_wp2
  go_ret
  exact⟨rfl,d⟩
 ·go_wp2_with fail
  refine(uH z _).mono ?_
  rintro e D ⟨rfl,h⟩
  cases t
  ·go_wp2
   go_ret
   exact⟨rfl,d.trans (h.mono d.size)⟩
  ·go_wp2
   go_ret
   exact⟨rfl,d.trans (h.mono d.size)⟩
theorem Bm{w:World}{n:Bool}{a:Option Addr}{l c:Nat}{e m X:Int}(h:aG w (.agg #[.bool n,.slice a l c,.int .i64 e]) m X):((l:Int)==0)=decide (m=0):=by
 obtain⟨F,G,H,d,y,_,D,_,t,_⟩:=h.parts
 simp only[Value.agg.injEq,Array.mk.injEq,List.cons.injEq,Value.slice.injEq]at y
 have A:=y.2.1.2.1
 by_cases f:m=0
 ·have:d= []:=(aL d D).1 (by rw[t,f];rfl)
  rw[decide_eq_true f,A,this];rfl
 ·have:d.length≠0:=fun z=>by
   have:d= []:=List.length_eq_zero_iff.1 z
   rw[this]at t
   simp[an]at t
   omega
  rw[decide_eq_false f];simp;omega
theorem sL(a b:Nat)(z1 z2 m t y:Int)(w:World)(o:Nat)
  (C1:∀h,Below w.heap.size w h→Calls Tryz.prog 203 #[.int .u64 a] h fun r l=>mn l r 0 z1 m∧Below h.heap.size h l)
  (C2:∀h,Below w.heap.size w h→Calls Tryz.prog 203 #[.int .u64 b] h fun r l=>mn l r 0 z2 t∧Below h.heap.size h l)
  (C3:∀h v u,Below w.heap.size w h→aG h v z1 m→aG h u z2 t→Calls Tryz.prog 262 #[v,u] h fun r l=>mn l r 0 0 y∧Below h.heap.size h l)
  (C4:∀h,Calls Tryz.prog 263 #[.int .u64 a,.int .u64 b] h fun r l=>r=.returned (.int .u64 (o:Nat))∧Below h.heap.size h l):
  Calls Tryz.prog 245 #[.int .u64 a,.int .u64 b] w fun r h=>r=.returned (.tuple #[.int .u64 (o:Nat),.int .u8 0])∧Below w.heap.size w h:=by
 have K1:=aa C1;have K2:=aa C2;have K3:=aa C3;have K4:=aa C4
 clear C1 C2 C3 C4
 go_enter Tryz.func245,Tryz.ntmps245
 go_wp2_with fail
 refine(uH K1 _ (Below.refl _ _)).mono ?_
 rintro e D ⟨⟨v,rfl,F⟩,f⟩
 obtain⟨O,Q,U,V,rfl,i1⟩:=F
 have d:Below D.heap.size D (D.alloc (.cells #[.bool O,.slice Q V.length U,.int .i64 m] 47)):=(Below.refl _ _).alloc (Nat.le_refl _) _
 have HV:=aa ((show aG D (.agg #[.bool O,.slice Q V.length U,.int .i64 m]) z1 m from⟨O,Q,U,V,rfl,i1⟩).below d)
 have X:=aa (az.new D (.bool O) (.slice Q V.length U) (.int .i64 m))
 have I:=aa (f.trans (d.mono f.size))
 clear i1 f d K1
 go_wp2_with fail
 refine(uH K2 _ (uH I)).mono ?_
 rintro e G ⟨⟨v,rfl,F⟩,f⟩
 obtain⟨Y,Z,c2,L2,rfl,i2⟩:=F
 have d:Below G.heap.size G (G.alloc (.cells #[.bool Y,.slice Z L2.length c2,.int .i64 t] 47)):=(Below.refl _ _).alloc (Nat.le_refl _) _
 have HU:=aa ((show aG G (.agg #[.bool Y,.slice Z L2.length c2,.int .i64 t]) z2 t from⟨Y,Z,c2,L2,rfl,i2⟩).below d)
 have z:=aa (((uH HV).below f).below d)
 have K:=((uH X).all f).all d
 have L:=az.new G (.bool Y) (.slice Z L2.length c2) (.int .i64 t)
 have M:=aa ((uH I).trans ((f.trans (d.mono f.size)).mono (uH I).size))
 have y0:=K.c0;have y1:=K.c1;have y2:=K.c2;have u0:=L.c0;have u1:=L.c1;have u2:=L.c2
 clear i2 f d K2 I HV X K L
 go_wp2_with fail
 refine(uH K3 _ _ _ (uH M) (uH z) (uH HU)).mono ?_
 rintro e H ⟨⟨v,rfl,F⟩,f⟩
 clear y0 y1 y2 u0 u1 u2
 obtain⟨n3,a3,c3,A,rfl,i3⟩:=F
 have d:Below H.heap.size H (H.alloc (.cells #[.bool n3,.slice a3 A.length c3,.int .i64 y] 47)):=(Below.refl _ _).alloc (Nat.le_refl _) _
 have HX:=aa ((show aG H (.agg #[.bool n3,.slice a3 A.length c3,.int .i64 y]) 0 y from⟨n3,a3,c3,A,rfl,i3⟩).below d)
 have hl:=Bm (uH HX)
 rw[decide_eq_true rfl]at hl
 have B3:=aa ((uH M).trans ((f.trans (d.mono f.size)).mono (uH M).size))
 have N:=az.new H (.bool n3) (.slice a3 A.length c3) (.int .i64 y)
 have y0:=N.c0;have y1:=N.c1;have y2:=N.c2
 clear i3 f d K3 M z HU N
 generalize A.length=l3 at*
 go_wp2_with fail
 refine(uH K4 _).mono ?_
 rintro e w4 ⟨rfl,f⟩
 have B4:=aa ((uH B3).trans (f.mono (uH B3).size))
 clear f K4 B3
 go_wp2
 exact bodyPost_ret (v:=.tuple #[.int .u64 o,.int .u8 0]) (by simp[results,Tryz.results245,go_sem]) rfl ⟨rfl,uH B4⟩
theorem sM(a b:Nat)(z1 z2 I m t y fl:Int)(w:World)(o:Nat)(h0:I≠0)
  (C1:∀h,Below w.heap.size w h→Calls Tryz.prog 203 #[.int .u64 a] h fun r l=>mn l r 0 z1 m∧Below h.heap.size h l)
  (C2:∀h,Below w.heap.size w h→Calls Tryz.prog 203 #[.int .u64 b] h fun r l=>mn l r 0 z2 t∧Below h.heap.size h l)
  (C3:∀h v u,Below w.heap.size w h→aG h v z1 m→aG h u z2 t→Calls Tryz.prog 262 #[v,u] h fun r l=>mn l r 0 I y∧Below h.heap.size h l)
  (C4:∀h v,Below w.heap.size w h→aG h v I y→Calls Tryz.prog 205 #[v] h fun r l=>r=.returned (.tuple #[.int .u64 (o:Nat),.int .u8 fl,.int .i64 0])∧Below h.heap.size h l):
  Calls Tryz.prog 245 #[.int .u64 a,.int .u64 b] w fun r h=>r=.returned (.tuple #[.int .u64 (o:Nat),.int .u8 fl])∧Below w.heap.size w h:=by
 have K1:=aa C1;have K2:=aa C2;have K3:=aa C3;have K4:=aa C4
 clear C1 C2 C3 C4
 go_enter Tryz.func245,Tryz.ntmps245
 go_wp2_with fail
 refine(uH K1 _ (Below.refl _ _)).mono ?_
 rintro e D ⟨⟨v,rfl,F⟩,f⟩
 obtain⟨U,V,Y,Z,rfl,i1⟩:=F
 have d:Below D.heap.size D (D.alloc (.cells #[.bool U,.slice V Z.length Y,.int .i64 m] 47)):=(Below.refl _ _).alloc (Nat.le_refl _) _
 have HV:=aa ((show aG D (.agg #[.bool U,.slice V Z.length Y,.int .i64 m]) z1 m from⟨U,V,Y,Z,rfl,i1⟩).below d)
 have X:=aa (az.new D (.bool U) (.slice V Z.length Y) (.int .i64 m))
 have K:=aa (f.trans (d.mono f.size))
 clear i1 f d K1
 go_wp2_with fail
 refine(uH K2 _ (uH K)).mono ?_
 rintro e G ⟨⟨v,rfl,F⟩,f⟩
 obtain⟨n2,a2,c2,L2,rfl,i2⟩:=F
 have d:Below G.heap.size G (G.alloc (.cells #[.bool n2,.slice a2 L2.length c2,.int .i64 t] 47)):=(Below.refl _ _).alloc (Nat.le_refl _) _
 have HU:=aa ((show aG G (.agg #[.bool n2,.slice a2 L2.length c2,.int .i64 t]) z2 t from⟨n2,a2,c2,L2,rfl,i2⟩).below d)
 have z:=aa (((uH HV).below f).below d)
 have L:=((uH X).all f).all d
 have M:=az.new G (.bool n2) (.slice a2 L2.length c2) (.int .i64 t)
 have N:=aa ((uH K).trans ((f.trans (d.mono f.size)).mono (uH K).size))
 have y0:=L.c0;have y1:=L.c1;have y2:=L.c2;have u0:=M.c0;have u1:=M.c1;have u2:=M.c2
 clear i2 f d K2 K HV X L M
 go_wp2_with fail
 refine(uH K3 _ _ _ (uH N) (uH z) (uH HU)).mono ?_
 rintro e H ⟨⟨v,rfl,F⟩,f⟩
 clear y0 y1 y2 u0 u1 u2
 obtain⟨n3,a3,c3,A,rfl,i3⟩:=F
 have d:Below H.heap.size H (H.alloc (.cells #[.bool n3,.slice a3 A.length c3,.int .i64 y] 47)):=(Below.refl _ _).alloc (Nat.le_refl _) _
 have HX:=aa ((show aG H (.agg #[.bool n3,.slice a3 A.length c3,.int .i64 y]) I y from⟨n3,a3,c3,A,rfl,i3⟩).below d)
 have hl:=Bm (uH HX)
 rw[decide_eq_false h0]at hl
 have O:=aa ((uH N).trans ((f.trans (d.mono f.size)).mono (uH N).size))
 have Q:=az.new H (.bool n3) (.slice a3 A.length c3) (.int .i64 y)
 have y0:=Q.c0;have y1:=Q.c1;have y2:=Q.c2
 clear i3 f d K3 N z HU Q
 generalize A.length=l3 at*
 go_wp2_with fail
 refine(uH K4 _ _ (uH O) (uH HX)).mono ?_
 rintro e w4 ⟨rfl,f⟩
 have B4:=aa ((uH O).trans (f.mono (uH O).size))
 clear f K4 O
 go_wp2
 exact bodyPost_ret (v:=.tuple #[.int .u64 o,.int .u8 fl]) (by simp[results,Tryz.results245,go_sem]) rfl ⟨rfl,uH B4⟩
theorem oX(a b:Nat)(w:World)(y:a<18446744073709551616)(z:b<18446744073709551616)(l:aC a=true)(m:aC b=true)(t:b7 w):
  Calls Tryz.prog 245 #[.int .u64 a,.int .u64 b] w fun r d=>r=.returned (.tuple #[.int .u64 (aV a b:Nat),.int .u8 (aF a b)])∧Below w.heap.size w d:=by
 obtain⟨K,L⟩:fK a≠3∧fK a≠4:=by
  rcases gg a with⟨h,_⟩|⟨_,h⟩
  ·rw[l]at h;cases h
  ·omega
 obtain⟨M,N⟩:fK b≠3∧fK b≠4:=by
  rcases gg b with⟨h,_⟩|⟨_,h⟩
  ·rw[m]at h;cases h
  ·omega
 obtain⟨U,V⟩:=dJ a y l
 obtain⟨X,Y⟩:=dJ b z m
 have D:=G9 a b l m
 have G:∀d,Below w.heap.size w d→_:=fun d h=>df a d y l (t.all h)
 have H:∀d,Below w.heap.size w d→_:=fun d h=>df b d z m (t.all h)
 have F:∀d v u,Below w.heap.size w d→aG d v (fD a) (fX a)→aG d u (fD b) (fX b)→_:=fun d v u h A O=>
  JF (W:=2099) (lo:=-1074) (z1:=fZ a) (z2:=fZ b) (by rw[U,V];exact A) (by rw[X,Y];exact O) (lm a l) (lm b m) D (t.all h)
 rw[(wN a b K L M N).1,(wN a b K L M N).2]
 by_cases f:aZ a b=0
 ·rw[if_pos f,if_pos f]
  have Q:fZ a+fZ b=0:=f
  rw[Q,cw]at F
  exact sL a b _ _ _ _ _ w _ G H F (fun d=>ve a b d y z)
 ·rw[if_neg f,if_neg f]
  have I:∀d v,Below w.heap.size w d→aG d v (oM (aZ a b)) (oE (aZ a b) (-1074))→_:=fun d v h A=>jh A D.right.2 D.right.1 (t.all h)
  rw[(jG (aZ a b) (-1074)).1,jF]at I
  exact sM a b _ _ _ _ _ _ _ w _ (gJ _ f).1 G H F I
theorem EZ(a b:Nat)(A:Int)(w:World)
  (m:∀d,Calls Tryz.prog 103 #[.int .u64 a] d fun r f=>r=.returned (.int .i64 4)∧Below d.heap.size d f)
  (t:∀d,Calls Tryz.prog 103 #[.int .u64 b] d fun r f=>r=.returned (.int .i64 A)∧Below d.heap.size d f):
  Calls Tryz.prog 224 #[.int .u64 a,.int .u64 b] w fun r d=>r=.returned (.tuple #[.int .u64 9221120237041090560,.int .u8 0])∧Below w.heap.size w d:=by
 have y:=aa m;have z:=aa t
 clear m t
 go_enter Tryz.func224,Tryz.ntmps224
 go_wp2_with fail
 refine(uH y _).mono ?_
 rintro e D ⟨rfl,h⟩
 go_wp2_with fail
 refine(uH z _).mono ?_
 rintro e F ⟨rfl,l⟩
 have B:=aa (h.trans (l.mono h.size))
 clear h l y z
 go_wp2
 exact bodyPost_ret (v:=.tuple #[.int .u64 9221120237041090560,.int .u8 0]) (by simp[results,Tryz.results224,go_sem]) rfl ⟨rfl,uH B⟩
theorem E5(a b:Nat)(m:Int)(w:World)(D:(m==4)=false)
  (t:∀d,Calls Tryz.prog 103 #[.int .u64 a] d fun r f=>r=.returned (.int .i64 m)∧Below d.heap.size d f)
  (y:∀d,Calls Tryz.prog 103 #[.int .u64 b] d fun r f=>r=.returned (.int .i64 4)∧Below d.heap.size d f):
  Calls Tryz.prog 224 #[.int .u64 a,.int .u64 b] w fun r d=>r=.returned (.tuple #[.int .u64 9221120237041090560,.int .u8 0])∧Below w.heap.size w d:=by
 have z:=aa t;have A:=aa y
 clear t y
 go_enter Tryz.func224,Tryz.ntmps224
 go_wp2_with fail
 refine(uH z _).mono ?_
 rintro e F ⟨rfl,h⟩
 go_wp2_with fail
 refine(uH A _).mono ?_
 rintro e G ⟨rfl,l⟩
 have B:=aa (h.trans (l.mono h.size))
 clear h l z A
 go_wp2
 exact bodyPost_ret (v:=.tuple #[.int .u64 9221120237041090560,.int .u8 0]) (by simp[results,Tryz.results224,go_sem]) rfl ⟨rfl,uH B⟩
theorem E6(a b:Nat)(w:World)(A:((a:Int)==(b:Int))=false)
  (m:∀d,Calls Tryz.prog 103 #[.int .u64 a] d fun r f=>r=.returned (.int .i64 3)∧Below d.heap.size d f)
  (t:∀d,Calls Tryz.prog 103 #[.int .u64 b] d fun r f=>r=.returned (.int .i64 3)∧Below d.heap.size d f):
  Calls Tryz.prog 224 #[.int .u64 a,.int .u64 b] w fun r d=>r=.returned (.tuple #[.int .u64 9221120237041090560,.int .u8 16])∧Below w.heap.size w d:=by
 have y:=aa m;have z:=aa t
 clear m t
 go_enter Tryz.func224,Tryz.ntmps224
 go_wp2_with fail
 refine(uH y _).mono ?_
 rintro e D ⟨rfl,h⟩
 go_wp2_with fail
 refine(uH z _).mono ?_
 rintro e F ⟨rfl,l⟩
 have B:=aa (h.trans (l.mono h.size))
 clear h l y z
 go_wp2
 exact bodyPost_ret (v:=.tuple #[.int .u64 9221120237041090560,.int .u8 16]) (by simp[results,Tryz.results224,go_sem]) rfl ⟨rfl,uH B⟩
theorem E7(a b:Nat)(w:World)(A:((a:Int)==(b:Int))=true)
  (m:∀d,Calls Tryz.prog 103 #[.int .u64 a] d fun r f=>r=.returned (.int .i64 3)∧Below d.heap.size d f)
  (t:∀d,Calls Tryz.prog 103 #[.int .u64 b] d fun r f=>r=.returned (.int .i64 3)∧Below d.heap.size d f):
  Calls Tryz.prog 224 #[.int .u64 a,.int .u64 b] w fun r d=>r=.returned (.tuple #[.int .u64 a,.int .u8 0])∧Below w.heap.size w d:=by
 have y:=aa m;have z:=aa t
 clear m t
 go_enter Tryz.func224,Tryz.ntmps224
 go_wp2_with fail
 refine(uH y _).mono ?_
 rintro e D ⟨rfl,h⟩
 go_wp2_with fail
 refine(uH z _).mono ?_
 rintro e F ⟨rfl,l⟩
 have B:=aa (h.trans (l.mono h.size))
 clear h l y z
 go_wp2
 exact bodyPost_ret (v:=.tuple #[.int .u64 a,.int .u8 0]) (by simp[results,Tryz.results224,go_sem]) rfl ⟨rfl,uH B⟩
theorem Ho(a b:Nat)(m:Int)(w:World)(D:(m==4)=false)(F:(m==3)=false)
  (t:∀d,Calls Tryz.prog 103 #[.int .u64 a] d fun r f=>r=.returned (.int .i64 3)∧Below d.heap.size d f)
  (y:∀d,Calls Tryz.prog 103 #[.int .u64 b] d fun r f=>r=.returned (.int .i64 m)∧Below d.heap.size d f):
  Calls Tryz.prog 224 #[.int .u64 a,.int .u64 b] w fun r d=>r=.returned (.tuple #[.int .u64 a,.int .u8 0])∧Below w.heap.size w d:=by
 have z:=aa t;have A:=aa y
 clear t y
 go_enter Tryz.func224,Tryz.ntmps224
 go_wp2_with fail
 refine(uH z _).mono ?_
 rintro e G ⟨rfl,h⟩
 go_wp2_with fail
 refine(uH A _).mono ?_
 rintro e H ⟨rfl,l⟩
 have B:=aa (h.trans (l.mono h.size))
 clear h l z A
 go_wp2
 exact bodyPost_ret (v:=.tuple #[.int .u64 a,.int .u8 0]) (by simp[results,Tryz.results224,go_sem]) rfl ⟨rfl,uH B⟩
theorem Hp(a b:Nat)(m:Int)(w:World)(D:(m==4)=false)(F:(m==3)=false)
  (t:∀d,Calls Tryz.prog 103 #[.int .u64 a] d fun r f=>r=.returned (.int .i64 m)∧Below d.heap.size d f)
  (y:∀d,Calls Tryz.prog 103 #[.int .u64 b] d fun r f=>r=.returned (.int .i64 3)∧Below d.heap.size d f):
  Calls Tryz.prog 224 #[.int .u64 a,.int .u64 b] w fun r d=>r=.returned (.tuple #[.int .u64 b,.int .u8 0])∧Below w.heap.size w d:=by
 have z:=aa t;have A:=aa y
 clear t y
 go_enter Tryz.func224,Tryz.ntmps224
 go_wp2_with fail
 refine(uH z _).mono ?_
 rintro e G ⟨rfl,h⟩
 go_wp2_with fail
 refine(uH A _).mono ?_
 rintro e H ⟨rfl,l⟩
 have B:=aa (h.trans (l.mono h.size))
 clear h l z A
 go_wp2
 exact bodyPost_ret (v:=.tuple #[.int .u64 b,.int .u8 0]) (by simp[results,Tryz.results224,go_sem]) rfl ⟨rfl,uH B⟩
theorem Hq(a b:Nat)(t y z:Int)(o:Nat)(w:World)(M:(t==4)=false)(N:(t==3)=false)(O:(y==4)=false)(Q:(y==3)=false)(A:b7 w)
  (D:∀d,b7 d→Calls Tryz.prog 245 #[.int .u64 a,.int .u64 b] d fun r f=>r=.returned (.tuple #[.int .u64 (o:Nat),.int .u8 z])∧Below d.heap.size d f)
  (F:∀d,Calls Tryz.prog 103 #[.int .u64 a] d fun r f=>r=.returned (.int .i64 t)∧Below d.heap.size d f)
  (G:∀d,Calls Tryz.prog 103 #[.int .u64 b] d fun r f=>r=.returned (.int .i64 y)∧Below d.heap.size d f):
  Calls Tryz.prog 224 #[.int .u64 a,.int .u64 b] w fun r d=>r=.returned (.tuple #[.int .u64 (o:Nat),.int .u8 z])∧Below w.heap.size w d:=by
 have H:=aa F;have I:=aa G
 clear F G
 go_enter Tryz.func224,Tryz.ntmps224
 go_wp2_with fail
 refine(uH H _).mono ?_
 rintro e U ⟨rfl,h⟩
 go_wp2_with fail
 refine(uH I _).mono ?_
 rintro e V ⟨rfl,l⟩
 have B:=aa (h.trans (l.mono h.size))
 clear h l H I
 have K:=aa D;have L:=aa (A.all (uH B))
 clear D A
 go_wp2_with fail
 refine(uH K _ (uH L)).mono ?_
 rintro e X ⟨rfl,m⟩
 have B:=aa ((uH B).trans (m.mono (uH B).size))
 clear m K L
 go_wp2
 exact bodyPost_ret (v:=.tuple #[.int .u64 (o:Nat),.int .u8 z]) (by simp[results,Tryz.results224,go_sem]) rfl ⟨rfl,uH B⟩
theorem sO(a b:Nat)(w:World)(I:a<18446744073709551616)(K:b<18446744073709551616)(L:b7 w):
  Calls Tryz.prog 224 #[.int .u64 a,.int .u64 b] w fun r F=>r=.returned (.tuple #[.int .u64 (aV a b:Nat),.int .u8 (aF a b)])∧Below w.heap.size w F:=by
 have l:=fun F=>cu a F I
 have m:=fun F=>cu b F K
 by_cases G:fK a=4
 ·have y:aV a b=9221120237041090560:=by unfold aV;rw[if_pos (Or.inl G)]
  have z:aF a b=0:=by unfold aF;rw[if_pos (Or.inl G)]
  rw[y,z]
  rw[G]at l
  exact EZ a b _ w l m
 by_cases H:fK b=4
 ·have y:aV a b=9221120237041090560:=by unfold aV;rw[if_pos (Or.inr H)]
  have z:aF a b=0:=by unfold aF;rw[if_pos (Or.inr H)]
  rw[y,z]
  rw[H]at m
  exact E5 a b _ w (by simp[G]) l m
 have D:¬(fK a=4∨fK b=4):=by omega
 by_cases d:fK a=3
 ·by_cases f:fK b=3
  ·by_cases A:a=b
   ·have y:aV a b=a:=by unfold aV;rw[if_neg D,if_pos d,if_neg (fun h=>h.2 A)]
    have z:aF a b=0:=by unfold aF;rw[if_neg D,if_pos d,if_neg (fun h=>h.2 A)]
    rw[y,z]
    rw[d]at l
    rw[f]at m
    exact E7 a b w (by simp[A]) l m
   ·have y:aV a b=9221120237041090560:=by unfold aV;rw[if_neg D,if_pos d,if_pos ⟨f,A⟩]
    have z:aF a b=16:=by unfold aF;rw[if_neg D,if_pos d,if_pos ⟨f,A⟩]
    rw[y,z]
    rw[d]at l
    rw[f]at m
    exact E6 a b w (by simp;omega) l m
  ·have y:aV a b=a:=by unfold aV;rw[if_neg D,if_pos d,if_neg (fun h=>f h.1)]
   have z:aF a b=0:=by unfold aF;rw[if_neg D,if_pos d,if_neg (fun h=>f h.1)]
   rw[y,z]
   rw[d]at l
   exact Ho a b _ w (by simp[H]) (by simp[f]) l m
 ·by_cases f:fK b=3
  ·have y:aV a b=b:=by unfold aV;rw[if_neg D,if_neg d,if_pos f]
   have z:aF a b=0:=by unfold aF;rw[if_neg D,if_neg d,if_pos f]
   rw[y,z]
   rw[f]at m
   exact Hp a b _ w (by simp[G]) (by simp[d]) l m
  ·exact Hq a b _ _ _ _ w (by simp[G]) (by simp[d]) (by simp[H]) (by simp[f]) L (fun F t=>oX a b F I K (bh a d G) (bh b f H) t) l m
theorem Bn(a b:Nat)(w:World)(l:a<18446744073709551616)(f:b<18446744073709551616)(m:b7 w):
  Calls Tryz.prog 200 #[.int .u64 a,.int .u64 b] w fun r h=>r=.returned (.tuple #[.int .u64 (aV a (fN b):Nat),.int .u8 (aF a (fN b))])∧Below w.heap.size w h:=by
 have t:=aa (fun h=>ge b h f)
 have y:=aa (sO a (fN b) w l (jR b f) m)
 clear l f m
 generalize aV a (fN b)=o at*
 generalize aF a (fN b)=z at*
 go_enter Tryz.func200,Tryz.ntmps200
 go_wp2_with fail
 refine(uH t _).mono ?_
 rintro e A ⟨rfl,rfl⟩
 go_wp2_with fail
 refine Calls.mono (uH y) ?_
 rintro e D ⟨rfl,d⟩
 have B:=aa d
 clear d t y
 go_wp2
 exact bodyPost_ret (v:=.tuple #[.int .u64 o,.int .u8 z]) (by simp[results,Tryz.results200,go_sem]) rfl ⟨rfl,uH B⟩
end Go.Proofs.YtlnphkioddknfaaGreatDoor
