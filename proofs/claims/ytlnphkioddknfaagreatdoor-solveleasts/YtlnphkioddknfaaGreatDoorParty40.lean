/- Part 40 of the texts. -/
import Derived.Test.YtlnphkioddknfaaGreatDoorParty39
set_option maxHeartbeats 16000000
set_option maxRecDepth 20000
namespace Go.Proofs.YtlnphkioddknfaaGreatDoor
open Go.RowKit
attribute [local go_sem ↓] Go.wp_at_zero Go.wp_at_succ
def jw(w wr:World)(v:Value)(S:List Nat):Prop:=bD (w.heap.size+1) wr v S∧eh 150 wr w.heap.size (.slice none 0 0) (.int .u64 0) (.int .u64 0)∧Below w.heap.size w wr
theorem jw.all{w wr f:World}{v:Value}{S:List Nat}(h:jw w wr v S)(d:Below wr.heap.size wr f):jw w f v S:=⟨h.1.below d,h.2.1.all d,h.2.2.trans (d.mono h.2.2.size)⟩
theorem jw.push{w wr:World}{v:Value}{S:List Nat}(h:jw w wr v S)(x:Nat)(y:x<18446744073709551616)(z:S.length≤1000000)(l:TypeId):
  ∃d f,(Builtin.append_ #[22,22] l #[v,.slice (some ⟨wr.heap.size,0,none⟩) 1 1]).run Tryz.prog (wr.alloc (.cells #[.int .u64 (x:Int)] 37))=.ok d f∧jw w f d (S++[x]):=by
 obtain⟨A,m,D⟩:=h
 obtain⟨d,f,F,G,t,_⟩:=A.push x y z (by have:=m.lt;omega) l
 exact⟨d,f,F,G,m.below t (by omega),D.trans (t.mono (by omega))⟩
theorem jw.start(w:World):jw w ((w.alloc (.cells #[.slice none 0 0,.int .u64 0,.int .u64 0] 150)).alloc (.cells #[.int .u64 4607182418800017408] 37)) (.slice (some ⟨w.heap.size+1,0,none⟩) 1 1) [4607182418800017408]:=by
 have h:=ab w (.cells #[.slice none 0 0,.int .u64 0,.int .u64 0] 150)
 have t:=ad w (.cells #[.slice none 0 0,.int .u64 0,.int .u64 0] 150)
 have y:=eh.new 150 w (.slice none 0 0) (.int .u64 0) (.int .u64 0)
 generalize w.alloc (.cells #[.slice none 0 0,.int .u64 0,.int .u64 0] 150)=d at*
 have l:=ab d (.cells #[.int .u64 4607182418800017408] 37)
 have m:(d.alloc (.cells #[.int .u64 4607182418800017408] 37)).heap[d.heap.size]? =some (.cells #[.int .u64 4607182418800017408] 37 (0,0)):=heap_alloc_new d _
 rw[t]at m
 refine⟨⟨⟨rfl,.inr ⟨w.heap.size+1,1,#[.int .u64 4607182418800017408],rfl,Nat.le_refl _,m,Nat.le_refl _,by unfold maxLen;omega,rfl,rfl⟩⟩,fun x f=>by simp at f;subst f;decide⟩,y.all l,h.trans (l.mono h.size)⟩
def oN(g:Nat→Nat)(j:Nat):List Nat:=4607182418800017408::gY g (j-1)
theorem Dn(g:Nat→Nat):oN g 1= [4607182418800017408]:=rfl
theorem jL(g:Nat→Nat){j:Nat}(d:1≤j):(oN g j).length=j:=by
 show(gY g (j-1)).length+1=j
 rw[dw]
 omega
theorem oz(g:Nat→Nat){j:Nat}(d:1≤j):oN g (j+1)=oN g j++[g (j-1)]:=by
 obtain⟨i,rfl⟩:∃i,j=i+1:=⟨j-1,by omega⟩
 show 4607182418800017408::gY g (i+1)=(4607182418800017408::gY g i)++[g i]
 rw[iq]
 rfl
theorem mt(ao:Option Addr)(n c a:Nat)(w:World)(I:1≤n)(hn:n≤64)
  (N:∀d,Below w.heap.size w d→∃b t,ao=some ⟨b,t,none⟩∧d.cell? ⟨b,t,none⟩=some (.int .u64 (a:Nat)))
  (O:∀d,Below w.heap.size w d→Calls Tryz.prog 195 #[.slice ao n c] d fun e K=>e=.returned (.bool true)∧Below d.heap.size d K):
  Calls Tryz.prog 154 #[.slice ao n c] w fun e d=>∃f h,e=.returned (.tuple #[.agg #[.slice f n h,.int .u64 0,.int .u64 (a:Nat)],.bool true])∧bH w.heap.size f (ar (oN (fun _=>0) n))∧ac d f h (ar (oN (fun _=>0) n))∧Below w.heap.size w d:=by
 have A:=aa (jw.start w)
 have U:=aa O;have KX:=aa N
 clear O N
 have ae:(1:Int)≤(n:Int):=by omega
 go_enter Tryz.func154,Tryz.ntmps154
 go_wp2_with fail
 refine(uH U _ (uH A).2.2).mono ?_
 rintro e w1 ⟨rfl,Z⟩
 replace A:=aa ((uH A).all Z)
 clear Z U
 go_wp2_with fail
 go_loopw[4,5] (fun v i wr=>∃j:Nat,1≤j∧j≤n∧i=.int .i64 j∧Hid (jw w wr v (oN (fun _=>0) j))) (fun _ i _=>n-(intOf i).toNat)
 case atStart=>exact⟨1,Nat.le_refl _,I,rfl,by rw[Dn];exact A⟩
 case round=>
  clear A
  obtain⟨j,y,hj,rfl,F⟩:=hrel
  by_cases aj:j<n
  ·have ak:(j:Int)<(n:Int):=by omega
   obtain⟨v3,w3,l,G⟩:=(uH F).push 0 (by decide) (by rw[jL _ y];omega) 22
   have D:=aa l
   have S3:=aa (show jw w w3 v3 (oN (fun _=>0) (j+1))from by rw[oz _ y];exact G)
   clear l G F
   go_wp2_with(at_builtin;refine aT _ rfl _ _ 22 rfl _ _ _ _ rfl rfl (uH D) ?_;clear D)
   go_round
   case rel=>exact⟨j+1,by omega,by omega,by go_num,S3⟩
   case measure=>simp[intOf];omega
  ·have L:j=n:=by omega
   subst L
   obtain⟨b,t,rfl,ca⟩:=uH KX _ (uH F).2.2
   obtain⟨z,m,V⟩:=uH F
   obtain⟨f,h,X,Y⟩:=z.bits
   rw[jL _ y]at X
   subst X
   have r0:=m.c0;have r1:=m.c1;have r2:=m.c2
   have f0:=m.free 0;have f1:=m.free 1;have f2:=m.free 2
   have H:=m.put (.slice f j h) (.int .u64 0) (.int .u64 (a:Nat))
   have z0:=H.c0;have z1:=H.c1;have z2:=H.c2
   have M:=aa (bH.least z.newB (Nat.le_succ w.heap.size))
   have Q:=aa (((Y.far z.newB (show w.heap.size<w.heap.size+1 by omega) 0 (.slice f j h)).far z.newB (show w.heap.size<w.heap.size+1 by omega) 1 (.int .u64 0)).far z.newB (show w.heap.size<w.heap.size+1 by omega) 2 (.int .u64 (a:Nat)))
   have BP:=aa (aD V (Nat.le_refl _) (.slice f j h) (.int .u64 0) (.int .u64 (a:Nat)))
   clear F z Y H m V
   go_wp2_with fail
   exact bodyPost_ret (v:=.tuple #[.agg #[.slice f j h,.int .u64 0,.int .u64 (a:Nat)],.bool true]) (by simp[results,Tryz.results154,go_sem,z0,z1,z2]) rfl ⟨f,h,rfl,uH M,uH Q,uH BP⟩
theorem tJ(ao:Option Addr)(n c b0 bm b d:Nat)(sg f1 f2:Bool)(X:Nat→Nat)(w:World)(am:1≤n)(hn:n≤64)(hf:f1=false∨(f1=true∧f2=false))
  (X0:∀f,Below w.heap.size w f→∃b F,ao=some ⟨b,F,none⟩∧∀j,j<n→f.cell? ⟨b,F+j,none⟩=some (.int .u64 (X j:Nat)))
  (C1:∀f,Below w.heap.size w f→Calls Tryz.prog 195 #[.slice ao n c] f fun e m=>e=.returned (.bool false)∧Below f.heap.size f m)
  (C2:∀f,Below w.heap.size w f→Calls Tryz.prog 196 #[.slice ao n c] f fun e m=>e=.returned (.int .u64 (b0:Nat))∧Below f.heap.size f m)
  (C3:∀f,Below w.heap.size w f→Calls Tryz.prog 197 #[.slice ao n c] f fun e m=>∃p:Nat,e=.returned (.int .i64 (p:Nat))∧p<n∧fS (X p)=sg∧Below f.heap.size f m)
  (C4:∀f p,fS (X p)=sg→Calls Tryz.prog 120 #[.int .u64 (X p:Nat)] f fun e m=>e=.returned (.bool sg)∧f=m)
  (C5:∀f,Calls Tryz.prog 121 #[.int .u64 b0] f fun e m=>e=.returned (.int .u64 (bm:Nat))∧f=m)
  (t:(sg=true∧b=b0)∨(sg=false∧b=bm))
  (C6:∀f,Calls Tryz.prog 49 #[.int .u64 (X 0:Nat),.int .u64 b] f fun e m=>e=.returned (.int .u64 (d:Nat))∧Below f.heap.size f m)
  (C7:∀f,Calls Tryz.prog 100 #[.int .u64 b] f fun e m=>e=.returned (.bool f1)∧f=m)
  (C8:∀f,Calls Tryz.prog 100 #[.int .u64 d] f fun e m=>e=.returned (.bool f2)∧f=m):
  Calls Tryz.prog 154 #[.slice ao n c] w fun e f=>e=.returned (.tuple #[.agg #[.slice none 0 0,.int .u64 0,.int .u64 0],.bool false])∧Below w.heap.size w f:=by
 have l:=aa (jw.start w)
 have U:=aa X0;have V:=aa C1;have Y:=aa C2;have Z:=aa C3;have K4:=aa C4;have K5:=aa C5;have K6:=aa C6;have K7:=aa C7;have K8:=aa C8
 clear X0 C1 C2 C3 C4 C5 C6 C7 C8
 have ax:(1:Int)≤(n:Int):=by omega
 rcases t with⟨rfl,rfl⟩|⟨rfl,rfl⟩
 ·go_enter Tryz.func154,Tryz.ntmps154
  go_wp2_with fail
  refine(uH V _ (uH l).2.2).mono ?_
  rintro e w1 ⟨rfl,t⟩
  replace l:=aa ((uH l).all t)
  clear t V
  go_wp2_with fail
  refine(uH Y _ (uH l).2.2).mono ?_
  rintro e w2 ⟨rfl,t⟩
  replace l:=aa ((uH l).all t)
  clear t Y
  go_wp2_with fail
  refine(uH Z _ (uH l).2.2).mono ?_
  rintro e w3 ⟨p,rfl,hp,Q,t⟩
  replace l:=aa ((uH l).all t)
  obtain⟨bb,F,rfl,y⟩:=uH U _ (uH l).2.2
  have cp:=y p hp
  have A:=aa (fun f=>uH K4 f p Q)
  have ae:(p:Int)<(n:Int):=by omega
  generalize X p=x at*
  clear t Z y Q K4
  go_wp2_with fail
  refine(uH A _).mono ?_
  rintro e w4 ⟨rfl,rfl⟩
  clear A cp
  obtain⟨aj,N,O,y⟩:=uH U _ (uH l).2.2
  simp only[Option.some.injEq,Addr.mk.injEq]at O
  obtain⟨rfl,rfl,_⟩:=O
  have M:=y 0 (by omega)
  rw[Nat.add_zero]at M
  clear y
  generalize ak:X 0=a at*
  go_wp2_with fail
  refine(uH K6 _).mono ?_
  rintro e w5 ⟨rfl,t⟩
  replace l:=aa ((uH l).all t)
  clear t K6 M
  go_wp2_with fail
  refine(uH K7 _).mono ?_
  rintro e w6 ⟨rfl,rfl⟩
  rcases hf with rfl|⟨rfl,rfl⟩
  ·obtain⟨L,h,D⟩:=uH l
   have r0:=h.c0;have r1:=h.c1;have r2:=h.c2
   have f0:=h.free 0;have G:=h.free 1;have H:=h.free 2
   have z:=h.put (.slice none 0 0) (.int .u64 0) (.int .u64 0)
   have I:=z.c0;have z1:=z.c1;have z2:=z.c2
   have K:=aa (aD D (Nat.le_refl _) (.slice none 0 0) (.int .u64 0) (.int .u64 0))
   clear L h D z l
   go_wp2_with fail
   exact bodyPost_ret (v:=.tuple #[.agg #[.slice none 0 0,.int .u64 0,.int .u64 0],.bool false]) (by simp[results,Tryz.results154,go_sem,I,z1,z2]) rfl ⟨rfl,uH K⟩
  ·go_wp2_with fail
   refine(uH K8 _).mono ?_
   rintro e w6 ⟨rfl,rfl⟩
   obtain⟨L,h,D⟩:=uH l
   have r0:=h.c0;have r1:=h.c1;have r2:=h.c2
   have f0:=h.free 0;have G:=h.free 1;have H:=h.free 2
   have z:=h.put (.slice none 0 0) (.int .u64 0) (.int .u64 0)
   have I:=z.c0;have z1:=z.c1;have z2:=z.c2
   have K:=aa (aD D (Nat.le_refl _) (.slice none 0 0) (.int .u64 0) (.int .u64 0))
   clear L h D z l
   go_wp2_with fail
   exact bodyPost_ret (v:=.tuple #[.agg #[.slice none 0 0,.int .u64 0,.int .u64 0],.bool false]) (by simp[results,Tryz.results154,go_sem,I,z1,z2]) rfl ⟨rfl,uH K⟩
 ·go_enter Tryz.func154,Tryz.ntmps154
  go_wp2_with fail
  refine(uH V _ (uH l).2.2).mono ?_
  rintro e w1 ⟨rfl,t⟩
  replace l:=aa ((uH l).all t)
  clear t V
  go_wp2_with fail
  refine(uH Y _ (uH l).2.2).mono ?_
  rintro e w2 ⟨rfl,t⟩
  replace l:=aa ((uH l).all t)
  clear t Y
  go_wp2_with fail
  refine(uH Z _ (uH l).2.2).mono ?_
  rintro e w3 ⟨p,rfl,hp,Q,t⟩
  replace l:=aa ((uH l).all t)
  obtain⟨bb,F,rfl,y⟩:=uH U _ (uH l).2.2
  have cp:=y p hp
  have A:=aa (fun f=>uH K4 f p Q)
  have ae:(p:Int)<(n:Int):=by omega
  generalize X p=x at*
  clear t Z y Q K4
  go_wp2_with fail
  refine(uH A _).mono ?_
  rintro e w4 ⟨rfl,rfl⟩
  clear A cp
  go_wp2_with fail
  refine(uH K5 _).mono ?_
  rintro e w4 ⟨rfl,rfl⟩
  obtain⟨aj,N,O,y⟩:=uH U _ (uH l).2.2
  simp only[Option.some.injEq,Addr.mk.injEq]at O
  obtain⟨rfl,rfl,_⟩:=O
  have M:=y 0 (by omega)
  rw[Nat.add_zero]at M
  clear y
  generalize ak:X 0=a at*
  go_wp2_with fail
  refine(uH K6 _).mono ?_
  rintro e w5 ⟨rfl,t⟩
  replace l:=aa ((uH l).all t)
  clear t K6 M
  go_wp2_with fail
  refine(uH K7 _).mono ?_
  rintro e w6 ⟨rfl,rfl⟩
  rcases hf with rfl|⟨rfl,rfl⟩
  ·obtain⟨L,h,D⟩:=uH l
   have r0:=h.c0;have r1:=h.c1;have r2:=h.c2
   have f0:=h.free 0;have G:=h.free 1;have H:=h.free 2
   have z:=h.put (.slice none 0 0) (.int .u64 0) (.int .u64 0)
   have I:=z.c0;have z1:=z.c1;have z2:=z.c2
   have K:=aa (aD D (Nat.le_refl _) (.slice none 0 0) (.int .u64 0) (.int .u64 0))
   clear L h D z l
   go_wp2_with fail
   exact bodyPost_ret (v:=.tuple #[.agg #[.slice none 0 0,.int .u64 0,.int .u64 0],.bool false]) (by simp[results,Tryz.results154,go_sem,I,z1,z2]) rfl ⟨rfl,uH K⟩
  ·go_wp2_with fail
   refine(uH K8 _).mono ?_
   rintro e w6 ⟨rfl,rfl⟩
   obtain⟨L,h,D⟩:=uH l
   have r0:=h.c0;have r1:=h.c1;have r2:=h.c2
   have f0:=h.free 0;have G:=h.free 1;have H:=h.free 2
   have z:=h.put (.slice none 0 0) (.int .u64 0) (.int .u64 0)
   have I:=z.c0;have z1:=z.c1;have z2:=z.c2
   have K:=aa (aD D (Nat.le_refl _) (.slice none 0 0) (.int .u64 0) (.int .u64 0))
   clear L h D z l
   go_wp2_with fail
   exact bodyPost_ret (v:=.tuple #[.agg #[.slice none 0 0,.int .u64 0,.int .u64 0],.bool false]) (by simp[results,Tryz.results154,go_sem,I,z1,z2]) rfl ⟨rfl,uH K⟩
theorem vR(ao:Option Addr)(n c b0 bm b d e0 T:Nat)(sg f1 f2:Bool)(X g:Nat→Nat)(w:World)(ax:1≤n)(hn:n≤64)(aI:f1=true)(a0:f2=true)(hg:∀j,j+1<n→g j<18446744073709551616)
  (X0:∀f,Below w.heap.size w f→∃b V,ao=some ⟨b,V,none⟩∧∀j,j<n→f.cell? ⟨b,V+j,none⟩=some (.int .u64 (X j:Nat)))
  (C1:∀f,Below w.heap.size w f→Calls Tryz.prog 195 #[.slice ao n c] f fun e l=>e=.returned (.bool false)∧Below f.heap.size f l)
  (C2:∀f,Below w.heap.size w f→Calls Tryz.prog 196 #[.slice ao n c] f fun e l=>e=.returned (.int .u64 (b0:Nat))∧Below f.heap.size f l)
  (C3:∀f,Below w.heap.size w f→Calls Tryz.prog 197 #[.slice ao n c] f fun e l=>∃p:Nat,e=.returned (.int .i64 (p:Nat))∧p<n∧fS (X p)=sg∧Below f.heap.size f l)
  (C4:∀f p,fS (X p)=sg→Calls Tryz.prog 120 #[.int .u64 (X p:Nat)] f fun e l=>e=.returned (.bool sg)∧f=l)
  (C5:∀f,Calls Tryz.prog 121 #[.int .u64 b0] f fun e l=>e=.returned (.int .u64 (bm:Nat))∧f=l)
  (h:(sg=true∧b=b0)∨(sg=false∧b=bm))
  (C6:∀f,Calls Tryz.prog 49 #[.int .u64 (X 0:Nat),.int .u64 b] f fun e l=>e=.returned (.int .u64 (d:Nat))∧Below f.heap.size f l)
  (C7:∀f,Calls Tryz.prog 100 #[.int .u64 b] f fun e l=>e=.returned (.bool f1)∧f=l)
  (C8:∀f,Calls Tryz.prog 100 #[.int .u64 d] f fun e l=>e=.returned (.bool f2)∧f=l)
  (C9:∀j,1≤j→j<n→∀f,Calls Tryz.prog 52 #[.int .u64 (X j:Nat),.int .u64 d] f fun e l=>e=.returned (.int .u64 (g (j-1):Nat))∧Below f.heap.size f l)
  (CX:∀f,Calls Tryz.prog 49 #[.int .u64 b,.int .u64 (X 0:Nat)] f fun e l=>e=.returned (.int .u64 (e0:Nat))∧Below f.heap.size f l)
  (CY:∀f,Calls Tryz.prog 52 #[.int .u64 e0,.int .u64 b] f fun e l=>e=.returned (.int .u64 (T:Nat))∧Below f.heap.size f l):
  Calls Tryz.prog 154 #[.slice ao n c] w fun e f=>∃D G,e=.returned (.tuple #[.agg #[.slice D n G,.int .u64 (T:Nat),.int .u64 (b:Nat)],.bool true])∧bH w.heap.size D (ar (oN g n))∧ac f D G (ar (oN g n))∧Below w.heap.size w f:=by
 subst aI a0
 have t:=aa (jw.start w)
 have KX:=aa X0;have K1:=aa C1;have K2:=aa C2;have K3:=aa C3;have K4:=aa C4;have K5:=aa C5;have K6:=aa C6;have K7:=aa C7;have K8:=aa C8
 clear X0 C1 C2 C3 C4 C5 C6 C7 C8
 have a5:(1:Int)≤(n:Int):=by omega
 have K9:=aa C9;have Y:=aa CX;have KY:=aa CY;have HG:=aa hg
 clear C9 CX CY hg
 rcases h with⟨rfl,rfl⟩|⟨rfl,rfl⟩
 ·go_enter Tryz.func154,Tryz.ntmps154
  go_wp2_with fail
  refine(uH K1 _ (uH t).2.2).mono ?_
  rintro e w1 ⟨rfl,h⟩
  replace t:=aa ((uH t).all h)
  clear h K1
  go_wp2_with fail
  refine(uH K2 _ (uH t).2.2).mono ?_
  rintro e w2 ⟨rfl,h⟩
  replace t:=aa ((uH t).all h)
  clear h K2
  go_wp2_with fail
  refine(uH K3 _ (uH t).2.2).mono ?_
  rintro e w3 ⟨p,rfl,hp,hs,h⟩
  replace t:=aa ((uH t).all h)
  obtain⟨bb,V,rfl,m⟩:=uH KX _ (uH t).2.2
  have cp:=m p hp
  have I:=aa (fun f=>uH K4 f p hs)
  have a1:(p:Int)<(n:Int):=by omega
  generalize X p=x at*
  clear h K3 m hs K4
  go_wp2_with fail
  refine(uH I _).mono ?_
  rintro e w4 ⟨rfl,rfl⟩
  clear I cp
  obtain⟨ak,N,O,m⟩:=uH KX _ (uH t).2.2
  simp only[Option.some.injEq,Addr.mk.injEq]at O
  obtain⟨rfl,rfl,_⟩:=O
  have K:=m 0 (by omega)
  rw[Nat.add_zero]at K
  clear m
  generalize am:X 0=a at*
  go_wp2_with fail
  refine(uH K6 _).mono ?_
  rintro e w5 ⟨rfl,h⟩
  replace t:=aa ((uH t).all h)
  clear h K6 K
  go_wp2_with fail
  refine(uH K7 _).mono ?_
  rintro e w6 ⟨rfl,rfl⟩
  go_wp2_with fail
  refine(uH K8 _).mono ?_
  rintro e w6 ⟨rfl,rfl⟩
  go_wp2_with fail
  go_loopw[4,8] (fun v i wr=>∃j:Nat,1≤j∧j≤n∧i=.int .i64 j∧Hid (jw w wr v (oN g j))) (fun _ i _=>n-(intOf i).toNat)
  case atStart=>exact⟨1,Nat.le_refl _,ax,rfl,by rw[Dn];exact t⟩
  case round=>
   clear t
   obtain⟨j,y,hj,rfl,F⟩:=hrel
   obtain⟨ak,N,O,m⟩:=uH KX _ (uH F).2.2
   simp only[Option.some.injEq,Addr.mk.injEq]at O
   obtain⟨rfl,rfl,_⟩:=O
   by_cases L:j<n
   ·have a2:(j:Int)<(n:Int):=by omega
    have cj:=m j L
    have KD:=aa (uH K9 j y L)
    have GL:=aa (uH HG (j-1) (by omega))
    have GS:=aa (oz g y)
    generalize g (j-1)=o at*
    generalize X j=xj at*
    clear m
    go_wp2_with fail
    refine(uH KD _).mono ?_
    rintro e w7 ⟨rfl,h⟩
    obtain⟨v3,w8,z,U⟩:=((uH F).all h).push o (uH GL) (by rw[jL _ y];omega) 22
    have M:=aa z
    have S3:=aa (show jw w w8 v3 (oN g (j+1))from by rw[uH GS];exact U)
    clear z U F h cj KD
    go_wp2_with(at_builtin;refine aT _ rfl _ _ 22 rfl _ _ _ _ rfl rfl (uH M) ?_;clear M)
    go_round
    case rel=>exact⟨j+1,by omega,by omega,by go_num,S3⟩
    case measure=>simp[intOf];omega
   ·have ae:j=n:=by omega
    subst ae
    have K:=m 0 (by omega)
    rw[Nat.add_zero,am]at K
    clear m
    go_wp2_with fail
    refine(uH Y _).mono ?_
    rintro e w7 ⟨rfl,h⟩
    replace F:=aa ((uH F).all h)
    clear h Y K
    go_wp2_with fail
    refine(uH KY _).mono ?_
    rintro e w8 ⟨rfl,h⟩
    obtain⟨H,A,h3⟩:=(uH F).all h
    obtain⟨D,G,e1,q1⟩:=H.bits
    rw[jL _ y]at e1
    subst e1
    have r0:=A.c0;have r1:=A.c1;have r2:=A.c2
    have f0:=A.free 0;have a3:=A.free 1;have a4:=A.free 2
    have Z:=A.put (.slice D j G) (.int .u64 (T:Nat)) (.int .u64 (b:Nat))
    have z0:=Z.c0;have z1:=Z.c1;have z2:=Z.c2
    have aj:=aa (bH.least H.newB (Nat.le_succ w.heap.size))
    have Q:=aa (((q1.far H.newB (show w.heap.size<w.heap.size+1 by omega) 0 (.slice D j G)).far H.newB (show w.heap.size<w.heap.size+1 by omega) 1 (.int .u64 (T:Nat))).far H.newB (show w.heap.size<w.heap.size+1 by omega) 2 (.int .u64 (b:Nat)))
    have BP:=aa (aD h3 (Nat.le_refl _) (.slice D j G) (.int .u64 (T:Nat)) (.int .u64 (b:Nat)))
    clear F H q1 Z A h3 h KY
    go_wp2_with fail
    exact bodyPost_ret (v:=.tuple #[.agg #[.slice D j G,.int .u64 (T:Nat),.int .u64 (b:Nat)],.bool true]) (by simp[results,Tryz.results154,go_sem,z0,z1,z2]) rfl ⟨D,G,rfl,uH aj,uH Q,uH BP⟩
 ·go_enter Tryz.func154,Tryz.ntmps154
  go_wp2_with fail
  refine(uH K1 _ (uH t).2.2).mono ?_
  rintro e w1 ⟨rfl,h⟩
  replace t:=aa ((uH t).all h)
  clear h K1
  go_wp2_with fail
  refine(uH K2 _ (uH t).2.2).mono ?_
  rintro e w2 ⟨rfl,h⟩
  replace t:=aa ((uH t).all h)
  clear h K2
  go_wp2_with fail
  refine(uH K3 _ (uH t).2.2).mono ?_
  rintro e w3 ⟨p,rfl,hp,hs,h⟩
  replace t:=aa ((uH t).all h)
  obtain⟨bb,V,rfl,m⟩:=uH KX _ (uH t).2.2
  have cp:=m p hp
  have I:=aa (fun f=>uH K4 f p hs)
  have a1:(p:Int)<(n:Int):=by omega
  generalize X p=x at*
  clear h K3 m hs K4
  go_wp2_with fail
  refine(uH I _).mono ?_
  rintro e w4 ⟨rfl,rfl⟩
  clear I cp
  go_wp2_with fail
  refine(uH K5 _).mono ?_
  rintro e w4 ⟨rfl,rfl⟩
  obtain⟨ak,N,O,m⟩:=uH KX _ (uH t).2.2
  simp only[Option.some.injEq,Addr.mk.injEq]at O
  obtain⟨rfl,rfl,_⟩:=O
  have K:=m 0 (by omega)
  rw[Nat.add_zero]at K
  clear m
  generalize am:X 0=a at*
  go_wp2_with fail
  refine(uH K6 _).mono ?_
  rintro e w5 ⟨rfl,h⟩
  replace t:=aa ((uH t).all h)
  clear h K6 K
  go_wp2_with fail
  refine(uH K7 _).mono ?_
  rintro e w6 ⟨rfl,rfl⟩
  go_wp2_with fail
  refine(uH K8 _).mono ?_
  rintro e w6 ⟨rfl,rfl⟩
  go_wp2_with fail
  go_loopw[4,8] (fun v i wr=>∃j:Nat,1≤j∧j≤n∧i=.int .i64 j∧Hid (jw w wr v (oN g j))) (fun _ i _=>n-(intOf i).toNat)
  case atStart=>exact⟨1,Nat.le_refl _,ax,rfl,by rw[Dn];exact t⟩
  case round=>
   clear t
   obtain⟨j,y,hj,rfl,F⟩:=hrel
   obtain⟨ak,N,O,m⟩:=uH KX _ (uH F).2.2
   simp only[Option.some.injEq,Addr.mk.injEq]at O
   obtain⟨rfl,rfl,_⟩:=O
   by_cases L:j<n
   ·have a2:(j:Int)<(n:Int):=by omega
    have cj:=m j L
    have KD:=aa (uH K9 j y L)
    have GL:=aa (uH HG (j-1) (by omega))
    have GS:=aa (oz g y)
    generalize g (j-1)=o at*
    generalize X j=xj at*
    clear m
    go_wp2_with fail
    refine(uH KD _).mono ?_
    rintro e w7 ⟨rfl,h⟩
    obtain⟨v3,w8,z,U⟩:=((uH F).all h).push o (uH GL) (by rw[jL _ y];omega) 22
    have M:=aa z
    have S3:=aa (show jw w w8 v3 (oN g (j+1))from by rw[uH GS];exact U)
    clear z U F h cj KD
    go_wp2_with(at_builtin;refine aT _ rfl _ _ 22 rfl _ _ _ _ rfl rfl (uH M) ?_;clear M)
    go_round
    case rel=>exact⟨j+1,by omega,by omega,by go_num,S3⟩
    case measure=>simp[intOf];omega
   ·have ae:j=n:=by omega
    subst ae
    have K:=m 0 (by omega)
    rw[Nat.add_zero,am]at K
    clear m
    go_wp2_with fail
    refine(uH Y _).mono ?_
    rintro e w7 ⟨rfl,h⟩
    replace F:=aa ((uH F).all h)
    clear h Y K
    go_wp2_with fail
    refine(uH KY _).mono ?_
    rintro e w8 ⟨rfl,h⟩
    obtain⟨H,A,h3⟩:=(uH F).all h
    obtain⟨D,G,e1,q1⟩:=H.bits
    rw[jL _ y]at e1
    subst e1
    have r0:=A.c0;have r1:=A.c1;have r2:=A.c2
    have f0:=A.free 0;have a3:=A.free 1;have a4:=A.free 2
    have Z:=A.put (.slice D j G) (.int .u64 (T:Nat)) (.int .u64 (b:Nat))
    have z0:=Z.c0;have z1:=Z.c1;have z2:=Z.c2
    have aj:=aa (bH.least H.newB (Nat.le_succ w.heap.size))
    have Q:=aa (((q1.far H.newB (show w.heap.size<w.heap.size+1 by omega) 0 (.slice D j G)).far H.newB (show w.heap.size<w.heap.size+1 by omega) 1 (.int .u64 (T:Nat))).far H.newB (show w.heap.size<w.heap.size+1 by omega) 2 (.int .u64 (b:Nat)))
    have BP:=aa (aD h3 (Nat.le_refl _) (.slice D j G) (.int .u64 (T:Nat)) (.int .u64 (b:Nat)))
    clear F H q1 Z A h3 h KY
    go_wp2_with fail
    exact bodyPost_ret (v:=.tuple #[.agg #[.slice D j G,.int .u64 (T:Nat),.int .u64 (b:Nat)],.bool true]) (by simp[results,Tryz.results154,go_sem,z0,z1,z2]) rfl ⟨D,G,rfl,uH aj,uH Q,uH BP⟩
end Go.Proofs.YtlnphkioddknfaaGreatDoor
namespace Go.Proofs.YtlnphkioddknfaaGreatDoor
open Go.RowKit
theorem gE{I:List Int}(h:1≤I.length):aU I=aM I 0::(aU I).drop 1:=by
 have d:0<(aU I).length:=by rw[cY];omega
 have:=List.drop_eq_getElem_cons d
 rw[List.drop_zero]at this
 rw[this]
 congr 1
 have e:=og I 0 (by omega)
 rw[List.getElem?_eq_getElem d]at e
 exact Option.some.inj e
theorem zl(I:List Int){j:Nat}(h:j+1<I.length):((aU I).drop 1).getD j 0=aM I (j+1):=by
 rw[List.getD_eq_getElem?_getD,List.getElem?_drop,Nat.add_comm 1 j,og I (j+1) h]
 rfl
theorem rl{I:List Int}(h:1≤I.length)(k:Nat→Nat)(d:∀x,(if jN ((aU I).drop 1)=true then 0 else dV x (ki (aM I 0) ((aU I).drop 1)))=k x):kp (aU I)=oN (fun j=>k (aM I (j+1))) I.length:=by
 have l:((aU I).drop 1).length=I.length-1:=by rw[List.length_drop,cY]
 rw[gE h]
 show 4607182418800017408::((aU I).drop 1).map (fun x=>if jN ((aU I).drop 1)=true then 0 else dV x (ki (aM I 0) ((aU I).drop 1)))=4607182418800017408::gY (fun j=>k (aM I (j+1))) (I.length-1)
 congr 1
 rw[List.map_congr_left (g:=k) (fun x _=>d x),vH ((aU I).drop 1),List.map_map,l]
 unfold gY
 refine List.map_congr_left (fun j f=>?_)
 show k (((aU I).drop 1).getD j 0)=_
 rw[zl I (by have:=List.mem_range.1 f;omega)]
theorem kW{I:List Int}(h:1≤I.length):DP (aU I)=(if jN ((aU I).drop 1)=true then aM I 0 else gO (aM I 0) ((aU I).drop 1))∧mJ (aU I)=(if jN ((aU I).drop 1)=true then 0 else dV (aV (gO (aM I 0) ((aU I).drop 1)) (fN (aM I 0))) (gO (aM I 0) ((aU I).drop 1)))∧Da (aU I)=(jN ((aU I).drop 1)||(aC (gO (aM I 0) ((aU I).drop 1))&&aC (ki (aM I 0) ((aU I).drop 1)))):=by
 have e:=gE h
 refine⟨?_,?_,?_⟩
 ·conv=>lhs;rw[e]
  rfl
 ·conv=>lhs;rw[e]
  rfl
 ·conv=>lhs;rw[e]
  rfl
theorem xq{I:List Int}(h:1≤I.length)(d:jN ((aU I).drop 1)=false):jN (aU I)=false:=by
 rw[gE h]
 show(decide (fK (aM I 0)=0)&&jN ((aU I).drop 1))=false
 rw[d,Bool.and_false]
theorem oA{w:World}{ao:Option Addr}{c:Nat}{I:List Int}(l:ac w ao c I)(h:1≤I.length)(f:World)(m:Below w.heap.size w f):∃b d,ao=some ⟨b,d,none⟩∧∀j,j<I.length→f.cell? ⟨b,d+j,none⟩=some (.int .u64 (aM I j:Nat)):=by
 obtain⟨b,d,t,_,y⟩:=(l.below m).ne (by omega)
 exact⟨b,d,t,y⟩
theorem tK(ao:Option Addr)(c:Nat)(I:List Int)(w:World)(h:ac w ao c I)(f:1≤I.length)(t:I.length≤64)(M:Da (aU I)=true):
  Calls Tryz.prog 154 #[.slice ao I.length c] w fun e d=>∃F H,e=.returned (.tuple #[.agg #[.slice F I.length H,.int .u64 (mJ (aU I):Nat),.int .u64 (DP (aU I):Nat)],.bool true])∧bH w.heap.size F (ar (kp (aU I)))∧ac d F H (ar (kp (aU I)))∧Below w.heap.size w d:=by
 obtain⟨A,D,L⟩:=kW f
 have y:=fun d (l:Below w.heap.size w d)=>jr ao c I d (h.below l) t
 cases hn:jN ((aU I).drop 1)
 ·rw[hn]at y
  rw[hn,if_neg (by decide)]at A D
  rw[M,hn,Bool.false_or]at L
  obtain⟨Q,U⟩:=Bool.and_eq_true_iff.1 L.symm
  rw[rl f (fun x=>dV x (ki (aM I 0) ((aU I).drop 1))) (fun x=>if_neg (by rw[hn];decide)),A,D]
  have z:=h.lt 0
  have m:=gC (aM I 0) ((aU I).drop 1)
  have K:=oq (aM I 0) ((aU I).drop 1) z
  refine vR ao I.length c (pP (aU I)) (fN (pP (aU I))) (gO (aM I 0) ((aU I).drop 1)) (ki (aM I 0) ((aU I).drop 1)) (aV (gO (aM I 0) ((aU I).drop 1)) (fN (aM I 0))) _ (mI (aU I)) true true (fun j=>aM I j) (fun j=>dV (aM I (j+1)) (ki (aM I 0) ((aU I).drop 1))) w f t rfl rfl (fun j _=>nA _ _) (oA h f) y (fun d l=>?_) (fun d l=>mf ao c I d (h.below l) t (xq f hn)) (fun d p N=>?_) (fun d=>jc _ d (oo _)) ?_ (fun d=>iB _ _ d z m) (fun d=>?_) (fun d=>?_) (fun j O Y d=>?_) (fun d=>iB _ _ d m z) (fun d=>lH _ _ d (kG _ _ m (jR _ z)) m)
  ·have:=oc ao c I d (h.below l) (by omega)
   rwa[mE]at this
  ·have:=fY (aM I p) d (h.lt p)
   rwa[N]at this
  ·have e:gO (aM I 0) ((aU I).drop 1)=if mI (aU I)=true then pP (aU I)else fN (pP (aU I)):=by
    unfold gO
    rw[←gE f]
   rw[e]
   cases hl:mI (aU I)
   ·exact .inr ⟨rfl,rfl⟩
   ·exact .inl ⟨rfl,rfl⟩
  ·have:=cJ (gO (aM I 0) ((aU I).drop 1)) d m
   rwa[Q]at this
  ·have:=cJ (ki (aM I 0) ((aU I).drop 1)) d K
   rwa[U]at this
  ·have:=lH (aM I j) (ki (aM I 0) ((aU I).drop 1)) d (h.lt j) K
   rw[show j-1+1=j by omega]
   exact this
 ·rw[hn]at y
  rw[if_pos hn]at A D
  rw[rl f (fun _=>0) (fun x=>if_pos hn),A,D]
  refine mt ao I.length c (aM I 0) w f t (fun d l=>?_) y
  obtain⟨b,G,V,X⟩:=oA h f d l
  exact⟨b,G,V,X 0 (by omega)⟩
theorem vS(ao:Option Addr)(c:Nat)(I:List Int)(w:World)(f:ac w ao c I)(h:1≤I.length)(m:I.length≤64)(G:Da (aU I)=false):
  Calls Tryz.prog 154 #[.slice ao I.length c] w fun e d=>e=.returned (.tuple #[.agg #[.slice none 0 0,.int .u64 0,.int .u64 0],.bool false])∧Below w.heap.size w d:=by
 obtain⟨_,_,A⟩:=kW h
 have t:=fun d (l:Below w.heap.size w d)=>jr ao c I d (f.below l) m
 rw[G]at A
 obtain⟨D,F⟩:=Bool.or_eq_false_iff.1 A.symm
 rw[D]at t
 have y:=f.lt 0
 have z:=gC (aM I 0) ((aU I).drop 1)
 have K:=oq (aM I 0) ((aU I).drop 1) y
 refine tJ ao I.length c (pP (aU I)) (fN (pP (aU I))) (gO (aM I 0) ((aU I).drop 1)) (ki (aM I 0) ((aU I).drop 1)) (mI (aU I)) (aC (gO (aM I 0) ((aU I).drop 1))) (aC (ki (aM I 0) ((aU I).drop 1))) (fun j=>aM I j) w h m ?_ (oA f h) t (fun d l=>?_) (fun d l=>mf ao c I d (f.below l) m (xq h D)) (fun d p H=>?_) (fun d=>jc _ d (oo _)) ?_ (fun d=>iB _ _ d y z) (fun d=>cJ _ d z) (fun d=>cJ _ d K)
 ·cases g1:aC (gO (aM I 0) ((aU I).drop 1))
  ·exact .inl rfl
  ·cases g2:aC (ki (aM I 0) ((aU I).drop 1))
   ·exact .inr ⟨rfl,rfl⟩
   ·rw[g1,g2]at F;cases F
 ·have:=oc ao c I d (f.below l) (by omega)
  rwa[mE]at this
 ·have:=fY (aM I p) d (f.lt p)
  rwa[H]at this
 ·have e:gO (aM I 0) ((aU I).drop 1)=if mI (aU I)=true then pP (aU I)else fN (pP (aU I)):=by
   unfold gO
   rw[←gE h]
  rw[e]
  cases hl:mI (aU I)
  ·exact .inr ⟨rfl,rfl⟩
  ·exact .inl ⟨rfl,rfl⟩
attribute [local go_sem ↓] Go.wp_at_zero Go.wp_at_succ
theorem qd(r c cap k f:Nat)(ao:Option Addr)(S:List Nat)(w:World)(h:Mx w ao cap r c S)(hk:k<c)(hf:f≤r):
  Calls Tryz.prog 80 #[.agg #[.int .i64 r,.int .i64 c,.slice ao S.length cap],.int .i64 k,.int .i64 f] w fun e I=>∃bo d,e=.returned (.slice bo (r-f) d)∧ac I bo d (ar (eG c S f (r-f) k))∧Below w.heap.size w I:=by
 have HH:=aa h
 have r6:=h.2.2.1
 have U:=ad w (.cells #[.int .i64 r,.int .i64 c,.slice ao S.length cap] 24)
 have V:=ab w (.cells #[.int .i64 r,.int .i64 c,.slice ao S.length cap] 24)
 have X0:=aq.new w (.int .i64 r) (.int .i64 c) (.slice ao S.length cap)
 have K:=ab (w.alloc (.cells #[.int .i64 r,.int .i64 c,.slice ao S.length cap] 24)) (.cells #[] 37)
 have X:=bD.nil (w.alloc (.cells #[.int .i64 r,.int .i64 c,.slice ao S.length cap] 24)) (w.heap.size+1) (by rw[U];omega)
 rw[U]at X
 have Y:=aa X;have Z:=aa (X0.all K);have HB:=aa (V.trans (K.mono V.size))
 obtain⟨l,O⟩:∃l,S.length=l:=⟨_,rfl⟩
 rw[O]at Z HB Y
 rw[O]
 have ae:=aa O
 clear h U V X0 K X O
 go_enter Tryz.func80,Tryz.ntmps80
 go_wp2_with fail
 go_loopw[7,8] (fun v i wr=>∃j:Nat,f≤j∧j≤r∧i=.int .i64 j∧Hid (bD (w.heap.size+1) wr v (gY (fun t=>bB c S (f+t) k) (j-f)))∧Hid (aq wr w.heap.size (.int .i64 r) (.int .i64 c) (.slice ao l cap))∧Hid (Below w.heap.size w wr)) (fun _ i _=>r-(intOf i).toNat)
 case atStart=>exact⟨f,Nat.le_refl _,hf,rfl,by rw[Nat.sub_self];exact Y,Z,HB⟩
 case round=>
  clear Y Z HB
  obtain⟨j,ax,hj,rfl,Q,M,N⟩:=hrel
  have t0:=(uH M).c0;have t1:=(uH M).c1;have t2:=(uH M).c2
  by_cases aj:j<r
  ·have am:(j:Int)<(r:Int):=by omega
   have C:=aa (fun I (m:Mx I ao cap r c S)=>fW r c cap j k ao S I m aj hk)
   rw[uH ae]at C
   have HM:=aa ((uH HH).below N.out)
   have ho:=aa ((uH HH).el_lt j k)
   have D:=aa (show(gY (fun t=>bB c S (f+t) k) (j-f)).length≤1000000 from by rw[dw];omega)
   have eS:=aa (show gY (fun t=>bB c S (f+t) k) (j+1-f)=gY (fun t=>bB c S (f+t) k) (j-f)++[bB c S j k]from by rw[show j+1-f=j-f+1 by omega,iq,show f+(j-f)=j by omega])
   generalize bB c S j k=o at*
   go_wp2_with fail
   refine(uH C _ (uH HM)).mono ?_
   rintro e w2 ⟨rfl,A⟩
   have F:=(uH Q).below A
   have y:=(uH M).all A
   have B2:=N.out.trans (A.mono N.out.size)
   obtain⟨v3,w3,G,H,z,_,_⟩:=F.push o (uH ho) (uH D) (by have:=y.lt;omega) 22
   have L:=aa G
   have O3:=aa (show bD (w.heap.size+1) w3 v3 (gY (fun t=>bB c S (f+t) k) (j+1-f))from by rw[uH eS];exact H)
   have X3:=aa (y.below z (by omega))
   have B3:=aa (B2.trans (z.mono (by omega)))
   clear A C Q M N F y B2 G H z ho D eS HM t0 t1 t2
   go_wp2_with(at_builtin;refine aT _ rfl _ _ 22 rfl _ _ _ _ rfl rfl (uH L) ?_;clear L)
   go_round
   case rel=>exact⟨j+1,by omega,by omega,by go_num,O3,X3,B3⟩
   case measure=>simp[intOf];omega
  ·have ak:r=j:=by omega
   subst ak
   obtain⟨K,d1,e1,q1⟩:=(uH Q).bits
   rw[dw]at e1
   subst e1
   have Q1:=aa q1
   clear q1 Q
   go_wp2_with fail
   go_ret
   exact⟨K,d1,rfl,uH Q1,N.out⟩
theorem gb{w:World}{a:Addr}{z:Int}{b:Nat}{x y:Int}{o:Option Addr}{n d:Nat}(h:w.cell? a=some (.int .u64 z))(l:aq w b (.int .i64 x) (.int .i64 y) (.slice o n d))(u u' u'':Value):(((w.setCell ⟨b,0,none⟩ u).setCell ⟨b,1,none⟩ u').setCell ⟨b,2,none⟩ u'').cell? a=some (.int .u64 z):=by
 obtain⟨g,k,m⟩:=a
 have e:m=none:=World.cell?_spot h
 subst e
 have f:b≠g:=l.away h
 rw[ap _ _ _ _ (show g≠b from fun e=>f e.symm),ap _ _ _ _ (show g≠b from fun e=>f e.symm),ap _ _ _ _ (show g≠b from fun e=>f e.symm)]
 exact h
theorem tM(r c n cap i k m am:Nat)(ao vo:Option Addr)(vc:Nat)(TJ:Nat→Nat→List Nat)(CL:Nat→List Nat)(V:Nat→Nat)(w0 t:Nat→Nat)(p u:Nat→Nat→Nat)(w:World)(hc:c≤6)(hr:r≤6)(a5:k≤c)(bi:i+m≤r)
  (h0:ac w ao cap (ar (TJ k 0))) (lJ:∀d j,(TJ d j).length=n) (hN:∀d,TJ d m=TJ (d+1) 0) (ax:∀d,(CL d).length=r-i)
  (HV:∀z,Below w.heap.size w z→∀j,j<m→∃b aI,vo=some ⟨b,aI,none⟩∧z.cell? ⟨b,aI+j,none⟩=some (.int .u64 (V j:Nat)))
  (A1:∀z d,Below w.heap.size w z→d<c→Calls Tryz.prog 80 #[.agg #[.int .i64 r,.int .i64 c,.slice ao n cap],.int .i64 (d:Nat),.int .i64 i] z fun e M=>∃bo dd,e=.returned (.slice bo (r-i) dd)∧ac M bo dd (ar (CL d))∧Below z.heap.size z M)
  (A2:∀z d bo dd,Below w.heap.size w z→d<c→ac z bo dd (ar (CL d))→Calls Tryz.prog 92 #[.slice vo m vc,.slice bo m dd] z fun e M=>e=.returned (.int .u64 (w0 d:Nat))∧Below z.heap.size z M)
  (A3:∀z d,d<c→Calls Tryz.prog 50 #[.int .u64 am,.int .u64 (w0 d:Nat)] z fun e M=>e=.returned (.int .u64 (t d:Nat))∧Below z.heap.size z M)
  (A4:∀z d j,d<c→j<m→Calls Tryz.prog 50 #[.int .u64 (t d:Nat),.int .u64 (V j:Nat)] z fun e M=>e=.returned (.int .u64 (p d j:Nat))∧Below z.heap.size z M)
  (A5:∀z d j,d<c→j<m→Calls Tryz.prog 49 #[.int .u64 ((CL d).getD j 0:Nat),.int .u64 (p d j:Nat)] z fun e M=>e=.returned (.int .u64 (u d j:Nat))∧Below z.heap.size z M)
  (A6:∀z d j qo qc,k≤d→d<c→j<m→ac z qo qc (ar (TJ d j))→Calls Tryz.prog 51 #[.agg #[.int .i64 r,.int .i64 c,.slice qo n qc],.int .i64 ((i+j:Nat):Int),.int .i64 (d:Nat),.int .u64 (u d j:Nat)] z fun e M=>∃v,e=.returned v∧(∃po pc,v=.agg #[.int .i64 r,.int .i64 c,.slice po n pc]∧ac M po pc (ar (TJ d (j+1))))∧Below z.heap.size z M):
  Calls Tryz.prog 156 #[.agg #[.int .i64 r,.int .i64 c,.slice ao n cap],.int .i64 i,.int .i64 k,.slice vo m vc,.int .u64 am] w fun e z=>∃po pc,e=.returned (.agg #[.int .i64 r,.int .i64 c,.slice po n pc])∧ac z po pc (ar (TJ c 0))∧Below w.heap.size w z:=by
 have ST:=aa (lK.start w r c n cap ao (TJ k 0) h0 (lJ k 0))
 have KV:=aa HV;have K1:=aa A1;have K2:=aa A2;have K3:=aa A3;have K4:=aa A4;have K5:=aa A5;have K6:=aa A6;have LJ:=aa lJ;have NX:=aa hN;have LC:=aa ax
 clear HV A1 A2 A3 A4 A5 A6 lJ h0 hN ax
 have N:=(uH ST).1.c0;have O:=(uH ST).1.c1;have U:=(uH ST).1.c2
 go_enter Tryz.func156,Tryz.ntmps156
 go_wp2_with fail
 clear N O U
 go_loopw[12] (fun a wr=>∃(d:Nat) (po:Option Addr) (pc:Nat),k≤d∧d≤c∧a=.int .i64 d∧Hid (lK w wr r c n cap ao (TJ d 0) po pc)) (fun a _=>c-(intOf a).toNat)
 case atStart=>exact⟨k,ao,cap,Nat.le_refl _,a5,rfl,ST⟩
 case round=>
  clear ST
  obtain⟨d,po,pc,ba,hd,rfl,Z⟩:=hrel
  have N:=(uH Z).1.c0;have O:=(uH Z).1.c1;have U:=(uH Z).1.c2
  by_cases aj:d<c
  ·have bj:(d:Int)<(c:Int):=by omega
   have W1:=aa (fun z h=>uH K1 z d h aj);have W2:=aa (fun z bo dd h l=>uH K2 z d bo dd h aj l);have W3:=aa (fun z=>uH K3 z d aj);have W4:=aa (fun z j hj=>uH K4 z d j aj hj);have W5:=aa (fun z j hj=>uH K5 z d j aj hj);have W6:=aa (fun z j qo qc hj l=>uH K6 z d j qo qc ba aj hj l);have WN:=aa (uH NX d);have WL:=aa (fun j=>uH LJ d j);have WC:=aa (uH LC d)
   generalize a4:TJ (d+1) 0=TN at*
   generalize bb:TJ d=Td at*
   generalize CL d=Cd at*
   generalize p d=pd at*
   generalize u d=ud at*
   generalize t d=td at*
   generalize w0 d=wd at*
   clear K1 K2 K3 K4 K5 K6 NX
   go_wp2_with fail
   refine(uH W1 _ (uH Z).2.2.2.2.2).mono ?_
   rintro e w1 ⟨bo,dd,rfl,bc,l⟩
   have bm:(m:Int)≤(dd:Int):=by have:=bc.1;rw[al,uH WC]at this;omega
   replace Z:=aa ((uH Z).all l)
   have BC:=aa bc
   clear l bc N O U W1
   go_wp2_with fail
   refine(uH W2 _ _ _ (uH Z).2.2.2.2.2 (uH BC)).mono ?_
   rintro e w2 ⟨rfl,l⟩
   replace Z:=aa ((uH Z).all l)
   replace BC:=aa ((uH BC).below l)
   clear l W2
   go_wp2_with fail
   refine(uH W3 _).mono ?_
   rintro e w3 ⟨rfl,l⟩
   replace Z:=aa ((uH Z).all l)
   replace BC:=aa ((uH BC).below l)
   clear l W3
   go_wp2_with fail
   go_loopw[15] (fun a wr=>∃(j:Nat) (po:Option Addr) (pc:Nat),j≤m∧a=.int .i64 j∧Hid (lK w wr r c n cap ao (Td j) po pc)∧Hid (ac wr bo dd (ar Cd))) (fun a _=>m-(intOf a).toNat)
   case atStart=>exact⟨0,po,pc,Nat.zero_le _,rfl,Z,BC⟩
   case round=>
    clear Z BC
    obtain⟨j,qo,qc,hj,rfl,Z,BC⟩:=hrel
    by_cases ak:j<m
    ·have a6:(j:Int)<(m:Int):=by omega
     have bn:(j:Int)<(r-i:Nat):=by omega
     have bq:(i:Int)+(j:Int)=((i+j:Nat):Int):=by omega
     obtain⟨b1,o1,e1,Y⟩:=uH KV _ (uH Z).2.2.2.2.2 j ak
     obtain⟨b2,o2,e2,_,a0⟩:=(uH BC).ne (by rw[al,uH WC];omega)
     subst e1 e2
     have X:=a0 j (by rw[al,uH WC];omega)
     rw[di]at X
     have V4:=aa (fun z=>uH W4 z j ak);have V5:=aa (fun z=>uH W5 z j ak);have V6:=aa (fun z qo qc l=>uH W6 z j qo qc ak l);have VL:=aa (uH WL (j+1))
     have be:IntKind.i64.wrap ((i+j:Nat):Int)=((i+j:Nat):Int):=aP _ (by omega)
     generalize i+j=ij at*
     generalize V j=vj at*
     generalize Cd.getD j 0=cj at*
     generalize pd j=pj at*
     generalize ud j=uj at*
     go_wp2_with fail
     refine au (fun W=>lK w W r c n cap ao (Td j) qo qc∧W.cell? ⟨b1,o1+j,none⟩=some (.int .u64 (vj:Nat))∧W.cell? ⟨b2,o2+j,none⟩=some (.int .u64 (cj:Nat))∧ac W (some ⟨b2,o2,none⟩) dd (ar Cd)) ⟨uH Z,Y,X,uH BC⟩ ?_
     clear Z BC Y X a0
     rintro W0 ⟨s0,a1,a2,a3⟩
     have f:=aa (show lK w W0.drew r c n cap ao (Td j) qo qc∧W0.drew.cell? ⟨b1,o1+j,none⟩=some (.int .u64 (vj:Nat))∧W0.drew.cell? ⟨b2,o2+j,none⟩=some (.int .u64 (cj:Nat))∧ac W0.drew (some ⟨b2,o2,none⟩) dd (ar Cd)from⟨s0.all ((Below.refl W0.heap.size W0).drew),a1,a2,a3.below ((Below.refl W0.heap.size W0).drew)⟩)
     clear s0 a1 a2 a3 KV W4 W5 W6 WN WL WC LC LJ a4 bb
     have N:=(uH f).1.2.2.1.c0;have O:=(uH f).1.2.2.1.c1;have U:=(uH f).1.2.2.1.c2;have Y:=(uH f).2.1;have X:=(uH f).2.2.1
     refine wp_region_held_drew (S:=(fun z=>z.cell? ⟨b1,o1+j,none⟩=some (.int .u64 (vj:Nat))∧z.cell? ⟨b2,o2+j,none⟩=some (.int .u64 (cj:Nat)))) (by kernel_rfl) ?_ (fun y=>?_)
     ·exact⟨(uH f).2.1,(uH f).2.2.1⟩
     refine wpAnyH_take (i:=1) (oi:={dst:=some 43,op:=Op.move (Operand.tmp 1),type:=3,pos:= "ref.go:72",after:=#[],guard:=none}) (v:=(Value.int .i64 (i:Int))) rfl (by kernel_rfl) (by kernel_rfl) (by kernel_rfl) (fun _ _ _ h=>h) (Or.inl ⟨by rfl,?_⟩) (by assumption) ?_
     ·(intro w A;(try dsimp only at A);go_simp)
     simp only[Act.put,List.setIfInBounds_toArray,List.set_cons_zero,List.set_cons_succ]
     refine wpAnyH_take (i:=2) (oi:={dst:=some 44,op:=Op.move (Operand.tmp 15),type:=3,pos:= "ref.go:72",after:=#[],guard:=none}) (v:=(Value.int .i64 (j:Int))) rfl (by kernel_rfl) (by kernel_rfl) (by kernel_rfl) (fun _ _ _ h=>h) (Or.inl ⟨by rfl,?_⟩) (by assumption) ?_
     ·(intro w A;(try dsimp only at A);go_simp)
     simp only[Act.put,List.setIfInBounds_toArray,List.set_cons_zero,List.set_cons_succ]
     refine wpAnyH_take (i:=3) (oi:={dst:=some 45,op:=Op.binOp BinOp.add 3 (Operand.tmp 43) (Operand.tmp 44) 3,type:=3,pos:= "ref.go:72",after:=#[{on:=1,ground:=Ground.data},{on:=2,ground:=Ground.data}],guard:=none}) (v:=(Value.int .i64 (ij:Int))) rfl (by kernel_rfl) (by kernel_rfl) (by kernel_rfl) (fun _ _ _ h=>h) (Or.inl ⟨by rfl,?_⟩) (by assumption) ?_
     ·(intro w A;(try dsimp only at A);go_simp)
     simp only[Act.put,List.setIfInBounds_toArray,List.set_cons_zero,List.set_cons_succ]
     refine wpAnyH_take (i:=4) (oi:={dst:=some 46,op:=Op.move (Operand.tmp 12),type:=3,pos:= "ref.go:72",after:=#[],guard:=none}) (v:=(Value.int .i64 (d:Int))) rfl (by kernel_rfl) (by kernel_rfl) (by kernel_rfl) (fun _ _ _ h=>h) (Or.inl ⟨by rfl,?_⟩) (by assumption) ?_
     ·(intro w A;(try dsimp only at A);go_simp)
     simp only[Act.put,List.setIfInBounds_toArray,List.set_cons_zero,List.set_cons_succ]
     refine wpAnyH_take (i:=5) (oi:={dst:=some 47,op:=Op.move (Operand.tmp 13),type:=22,pos:= "ref.go:72",after:=#[],guard:=none}) (v:=(Value.slice (some ⟨b2,o2,none⟩) (r-i) dd)) rfl (by kernel_rfl) (by kernel_rfl) (by kernel_rfl) (fun _ _ _ h=>h) (Or.inl ⟨by rfl,?_⟩) (by assumption) ?_
     ·(intro w A;(try dsimp only at A);go_simp)
     simp only[Act.put,List.setIfInBounds_toArray,List.set_cons_zero,List.set_cons_succ]
     refine wpAnyH_take (i:=6) (oi:={dst:=some 48,op:=Op.move (Operand.tmp 15),type:=3,pos:= "ref.go:72",after:=#[],guard:=none}) (v:=(Value.int .i64 (j:Int))) rfl (by kernel_rfl) (by kernel_rfl) (by kernel_rfl) (fun _ _ _ h=>h) (Or.inl ⟨by rfl,?_⟩) (by assumption) ?_
     ·(intro w A;(try dsimp only at A);go_simp)
     simp only[Act.put,List.setIfInBounds_toArray,List.set_cons_zero,List.set_cons_succ]
     refine wpAnyH_take (i:=7) (oi:={dst:=some 49,op:=Op.indexAddr 22 (Operand.tmp 47) (Operand.tmp 48),type:=0,pos:= "ref.go:72",after:=#[{on:=5,ground:=Ground.data},{on:=6,ground:=Ground.data}],guard:=none}) (v:=(Value.pointer (some ⟨b2,o2+j,none⟩))) rfl (by kernel_rfl) (by kernel_rfl) (by kernel_rfl) (fun _ _ _ h=>h) (Or.inl ⟨by rfl,?_⟩) (by assumption) ?_
     ·(intro w A;(try dsimp only at A);go_simp)
     simp only[Act.put,List.setIfInBounds_toArray,List.set_cons_zero,List.set_cons_succ]
     refine wpAnyH_take (i:=8) (oi:={dst:=some 50,op:=Op.load 37 (Operand.tmp 49),type:=37,pos:= "ref.go:72",after:=#[{on:=7,ground:=Ground.data}],guard:=none}) (v:=(Value.int .u64 (cj:Int))) rfl (by kernel_rfl) (by kernel_rfl) (by kernel_rfl) (fun _ _ _ h=>h) (Or.inl ⟨by rfl,?_⟩) (by assumption) ?_
     ·(intro w A;(try dsimp only at A);go_simp)
     simp only[Act.put,List.setIfInBounds_toArray,List.set_cons_zero,List.set_cons_succ]
     refine wpAnyH_take (i:=9) (oi:={dst:=some 51,op:=Op.move (Operand.tmp 14),type:=37,pos:= "ref.go:72",after:=#[],guard:=none}) (v:=(Value.int .u64 (td:Int))) rfl (by kernel_rfl) (by kernel_rfl) (by kernel_rfl) (fun _ _ _ h=>h) (Or.inl ⟨by rfl,?_⟩) (by assumption) ?_
     ·(intro w A;(try dsimp only at A);go_simp)
     simp only[Act.put,List.setIfInBounds_toArray,List.set_cons_zero,List.set_cons_succ]
     refine wpAnyH_take (i:=10) (oi:={dst:=some 52,op:=Op.move (Operand.tmp 3),type:=22,pos:= "ref.go:72",after:=#[],guard:=none}) (v:=(Value.slice (some ⟨b1,o1,none⟩) m vc)) rfl (by kernel_rfl) (by kernel_rfl) (by kernel_rfl) (fun _ _ _ h=>h) (Or.inl ⟨by rfl,?_⟩) (by assumption) ?_
     ·(intro w A;(try dsimp only at A);go_simp)
     simp only[Act.put,List.setIfInBounds_toArray,List.set_cons_zero,List.set_cons_succ]
     refine wpAnyH_take (i:=11) (oi:={dst:=some 53,op:=Op.move (Operand.tmp 15),type:=3,pos:= "ref.go:72",after:=#[],guard:=none}) (v:=(Value.int .i64 (j:Int))) rfl (by kernel_rfl) (by kernel_rfl) (by kernel_rfl) (fun _ _ _ h=>h) (Or.inl ⟨by rfl,?_⟩) (by assumption) ?_
     ·(intro w A;(try dsimp only at A);go_simp)
     simp only[Act.put,List.setIfInBounds_toArray,List.set_cons_zero,List.set_cons_succ]
     refine wpAnyH_take (i:=12) (oi:={dst:=some 54,op:=Op.indexAddr 22 (Operand.tmp 52) (Operand.tmp 53),type:=0,pos:= "ref.go:72",after:=#[{on:=10,ground:=Ground.data},{on:=11,ground:=Ground.data}],guard:=none}) (v:=(Value.pointer (some ⟨b1,o1+j,none⟩))) rfl (by kernel_rfl) (by kernel_rfl) (by kernel_rfl) (fun _ _ _ h=>h) (Or.inl ⟨by rfl,?_⟩) (by assumption) ?_
     ·(intro w A;(try dsimp only at A);go_simp)
     simp only[Act.put,List.setIfInBounds_toArray,List.set_cons_zero,List.set_cons_succ]
     refine wpAnyH_take (i:=13) (oi:={dst:=some 55,op:=Op.load 37 (Operand.tmp 54),type:=37,pos:= "ref.go:72",after:=#[{on:=12,ground:=Ground.data}],guard:=none}) (v:=(Value.int .u64 (vj:Int))) rfl (by kernel_rfl) (by kernel_rfl) (by kernel_rfl) (fun _ _ _ h=>h) (Or.inl ⟨by rfl,?_⟩) (by assumption) ?_
     ·(intro w A;(try dsimp only at A);go_simp)
     simp only[Act.put,List.setIfInBounds_toArray,List.set_cons_zero,List.set_cons_succ]
     refine wpAnyH_ready (rs:=[0,14]) (by kernel_rfl) (by simp) ?_
     refine AllReadyH.cons (o:={dst:=some 42,op:=Op.load 24 (Operand.tmp 11),type:=24,pos:= "ref.go:72",after:=#[],guard:=none}) rfl (fun K D=>?_) (AllReadyH.cons (o:={dst:=some 56,op:=Op.call {callee:=Callee.value (Operand.func 50),args:=#[Operand.tmp 51,Operand.tmp 55],argTypes:=#[37,37]},type:=37,pos:= "ref.go:72",after:=#[{on:=9,ground:=Ground.data},{on:=13,ground:=Ground.data}],guard:=none}) rfl (fun K D=>?_) AllReadyH.nil)
     ·go_simp
      refine D.out _ _ ?_ (fun y=>?_)
      ·exact⟨(uH f).2.1,(uH f).2.2.1⟩
      clear D K
      refine wpAnyH_ready (rs:=[14]) (by kernel_rfl) (by simp) ?_
      refine AllReadyH.cons (o:={dst:=some 56,op:=Op.call {callee:=Callee.value (Operand.func 50),args:=#[Operand.tmp 51,Operand.tmp 55],argTypes:=#[37,37]},type:=37,pos:= "ref.go:72",after:=#[{on:=9,ground:=Ground.data},{on:=13,ground:=Ground.data}],guard:=none}) rfl (fun K D=>?_) AllReadyH.nil
      go_simp
      refine(uH V4 _).mono ?_
      rintro e w4 ⟨rfl,l⟩
      clear N O U Y X
      have G:=(uH f).1.all l
      have N:=G.2.2.1.c0
      have O:=G.2.2.1.c1
      have U:=G.2.2.1.c2
      have Y:=ah (uH f).2.1 l
      have X:=ah (uH f).2.2.1 l
      replace f:=aa (And.intro G (And.intro Y (And.intro X ((uH f).2.2.2.below l))))
      clear G l
      go_wp2_with fail
      refine D.out _ _ ?_ (fun y=>?_)
      ·exact⟨(uH f).2.1,(uH f).2.2.1⟩
      clear D K
      refine wpAnyH_ready (rs:=[15]) (by kernel_rfl) (by simp) ?_
      refine AllReadyH.cons (o:={dst:=some 57,op:=Op.call {callee:=Callee.value (Operand.func 49),args:=#[Operand.tmp 50,Operand.tmp 56],argTypes:=#[37,37]},type:=37,pos:= "ref.go:72",after:=#[{on:=8,ground:=Ground.data},{on:=14,ground:=Ground.data},{on:=14,ground:=Ground.chain}],guard:=none}) rfl (fun K D=>?_) AllReadyH.nil
      go_simp
      refine(uH V5 _).mono ?_
      rintro e w5 ⟨rfl,l⟩
      clear N O U Y X
      have G:=(uH f).1.all l
      have N:=G.2.2.1.c0
      have O:=G.2.2.1.c1
      have U:=G.2.2.1.c2
      have Y:=ah (uH f).2.1 l
      have X:=ah (uH f).2.2.1 l
      replace f:=aa (And.intro G (And.intro Y (And.intro X ((uH f).2.2.2.below l))))
      clear G l
      go_wp2_with fail
      refine D.out _ _ ?_ (fun y=>?_)
      ·exact⟨(uH f).2.1,(uH f).2.2.1⟩
      clear D K
      refine wpAnyH_ready (rs:=[16]) (by kernel_rfl) (by simp) ?_
      refine AllReadyH.cons (o:={dst:=some 58,op:=Op.call {callee:=Callee.value (Operand.func 51),args:=#[Operand.tmp 42,Operand.tmp 45,Operand.tmp 46,Operand.tmp 57],argTypes:=#[24,3,3,37]},type:=24,pos:= "ref.go:72",after:=#[{on:=0,ground:=Ground.data},{on:=3,ground:=Ground.data},{on:=4,ground:=Ground.data},{on:=15,ground:=Ground.data},{on:=15,ground:=Ground.chain}],guard:=none}) rfl (fun K D=>?_) AllReadyH.nil
      go_simp
      refine(uH V6 _ _ _ (uH f).1.2.2.2.1).mono ?_
      rintro e w6 ⟨v6,rfl,⟨I,L,rfl,b6⟩,l⟩
      clear N O U Y X
      have F:=(uH f).1.all l
      have N:=F.2.2.1.c0;have O:=F.2.2.1.c1;have U:=F.2.2.1.c2
      have f0:=F.2.2.1.free 0;have f1:=F.2.2.1.free 1;have f2:=F.2.2.1.free 2
      have P6:=aa (F.put b6 (uH VL))
      have PC:=aa (((uH f).2.2.2.below l).putM F.2.2.1 (.int .i64 r) (.int .i64 c) (.slice I n L))
      have H:=aa (And.intro (ah (uH f).2.1 l) (ah (uH f).2.2.1 l))
      have ae:=aa (And.intro (gb (uH H).1 F.2.2.1 (.int .i64 r) (.int .i64 c) (.slice I n L)) (gb (uH H).2 F.2.2.1 (.int .i64 r) (.int .i64 c) (.slice I n L)))
      clear F l b6 f
      go_wp2_with fail
      refine D.out _ _ ?_ (fun y=>?_)
      ·exact uH H
      clear D K
      refine wpAnyH_ready (rs:=[17]) (by kernel_rfl) (by simp) ?_
      refine AllReadyH.cons (o:={dst:=none,op:=Op.store 24 (Operand.tmp 11) (Operand.tmp 58),type:=0,pos:= "ref.go:72",after:=#[{on:=16,ground:=Ground.data},{on:=16,ground:=Ground.chain},{on:=0,ground:=Ground.phase},{on:=1,ground:=Ground.phase},{on:=2,ground:=Ground.phase},{on:=3,ground:=Ground.phase},{on:=4,ground:=Ground.phase},{on:=5,ground:=Ground.phase},{on:=6,ground:=Ground.phase},{on:=7,ground:=Ground.phase},{on:=8,ground:=Ground.phase},{on:=9,ground:=Ground.phase},{on:=10,ground:=Ground.phase},{on:=11,ground:=Ground.phase},{on:=12,ground:=Ground.phase},{on:=13,ground:=Ground.phase},{on:=14,ground:=Ground.phase},{on:=15,ground:=Ground.phase},{on:=16,ground:=Ground.phase}],guard:=none}) rfl (fun K D=>?_) AllReadyH.nil
      go_simp
      refine D.out _ _ ?_ (fun y=>?_)
      ·exact uH ae
      clear D K
      refine wpAnyH_done (by kernel_rfl) ?_ _
      clear N O U f0 f1 f2 H ae
      go_wp2_with fail
      go_round
      case rel=>exact⟨j+1,I,L,by omega,by go_num,P6,PC⟩
      case measure=>simp[intOf];omega
     ·go_simp
      refine(uH V4 _).mono ?_
      rintro e w4 ⟨rfl,l⟩
      clear N O U Y X
      have G:=(uH f).1.all l
      have N:=G.2.2.1.c0
      have O:=G.2.2.1.c1
      have U:=G.2.2.1.c2
      have Y:=ah (uH f).2.1 l
      have X:=ah (uH f).2.2.1 l
      replace f:=aa (And.intro G (And.intro Y (And.intro X ((uH f).2.2.2.below l))))
      clear G l
      go_wp2_with fail
      refine D.out _ _ ?_ (fun y=>?_)
      ·exact⟨(uH f).2.1,(uH f).2.2.1⟩
      clear D K
      refine wpAnyH_ready (rs:=[0,15]) (by kernel_rfl) (by simp) ?_
      refine AllReadyH.cons (o:={dst:=some 42,op:=Op.load 24 (Operand.tmp 11),type:=24,pos:= "ref.go:72",after:=#[],guard:=none}) rfl (fun K D=>?_) (AllReadyH.cons (o:={dst:=some 57,op:=Op.call {callee:=Callee.value (Operand.func 49),args:=#[Operand.tmp 50,Operand.tmp 56],argTypes:=#[37,37]},type:=37,pos:= "ref.go:72",after:=#[{on:=8,ground:=Ground.data},{on:=14,ground:=Ground.data},{on:=14,ground:=Ground.chain}],guard:=none}) rfl (fun K D=>?_) AllReadyH.nil)
      ·go_simp
       refine D.out _ _ ?_ (fun y=>?_)
       ·exact⟨(uH f).2.1,(uH f).2.2.1⟩
       clear D K
       refine wpAnyH_ready (rs:=[15]) (by kernel_rfl) (by simp) ?_
       refine AllReadyH.cons (o:={dst:=some 57,op:=Op.call {callee:=Callee.value (Operand.func 49),args:=#[Operand.tmp 50,Operand.tmp 56],argTypes:=#[37,37]},type:=37,pos:= "ref.go:72",after:=#[{on:=8,ground:=Ground.data},{on:=14,ground:=Ground.data},{on:=14,ground:=Ground.chain}],guard:=none}) rfl (fun K D=>?_) AllReadyH.nil
       go_simp
       refine(uH V5 _).mono ?_
       rintro e w5 ⟨rfl,l⟩
       clear N O U Y X
       have G:=(uH f).1.all l
       have N:=G.2.2.1.c0
       have O:=G.2.2.1.c1
       have U:=G.2.2.1.c2
       have Y:=ah (uH f).2.1 l
       have X:=ah (uH f).2.2.1 l
       replace f:=aa (And.intro G (And.intro Y (And.intro X ((uH f).2.2.2.below l))))
       clear G l
       go_wp2_with fail
       refine D.out _ _ ?_ (fun y=>?_)
       ·exact⟨(uH f).2.1,(uH f).2.2.1⟩
       clear D K
       refine wpAnyH_ready (rs:=[16]) (by kernel_rfl) (by simp) ?_
       refine AllReadyH.cons (o:={dst:=some 58,op:=Op.call {callee:=Callee.value (Operand.func 51),args:=#[Operand.tmp 42,Operand.tmp 45,Operand.tmp 46,Operand.tmp 57],argTypes:=#[24,3,3,37]},type:=24,pos:= "ref.go:72",after:=#[{on:=0,ground:=Ground.data},{on:=3,ground:=Ground.data},{on:=4,ground:=Ground.data},{on:=15,ground:=Ground.data},{on:=15,ground:=Ground.chain}],guard:=none}) rfl (fun K D=>?_) AllReadyH.nil
       go_simp
       refine(uH V6 _ _ _ (uH f).1.2.2.2.1).mono ?_
       rintro e w6 ⟨v6,rfl,⟨I,L,rfl,b6⟩,l⟩
       clear N O U Y X
       have F:=(uH f).1.all l
       have N:=F.2.2.1.c0;have O:=F.2.2.1.c1;have U:=F.2.2.1.c2
       have f0:=F.2.2.1.free 0;have f1:=F.2.2.1.free 1;have f2:=F.2.2.1.free 2
       have P6:=aa (F.put b6 (uH VL))
       have PC:=aa (((uH f).2.2.2.below l).putM F.2.2.1 (.int .i64 r) (.int .i64 c) (.slice I n L))
       have H:=aa (And.intro (ah (uH f).2.1 l) (ah (uH f).2.2.1 l))
       have ae:=aa (And.intro (gb (uH H).1 F.2.2.1 (.int .i64 r) (.int .i64 c) (.slice I n L)) (gb (uH H).2 F.2.2.1 (.int .i64 r) (.int .i64 c) (.slice I n L)))
       clear F l b6 f
       go_wp2_with fail
       refine D.out _ _ ?_ (fun y=>?_)
       ·exact uH H
       clear D K
       refine wpAnyH_ready (rs:=[17]) (by kernel_rfl) (by simp) ?_
       refine AllReadyH.cons (o:={dst:=none,op:=Op.store 24 (Operand.tmp 11) (Operand.tmp 58),type:=0,pos:= "ref.go:72",after:=#[{on:=16,ground:=Ground.data},{on:=16,ground:=Ground.chain},{on:=0,ground:=Ground.phase},{on:=1,ground:=Ground.phase},{on:=2,ground:=Ground.phase},{on:=3,ground:=Ground.phase},{on:=4,ground:=Ground.phase},{on:=5,ground:=Ground.phase},{on:=6,ground:=Ground.phase},{on:=7,ground:=Ground.phase},{on:=8,ground:=Ground.phase},{on:=9,ground:=Ground.phase},{on:=10,ground:=Ground.phase},{on:=11,ground:=Ground.phase},{on:=12,ground:=Ground.phase},{on:=13,ground:=Ground.phase},{on:=14,ground:=Ground.phase},{on:=15,ground:=Ground.phase},{on:=16,ground:=Ground.phase}],guard:=none}) rfl (fun K D=>?_) AllReadyH.nil
       go_simp
       refine D.out _ _ ?_ (fun y=>?_)
       ·exact uH ae
       clear D K
       refine wpAnyH_done (by kernel_rfl) ?_ _
       clear N O U f0 f1 f2 H ae
       go_wp2_with fail
       go_round
       case rel=>exact⟨j+1,I,L,by omega,by go_num,P6,PC⟩
       case measure=>simp[intOf];omega
      ·go_simp
       refine(uH V5 _).mono ?_
       rintro e w5 ⟨rfl,l⟩
       clear N O U Y X
       have G:=(uH f).1.all l
       have N:=G.2.2.1.c0
       have O:=G.2.2.1.c1
       have U:=G.2.2.1.c2
       have Y:=ah (uH f).2.1 l
       have X:=ah (uH f).2.2.1 l
       replace f:=aa (And.intro G (And.intro Y (And.intro X ((uH f).2.2.2.below l))))
       clear G l
       go_wp2_with fail
       refine D.out _ _ ?_ (fun y=>?_)
       ·exact⟨(uH f).2.1,(uH f).2.2.1⟩
       clear D K
       refine wpAnyH_ready (rs:=[0]) (by kernel_rfl) (by simp) ?_
       refine AllReadyH.cons (o:={dst:=some 42,op:=Op.load 24 (Operand.tmp 11),type:=24,pos:= "ref.go:72",after:=#[],guard:=none}) rfl (fun K D=>?_) AllReadyH.nil
       go_simp
       refine D.out _ _ ?_ (fun y=>?_)
       ·exact⟨(uH f).2.1,(uH f).2.2.1⟩
       clear D K
       refine wpAnyH_ready (rs:=[16]) (by kernel_rfl) (by simp) ?_
       refine AllReadyH.cons (o:={dst:=some 58,op:=Op.call {callee:=Callee.value (Operand.func 51),args:=#[Operand.tmp 42,Operand.tmp 45,Operand.tmp 46,Operand.tmp 57],argTypes:=#[24,3,3,37]},type:=24,pos:= "ref.go:72",after:=#[{on:=0,ground:=Ground.data},{on:=3,ground:=Ground.data},{on:=4,ground:=Ground.data},{on:=15,ground:=Ground.data},{on:=15,ground:=Ground.chain}],guard:=none}) rfl (fun K D=>?_) AllReadyH.nil
       go_simp
       refine(uH V6 _ _ _ (uH f).1.2.2.2.1).mono ?_
       rintro e w6 ⟨v6,rfl,⟨I,L,rfl,b6⟩,l⟩
       clear N O U Y X
       have F:=(uH f).1.all l
       have N:=F.2.2.1.c0;have O:=F.2.2.1.c1;have U:=F.2.2.1.c2
       have f0:=F.2.2.1.free 0;have f1:=F.2.2.1.free 1;have f2:=F.2.2.1.free 2
       have P6:=aa (F.put b6 (uH VL))
       have PC:=aa (((uH f).2.2.2.below l).putM F.2.2.1 (.int .i64 r) (.int .i64 c) (.slice I n L))
       have H:=aa (And.intro (ah (uH f).2.1 l) (ah (uH f).2.2.1 l))
       have ae:=aa (And.intro (gb (uH H).1 F.2.2.1 (.int .i64 r) (.int .i64 c) (.slice I n L)) (gb (uH H).2 F.2.2.1 (.int .i64 r) (.int .i64 c) (.slice I n L)))
       clear F l b6 f
       go_wp2_with fail
       refine D.out _ _ ?_ (fun y=>?_)
       ·exact uH H
       clear D K
       refine wpAnyH_ready (rs:=[17]) (by kernel_rfl) (by simp) ?_
       refine AllReadyH.cons (o:={dst:=none,op:=Op.store 24 (Operand.tmp 11) (Operand.tmp 58),type:=0,pos:= "ref.go:72",after:=#[{on:=16,ground:=Ground.data},{on:=16,ground:=Ground.chain},{on:=0,ground:=Ground.phase},{on:=1,ground:=Ground.phase},{on:=2,ground:=Ground.phase},{on:=3,ground:=Ground.phase},{on:=4,ground:=Ground.phase},{on:=5,ground:=Ground.phase},{on:=6,ground:=Ground.phase},{on:=7,ground:=Ground.phase},{on:=8,ground:=Ground.phase},{on:=9,ground:=Ground.phase},{on:=10,ground:=Ground.phase},{on:=11,ground:=Ground.phase},{on:=12,ground:=Ground.phase},{on:=13,ground:=Ground.phase},{on:=14,ground:=Ground.phase},{on:=15,ground:=Ground.phase},{on:=16,ground:=Ground.phase}],guard:=none}) rfl (fun K D=>?_) AllReadyH.nil
       go_simp
       refine D.out _ _ ?_ (fun y=>?_)
       ·exact uH ae
       clear D K
       refine wpAnyH_done (by kernel_rfl) ?_ _
       clear N O U f0 f1 f2 H ae
       go_wp2_with fail
       go_round
       case rel=>exact⟨j+1,I,L,by omega,by go_num,P6,PC⟩
       case measure=>simp[intOf];omega
    ·have a7:j=m:=by omega
     subst a7
     have a6:¬(j:Int)<(j:Int):=by omega
     rw[uH WN]at Z
     go_wp2_with fail
     go_round
     case rel=>exact⟨d+1,qo,qc,by omega,by omega,by go_num,by rw[a4];exact Z⟩
     case measure=>simp[intOf];omega
  ·have a9:d=c:=by omega
   subst a9
   obtain⟨h1,h2,h3,h4,h5,h6⟩:=uH Z
   have t1:=h1.c1
   have br:=h3.c0;have bt:=h3.c1;have bv:=h3.c2
   have r0:=h2.c0;have r1:=h2.c1;have r2:=h2.c2
   have f0:=h2.free 0;have f1:=h2.free 1;have f2:=h2.free 2
   have XP:=h2.put (.int .i64 r) (.int .i64 d) (.slice po n pc)
   have z0:=XP.c0;have z1:=XP.c1;have z2:=XP.c2
   have Q:=aa (h4.putM h2 (.int .i64 r) (.int .i64 d) (.slice po n pc))
   have BP:=aa (ai h6 (b:=w.heap.size+1) (by omega) (.int .i64 r) (.int .i64 d) (.slice po n pc))
   clear XP Z h1 h2 h3 h4 h5 h6
   go_wp2_with fail
   exact bodyPost_ret (v:=.agg #[.int .i64 r,.int .i64 d,.slice po n pc]) (by simp[results,Tryz.results156,go_sem,z0,z1,z2]) rfl ⟨po,pc,rfl,uH Q,uH BP⟩
end Go.Proofs.YtlnphkioddknfaaGreatDoor
namespace Go.Proofs.YtlnphkioddknfaaGreatDoor
open Go.RowKit
theorem ac.front{w:World}{ao:Option Addr}{cap:Nat}{I J:List Int}(h:ac w ao cap I)(l:J.length≤I.length)(m:∀j,j<J.length→J[j]? =I[j]?):ac w ao cap J:=by
 refine⟨Nat.le_trans l h.1,fun x t=>?_,?_⟩
 ·obtain⟨j,d,rfl⟩:=List.getElem_of_mem t
  have e:=m j d
  rw[List.getElem?_eq_getElem d]at e
  exact h.2.1 _ (List.mem_of_getElem? e.symm)
 ·rcases Nat.eq_zero_or_pos J.length with g|g
  ·exact .inl (List.eq_nil_of_length_eq_zero g)
  ·obtain⟨b,f,y,z,A⟩:=h.2.2.resolve_left (fun e=>by rw[e,List.length_nil]at l;omega)
   refine .inr ⟨b,f,y,z,fun j d=>?_⟩
   rw[A j (by omega),m j d]
theorem IC:∀(f d:List Nat) (s:Nat),s<18446744073709551616→u9 s f d<18446744073709551616:=by
 intro f
 induction f with
 |nil=>intro d s h;exact h
 |cons x f ih=>
  intro d s h
  match d with
  | []=>exact h
  |y::d=>exact ih d _ (kG _ _ h (gp _ _))
theorem zm(c:Nat)(S:List Nat)(i q:Nat){m l:Nat}(h:m≤l):∀j,j<(ar (eG c S i m q)).length→(ar (eG c S i m q))[j]? =(ar (eG c S i l q))[j]?:=by
 intro j d
 rw[al,bV]at d
 unfold ar eG
 rw[List.getElem?_map,List.getElem?_map,List.getElem?_map,List.getElem?_map,List.getElem?_range d,List.getElem?_range (show j<l by omega)]
theorem kX(r c cap i k f:Nat)(ao A:Option Addr)(D:Nat)(S l:List Nat)(w:World)(h:Mx w ao cap r c S)(H:ac w A D (ar l))(N:i+l.length≤r)(Y:k≤c)(Z:f<18446744073709551616):
  Calls Tryz.prog 156 #[.agg #[.int .i64 r,.int .i64 c,.slice ao S.length cap],.int .i64 i,.int .i64 k,.slice A l.length D,.int .u64 f] w fun e m=>∃F G,e=.returned (.agg #[.int .i64 r,.int .i64 c,.slice F S.length G])∧ac m F G (ar (ot r c S i k l f))∧Below w.heap.size w m:=by
 have U:=h.2.2.2
 have V:=h.2.2.1
 have K:∀d j,(tG r c S i k l f d j).length=S.length:=fun d j=>by rw[re,h.2.1]
 have L:∀j,l.getD j 0<18446744073709551616:=fun j=>by
  have:=H.lt j
  rwa[di]at this
 rw[←xm r c S i k l f c (Nat.le_refl _)]
 refine tM r c S.length cap i k l.length f ao A D (fun d j=>tG r c S i k l f d j) (fun d=>eG c S i (r-i) d) (fun j=>l.getD j 0) (fun d=>u9 0 l (eG c S i l.length d)) (fun d=>mV f (u9 0 l (eG c S i l.length d))) (fun d j=>mV (mV f (u9 0 l (eG c S i l.length d))) (l.getD j 0)) (fun d j=>(Dd c S i d l f).getD j 0) w U V Y N (by show ac w ao cap (ar (tG r c S i k l f k 0));rw[Gw r c S i k l f h.2.1];exact h.1) K (fun d=>tH r c S i k l f d) (fun d=>bV _ _ _ _ _) (fun m y j z=>?_) (fun m d y t=>?_) (fun m d bo dd y t hc=>?_) (fun m d t=>?_) (fun m d j t z=>?_) (fun m d j t z=>?_) (fun m d j O Q I t z hq=>?_)
 ·obtain⟨b,M,e1,_,e3⟩:=(H.below y).ne (by rw[al];omega)
  refine⟨b,M,e1,?_⟩
  rw[e3 j (by rw[al];exact z),di]
 ·exact qd r c cap d i ao S m (h.below y) t (by omega)
 ·have hf:=hc.front (J:=ar (eG c S i l.length d)) (by rw[al,al,bV,bV];omega) (zm c S i d (by omega))
  have:=p9 A bo D dd (ar l) (ar (eG c S i l.length d)) m (H.below y) hf (by rw[al,al,bV]) (by rw[al];omega)
  rw[rg (ar l) (ar (eG c S i l.length d)) (ar l).length (Nat.le_refl _) (by rw[al,al,bV];exact Nat.le_refl _),cR,cR,al,al,bV,List.take_of_length_le (Nat.le_refl _),List.take_of_length_le (by rw[bV];exact Nat.le_refl _)]at this
  exact this
 ·exact io f _ m Z (IC _ _ _ (by decide))
 ·exact io _ _ m (gp _ _) (L j)
 ·show Calls Tryz.prog 49 #[.int .u64 ((eG c S i (r-i) d).getD j 0:Nat),_] m _
  rw[q9 c S i (r-i) d (show j<r-i by omega),rf c S i d l f z]
  exact iB _ _ m (h.el_lt _ _) (gp _ _)
 ·have hX:Mx m O Q r c (tG r c S i k l f d j):=⟨hq,re _ _ _ _ _ _ _ _ _,V,U⟩
  have:=ef r c Q (i+j) d ((Dd c S i d l f).getD j 0) O _ m hX (by omega) t (vI c S i d l f z (fun p q=>h.el_lt p q))
  rw[K d j]at this
  refine this.mono ?_
  rintro e ae ⟨v,rfl,⟨F,G,rfl,_,X⟩,y⟩
  rw[xn r c S N t I z]at X⊢
  exact⟨_,rfl,⟨F,G,by rw[K d (j+1)],X⟩,y⟩
end Go.Proofs.YtlnphkioddknfaaGreatDoor
