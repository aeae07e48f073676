/- Part 37 of the texts. -/
import Derived.Test.YtenpggicmfhhdaaGreatDoorParte35
set_option maxHeartbeats 8000000
set_option maxRecDepth 20000
namespace Go.Proofs.YtenpggicmfhhdaaGreatDoor
open Go.RowKit
attribute [local go_sem ↓] Go.wp_at_zero Go.wp_at_succ
def nilAt(N:List Rw)(i c:Nat):Prop:=(GC (GD N i).R c).L.length=0
end Go.Proofs.YtenpggicmfhhdaaGreatDoor
namespace Go.Proofs.YtenpggicmfhhdaaGreatDoor
open Go.RowKit
def KK:Nat→Nat
 |0=>2098
 |c+1=>2*KK c+1
attribute [local go_sem ↓] Go.wp_at_zero Go.wp_at_succ
def iN(w wr:World)(v:Value)(S:List Nat):Prop:=bK (w.heap.size+1) wr v S∧dK 60 wr w.heap.size (.slice none 0 0) (.int .u64 0) (.int .u64 0)∧Below w.heap.size w wr
theorem iN.all{w wr f:World}{v:Value}{S:List Nat}(h:iN w wr v S)(d:Below wr.heap.size wr f):iN w f v S:=⟨h.1.below d,h.2.1.all d,h.2.2.trans (d.mono h.2.2.size)⟩
theorem iN.push{w wr:World}{v:Value}{S:List Nat}(h:iN w wr v S)(x:Nat)(y:x<18446744073709551616)(z:S.length≤1000000)(l:TypeId):
  ∃d f,(Builtin.append_ #[22,22] l #[v,.slice (some ⟨wr.heap.size,0,none⟩) 1 1]).run Tryz.prog (wr.alloc (.cells #[.int .u64 (x:Int)] 30))=.ok d f∧iN w f d (S++[x]):=by
 obtain⟨A,m,D⟩:=h
 obtain⟨d,f,F,G,t,_⟩:=A.push x y z (by have:=m.lt;omega) l
 exact⟨d,f,F,G,m.below t (by omega),D.trans (t.mono (by omega))⟩
theorem iN.start(w:World):iN w ((w.alloc (.cells #[.slice none 0 0,.int .u64 0,.int .u64 0] 60)).alloc (.cells #[.int .u64 4607182418800017408] 30)) (.slice (some ⟨w.heap.size+1,0,none⟩) 1 1) [4607182418800017408]:=by
 have h:=ac w (.cells #[.slice none 0 0,.int .u64 0,.int .u64 0] 60)
 have t:=ai w (.cells #[.slice none 0 0,.int .u64 0,.int .u64 0] 60)
 have y:=dK.new 60 w (.slice none 0 0) (.int .u64 0) (.int .u64 0)
 generalize w.alloc (.cells #[.slice none 0 0,.int .u64 0,.int .u64 0] 60)=d at*
 have l:=ac d (.cells #[.int .u64 4607182418800017408] 30)
 have m:(d.alloc (.cells #[.int .u64 4607182418800017408] 30)).heap[d.heap.size]? =some (.cells #[.int .u64 4607182418800017408] 30 (0,0)):=heap_alloc_new d _
 rw[t]at m
 refine⟨⟨⟨rfl,.inr ⟨w.heap.size+1,1,#[.int .u64 4607182418800017408],rfl,Nat.le_refl _,m,Nat.le_refl _,by unfold maxLen;omega,rfl,rfl⟩⟩,fun x f=>by simp at f;subst f;decide⟩,y.all l,h.trans (l.mono h.size)⟩
def nG(g:Nat→Nat)(j:Nat):List Nat:=4607182418800017408::ib g (j-1)
theorem As(g:Nat→Nat):nG g 1= [4607182418800017408]:=rfl
theorem jd(g:Nat→Nat){j:Nat}(d:1≤j):(nG g j).length=j:=by
 show(ib g (j-1)).length+1=j
 rw[eD]
 omega
theorem nd(g:Nat→Nat){j:Nat}(d:1≤j):nG g (j+1)=nG g j++[g (j-1)]:=by
 obtain⟨i,rfl⟩:∃i,j=i+1:=⟨j-1,by omega⟩
 show 4607182418800017408::ib g (i+1)=(4607182418800017408::ib g i)++[g i]
 rw[iG]
 rfl
theorem lh(I:Option Addr)(n c a:Nat)(w:World)(K:1≤n)(hn:n≤64)
  (O:∀d,Below w.heap.size w d→∃b t,I=some ⟨b,t,none⟩∧d.cell? ⟨b,t,none⟩=some (.int .u64 (a:Nat)))
  (T:∀d,Below w.heap.size w d→Calls Tryz.prog 58 #[.slice I n c] d fun e L=>e=.returned (.bool true)∧Below d.heap.size d L):
  Calls Tryz.prog 40 #[.slice I n c] w fun e d=>∃f h,e=.returned (.tuple #[.agg #[.slice f n h,.int .u64 0,.int .u64 (a:Nat)],.bool true])∧bR w.heap.size f (ar (nG (fun _=>0) n))∧ab d f h (ar (nG (fun _=>0) n))∧Below w.heap.size w d:=by
 have A:=aa (iN.start w)
 have U:=aa T;have KX:=aa O
 clear T O
 have ae:(1:Int)≤(n:Int):=by omega
 go_enter Tryz.func40,Tryz.ntmps40
 go_wp2_with fail
 refine(uH U _ (uH A).2.2).mono ?_
 rintro e w1 ⟨rfl,Z⟩
 replace A:=aa ((uH A).all Z)
 clear Z U
 go_wp2_with fail
 go_loopw[4,5] (fun v i wr=>∃j:Nat,1≤j∧j≤n∧i=.int .i64 j∧Hid (iN w wr v (nG (fun _=>0) j))) (fun _ i _=>n-(intOf i).toNat)
 case atStart=>exact⟨1,Nat.le_refl _,K,rfl,by rw[As];exact A⟩
 case round=>
  clear A
  obtain⟨j,y,hj,rfl,F⟩:=hrel
  by_cases aj:j<n
  ·have am:(j:Int)<(n:Int):=by omega
   obtain⟨v3,w3,l,G⟩:=(uH F).push 0 (by decide) (by rw[jd _ y];omega) 22
   have D:=aa l
   have S3:=aa (show iN w w3 v3 (nG (fun _=>0) (j+1))from by rw[nd _ y];exact G)
   clear l G F
   go_wp2_with(at_builtin;refine aX _ rfl _ _ 22 rfl _ _ _ _ rfl rfl (uH D) ?_;clear D)
   go_round
   case rel=>exact⟨j+1,by omega,by omega,by go_num,S3⟩
   case measure=>simp[intOf];omega
  ·have M:j=n:=by omega
   subst M
   obtain⟨b,t,rfl,ca⟩:=uH KX _ (uH F).2.2
   obtain⟨z,m,V⟩:=uH F
   obtain⟨f,h,X,Y⟩:=z.bits
   rw[jd _ y]at X
   subst X
   have r0:=m.c0;have r1:=m.c1;have r2:=m.c2
   have f0:=m.free 0;have f1:=m.free 1;have f2:=m.free 2
   have H:=m.put (.slice f j h) (.int .u64 0) (.int .u64 (a:Nat))
   have z0:=H.c0;have z1:=H.c1;have z2:=H.c2
   have N:=aa (bR.least z.newB (Nat.le_succ w.heap.size))
   have Q:=aa (((Y.far z.newB (show w.heap.size<w.heap.size+1 by omega) 0 (.slice f j h)).far z.newB (show w.heap.size<w.heap.size+1 by omega) 1 (.int .u64 0)).far z.newB (show w.heap.size<w.heap.size+1 by omega) 2 (.int .u64 (a:Nat)))
   have BP:=aa (aE V (Nat.le_refl _) (.slice f j h) (.int .u64 0) (.int .u64 (a:Nat)))
   clear F z Y H m V
   go_wp2_with fail
   exact bodyPost_ret (v:=.tuple #[.agg #[.slice f j h,.int .u64 0,.int .u64 (a:Nat)],.bool true]) (by simp[results,Tryz.results40,go_sem,z0,z1,z2]) rfl ⟨f,h,rfl,uH N,uH Q,uH BP⟩
theorem rP(M:Option Addr)(n c b0 bm b d:Nat)(sg f1 f2:Bool)(X:Nat→Nat)(w:World)(av:1≤n)(hn:n≤64)(hf:f1=false∨(f1=true∧f2=false))
  (X0:∀f,Below w.heap.size w f→∃b F,M=some ⟨b,F,none⟩∧∀j,j<n→f.cell? ⟨b,F+j,none⟩=some (.int .u64 (X j:Nat)))
  (C1:∀f,Below w.heap.size w f→Calls Tryz.prog 58 #[.slice M n c] f fun e m=>e=.returned (.bool false)∧Below f.heap.size f m)
  (C2:∀f,Below w.heap.size w f→Calls Tryz.prog 59 #[.slice M n c] f fun e m=>e=.returned (.int .u64 (b0:Nat))∧Below f.heap.size f m)
  (C3:∀f,Below w.heap.size w f→Calls Tryz.prog 61 #[.slice M n c] f fun e m=>∃p:Nat,e=.returned (.int .i64 (p:Nat))∧p<n∧fS (X p)=sg∧Below f.heap.size f m)
  (C4:∀f p,fS (X p)=sg→Calls Tryz.prog 60 #[.int .u64 (X p:Nat)] f fun e m=>e=.returned (.bool sg)∧f=m)
  (C5:∀f,Calls Tryz.prog 62 #[.int .u64 b0] f fun e m=>e=.returned (.int .u64 (bm:Nat))∧f=m)
  (t:(sg=true∧b=b0)∨(sg=false∧b=bm))
  (C6:∀f,Calls Tryz.prog 63 #[.int .u64 (X 0:Nat),.int .u64 b] f fun e m=>e=.returned (.int .u64 (d:Nat))∧Below f.heap.size f m)
  (C7:∀f,Calls Tryz.prog 38 #[.int .u64 b] f fun e m=>e=.returned (.bool f1)∧f=m)
  (C8:∀f,Calls Tryz.prog 38 #[.int .u64 d] f fun e m=>e=.returned (.bool f2)∧f=m):
  Calls Tryz.prog 40 #[.slice M n c] w fun e f=>e=.returned (.tuple #[.agg #[.slice none 0 0,.int .u64 0,.int .u64 0],.bool false])∧Below w.heap.size w f:=by
 have l:=aa (iN.start w)
 have U:=aa X0;have V:=aa C1;have Y:=aa C2;have Z:=aa C3;have K4:=aa C4;have K5:=aa C5;have K6:=aa C6;have K7:=aa C7;have K8:=aa C8
 clear X0 C1 C2 C3 C4 C5 C6 C7 C8
 have ax:(1:Int)≤(n:Int):=by omega
 rcases t with⟨rfl,rfl⟩|⟨rfl,rfl⟩
 ·go_enter Tryz.func40,Tryz.ntmps40
  go_wp2_with fail
  refine(uH V _ (uH l).2.2).mono ?_
  rintro e w1 ⟨rfl,t⟩
  replace l:=aa ((uH l).all t)
  clear t V
  go_wp2_with fail
  refine(uH Y _ (uH l).2.2).mono ?_
  rintro e w2 ⟨rfl,t⟩
  replace l:=aa ((uH l).all t)
  clear t Y
  go_wp2_with fail
  refine(uH Z _ (uH l).2.2).mono ?_
  rintro e w3 ⟨p,rfl,hp,T,t⟩
  replace l:=aa ((uH l).all t)
  obtain⟨bb,F,rfl,y⟩:=uH U _ (uH l).2.2
  have cp:=y p hp
  have A:=aa (fun f=>uH K4 f p T)
  have ae:(p:Int)<(n:Int):=by omega
  generalize X p=x at*
  clear t Z y T K4
  go_wp2_with fail
  refine(uH A _).mono ?_
  rintro e w4 ⟨rfl,rfl⟩
  clear A cp
  obtain⟨aj,O,Q,y⟩:=uH U _ (uH l).2.2
  simp only[Option.some.injEq,Addr.mk.injEq]at Q
  obtain⟨rfl,rfl,_⟩:=Q
  have N:=y 0 (by omega)
  rw[Nat.add_zero]at N
  clear y
  generalize am:X 0=a at*
  go_wp2_with fail
  refine(uH K6 _).mono ?_
  rintro e w5 ⟨rfl,t⟩
  replace l:=aa ((uH l).all t)
  clear t K6 N
  go_wp2_with fail
  refine(uH K7 _).mono ?_
  rintro e w6 ⟨rfl,rfl⟩
  rcases hf with rfl|⟨rfl,rfl⟩
  ·obtain⟨L,h,D⟩:=uH l
   have r0:=h.c0;have r1:=h.c1;have r2:=h.c2
   have f0:=h.free 0;have G:=h.free 1;have H:=h.free 2
   have z:=h.put (.slice none 0 0) (.int .u64 0) (.int .u64 0)
   have I:=z.c0;have z1:=z.c1;have z2:=z.c2
   have K:=aa (aE D (Nat.le_refl _) (.slice none 0 0) (.int .u64 0) (.int .u64 0))
   clear L h D z l
   go_wp2_with fail
   exact bodyPost_ret (v:=.tuple #[.agg #[.slice none 0 0,.int .u64 0,.int .u64 0],.bool false]) (by simp[results,Tryz.results40,go_sem,I,z1,z2]) rfl ⟨rfl,uH K⟩
  ·go_wp2_with fail
   refine(uH K8 _).mono ?_
   rintro e w6 ⟨rfl,rfl⟩
   obtain⟨L,h,D⟩:=uH l
   have r0:=h.c0;have r1:=h.c1;have r2:=h.c2
   have f0:=h.free 0;have G:=h.free 1;have H:=h.free 2
   have z:=h.put (.slice none 0 0) (.int .u64 0) (.int .u64 0)
   have I:=z.c0;have z1:=z.c1;have z2:=z.c2
   have K:=aa (aE D (Nat.le_refl _) (.slice none 0 0) (.int .u64 0) (.int .u64 0))
   clear L h D z l
   go_wp2_with fail
   exact bodyPost_ret (v:=.tuple #[.agg #[.slice none 0 0,.int .u64 0,.int .u64 0],.bool false]) (by simp[results,Tryz.results40,go_sem,I,z1,z2]) rfl ⟨rfl,uH K⟩
 ·go_enter Tryz.func40,Tryz.ntmps40
  go_wp2_with fail
  refine(uH V _ (uH l).2.2).mono ?_
  rintro e w1 ⟨rfl,t⟩
  replace l:=aa ((uH l).all t)
  clear t V
  go_wp2_with fail
  refine(uH Y _ (uH l).2.2).mono ?_
  rintro e w2 ⟨rfl,t⟩
  replace l:=aa ((uH l).all t)
  clear t Y
  go_wp2_with fail
  refine(uH Z _ (uH l).2.2).mono ?_
  rintro e w3 ⟨p,rfl,hp,T,t⟩
  replace l:=aa ((uH l).all t)
  obtain⟨bb,F,rfl,y⟩:=uH U _ (uH l).2.2
  have cp:=y p hp
  have A:=aa (fun f=>uH K4 f p T)
  have ae:(p:Int)<(n:Int):=by omega
  generalize X p=x at*
  clear t Z y T K4
  go_wp2_with fail
  refine(uH A _).mono ?_
  rintro e w4 ⟨rfl,rfl⟩
  clear A cp
  go_wp2_with fail
  refine(uH K5 _).mono ?_
  rintro e w4 ⟨rfl,rfl⟩
  obtain⟨aj,O,Q,y⟩:=uH U _ (uH l).2.2
  simp only[Option.some.injEq,Addr.mk.injEq]at Q
  obtain⟨rfl,rfl,_⟩:=Q
  have N:=y 0 (by omega)
  rw[Nat.add_zero]at N
  clear y
  generalize am:X 0=a at*
  go_wp2_with fail
  refine(uH K6 _).mono ?_
  rintro e w5 ⟨rfl,t⟩
  replace l:=aa ((uH l).all t)
  clear t K6 N
  go_wp2_with fail
  refine(uH K7 _).mono ?_
  rintro e w6 ⟨rfl,rfl⟩
  rcases hf with rfl|⟨rfl,rfl⟩
  ·obtain⟨L,h,D⟩:=uH l
   have r0:=h.c0;have r1:=h.c1;have r2:=h.c2
   have f0:=h.free 0;have G:=h.free 1;have H:=h.free 2
   have z:=h.put (.slice none 0 0) (.int .u64 0) (.int .u64 0)
   have I:=z.c0;have z1:=z.c1;have z2:=z.c2
   have K:=aa (aE D (Nat.le_refl _) (.slice none 0 0) (.int .u64 0) (.int .u64 0))
   clear L h D z l
   go_wp2_with fail
   exact bodyPost_ret (v:=.tuple #[.agg #[.slice none 0 0,.int .u64 0,.int .u64 0],.bool false]) (by simp[results,Tryz.results40,go_sem,I,z1,z2]) rfl ⟨rfl,uH K⟩
  ·go_wp2_with fail
   refine(uH K8 _).mono ?_
   rintro e w6 ⟨rfl,rfl⟩
   obtain⟨L,h,D⟩:=uH l
   have r0:=h.c0;have r1:=h.c1;have r2:=h.c2
   have f0:=h.free 0;have G:=h.free 1;have H:=h.free 2
   have z:=h.put (.slice none 0 0) (.int .u64 0) (.int .u64 0)
   have I:=z.c0;have z1:=z.c1;have z2:=z.c2
   have K:=aa (aE D (Nat.le_refl _) (.slice none 0 0) (.int .u64 0) (.int .u64 0))
   clear L h D z l
   go_wp2_with fail
   exact bodyPost_ret (v:=.tuple #[.agg #[.slice none 0 0,.int .u64 0,.int .u64 0],.bool false]) (by simp[results,Tryz.results40,go_sem,I,z1,z2]) rfl ⟨rfl,uH K⟩
theorem tO(ao:Option Addr)(n c b0 bm b d e0 T:Nat)(sg f1 f2:Bool)(X g:Nat→Nat)(w:World)(ax:1≤n)(hn:n≤64)(aI:f1=true)(a0:f2=true)(hg:∀j,j+1<n→g j<18446744073709551616)
  (X0:∀f,Below w.heap.size w f→∃b V,ao=some ⟨b,V,none⟩∧∀j,j<n→f.cell? ⟨b,V+j,none⟩=some (.int .u64 (X j:Nat)))
  (C1:∀f,Below w.heap.size w f→Calls Tryz.prog 58 #[.slice ao n c] f fun e l=>e=.returned (.bool false)∧Below f.heap.size f l)
  (C2:∀f,Below w.heap.size w f→Calls Tryz.prog 59 #[.slice ao n c] f fun e l=>e=.returned (.int .u64 (b0:Nat))∧Below f.heap.size f l)
  (C3:∀f,Below w.heap.size w f→Calls Tryz.prog 61 #[.slice ao n c] f fun e l=>∃p:Nat,e=.returned (.int .i64 (p:Nat))∧p<n∧fS (X p)=sg∧Below f.heap.size f l)
  (C4:∀f p,fS (X p)=sg→Calls Tryz.prog 60 #[.int .u64 (X p:Nat)] f fun e l=>e=.returned (.bool sg)∧f=l)
  (C5:∀f,Calls Tryz.prog 62 #[.int .u64 b0] f fun e l=>e=.returned (.int .u64 (bm:Nat))∧f=l)
  (h:(sg=true∧b=b0)∨(sg=false∧b=bm))
  (C6:∀f,Calls Tryz.prog 63 #[.int .u64 (X 0:Nat),.int .u64 b] f fun e l=>e=.returned (.int .u64 (d:Nat))∧Below f.heap.size f l)
  (C7:∀f,Calls Tryz.prog 38 #[.int .u64 b] f fun e l=>e=.returned (.bool f1)∧f=l)
  (C8:∀f,Calls Tryz.prog 38 #[.int .u64 d] f fun e l=>e=.returned (.bool f2)∧f=l)
  (C9:∀j,1≤j→j<n→∀f,Calls Tryz.prog 64 #[.int .u64 (X j:Nat),.int .u64 d] f fun e l=>e=.returned (.int .u64 (g (j-1):Nat))∧Below f.heap.size f l)
  (CX:∀f,Calls Tryz.prog 63 #[.int .u64 b,.int .u64 (X 0:Nat)] f fun e l=>e=.returned (.int .u64 (e0:Nat))∧Below f.heap.size f l)
  (CY:∀f,Calls Tryz.prog 64 #[.int .u64 e0,.int .u64 b] f fun e l=>e=.returned (.int .u64 (T:Nat))∧Below f.heap.size f l):
  Calls Tryz.prog 40 #[.slice ao n c] w fun e f=>∃D G,e=.returned (.tuple #[.agg #[.slice D n G,.int .u64 (T:Nat),.int .u64 (b:Nat)],.bool true])∧bR w.heap.size D (ar (nG g n))∧ab f D G (ar (nG g n))∧Below w.heap.size w f:=by
 subst aI a0
 have t:=aa (iN.start w)
 have KX:=aa X0;have K1:=aa C1;have K2:=aa C2;have K3:=aa C3;have K4:=aa C4;have K5:=aa C5;have K6:=aa C6;have K7:=aa C7;have K8:=aa C8
 clear X0 C1 C2 C3 C4 C5 C6 C7 C8
 have a5:(1:Int)≤(n:Int):=by omega
 have K9:=aa C9;have Y:=aa CX;have KY:=aa CY;have HG:=aa hg
 clear C9 CX CY hg
 rcases h with⟨rfl,rfl⟩|⟨rfl,rfl⟩
 ·go_enter Tryz.func40,Tryz.ntmps40
  go_wp2_with fail
  refine(uH K1 _ (uH t).2.2).mono ?_
  rintro e w1 ⟨rfl,h⟩
  replace t:=aa ((uH t).all h)
  clear h K1
  go_wp2_with fail
  refine(uH K2 _ (uH t).2.2).mono ?_
  rintro e w2 ⟨rfl,h⟩
  replace t:=aa ((uH t).all h)
  clear h K2
  go_wp2_with fail
  refine(uH K3 _ (uH t).2.2).mono ?_
  rintro e w3 ⟨p,rfl,hp,hs,h⟩
  replace t:=aa ((uH t).all h)
  obtain⟨bb,V,rfl,m⟩:=uH KX _ (uH t).2.2
  have cp:=m p hp
  have I:=aa (fun f=>uH K4 f p hs)
  have a1:(p:Int)<(n:Int):=by omega
  generalize X p=x at*
  clear h K3 m hs K4
  go_wp2_with fail
  refine(uH I _).mono ?_
  rintro e w4 ⟨rfl,rfl⟩
  clear I cp
  obtain⟨am,N,O,m⟩:=uH KX _ (uH t).2.2
  simp only[Option.some.injEq,Addr.mk.injEq]at O
  obtain⟨rfl,rfl,_⟩:=O
  have K:=m 0 (by omega)
  rw[Nat.add_zero]at K
  clear m
  generalize av:X 0=a at*
  go_wp2_with fail
  refine(uH K6 _).mono ?_
  rintro e w5 ⟨rfl,h⟩
  replace t:=aa ((uH t).all h)
  clear h K6 K
  go_wp2_with fail
  refine(uH K7 _).mono ?_
  rintro e w6 ⟨rfl,rfl⟩
  go_wp2_with fail
  refine(uH K8 _).mono ?_
  rintro e w6 ⟨rfl,rfl⟩
  go_wp2_with fail
  go_loopw[4,8] (fun v i wr=>∃j:Nat,1≤j∧j≤n∧i=.int .i64 j∧Hid (iN w wr v (nG g j))) (fun _ i _=>n-(intOf i).toNat)
  case atStart=>exact⟨1,Nat.le_refl _,ax,rfl,by rw[As];exact t⟩
  case round=>
   clear t
   obtain⟨j,y,hj,rfl,F⟩:=hrel
   obtain⟨am,N,O,m⟩:=uH KX _ (uH F).2.2
   simp only[Option.some.injEq,Addr.mk.injEq]at O
   obtain⟨rfl,rfl,_⟩:=O
   by_cases L:j<n
   ·have a2:(j:Int)<(n:Int):=by omega
    have cj:=m j L
    have KD:=aa (uH K9 j y L)
    have GL:=aa (uH HG (j-1) (by omega))
    have GS:=aa (nd g y)
    generalize g (j-1)=o at*
    generalize X j=xj at*
    clear m
    go_wp2_with fail
    refine(uH KD _).mono ?_
    rintro e w7 ⟨rfl,h⟩
    obtain⟨v3,w8,z,U⟩:=((uH F).all h).push o (uH GL) (by rw[jd _ y];omega) 22
    have M:=aa z
    have S3:=aa (show iN w w8 v3 (nG g (j+1))from by rw[uH GS];exact U)
    clear z U F h cj KD
    go_wp2_with(at_builtin;refine aX _ rfl _ _ 22 rfl _ _ _ _ rfl rfl (uH M) ?_;clear M)
    go_round
    case rel=>exact⟨j+1,by omega,by omega,by go_num,S3⟩
    case measure=>simp[intOf];omega
   ·have ae:j=n:=by omega
    subst ae
    have K:=m 0 (by omega)
    rw[Nat.add_zero,av]at K
    clear m
    go_wp2_with fail
    refine(uH Y _).mono ?_
    rintro e w7 ⟨rfl,h⟩
    replace F:=aa ((uH F).all h)
    clear h Y K
    go_wp2_with fail
    refine(uH KY _).mono ?_
    rintro e w8 ⟨rfl,h⟩
    obtain⟨H,A,h3⟩:=(uH F).all h
    obtain⟨D,G,e1,q1⟩:=H.bits
    rw[jd _ y]at e1
    subst e1
    have r0:=A.c0;have r1:=A.c1;have r2:=A.c2
    have f0:=A.free 0;have a3:=A.free 1;have a4:=A.free 2
    have Z:=A.put (.slice D j G) (.int .u64 (T:Nat)) (.int .u64 (b:Nat))
    have z0:=Z.c0;have z1:=Z.c1;have z2:=Z.c2
    have aj:=aa (bR.least H.newB (Nat.le_succ w.heap.size))
    have Q:=aa (((q1.far H.newB (show w.heap.size<w.heap.size+1 by omega) 0 (.slice D j G)).far H.newB (show w.heap.size<w.heap.size+1 by omega) 1 (.int .u64 (T:Nat))).far H.newB (show w.heap.size<w.heap.size+1 by omega) 2 (.int .u64 (b:Nat)))
    have BP:=aa (aE h3 (Nat.le_refl _) (.slice D j G) (.int .u64 (T:Nat)) (.int .u64 (b:Nat)))
    clear F H q1 Z A h3 h KY
    go_wp2_with fail
    exact bodyPost_ret (v:=.tuple #[.agg #[.slice D j G,.int .u64 (T:Nat),.int .u64 (b:Nat)],.bool true]) (by simp[results,Tryz.results40,go_sem,z0,z1,z2]) rfl ⟨D,G,rfl,uH aj,uH Q,uH BP⟩
 ·go_enter Tryz.func40,Tryz.ntmps40
  go_wp2_with fail
  refine(uH K1 _ (uH t).2.2).mono ?_
  rintro e w1 ⟨rfl,h⟩
  replace t:=aa ((uH t).all h)
  clear h K1
  go_wp2_with fail
  refine(uH K2 _ (uH t).2.2).mono ?_
  rintro e w2 ⟨rfl,h⟩
  replace t:=aa ((uH t).all h)
  clear h K2
  go_wp2_with fail
  refine(uH K3 _ (uH t).2.2).mono ?_
  rintro e w3 ⟨p,rfl,hp,hs,h⟩
  replace t:=aa ((uH t).all h)
  obtain⟨bb,V,rfl,m⟩:=uH KX _ (uH t).2.2
  have cp:=m p hp
  have I:=aa (fun f=>uH K4 f p hs)
  have a1:(p:Int)<(n:Int):=by omega
  generalize X p=x at*
  clear h K3 m hs K4
  go_wp2_with fail
  refine(uH I _).mono ?_
  rintro e w4 ⟨rfl,rfl⟩
  clear I cp
  go_wp2_with fail
  refine(uH K5 _).mono ?_
  rintro e w4 ⟨rfl,rfl⟩
  obtain⟨am,N,O,m⟩:=uH KX _ (uH t).2.2
  simp only[Option.some.injEq,Addr.mk.injEq]at O
  obtain⟨rfl,rfl,_⟩:=O
  have K:=m 0 (by omega)
  rw[Nat.add_zero]at K
  clear m
  generalize av:X 0=a at*
  go_wp2_with fail
  refine(uH K6 _).mono ?_
  rintro e w5 ⟨rfl,h⟩
  replace t:=aa ((uH t).all h)
  clear h K6 K
  go_wp2_with fail
  refine(uH K7 _).mono ?_
  rintro e w6 ⟨rfl,rfl⟩
  go_wp2_with fail
  refine(uH K8 _).mono ?_
  rintro e w6 ⟨rfl,rfl⟩
  go_wp2_with fail
  go_loopw[4,8] (fun v i wr=>∃j:Nat,1≤j∧j≤n∧i=.int .i64 j∧Hid (iN w wr v (nG g j))) (fun _ i _=>n-(intOf i).toNat)
  case atStart=>exact⟨1,Nat.le_refl _,ax,rfl,by rw[As];exact t⟩
  case round=>
   clear t
   obtain⟨j,y,hj,rfl,F⟩:=hrel
   obtain⟨am,N,O,m⟩:=uH KX _ (uH F).2.2
   simp only[Option.some.injEq,Addr.mk.injEq]at O
   obtain⟨rfl,rfl,_⟩:=O
   by_cases L:j<n
   ·have a2:(j:Int)<(n:Int):=by omega
    have cj:=m j L
    have KD:=aa (uH K9 j y L)
    have GL:=aa (uH HG (j-1) (by omega))
    have GS:=aa (nd g y)
    generalize g (j-1)=o at*
    generalize X j=xj at*
    clear m
    go_wp2_with fail
    refine(uH KD _).mono ?_
    rintro e w7 ⟨rfl,h⟩
    obtain⟨v3,w8,z,U⟩:=((uH F).all h).push o (uH GL) (by rw[jd _ y];omega) 22
    have M:=aa z
    have S3:=aa (show iN w w8 v3 (nG g (j+1))from by rw[uH GS];exact U)
    clear z U F h cj KD
    go_wp2_with(at_builtin;refine aX _ rfl _ _ 22 rfl _ _ _ _ rfl rfl (uH M) ?_;clear M)
    go_round
    case rel=>exact⟨j+1,by omega,by omega,by go_num,S3⟩
    case measure=>simp[intOf];omega
   ·have ae:j=n:=by omega
    subst ae
    have K:=m 0 (by omega)
    rw[Nat.add_zero,av]at K
    clear m
    go_wp2_with fail
    refine(uH Y _).mono ?_
    rintro e w7 ⟨rfl,h⟩
    replace F:=aa ((uH F).all h)
    clear h Y K
    go_wp2_with fail
    refine(uH KY _).mono ?_
    rintro e w8 ⟨rfl,h⟩
    obtain⟨H,A,h3⟩:=(uH F).all h
    obtain⟨D,G,e1,q1⟩:=H.bits
    rw[jd _ y]at e1
    subst e1
    have r0:=A.c0;have r1:=A.c1;have r2:=A.c2
    have f0:=A.free 0;have a3:=A.free 1;have a4:=A.free 2
    have Z:=A.put (.slice D j G) (.int .u64 (T:Nat)) (.int .u64 (b:Nat))
    have z0:=Z.c0;have z1:=Z.c1;have z2:=Z.c2
    have aj:=aa (bR.least H.newB (Nat.le_succ w.heap.size))
    have Q:=aa (((q1.far H.newB (show w.heap.size<w.heap.size+1 by omega) 0 (.slice D j G)).far H.newB (show w.heap.size<w.heap.size+1 by omega) 1 (.int .u64 (T:Nat))).far H.newB (show w.heap.size<w.heap.size+1 by omega) 2 (.int .u64 (b:Nat)))
    have BP:=aa (aE h3 (Nat.le_refl _) (.slice D j G) (.int .u64 (T:Nat)) (.int .u64 (b:Nat)))
    clear F H q1 Z A h3 h KY
    go_wp2_with fail
    exact bodyPost_ret (v:=.tuple #[.agg #[.slice D j G,.int .u64 (T:Nat),.int .u64 (b:Nat)],.bool true]) (by simp[results,Tryz.results40,go_sem,z0,z1,z2]) rfl ⟨D,G,rfl,uH aj,uH Q,uH BP⟩
end Go.Proofs.YtenpggicmfhhdaaGreatDoor
namespace Go.Proofs.YtenpggicmfhhdaaGreatDoor
open Go.RowKit
theorem gb{I:List Int}(h:1≤I.length):aU I=aP I 0::(aU I).drop 1:=by
 have d:0<(aU I).length:=by rw[cP];omega
 have:=List.drop_eq_getElem_cons d
 rw[List.drop_zero]at this
 rw[this]
 congr 1
 have e:=mW I 0 (by omega)
 rw[List.getElem?_eq_getElem d]at e
 exact Option.some.inj e
theorem wT(I:List Int){j:Nat}(h:j+1<I.length):((aU I).drop 1).getD j 0=aP I (j+1):=by
 rw[List.getD_eq_getElem?_getD,List.getElem?_drop,Nat.add_comm 1 j,mW I (j+1) h]
 rfl
theorem pW{I:List Int}(h:1≤I.length)(k:Nat→Nat)(d:∀x,(if ik ((aU I).drop 1)=true then 0 else dV x (iK (aP I 0) ((aU I).drop 1)))=k x):je (aU I)=nG (fun j=>k (aP I (j+1))) I.length:=by
 have l:((aU I).drop 1).length=I.length-1:=by rw[List.length_drop,cP]
 rw[gb h]
 show 4607182418800017408::((aU I).drop 1).map (fun x=>if ik ((aU I).drop 1)=true then 0 else dV x (iK (aP I 0) ((aU I).drop 1)))=4607182418800017408::ib (fun j=>k (aP I (j+1))) (I.length-1)
 congr 1
 rw[List.map_congr_left (g:=k) (fun x _=>d x),tJ ((aU I).drop 1),List.map_map,l]
 unfold ib
 refine List.map_congr_left (fun j f=>?_)
 show k (((aU I).drop 1).getD j 0)=_
 rw[wT I (by have:=List.mem_range.1 f;omega)]
theorem kf{I:List Int}(h:1≤I.length):xn (aU I)=(if ik ((aU I).drop 1)=true then aP I 0 else fd (aP I 0) ((aU I).drop 1))∧kJ (aU I)=(if ik ((aU I).drop 1)=true then 0 else dV (aV (fd (aP I 0) ((aU I).drop 1)) (fN (aP I 0))) (fd (aP I 0) ((aU I).drop 1)))∧xp (aU I)=(ik ((aU I).drop 1)||(aD (fd (aP I 0) ((aU I).drop 1))&&aD (iK (aP I 0) ((aU I).drop 1)))):=by
 have e:=gb h
 refine⟨?_,?_,?_⟩
 ·conv=>lhs;rw[e]
  rfl
 ·conv=>lhs;rw[e]
  rfl
 ·conv=>lhs;rw[e]
  rfl
theorem u7{I:List Int}(h:1≤I.length)(d:ik ((aU I).drop 1)=false):ik (aU I)=false:=by
 rw[gb h]
 show(decide (fK (aP I 0)=0)&&ik ((aU I).drop 1))=false
 rw[d,Bool.and_false]
theorem nf{w:World}{f:Option Addr}{c:Nat}{I:List Int}(m:ab w f c I)(h:1≤I.length)(l:World)(t:Below w.heap.size w l):∃b d,f=some ⟨b,d,none⟩∧∀j,j<I.length→l.cell? ⟨b,d+j,none⟩=some (.int .u64 (aP I j:Nat)):=by
 obtain⟨b,d,y,_,z⟩:=(m.below t).ne (by omega)
 exact⟨b,d,y,z⟩
theorem rQ(l:Option Addr)(c:Nat)(I:List Int)(w:World)(h:ab w l c I)(f:1≤I.length)(y:I.length≤64)(N:xp (aU I)=true):
  Calls Tryz.prog 40 #[.slice l I.length c] w fun e d=>∃G K,e=.returned (.tuple #[.agg #[.slice G I.length K,.int .u64 (kJ (aU I):Nat),.int .u64 (xn (aU I):Nat)],.bool true])∧bR w.heap.size G (ar (je (aU I)))∧ab d G K (ar (je (aU I)))∧Below w.heap.size w d:=by
 obtain⟨D,F,M⟩:=kf f
 have z:=fun d (m:Below w.heap.size w d)=>iL l c I d (h.below m) y
 cases hn:ik ((aU I).drop 1)
 ·rw[hn]at z
  rw[hn,if_neg (by decide)]at D F
  rw[N,hn,Bool.false_or]at M
  obtain⟨T,U⟩:=Bool.and_eq_true_iff.1 M.symm
  rw[pW f (fun x=>dV x (iK (aP I 0) ((aU I).drop 1))) (fun x=>if_neg (by rw[hn];decide)),D,F]
  have A:=h.lt 0
  have t:=f9 (aP I 0) ((aU I).drop 1)
  have L:=m8 (aP I 0) ((aU I).drop 1) A
  refine tO l I.length c (nF (aU I)) (fN (nF (aU I))) (fd (aP I 0) ((aU I).drop 1)) (iK (aP I 0) ((aU I).drop 1)) (aV (fd (aP I 0) ((aU I).drop 1)) (fN (aP I 0))) _ (lf (aU I)) true true (fun j=>aP I j) (fun j=>dV (aP I (j+1)) (iK (aP I 0) ((aU I).drop 1))) w f y rfl rfl (fun j _=>uG _ _) (nf h f) z (fun d m=>?_) (fun d m=>kZ l c I d (h.below m) y (u7 f hn)) (fun d p O=>?_) (fun d=>ip _ d (m7 _)) ?_ (fun d=>jb _ _ d A t) (fun d=>?_) (fun d=>?_) (fun j Q Y d=>?_) (fun d=>jb _ _ d t A) (fun d=>oZ _ _ d (mn _ _ t (jJ _ A)) t)
  ·have:=mU l c I d (h.below m) (by omega)
   rwa[lF]at this
  ·have:=fm (aP I p) d (h.lt p)
   rwa[O]at this
  ·have e:fd (aP I 0) ((aU I).drop 1)=if lf (aU I)=true then nF (aU I)else fN (nF (aU I)):=by
    unfold fd
    rw[←gb f]
   rw[e]
   cases hl:lf (aU I)
   ·exact .inr ⟨rfl,rfl⟩
   ·exact .inl ⟨rfl,rfl⟩
  ·have:=cE (fd (aP I 0) ((aU I).drop 1)) d t
   rwa[T]at this
  ·have:=cE (iK (aP I 0) ((aU I).drop 1)) d L
   rwa[U]at this
  ·have:=oZ (aP I j) (iK (aP I 0) ((aU I).drop 1)) d (h.lt j) L
   rw[show j-1+1=j by omega]
   exact this
 ·rw[hn]at z
  rw[if_pos hn]at D F
  rw[pW f (fun _=>0) (fun x=>if_pos hn),D,F]
  refine lh l I.length c (aP I 0) w f y (fun d m=>?_) z
  obtain⟨b,H,V,X⟩:=nf h f d m
  exact⟨b,H,V,X 0 (by omega)⟩
theorem tP(f:Option Addr)(c:Nat)(I:List Int)(w:World)(h:ab w f c I)(l:1≤I.length)(t:I.length≤64)(H:xp (aU I)=false):
  Calls Tryz.prog 40 #[.slice f I.length c] w fun e d=>e=.returned (.tuple #[.agg #[.slice none 0 0,.int .u64 0,.int .u64 0],.bool false])∧Below w.heap.size w d:=by
 obtain⟨_,_,D⟩:=kf l
 have y:=fun d (m:Below w.heap.size w d)=>iL f c I d (h.below m) t
 rw[H]at D
 obtain⟨F,G⟩:=Bool.or_eq_false_iff.1 D.symm
 rw[F]at y
 have z:=h.lt 0
 have A:=f9 (aP I 0) ((aU I).drop 1)
 have L:=m8 (aP I 0) ((aU I).drop 1) z
 refine rP f I.length c (nF (aU I)) (fN (nF (aU I))) (fd (aP I 0) ((aU I).drop 1)) (iK (aP I 0) ((aU I).drop 1)) (lf (aU I)) (aD (fd (aP I 0) ((aU I).drop 1))) (aD (iK (aP I 0) ((aU I).drop 1))) (fun j=>aP I j) w l t ?_ (nf h l) y (fun d m=>?_) (fun d m=>kZ f c I d (h.below m) t (u7 l F)) (fun d p K=>?_) (fun d=>ip _ d (m7 _)) ?_ (fun d=>jb _ _ d z A) (fun d=>cE _ d A) (fun d=>cE _ d L)
 ·cases g1:aD (fd (aP I 0) ((aU I).drop 1))
  ·exact .inl rfl
  ·cases g2:aD (iK (aP I 0) ((aU I).drop 1))
   ·exact .inr ⟨rfl,rfl⟩
   ·rw[g1,g2]at G;cases G
 ·have:=mU f c I d (h.below m) (by omega)
  rwa[lF]at this
 ·have:=fm (aP I p) d (h.lt p)
  rwa[K]at this
 ·have e:fd (aP I 0) ((aU I).drop 1)=if lf (aU I)=true then nF (aU I)else fN (nF (aU I)):=by
   unfold fd
   rw[←gb l]
  rw[e]
  cases hl:lf (aU I)
  ·exact .inr ⟨rfl,rfl⟩
  ·exact .inl ⟨rfl,rfl⟩
attribute [local go_sem ↓] Go.wp_at_zero Go.wp_at_succ
theorem o7(r c y k f:Nat)(D:Option Addr)(S:List Nat)(w:World)(h:Mx w D y r c S)(hk:k<c)(hf:f≤r):
  Calls Tryz.prog 39 #[.agg #[.int .i64 r,.int .i64 c,.slice D S.length y],.int .i64 k,.int .i64 f] w fun e L=>∃bo d,e=.returned (.slice bo (r-f) d)∧ab L bo d (ar (eg c S f (r-f) k))∧Below w.heap.size w L:=by
 have HH:=aa h
 have r6:=h.2.2.1
 have V:=ai w (.cells #[.int .i64 r,.int .i64 c,.slice D S.length y] 24)
 have X:=ac w (.cells #[.int .i64 r,.int .i64 c,.slice D S.length y] 24)
 have X0:=au.new w (.int .i64 r) (.int .i64 c) (.slice D S.length y)
 have M:=ac (w.alloc (.cells #[.int .i64 r,.int .i64 c,.slice D S.length y] 24)) (.cells #[] 30)
 have Y:=bK.nil (w.alloc (.cells #[.int .i64 r,.int .i64 c,.slice D S.length y] 24)) (w.heap.size+1) (by rw[V];omega)
 rw[V]at Y
 have Z:=aa Y;have HX:=aa (X0.all M);have HB:=aa (X.trans (M.mono X.size))
 obtain⟨l,T⟩:∃l,S.length=l:=⟨_,rfl⟩
 rw[T]at HX HB Z
 rw[T]
 have ae:=aa T
 clear h V X X0 M Y T
 go_enter Tryz.func39,Tryz.ntmps39
 go_wp2_with fail
 go_loopw[7,8] (fun v i wr=>∃j:Nat,f≤j∧j≤r∧i=.int .i64 j∧Hid (bK (w.heap.size+1) wr v (ib (fun t=>dJ c S (f+t) k) (j-f)))∧Hid (au wr w.heap.size (.int .i64 r) (.int .i64 c) (.slice D l y))∧Hid (Below w.heap.size w wr)) (fun _ i _=>r-(intOf i).toNat)
 case atStart=>exact⟨f,Nat.le_refl _,hf,rfl,by rw[Nat.sub_self];exact Z,HX,HB⟩
 case round=>
  clear Z HX HB
  obtain⟨j,ax,hj,rfl,U,O,Q⟩:=hrel
  have t0:=(uH O).c0;have t1:=(uH O).c1;have t2:=(uH O).c2
  by_cases aj:j<r
  ·have av:(j:Int)<(r:Int):=by omega
   have C:=aa (fun L (m:Mx L D y r c S)=>uS r c y j k D S L m aj hk)
   rw[uH ae]at C
   have HM:=aa ((uH HH).below Q.out)
   have ho:=aa ((uH HH).el_lt j k)
   have G:=aa (show(ib (fun t=>dJ c S (f+t) k) (j-f)).length≤1000000 from by rw[eD];omega)
   have eS:=aa (show ib (fun t=>dJ c S (f+t) k) (j+1-f)=ib (fun t=>dJ c S (f+t) k) (j-f)++[dJ c S j k]from by rw[show j+1-f=j-f+1 by omega,iG,show f+(j-f)=j by omega])
   generalize dJ c S j k=o at*
   go_wp2_with fail
   refine(uH C _ (uH HM)).mono ?_
   rintro e w2 ⟨rfl,F⟩
   have H:=(uH U).below F
   have z:=(uH O).all F
   have B2:=Q.out.trans (F.mono Q.out.size)
   obtain⟨v3,w3,I,K,A,_,_⟩:=H.push o (uH ho) (uH G) (by have:=z.lt;omega) 22
   have N:=aa I
   have O3:=aa (show bK (w.heap.size+1) w3 v3 (ib (fun t=>dJ c S (f+t) k) (j+1-f))from by rw[uH eS];exact K)
   have X3:=aa (z.below A (by omega))
   have B3:=aa (B2.trans (A.mono (by omega)))
   clear F C U O Q H z B2 I K A ho G eS HM t0 t1 t2
   go_wp2_with(at_builtin;refine aX _ rfl _ _ 22 rfl _ _ _ _ rfl rfl (uH N) ?_;clear N)
   go_round
   case rel=>exact⟨j+1,by omega,by omega,by go_num,O3,X3,B3⟩
   case measure=>simp[intOf];omega
  ·have am:r=j:=by omega
   subst am
   obtain⟨M,d1,e1,q1⟩:=(uH U).bits
   rw[eD]at e1
   subst e1
   have Q1:=aa q1
   clear q1 U
   go_wp2_with fail
   go_ret
   exact⟨M,d1,rfl,uH Q1,Q.out⟩
end Go.Proofs.YtenpggicmfhhdaaGreatDoor
