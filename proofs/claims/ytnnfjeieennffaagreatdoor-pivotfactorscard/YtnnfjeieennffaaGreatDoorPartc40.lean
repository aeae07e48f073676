/- Part 40 of the texts. -/
import Derived.Test.YtnnfjeieennffaaGreatDoorPartc37
set_option maxHeartbeats 8000000
set_option maxRecDepth 20000
namespace Go.Proofs.YtnnfjeieennffaaGreatDoor
open Go.RowKit
attribute [local go_sem ↓] Go.wp_at_zero Go.wp_at_succ
def nilAt(N:List Rw)(i c:Nat):Prop:=(JO (JP N i).R c).L.length=0
end Go.Proofs.YtnnfjeieennffaaGreatDoor
namespace Go.Proofs.YtnnfjeieennffaaGreatDoor
open Go.RowKit
def KK:Nat→Nat
 |0=>2098
 |c+1=>2*KK c+1
attribute [local go_sem ↓] Go.wp_at_zero Go.wp_at_succ
def jd(w wr:World)(v:Value)(S:List Nat):Prop:=bL (w.heap.size+1) wr v S∧eg 74 wr w.heap.size (.slice none 0 0) (.int .u64 0) (.int .u64 0)∧Below w.heap.size w wr
theorem jd.all{w wr w':World}{v:Value}{S:List Nat}(h:jd w wr v S)(d:Below wr.heap.size wr w'):jd w w' v S:=⟨h.1.below d,h.2.1.all d,h.2.2.trans (d.mono h.2.2.size)⟩
theorem jd.push{w wr:World}{v:Value}{S:List Nat}(h:jd w wr v S)(x:Nat)(t:x<18446744073709551616)(z:S.length≤1000000)(f:TypeId):
  ∃d w',(Builtin.append_ #[22,22] f #[v,.slice (some ⟨wr.heap.size,0,none⟩) 1 1]).run Tryz.prog (wr.alloc (.cells #[.int .u64 (x:Int)] 31))=.ok d w'∧jd w w' d (S++[x]):=by
 obtain⟨A,l,D⟩:=h
 obtain⟨d,w',F,G,m,_⟩:=A.push x t z (by have:=l.lt;omega) f
 exact⟨d,w',F,G,l.below m (by omega),D.trans (m.mono (by omega))⟩
theorem jd.start(w:World):jd w ((w.alloc (.cells #[.slice none 0 0,.int .u64 0,.int .u64 0] 74)).alloc (.cells #[.int .u64 4607182418800017408] 31)) (.slice (some ⟨w.heap.size+1,0,none⟩) 1 1) [4607182418800017408]:=by
 have h:=ac w (.cells #[.slice none 0 0,.int .u64 0,.int .u64 0] 74)
 have t:=an w (.cells #[.slice none 0 0,.int .u64 0,.int .u64 0] 74)
 have z:=eg.new 74 w (.slice none 0 0) (.int .u64 0) (.int .u64 0)
 generalize w.alloc (.cells #[.slice none 0 0,.int .u64 0,.int .u64 0] 74)=d at*
 have l:=ac d (.cells #[.int .u64 4607182418800017408] 31)
 have m:(d.alloc (.cells #[.int .u64 4607182418800017408] 31)).heap[d.heap.size]? =some (.cells #[.int .u64 4607182418800017408] 31 (0,0)):=heap_alloc_new d _
 rw[t]at m
 refine⟨⟨⟨rfl,.inr ⟨w.heap.size+1,1,#[.int .u64 4607182418800017408],rfl,Nat.le_refl _,m,Nat.le_refl _,by unfold maxLen;omega,rfl,rfl⟩⟩,fun x f=>by simp at f;subst f;decide⟩,z.all l,h.trans (l.mono h.size)⟩
def oU(g:Nat→Nat)(j:Nat):List Nat:=4607182418800017408::kH g (j-1)
theorem CU(g:Nat→Nat):oU g 1= [4607182418800017408]:=rfl
theorem ju(g:Nat→Nat){j:Nat}(d:1≤j):(oU g j).length=j:=by
 show(kH g (j-1)).length+1=j
 rw[iG]
 omega
theorem oK(g:Nat→Nat){j:Nat}(d:1≤j):oU g (j+1)=oU g j++[g (j-1)]:=by
 obtain⟨i,rfl⟩:∃i,j=i+1:=⟨j-1,by omega⟩
 show 4607182418800017408::kH g (i+1)=(4607182418800017408::kH g i)++[g i]
 rw[kI]
 rfl
theorem mA(K:Option Addr)(n c a:Nat)(w:World)(L:1≤n)(hn:n≤64)
  (U:∀w',Below w.heap.size w w'→∃b m,K=some ⟨b,m,none⟩∧w'.cell? ⟨b,m,none⟩=some (.int .u64 (a:Nat)))
  (V:∀w',Below w.heap.size w w'→Calls Tryz.prog 80 #[.slice K n c] w' fun e M=>e=.returned (.bool true)∧Below w'.heap.size w' M):
  Calls Tryz.prog 38 #[.slice K n c] w fun e w'=>∃d f,e=.returned (.tuple #[.agg #[.slice d n f,.int .u64 0,.int .u64 (a:Nat)],.bool true])∧bD w.heap.size d (az (oU (fun _=>0) n))∧ad w' d f (az (oU (fun _=>0) n))∧Below w.heap.size w w':=by
 have A:=aa (jd.start w)
 have X:=aa V;have KX:=aa U
 clear V U
 have ae:(1:Int)≤(n:Int):=by omega
 go_enter Tryz.func38,Tryz.ntmps38
 go_wp2_with fail
 refine(uH X _ (uH A).2.2).mono ?_
 rintro e w1 ⟨rfl,hb⟩
 replace A:=aa ((uH A).all hb)
 clear hb X
 go_wp2_with fail
 go_loopw[4,5] (fun v i wr=>∃j:Nat,1≤j∧j≤n∧i=.int .i64 j∧Hid (jd w wr v (oU (fun _=>0) j))) (fun _ i _=>n-(intOf i).toNat)
 case atStart=>exact⟨1,Nat.le_refl _,L,rfl,by rw[CU];exact A⟩
 case round=>
  clear A
  obtain⟨j,t,hj,rfl,F⟩:=hrel
  by_cases aj:j<n
  ·have am:(j:Int)<(n:Int):=by omega
   obtain⟨v3,w3,h,G⟩:=(uH F).push 0 (by decide) (by rw[ju _ t];omega) 22
   have D:=aa h
   have S3:=aa (show jd w w3 v3 (oU (fun _=>0) (j+1))from by rw[oK _ t];exact G)
   clear h G F
   go_wp2_with(at_builtin;refine aW _ rfl _ _ 22 rfl _ _ _ _ rfl rfl (uH D) ?_;clear D)
   go_round
   case rel=>exact⟨j+1,by omega,by omega,by go_num,S3⟩
   case measure=>simp[intOf];omega
  ·have N:j=n:=by omega
   subst N
   obtain⟨b,m,rfl,ca⟩:=uH KX _ (uH F).2.2
   obtain⟨z,l,Y⟩:=uH F
   obtain⟨d,f,Z,q1⟩:=z.bits
   rw[ju _ t]at Z
   subst Z
   have r0:=l.c0;have r1:=l.c1;have r2:=l.c2
   have f0:=l.free 0;have f1:=l.free 1;have f2:=l.free 2
   have H:=l.put (.slice d j f) (.int .u64 0) (.int .u64 (a:Nat))
   have z0:=H.c0;have z1:=H.c1;have z2:=H.c2
   have O:=aa (bD.least z.newB (Nat.le_succ w.heap.size))
   have Q:=aa (((q1.far z.newB (show w.heap.size<w.heap.size+1 by omega) 0 (.slice d j f)).far z.newB (show w.heap.size<w.heap.size+1 by omega) 1 (.int .u64 0)).far z.newB (show w.heap.size<w.heap.size+1 by omega) 2 (.int .u64 (a:Nat)))
   have BP:=aa (aD Y (Nat.le_refl _) (.slice d j f) (.int .u64 0) (.int .u64 (a:Nat)))
   clear F z q1 H l Y
   go_wp2_with fail
   exact bodyPost_ret (v:=.tuple #[.agg #[.slice d j f,.int .u64 0,.int .u64 (a:Nat)],.bool true]) (by simp[results,Tryz.results38,go_sem,z0,z1,z2]) rfl ⟨d,f,rfl,uH O,uH Q,uH BP⟩
theorem tO(N:Option Addr)(n c b0 bm b d:Nat)(sg f1 f2:Bool)(X:Nat→Nat)(w:World)(ax:1≤n)(hn:n≤64)(hf:f1=false∨(f1=true∧f2=false))
  (X0:∀w',Below w.heap.size w w'→∃b F,N=some ⟨b,F,none⟩∧∀j,j<n→w'.cell? ⟨b,F+j,none⟩=some (.int .u64 (X j:Nat)))
  (C1:∀w',Below w.heap.size w w'→Calls Tryz.prog 80 #[.slice N n c] w' fun e l=>e=.returned (.bool false)∧Below w'.heap.size w' l)
  (C2:∀w',Below w.heap.size w w'→Calls Tryz.prog 79 #[.slice N n c] w' fun e l=>e=.returned (.int .u64 (b0:Nat))∧Below w'.heap.size w' l)
  (C3:∀w',Below w.heap.size w w'→Calls Tryz.prog 82 #[.slice N n c] w' fun e l=>∃p:Nat,e=.returned (.int .i64 (p:Nat))∧p<n∧fS (X p)=sg∧Below w'.heap.size w' l)
  (C4:∀w' p,fS (X p)=sg→Calls Tryz.prog 81 #[.int .u64 (X p:Nat)] w' fun e l=>e=.returned (.bool sg)∧w'=l)
  (C5:∀w',Calls Tryz.prog 83 #[.int .u64 b0] w' fun e l=>e=.returned (.int .u64 (bm:Nat))∧w'=l)
  (m:(sg=true∧b=b0)∨(sg=false∧b=bm))
  (C6:∀w',Calls Tryz.prog 84 #[.int .u64 (X 0:Nat),.int .u64 b] w' fun e l=>e=.returned (.int .u64 (d:Nat))∧Below w'.heap.size w' l)
  (C7:∀w',Calls Tryz.prog 66 #[.int .u64 b] w' fun e l=>e=.returned (.bool f1)∧w'=l)
  (C8:∀w',Calls Tryz.prog 66 #[.int .u64 d] w' fun e l=>e=.returned (.bool f2)∧w'=l):
  Calls Tryz.prog 38 #[.slice N n c] w fun e w'=>e=.returned (.tuple #[.agg #[.slice none 0 0,.int .u64 0,.int .u64 0],.bool false])∧Below w.heap.size w w':=by
 have h:=aa (jd.start w)
 have Y:=aa X0;have Z:=aa C1;have K2:=aa C2;have K3:=aa C3;have K4:=aa C4;have K5:=aa C5;have K6:=aa C6;have K7:=aa C7;have K8:=aa C8
 clear X0 C1 C2 C3 C4 C5 C6 C7 C8
 have aI:(1:Int)≤(n:Int):=by omega
 rcases m with⟨rfl,rfl⟩|⟨rfl,rfl⟩
 ·go_enter Tryz.func38,Tryz.ntmps38
  go_wp2_with fail
  refine(uH Z _ (uH h).2.2).mono ?_
  rintro e w1 ⟨rfl,m⟩
  replace h:=aa ((uH h).all m)
  clear m Z
  go_wp2_with fail
  refine(uH K2 _ (uH h).2.2).mono ?_
  rintro e w2 ⟨rfl,m⟩
  replace h:=aa ((uH h).all m)
  clear m K2
  go_wp2_with fail
  refine(uH K3 _ (uH h).2.2).mono ?_
  rintro e w3 ⟨p,rfl,hp,V,m⟩
  replace h:=aa ((uH h).all m)
  obtain⟨bb,F,rfl,t⟩:=uH Y _ (uH h).2.2
  have cp:=t p hp
  have A:=aa (fun w'=>uH K4 w' p V)
  have ae:(p:Int)<(n:Int):=by omega
  generalize X p=x at*
  clear m K3 t V K4
  go_wp2_with fail
  refine(uH A _).mono ?_
  rintro e w4 ⟨rfl,rfl⟩
  clear A cp
  obtain⟨aj,Q,U,t⟩:=uH Y _ (uH h).2.2
  simp only[Option.some.injEq,Addr.mk.injEq]at U
  obtain⟨rfl,rfl,_⟩:=U
  have O:=t 0 (by omega)
  rw[Nat.add_zero]at O
  clear t
  generalize am:X 0=a at*
  go_wp2_with fail
  refine(uH K6 _).mono ?_
  rintro e w5 ⟨rfl,m⟩
  replace h:=aa ((uH h).all m)
  clear m K6 O
  go_wp2_with fail
  refine(uH K7 _).mono ?_
  rintro e w6 ⟨rfl,rfl⟩
  rcases hf with rfl|⟨rfl,rfl⟩
  ·obtain⟨M,f,D⟩:=uH h
   have r0:=f.c0;have r1:=f.c1;have r2:=f.c2
   have f0:=f.free 0;have G:=f.free 1;have H:=f.free 2
   have z:=f.put (.slice none 0 0) (.int .u64 0) (.int .u64 0)
   have K:=z.c0;have z1:=z.c1;have z2:=z.c2
   have L:=aa (aD D (Nat.le_refl _) (.slice none 0 0) (.int .u64 0) (.int .u64 0))
   clear M f D z h
   go_wp2_with fail
   exact bodyPost_ret (v:=.tuple #[.agg #[.slice none 0 0,.int .u64 0,.int .u64 0],.bool false]) (by simp[results,Tryz.results38,go_sem,K,z1,z2]) rfl ⟨rfl,uH L⟩
  ·go_wp2_with fail
   refine(uH K8 _).mono ?_
   rintro e w6 ⟨rfl,rfl⟩
   obtain⟨M,f,D⟩:=uH h
   have r0:=f.c0;have r1:=f.c1;have r2:=f.c2
   have f0:=f.free 0;have G:=f.free 1;have H:=f.free 2
   have z:=f.put (.slice none 0 0) (.int .u64 0) (.int .u64 0)
   have K:=z.c0;have z1:=z.c1;have z2:=z.c2
   have L:=aa (aD D (Nat.le_refl _) (.slice none 0 0) (.int .u64 0) (.int .u64 0))
   clear M f D z h
   go_wp2_with fail
   exact bodyPost_ret (v:=.tuple #[.agg #[.slice none 0 0,.int .u64 0,.int .u64 0],.bool false]) (by simp[results,Tryz.results38,go_sem,K,z1,z2]) rfl ⟨rfl,uH L⟩
 ·go_enter Tryz.func38,Tryz.ntmps38
  go_wp2_with fail
  refine(uH Z _ (uH h).2.2).mono ?_
  rintro e w1 ⟨rfl,m⟩
  replace h:=aa ((uH h).all m)
  clear m Z
  go_wp2_with fail
  refine(uH K2 _ (uH h).2.2).mono ?_
  rintro e w2 ⟨rfl,m⟩
  replace h:=aa ((uH h).all m)
  clear m K2
  go_wp2_with fail
  refine(uH K3 _ (uH h).2.2).mono ?_
  rintro e w3 ⟨p,rfl,hp,V,m⟩
  replace h:=aa ((uH h).all m)
  obtain⟨bb,F,rfl,t⟩:=uH Y _ (uH h).2.2
  have cp:=t p hp
  have A:=aa (fun w'=>uH K4 w' p V)
  have ae:(p:Int)<(n:Int):=by omega
  generalize X p=x at*
  clear m K3 t V K4
  go_wp2_with fail
  refine(uH A _).mono ?_
  rintro e w4 ⟨rfl,rfl⟩
  clear A cp
  go_wp2_with fail
  refine(uH K5 _).mono ?_
  rintro e w4 ⟨rfl,rfl⟩
  obtain⟨aj,Q,U,t⟩:=uH Y _ (uH h).2.2
  simp only[Option.some.injEq,Addr.mk.injEq]at U
  obtain⟨rfl,rfl,_⟩:=U
  have O:=t 0 (by omega)
  rw[Nat.add_zero]at O
  clear t
  generalize am:X 0=a at*
  go_wp2_with fail
  refine(uH K6 _).mono ?_
  rintro e w5 ⟨rfl,m⟩
  replace h:=aa ((uH h).all m)
  clear m K6 O
  go_wp2_with fail
  refine(uH K7 _).mono ?_
  rintro e w6 ⟨rfl,rfl⟩
  rcases hf with rfl|⟨rfl,rfl⟩
  ·obtain⟨M,f,D⟩:=uH h
   have r0:=f.c0;have r1:=f.c1;have r2:=f.c2
   have f0:=f.free 0;have G:=f.free 1;have H:=f.free 2
   have z:=f.put (.slice none 0 0) (.int .u64 0) (.int .u64 0)
   have K:=z.c0;have z1:=z.c1;have z2:=z.c2
   have L:=aa (aD D (Nat.le_refl _) (.slice none 0 0) (.int .u64 0) (.int .u64 0))
   clear M f D z h
   go_wp2_with fail
   exact bodyPost_ret (v:=.tuple #[.agg #[.slice none 0 0,.int .u64 0,.int .u64 0],.bool false]) (by simp[results,Tryz.results38,go_sem,K,z1,z2]) rfl ⟨rfl,uH L⟩
  ·go_wp2_with fail
   refine(uH K8 _).mono ?_
   rintro e w6 ⟨rfl,rfl⟩
   obtain⟨M,f,D⟩:=uH h
   have r0:=f.c0;have r1:=f.c1;have r2:=f.c2
   have f0:=f.free 0;have G:=f.free 1;have H:=f.free 2
   have z:=f.put (.slice none 0 0) (.int .u64 0) (.int .u64 0)
   have K:=z.c0;have z1:=z.c1;have z2:=z.c2
   have L:=aa (aD D (Nat.le_refl _) (.slice none 0 0) (.int .u64 0) (.int .u64 0))
   clear M f D z h
   go_wp2_with fail
   exact bodyPost_ret (v:=.tuple #[.agg #[.slice none 0 0,.int .u64 0,.int .u64 0],.bool false]) (by simp[results,Tryz.results38,go_sem,K,z1,z2]) rfl ⟨rfl,uH L⟩
theorem vO(ao:Option Addr)(n c b0 bm b d e0 T:Nat)(sg f1 f2:Bool)(X g:Nat→Nat)(w:World)(aI:1≤n)(hn:n≤64)(a0:f1=true)(a1:f2=true)(hg:∀j,j+1<n→g j<18446744073709551616)
  (X0:∀w',Below w.heap.size w w'→∃b Y,ao=some ⟨b,Y,none⟩∧∀j,j<n→w'.cell? ⟨b,Y+j,none⟩=some (.int .u64 (X j:Nat)))
  (C1:∀w',Below w.heap.size w w'→Calls Tryz.prog 80 #[.slice ao n c] w' fun e h=>e=.returned (.bool false)∧Below w'.heap.size w' h)
  (C2:∀w',Below w.heap.size w w'→Calls Tryz.prog 79 #[.slice ao n c] w' fun e h=>e=.returned (.int .u64 (b0:Nat))∧Below w'.heap.size w' h)
  (C3:∀w',Below w.heap.size w w'→Calls Tryz.prog 82 #[.slice ao n c] w' fun e h=>∃p:Nat,e=.returned (.int .i64 (p:Nat))∧p<n∧fS (X p)=sg∧Below w'.heap.size w' h)
  (C4:∀w' p,fS (X p)=sg→Calls Tryz.prog 81 #[.int .u64 (X p:Nat)] w' fun e h=>e=.returned (.bool sg)∧w'=h)
  (C5:∀w',Calls Tryz.prog 83 #[.int .u64 b0] w' fun e h=>e=.returned (.int .u64 (bm:Nat))∧w'=h)
  (f:(sg=true∧b=b0)∨(sg=false∧b=bm))
  (C6:∀w',Calls Tryz.prog 84 #[.int .u64 (X 0:Nat),.int .u64 b] w' fun e h=>e=.returned (.int .u64 (d:Nat))∧Below w'.heap.size w' h)
  (C7:∀w',Calls Tryz.prog 66 #[.int .u64 b] w' fun e h=>e=.returned (.bool f1)∧w'=h)
  (C8:∀w',Calls Tryz.prog 66 #[.int .u64 d] w' fun e h=>e=.returned (.bool f2)∧w'=h)
  (C9:∀j,1≤j→j<n→∀w',Calls Tryz.prog 85 #[.int .u64 (X j:Nat),.int .u64 d] w' fun e h=>e=.returned (.int .u64 (g (j-1):Nat))∧Below w'.heap.size w' h)
  (CX:∀w',Calls Tryz.prog 84 #[.int .u64 b,.int .u64 (X 0:Nat)] w' fun e h=>e=.returned (.int .u64 (e0:Nat))∧Below w'.heap.size w' h)
  (CY:∀w',Calls Tryz.prog 85 #[.int .u64 e0,.int .u64 b] w' fun e h=>e=.returned (.int .u64 (T:Nat))∧Below w'.heap.size w' h):
  Calls Tryz.prog 38 #[.slice ao n c] w fun e w'=>∃D G,e=.returned (.tuple #[.agg #[.slice D n G,.int .u64 (T:Nat),.int .u64 (b:Nat)],.bool true])∧bD w.heap.size D (az (oU g n))∧ad w' D G (az (oU g n))∧Below w.heap.size w w':=by
 subst a0 a1
 have m:=aa (jd.start w)
 have KX:=aa X0;have K1:=aa C1;have K2:=aa C2;have K3:=aa C3;have K4:=aa C4;have K5:=aa C5;have K6:=aa C6;have K7:=aa C7;have K8:=aa C8
 clear X0 C1 C2 C3 C4 C5 C6 C7 C8
 have a6:(1:Int)≤(n:Int):=by omega
 have K9:=aa C9;have Z:=aa CX;have KY:=aa CY;have HG:=aa hg
 clear C9 CX CY hg
 rcases f with⟨rfl,rfl⟩|⟨rfl,rfl⟩
 ·go_enter Tryz.func38,Tryz.ntmps38
  go_wp2_with fail
  refine(uH K1 _ (uH m).2.2).mono ?_
  rintro e w1 ⟨rfl,f⟩
  replace m:=aa ((uH m).all f)
  clear f K1
  go_wp2_with fail
  refine(uH K2 _ (uH m).2.2).mono ?_
  rintro e w2 ⟨rfl,f⟩
  replace m:=aa ((uH m).all f)
  clear f K2
  go_wp2_with fail
  refine(uH K3 _ (uH m).2.2).mono ?_
  rintro e w3 ⟨p,rfl,hp,hs,f⟩
  replace m:=aa ((uH m).all f)
  obtain⟨bb,Y,rfl,l⟩:=uH KX _ (uH m).2.2
  have cp:=l p hp
  have K:=aa (fun w'=>uH K4 w' p hs)
  have a2:(p:Int)<(n:Int):=by omega
  generalize X p=x at*
  clear f K3 l hs K4
  go_wp2_with fail
  refine(uH K _).mono ?_
  rintro e w4 ⟨rfl,rfl⟩
  clear K cp
  obtain⟨am,O,U,l⟩:=uH KX _ (uH m).2.2
  simp only[Option.some.injEq,Addr.mk.injEq]at U
  obtain⟨rfl,rfl,_⟩:=U
  have L:=l 0 (by omega)
  rw[Nat.add_zero]at L
  clear l
  generalize ax:X 0=a at*
  go_wp2_with fail
  refine(uH K6 _).mono ?_
  rintro e w5 ⟨rfl,f⟩
  replace m:=aa ((uH m).all f)
  clear f K6 L
  go_wp2_with fail
  refine(uH K7 _).mono ?_
  rintro e w6 ⟨rfl,rfl⟩
  go_wp2_with fail
  refine(uH K8 _).mono ?_
  rintro e w6 ⟨rfl,rfl⟩
  go_wp2_with fail
  go_loopw[4,8] (fun v i wr=>∃j:Nat,1≤j∧j≤n∧i=.int .i64 j∧Hid (jd w wr v (oU g j))) (fun _ i _=>n-(intOf i).toNat)
  case atStart=>exact⟨1,Nat.le_refl _,aI,rfl,by rw[CU];exact m⟩
  case round=>
   clear m
   obtain⟨j,t,hj,rfl,F⟩:=hrel
   obtain⟨am,O,U,l⟩:=uH KX _ (uH F).2.2
   simp only[Option.some.injEq,Addr.mk.injEq]at U
   obtain⟨rfl,rfl,_⟩:=U
   by_cases M:j<n
   ·have a3:(j:Int)<(n:Int):=by omega
    have cj:=l j M
    have KD:=aa (uH K9 j t M)
    have GL:=aa (uH HG (j-1) (by omega))
    have GS:=aa (oK g t)
    generalize g (j-1)=o at*
    generalize X j=xj at*
    clear l
    go_wp2_with fail
    refine(uH KD _).mono ?_
    rintro e w7 ⟨rfl,f⟩
    obtain⟨v3,w8,z,V⟩:=((uH F).all f).push o (uH GL) (by rw[ju _ t];omega) 22
    have N:=aa z
    have S3:=aa (show jd w w8 v3 (oU g (j+1))from by rw[uH GS];exact V)
    clear z V F f cj KD
    go_wp2_with(at_builtin;refine aW _ rfl _ _ 22 rfl _ _ _ _ rfl rfl (uH N) ?_;clear N)
    go_round
    case rel=>exact⟨j+1,by omega,by omega,by go_num,S3⟩
    case measure=>simp[intOf];omega
   ·have ae:j=n:=by omega
    subst ae
    have L:=l 0 (by omega)
    rw[Nat.add_zero,ax]at L
    clear l
    go_wp2_with fail
    refine(uH Z _).mono ?_
    rintro e w7 ⟨rfl,f⟩
    replace F:=aa ((uH F).all f)
    clear f Z L
    go_wp2_with fail
    refine(uH KY _).mono ?_
    rintro e w8 ⟨rfl,f⟩
    obtain⟨H,A,h3⟩:=(uH F).all f
    obtain⟨D,G,e1,q1⟩:=H.bits
    rw[ju _ t]at e1
    subst e1
    have r0:=A.c0;have r1:=A.c1;have r2:=A.c2
    have f0:=A.free 0;have a4:=A.free 1;have a5:=A.free 2
    have XP:=A.put (.slice D j G) (.int .u64 (T:Nat)) (.int .u64 (b:Nat))
    have z0:=XP.c0;have z1:=XP.c1;have z2:=XP.c2
    have aj:=aa (bD.least H.newB (Nat.le_succ w.heap.size))
    have Q:=aa (((q1.far H.newB (show w.heap.size<w.heap.size+1 by omega) 0 (.slice D j G)).far H.newB (show w.heap.size<w.heap.size+1 by omega) 1 (.int .u64 (T:Nat))).far H.newB (show w.heap.size<w.heap.size+1 by omega) 2 (.int .u64 (b:Nat)))
    have BP:=aa (aD h3 (Nat.le_refl _) (.slice D j G) (.int .u64 (T:Nat)) (.int .u64 (b:Nat)))
    clear F H q1 XP A h3 f KY
    go_wp2_with fail
    exact bodyPost_ret (v:=.tuple #[.agg #[.slice D j G,.int .u64 (T:Nat),.int .u64 (b:Nat)],.bool true]) (by simp[results,Tryz.results38,go_sem,z0,z1,z2]) rfl ⟨D,G,rfl,uH aj,uH Q,uH BP⟩
 ·go_enter Tryz.func38,Tryz.ntmps38
  go_wp2_with fail
  refine(uH K1 _ (uH m).2.2).mono ?_
  rintro e w1 ⟨rfl,f⟩
  replace m:=aa ((uH m).all f)
  clear f K1
  go_wp2_with fail
  refine(uH K2 _ (uH m).2.2).mono ?_
  rintro e w2 ⟨rfl,f⟩
  replace m:=aa ((uH m).all f)
  clear f K2
  go_wp2_with fail
  refine(uH K3 _ (uH m).2.2).mono ?_
  rintro e w3 ⟨p,rfl,hp,hs,f⟩
  replace m:=aa ((uH m).all f)
  obtain⟨bb,Y,rfl,l⟩:=uH KX _ (uH m).2.2
  have cp:=l p hp
  have K:=aa (fun w'=>uH K4 w' p hs)
  have a2:(p:Int)<(n:Int):=by omega
  generalize X p=x at*
  clear f K3 l hs K4
  go_wp2_with fail
  refine(uH K _).mono ?_
  rintro e w4 ⟨rfl,rfl⟩
  clear K cp
  go_wp2_with fail
  refine(uH K5 _).mono ?_
  rintro e w4 ⟨rfl,rfl⟩
  obtain⟨am,O,U,l⟩:=uH KX _ (uH m).2.2
  simp only[Option.some.injEq,Addr.mk.injEq]at U
  obtain⟨rfl,rfl,_⟩:=U
  have L:=l 0 (by omega)
  rw[Nat.add_zero]at L
  clear l
  generalize ax:X 0=a at*
  go_wp2_with fail
  refine(uH K6 _).mono ?_
  rintro e w5 ⟨rfl,f⟩
  replace m:=aa ((uH m).all f)
  clear f K6 L
  go_wp2_with fail
  refine(uH K7 _).mono ?_
  rintro e w6 ⟨rfl,rfl⟩
  go_wp2_with fail
  refine(uH K8 _).mono ?_
  rintro e w6 ⟨rfl,rfl⟩
  go_wp2_with fail
  go_loopw[4,8] (fun v i wr=>∃j:Nat,1≤j∧j≤n∧i=.int .i64 j∧Hid (jd w wr v (oU g j))) (fun _ i _=>n-(intOf i).toNat)
  case atStart=>exact⟨1,Nat.le_refl _,aI,rfl,by rw[CU];exact m⟩
  case round=>
   clear m
   obtain⟨j,t,hj,rfl,F⟩:=hrel
   obtain⟨am,O,U,l⟩:=uH KX _ (uH F).2.2
   simp only[Option.some.injEq,Addr.mk.injEq]at U
   obtain⟨rfl,rfl,_⟩:=U
   by_cases M:j<n
   ·have a3:(j:Int)<(n:Int):=by omega
    have cj:=l j M
    have KD:=aa (uH K9 j t M)
    have GL:=aa (uH HG (j-1) (by omega))
    have GS:=aa (oK g t)
    generalize g (j-1)=o at*
    generalize X j=xj at*
    clear l
    go_wp2_with fail
    refine(uH KD _).mono ?_
    rintro e w7 ⟨rfl,f⟩
    obtain⟨v3,w8,z,V⟩:=((uH F).all f).push o (uH GL) (by rw[ju _ t];omega) 22
    have N:=aa z
    have S3:=aa (show jd w w8 v3 (oU g (j+1))from by rw[uH GS];exact V)
    clear z V F f cj KD
    go_wp2_with(at_builtin;refine aW _ rfl _ _ 22 rfl _ _ _ _ rfl rfl (uH N) ?_;clear N)
    go_round
    case rel=>exact⟨j+1,by omega,by omega,by go_num,S3⟩
    case measure=>simp[intOf];omega
   ·have ae:j=n:=by omega
    subst ae
    have L:=l 0 (by omega)
    rw[Nat.add_zero,ax]at L
    clear l
    go_wp2_with fail
    refine(uH Z _).mono ?_
    rintro e w7 ⟨rfl,f⟩
    replace F:=aa ((uH F).all f)
    clear f Z L
    go_wp2_with fail
    refine(uH KY _).mono ?_
    rintro e w8 ⟨rfl,f⟩
    obtain⟨H,A,h3⟩:=(uH F).all f
    obtain⟨D,G,e1,q1⟩:=H.bits
    rw[ju _ t]at e1
    subst e1
    have r0:=A.c0;have r1:=A.c1;have r2:=A.c2
    have f0:=A.free 0;have a4:=A.free 1;have a5:=A.free 2
    have XP:=A.put (.slice D j G) (.int .u64 (T:Nat)) (.int .u64 (b:Nat))
    have z0:=XP.c0;have z1:=XP.c1;have z2:=XP.c2
    have aj:=aa (bD.least H.newB (Nat.le_succ w.heap.size))
    have Q:=aa (((q1.far H.newB (show w.heap.size<w.heap.size+1 by omega) 0 (.slice D j G)).far H.newB (show w.heap.size<w.heap.size+1 by omega) 1 (.int .u64 (T:Nat))).far H.newB (show w.heap.size<w.heap.size+1 by omega) 2 (.int .u64 (b:Nat)))
    have BP:=aa (aD h3 (Nat.le_refl _) (.slice D j G) (.int .u64 (T:Nat)) (.int .u64 (b:Nat)))
    clear F H q1 XP A h3 f KY
    go_wp2_with fail
    exact bodyPost_ret (v:=.tuple #[.agg #[.slice D j G,.int .u64 (T:Nat),.int .u64 (b:Nat)],.bool true]) (by simp[results,Tryz.results38,go_sem,z0,z1,z2]) rfl ⟨D,G,rfl,uH aj,uH Q,uH BP⟩
end Go.Proofs.YtnnfjeieennffaaGreatDoor
namespace Go.Proofs.YtnnfjeieennffaaGreatDoor
open Go.RowKit
theorem gG{I:List Int}(h:1≤I.length):aT I=aL I 0::(aT I).drop 1:=by
 have d:0<(aT I).length:=by rw[de];omega
 have:=List.drop_eq_getElem_cons d
 rw[List.drop_zero]at this
 rw[this]
 congr 1
 have e:=oz I 0 (by omega)
 rw[List.getElem?_eq_getElem d]at e
 exact Option.some.inj e
theorem zf(I:List Int){j:Nat}(h:j+1<I.length):((aT I).drop 1).getD j 0=aL I (j+1):=by
 rw[List.getD_eq_getElem?_getD,List.getElem?_drop,Nat.add_comm 1 j,oz I (j+1) h]
 rfl
theorem rn{I:List Int}(h:1≤I.length)(k:Nat→Nat)(d:∀x,(if jy ((aT I).drop 1)=true then 0 else dV x (jZ (aL I 0) ((aT I).drop 1)))=k x):jI (aT I)=oU (fun j=>k (aL I (j+1))) I.length:=by
 have l:((aT I).drop 1).length=I.length-1:=by rw[List.length_drop,de]
 rw[gG h]
 show 4607182418800017408::((aT I).drop 1).map (fun x=>if jy ((aT I).drop 1)=true then 0 else dV x (jZ (aL I 0) ((aT I).drop 1)))=4607182418800017408::kH (fun j=>k (aL I (j+1))) (I.length-1)
 congr 1
 rw[List.map_congr_left (g:=k) (fun x _=>d x),vE ((aT I).drop 1),List.map_map,l]
 unfold kH
 refine List.map_congr_left (fun j f=>?_)
 show k (((aT I).drop 1).getD j 0)=_
 rw[zf I (by have:=List.mem_range.1 f;omega)]
theorem kQ{I:List Int}(h:1≤I.length):Cp (aT I)=(if jy ((aT I).drop 1)=true then aL I 0 else gK (aL I 0) ((aT I).drop 1))∧mq (aT I)=(if jy ((aT I).drop 1)=true then 0 else dV (aV (gK (aL I 0) ((aT I).drop 1)) (fN (aL I 0))) (gK (aL I 0) ((aT I).drop 1)))∧yV (aT I)=(jy ((aT I).drop 1)||(ap (gK (aL I 0) ((aT I).drop 1))&&ap (jZ (aL I 0) ((aT I).drop 1)))):=by
 have e:=gG h
 refine⟨?_,?_,?_⟩
 ·conv=>lhs;rw[e]
  rfl
 ·conv=>lhs;rw[e]
  rfl
 ·conv=>lhs;rw[e]
  rfl
theorem xi{I:List Int}(h:1≤I.length)(d:jy ((aT I).drop 1)=false):jy (aT I)=false:=by
 rw[gG h]
 show(decide (fK (aL I 0)=0)&&jy ((aT I).drop 1))=false
 rw[d,Bool.and_false]
theorem oL{w:World}{f:Option Addr}{c:Nat}{I:List Int}(l:ad w f c I)(h:1≤I.length)(w':World)(m:Below w.heap.size w w'):∃b d,f=some ⟨b,d,none⟩∧∀j,j<I.length→w'.cell? ⟨b,d+j,none⟩=some (.int .u64 (aL I j:Nat)):=by
 obtain⟨b,d,t,_,z⟩:=(l.below m).ne (by omega)
 exact⟨b,d,t,z⟩
theorem tP(h:Option Addr)(c:Nat)(I:List Int)(w:World)(f:ad w h c I)(d:1≤I.length)(t:I.length≤64)(N:yV (aT I)=true):
  Calls Tryz.prog 38 #[.slice h I.length c] w fun e w'=>∃G K,e=.returned (.tuple #[.agg #[.slice G I.length K,.int .u64 (mq (aT I):Nat),.int .u64 (Cp (aT I):Nat)],.bool true])∧bD w.heap.size G (az (jI (aT I)))∧ad w' G K (az (jI (aT I)))∧Below w.heap.size w w':=by
 obtain⟨D,F,M⟩:=kQ d
 have z:=fun w' (l:Below w.heap.size w w')=>jb h c I w' (f.below l) t
 cases hn:jy ((aT I).drop 1)
 ·rw[hn]at z
  rw[hn,if_neg (by decide)]at D F
  rw[N,hn,Bool.false_or]at M
  obtain⟨U,V⟩:=Bool.and_eq_true_iff.1 M.symm
  rw[rn d (fun x=>dV x (jZ (aL I 0) ((aT I).drop 1))) (fun x=>if_neg (by rw[hn];decide)),D,F]
  have A:=f.lt 0
  have m:=gF (aL I 0) ((aT I).drop 1)
  have L:=oF (aL I 0) ((aT I).drop 1) A
  refine vO h I.length c (jn (aT I)) (fN (jn (aT I))) (gK (aL I 0) ((aT I).drop 1)) (jZ (aL I 0) ((aT I).drop 1)) (aV (gK (aL I 0) ((aT I).drop 1)) (fN (aL I 0))) _ (mQ (aT I)) true true (fun j=>aL I j) (fun j=>dV (aL I (j+1)) (jZ (aL I 0) ((aT I).drop 1))) w d t rfl rfl (fun j _=>wE _ _) (oL f d) z (fun w' l=>?_) (fun w' l=>mr h c I w' (f.below l) t (xi d hn)) (fun w' p O=>?_) (fun w'=>iR _ w' (lL _)) ?_ (fun w'=>js _ _ w' A m) (fun w'=>?_) (fun w'=>?_) (fun j Q Z w'=>?_) (fun w'=>js _ _ w' m A) (fun w'=>qj _ _ w' (nI _ _ m (kh _ A)) m)
  ·have:=jY h c I w' (f.below l) (by omega)
   rwa[iJ]at this
  ·have:=fY (aL I p) w' (f.lt p)
   rwa[O]at this
  ·have e:gK (aL I 0) ((aT I).drop 1)=if mQ (aT I)=true then jn (aT I)else fN (jn (aT I)):=by
    unfold gK
    rw[←gG d]
   rw[e]
   cases hl:mQ (aT I)
   ·exact .inr ⟨rfl,rfl⟩
   ·exact .inl ⟨rfl,rfl⟩
  ·have:=cr (gK (aL I 0) ((aT I).drop 1)) w' m
   rwa[U]at this
  ·have:=cr (jZ (aL I 0) ((aT I).drop 1)) w' L
   rwa[V]at this
  ·have:=qj (aL I j) (jZ (aL I 0) ((aT I).drop 1)) w' (f.lt j) L
   rw[show j-1+1=j by omega]
   exact this
 ·rw[hn]at z
  rw[if_pos hn]at D F
  rw[rn d (fun _=>0) (fun x=>if_pos hn),D,F]
  refine mA h I.length c (aL I 0) w d t (fun w' l=>?_) z
  obtain⟨b,H,X,Y⟩:=oL f d w' l
  exact⟨b,H,X,Y 0 (by omega)⟩
theorem vP(d:Option Addr)(c:Nat)(I:List Int)(w:World)(f:ad w d c I)(h:1≤I.length)(m:I.length≤64)(H:yV (aT I)=false):
  Calls Tryz.prog 38 #[.slice d I.length c] w fun e w'=>e=.returned (.tuple #[.agg #[.slice none 0 0,.int .u64 0,.int .u64 0],.bool false])∧Below w.heap.size w w':=by
 obtain⟨_,_,D⟩:=kQ h
 have t:=fun w' (l:Below w.heap.size w w')=>jb d c I w' (f.below l) m
 rw[H]at D
 obtain⟨F,G⟩:=Bool.or_eq_false_iff.1 D.symm
 rw[F]at t
 have z:=f.lt 0
 have A:=gF (aL I 0) ((aT I).drop 1)
 have L:=oF (aL I 0) ((aT I).drop 1) z
 refine tO d I.length c (jn (aT I)) (fN (jn (aT I))) (gK (aL I 0) ((aT I).drop 1)) (jZ (aL I 0) ((aT I).drop 1)) (mQ (aT I)) (ap (gK (aL I 0) ((aT I).drop 1))) (ap (jZ (aL I 0) ((aT I).drop 1))) (fun j=>aL I j) w h m ?_ (oL f h) t (fun w' l=>?_) (fun w' l=>mr d c I w' (f.below l) m (xi h F)) (fun w' p K=>?_) (fun w'=>iR _ w' (lL _)) ?_ (fun w'=>js _ _ w' z A) (fun w'=>cr _ w' A) (fun w'=>cr _ w' L)
 ·cases g1:ap (gK (aL I 0) ((aT I).drop 1))
  ·exact .inl rfl
  ·cases g2:ap (jZ (aL I 0) ((aT I).drop 1))
   ·exact .inr ⟨rfl,rfl⟩
   ·rw[g1,g2]at G;cases G
 ·have:=jY d c I w' (f.below l) (by omega)
  rwa[iJ]at this
 ·have:=fY (aL I p) w' (f.lt p)
  rwa[K]at this
 ·have e:gK (aL I 0) ((aT I).drop 1)=if mQ (aT I)=true then jn (aT I)else fN (jn (aT I)):=by
   unfold gK
   rw[←gG h]
  rw[e]
  cases hl:mQ (aT I)
  ·exact .inr ⟨rfl,rfl⟩
  ·exact .inl ⟨rfl,rfl⟩
attribute [local go_sem ↓] Go.wp_at_zero Go.wp_at_succ
theorem lN(r c z k f:Nat)(F:Option Addr)(S:List Nat)(w:World)(h:Mx w F z r c S)(hk:k<c)(hf:f≤r):
  Calls Tryz.prog 39 #[.agg #[.int .i64 r,.int .i64 c,.slice F S.length z],.int .i64 k,.int .i64 f] w fun e w'=>∃bo d,e=.returned (.slice bo (r-f) d)∧ad w' bo d (az (dg c S f (r-f) k))∧Below w.heap.size w w':=by
 have HH:=aa h
 have r6:=h.2.2.1
 have Y:=an w (.cells #[.int .i64 r,.int .i64 c,.slice F S.length z] 24)
 have Z:=ac w (.cells #[.int .i64 r,.int .i64 c,.slice F S.length z] 24)
 have X0:=aw.new w (.int .i64 r) (.int .i64 c) (.slice F S.length z)
 have N:=ac (w.alloc (.cells #[.int .i64 r,.int .i64 c,.slice F S.length z] 24)) (.cells #[] 31)
 have O0:=bL.nil (w.alloc (.cells #[.int .i64 r,.int .i64 c,.slice F S.length z] 24)) (w.heap.size+1) (by rw[Y];omega)
 rw[Y]at O0
 have HO:=aa O0;have HX:=aa (X0.all N);have HB:=aa (Z.trans (N.mono Z.size))
 obtain⟨l,V⟩:∃l,S.length=l:=⟨_,rfl⟩
 rw[V]at HX HB HO
 rw[V]
 have ae:=aa V
 clear h Y Z X0 N O0 V
 go_enter Tryz.func39,Tryz.ntmps39
 go_wp2_with fail
 go_loopw[7,8] (fun v i wr=>∃j:Nat,f≤j∧j≤r∧i=.int .i64 j∧Hid (bL (w.heap.size+1) wr v (kH (fun t=>gJ c S (f+t) k) (j-f)))∧Hid (aw wr w.heap.size (.int .i64 r) (.int .i64 c) (.slice F l z))∧Hid (Below w.heap.size w wr)) (fun _ i _=>r-(intOf i).toNat)
 case atStart=>exact⟨f,Nat.le_refl _,hf,rfl,by rw[Nat.sub_self];exact HO,HX,HB⟩
 case round=>
  clear HO HX HB
  obtain⟨j,aI,hj,rfl,X,Q,U⟩:=hrel
  have t0:=(uH Q).c0;have t1:=(uH Q).c1;have t2:=(uH Q).c2
  by_cases aj:j<r
  ·have ax:(j:Int)<(r:Int):=by omega
   have C:=aa (fun w' (m:Mx w' F z r c S)=>wV r c z j k F S w' m aj hk)
   rw[uH ae]at C
   have HM:=aa ((uH HH).below U.out)
   have ho:=aa ((uH HH).el_lt j k)
   have H:=aa (show(kH (fun t=>gJ c S (f+t) k) (j-f)).length≤1000000 from by rw[iG];omega)
   have eS:=aa (show kH (fun t=>gJ c S (f+t) k) (j+1-f)=kH (fun t=>gJ c S (f+t) k) (j-f)++[gJ c S j k]from by rw[show j+1-f=j-f+1 by omega,kI,show f+(j-f)=j by omega])
   generalize gJ c S j k=o at*
   go_wp2_with fail
   refine(uH C _ (uH HM)).mono ?_
   rintro e w2 ⟨rfl,G⟩
   have K:=(uH X).below G
   have A:=(uH Q).all G
   have B2:=U.out.trans (G.mono U.out.size)
   obtain⟨v3,w3,L,M,D,_,_⟩:=K.push o (uH ho) (uH H) (by have:=A.lt;omega) 22
   have O:=aa L
   have O3:=aa (show bL (w.heap.size+1) w3 v3 (kH (fun t=>gJ c S (f+t) k) (j+1-f))from by rw[uH eS];exact M)
   have X3:=aa (A.below D (by omega))
   have B3:=aa (B2.trans (D.mono (by omega)))
   clear G C X Q U K A B2 L M D ho H eS HM t0 t1 t2
   go_wp2_with(at_builtin;refine aW _ rfl _ _ 22 rfl _ _ _ _ rfl rfl (uH O) ?_;clear O)
   go_round
   case rel=>exact⟨j+1,by omega,by omega,by go_num,O3,X3,B3⟩
   case measure=>simp[intOf];omega
  ·have am:r=j:=by omega
   subst am
   obtain⟨N,d1,e1,q1⟩:=(uH X).bits
   rw[iG]at e1
   subst e1
   have Q1:=aa q1
   clear q1 X
   go_wp2_with fail
   go_ret
   exact⟨N,d1,rfl,uH Q1,U.out⟩
end Go.Proofs.YtnnfjeieennffaaGreatDoor
