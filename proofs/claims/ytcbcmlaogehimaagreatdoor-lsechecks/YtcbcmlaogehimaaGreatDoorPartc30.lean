/- Part 30 of the texts. -/
import Derived.Test.YtcbcmlaogehimaaGreatDoorChecked
import Derived.Test.YtcbcmlaogehimaaGreatDoorPartc01
import Derived.ProofKit
import Derived.SizedLaws
import Derived.Lib.SmallJoins
import Derived.Test.YtcbcmlaogehimaaGreatDoorRows
import Derived.Test.YtcbcmlaogehimaaGreatDoorPartc08
import Derived.Lib.LaidTab
import Derived.OpenShut
import Derived.Deep.DeepHandedRow
import Derived.Test.YtcbcmlaogehimaaGreatDoorPartc17
import Derived.Deep.Strs
import Derived.Test.YtcbcmlaogehimaaGreatDoorPartc27
import Derived.Test.YtcbcmlaogehimaaGreatDoorPartc29
set_option maxHeartbeats 16000000
set_option maxRecDepth 20000
namespace Go.Proofs.YtcbcmlaogehimaaGreatDoor
open Go.ChangeShapes Go.WideShapes Go.ChangeAt Go.RowKit Go.Joins
theorem Tryz.own:ownKnob Tryz.prog.godebug = none:=by kernel_rfl
theorem Tryz.laidOut:laidOutB Tryz.prog = true:=by kernel_rfl
end Go.Proofs.YtcbcmlaogehimaaGreatDoor
namespace Go.Proofs.YtcbcmlaogehimaaGreatDoor
theorem bounds_of_i64 {x:Int} (h:(Lit.int .i64 x).wf = true):-9223372036854775808≤x∧x≤9223372036854775807:=by
 simp [Lit.wf,IntKind.min,IntKind.max,IntKind.signed,IntKind.bits] at h
 omega
end Go.Proofs.YtcbcmlaogehimaaGreatDoor
namespace Go.Proofs.YtcbcmlaogehimaaGreatDoor
open Go.ChangeShapes Go.WideShapes Go.ChangeAt Go.RowKit Go.Joins
theorem Tryz.tabName:Tryz.prog.globalNamed "math/bits.deBruijn32tab" = some 1:=by kernel_rfl
theorem Tryz.tabType:(Tryz.prog.globals[1]?).map (·.type) = some 240:=by kernel_rfl
theorem Tryz.tabCells:Tryz.prog.cellsOf 240 = 32:=by kernel_rfl
theorem Tryz.byteCells:Tryz.prog.cellsOf 5 = 1:=by kernel_rfl
theorem tab_getD:∀ j,j < Lib.deBruijn32tab.length→(List.map Int.ofNat Lib.deBruijn32tab).getD j 0 = ((Lib.deBruijn32tab.getD j 0:Nat):Int):=by decide
theorem tab_of_laid {W:World} (h:laidMetH Tryz.prog [("math/bits.deBruijn32tab",Rows.laid_math_bits_deBruijn32tab)] W):Tab W:=by
 have ht:=Lib.tabIs_of_head (zs:=Lib.deBruijn32tab.map Int.ofNat) (rest:=[]) Tryz.tabName Tryz.tabType Tryz.underlying240 Tryz.underlying5 Tryz.byteCells Tryz.tabCells h
 intro j hj
 have:=ht.cell Tryz.tabName j (by simpa using hj)
 rw [this]
 congr 2
 exact tab_getD j hj
end Go.Proofs.YtcbcmlaogehimaaGreatDoor
namespace Go.Proofs.YtcbcmlaogehimaaGreatDoor
open Go.ChangeShapes Go.WideShapes Go.ChangeAt Go.RowKit Go.Joins Go.Deep
theorem Tryz.cellsBits:Tryz.prog.cellsOf 69 = 1:=by kernel_rfl
theorem Tryz.bytesBits:Tryz.prog.bytesOf 69 = 8:=by kernel_rfl
theorem cellOf_plain {W:World} {a:Addr} {v:Value} (h:W.cell? a = some v):a.spot = none∧a.block < W.heap.size:=⟨World.cell?_spot h,World.block_lt_of_cell? W _ h⟩
theorem addOf_plain (b off i:Nat):(⟨b,off,none⟩:Addr).add i = ⟨b,off+i,none⟩:=by simp [Addr.add]
theorem bounds_of_u64 {x:Int} (h:(Lit.int .u64 x).wf = true):0≤x∧x≤18446744073709551615:=by
 simp [Lit.wf,IntKind.min,IntKind.max,IntKind.signed,IntKind.bits] at h
 omega
end Go.Proofs.YtcbcmlaogehimaaGreatDoor
namespace Go.Proofs.YtcbcmlaogehimaaGreatDoor
open Go.ChangeShapes Go.WideShapes Go.ChangeAt Go.RowKit Go.Joins Go.Deep
theorem Tryz.cellsMx:Tryz.prog.cellsOf 24 = 3:=by kernel_rfl
end Go.Proofs.YtcbcmlaogehimaaGreatDoor
namespace Go.Proofs.YtcbcmlaogehimaaGreatDoor
open Go.ChangeShapes Go.WideShapes Go.ChangeAt Go.RowKit Go.Joins Go.Deep
theorem Tryz.cellsTask:Tryz.prog.cellsOf 53 = 12:=by kernel_rfl
theorem array12 {α:Type} {cs:Array α} (h:cs.size = 12):∃ c0 c1 c2 c3 c4 c5 c6 c7 c8 c9 c10 c11,cs = #[c0,c1,c2,c3,c4,c5,c6,c7,c8,c9,c10,c11]:=by
 obtain ⟨l⟩:=cs
 match l,h with
 | [c0,c1,c2,c3,c4,c5,c6,c7,c8,c9,c10,c11],_=>exact ⟨c0,c1,c2,c3,c4,c5,c6,c7,c8,c9,c10,c11,rfl⟩
theorem agg3_cells {H:Type} {enc:TypeId × Value→H} {P:Program} {w:World} {base:Nat} {spare:Nat→Bool} {held:Bool} {t:TypeId} {f0 f1 f2:Field} {fuel:Nat} {c0 c1 c2:Value} {x:DataW H × List MemPlace} (hs:P.underlying t = some (.struct #[f0,f1,f2])) (hone:oneCellFields P #[f0,f1,f2] = true)
  (h:DataW.trod enc P w base spare held fuel t [c0,c1,c2] = some x) :
  ∃ (y0 y1 y2:DataW H × List MemPlace) (n:Nat),x = (.agg [y0.1,y1.1,y2.1],y0.2 ++ (y1.2 ++ y2.2)) ∧
   DataW.trod enc P w base spare held n f0.type [c0] = some y0∧DataW.trod enc P w base spare held n f1.type [c1] = some y1∧DataW.trod enc P w base spare held n f2.type [c2] = some y2:=by
 obtain ⟨y0,y1,y2,n,hx,_,h0,h1,h2⟩:=trod_struct3 hs h
 obtain ⟨o0,k0⟩:=hone_of hone 0 f0 rfl
 obtain ⟨o1,k1⟩:=hone_of hone 1 f1 rfl
 obtain ⟨o2,k2⟩:=hone_of hone 2 f2 rfl
 exact ⟨y0,y1,y2,n,hx,by simpa [o0,k0] using h0,by simpa [o1,k1] using h1,by simpa [o2,k2] using h2⟩
theorem open_mx3 {H:Type} {enc:TypeId × Value→H} {W:World} {n:Nat} {c0 c1 c2:Value} {x:DataW H × List MemPlace} (h:DataW.trod enc Tryz.prog W 0 (fun _=>true) true n 24 [c0,c1,c2] = some x)
  (hs:∀ k ∈ x.1.weights Tryz.prog 24,k≤reachBytes) :
  ∃ (r c:Int) (ao:Option Addr) (cap:Nat) (I:List Int),c0 = .int .i64 r∧c1 = .int .i64 c∧c2 = .slice ao I.length cap∧BitsAt W ao cap I∧I.length≤17592186043904∧(-9223372036854775808≤r∧r≤9223372036854775807)∧(-9223372036854775808≤c∧c≤9223372036854775807):=by
 obtain ⟨y0,y1,y2,m,rfl,hy0,hy1,hy2⟩:=agg3_cells Tryz.underlying24 (by kernel_rfl) h
 obtain ⟨r,e0,_,w0⟩:=DataW.trod_int Tryz.underlying3 hy0
 simp at e0
 subst e0
 obtain ⟨c,e1,_,w1⟩:=DataW.trod_int Tryz.underlying3 hy1
 simp at e1
 subst e1
 have b0:=bounds_of_i64 w0
 have b1:=bounds_of_i64 w1
 rcases open_ints Tryz.underlying22 Tryz.underlying69 Tryz.cellsBits hy2 with ⟨hcs,_⟩ | ⟨a,len0,cap0,zs,hcs,_,hl,hm,hz,hx,hcell,hwz⟩
 ·simp at hcs
  subst hcs
  exact ⟨r,c,none,0,[],rfl,rfl,rfl,⟨by simp,by simp,.inl rfl⟩,by simp,b0,b1⟩
 ·simp at hcs
  subst hcs
  have hzc:zs.length = cap0:=by simpa using hz
  have hlen:(zs.take len0).length = len0:=by simp;omega
  refine ⟨r,c,some a,cap0,zs.take len0,rfl,rfl,by rw [hlen],⟨by omega,fun x hx=>bounds_of_u64 (hwz x (List.mem_of_mem_take hx)),?_⟩,?_,b0,b1⟩
  ·rcases Nat.eq_zero_or_pos len0 with rfl | hp
   ·left;simp
   ·right
    obtain ⟨b,off,spot⟩:=a
    obtain ⟨e1,e2⟩:=cellOf_plain (hcell 0 (by omega))
    have hspot:spot = none:=by simpa [Addr.add] using e1
    subst hspot
    refine ⟨b,off,rfl,by simpa [Addr.add] using e2,fun i hi=>?_⟩
    have h1:=hcell i (by omega)
    rw [addOf_plain] at h1
    rw [h1,List.getElem?_take,if_pos (by omega),List.getD_eq_getElem?_getD]
  ·rw [hx] at hs
   have hk:=hs ((zs.length) * 8) (by
    simp only [DataW.weights,Tryz.underlying24,DataW.weightsEach,List.map,Tryz.underlying22,List.append_nil,List.mem_cons,List.mem_append,Tryz.bytesBits,lits,List.length_map,List.length_take,List.length_drop]
    refine .inr (.inr (.inl ?_))
    omega)
   simp only [reachBytes] at hk
   omega
structure MaAt (W:World) (a:Ma) (I:List Int):Prop where
 n:a.n = I.length
 at_:BitsAt W a.o a.k I
 le:I.length≤17592186043904
 r:-9223372036854775808≤a.r∧a.r≤9223372036854775807
 c:-9223372036854775808≤a.c∧a.c≤9223372036854775807
theorem open_task {H:Type} {enc:TypeId × Value→H} {W:World} {base:Nat} {v:Value} {d:DataW H} {p:List MemPlace} (hval:Value.okWide Tryz.prog W .any base 53 v) (h:DataW.Trod enc Tryz.prog W 0 (fun _=>true) true 53 v d p)
  (hs:∀ n ∈ d.weights Tryz.prog 53,n≤reachBytes) :
  ∃ (a b c e:Ma) (I J K L:List Int),v = .agg #[.int .i64 a.r,.int .i64 a.c,.slice a.o a.n a.k,.int .i64 b.r,.int .i64 b.c,.slice b.o b.n b.k,.int .i64 c.r,.int .i64 c.c,.slice c.o c.n c.k,.int .i64 e.r,.int .i64 e.c,.slice e.o e.n e.k] ∧
   (MaAt W a I∧MaAt W b J∧MaAt W c K∧MaAt W e L):=by
 obtain ⟨cs,rfl,hsz⟩:=okWide_struct Tryz.underlying53 hval
 obtain ⟨c0,c1,c2,c3,c4,c5,c6,c7,c8,c9,c10,c11,rfl⟩:=array12 (hsz.trans Tryz.cellsTask)
 obtain ⟨fuel,hf⟩:=h
 obtain ⟨y0,y1,y2,y3,n,hx,_,h0,h1,h2,h3⟩:=trod_struct4 Tryz.underlying53 hf
 simp only [Prod.mk.injEq] at hx
 obtain ⟨rfl,_⟩:=hx
 have k:=Tryz.cellsMx
 simp only [k] at h0 h1 h2 h3
 have wt:∀ m,(m ∈ y0.1.weights Tryz.prog 24 ∨ m ∈ y1.1.weights Tryz.prog 24 ∨ m ∈ y2.1.weights Tryz.prog 24 ∨ m ∈ y3.1.weights Tryz.prog 24)→m≤reachBytes:=fun m hm=>hs m (by
  simp only [DataW.weights,Tryz.underlying53,DataW.weightsEach,List.map,List.append_nil,List.mem_append]
  exact hm)
 obtain ⟨r0,d0,o0,p0,I,rfl,rfl,rfl,g0,l0,u0,v0⟩:=open_mx3 (c0:=c0) (c1:=c1) (c2:=c2) h0 (fun m hm=>wt m (.inl hm))
 obtain ⟨r1,d1,o1,p1,J,rfl,rfl,rfl,g1,l1,u1,v1⟩:=open_mx3 (c0:=c3) (c1:=c4) (c2:=c5) h1 (fun m hm=>wt m (.inr (.inl hm)))
 obtain ⟨r2,d2,o2,p2,K,rfl,rfl,rfl,g2,l2,u2,v2⟩:=open_mx3 (c0:=c6) (c1:=c7) (c2:=c8) h2 (fun m hm=>wt m (.inr (.inr (.inl hm))))
 obtain ⟨r3,d3,o3,p3,L,rfl,rfl,rfl,g3,l3,u3,v3⟩:=open_mx3 (c0:=c9) (c1:=c10) (c2:=c11) h3 (fun m hm=>wt m (.inr (.inr (.inr hm))))
 exact ⟨⟨r0,d0,o0,I.length,p0⟩,⟨r1,d1,o1,J.length,p1⟩,⟨r2,d2,o2,K.length,p2⟩,⟨r3,d3,o3,L.length,p3⟩,I,J,K,L,rfl,⟨rfl,g0,l0,u0,v0⟩,⟨rfl,g1,l1,u1,v1⟩,⟨rfl,g2,l2,u2,v2⟩,⟨rfl,g3,l3,u3,v3⟩⟩
end Go.Proofs.YtcbcmlaogehimaaGreatDoor
namespace Go.Proofs.YtcbcmlaogehimaaGreatDoor
open Go.RowKit
attribute [local go_sem ↓] Go.wp_at_zero Go.wp_at_succ
theorem task_any (a b c d:Ma) (w:World) :
  Calls Tryz.prog 36 #[.agg #[.int .i64 a.r,.int .i64 a.c,.slice a.o a.n a.k,.int .i64 b.r,.int .i64 b.c,.slice b.o b.n b.k,.int .i64 c.r,.int .i64 c.c,.slice c.o c.n c.k,.int .i64 d.r,.int .i64 d.c,.slice d.o d.n d.k]] w fun e w'=>e = .returned (.agg #[.int .i64 a.r,.int .i64 a.c,.slice a.o a.n a.k,.int .i64 b.r,.int .i64 b.c,.slice b.o b.n b.k,.int .i64 c.r,.int .i64 c.c,.slice c.o c.n c.k,.int .i64 d.r,.int .i64 d.c,.slice d.o d.n d.k])∧Below w.heap.size w w':=by
 have ba:=below_alloc9 w (.cells #[.int .i64 a.r,.int .i64 a.c,.slice a.o a.n a.k,.int .i64 b.r,.int .i64 b.c,.slice b.o b.n b.k,.int .i64 c.r,.int .i64 c.c,.slice c.o c.n c.k,.int .i64 d.r,.int .i64 d.c,.slice d.o d.n d.k] 53)
 have sa:=size_alloc9 w (.cells #[.int .i64 a.r,.int .i64 a.c,.slice a.o a.n a.k,.int .i64 b.r,.int .i64 b.c,.slice b.o b.n b.k,.int .i64 c.r,.int .i64 c.c,.slice c.o c.n c.k,.int .i64 d.r,.int .i64 d.c,.slice d.o d.n d.k] 53)
 have x0:=BoxL.new 53 w [.int .i64 a.r,.int .i64 a.c,.slice a.o a.n a.k,.int .i64 b.r,.int .i64 b.c,.slice b.o b.n b.k,.int .i64 c.r,.int .i64 c.c,.slice c.o c.n c.k,.int .i64 d.r,.int .i64 d.c,.slice d.o d.n d.k]
 have bz:=below_alloc9 (w.alloc (.cells #[.int .i64 a.r,.int .i64 a.c,.slice a.o a.n a.k,.int .i64 b.r,.int .i64 b.c,.slice b.o b.n b.k,.int .i64 c.r,.int .i64 c.c,.slice c.o c.n c.k,.int .i64 d.r,.int .i64 d.c,.slice d.o d.n d.k] 53)) (.cells #[.int .i64 0,.int .i64 0,.slice none 0 0,.int .i64 0,.int .i64 0,.slice none 0 0,.int .i64 0,.int .i64 0,.slice none 0 0,.int .i64 0,.int .i64 0,.slice none 0 0] 56)
 have bb:=below_alloc9 (w.alloc (.cells #[.int .i64 a.r,.int .i64 a.c,.slice a.o a.n a.k,.int .i64 b.r,.int .i64 b.c,.slice b.o b.n b.k,.int .i64 c.r,.int .i64 c.c,.slice c.o c.n c.k,.int .i64 d.r,.int .i64 d.c,.slice d.o d.n d.k] 53)) (.cells #[.int .i64 a.r,.int .i64 a.c,.slice a.o a.n a.k,.int .i64 b.r,.int .i64 b.c,.slice b.o b.n b.k,.int .i64 c.r,.int .i64 c.c,.slice c.o c.n c.k,.int .i64 d.r,.int .i64 d.c,.slice d.o d.n d.k] 56)
 have x1:=BoxL.new 56 (w.alloc (.cells #[.int .i64 a.r,.int .i64 a.c,.slice a.o a.n a.k,.int .i64 b.r,.int .i64 b.c,.slice b.o b.n b.k,.int .i64 c.r,.int .i64 c.c,.slice c.o c.n c.k,.int .i64 d.r,.int .i64 d.c,.slice d.o d.n d.k] 53)) [.int .i64 a.r,.int .i64 a.c,.slice a.o a.n a.k,.int .i64 b.r,.int .i64 b.c,.slice b.o b.n b.k,.int .i64 c.r,.int .i64 c.c,.slice c.o c.n c.k,.int .i64 d.r,.int .i64 d.c,.slice d.o d.n d.k]
 rw [sa] at x1
 have BF:=hide (ba.trans (bb.mono ba.size));have HX:=hide (x0.all bz);have HP:=hide x1
 clear ba sa x0 bb bz x1
 go_enter Tryz.func36,Tryz.ntmps36
 have y0:=(uH HX).c 0 rfl
 have y1:=(uH HX).c 1 rfl
 have y2:=(uH HX).c 2 rfl
 have y3:=(uH HX).c 3 rfl
 have y4:=(uH HX).c 4 rfl
 have y5:=(uH HX).c 5 rfl
 have y6:=(uH HX).c 6 rfl
 have y7:=(uH HX).c 7 rfl
 have y8:=(uH HX).c 8 rfl
 have y9:=(uH HX).c 9 rfl
 have y10:=(uH HX).c 10 rfl
 have y11:=(uH HX).c 11 rfl
 have z0:=(uH HP).c 0 rfl
 have z1:=(uH HP).c 1 rfl
 have z2:=(uH HP).c 2 rfl
 have z3:=(uH HP).c 3 rfl
 have z4:=(uH HP).c 4 rfl
 have z5:=(uH HP).c 5 rfl
 have z6:=(uH HP).c 6 rfl
 have z7:=(uH HP).c 7 rfl
 have z8:=(uH HP).c 8 rfl
 have z9:=(uH HP).c 9 rfl
 have z10:=(uH HP).c 10 rfl
 have z11:=(uH HP).c 11 rfl
 clear HX HP
 go_wp2_with fail
 exact bodyPost_ret (v:=.agg #[.int .i64 a.r,.int .i64 a.c,.slice a.o a.n a.k,.int .i64 b.r,.int .i64 b.c,.slice b.o b.n b.k,.int .i64 c.r,.int .i64 c.c,.slice c.o c.n c.k,.int .i64 d.r,.int .i64 d.c,.slice d.o d.n d.k]) (by simp [results,Tryz.results36,go_sem,z0,z1,z2,z3,z4,z5,z6,z7,z8,z9,z10,z11]) rfl ⟨rfl,uH BF⟩
theorem one20_any (x:Nat) (w:World) (hx:x < 18446744073709551616) :
  Calls Tryz.prog 71 #[.int .u64 (x:Nat)] w fun e w'=>(∃ ao,e = .returned (.agg #[.int .i64 1,.int .i64 1,.slice ao 1 1])∧BitsAt w' ao 1 (mxL [x]))∧Below w.heap.size w w':=by
 have ba:=below_alloc9 w (.cells #[.int .i64 1,.int .i64 1,.slice (some ⟨w.heap.size+1,0,none⟩) 1 1] 24)
 have sa:=size_alloc9 w (.cells #[.int .i64 1,.int .i64 1,.slice (some ⟨w.heap.size+1,0,none⟩) 1 1] 24)
 have x0:=BoxM.new w (.int .i64 1) (.int .i64 1) (.slice (some ⟨w.heap.size+1,0,none⟩) 1 1)
 have bb:=below_alloc9 (w.alloc (.cells #[.int .i64 1,.int .i64 1,.slice (some ⟨w.heap.size+1,0,none⟩) 1 1] 24)) (.cells #[.int .u64 ((x:Nat):Int)] 69)
 have q1:=one_bits17 (w.alloc (.cells #[.int .i64 1,.int .i64 1,.slice (some ⟨w.heap.size+1,0,none⟩) 1 1] 24)) x hx
 rw [sa] at q1
 have z0:=(x0.all bb).c0;have z1:=(x0.all bb).c1;have z2:=(x0.all bb).c2
 have BP:=hide (ba.trans (bb.mono ba.size));have L2:=hide q1
 clear ba sa x0 bb q1
 go_enter Tryz.func71,Tryz.ntmps71
 go_wp2_with fail
 exact bodyPost_ret (v:=.agg #[.int .i64 1,.int .i64 1,.slice (some ⟨w.heap.size+1,0,none⟩) 1 1]) (by simp [results,Tryz.results71,go_sem,z0,z1,z2]) rfl ⟨⟨_,rfl,uH L2⟩,uH BP⟩
theorem awake20_of (w:World)
  (C1:∀ w' x,Below w.heap.size w w'→x < 18446744073709551616→Calls Tryz.prog 71 #[.int .u64 (x:Nat)] w' fun e w''=>(∃ ao,e = .returned (.agg #[.int .i64 1,.int .i64 1,.slice ao 1 1])∧BitsAt w'' ao 1 (mxL [x]))∧Below w'.heap.size w' w'')
  (C2:∀ w' ao bo co do',Below w.heap.size w w'→BitsAt w' ao 1 (mxL [4607182418800017408])→BitsAt w' bo 1 (mxL [4607182418800017408])→BitsAt w' co 1 (mxL [0])→BitsAt w' do' 1 (mxL [4613937818241073152])→Calls Tryz.prog 39 #[.agg #[.int .i64 1,.int .i64 1,.slice ao 1 1,.int .i64 1,.int .i64 1,.slice bo 1 1,.int .i64 1,.int .i64 1,.slice co 1 1,.int .i64 1,.int .i64 1,.slice do' 1 1]] w' fun e w''=>(∃ xo xc,e = .returned (.tuple #[.agg #[.int .i64 1,.int .i64 1,.slice xo 1 xc],.int .i64 0])∧BitsAt w'' xo xc (mxL [4613937818241073152]))∧Below w'.heap.size w' w'') :
  Calls Tryz.prog 37 #[] w fun e w'=>e = .returned (.bool true)∧Below w.heap.size w w':=by
 have K1:=hide C1;have K2:=hide C2
 clear C1 C2
 have BB:=hide (Below.refl w.heap.size w)
 go_enter Tryz.func37,Tryz.ntmps37
 go_wp2_with fail
 refine (uH K1 _ 4607182418800017408 (uH BB) (by decide)).mono ?_
 rintro e w1 ⟨⟨ao,rfl,gga⟩,hb⟩
 replace BB:=hide ((uH BB).trans (hb.mono (uH BB).size))
 have Ta:=hide gga
 clear hb gga
 go_wp2_with fail
 refine (uH K1 _ 4607182418800017408 (uH BB) (by decide)).mono ?_
 rintro e w2 ⟨⟨bo,rfl,ggb⟩,hb⟩
 replace BB:=hide ((uH BB).trans (hb.mono (uH BB).size))
 replace Ta:=hide ((uH Ta).below hb)
 have Tb:=hide ggb
 clear hb ggb
 go_wp2_with fail
 refine (uH K1 _ 0 (uH BB) (by decide)).mono ?_
 rintro e w3 ⟨⟨co,rfl,ggc⟩,hb⟩
 replace BB:=hide ((uH BB).trans (hb.mono (uH BB).size))
 replace Ta:=hide ((uH Ta).below hb)
 replace Tb:=hide ((uH Tb).below hb)
 have Tc:=hide ggc
 clear hb ggc
 go_wp2_with fail
 refine (uH K1 _ 4613937818241073152 (uH BB) (by decide)).mono ?_
 rintro e w4 ⟨⟨do',rfl,ggd⟩,hb⟩
 replace BB:=hide ((uH BB).trans (hb.mono (uH BB).size))
 replace Ta:=hide ((uH Ta).below hb)
 replace Tb:=hide ((uH Tb).below hb)
 replace Tc:=hide ((uH Tc).below hb)
 have Td:=hide ggd
 clear hb ggd
 go_wp2_with fail
 refine (uH K2 _ _ _ _ _ (uH BB) (uH Ta) (uH Tb) (uH Tc) (uH Td)).mono ?_
 rintro e w5 ⟨⟨xo,xc,rfl,bv⟩,hb⟩
 obtain ⟨b,off,rfl,_,c0⟩:=bits_cell bv (k:=0) (by decide)
 rw [Nat.add_zero] at c0
 replace c0:w5.cell? ⟨b,off,none⟩ = some (.int .u64 4613937818241073152):=c0
 replace BB:=hide ((uH BB).trans (hb.mono (uH BB).size))
 clear hb K1 K2 Ta Tb Tc Td bv
 have ba:=below_alloc9 w5 (.cells #[.int .i64 1,.int .i64 1,.slice (some ⟨b,off,none⟩) 1 xc] 24)
 have c1:=cell_keep c0 ba
 have BC:=hide ((uH BB).trans (ba.mono (uH BB).size))
 clear ba BB
 go_wp2_with fail
 go_ret
 exact ⟨rfl,uH BC⟩
theorem a20_k:facK 1 1 [4607182418800017408] = true:=by decide +kernel
theorem a20_u:tuM 1 1 [4607182418800017408] = [4607182418800017408]:=by decide +kernel
theorem a20_q:lsQ 1 1 [4607182418800017408] = [4607182418800017408]:=by unfold lsQ;rw [a20_u];decide +kernel
theorem a20_r:facR 1 1 [4607182418800017408] = [4607182418800017408]:=by decide +kernel
theorem a20_s:lsS 1 1 [4607182418800017408] = [4607182418800017408]:=by unfold lsS lsT;rw [a20_u,a20_r];decide +kernel
theorem a20_y:lsY 1 1 [4607182418800017408] [4613937818241073152] = [4613937818241073152]:=by unfold lsY;rw [a20_s];decide +kernel
theorem a20_b:lsB 1 1 [4607182418800017408] [4613937818241073152] = 0:=by unfold lsB;rw [a20_u,a20_k,a20_s,a20_y];decide +kernel
theorem a20_h:lsH 1 1 1 [4607182418800017408] [4607182418800017408] = [4607182418800017408]:=by unfold lsH;rw [a20_q];decide +kernel
theorem a20_i:lsI 1 1 1 [4607182418800017408] [4607182418800017408] = [4607182418800017408]:=by unfold lsI;rw [a20_h];decide +kernel
theorem a20_j:lsJ 1 1 1 [4607182418800017408] [4607182418800017408] = []:=by unfold lsJ;rw [a20_h];decide +kernel
theorem a20_f:lsF 1 1 1 [4607182418800017408] [4607182418800017408] [0] [4613937818241073152] = [13837309855095848960]:=by unfold lsF;rw [a20_i,a20_y];decide +kernel
theorem a20_o:lsO 1 1 1 [4607182418800017408] [4607182418800017408] [0] [4613937818241073152] = 0:=by unfold lsO;rw [a20_h,a20_f,a20_j];decide +kernel
theorem a20_z:lsZ 1 1 1 [4607182418800017408] [4607182418800017408] [0] [4613937818241073152] = []:=List.eq_nil_of_length_eq_zero (lsZ_len _ _ _ _ _ _ _)
theorem a20_x:lsX 1 1 1 [4607182418800017408] [4607182418800017408] [0] [4613937818241073152] = [4613937818241073152]:=by unfold lsX;rw [a20_q,a20_y,a20_z];decide +kernel
theorem a20_v:lsV 1 1 1 [4607182418800017408] [4607182418800017408] [0] [4613937818241073152] = 0:=by unfold lsV;rw [a20_b,a20_o,a20_x];decide +kernel
theorem MaAt.below {w w':World} {a:Ma} {I:List Int} (h:MaAt w a I) (hb:Below w.heap.size w w'):MaAt w' a I:=⟨h.n,h.at_.below hb,h.le,h.r,h.c⟩
theorem MaAt.range {w:World} {a:Ma} {I:List Int} (h:MaAt w a I) (he:ckE a.r a.c I = 0):0≤a.r∧a.r≤6∧0≤a.c∧a.c≤6:=by
 obtain ⟨p,q,e1,e2,hM,_⟩:=Mx.asked h.at_ he
 have:=hM.2.2.1;have:=hM.2.2.2
 omega
theorem lck_any (a b c d:Ma) (I J K L:List Int) (w:World) (h:MaAt w a I∧MaAt w b J∧MaAt w c K∧MaAt w d L) :
  Calls Tryz.prog 34 #[.agg #[.int .i64 a.r,.int .i64 a.c,.slice a.o a.n a.k,.int .i64 b.r,.int .i64 b.c,.slice b.o b.n b.k,.int .i64 c.r,.int .i64 c.c,.slice c.o c.n c.k,.int .i64 d.r,.int .i64 d.c,.slice d.o d.n d.k]] w fun e w'=>e = .returned (.int .i64 (lsE (ckE a.r a.c I) (ckE b.r b.c J) (ckE c.r c.c K) (ckE d.r d.c L) (tgB a b c d)))∧Below w.heap.size w w':=by
 have C:∀ (x:Ma) (X:List Int),MaAt w x X→∀ w',Below w.heap.size w w'→Calls Tryz.prog 63 #[.agg #[.int .i64 x.r,.int .i64 x.c,.slice x.o x.n x.k]] w' fun e w''=>e = .returned (.int .i64 (ckE x.r x.c X))∧Below w'.heap.size w' w'':=fun x X hX w' hb=>by
  rw [hX.n]
  exact ccheck_any x.r x.c x.o x.k X w' (hX.at_.below hb) (by have:=hX.le;omega)
 refine lck_of a b c d _ _ _ _ _ w (C a I h.1) (C b J h.2.1) (C c K h.2.2.1) (C d L h.2.2.2) (fun ha hb w' hw=>?_)
 have r1:=h.1.range ha;have r2:=h.2.1.range hb
 exact goTo_any a b c d w' ⟨r1.1,r1.2.1⟩ ⟨r2.1,r2.2.1⟩
theorem rck20_any (a b c d:Ma) (I J K L:List Int) (w:World) (h:MaAt w a I∧MaAt w b J∧MaAt w c K∧MaAt w d L) :
  Calls Tryz.prog 35 #[.agg #[.int .i64 a.r,.int .i64 a.c,.slice a.o a.n a.k,.int .i64 b.r,.int .i64 b.c,.slice b.o b.n b.k,.int .i64 c.r,.int .i64 c.c,.slice c.o c.n c.k,.int .i64 d.r,.int .i64 d.c,.slice d.o d.n d.k]] w fun e w'=>e = .returned (.int .i64 (lsE (ckE a.r a.c I) (ckE b.r b.c J) (ckE c.r c.c K) (ckE d.r d.c L) (tgB a b c d)))∧Below w.heap.size w w':=by
 have C:∀ (x:Ma) (X:List Int),MaAt w x X→∀ w',Below w.heap.size w w'→Calls Tryz.prog 16 #[.agg #[.int .i64 x.r,.int .i64 x.c,.slice x.o x.n x.k]] w' fun e w''=>e = .returned (.int .i64 (ckE x.r x.c X))∧Below w'.heap.size w' w'':=fun x X hX w' hb=>by
  rw [hX.n]
  exact r11check_any x.r x.c x.o x.k X w' (hX.at_.below hb) (by have:=hX.le;omega)
 refine rck20_of a b c d _ _ _ _ w (fun ha hb=>?_) (C a I h.1) (C b J h.2.1) (C c K h.2.2.1) (C d L h.2.2.2)
 have r1:=h.1.range ha;have r2:=h.2.1.range hb
 exact ⟨⟨r1.1,r1.2.1⟩,r2.1,r2.2.1⟩
theorem awake20_any (w:World) (hT:Tab w) :
  Calls Tryz.prog 37 #[] w fun e w'=>e = .returned (.bool true)∧Below w.heap.size w w':=by
 refine awake20_of w (fun w' x hb hx=>one20_any x w' hx) (fun w' ao bo co eo hb ha hB hc hd=>?_)
 have one1:(-9223372036854775808:Int)≤1∧(1:Int)≤9223372036854775807:=by decide
 have C:=fun w'' (hb2:Below w'.heap.size w' w'')=>lck_any ⟨1,1,ao,1,1⟩ ⟨1,1,bo,1,1⟩ ⟨1,1,co,1,1⟩ ⟨1,1,eo,1,1⟩ (mxL [4607182418800017408]) (mxL [4607182418800017408]) (mxL [0]) (mxL [4613937818241073152]) w'' ⟨⟨rfl,ha.below hb2,by decide,one1,one1⟩,⟨rfl,hB.below hb2,by decide,one1,one1⟩,⟨rfl,hc.below hb2,by decide,one1,one1⟩,⟨rfl,hd.below hb2,by decide,one1,one1⟩⟩
 have e0:lsE (ckE 1 1 (mxL [4607182418800017408])) (ckE 1 1 (mxL [4607182418800017408])) (ckE 1 1 (mxL [0])) (ckE 1 1 (mxL [4613937818241073152])) (tgB ⟨1,1,ao,1,1⟩ ⟨1,1,bo,1,1⟩ ⟨1,1,co,1,1⟩ ⟨1,1,eo,1,1⟩) = 0:=by
  rw [show ckE 1 1 (mxL [4607182418800017408]) = 0 by decide +kernel,show ckE 1 1 (mxL [0]) = 0 by decide +kernel,show ckE 1 1 (mxL [4613937818241073152]) = 0 by decide +kernel]
  unfold lsE tgB
  simp
 have hs:=lsolve_any 1 1 1 1 1 1 1 ao bo co eo [4607182418800017408] [4607182418800017408] [0] [4613937818241073152] w' ⟨ha,rfl,by decide,by decide⟩ ⟨hB,rfl,by decide,by decide⟩ ⟨hc,rfl,by decide,by decide⟩ ⟨hd,rfl,by decide,by decide⟩ (by decide +kernel) (by decide +kernel) (Nat.le_refl 1) (by decide) (hT.all hb) (fun w'' hb2=>by
  have:=C w'' hb2
  dsimp only at this
  rw [e0] at this
  exact this)
 rw [a20_v,a20_x] at hs
 refine hs.mono ?_
 rintro e w'' ⟨⟨_,xo,xc,rfl,hx⟩ | ⟨h0,_⟩,hb2⟩
 ·exact ⟨⟨xo,xc,rfl,hx⟩,hb2⟩
 ·exact absurd rfl h0
theorem lseChecks_of (a b c d:Ma) (E:Int) (w:World)
  (C1:∀ w',Below w.heap.size w w'→Calls Tryz.prog 34 #[.agg #[.int .i64 a.r,.int .i64 a.c,.slice a.o a.n a.k,.int .i64 b.r,.int .i64 b.c,.slice b.o b.n b.k,.int .i64 c.r,.int .i64 c.c,.slice c.o c.n c.k,.int .i64 d.r,.int .i64 d.c,.slice d.o d.n d.k]] w' fun e w''=>e = .returned (.int .i64 E)∧Below w'.heap.size w' w'')
  (C2:∀ w',Below w.heap.size w w'→Calls Tryz.prog 36 #[.agg #[.int .i64 a.r,.int .i64 a.c,.slice a.o a.n a.k,.int .i64 b.r,.int .i64 b.c,.slice b.o b.n b.k,.int .i64 c.r,.int .i64 c.c,.slice c.o c.n c.k,.int .i64 d.r,.int .i64 d.c,.slice d.o d.n d.k]] w' fun e w''=>e = .returned (.agg #[.int .i64 a.r,.int .i64 a.c,.slice a.o a.n a.k,.int .i64 b.r,.int .i64 b.c,.slice b.o b.n b.k,.int .i64 c.r,.int .i64 c.c,.slice c.o c.n c.k,.int .i64 d.r,.int .i64 d.c,.slice d.o d.n d.k])∧Below w'.heap.size w' w'')
  (C3:∀ w',Below w.heap.size w w'→Calls Tryz.prog 35 #[.agg #[.int .i64 a.r,.int .i64 a.c,.slice a.o a.n a.k,.int .i64 b.r,.int .i64 b.c,.slice b.o b.n b.k,.int .i64 c.r,.int .i64 c.c,.slice c.o c.n c.k,.int .i64 d.r,.int .i64 d.c,.slice d.o d.n d.k]] w' fun e w''=>e = .returned (.int .i64 E)∧Below w'.heap.size w' w'')
  (CA:∀ w',Below w.heap.size w w'→Calls Tryz.prog 37 #[] w' fun e w''=>e = .returned (.bool true)∧Below w'.heap.size w' w'') :
  Calls Tryz.prog 7 #[.agg #[.int .i64 a.r,.int .i64 a.c,.slice a.o a.n a.k,.int .i64 b.r,.int .i64 b.c,.slice b.o b.n b.k,.int .i64 c.r,.int .i64 c.c,.slice c.o c.n c.k,.int .i64 d.r,.int .i64 d.c,.slice d.o d.n d.k]] w fun e w'=>e = .returned (.bool true)∧Below w.heap.size w w':=by
 have b0:=below_alloc9 w (.cells #[.int .i64 a.r,.int .i64 a.c,.slice a.o a.n a.k,.int .i64 b.r,.int .i64 b.c,.slice b.o b.n b.k,.int .i64 c.r,.int .i64 c.c,.slice c.o c.n c.k,.int .i64 d.r,.int .i64 d.c,.slice d.o d.n d.k] 53)
 have HX:=hide (BoxL.new 53 w [.int .i64 a.r,.int .i64 a.c,.slice a.o a.n a.k,.int .i64 b.r,.int .i64 b.c,.slice b.o b.n b.k,.int .i64 c.r,.int .i64 c.c,.slice c.o c.n c.k,.int .i64 d.r,.int .i64 d.c,.slice d.o d.n d.k])
 have HB:=hide b0
 have K1:=hide C1;have K2:=hide C2;have K3:=hide C3;have KA:=hide CA
 clear b0 C1 C2 C3 CA
 go_enter Tryz.func7,Tryz.ntmps7
 go_wp2_with fail
 generalize w.alloc (.cells #[.int .i64 a.r,.int .i64 a.c,.slice a.o a.n a.k,.int .i64 b.r,.int .i64 b.c,.slice b.o b.n b.k,.int .i64 c.r,.int .i64 c.c,.slice c.o c.n c.k,.int .i64 d.r,.int .i64 d.c,.slice d.o d.n d.k] 53) = w1 at *
 have hd:=(Below.refl w1.heap.size w1).drew
 replace HX:=hide ((uH HX).all hd)
 replace HB:=hide ((uH HB).trans (hd.mono (uH HB).size))
 clear hd
 refine wp_region_held_drew (S:=(fun w'=>w'.cell? ⟨w.heap.size,0,none⟩ = some (.int .i64 a.r)∧w'.cell? ⟨w.heap.size,1,none⟩ = some (.int .i64 a.c)∧w'.cell? ⟨w.heap.size,2,none⟩ = some (.slice a.o a.n a.k)∧w'.cell? ⟨w.heap.size,3,none⟩ = some (.int .i64 b.r)∧w'.cell? ⟨w.heap.size,4,none⟩ = some (.int .i64 b.c)∧w'.cell? ⟨w.heap.size,5,none⟩ = some (.slice b.o b.n b.k)∧w'.cell? ⟨w.heap.size,6,none⟩ = some (.int .i64 c.r)∧w'.cell? ⟨w.heap.size,7,none⟩ = some (.int .i64 c.c)∧w'.cell? ⟨w.heap.size,8,none⟩ = some (.slice c.o c.n c.k)∧w'.cell? ⟨w.heap.size,9,none⟩ = some (.int .i64 d.r)∧w'.cell? ⟨w.heap.size,10,none⟩ = some (.int .i64 d.c)∧w'.cell? ⟨w.heap.size,11,none⟩ = some (.slice d.o d.n d.k))) (by kernel_rfl) ?_ (fun hHeld=>?_)
 ·exact ⟨(uH HX).c 0 rfl,(uH HX).c 1 rfl,(uH HX).c 2 rfl,(uH HX).c 3 rfl,(uH HX).c 4 rfl,(uH HX).c 5 rfl,(uH HX).c 6 rfl,(uH HX).c 7 rfl,(uH HX).c 8 rfl,(uH HX).c 9 rfl,(uH HX).c 10 rfl,(uH HX).c 11 rfl⟩
 refine wpAnyH_take (i:=0) (oi:={ dst:=some 3,op:=Op.load 53 (Operand.tmp 1),type:=53,pos := "law.go:28",after:=#[],guard:=none }) (v:=(Value.agg #[.int .i64 a.r,.int .i64 a.c,.slice a.o a.n a.k,.int .i64 b.r,.int .i64 b.c,.slice b.o b.n b.k,.int .i64 c.r,.int .i64 c.c,.slice c.o c.n c.k,.int .i64 d.r,.int .i64 d.c,.slice d.o d.n d.k])) rfl (by kernel_rfl) (by kernel_rfl) (by kernel_rfl) (fun _ _ _ h=>h) (Or.inl ⟨by rfl,?_⟩) (by assumption) ?_
 ·(intro w hSw;(try dsimp only at hSw);go_simp)
 simp only [Act.put,List.setIfInBounds_toArray,List.set_cons_zero,List.set_cons_succ]
 refine wpAnyH_take (i:=2) (oi:={ dst:=some 5,op:=Op.load 53 (Operand.tmp 1),type:=53,pos := "law.go:28",after:=#[],guard:=none }) (v:=(Value.agg #[.int .i64 a.r,.int .i64 a.c,.slice a.o a.n a.k,.int .i64 b.r,.int .i64 b.c,.slice b.o b.n b.k,.int .i64 c.r,.int .i64 c.c,.slice c.o c.n c.k,.int .i64 d.r,.int .i64 d.c,.slice d.o d.n d.k])) rfl (by kernel_rfl) (by kernel_rfl) (by kernel_rfl) (fun _ _ _ h=>h) (Or.inl ⟨by rfl,?_⟩) (by assumption) ?_
 ·(intro w hSw;(try dsimp only at hSw);go_simp)
 simp only [Act.put,List.setIfInBounds_toArray,List.set_cons_zero,List.set_cons_succ]
 refine wpAnyH_ready (rs:=[1]) (by kernel_rfl) (by simp) ?_
 refine AllReadyH.cons (o:={ dst:=some 4,op:=Op.call { callee:=Callee.value (Operand.func 34),args:=#[Operand.tmp 3],argTypes:=#[53] },type:=27,pos := "law.go:28",after:=#[{ on:=0,ground:=Ground.data }],guard:=none }) rfl (fun K hK=>?_) AllReadyH.nil
 go_simp
 refine (uH K1 _ (uH HB)).mono ?_
 rintro e w2 ⟨rfl,hb⟩
 replace HX:=hide ((uH HX).all hb)
 replace HB:=hide ((uH HB).trans (hb.mono (uH HB).size))
 clear hb
 go_wp2_with fail
 refine hK.out _ _ ?_ (fun hHeld=>?_)
 ·exact ⟨(uH HX).c 0 rfl,(uH HX).c 1 rfl,(uH HX).c 2 rfl,(uH HX).c 3 rfl,(uH HX).c 4 rfl,(uH HX).c 5 rfl,(uH HX).c 6 rfl,(uH HX).c 7 rfl,(uH HX).c 8 rfl,(uH HX).c 9 rfl,(uH HX).c 10 rfl,(uH HX).c 11 rfl⟩
 clear hK K
 refine wpAnyH_ready (rs:=[3]) (by kernel_rfl) (by simp) ?_
 refine AllReadyH.cons (o:={ dst:=some 6,op:=Op.call { callee:=Callee.value (Operand.func 36),args:=#[Operand.tmp 5],argTypes:=#[53] },type:=56,pos := "law.go:28",after:=#[{ on:=2,ground:=Ground.data },{ on:=1,ground:=Ground.chain }],guard:=none }) rfl (fun K hK=>?_) AllReadyH.nil
 go_simp
 refine (uH K2 _ (uH HB)).mono ?_
 rintro e w3 ⟨rfl,hb⟩
 replace HX:=hide ((uH HX).all hb)
 replace HB:=hide ((uH HB).trans (hb.mono (uH HB).size))
 clear hb
 go_wp2_with fail
 refine hK.out _ _ ?_ (fun hHeld=>?_)
 ·exact ⟨(uH HX).c 0 rfl,(uH HX).c 1 rfl,(uH HX).c 2 rfl,(uH HX).c 3 rfl,(uH HX).c 4 rfl,(uH HX).c 5 rfl,(uH HX).c 6 rfl,(uH HX).c 7 rfl,(uH HX).c 8 rfl,(uH HX).c 9 rfl,(uH HX).c 10 rfl,(uH HX).c 11 rfl⟩
 clear hK K
 refine wpAnyH_ready (rs:=[4]) (by kernel_rfl) (by simp) ?_
 refine AllReadyH.cons (o:={ dst:=some 7,op:=Op.call { callee:=Callee.value (Operand.func 35),args:=#[Operand.tmp 6],argTypes:=#[56] },type:=27,pos := "law.go:28",after:=#[{ on:=3,ground:=Ground.data },{ on:=3,ground:=Ground.chain }],guard:=none }) rfl (fun K hK=>?_) AllReadyH.nil
 go_simp
 refine (uH K3 _ (uH HB)).mono ?_
 rintro e w4 ⟨rfl,hb⟩
 replace HX:=hide ((uH HX).all hb)
 replace HB:=hide ((uH HB).trans (hb.mono (uH HB).size))
 clear hb
 go_wp2_with fail
 refine hK.out _ _ ?_ (fun hHeld=>?_)
 ·exact ⟨(uH HX).c 0 rfl,(uH HX).c 1 rfl,(uH HX).c 2 rfl,(uH HX).c 3 rfl,(uH HX).c 4 rfl,(uH HX).c 5 rfl,(uH HX).c 6 rfl,(uH HX).c 7 rfl,(uH HX).c 8 rfl,(uH HX).c 9 rfl,(uH HX).c 10 rfl,(uH HX).c 11 rfl⟩
 clear hK K
 refine wpAnyH_take (i:=5) (oi:={ dst:=some 8,op:=Op.binOp BinOp.eql 27 (Operand.tmp 4) (Operand.tmp 7) 27,type:=4,pos := "law.go:28",after:=#[{ on:=1,ground:=Ground.data },{ on:=4,ground:=Ground.data }],guard:=none }) (v:=(Value.bool true)) rfl (by kernel_rfl) (by kernel_rfl) (by kernel_rfl) (fun _ _ _ h=>h) (Or.inl ⟨by rfl,?_⟩) (by assumption) ?_
 ·(intro w hSw;(try dsimp only at hSw);go_simp)
 simp only [Act.put,List.setIfInBounds_toArray,List.set_cons_zero,List.set_cons_succ]
 refine wpAnyH_take (i:=6) (oi:={ dst:=some 9,op:=Op.move (Operand.tmp 8),type:=4,pos := "law.go:28",after:=#[{ on:=5,ground:=Ground.data },{ on:=4,ground:=Ground.chain }],guard:=none }) (v:=(Value.bool true)) rfl (by kernel_rfl) (by kernel_rfl) (by kernel_rfl) (fun _ _ _ h=>h) (Or.inl ⟨by rfl,?_⟩) (by assumption) ?_
 ·(intro w hSw;(try dsimp only at hSw);go_simp)
 simp only [Act.put,List.setIfInBounds_toArray,List.set_cons_zero,List.set_cons_succ]
 refine wpAnyH_ready (rs:=[7]) (by kernel_rfl) (by simp) ?_
 refine AllReadyH.cons (o:={ dst:=some 10,op:=Op.call { callee:=Callee.value (Operand.func 37),args:=#[],argTypes:=#[] },type:=4,pos := "law.go:28",after:=#[{ on:=6,ground:=Ground.chain },{ on:=6,ground:=Ground.guard }],guard:=some (6,true) }) rfl (fun K hK=>?_) AllReadyH.nil
 go_simp
 refine (uH KA _ (uH HB)).mono ?_
 rintro e w5 ⟨rfl,hb⟩
 replace HX:=hide ((uH HX).all hb)
 replace HB:=hide ((uH HB).trans (hb.mono (uH HB).size))
 clear hb
 go_wp2_with fail
 refine hK.out _ _ ?_ (fun hHeld=>?_)
 ·exact ⟨(uH HX).c 0 rfl,(uH HX).c 1 rfl,(uH HX).c 2 rfl,(uH HX).c 3 rfl,(uH HX).c 4 rfl,(uH HX).c 5 rfl,(uH HX).c 6 rfl,(uH HX).c 7 rfl,(uH HX).c 8 rfl,(uH HX).c 9 rfl,(uH HX).c 10 rfl,(uH HX).c 11 rfl⟩
 clear hK K
 refine wpAnyH_take (i:=8) (oi:={ dst:=some 11,op:=Op.pick (Operand.tmp 9) (Operand.tmp 10) (Operand.const (Value.bool false)),type:=4,pos := "law.go:28",after:=#[{ on:=6,ground:=Ground.data },{ on:=7,ground:=Ground.data }],guard:=none }) (v:=(Value.bool true)) rfl (by kernel_rfl) (by kernel_rfl) (by kernel_rfl) (fun _ _ _ h=>h) (Or.inl ⟨by rfl,?_⟩) (by assumption) ?_
 ·(intro w hSw;(try dsimp only at hSw);go_simp)
 simp only [Act.put,List.setIfInBounds_toArray,List.set_cons_zero,List.set_cons_succ]
 refine wpAnyH_take (i:=9) (oi:={ dst:=some 2,op:=Op.assign (Operand.tmp 11),type:=4,pos := "law.go:28",after:=#[{ on:=8,ground:=Ground.data },{ on:=7,ground:=Ground.chain },{ on:=0,ground:=Ground.phase },{ on:=1,ground:=Ground.phase },{ on:=2,ground:=Ground.phase },{ on:=3,ground:=Ground.phase },{ on:=4,ground:=Ground.phase },{ on:=5,ground:=Ground.phase },{ on:=6,ground:=Ground.phase },{ on:=7,ground:=Ground.phase },{ on:=8,ground:=Ground.phase }],guard:=none }) (v:=(Value.bool true)) rfl (by kernel_rfl) (by kernel_rfl) (by kernel_rfl) (fun _ _ _ h=>h) (Or.inl ⟨by rfl,?_⟩) (by assumption) ?_
 ·(intro w hSw;(try dsimp only at hSw);go_simp)
 simp only [Act.put,List.setIfInBounds_toArray,List.set_cons_zero,List.set_cons_succ]
 refine wpAnyH_done (by kernel_rfl) ?_ _
 go_wp2_with fail
 go_ret
 exact ⟨rfl,uH HB⟩
theorem lseChecks_walk (a b c d:Ma) (I J K L:List Int) (w:World) (h:MaAt w a I∧MaAt w b J∧MaAt w c K∧MaAt w d L) (hT:Tab w) :
  Calls Tryz.prog 7 #[.agg #[.int .i64 a.r,.int .i64 a.c,.slice a.o a.n a.k,.int .i64 b.r,.int .i64 b.c,.slice b.o b.n b.k,.int .i64 c.r,.int .i64 c.c,.slice c.o c.n c.k,.int .i64 d.r,.int .i64 d.c,.slice d.o d.n d.k]] w fun e w'=>e = .returned (.bool true)∧Below w.heap.size w w' :=
 have hb:=fun w' (hb:Below w.heap.size w w')=>(show MaAt w' a I∧MaAt w' b J∧MaAt w' c K∧MaAt w' d L from ⟨h.1.below hb,h.2.1.below hb,h.2.2.1.below hb,h.2.2.2.below hb⟩)
 lseChecks_of a b c d _ w (fun w' k=>lck_any a b c d I J K L w' (hb w' k)) (fun w' _=>task_any a b c d w') (fun w' k=>rck20_any a b c d I J K L w' (hb w' k)) (fun w' k=>awake20_any w' (hT.all k))
end Go.Proofs.YtcbcmlaogehimaaGreatDoor
