/- Part 39 of the texts. -/
import Derived.Test.YtenpggicmfhhdaaGreatDoorParte38
namespace Go.Proofs.YtenpggicmfhhdaaGreatDoor
open Go.RowKit
attribute [local go_sem ↓] Go.wp_at_zero Go.wp_at_succ
theorem rT(w:World)(a b:Nat)(f:a<18446744073709551616)(l:b<18446744073709551616):ab (w.alloc (.cells #[.int .u64 (a:Nat),.int .u64 (b:Nat)] 30)) (some ⟨w.heap.size,0,none⟩) 2 [(a:Int),(b:Int)]:=by
 have h:bT (w.alloc (.cells #[.int .u64 (a:Nat),.int .u64 (b:Nat)] 30)) w.heap.size [a,b]:=heap_alloc_new w _
 exact h.bits (fun x d=>by simp at d;rcases d with rfl|rfl;exact f;exact l)
theorem dh:nE 0 [4613937818241073152,4616189618054758400]=4616189618054758400∧aD 4616189618054758400=true∧eX 4616189618054758400=2∧ER 2 0 [4613937818241073152,4616189618054758400]=4609715693590413312∧xV 4608308318706860032 2=4617315517961601024∧lf [4613937818241073152,4616189618054758400]=false∧fN 4617315517961601024=13840687554816376832∧fN 13840687554816376832=4617315517961601024∧aV 4613937818241073152 4617315517961601024=4620693217682128896∧ik [4616189618054758400]=false∧aD 13840687554816376832=true∧aD 4620693217682128896=true∧aD 4613937818241073152=true:=by decide+kernel
theorem DI:dV 4616189618054758400 4620693217682128896=4602678819172646912:=by decide+kernel
theorem Fw:nF [4613937818241073152,4616189618054758400]=4617315517961601024:=by
 obtain⟨d,f,h,l,m,_⟩:=dh
 unfold nF
 rw[d,if_neg (by rw[f];decide),h,l,Do,m]
theorem Au:fd 4613937818241073152 [4616189618054758400]=13840687554816376832∧iK 4613937818241073152 [4616189618054758400]=4620693217682128896:=by
 obtain⟨_,_,_,_,_,d,f,h,l,_⟩:=dh
 have e:fd 4613937818241073152 [4616189618054758400]=13840687554816376832:=by
  unfold fd
  rw[d,if_neg (by decide),Fw,f]
 refine⟨e,?_⟩
 unfold iK
 rw[e,h,l]
theorem tQ:xn [4613937818241073152,4616189618054758400]=13840687554816376832∧je [4613937818241073152,4616189618054758400]= [4607182418800017408,4602678819172646912]∧xp [4613937818241073152,4616189618054758400]=true:=by
 obtain⟨_,_,_,_,_,_,_,_,_,d,f,h,_⟩:=dh
 obtain⟨l,m⟩:=Au
 refine⟨?_,?_,?_⟩
 ·show(if ik [4616189618054758400]=true then 4613937818241073152 else fd 4613937818241073152 [4616189618054758400])=_
  rw[if_neg (by rw[d];decide),l]
 ·show 4607182418800017408::[if ik [4616189618054758400]=true then 0 else dV 4616189618054758400 (iK 4613937818241073152 [4616189618054758400])]=_
  rw[if_neg (by rw[d];decide),m,DI]
 ·show(ik [4616189618054758400]||(aD (fd 4613937818241073152 [4616189618054758400])&&aD (iK 4613937818241073152 [4616189618054758400])))=true
  rw[l,m,f,h,Bool.and_self,Bool.or_true]
structure tR (w wr:World) (q0 q1 q2 r0 r1 r2 x0 x1 x2 x3 x4 x5 x6:Value):Prop where
 bel:Below w.heap.size w wr
 q:au wr w.heap.size q0 q1 q2
 r:au wr (w.heap.size+1) r0 r1 r2
 x:bw wr (w.heap.size+1+1) x0 x1 x2 x3 x4 x5 x6
theorem tR.all{w wr f:World}{l m t y z A D F G H I K L:Value}(h:tR w wr l m t y z A D F G H I K L)(d:Below wr.heap.size wr f):tR w f l m t y z A D F G H I K L:=
 ⟨h.bel.trans (d.mono h.bel.size),h.q.all d,h.r.all d,h.x.all d⟩
theorem tR.start(w:World)(d f h l m t z A D F G H I:Value):tR w (((w.alloc (.cells #[d,f,h] 24)).alloc (.cells #[l,m,t] 24)).alloc (.cells #[z,A,D,F,G,H,I] 40)) d f h l m t z A D F G H I:=by
 have M:=ac w (.cells #[d,f,h] 24)
 have V:=ai w (.cells #[d,f,h] 24)
 have X:=au.new w d f h
 generalize w.alloc (.cells #[d,f,h] 24)=K at*
 have N:=ac K (.cells #[l,m,t] 24)
 have O:=ai K (.cells #[l,m,t] 24)
 have Q:=au.new K l m t
 generalize K.alloc (.cells #[l,m,t] 24)=U at*
 have L:=ac U (.cells #[z,A,D,F,G,H,I] 40)
 have T:=bw.new U z A D F G H I
 rw[V]at Q O
 rw[O]at T
 have y:=M.trans (N.mono M.size)
 exact⟨y.trans (L.mono y.size),(X.all N).all L,Q.all L,T⟩
theorem tT:dV (aV 13840687554816376832 (fN 4613937818241073152)) 13840687554816376832=4609884578576439706∧fN 13840687554816376832=4617315517961601024:=by decide+kernel
end Go.Proofs.YtenpggicmfhhdaaGreatDoor
namespace Go.Proofs.YtenpggicmfhhdaaGreatDoor
open Go.RowKit
theorem Av:bB (km 2 2 (wI 2) 0 0 [4607182418800017408,4602678819172646912] 4609884578576439706)=true:=by decide+kernel
theorem GF:kJ [4613937818241073152,4616189618054758400]=4609884578576439706:=by
 obtain⟨_,_,_,_,_,_,_,_,_,d,_⟩:=dh
 show(if ik [4616189618054758400]=true then 0 else dV (aV (fd 4613937818241073152 [4616189618054758400]) (fN 4613937818241073152)) (fd 4613937818241073152 [4616189618054758400]))=_
 rw[if_neg (by rw[d];decide),Au.1]
 exact tT.1
theorem GG:dk 2 1 [4613937818241073152,4616189618054758400] 0= [4613937818241073152,4616189618054758400]:=rfl
theorem Gm:iM 2 1 [4613937818241073152,4616189618054758400]= [13840687554816376832,0]:=by
 show Eb 2 1 (km 2 1 [4613937818241073152,4616189618054758400] 0 0 (je (Ak 2 1 [4613937818241073152,4616189618054758400] 0)) (kJ (Ak 2 1 [4613937818241073152,4616189618054758400] 0))) 0 (xn (Ak 2 1 [4613937818241073152,4616189618054758400] 0))=_
 have e:Ak 2 1 [4613937818241073152,4616189618054758400] 0= [4613937818241073152,4616189618054758400]:=rfl
 rw[e,tQ.1]
 generalize km 2 1 [4613937818241073152,4616189618054758400] 0 0 _ _=T
 rfl
theorem GH:n8 2 1 [4613937818241073152,4616189618054758400]=true:=by
 have eN:gT 2 1=1:=rfl
 have d:il 2 1 [4613937818241073152,4616189618054758400]=km 2 2 (wI 2) 0 0 (je [4613937818241073152,4616189618054758400]) (kJ [4613937818241073152,4616189618054758400]):=rfl
 have f:Ec 2 1 [4613937818241073152,4616189618054758400] (gT 2 1)=true:=by
  rw[eN,pX]
  intro j h
  obtain rfl:j=0:=by omega
  rw[GG]
  refine⟨?_,tQ.2.2⟩
  show((true&&aD 4613937818241073152)&&aD 4616189618054758400)=true
  rw[dh.2.1,dh.2.2.2.2.2.2.2.2.2.2.2.2]
  rfl
 unfold n8
 rw[f,d,tQ.2.1,GF,Av,Gm]
 show(true&&(true&&((true&&aD 13840687554816376832)&&aD 0)))=true
 rw[dh.2.2.2.2.2.2.2.2.2.2.1]
 decide+kernel
attribute [local go_sem ↓] Go.wp_at_zero Go.wp_at_succ
structure kL (w wr:World) (g:Nat) (r c n cap:Nat) (ao:Option Addr) (x0 x1:Int) (x2:Value) (x3 x4:Int) (x5:Value) (ok:Bool):Prop where
 bel:Below w.heap.size w wr
 a:au wr w.heap.size (.int .i64 r) (.int .i64 c) (.slice ao n cap)
 res:bw wr (w.heap.size+1) (.int .i64 0) (.int .i64 0) (.slice none 0 0) (.int .i64 0) (.int .i64 0) (.slice none 0 0) (.bool false)
 t:bw wr g (.int .i64 x0) (.int .i64 x1) x2 (.int .i64 x3) (.int .i64 x4) x5 (.bool ok)
theorem kL.all{w wr l:World}{g r c n d:Nat}{m:Option Addr}{y z:Int}{A:Value}{D F:Int}{G:Value}{H:Bool}(h:kL w wr g r c n d m y z A D F G H)(f:Below wr.heap.size wr l):kL w l g r c n d m y z A D F G H:=
 ⟨h.bel.trans (f.mono h.bel.size),h.a.all f,h.res.all f,h.t.all f⟩
theorem ni(w:World)(r c n d:Nat)(f:Option Addr):Below w.heap.size w ((w.alloc (.cells #[.int .i64 r,.int .i64 c,.slice f n d] 24)).alloc (.cells #[.int .i64 0,.int .i64 0,.slice none 0 0,.int .i64 0,.int .i64 0,.slice none 0 0,.bool false] 40))∧au ((w.alloc (.cells #[.int .i64 r,.int .i64 c,.slice f n d] 24)).alloc (.cells #[.int .i64 0,.int .i64 0,.slice none 0 0,.int .i64 0,.int .i64 0,.slice none 0 0,.bool false] 40)) w.heap.size (.int .i64 r) (.int .i64 c) (.slice f n d)∧bw ((w.alloc (.cells #[.int .i64 r,.int .i64 c,.slice f n d] 24)).alloc (.cells #[.int .i64 0,.int .i64 0,.slice none 0 0,.int .i64 0,.int .i64 0,.slice none 0 0,.bool false] 40)) (w.heap.size+1) (.int .i64 0) (.int .i64 0) (.slice none 0 0) (.int .i64 0) (.int .i64 0) (.slice none 0 0) (.bool false):=by
 have h:=ac w (.cells #[.int .i64 r,.int .i64 c,.slice f n d] 24)
 have y:=ai w (.cells #[.int .i64 r,.int .i64 c,.slice f n d] 24)
 have z:=au.new w (.int .i64 r) (.int .i64 c) (.slice f n d)
 generalize w.alloc (.cells #[.int .i64 r,.int .i64 c,.slice f n d] 24)=t at*
 have l:=ac t (.cells #[.int .i64 0,.int .i64 0,.slice none 0 0,.int .i64 0,.int .i64 0,.slice none 0 0,.bool false] 40)
 have m:=bw.new t (.int .i64 0) (.int .i64 0) (.slice none 0 0) (.int .i64 0) (.int .i64 0) (.slice none 0 0) (.bool false)
 rw[y]at m
 exact⟨h.trans (l.mono h.size),z.all l,m⟩
theorem kL.held{w wr:World}{g r c n d:Nat}{D:Option Addr}{f l:Int}{m:Value}{y z:Int}{A:Value}{F:Bool}(h:kL w wr g r c n d D f l m y z A F):(wr.cell? ⟨w.heap.size,0,none⟩=some (.int .i64 (r:Nat))∧wr.cell? ⟨w.heap.size,1,none⟩=some (.int .i64 (c:Nat)))∧(wr.cell? ⟨g,0,none⟩=some (.int .i64 f)∧wr.cell? ⟨g,1,none⟩=some (.int .i64 l)∧wr.cell? ⟨g,2,none⟩=some m∧wr.cell? ⟨g,3,none⟩=some (.int .i64 y)∧wr.cell? ⟨g,4,none⟩=some (.int .i64 z)∧wr.cell? ⟨g,5,none⟩=some A):=⟨⟨h.a.c0,h.a.c1⟩,h.t.c0,h.t.c1,h.t.c2,h.t.c3,h.t.c4,h.t.c5⟩
theorem kL.put{w wr:World}{g r c n l:Nat}{H:Option Addr}{m y:Int}{z:Value}{D F:Int}{G:Value}{I:Bool}(h:kL w wr g r c n l H m y z D F G I)(K:w.heap.size+1<g)(u0 u1 u2 u3 u4 u5 u6:Value):((((((((wr.setCell ⟨w.heap.size+1,0,none⟩ u0).setCell ⟨w.heap.size+1,1,none⟩ u1).setCell ⟨w.heap.size+1,2,none⟩ u2).setCell ⟨w.heap.size+1,3,none⟩ u3).setCell ⟨w.heap.size+1,4,none⟩ u4).setCell ⟨w.heap.size+1,5,none⟩ u5).setCell ⟨w.heap.size+1,6,none⟩ u6).cell? ⟨w.heap.size,0,none⟩=some (.int .i64 (r:Nat))∧(((((((wr.setCell ⟨w.heap.size+1,0,none⟩ u0).setCell ⟨w.heap.size+1,1,none⟩ u1).setCell ⟨w.heap.size+1,2,none⟩ u2).setCell ⟨w.heap.size+1,3,none⟩ u3).setCell ⟨w.heap.size+1,4,none⟩ u4).setCell ⟨w.heap.size+1,5,none⟩ u5).setCell ⟨w.heap.size+1,6,none⟩ u6).cell? ⟨w.heap.size,1,none⟩=some (.int .i64 (c:Nat)))∧((((((((wr.setCell ⟨w.heap.size+1,0,none⟩ u0).setCell ⟨w.heap.size+1,1,none⟩ u1).setCell ⟨w.heap.size+1,2,none⟩ u2).setCell ⟨w.heap.size+1,3,none⟩ u3).setCell ⟨w.heap.size+1,4,none⟩ u4).setCell ⟨w.heap.size+1,5,none⟩ u5).setCell ⟨w.heap.size+1,6,none⟩ u6).cell? ⟨g,0,none⟩=some (.int .i64 m)∧(((((((wr.setCell ⟨w.heap.size+1,0,none⟩ u0).setCell ⟨w.heap.size+1,1,none⟩ u1).setCell ⟨w.heap.size+1,2,none⟩ u2).setCell ⟨w.heap.size+1,3,none⟩ u3).setCell ⟨w.heap.size+1,4,none⟩ u4).setCell ⟨w.heap.size+1,5,none⟩ u5).setCell ⟨w.heap.size+1,6,none⟩ u6).cell? ⟨g,1,none⟩=some (.int .i64 y)∧(((((((wr.setCell ⟨w.heap.size+1,0,none⟩ u0).setCell ⟨w.heap.size+1,1,none⟩ u1).setCell ⟨w.heap.size+1,2,none⟩ u2).setCell ⟨w.heap.size+1,3,none⟩ u3).setCell ⟨w.heap.size+1,4,none⟩ u4).setCell ⟨w.heap.size+1,5,none⟩ u5).setCell ⟨w.heap.size+1,6,none⟩ u6).cell? ⟨g,2,none⟩=some z∧(((((((wr.setCell ⟨w.heap.size+1,0,none⟩ u0).setCell ⟨w.heap.size+1,1,none⟩ u1).setCell ⟨w.heap.size+1,2,none⟩ u2).setCell ⟨w.heap.size+1,3,none⟩ u3).setCell ⟨w.heap.size+1,4,none⟩ u4).setCell ⟨w.heap.size+1,5,none⟩ u5).setCell ⟨w.heap.size+1,6,none⟩ u6).cell? ⟨g,3,none⟩=some (.int .i64 D)∧(((((((wr.setCell ⟨w.heap.size+1,0,none⟩ u0).setCell ⟨w.heap.size+1,1,none⟩ u1).setCell ⟨w.heap.size+1,2,none⟩ u2).setCell ⟨w.heap.size+1,3,none⟩ u3).setCell ⟨w.heap.size+1,4,none⟩ u4).setCell ⟨w.heap.size+1,5,none⟩ u5).setCell ⟨w.heap.size+1,6,none⟩ u6).cell? ⟨g,4,none⟩=some (.int .i64 F)∧(((((((wr.setCell ⟨w.heap.size+1,0,none⟩ u0).setCell ⟨w.heap.size+1,1,none⟩ u1).setCell ⟨w.heap.size+1,2,none⟩ u2).setCell ⟨w.heap.size+1,3,none⟩ u3).setCell ⟨w.heap.size+1,4,none⟩ u4).setCell ⟨w.heap.size+1,5,none⟩ u5).setCell ⟨w.heap.size+1,6,none⟩ u6).cell? ⟨g,5,none⟩=some G):=by
 have d:w.heap.size≠w.heap.size+1:=by omega
 have f:g≠w.heap.size+1:=by omega
 have A:=(((((((h.a.other (p:=⟨w.heap.size+1,0,none⟩) d u0).other (p:=⟨w.heap.size+1,1,none⟩) d u1).other (p:=⟨w.heap.size+1,2,none⟩) d u2).other (p:=⟨w.heap.size+1,3,none⟩) d u3).other (p:=⟨w.heap.size+1,4,none⟩) d u4).other (p:=⟨w.heap.size+1,5,none⟩) d u5).other (p:=⟨w.heap.size+1,6,none⟩) d u6)
 have T:=(((((((h.t.other (p:=⟨w.heap.size+1,0,none⟩) f u0).other (p:=⟨w.heap.size+1,1,none⟩) f u1).other (p:=⟨w.heap.size+1,2,none⟩) f u2).other (p:=⟨w.heap.size+1,3,none⟩) f u3).other (p:=⟨w.heap.size+1,4,none⟩) f u4).other (p:=⟨w.heap.size+1,5,none⟩) f u5).other (p:=⟨w.heap.size+1,6,none⟩) f u6)
 exact⟨⟨A.c0,A.c1⟩,T.c0,T.c1,T.c2,T.c3,T.c4,T.c5⟩
end Go.Proofs.YtenpggicmfhhdaaGreatDoor
