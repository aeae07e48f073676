/- Part 38 of the texts. -/
import Derived.Test.YtnnfjeieennffaaGreatDoorPartc37
set_option maxHeartbeats 4000000
set_option maxRecDepth 20000
namespace Go.Proofs.YtnnfjeieennffaaGreatDoor
open Go.RowKit
attribute [local go_sem ↓] Go.wp_at_zero Go.wp_at_succ
theorem pr{a w w':World}{o:Option Nat}(h:a.grownBy w o)(k:w.grownBy w' o):a.grownBy w' o:=
 ⟨k.os.trans h.os,k.tape.trans h.tape,k.output.trans h.output,Nat.le_trans h.size k.size,fun i d f=>(k.block i (Nat.lt_of_lt_of_le d h.size) f).trans (h.block i d f)⟩
theorem pu{w w':World}(h:Below w.heap.size w w')(o:Option Nat):w.grownBy w' o:=⟨h.os,h.tape,h.output,h.size,fun k d _=>h.block k d⟩
theorem fv(w:World)(g j:Nat)(v:Value):w.grownBy (w.setCell ⟨g,j,none⟩ v) (some g):=by
 have h:=(Below.refl w.heap.size w)
 refine⟨rfl,rfl,rfl,?_,fun k _ d=>Below.heap_setCell w ⟨g,j,none⟩ v k (fun e=>d (by rw[e]))⟩
 simp[World.setCell]
structure vG (w wr:World) (g r c n:Nat) (S:List Nat):Prop where
 bel:w.grownBy wr (some g)
 a:aw wr w.heap.size (.int .i64 r) (.int .i64 c) (.slice (some ⟨g,0,none⟩) n n)
 row:bg wr g S
theorem vG.start{w:World}{g n:Nat}{S:List Nat}(h:bg w g S)(r c:Nat):vG w (w.alloc (.cells #[.int .i64 r,.int .i64 c,.slice (some ⟨g,0,none⟩) n n] 24)) g r c n S:=by
 have b:=ac w (.cells #[.int .i64 r,.int .i64 c,.slice (some ⟨g,0,none⟩) n n] 24)
 exact⟨pu b _,aw.new w _ _ _,h.below b h.lt⟩
theorem vG.set{w wr:World}{g r c n:Nat}{S:List Nat}(h:vG w wr g r c n S)(d:g<w.heap.size)(p x:Nat):vG w (wr.setCell ⟨g,p,none⟩ (.int .u64 (x:Int))) g r c n (S.set p x):=
 ⟨pr h.bel (fv wr g p _),h.a.other (p:=⟨g,p,none⟩) (by show w.heap.size≠g;omega) _,h.row.set p x⟩
theorem yY(r c n j d g f:Nat)(S:List Nat)(T:Nat→List Nat)(P:Nat→Nat)(w:World)(ae:n≤36)(hr:r≤6)(hj:j<r)(h:bg w g S)(V:S.length=n)(X:∀i,(T i).length=n)
  (h0:j*c+j=f∧f<n∧S.set f d=T (j+1)) (Y:∀i,j<i→i<r→i*c+j=P i∧P i<n∧(T i).set (P i) 0=T (i+1)):
  Calls Tryz.prog 122 #[.agg #[.int .i64 r,.int .i64 c,.slice (some ⟨g,0,none⟩) n n],.int .i64 j,.int .u64 d] w fun e w'=>e=.returned (.tuple #[])∧bg w' g (T r)∧w.grownBy w' (some g):=by
 have Z:=aa h.lt
 have t:=aa (vG.start (n:=n) h r c)
 obtain⟨A,l⟩:∃q,j*c=q:=⟨_,rfl⟩
 obtain⟨Q,H,K⟩:=h0
 rw[l]at Q
 have HP:=aa Y;have LT:=aa X
 have e1:IntKind.i64.wrap ((j:Int)*(c:Int))=(A:Int):=by
  rw[bY j c,l]
  exact aR _ (by omega)
 have e2:IntKind.i64.wrap ((A:Int)+(j:Int))=(f:Int):=(aR _ (by omega)).trans (by omega)
 have e3:(j:Int)*(c:Int)=(A:Int):=by rw[bY j c,l]
 have e4:(A:Int)+(j:Int)=(f:Int):=by omega
 have w1:IntKind.i64.wrap (A:Int)=(A:Int):=aR _ (by omega)
 have w2:IntKind.i64.wrap (f:Int)=(f:Int):=aR _ (by omega)
 obtain⟨D,z⟩:∃D,j+1=D:=⟨_,rfl⟩
 have e5:IntKind.i64.wrap ((j:Int)+1)=(D:Int):=(aR _ (by omega)).trans (by omega)
 have e6:(j:Int)+1=(D:Int):=by omega
 have F:(f:Int)<(n:Int):=by omega
 have y0:=(uH t).a.c0;have y1:=(uH t).a.c1;have y2:=(uH t).a.c2
 have d1:=(uH t).row.cell f (by rw[V];exact H)
 have f1:=(uH t).row.free f
 have M:=aa ((uH t).set (uH Z) f d)
 rw[K,z]at M
 have G:=aa z
 clear Y X h V K l H t z
 go_enter Tryz.func122,Tryz.ntmps122
 go_wp2_with fail
 clear y0 y1 y2 d1 f1 e1 e2 e3 e4 e5 e6 w1 w2 F
 go_loopw[6] (fun a wr=>∃i:Nat,j<i∧i≤r∧a=.int .i64 i∧Hid (vG w wr g r c n (T i))) (fun a _=>r-(intOf a).toNat)
 case atStart=>exact⟨D,by have:=uH G;omega,by have:=uH G;omega,by first|rfl|go_num,M⟩
 case round=>
  clear M
  obtain⟨i,U,am,rfl,m⟩:=hrel
  have y0:=(uH m).a.c0
  by_cases N:i<r
  ·have aj:(i:Int)<(r:Int):=by omega
   obtain⟨Q,H,K⟩:=uH HP i U N
   have y1:=(uH m).a.c1;have y2:=(uH m).a.c2
   obtain⟨q,L⟩:∃q,i*c=q:=⟨_,rfl⟩
   rw[L]at Q
   have e1:IntKind.i64.wrap ((i:Int)*(c:Int))=(q:Int):=by
    rw[bY i c,L]
    exact aR _ (by omega)
   have e2:IntKind.i64.wrap ((q:Int)+(j:Int))=(P i:Int):=(aR _ (by omega)).trans (by omega)
   have e3:(i:Int)*(c:Int)=(q:Int):=by rw[bY i c,L]
   have e4:(q:Int)+(j:Int)=(P i:Int):=by omega
   have w1:IntKind.i64.wrap (q:Int)=(q:Int):=aR _ (by omega)
   have w2:IntKind.i64.wrap (P i:Int)=(P i:Int):=aR _ (by omega)
   have F:(P i:Int)<(n:Int):=by omega
   have d1:=(uH m).row.cell (P i) (by rw[uH LT];exact H)
   have f1:=(uH m).row.free (P i)
   have S2:=aa ((uH m).set (uH Z) (P i) 0)
   rw[K]at S2
   generalize P i=p at*
   clear m K L H
   go_wp2_with fail
   go_round
   case rel=>exact⟨i+1,by omega,by omega,by go_num,S2⟩
   case measure=>simp[intOf];omega
  ·have O:i=r:=by omega
   subst O
   go_wp2
   first|go_end0|refine bodyPost_ret (results_none rfl _ _ _) rfl ?_
   exact⟨rfl,(uH m).row,(uH m).bel⟩
theorem vH(r c j d g:Nat)(S:List Nat)(w:World)(D:r≤6)(F:c≤6)(t:j<r)(f:j<c)(l:S.length=r*c)(h:bg w g S):
  Calls Tryz.prog 122 #[.agg #[.int .i64 r,.int .i64 c,.slice (some ⟨g,0,none⟩) S.length S.length],.int .i64 j,.int .u64 d] w fun e w'=>e=.returned (.tuple #[])∧bg w' g (Gl r c S j d)∧w.grownBy w' (some g):=by
 have A:S.length≤36:=by
  rw[l]
  exact Nat.mul_le_mul D F
 refine yY r c S.length j d g (j*c+j) S (Dx r c S j d) (fun i=>i*c+j) w A D t h rfl (fun i=>by rw[iK,l]) ⟨rfl,by rw[l];exact gD t f,qk r c S d l t f⟩ (fun i z m=>⟨rfl,by rw[l];exact gD m f,wZ r c S d z m f⟩)
def pw(w wr:World)(r c n:Nat)(T:List Nat)(po:Option Addr)(pc:Nat):Prop:=
 aw wr w.heap.size (.int .i64 r) (.int .i64 c) (.slice po n pc)∧aw wr (w.heap.size+1) (.int .i64 0) (.int .i64 0) (.slice none 0 0)∧ad wr po pc (az T)∧T.length=n∧Below w.heap.size w wr
theorem pw.all{w wr w':World}{r c n:Nat}{T:List Nat}{f:Option Addr}{l:Nat}(h:pw w wr r c n T f l)(d:Below wr.heap.size wr w'):pw w w' r c n T f l:=
 ⟨h.1.all d,h.2.1.all d,h.2.2.1.below d,h.2.2.2.1,h.2.2.2.2.trans (d.mono h.2.2.2.2.size)⟩
theorem pw.put{w wr:World}{r c n:Nat}{T:List Nat}{t:Option Addr}{z:Nat}(h:pw w wr r c n T t z){U:List Nat}{d:Option Addr}{f:Nat}(A:ad wr d f (az U))(D:U.length=n):
  pw w (((wr.setCell ⟨w.heap.size,0,none⟩ (.int .i64 r)).setCell ⟨w.heap.size,1,none⟩ (.int .i64 c)).setCell ⟨w.heap.size,2,none⟩ (.slice d n f)) r c n U d f:=by
 obtain⟨m,F,H,K,G⟩:=h
 have l:w.heap.size+1≠w.heap.size:=by omega
 exact⟨m.put _ _ _,((F.other (p:=⟨w.heap.size,0,none⟩) l _).other (p:=⟨w.heap.size,1,none⟩) l _).other (p:=⟨w.heap.size,2,none⟩) l _,A.putM m _ _ _,D,aA G (Nat.le_refl _) _ _ _⟩
theorem pw.start(w:World)(r c n d:Nat)(f:Option Addr)(T:List Nat)(z:ad w f d (az T))(A:T.length=n):pw w ((w.alloc (.cells #[.int .i64 r,.int .i64 c,.slice f n d] 24)).alloc (.cells #[.int .i64 0,.int .i64 0,.slice none 0 0] 24)) r c n T f d:=by
 have h:=ac w (.cells #[.int .i64 r,.int .i64 c,.slice f n d] 24)
 have D:=an w (.cells #[.int .i64 r,.int .i64 c,.slice f n d] 24)
 have F:=aw.new w (.int .i64 r) (.int .i64 c) (.slice f n d)
 have G:=z.below h
 generalize w.alloc (.cells #[.int .i64 r,.int .i64 c,.slice f n d] 24)=t at*
 have l:=ac t (.cells #[.int .i64 0,.int .i64 0,.slice none 0 0] 24)
 have m:=aw.new t (.int .i64 0) (.int .i64 0) (.slice none 0 0)
 rw[D]at m
 exact⟨F.all l,m,G.below l,A,h.trans (l.mono h.size)⟩
end Go.Proofs.YtnnfjeieennffaaGreatDoor
namespace Go.Proofs.YtnnfjeieennffaaGreatDoor
open Go.RowKit
theorem Cy{w:World}{f:Option Addr}{c:Nat}{I:List Int}(h:ad w f c I){g:Nat}(l:∀k j z,w.cell? ⟨k,j,none⟩=some (.int .u64 z)→k≠g):I= []∨∃b d,f=some ⟨b,d,none⟩∧b≠g:=by
 rcases h.2.2 with e|⟨b,d,m,A,t⟩
 ·exact .inl e
 ·cases hI:I with
  |nil=>exact .inl rfl
  |cons x xs=>exact .inr ⟨b,d,m,l b (d+0) _ (t 0 (by rw[hI];simp))⟩
attribute [local go_sem ↓] Go.wp_at_zero Go.wp_at_succ
def ie(g:Option Nat)(ao:Option Addr)(I:List Int):Prop:=I= []∨∃b off,ao=some ⟨b,off,none⟩∧some b≠g
theorem ie.new{H:Nat}{f:Option Addr}{I:List Int}(h:bD H f I){g:Option Nat}(l:∀k,g=some k→k<H):ie g f I:=by
 rcases h with e|⟨b,d,m,t⟩
 ·exact .inl e
 ·exact .inr ⟨b,d,m,fun e=>by have:=l b e.symm;omega⟩
theorem ie.old{w:World}{f:Option Addr}{c:Nat}{I:List Int}(h:ad w f c I){g:Option Nat}(l:∀k,g=some k→w.heap.size≤k):ie g f I:=by
 rcases h.2.2 with e|⟨b,d,m,t,_⟩
 ·exact .inl e
 ·exact .inr ⟨b,d,m,fun e=>by have:=l b e.symm;omega⟩
theorem dO{w w':World}{l:Option Addr}{c:Nat}{I:List Int}{g:Option Nat}(h:ad w l c I)(D:ie g l I)(t:w.grownBy w' g):ad w' l c I:=by
 refine⟨h.1,h.2.1,?_⟩
 rcases h.2.2 with e|⟨b,d,e,z,G⟩
 ·exact .inl e
 ·rcases D with f|⟨H,A,f,m⟩
  ·exact .inl f
  ·rw[e]at f
   simp only[Option.some.injEq,Addr.mk.injEq]at f
   obtain⟨rfl,rfl,_⟩:=f
   refine .inr ⟨b,d,e,Nat.lt_of_lt_of_le z t.size,fun i F=>?_⟩
   rw[World.cell?_of_block (a:=⟨b,d+i,none⟩) (t.block b z m)]
   exact G i F
theorem dr.putQ{f:Nat}{w:World}{v:Value}{R:List Mr}(h:dr f w v R){g:Nat}{x y:Int}{o:Option Addr}{n d:Nat}(A:aw w g (.int .i64 x) (.int .i64 y) (.slice o n d))(u u' u'':Value):dr f (((w.setCell ⟨g,0,none⟩ u).setCell ⟨g,1,none⟩ u').setCell ⟨g,2,none⟩ u'') v R:=by
 refine⟨⟨h.1.1,?_⟩,fun z D=>⟨(h.2 z D).1.putM A u u' u'',(h.2 z D).2⟩⟩
 rcases h.1.2 with e|⟨k,m,t,G,H,F,rest⟩
 ·exact .inl e
 ·have l:k≠g:=by
   rintro rfl
   have e:=F.symm.trans A
   simp at e
  exact .inr ⟨k,m,t,G,H,(Below.heap_setCell _ ⟨g,2,none⟩ u'' k l).trans ((Below.heap_setCell _ ⟨g,1,none⟩ u' k l).trans ((Below.heap_setCell _ ⟨g,0,none⟩ u k l).trans F)),rest⟩
theorem dr.apart{d:Nat}{w:World}{b l m:Nat}{R:List Mr}(h:dr d w (.slice (some ⟨b,0,none⟩) l m) R){g:Nat}{x y z:Value}(t:aw w g x y z):b≠g:=by
 rcases h.1.2 with⟨e,_⟩|⟨k,A,D,f,G,F,rest⟩
 ·cases e
 ·simp only[Value.slice.injEq,Option.some.injEq,Addr.mk.injEq]at f
  obtain⟨⟨rfl,_⟩,_⟩:=f
  rintro rfl
  have e:=F.symm.trans t
  simp at e
theorem kP(a b:Nat)(w:World)(h:a<18446744073709551616)(l:b<18446744073709551616)(m:cC w):
  Calls Tryz.prog 149 #[.int .u64 a,.int .u64 b] w fun r w'=>r=.returned (.int .u64 (aV a (fN b):Nat))∧Below w.heap.size w w':=by
 have K:=aa (AO a b w h l m)
 clear h l m
 generalize aV a (fN b)=o at*
 generalize aF a (fN b)=f at*
 go_enter Tryz.func149,Tryz.ntmps149
 go_wp2_with fail
 refine Calls.mono (uH K) ?_
 rintro e t ⟨rfl,d⟩
 clear K
 go_wp2
 go_ret
 exact⟨rfl,d⟩
theorem tI(a b:Nat)(w:World)(h:a<18446744073709551616)(l:b<18446744073709551616)(m:cC w):
  Calls Tryz.prog 151 #[.int .u64 a,.int .u64 b] w fun r w'=>r=.returned (.int .u64 (dV a b:Nat))∧Below w.heap.size w w':=by
 have K:=aa (AZ a b w h l m)
 clear h l m
 generalize dV a b=o at*
 generalize dF a b=f at*
 go_enter Tryz.func151,Tryz.ntmps151
 go_wp2_with fail
 refine Calls.mono (uH K) ?_
 rintro e t ⟨rfl,d⟩
 clear K
 go_wp2
 go_ret
 exact⟨rfl,d⟩
end Go.Proofs.YtnnfjeieennffaaGreatDoor
