/- Part 46 of the texts. -/
import Derived.Test.YtmpkkhackbpflaaGreatDoorPartg45
import Derived.Test.YtmpkkhackbpflaaGreatDoorPartg43
set_option maxHeartbeats 8000000
set_option maxRecDepth 20000
namespace Go.Proofs.YtmpkkhackbpflaaGreatDoor
open Go.RowKit
theorem mO{I:List Int}(h:1≤I.length):co I=bN I 0::(co I).drop 1:=by
 have d:0<(co I).length:=by rw[gZ];omega
 have:=List.drop_eq_getElem_cons d
 rw[List.drop_zero]at this
 rw[this]
 congr 1
 have e:=qd I 0 (by omega)
 rw[List.getElem?_eq_getElem d]at e
 exact Option.some.inj e
theorem BM(I:List Int){j:Nat}(h:j+1<I.length):((co I).drop 1).getD j 0=bN I (j+1):=by
 rw[List.getD_eq_getElem?_getD,List.getElem?_drop,Nat.add_comm 1 j,qd I (j+1) h]
 rfl
theorem Fd{I:List Int}(h:1≤I.length)(k:Nat→Nat)(d:∀x,(if kP ((co I).drop 1)=true then 0 else dV x (gS (bN I 0) ((co I).drop 1)))=k x):cu (co I)=Jz (fun j=>k (bN I (j+1))) I.length:=by
 have t:((co I).drop 1).length=I.length-1:=by rw[List.length_drop,gZ]
 rw[mO h]
 show 4607182418800017408::((co I).drop 1).map (fun x=>if kP ((co I).drop 1)=true then 0 else dV x (gS (bN I 0) ((co I).drop 1)))=4607182418800017408::q8 (fun j=>k (bN I (j+1))) (I.length-1)
 congr 1
 rw[List.map_congr_left (g:=k) (fun x _=>d x),yi ((co I).drop 1),List.map_map,t]
 unfold q8
 refine List.map_congr_left (fun j l=>?_)
 show k (((co I).drop 1).getD j 0)=_
 rw[BM I (by have:=List.mem_range.1 l;omega)]
theorem wh{I:List Int}(h:1≤I.length):gv (co I)=(if kP ((co I).drop 1)=true then bN I 0 else da (bN I 0) ((co I).drop 1))∧dr (co I)=(if kP ((co I).drop 1)=true then 0 else dV (aV (da (bN I 0) ((co I).drop 1)) (fN (bN I 0))) (da (bN I 0) ((co I).drop 1)))∧EU (co I)=(kP ((co I).drop 1)||(ah (da (bN I 0) ((co I).drop 1))&&ah (gS (bN I 0) ((co I).drop 1)))):=by
 have e:=mO h
 refine⟨?_,?_,?_⟩
 ·conv=>lhs;rw[e]
  rfl
 ·conv=>lhs;rw[e]
  rfl
 ·conv=>lhs;rw[e]
  rfl
attribute [local go_sem ↓] Go.wp_at_zero Go.wp_at_succ
def NI(a b:Nat):Bool:=decide (cO a b<0)
theorem Iz(L:List Nat){k:Nat}(d:k<L.length):(bs L)[k]?.getD 0=((L.getD k 0:Nat):Int):=by
 unfold bs
 rw[List.getElem?_map,List.getElem?_eq_getElem d,List.getD_eq_getElem?_getD,List.getElem?_eq_getElem d]
 rfl
def cw(w:World)(g:Nat)(L:List Nat):Prop:=w.heap[g]? =some (.cells ((bs L).map tD).toArray 3 (0,0))
theorem cw.cell{w:World}{g:Nat}{L:List Nat}(h:cw w g L)(j:Nat)(d:j<L.length):w.cell? ⟨g,j,none⟩=some (.int .i64 ((L[j]?.getD 0:Nat):Int)):=by
 rw[cell_of_row w g j _ _ _ h]
 simp[tD,bs,d]
theorem cw.free{w:World}{g:Nat}{L:List Nat}(h:cw w g L)(j:Nat):w.frozen? ⟨g,j,none⟩=false:=frozen_of_row w g j _ _ h
theorem cw.set{w:World}{g:Nat}{L:List Nat}(h:cw w g L)(j x:Nat):cw (w.setCell ⟨g,j,none⟩ (.int .i64 (x:Int))) g (L.set j x):=by
 unfold cw
 rw[heap_setCell_same w g j _ _ _ h]
 simp[tD,bs,List.map_set]
theorem cw.lt{w:World}{g:Nat}{L:List Nat}(h:cw w g L):g<w.heap.size:=(Array.getElem?_eq_some_iff.1 h).1
theorem cw.below{w d:World}{g:Nat}{L:List Nat}(h:cw w g L){B:Nat}(l:Below B w d)(t:g<B):cw d g L:=by
 unfold cw;rw[l.block g t];exact h
theorem cw.all{w d:World}{g:Nat}{L:List Nat}(h:cw w g L)(l:Below w.heap.size w d):cw d g L:=h.below l h.lt
theorem cw.other{w:World}{g:Nat}{L:List Nat}(h:cw w g L){p:Addr}(d:g≠p.block)(u:Value):cw (w.setCell p u) g L:=(Below.heap_setCell w p u g d).trans h
theorem cw.three{w:World}{b g:Nat}{L:List Nat}(h:cw w b L)(d:b≠g)(u u' u'':Value):cw (((w.setCell ⟨g,0,none⟩ u).setCell ⟨g,1,none⟩ u').setCell ⟨g,2,none⟩ u'') b L:=
 ((h.other (p:=⟨g,0,none⟩) d _).other (p:=⟨g,1,none⟩) d _).other (p:=⟨g,2,none⟩) d _
theorem cw.grown{w d:World}{g:Nat}{L:List Nat}(h:cw w g L){o:Option Nat}(l:w.grownBy d o)(t:o≠some g):cw d g L:=(l.block g h.lt t.symm).trans h
theorem bI.other16{w:World}{g:Nat}{L:List Nat}(h:bI w g L){p:Addr}(d:g≠p.block)(u:Value):bI (w.setCell p u) g L:=(Below.heap_setCell w p u g d).trans h
theorem wi(n:Nat):madeCells #[Value.int .i64 0] n=((bs (List.replicate n 0)).map tD).toArray:=by
 apply Array.ext'
 refine List.ext_getElem (by simp[madeCells,bs]) fun i d h=>?_
 simp[madeCells,Nat.mod_one,bs,tD]
theorem cw.made(w:World)(n:Nat):cw (w.alloc (.cells (madeCells #[.int .i64 0] n) 3)) w.heap.size (List.replicate n 0):=by
 unfold cw
 rw[heap_alloc_new w _,wi]
theorem cw.ints{w:World}{g:Nat}{L:List Nat}(h:cw w g L)(l:∀x∈L,x≤1000000):iI w (some ⟨g,0,none⟩) L.length (bs L):=by
 refine⟨by rw[aM];exact Nat.le_refl _,fun x t=>?_,.inr ⟨g,0,rfl,h.lt,fun i d=>?_⟩⟩
 ·obtain⟨y,z,rfl⟩:=List.mem_map.1 t
  have:=l y z
  omega
 ·rw[aM]at d
  rw[Nat.zero_add,h.cell i d,Iz L d,List.getD_eq_getElem?_getD]
theorem BN(W:World)(g n l:Nat)(I:Option Addr)(S:List Nat)(h:cw W g (List.replicate n 0))(M:iI W I l (bs S))(J:S.length=n):
  ∃F,(∀z,(Builtin.copy_ #[32,32] z #[.slice (some ⟨g,0,none⟩) n n,.slice I n l]).run Tryz.prog W=.ok (.int .i64 (n:Int)) F)∧cw F g S∧Below g W F:=by
 rcases Nat.eq_zero_or_pos n with e|e
 ·subst e
  obtain rfl:S= []:=List.eq_nil_of_length_eq_zero J
  exact⟨W,fun z=>run_copy_none W _ _ z 3 _ _ 0 0 0 l Tryz.underlying32 (by kernel_rfl) rfl,h,Below.refl _ _⟩
 ·obtain⟨b,t,rfl,Q,O⟩:=M.ne (by rw[aM];omega)
  have G:∀j v,((bs S).map tD)[j]? =some v→W.cell? ((⟨b,t,none⟩:Addr).add j)=some v:=by
   intro j u D
   rw[List.getElem?_map]at D
   have L:j<S.length:=by
    rcases Nat.lt_or_ge j S.length with e|e
    ·exact e
    ·rw[List.getElem?_eq_none (by rw[aM];exact e)]at D;cases D
   rw[show(⟨b,t,none⟩:Addr).add j=⟨b,t+j,none⟩ by simp[Addr.add],O j (by rw[aM];exact L),←D]
   rw[List.getElem?_eq_getElem (by rw[aM];exact L)]
   rfl
  have d:((bs S).map tD).length=n:=by rw[List.length_map,aM,J]
  have H:=fun z=>run_copy_row Tryz.prog W 32 32 z 3 g 0 n n ⟨b,t,none⟩ n l ((bs (List.replicate n 0)).map tD).toArray 3 ((bs S).map tD) Tryz.underlying32 (by kernel_rfl) h (by rw[d];exact(Nat.min_self n).symm) G (by rw[d];simp[bs]) (fun v N=>by obtain⟨x,_,rfl⟩:=List.mem_map.1 N;rfl)
  refine⟨_,fun z=>(H z).trans (by rw[d];rfl),?_,below_setRow (Below.refl _ _) (Nat.le_refl _) _⟩
  unfold cw
  rw[setRow_heap W g _ _ 3 _ h]
  congr 3
  simp[bs]
theorem wl(n:Nat)(w:World)(L:n≤1000):
  Calls Tryz.prog 100 #[.int .i64 n] w fun e F=>∃g,e=.returned (.slice (some ⟨g,0,none⟩) n n)∧w.heap.size≤g∧cw F g (List.range n)∧Below w.heap.size w F:=by
 have h:=run_make_row' (P:=Tryz.prog) 32 3 (.int .i64 0) 8 Tryz.underlying32 (by kernel_rfl) rfl .i64 .i64 n (by omega) (by omega)
 have l:=ac (cw.made w n)
 rw[show List.replicate n 0=xS id n 0 from(Js id n).symm]at l
 have G:=ac (ag w (.cells (madeCells #[.int .i64 0] n) 3))
 go_enter Tryz.func100,Tryz.ntmps100
 go_wp2_with fail
 clear h
 go_loopw[9] (fun a wr=>∃j:Nat,j≤n∧a=.int .i64 j∧Hid (cw wr w.heap.size (xS id n j))∧Hid (Below w.heap.size w wr)) (fun a _=>n-(intOf a).toNat)
 case atStart=>exact⟨0,Nat.zero_le _,rfl,l,G⟩
 case round=>
  clear l G
  obtain⟨j,O,rfl,d,D⟩:=hrel
  by_cases t:j<n
  ·have I:(j:Int)<(n:Int):=by omega
   have M:=(uH d).cell j (by rw[zP];exact t)
   have N:=(uH d).free j
   have H:=ac ((uH d).set j j)
   rw[show(xS id n j).set j j=xS id n (j+1)from zQ id n j]at H
   have J:=ac ((uH D).setCell (p:=⟨w.heap.size,j,none⟩) (Nat.le_refl _) (.int .i64 (j:Int)))
   clear d D
   go_wp2_with fail
   go_round
   case rel=>exact⟨j+1,by omega,by go_num,H,J⟩
   case measure=>first|(simp[intOf];done)|(simp[intOf];omega)
  ·have z:j=n:=by omega
   subst z
   rw[show xS id j j=List.range j from by rw[vO,List.map_id]]at d
   go_wp2_with fail
   go_ret
   exact⟨_,rfl,Nat.le_refl _,uH d,uH D⟩
theorem Mb(n c m j k l:Nat)(J:Option Addr)(d:Nat→List Nat)(P:Nat→Nat)(w:World)(ae:n≤1000)(hc:c≤1000)(hj:j<c)(hk:k<c)(h:ak w J l (bs (d 0)))(L:∀i,(d i).length=n)
  (hP:P 0=0∧P m=n∧∀i,i<m→P i+c=P (i+1)∧P (i+1)≤n∧((d i).set (P i+j) ((d i)[P i+k]?.getD 0)).set (P i+k) ((d i)[P i+j]?.getD 0)=d (i+1)):
  Calls Tryz.prog 102 #[.slice J n l,.int .i64 c,.int .i64 j,.int .i64 k] w fun e w'=>∃g,e=.returned (.slice (some ⟨g,0,none⟩) n n)∧w.heap.size≤g∧bI w' g (d m)∧Below w.heap.size w w':=by
 have M:=run_make_row' (P:=Tryz.prog) 23 28 (.int .u64 0) 8 Tryz.underlying23 (by kernel_rfl) rfl .i64 .i64 n (by omega) (by omega)
 have N:=ag w (.cells (madeCells #[.int .u64 0] n) 28)
 obtain⟨w5,aa,t,z⟩:=vY _ w.heap.size n l J (d 0) (bI.made w n) (h.below N) (L 0)
 have S0:=ac t
 have B0:=ac (N.trans z)
 obtain⟨D,F,G⟩:=hP
 have HP:=ac G;have O:=ac L;have Q:=ac D;have T:=ac F
 clear G L h t z N D F
 go_enter Tryz.func102,Tryz.ntmps102
 go_wp2_with fail
 clear M aa
 go_loopw[10] (fun a wr=>∃i:Nat,i≤m∧a=.int .i64 (P i:Nat)∧Hid (bI wr w.heap.size (d i))∧Hid (Below w.heap.size w wr)) (fun a _=>n-(intOf a).toNat)
 case atStart=>exact⟨0,Nat.zero_le _,by rw[uH Q];rfl,S0,B0⟩
 case round=>
  clear S0 B0
  obtain⟨i,hi,rfl,h,hB⟩:=hrel
  by_cases U:i<m
  ·obtain⟨e1,e2,e3⟩:=uH HP i U
   generalize ad:P i=p at*
   generalize H:P (i+1)=p2 at*
   have ai:(p:Int)<(n:Int):=by omega
   have a1:(p:Int)+(j:Int)<(n:Int):=by omega
   have a2:(p:Int)+(k:Int)<(n:Int):=by omega
   have w1:IntKind.i64.wrap ((p:Int)+(j:Int))=(p:Int)+(j:Int):=br _ (by omega)
   have w2:IntKind.i64.wrap ((p:Int)+(k:Int))=(p:Int)+(k:Int):=br _ (by omega)
   have w3:IntKind.i64.wrap ((p:Int)+(c:Int))=(p2:Int):=(br _ (by omega)).trans (by omega)
   have w4:(p:Int)+(c:Int)=(p2:Int):=by omega
   obtain⟨x,hx⟩:∃x,p+j=x:=⟨_,rfl⟩
   obtain⟨y,hy⟩:∃y,p+k=y:=⟨_,rfl⟩
   have x1:(p:Int)+(j:Int)=(x:Int):=by omega
   have y1:(p:Int)+(k:Int)=(y:Int):=by omega
   rw[hx,hy]at e3
   rw[x1]at a1 w1
   rw[y1]at a2 w2
   have d1:=(uH h).cell x (by rw[uH O];omega)
   have d2:=(uH h).cell y (by rw[uH O];omega)
   have f1:=(uH h).free x
   have f2:=(uH h).free y
   generalize hu:((d i)[x]?.getD 0)=u at*
   generalize hv:((d i)[y]?.getD 0)=v at*
   have I:=(uH h).set x v
   have f3:=I.free y
   have d3:=I.cell y (by rw[List.length_set,uH O];omega)
   generalize (((d i).set x v)[y]?.getD 0)=u3 at d3
   have T2:=ac (I.set y u)
   rw[e3]at T2
   have B1:=ac (((uH hB).setCell (p:=⟨w.heap.size,x,none⟩) (Nat.le_refl _) (.int .u64 (v:Int))).setCell (p:=⟨w.heap.size,y,none⟩) (Nat.le_refl _) (.int .u64 (u:Int)))
   have V:=ac e1;have X:=ac e2;have Y:=ac H
   clear h hB I e1 e2 e3 hx hy ad H hu hv
   go_wp2_with fail
   go_region_with (fail "NO ARM")
   all_goals
    go_wp2_with fail
    go_round
    case rel=>exact⟨i+1,by omega,by rw[uH Y],T2,ac ((uH B1).drew)⟩
    case measure=>have:=uH V;have:=uH X;first|(simp[intOf];done)|(simp[intOf];omega)
  ·have Z:i=m:=by omega
   subst Z
   rw[uH T]
   go_wp2_with fail
   go_ret
   exact⟨_,rfl,Nat.le_refl _,uH h,uH hB⟩
theorem Mc(n c m j k l:Nat)(J:Option Addr)(d:Nat→List Nat)(P:Nat→Nat)(w:World)(ae:n≤1000)(hc:c≤1000)(hj:j<c)(hk:k<c)(h:iI w J l (bs (d 0)))(L:∀i,(d i).length=n)
  (hP:P 0=0∧P m=n∧∀i,i<m→P i+c=P (i+1)∧P (i+1)≤n∧((d i).set (P i+j) ((d i)[P i+k]?.getD 0)).set (P i+k) ((d i)[P i+j]?.getD 0)=d (i+1)):
  Calls Tryz.prog 103 #[.slice J n l,.int .i64 c,.int .i64 j,.int .i64 k] w fun e w'=>∃g,e=.returned (.slice (some ⟨g,0,none⟩) n n)∧w.heap.size≤g∧cw w' g (d m)∧Below w.heap.size w w':=by
 have M:=run_make_row' (P:=Tryz.prog) 32 3 (.int .i64 0) 8 Tryz.underlying32 (by kernel_rfl) rfl .i64 .i64 n (by omega) (by omega)
 have N:=ag w (.cells (madeCells #[.int .i64 0] n) 3)
 obtain⟨w5,aa,t,z⟩:=BN _ w.heap.size n l J (d 0) (cw.made w n) (h.below N) (L 0)
 have S0:=ac t
 have B0:=ac (N.trans z)
 obtain⟨D,F,G⟩:=hP
 have HP:=ac G;have O:=ac L;have Q:=ac D;have T:=ac F
 clear G L h t z N D F
 go_enter Tryz.func103,Tryz.ntmps103
 go_wp2_with fail
 clear M aa
 go_loopw[10] (fun a wr=>∃i:Nat,i≤m∧a=.int .i64 (P i:Nat)∧Hid (cw wr w.heap.size (d i))∧Hid (Below w.heap.size w wr)) (fun a _=>n-(intOf a).toNat)
 case atStart=>exact⟨0,Nat.zero_le _,by rw[uH Q];rfl,S0,B0⟩
 case round=>
  clear S0 B0
  obtain⟨i,hi,rfl,h,hB⟩:=hrel
  by_cases U:i<m
  ·obtain⟨e1,e2,e3⟩:=uH HP i U
   generalize ad:P i=p at*
   generalize H:P (i+1)=p2 at*
   have ai:(p:Int)<(n:Int):=by omega
   have a1:(p:Int)+(j:Int)<(n:Int):=by omega
   have a2:(p:Int)+(k:Int)<(n:Int):=by omega
   have w1:IntKind.i64.wrap ((p:Int)+(j:Int))=(p:Int)+(j:Int):=br _ (by omega)
   have w2:IntKind.i64.wrap ((p:Int)+(k:Int))=(p:Int)+(k:Int):=br _ (by omega)
   have w3:IntKind.i64.wrap ((p:Int)+(c:Int))=(p2:Int):=(br _ (by omega)).trans (by omega)
   have w4:(p:Int)+(c:Int)=(p2:Int):=by omega
   obtain⟨x,hx⟩:∃x,p+j=x:=⟨_,rfl⟩
   obtain⟨y,hy⟩:∃y,p+k=y:=⟨_,rfl⟩
   have x1:(p:Int)+(j:Int)=(x:Int):=by omega
   have y1:(p:Int)+(k:Int)=(y:Int):=by omega
   rw[hx,hy]at e3
   rw[x1]at a1 w1
   rw[y1]at a2 w2
   have d1:=(uH h).cell x (by rw[uH O];omega)
   have d2:=(uH h).cell y (by rw[uH O];omega)
   have f1:=(uH h).free x
   have f2:=(uH h).free y
   generalize hu:((d i)[x]?.getD 0)=u at*
   generalize hv:((d i)[y]?.getD 0)=v at*
   have I:=(uH h).set x v
   have f3:=I.free y
   have d3:=I.cell y (by rw[List.length_set,uH O];omega)
   generalize (((d i).set x v)[y]?.getD 0)=u3 at d3
   have T2:=ac (I.set y u)
   rw[e3]at T2
   have B1:=ac (((uH hB).setCell (p:=⟨w.heap.size,x,none⟩) (Nat.le_refl _) (.int .i64 (v:Int))).setCell (p:=⟨w.heap.size,y,none⟩) (Nat.le_refl _) (.int .i64 (u:Int)))
   have V:=ac e1;have X:=ac e2;have Y:=ac H
   clear h hB I e1 e2 e3 hx hy ad H hu hv
   go_wp2_with fail
   go_region_with (fail "NO ARM")
   all_goals
    go_wp2_with fail
    go_round
    case rel=>exact⟨i+1,by omega,by rw[uH Y],T2,ac ((uH B1).drew)⟩
    case measure=>have:=uH V;have:=uH X;first|(simp[intOf];done)|(simp[intOf];omega)
  ·have Z:i=m:=by omega
   subst Z
   rw[uH T]
   go_wp2_with fail
   go_ret
   exact⟨_,rfl,Nat.le_refl _,uH h,uH hB⟩
theorem Fe(a b:Nat):cO a b= -1∨cO a b=0∨cO a b=1:=by
 unfold cO cU
 repeat' split
 all_goals simp
theorem rZ(a b:Nat)(w:World)(l:a<18446744073709551616)(t:b<18446744073709551616):
  Calls Tryz.prog 45 #[.int .u64 a,.int .u64 b] w fun r d=>r=.returned (.bool (decide (cO a b<0)))∧Below w.heap.size w d:=by
 have C:=fun d=>pF a b d l t
 have z:cB a b=false→cO a b=0:=by
  unfold cB cO
  split
  ·intro _;rfl
  ·intro e;cases e
 cases hc:cB a b
 ·have h:=z hc
  rw[h,hc]at C
  rw[h]
  exact oJ a b 0 false false false w (.inl ⟨rfl,rfl,rfl,rfl⟩) C
 ·rw[hc]at C
  rcases Fe a b with e|e|e
  ·rw[e]at C⊢
   exact oJ a b (-1) true true false w (.inr (.inl ⟨rfl,rfl,rfl,rfl⟩)) C
  ·rw[e]at C⊢
   exact oJ a b 0 true false true w (.inr (.inr (.inl ⟨rfl,rfl,rfl,rfl⟩))) C
  ·rw[e]at C⊢
   exact oJ a b 1 true false false w (.inr (.inr (.inr ⟨rfl,rfl,rfl,rfl⟩))) C
theorem wo(k n b m l m' d h H:Nat)(o:Bool)(w:World)(O:H≤d)(Q:H≤h)(L:d≠h)(T:cw w d [b])(U:bI w h [m])(ho:(o=true∧l=k∧m'=n)∨(o=false∧l=b∧m'=m))
  (C1:∀D,Calls Tryz.prog 45 #[.int .u64 m,.int .u64 n] D fun e V=>e=.returned (.bool o)∧Below D.heap.size D V):
  Calls Tryz.prog 184 #[.int .i64 k,.int .u64 n,.pointer (some ⟨h,0,none⟩),.pointer (some ⟨d,0,none⟩)] w fun e D=>e=.returned (.int .i64 l)∧cw D d [l]∧bI D h [m']∧Below H w D:=by
 have M:=ac C1
 have c1:w.cell? ⟨h,0,none⟩=some (.int .u64 (m:Nat)):=by simpa using U.cell 0 (by simp)
 have aa:=T.lt
 have G:=ac T;have I:=ac U
 clear C1 T U
 rcases ho with⟨rfl,rfl,rfl⟩|⟨rfl,rfl,rfl⟩
 ·go_enter Tryz.func184,Tryz.ntmps184
  go_wp2_with fail
  refine(uH M _).mono ?_
  rintro e F ⟨rfl,t⟩
  have z:=(uH G).below t (uH G).lt
  have J:=(uH I).below t (uH I).lt
  have c2:F.cell? ⟨h,0,none⟩=some (.int .u64 (m:Nat)):=by simpa using J.cell 0 (by simp)
  have c3:F.cell? ⟨d,0,none⟩=some (.int .i64 (b:Nat)):=by simpa using z.cell 0 (by simp)
  have f1:=z.free 0
  have B2:=z.set 0 l
  have N:=J.other16 (p:=⟨d,0,none⟩) (by exact fun e=>L e.symm) (.int .i64 (l:Int))
  have c4:(F.setCell ⟨d,0,none⟩ (.int .i64 (l:Int))).cell? ⟨h,0,none⟩=some (.int .u64 (m:Nat)):=by simpa using N.cell 0 (by simp)
  have f2:=N.free 0
  have M3:=N.set 0 m'
  have X:=B2.other (p:=⟨h,0,none⟩) (by exact L) (.int .u64 (m':Int))
  have c5:((F.setCell ⟨d,0,none⟩ (.int .i64 (l:Int))).setCell ⟨h,0,none⟩ (.int .u64 (m':Int))).cell? ⟨d,0,none⟩=some (.int .i64 (l:Nat)):=by simpa using X.cell 0 (by simp)
  have BW:Below H w ((F.setCell ⟨d,0,none⟩ (.int .i64 (l:Int))).setCell ⟨h,0,none⟩ (.int .u64 (m':Int))):=((t.mono (show H≤w.heap.size by omega)).setCell (p:=⟨d,0,none⟩) O _).setCell (p:=⟨h,0,none⟩) Q _
  have Y:=ac X;have Z:=ac M3;have Q3:=ac BW
  clear z J B2 N M3 X BW t M c1 G I
  go_wp2_with fail
  go_ret
  exact⟨rfl,by simpa using uH Y,by simpa using uH Z,uH Q3⟩
 ·go_enter Tryz.func184,Tryz.ntmps184
  go_wp2_with fail
  refine(uH M _).mono ?_
  rintro e F ⟨rfl,t⟩
  have z:=(uH G).below t (uH G).lt
  have J:=(uH I).below t (uH I).lt
  have c3:F.cell? ⟨d,0,none⟩=some (.int .i64 (l:Nat)):=by simpa using z.cell 0 (by simp)
  have Y:=ac z;have Z:=ac J;have Q3:=ac (t.mono (show H≤w.heap.size by omega))
  clear z J t M c1 G I
  go_wp2_with fail
  go_ret
  exact⟨rfl,uH Y,uH Z,uH Q3⟩
theorem yy(j:Nat)(w:World):
  Calls Tryz.prog 155 #[.int .i64 j] w fun e l=>∃d h,e=.returned (.func (.func 184) #[] #[.pointer (some ⟨h,0,none⟩),.pointer (some ⟨d,0,none⟩)])∧w.heap.size≤d∧w.heap.size≤h∧d≠h∧cw l d [j]∧bI l h [0]∧Below w.heap.size w l:=by
 have t:cw (w.alloc (.cells #[.int .i64 (j:Int)] 3)) w.heap.size [j]:=heap_alloc_new w _
 have z:=ag w (.cells #[.int .i64 (j:Int)] 3)
 have F:=aH w (.cells #[.int .i64 (j:Int)] 3)
 have G:bI ((w.alloc (.cells #[.int .i64 (j:Int)] 3)).alloc (.cells #[.int .u64 0] 28)) (w.heap.size+1) [0]:=by
  have:=heap_alloc_new (w.alloc (.cells #[.int .i64 (j:Int)] 3)) (.cells #[.int .u64 0] 28)
  rw[F]at this
  exact this
 have D:=ag (w.alloc (.cells #[.int .i64 (j:Int)] 3)) (.cells #[.int .u64 0] 28)
 have H:=ac (t.below D t.lt)
 have I:=ac G
 have J:=ac (z.trans (D.mono z.size))
 clear t z F G D
 go_enter Tryz.func155,Tryz.ntmps155
 go_wp2_with fail
 go_ret
 exact⟨_,_,rfl,Nat.le_refl _,Nat.le_add_right _ _,by omega,uH H,uH I,uH J⟩
structure BO (w wr:World) (r c n cap gb gm b m:Nat) (ro:Option Addr):Prop where
 bel:Below w.heap.size w wr
 a:aT wr w.heap.size (.int .i64 r) (.int .i64 c) (.slice ro n cap)
 hb:cw wr gb [b]
 hm:bI wr gm [m]
 lb:w.heap.size+1≤gb
 lm:w.heap.size+1≤gm
 ne:gb≠gm
theorem BO.all{w wr l:World}{r c n d z D b m:Nat}{F:Option Addr}(t:BO w wr r c n d z D b m F)(h:Below wr.heap.size wr l):BO w l r c n d z D b m F:=
 ⟨t.bel.trans (h.mono t.bel.size),t.a.all h,t.hb.below h t.hb.lt,t.hm.below h t.hm.lt,t.lb,t.lm,t.ne⟩
theorem wu(r c n D j L z:Nat)(O:Option Addr)(S:List Nat)(X:Nat→List Nat)(N B M:Nat→Nat)(f F:Nat→Bool)(w:World)(hr:r≤6)(hc:c≤6)(hj:j<r)(hL:r-j=L)(hz:j+z=c)(G:ak w O D (bs S))(aa:B 0=j∧M 0=0)(ad:F 0=true)
  (ae:∀t,t<z→F (t+1)=(F t&&f (j+t))∧M t<18446744073709551616∧N (j+t)<18446744073709551616∧((cO (M t) (N (j+t))<0∧B (t+1)=j+t∧M (t+1)=N (j+t))∨(¬cO (M t) (N (j+t))<0∧B (t+1)=B t∧M (t+1)=M t))) (ai:∀t,t<z→F (t+1)=false→F z=false)
  (C1:∀l k,j≤k→k<c→ak l O D (bs S)→Calls Tryz.prog 99 #[.agg #[.int .i64 r,.int .i64 c,.slice O n D],.int .i64 (j:Nat),.int .i64 (k:Nat),.int .i64 (L:Nat),.int .i64 1] l fun e J=>∃Q d,e=.returned (.tuple #[.agg #[.int .i64 (L:Nat),.int .i64 1,.slice Q L d],.int .i64 0])∧ak J Q d (bs (X k))∧Below l.heap.size l J)
  (C2:∀l k Q d,j≤k→k<c→Below w.heap.size w l→ak l Q d (bs (X k))→Calls Tryz.prog 156 #[.slice Q L d] l fun e J=>e=.returned (.tuple #[.int .u64 (N k:Nat),.int .i64 0])∧Below l.heap.size l J)
  (C3:∀l k,j≤k→k<c→Calls Tryz.prog 98 #[.int .u64 (N k:Nat)] l fun e J=>e=.returned (.bool (f k))∧Below l.heap.size l J):
  Calls Tryz.prog 101 #[.agg #[.int .i64 r,.int .i64 c,.slice O n D],.int .i64 (j:Nat)] w fun e l=>((F z=true∧e=.returned (.tuple #[.int .i64 (B z:Nat),.int .i64 0]))∨(F z=false∧e=.returned (.tuple #[.int .i64 0,.int .i64 2])))∧Below w.heap.size w l:=by
 have b0:=ag w (.cells #[.int .i64 r,.int .i64 c,.slice O n D] 25)
 have s0:=aH w (.cells #[.int .i64 r,.int .i64 c,.slice O n D] 25)
 have HX:=ac (aT.new w (.int .i64 r) (.int .i64 c) (.slice O n D))
 have HB:=ac b0
 have HS:=ac G
 have K0:=ac (yy j (w.alloc (.cells #[.int .i64 r,.int .i64 c,.slice O n D] 25)))
 rw[s0]at K0
 have K1:=ac C1;have K2:=ac C2;have K3:=ac C3;have ap:=ac ae;have aq:=ac ai;have U:=ac aa;have am:=ac ad
 have eL:IntKind.i64.wrap ((r:Int)-(j:Int))=(L:Int):=(br _ (by omega)).trans (by omega)
 have aD:(r:Int)-(j:Int)=(L:Int):=by omega
 clear b0 s0 G C1 C2 C3 ae ai aa ad hL
 go_enter Tryz.func101,Tryz.ntmps101
 go_wp2_with fail
 refine(uH K0).mono ?_
 rintro e w1 ⟨Z,gm,rfl,lb,lm,az,h1,h2,I⟩
 have b1:Below w.heap.size w w1:=(uH HB).trans (I.mono (Nat.le_succ _))
 have ST:Hid (BO w w1 r c n D Z gm (B 0) (M 0) O):=ac (by
  have e:=uH U
  rw[e.1,e.2]
  have T:=(uH HX).lt
  exact⟨b1,(uH HX).below I (Nat.lt_succ_self _),h1,h2,lb,lm,az⟩)
 clear K0 HB HX I h1 h2 b1
 go_wp2_with fail
 go_loopw[6,8] (fun p a wr=>∃t:Nat,t≤z∧p=.int .i64 (B t:Nat)∧a=.int .i64 ((j+t:Nat):Int)∧Hid (F t=true)∧Hid (BO w wr r c n D Z gm (B t) (M t) O)) (fun _ a _=>c-(intOf a).toNat)
 case atStart=>exact⟨0,Nat.zero_le _,by rw[(uH U).1],by first|rfl|simp,am,ST⟩
 case round=>
  clear ST U am
  obtain⟨t,a2,rfl,rfl,hF,G⟩:=hrel
  obtain⟨k,hk⟩:∃k,j+t=k:=⟨_,rfl⟩
  have V:=ac (fun h=>uH ap t h)
  have Y:=ac (fun h=>uH aq t h)
  rw[hk]at V⊢
  have y0:=(uH G).a.c0;have y1:=(uH G).a.c1;have y2:=(uH G).a.c2
  by_cases T:k<c
  ·have aI:(k:Int)<(c:Int):=by omega
   obtain⟨q1,q2,q3,q4⟩:=uH V (by omega)
   have G1:=ac (uH K1 wr k (by omega) T ((uH HS).below (uH G).bel))
   have G2:=ac (fun l Q d=>uH K2 l k Q d (by omega) T)
   have G3:=ac (fun l=>uH K3 l k (by omega) T)
   have G4:=ac (fun l=>rZ (M t) (N k) l q2 q3)
   have a0:IntKind.i64.wrap ((k:Int)+1)=(k:Int)+1:=br _ (by omega)
   have QF:=ac q1;have Q4:=ac q4
   clear q1 q2 q3 q4 V
   go_wp2_with fail
   clear y0 y1 y2
   refine(uH G1).mono ?_
   rintro e w2 ⟨Q,d,rfl,hx,I⟩
   have ba:=ag w2 (.cells #[.int .i64 (L:Int),.int .i64 1,.slice Q L d] 25)
   have CB:=aT.new w2 (.int .i64 (L:Int)) (.int .i64 1) (.slice Q L d)
   replace G:=ac (((uH G).all I).all ba)
   have HX:=ac (hx.below ba)
   have y2:=CB.c2
   clear I hx ba G1 CB
   go_wp2_with fail
   clear y2
   refine(uH G2 _ Q d (uH G).bel (uH HX)).mono ?_
   rintro e w3 ⟨rfl,I⟩
   replace G:=ac ((uH G).all I)
   clear I HX G2
   go_wp2_with fail
   refine(uH G3 _).mono ?_
   rintro e w4 ⟨rfl,I⟩
   replace G:=ac ((uH G).all I)
   clear I G3
   cases hf:f k with
   |false=>
    have ax:Hid (F z=false):=ac (uH Y (by omega) (by rw[uH QF,hf,Bool.and_false]))
    have BW:=ac (uH G).bel
    clear G Q4 G4 QF Y
    go_wp2_with fail
    exact bodyPost_ret (v:=.tuple #[.int .i64 0,.int .i64 2]) (by simp[results,Tryz.results101,go_sem]) rfl ⟨.inr ⟨uH ax,rfl⟩,uH BW⟩
   |true=>
    have ao:Hid (F (t+1)=true):=ac (by rw[uH QF,hf,uH hF];rfl)
    clear QF Y
    have H:=uH G
    have NL:=Nat.lt_of_lt_of_le (Nat.lt_succ_self w.heap.size) H.lb
    have G5:Hid (Calls Tryz.prog 184 #[.int .i64 k,.int .u64 (N k:Nat),.pointer (some ⟨gm,0,none⟩),.pointer (some ⟨Z,0,none⟩)] w4 fun e l=>e=.returned (.int .i64 (B (t+1):Nat))∧cw l Z [B (t+1)]∧bI l gm [M (t+1)]∧Below (w.heap.size+1) w4 l):=ac (by
     rcases uH Q4 with⟨g,e1,e2⟩|⟨g,e1,e2⟩
     ·have:=wo k (N k) (B t) (M t) (B (t+1)) (M (t+1)) Z gm (w.heap.size+1) true w4 H.lb H.lm H.ne H.hb H.hm (.inl ⟨rfl,by rw[e1],e2⟩) (fun l=>by have:=uH G4 l;rwa[decide_eq_true (show cO (M t) (N k)<0 by omega)]at this)
      exact this
     ·have:=wo k (N k) (B t) (M t) (B (t+1)) (M (t+1)) Z gm (w.heap.size+1) false w4 H.lb H.lm H.ne H.hb H.hm (.inr ⟨rfl,e1,e2⟩) (fun l=>by have:=uH G4 l;rwa[decide_eq_false (show¬cO (M t) (N k)<0 by omega)]at this)
      exact this)
    clear H Q4 G4
    go_wp2_with fail
    refine(uH G5).mono ?_
    rintro e w5 ⟨rfl,h1,h2,I⟩
    have H:=uH G
    have S5:Hid (BO w w5 r c n D Z gm (B (t+1)) (M (t+1)) O):=ac ⟨H.bel.trans (I.mono (Nat.le_succ _)),H.a.below I (Nat.lt_succ_self _),h1,h2,H.lb,H.lm,H.ne⟩
    clear H G h1 h2 I G5
    go_wp2_with fail
    go_round
    case rel=>exact⟨t+1,by omega,rfl,by first|go_num|(simp;omega),ao,S5⟩
    case measure=>first|(simp[intOf];done)|(simp[intOf];omega)
  ·have ay:t=z:=by omega
   subst ay
   have a1:¬(k:Int)<(c:Int):=by omega
   have BW:=ac (uH G).bel
   clear G
   go_wp2_with fail
   exact bodyPost_ret (v:=.tuple #[.int .i64 (B t:Nat),.int .i64 0]) (by simp[results,Tryz.results101,go_sem]) rfl ⟨.inl ⟨uH hF,rfl⟩,uH BW⟩
end Go.Proofs.YtmpkkhackbpflaaGreatDoor
