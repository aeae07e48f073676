/- Part 46 of the texts. -/
import Derived.Test.YtnnfjeieennffaaGreatDoorPartc45
set_option maxHeartbeats 8000000
set_option maxRecDepth 20000
namespace Go.Proofs.YtnnfjeieennffaaGreatDoor
open Go.RowKit
attribute [local go_sem ↓] Go.wp_at_zero Go.wp_at_succ
theorem wg(t x y p o k n m c d K f L:Nat)(z A D F:Nat)(w:World)(hk:k<n)(hm:k<m)
  (M:w.cell? ⟨K,0,none⟩=some (.slice (some ⟨z,A,none⟩) n c)) (N:w.cell? ⟨f,0,none⟩=some (.slice (some ⟨D,F,none⟩) m d)) (O:w.cell? ⟨L,0,none⟩=some (.int .u64 (t:Nat)))
  (Q:w.cell? ⟨z,A+k,none⟩=some (.int .u64 (x:Nat))) (U:w.cell? ⟨D,F+k,none⟩=some (.int .u64 (y:Nat)))
  (V:∀w',Below w.heap.size w w'→Calls Tryz.prog 176 #[.int .u64 t,.int .u64 y] w' fun r l=>r=.returned (.int .u64 (p:Nat))∧Below w'.heap.size w' l)
  (X:∀w',Below w.heap.size w w'→Calls Tryz.prog 149 #[.int .u64 x,.int .u64 p] w' fun r l=>r=.returned (.int .u64 (o:Nat))∧Below w'.heap.size w' l):
  Calls Tryz.prog 177 #[.int .i64 k,.pointer (some ⟨K,0,none⟩),.pointer (some ⟨L,0,none⟩),.pointer (some ⟨f,0,none⟩)] w fun e w'=>e=.returned (.int .u64 (o:Nat))∧Below w.heap.size w w':=by
 have Z:=aa V;have K2:=aa X
 have ae:(k:Int)<(n:Int):=by omega
 have aj:(k:Int)<(m:Int):=by omega
 have Y:=aa (fun w' (h:Below w.heap.size w w')=>(show Below w.heap.size w w'∧w'.cell? ⟨K,0,none⟩=some (.slice (some ⟨z,A,none⟩) n c)∧w'.cell? ⟨f,0,none⟩=some (.slice (some ⟨D,F,none⟩) m d)∧w'.cell? ⟨z,A+k,none⟩=some (.int .u64 (x:Nat))∧w'.cell? ⟨D,F+k,none⟩=some (.int .u64 (y:Nat))∧w'.cell? ⟨L,0,none⟩=some (.int .u64 (t:Nat))from
  ⟨h,ai M h,ai N h,ai Q h,ai U h,ai O h⟩))
 clear V X M N Q U O
 go_enter Tryz.func177,Tryz.ntmps177
 go_wp2_with fail
 go_region_held3(fun w'=>Below w.heap.size w w'∧w'.cell? ⟨K,0,none⟩=some (.slice (some ⟨z,A,none⟩) n c)∧w'.cell? ⟨f,0,none⟩=some (.slice (some ⟨D,F,none⟩) m d)∧w'.cell? ⟨z,A+k,none⟩=some (.int .u64 (x:Nat))∧w'.cell? ⟨D,F+k,none⟩=some (.int .u64 (y:Nat))∧w'.cell? ⟨L,0,none⟩=some (.int .u64 (t:Nat)))
  (first|exact uH Y _ (Below.refl _ _).drew|exact uH Y _ (by assumption)|fail "KK")
  (first|(go_at_call 176;refine(uH Z _ (And.left (by assumption))).mono ?_;rintro e w1 ⟨rfl,G⟩;have am:Below w.heap.size w w1:=Below.trans (And.left (by assumption)) (G.mono (Below.size (And.left (by assumption))));clear G)|(go_at_call 149;refine(uH K2 _ (And.left (by assumption))).mono ?_;rintro e w2 ⟨rfl,H⟩;have ao:Below w.heap.size w w2:=Below.trans (And.left (by assumption)) (H.mono (Below.size (And.left (by assumption))));clear H)|fail "NO ARM")
 go_wp2
 go_ret
 exact⟨rfl,And.left (by assumption)⟩
structure IE (w:World) (v:Value) (H:Nat) (xo vo:Option Addr) (n xc m vc t:Nat):Prop where
 ex:∃bx bt bv,v=.func (.func 177) #[] #[.pointer (some ⟨bx,0,none⟩),.pointer (some ⟨bt,0,none⟩),.pointer (some ⟨bv,0,none⟩)]∧H≤bx∧H≤bt∧H≤bv∧w.cell? ⟨bx,0,none⟩=some (.slice xo n xc)∧w.cell? ⟨bt,0,none⟩=some (.int .u64 (t:Nat))∧w.cell? ⟨bv,0,none⟩=some (.slice vo m vc)
theorem zq(l G:Option Addr)(n z m H K d t:Nat)(w:World)
  (Q:∀w',Below w.heap.size w w'→Calls Tryz.prog 175 #[.slice G m H,.slice l n z] w' fun e A=>e=.returned (.tuple #[.int .u64 (d:Nat),.int .i64 0])∧Below w'.heap.size w' A)
  (U:∀w',Below w.heap.size w w'→Calls Tryz.prog 176 #[.int .u64 K,.int .u64 d] w' fun e A=>e=.returned (.int .u64 (t:Nat))∧Below w'.heap.size w' A):
  Calls Tryz.prog 152 #[.slice l n z,.slice G m H,.int .u64 K] w fun e w'=>∃v,e=.returned v∧IE w' v w.heap.size l G n z m H t∧Below w.heap.size w w':=by
 have V:=aa Q;have X:=aa U
 clear Q U
 have M:=ac w (.cells #[.slice l n z] 22)
 have Y:=dq w (.slice l n z) 22
 have Z:=an w (.cells #[.slice l n z] 22)
 have N:=ac (w.alloc (.cells #[.slice l n z] 22)) (.cells #[.slice G m H] 22)
 have O:=dq (w.alloc (.cells #[.slice l n z] 22)) (.slice G m H) 22
 have y1:=ai Y N
 rw[Z]at O
 have h:=aa (show Below w.heap.size w ((w.alloc (.cells #[.slice l n z] 22)).alloc (.cells #[.slice G m H] 22))from M.trans (N.mono M.size))
 have D:=aa y1;have F:=aa O
 clear M Y Z N O y1
 go_enter Tryz.func152,Tryz.ntmps152
 go_wp2_with fail
 refine(uH V _ (uH h)).mono ?_
 rintro e w1 ⟨rfl,f⟩
 replace D:=aa (ai (uH D) f)
 replace F:=aa (ai (uH F) f)
 replace h:=aa ((uH h).trans (f.mono (uH h).size))
 clear f V
 go_wp2_with fail
 refine(uH X _ (uH h)).mono ?_
 rintro e w2 ⟨rfl,f⟩
 replace D:=aa (ai (uH D) f)
 replace F:=aa (ai (uH F) f)
 replace h:=aa ((uH h).trans (f.mono (uH h).size))
 clear f X
 have L:=ac w2 (.cells #[.int .u64 (t:Nat)] 31)
 have x3:=aa (dq w2 (.int .u64 (t:Nat)) 31)
 replace D:=aa (ai (uH D) L)
 replace F:=aa (ai (uH F) L)
 have HS:=aa (uH h).size
 replace h:=aa ((uH h).trans (L.mono (uH h).size))
 clear L
 go_wp2
 go_ret
 exact⟨_,rfl,⟨_,_,_,rfl,Nat.le_refl _,uH HS,Nat.le_succ _,uH D,uH x3,uH F⟩,uH h⟩
theorem wh(l m:Option Addr)(t z h:Nat)(f d:List Nat)(w:World)(H:ad w l t (az f))(K:ad w m z (az d))(A:f.length=d.length)(L:d.length≤64)(M:h<18446744073709551616)(G:cC w):
  Calls Tryz.prog 152 #[.slice l f.length t,.slice m d.length z,.int .u64 h] w fun e w'=>∃v,e=.returned v∧IE w' v w.heap.size l m f.length t d.length z (mV h (vB 0 d f))∧Below w.heap.size w w':=by
 refine zq l m f.length t d.length z h (vB 0 d f) _ w (fun w' F=>?_) (fun w' F=>?_)
 ·have D:=BJ m l z t (az d) (az f) w' (K.below F) (H.below F) (G.all F)
  have g:II (az d) (az f)=true:=decide_eq_true ⟨by rw[al];exact L,by rw[al,al,A]⟩
  rw[if_pos g,if_pos g,rk (az d) (az f) (az d).length (Nat.le_refl _) (by rw[al,al,A];exact Nat.le_refl _),cE,cE,al,al,List.take_of_length_le (Nat.le_refl _),List.take_of_length_le (by rw[A];exact Nat.le_refl _)]at D
  exact D
 ·refine oo h (vB 0 d f) w' M ?_ (G.all F)
  have:=iF (az d) (az f) (az d).length
  rwa[rk (az d) (az f) (az d).length (Nat.le_refl _) (by rw[al,al,A];exact Nat.le_refl _),cE,cE,al,List.take_of_length_le (Nat.le_refl _),List.take_of_length_le (by rw[A];exact Nat.le_refl _)]at this
structure kT (w wr:World) (r c n cap:Nat) (ao:Option Addr) (S:List Nat):Prop where
 bel:Below w.heap.size w wr
 m:aw wr w.heap.size (.int .i64 r) (.int .i64 c) (.slice ao n cap)
 res:aw wr (w.heap.size+1) (.int .i64 0) (.int .i64 0) (.slice none 0 0)
 row:bg wr (w.heap.size+1+1) S
theorem kT.all{w wr w':World}{r c n d:Nat}{l:Option Addr}{S:List Nat}(h:kT w wr r c n d l S)(f:Below wr.heap.size wr w'):kT w w' r c n d l S:=
 ⟨h.bel.trans (f.mono h.bel.size),h.m.all f,h.res.all f,h.row.below f h.row.lt⟩
theorem kT.set{w wr:World}{r c n d:Nat}{f:Option Addr}{S:List Nat}(h:kT w wr r c n d f S)(p x:Nat):kT w (wr.setCell ⟨w.heap.size+1+1,p,none⟩ (.int .u64 (x:Int))) r c n d f (S.set p x):=
 ⟨h.bel.setCell (p:=⟨w.heap.size+1+1,p,none⟩) (by show w.heap.size≤w.heap.size+1+1;omega) _,h.m.other (p:=⟨w.heap.size+1+1,p,none⟩) (by show w.heap.size≠w.heap.size+1+1;omega) _,h.res.other (p:=⟨w.heap.size+1+1,p,none⟩) (by show w.heap.size+1≠w.heap.size+1+1;omega) _,h.row.set p x⟩
theorem kT.start(w:World)(r c n d:Nat)(f:Option Addr):
  kT w (((w.alloc (.cells #[.int .i64 r,.int .i64 c,.slice f n d] 24)).alloc (.cells #[.int .i64 0,.int .i64 0,.slice none 0 0] 24)).alloc (.cells (madeCells #[.int .u64 0] n) 31)) r c n d f (List.replicate n 0):=by
 have m:=ac w (.cells #[.int .i64 r,.int .i64 c,.slice f n d] 24)
 have H:=an w (.cells #[.int .i64 r,.int .i64 c,.slice f n d] 24)
 have K:=aw.new w (.int .i64 r) (.int .i64 c) (.slice f n d)
 generalize w.alloc (.cells #[.int .i64 r,.int .i64 c,.slice f n d] 24)=h at*
 have t:=ac h (.cells #[.int .i64 0,.int .i64 0,.slice none 0 0] 24)
 have z:=an h (.cells #[.int .i64 0,.int .i64 0,.slice none 0 0] 24)
 have A:=aw.new h (.int .i64 0) (.int .i64 0) (.slice none 0 0)
 generalize h.alloc (.cells #[.int .i64 0,.int .i64 0,.slice none 0 0] 24)=G at*
 have l:=ac G (.cells (madeCells #[.int .u64 0] n) 31)
 have D:=bg.made G n
 rw[H]at A z
 rw[z]at D
 have F:=m.trans (t.mono m.size)
 exact⟨F.trans (l.mono F.size),(K.all t).all l,A.all l,D⟩
theorem kT.copied{w wr w':World}{r c n d:Nat}{l:Option Addr}{S T:List Nat}(h:kT w wr r c n d l S)(f:Below (w.heap.size+1+1) wr w')(t:bg w' (w.heap.size+1+1) T):kT w w' r c n d l T:=
 ⟨h.bel.trans (f.mono (by omega)),h.m.below f (by omega),h.res.below f (by omega),t⟩
structure rC (w wr:World) (r c n cap:Nat) (ao:Option Addr) (S:List Nat) (bx bt bv:Nat) (po vo:Option Addr) (L pc vc t:Nat) (X:List Int):Prop where
 st:kT w wr r c n cap ao S
 lx:w.heap.size+1+1+1≤bx
 lt:w.heap.size+1+1+1≤bt
 lv:w.heap.size+1+1+1≤bv
 cx:wr.cell? ⟨bx,0,none⟩=some (.slice po L pc)
 ct:wr.cell? ⟨bt,0,none⟩=some (.int .u64 (t:Nat))
 cv:wr.cell? ⟨bv,0,none⟩=some (.slice vo L vc)
 x:ad wr po pc X
 nx:bD (w.heap.size+1+1+1) po X
theorem rC.all{w wr w':World}{r c n d:Nat}{l:Option Addr}{S:List Nat}{m z A:Nat}{D F:Option Addr}{L G H t:Nat}{X:List Int}(h:rC w wr r c n d l S m z A D F L G H t X)(f:Below wr.heap.size wr w'):rC w w' r c n d l S m z A D F L G H t X:=
 ⟨h.st.all f,h.lx,h.lt,h.lv,ai h.cx f,ai h.ct f,ai h.cv f,h.x.below f,h.nx⟩
theorem rC.set{w wr:World}{r c n d:Nat}{z:Option Addr}{S:List Nat}{f l m:Nat}{A D:Option Addr}{L F G t:Nat}{X:List Int}(h:rC w wr r c n d z S f l m A D L F G t X)(p x:Nat):rC w (wr.setCell ⟨w.heap.size+1+1,p,none⟩ (.int .u64 (x:Int))) r c n d z (S.set p x) f l m A D L F G t X:=by
 have H:=h.lx;have K:=h.lt;have M:=h.lv
 refine⟨h.st.set p x,H,K,M,?_,?_,?_,h.x.far h.nx (by omega) p _,h.nx⟩
 ·rw[ah _ _ _ _ (show f≠w.heap.size+1+1 by omega)];exact h.cx
 ·rw[ah _ _ _ _ (show l≠w.heap.size+1+1 by omega)];exact h.ct
 ·rw[ah _ _ _ _ (show m≠w.heap.size+1+1 by omega)];exact h.cv
theorem ui(r c n f i k L Y aj:Nat)(H Z:Option Addr)(T:Nat→Nat→List Nat)(X:Nat→List Int)(P U:Nat→Nat→Nat)(t:Nat→Nat)(w:World)(bc:n≤36)(h6:c≤6)(be:r≤6)(bi:i+L≤r)(hk:k≤c)
  (l:ad w H f (az (T k 0))) (lT:∀d j,(T d j).length=n) (G:∀d,T d L=T (d+1) 0)
  (hP:∀d j,k≤d→d<c→j<L→P d j<n∧(i+j)*c+d=P d j∧(T d j).set (P d j) (U d j)=T d (j+1))
  (C1:∀w' d,Below w.heap.size w w'→k≤d→d<c→Calls Tryz.prog 69 #[.agg #[.int .i64 r,.int .i64 c,.slice H n f],.int .i64 i,.int .i64 (d:Nat),.int .i64 L,.int .i64 1] w' fun e D=>∃h z,e=.returned (.tuple #[.agg #[.int .i64 L,.int .i64 1,.slice h L z],.int .i64 0])∧bD w'.heap.size h (X d)∧ad D h z (X d)∧Below w'.heap.size w' D)
  (C2:∀w' d h z,Below w.heap.size w w'→k≤d→d<c→ad w' h z (X d)→Calls Tryz.prog 152 #[.slice h L z,.slice Z L Y,.int .u64 aj] w' fun e D=>∃v,e=.returned v∧IE D v w'.heap.size h Z L z L Y (t d)∧Below w'.heap.size w' D)
  (C3:∀w' d j h z bx bt bv,Below w.heap.size w w'→k≤d→d<c→j<L→ad w' h z (X d)→w'.cell? ⟨bx,0,none⟩=some (.slice h L z)→w'.cell? ⟨bt,0,none⟩=some (.int .u64 (t d:Nat))→w'.cell? ⟨bv,0,none⟩=some (.slice Z L Y)→Calls Tryz.prog 177 #[.int .i64 (j:Nat),.pointer (some ⟨bx,0,none⟩),.pointer (some ⟨bt,0,none⟩),.pointer (some ⟨bv,0,none⟩)] w' fun e D=>e=.returned (.int .u64 (U d j:Nat))∧Below w'.heap.size w' D):
  Calls Tryz.prog 124 #[.agg #[.int .i64 r,.int .i64 c,.slice H n f],.int .i64 i,.int .i64 k,.slice Z L Y,.int .u64 aj] w fun e w'=>∃g,e=.returned (.agg #[.int .i64 r,.int .i64 c,.slice (some ⟨g,0,none⟩) n n])∧w.heap.size≤g∧bg w' g (T c 0)∧Below w.heap.size w w':=by
 have A:=aa (kT.start w r c n f H)
 have a1:=run_make_row' (P:=Tryz.prog) 22 31 (.int .u64 0) 8 Tryz.underlying22 (by kernel_rfl) rfl .i64 .i64 n (by omega) (by omega)
 have HP:=aa hP;have K1:=aa C1;have K2:=aa C2;have K3:=aa C3;have LT:=aa lT;have HX:=aa G
 obtain⟨w5,a9,aI,a0⟩:=tJ _ (w.heap.size+1+1) n f H (T k 0) (uH A).row (l.below (uH A).bel) (lT k 0)
 have am:=aa ((uH A).copied a0 aI)
 clear hP C1 C2 C3 lT l aI a0 G
 have y0:=(uH A).m.c0;have O:=(uH A).m.c1;have y2:=(uH A).m.c2
 go_enter Tryz.func124,Tryz.ntmps124
 go_wp2_with fail
 clear a1 a9 y0 O y2 A
 go_loopw[12] (fun a wr=>∃d:Nat,k≤d∧d≤c∧a=.int .i64 d∧Hid (kT w wr r c n f H (T d 0))) (fun a _=>c-(intOf a).toNat)
 case atStart=>exact⟨k,Nat.le_refl _,hk,rfl,am⟩
 case round=>
  clear am
  obtain⟨d,M,bo,rfl,l⟩:=hrel
  by_cases K:d<c
  ·have bj:(d:Int)<(c:Int):=by omega
   have y0:=(uH l).m.c0;have O:=(uH l).m.c1;have y2:=(uH l).m.c2
   go_wp2_with fail
   clear y0 O y2
   refine(uH K1 _ d (uH l).bel M K).mono ?_
   rintro e w2 ⟨h,z,rfl,hn,hx,F⟩
   have S2:=aa ((uH l).all F)
   have HN:=aa (bD.least hn (show w.heap.size+1+1+1≤wr.heap.size from(uH l).row.lt))
   have HB:=aa hx
   clear hn hx F l
   go_wp2_with fail
   have ba:=ac w2 (.cells #[.int .i64 L,.int .i64 1,.slice h L z] 24)
   replace S2:=aa ((uH S2).all ba)
   replace HB:=aa ((uH HB).below ba)
   clear ba
   have HL:=aa (show w.heap.size+1+1+1≤(w2.alloc (.cells #[.int .i64 L,.int .i64 1,.slice h L z] 24)).heap.size from(uH S2).row.lt)
   refine(uH K2 _ d h z (uH S2).bel M K (uH HB)).mono ?_
   rintro e w3 ⟨v,rfl,hv,F⟩
   obtain⟨bx,bt,bv,rfl,l1,l2,l3,c1,c2,c3⟩:=hv.ex
   have S3:=aa (show rC w w3 r c n f H (T d 0) bx bt bv h Z L z Y (t d) (X d)from⟨(uH S2).all F,Nat.le_trans (uH HL) l1,Nat.le_trans (uH HL) l2,Nat.le_trans (uH HL) l3,c1,c2,c3,(uH HB).below F,uH HN⟩)
   clear hv F l1 l2 l3 c1 c2 c3 S2 HN HB HL
   have KC:=aa (fun w' j F hj hx N h2 h3=>uH K3 w' d j h z bx bt bv F M K hj hx N h2 h3)
   have a2:=aa (fun j hj=>uH HP d j M K hj)
   have a3:=aa (uH LT d)
   have a4:=aa (uH HX d)
   generalize bp:T d=TD at*
   generalize bq:U d=UD at*
   generalize bz:P d=PD at*
   generalize t d=td at*
   generalize X d=XD at*
   go_wp2_with fail
   go_loopw[48] (fun a wr=>∃j:Nat,j≤L∧a=.int .i64 j∧Hid (rC w wr r c n f H (TD j) bx bt bv h Z L z Y td XD)) (fun a _=>L-(intOf a).toNat)
   case atStart=>exact⟨0,Nat.zero_le _,rfl,S3⟩
   case round=>
    clear S3
    obtain⟨j,hj,rfl,l⟩:=hrel
    by_cases ax:j<L
    ·have bm:(j:Int)<(L:Int):=by omega
     obtain⟨hp,ae,Q⟩:=uH a2 j ax
     have KJ:=aa (fun w' F hx N h2 h3=>uH KC w' j F ax hx N h2 h3)
     have LL:=aa (uH a3 j);have HN:=aa Q
     clear Q
     obtain⟨a,ha⟩:∃a,i+j=a:=⟨_,rfl⟩
     rw[ha]at ae
     obtain⟨q,hq⟩:∃q,a*c=q:=⟨_,rfl⟩
     rw[hq]at ae
     have e1:IntKind.i64.wrap ((i:Int)+(j:Int))=(a:Int):=(aR _ (by omega)).trans (by omega)
     have e2:IntKind.i64.wrap ((a:Int)*(c:Int))=(q:Int):=by
      rw[bY a c,hq]
      exact aR _ (by omega)
     have e3:IntKind.i64.wrap ((q:Int)+(d:Int))=(PD j:Int):=(aR _ (by omega)).trans (by omega)
     have e4:(i:Int)+(j:Int)=(a:Int):=by omega
     have e5:(a:Int)*(c:Int)=(q:Int):=by rw[bY a c,hq]
     have e6:(q:Int)+(d:Int)=(PD j:Int):=by omega
     have w1:IntKind.i64.wrap (a:Int)=(a:Int):=aR _ (by omega)
     have w2:IntKind.i64.wrap (q:Int)=(q:Int):=aR _ (by omega)
     have w3:IntKind.i64.wrap (PD j:Int)=(PD j:Int):=aR _ (by omega)
     generalize bA:TD j=TT at*
     generalize bb:TD (j+1)=TN at*
     generalize PD j=p at*
     generalize UD j=u at*
     have bn:(p:Int)<(n:Int):=by omega
     clear hq ae ha
     go_wp2_with fail
     refine aq (fun W=>rC w W r c n f H TT bx bt bv h Z L z Y td XD) (uH l) ?_
     clear l
     intro W st
     have A:=aa (st.all ((Below.refl W.heap.size W).drew))
     clear st
     have O:=(uH A).st.m.c1
     go_region_with (first
      |(go_at_call 177;refine(uH KJ _ (uH A).st.bel (uH A).x (uH A).cx (uH A).ct (uH A).cv).mono ?_;rintro e w8 ⟨rfl,F⟩;clear O;have S8:=(uH A).all F;have O:=S8.st.m.c1;have d1:=S8.st.row.cell p (by rw[uH LL];exact hp);have a5:=S8.st.row.free p;have P9:=aa (S8.set p u);clear S8 F A KJ)
      |fail "NO ARM")
     all_goals
      clear d1 a5 O
      go_wp2_with fail
      go_round
      case rel=>exact⟨j+1,by omega,by go_num,by rw[bb,←uH HN];exact P9⟩
      case measure=>simp[intOf];omega
    ·have a6:j=L:=by omega
     subst a6
     have S4:=aa (uH l).st
     rw[uH a4]at S4
     clear l
     go_wp2_with fail
     go_round
     case rel=>exact⟨d+1,by omega,by omega,by go_num,S4⟩
     case measure=>simp[intOf];omega
  ·have a7:d=c:=by omega
   subst a7
   obtain⟨h6,N,V,h5⟩:=uH l
   have y0:=N.c0;have O:=N.c1;have y2:=N.c2
   have r0:=V.c0;have r1:=V.c1;have r2:=V.c2
   have f0:=V.free 0;have f1:=V.free 1;have f2:=V.free 2
   have XP:=V.put (.int .i64 r) (.int .i64 d) (.slice (some ⟨w.heap.size+1+1,0,none⟩) n n)
   have z0:=XP.c0;have z1:=XP.c1;have z2:=XP.c2
   have RW:=aa (h5.three (g:=w.heap.size+1) (by omega) (.int .i64 r) (.int .i64 d) (.slice (some ⟨w.heap.size+1+1,0,none⟩) n n))
   have BP:=aa (aA h6 (b:=w.heap.size+1) (by omega) (.int .i64 r) (.int .i64 d) (.slice (some ⟨w.heap.size+1+1,0,none⟩) n n))
   clear XP N V h5 h6 l
   go_wp2_with fail
   exact bodyPost_ret (v:=.agg #[.int .i64 r,.int .i64 d,.slice (some ⟨w.heap.size+1+1,0,none⟩) n n]) (by simp[results,Tryz.results124,go_sem,z0,z1,z2]) rfl ⟨_,rfl,by omega,uH RW,uH BP⟩
theorem Gp(r c:Int)(l:Option Addr)(n d:Nat)(i k:Int)(G:Option Addr)(L H t:Nat)(w:World)
  (A:∀w',Calls Tryz.prog 51 #[.agg #[.int .i64 r,.int .i64 c,.slice l n d]] w' fun e z=>e=.returned (.int .i64 1)∧Below w'.heap.size w' z):
  Calls Tryz.prog 76 #[.agg #[.int .i64 r,.int .i64 c,.slice l n d],.int .i64 i,.int .i64 k,.slice G L H,.int .u64 t] w fun e w'=>∃v,e=.returned (.tuple #[v,.int .i64 1])∧bS w.heap.size w' 0 0 [] v∧Below w.heap.size w w':=by
 have K:=aa (A ((w.alloc (.cells #[.int .i64 r,.int .i64 c,.slice l n d] 24)).alloc (.cells #[.int .i64 0,.int .i64 0,.slice none 0 0] 24)))
 simp only[an]at K
 have D:=aa (lI w (.int .i64 r) (.int .i64 c) (.slice l n d) (.int .i64 0) (.int .i64 0) (.slice none 0 0))
 clear A
 go_enter Tryz.func76,Tryz.ntmps76
 go_wp2_with fail
 refine Calls.mono (uH K) ?_
 rintro e Q ⟨rfl,h⟩
 obtain⟨F,O,f⟩:=uH D Q h
 clear K D h O
 have U:=f.free 0;have V:=f.free 1;have X:=f.free 2
 have Y:=f.c0;have Z:=f.c1;have s2:=f.c2
 have m:=f.put (.int .i64 0) (.int .i64 0) (.slice none 0 0)
 have M:=m.c0;have z1:=m.c1;have z2:=m.c2
 have N:=aa (aA F (b:=w.heap.size+1) (by omega) (.int .i64 0) (.int .i64 0) (.slice none 0 0))
 clear m f F
 go_wp2
 refine bodyPost_ret (v:=.tuple #[.agg #[.int .i64 0,.int .i64 0,.slice none 0 0],_]) (by simp[results,Tryz.results76,go_sem,M,z1,z2]) rfl ⟨_,rfl,bS.zero _ _,uH N⟩
theorem zr(r c n d i k L N t:Nat)(m O:Option Addr)(S:List Nat)(w:World)(H:r≤6)(hi:i+L≤r)(hk:k≤c)
  (U:∀w',Calls Tryz.prog 51 #[.agg #[.int .i64 r,.int .i64 c,.slice m n d]] w' fun e h=>e=.returned (.int .i64 0)∧Below w'.heap.size w' h)
  (V:∀w',Below w.heap.size w w'→Calls Tryz.prog 124 #[.agg #[.int .i64 r,.int .i64 c,.slice m n d],.int .i64 i,.int .i64 k,.slice O L N,.int .u64 t] w' fun e h=>∃g,e=.returned (.agg #[.int .i64 r,.int .i64 c,.slice (some ⟨g,0,none⟩) n n])∧w'.heap.size≤g∧bg h g S∧Below w'.heap.size w' h):
  Calls Tryz.prog 76 #[.agg #[.int .i64 r,.int .i64 c,.slice m n d],.int .i64 i,.int .i64 k,.slice O L N,.int .u64 t] w fun e w'=>∃g,e=.returned (.tuple #[.agg #[.int .i64 r,.int .i64 c,.slice (some ⟨g,0,none⟩) n n],.int .i64 0])∧w.heap.size+2≤g∧bg w' g S∧Below w.heap.size w w':=by
 have K:=aa (U ((w.alloc (.cells #[.int .i64 r,.int .i64 c,.slice m n d] 24)).alloc (.cells #[.int .i64 0,.int .i64 0,.slice none 0 0] 24)))
 simp only[an]at K
 have X:=aa (lI w (.int .i64 r) (.int .i64 c) (.slice m n d) (.int .i64 0) (.int .i64 0) (.slice none 0 0))
 have Y:=aa V
 have Z:=aa (show w.heap.size+2≤((w.alloc (.cells #[.int .i64 r,.int .i64 c,.slice m n d] 24)).alloc (.cells #[.int .i64 0,.int .i64 0,.slice none 0 0] 24)).heap.size by rw[an,an];omega)
 have hw:IntKind.i64.wrap ((r:Int)-(L:Int))=(r:Int)-(L:Int):=aR _ (by omega)
 have h1:(i:Int)≤(r:Int)-(L:Int):=by omega
 have h2:(k:Int)≤(c:Int):=by omega
 clear U V
 go_enter Tryz.func76,Tryz.ntmps76
 go_wp2_with fail
 refine Calls.mono (uH K) ?_
 rintro e w1 ⟨rfl,l⟩
 obtain⟨A,G,f⟩:=uH X w1 l
 have z:=aa (Nat.le_trans (uH Z) l.size)
 clear K X l Z
 have a0:=G.c0;have a1:=G.c1;have a2:=G.c2
 have D:=aa A;have HX:=aa f
 clear A G f
 go_wp2_with fail
 clear a0 a1 a2
 refine(uH Y _ (uH D)).mono ?_
 rintro e w2 ⟨g,rfl,hg,H,M⟩
 have A:=(uH D).trans (M.mono (uH D).size)
 have f:=(uH HX).all M
 have HG:=aa (Nat.le_trans (uH z) hg)
 have f0:=f.free 0;have f1:=f.free 1;have f2:=f.free 2
 have s0:=f.c0;have s1:=f.c1;have s2:=f.c2
 have F:=f.put (.int .i64 r) (.int .i64 c) (.slice (some ⟨g,0,none⟩) n n)
 have z0:=F.c0;have z1:=F.c1;have z2:=F.c2
 have Q:=aa (H.three (g:=w.heap.size+1) (by have:=uH HG;omega) (.int .i64 r) (.int .i64 c) (.slice (some ⟨g,0,none⟩) n n))
 have BP:=aa (aA A (b:=w.heap.size+1) (by omega) (.int .i64 r) (.int .i64 c) (.slice (some ⟨g,0,none⟩) n n))
 clear A f M hg H F D HX Y z
 go_wp2
 exact bodyPost_ret (v:=.tuple #[.agg #[.int .i64 r,.int .i64 c,.slice (some ⟨g,0,none⟩) n n],.int .i64 0]) (by simp[results,Tryz.results76,go_sem,z0,z1,z2]) rfl ⟨_,rfl,uH HG,uH Q,uH BP⟩
theorem IF{r c:Nat}{S:List Nat}(f:∀p q,gJ c S p q<18446744073709551616)(i k:Nat)(h:List Nat)(d:Nat):∀x∈mT r c S i k h d,x<18446744073709551616:=by
 intro x l
 unfold mT fu at l
 obtain⟨p,_,rfl⟩:=List.mem_map.1 l
 show(if _ then _ else _)<_
 split
 ·rename_i g
  exact vF c S i _ h d (by omega) f
 ·exact f _ _
theorem wi(c:Nat)(S:List Nat)(i d n:Nat):IL c S i d n 1=dg c S i n d:=by
 unfold IL fu dg
 rw[Nat.mul_one]
 refine List.map_congr_left (fun p _=>?_)
 show gJ c S (i+p/1) (d+p%1)=_
 rw[Nat.div_one,Nat.mod_one,Nat.add_zero]
theorem oS(r c m i k H f:Nat)(G K:Option Addr)(S l:List Nat)(w:World)(h:Mx w G m r c S)(hV:ad w K H (az l))(U:i+l.length≤r)(hk:k≤c)(ht:f<18446744073709551616)(hT:cC w):
  Calls Tryz.prog 76 #[.agg #[.int .i64 r,.int .i64 c,.slice G S.length m],.int .i64 i,.int .i64 k,.slice K l.length H,.int .u64 f] w fun e w'=>∃g,e=.returned (.tuple #[.agg #[.int .i64 r,.int .i64 c,.slice (some ⟨g,0,none⟩) S.length S.length],.int .i64 0])∧w.heap.size+2≤g∧bg w' g (mT r c S i k l f)∧Below w.heap.size w w':=by
 have aj:=h.small
 have r6:=h.2.2.1
 have c6:=h.2.2.2
 refine zr r c S.length m i k l.length H f G K (mT r c S i k l f) w r6 U hk (fun w'=>?_) (fun w' Z=>?_)
 ·have:=jX (r:Int) (c:Int) G S.length m w' (by omega)
  rw[if_pos (Cc h)]at this
  exact this
 have hM:=h.below Z
 have N:=hV.below Z
 have O:=hT.all Z
 rw[←wX r c S i k l f c (Nat.le_refl _)]
 refine ui r c S.length m i k l.length H f G K (fun d j=>tG r c S i k l f d j) (fun d=>az (dg c S i l.length d)) (fun d j=>(i+j)*c+d) (fun d j=>(Cs c S i d l f).getD j 0) (fun d=>mV f (vB 0 l (dg c S i l.length d))) w' aj c6 r6 U hk
  (by show ad w' G m (az (tG r c S i k l f k 0));rw[Gk r c S i k l f h.2.1];exact hM.1) (fun d j=>by rw[rh,h.2.1]) (fun d=>tH r c S i k l f d)
  (fun d j V A F=>⟨by rw[h.2.1];exact gD (by omega) A,rfl,wY r c S U A V F⟩) (fun z d t V A=>?_) (fun z d X L t V A hX=>?_) (fun z d j X L bx bt bv t V A F hX Y ae hv=>?_)
 ·refine(kO r c m i d l.length 1 G S z (hM.below t) U (by omega)).mono ?_
  rintro e M ⟨v,rfl,⟨X,L,rfl,hn,Y⟩,D⟩
  rw[wi]at hn Y⊢
  rw[bh]
  exact⟨X,L,rfl,hn,Y,D⟩
 ·have I:=wh X K L H f (dg c S i l.length d) l z hX (N.below t) (bh _ _ _ _ _) (by omega) ht (O.all t)
  rw[bh]at I
  exact I
 ·have am:=N.below t
  have Q:=O.all t
  obtain⟨b1,o1,e1,_,z1⟩:=hX.ne (by rw[al,bh];omega)
  obtain⟨b2,o2,e2,_,z2⟩:=am.ne (by rw[al];omega)
  subst e1
  subst e2
  have q1:=z1 j (by rw[al,bh];exact F)
  have q2:=z2 j (by rw[al];exact F)
  rw[fG,rg c S i l.length d F]at q1
  rw[fG]at q2
  have lv:l.getD j 0<18446744073709551616:=by
   have:=hV.lt j
   rwa[fG]at this
  show Calls _ _ _ z fun e M=>e=.returned (.int .u64 ((Cs c S i d l f).getD j 0:Nat))∧_
  rw[ri c S i d l f F]
  exact wg _ _ _ (mV (mV f (vB 0 l (dg c S i l.length d))) (l.getD j 0)) _ j l.length l.length L H bx bv bt b1 o1 b2 o2 z F F Y hv ae q1 q2
   (fun M D=>oo _ _ M (iZ _ _) lv (Q.all D)) (fun M D=>kP _ _ M (h.el_lt _ _) (iZ _ _) (Q.all D))
theorem zt(r c f i k t d:Nat)(z A:Option Addr)(S m:List Nat)(w:World)(h:Mx w z f r c S)(F:ad w A t (az m))(G:i+m.length≤r)(H:k≤c)(K:d<18446744073709551616)(L:cC w):
  Calls Tryz.prog 76 #[.agg #[.int .i64 r,.int .i64 c,.slice z S.length f],.int .i64 i,.int .i64 k,.slice A m.length t,.int .u64 d] w fun e w'=>∃v,e=.returned (.tuple #[v,.int .i64 0])∧bS w.heap.size w' r c (mT r c S i k m d) v∧Below w.heap.size w w':=by
 refine(oS r c f i k t d z A S m w h F G H K L).mono ?_
 rintro e w' ⟨g,rfl,O,M,N⟩
 have l:S.length=(mT r c S i k m d).length:=by rw[gL,h.2.1]
 have D:=M.bits (IF (fun p q=>h.el_lt p q) i k m d)
 refine⟨_,rfl,⟨_,S.length,by rw[l],.inr ⟨g,0,rfl,by omega⟩,?_⟩,N⟩
 rw[l]
 exact D
end Go.Proofs.YtnnfjeieennffaaGreatDoor
namespace Go.Proofs.YtnnfjeieennffaaGreatDoor
open Go.RowKit
theorem FS(a b:Nat)(h:ap (aV a b)=true):ap a=true:=by
 by_cases d:fK a=4
 ·unfold aV at h
  rw[if_pos (.inl d)]at h
  exact absurd h (by decide+kernel)
 by_cases f:fK a=3
 ·unfold aV at h
  by_cases l:fK b=4
  ·rw[if_pos (.inr l)]at h
   exact absurd h (by decide+kernel)
  ·rw[if_neg (fun e=>e.elim d l),if_pos f]at h
   split at h
   ·exact absurd h (by decide+kernel)
   ·exact h
 exact bf a f d
theorem Dp(d:List Nat):cY d=true↔∀k,k<d.length→ap (d.getD k 0)=true:=by
 unfold cY
 rw[mW]
 exact⟨fun h k f=>by have:=h k f;rwa[fG]at this,fun h k f=>by rw[fG];exact h k f⟩
theorem FT{r c:Nat}{S:List Nat}(z:S.length=r*c)(i k:Nat)(l:List Nat)(d:Nat)(h:cY (mT r c S i k l d)=true):cY S=true:=by
 rw[Dp]at h⊢
 intro x m
 rw[gL]at h
 rw[z]at m
 obtain⟨A,D,t⟩:=kJ m
 have f:ap (gJ c (mT r c S i k l d) (x/c) (x%c))=true:=by
  have:=h x m
  unfold gJ
  rwa[t]
 rw[Jv r c S i k l d A D]at f
 have e:S.getD x 0=gJ c S (x/c) (x%c):=by unfold gJ;rw[t]
 rw[e]
 split at f
 ·rename_i g
  rw[ri c S i (x%c) l d (j:=x/c-i) (by omega)]at f
  have:=FS _ _ f
  rwa[show i+(x/c-i)=x/c by omega]at this
 ·exact f
theorem Dq(m r:Nat)(d:m<9223372036854775808)(f:r<9223372036854775808)(h:9218868437227405312≤m∨9218868437227405312≤r):9218868437227405312≤mx m r∧mx m r<9223372036854775808:=by
 obtain⟨l,z,A⟩:=iE m d
 obtain⟨t,D,F⟩:=iE r f
 unfold mx
 split
 ·decide
 ·rw[l,t]
  rcases Nat.lt_or_ge m r with g|g
  ·have:=jT g
   rw[if_pos (by omega)]
   omega
  ·have:=kg g
   rw[if_neg (by omega)]
   omega
theorem FU(m r:Nat)(d:m<9223372036854775808)(f:r<9223372036854775808):mx m r<9223372036854775808:=by
 unfold mx
 repeat' split
 ·decide
 ·exact f
 ·exact d
theorem FW:∀(d:List Nat) (m:Nat),m<9223372036854775808→(9218868437227405312≤m∨∃x∈d,ap x=false)→9218868437227405312≤fO m d∧fO m d<9223372036854775808:=by
 intro d
 induction d with
 |nil=>
  intro m f h
  rcases h with h|⟨x,A,_⟩
  ·exact⟨h,f⟩
  ·cases A
 |cons x d ih=>
  intro m f h
  have D:=jF x
  show 9218868437227405312≤fO (mx m (fR x)) d∧fO (mx m (fR x)) d<9223372036854775808
  have z:=FU m (fR x) f (by omega)
  refine ih _ z ?_
  rcases h with h|⟨y,l,t⟩
  ·exact .inl (Dq m (fR x) f (by omega) (.inl h)).1
  ·rcases List.mem_cons.1 l with e|l
   ·subst e
    refine .inl (Dq m _ f (by omega) (.inr ?_)).1
    rcases Nat.lt_or_ge (fR y) 9218868437227405312 with g|g
    ·rw[(aQ y).2.2.2 g]at t;cases t
    ·exact g
   ·exact .inr ⟨y,l,t⟩
theorem xp(d:List Nat)(h:ap (jn d)=true):∀x∈d,ap x=true:=by
 intro x m
 cases hf:ap x with
 |true=>rfl
 |false=>
  exfalso
  obtain⟨t,l⟩:=FW d 0 (by decide) (.inr ⟨x,m,hf⟩)
  obtain⟨z,A,D⟩:=iE (fO 0 d) l
  have f:ap (fO 0 d)=false:=by
   cases hq:ap (fO 0 d)with
   |false=>rfl
   |true=>have:=iA _ hq;omega
  have e:jn d=fO 0 d:=by unfold jn;rw[if_pos (.inr f)]
  rw[e,f]at h
  cases h
theorem FX(d:List Nat)(f:∀x∈d,x<18446744073709551616∧ap x=true):Ju 5000 d:=by
 refine⟨f,.inr ?_⟩
 obtain⟨l,_⟩:=re d 0 (by decide) (fun x h=>(f x h).2)
 have:=ou (fO 0 d) (by omega)
 omega
theorem FY(d:List Nat)(G:d.length≤64)(A:∀x∈d,x<18446744073709551616)(h:ap (jn d)=true):fS (jn d)=false:=by
 have D:=xp d h
 have H:=FX d (fun x h=>⟨A x h,D x h⟩)
 by_cases m:fO 0 d=0
 ·have e:jn d=0:=by unfold jn;rw[if_pos (.inl m)];exact m
  rw[e];decide
 obtain⟨k,F⟩:∃k,eX (fO 0 d)=k:=⟨_,rfl⟩
 obtain⟨b1,Y,b3,b4,b5,b6,b7,t,y,Z,b9,z⟩:=Fp 5000 d H m
 rw[F]at t z
 have K:jn d=xV (sV (wR k 0 d)) k:=by
  unfold jn
  rw[if_neg (by rw[Y];simp[m]),F]
 have L:1≤lF k d:=by have:=Ff k d y Z;grind
 have M:(d.length:Rat)≤64:=Rat.natCast_le_natCast.2 G
 have N:lF k d≤256:=by have:=Ic k d t;grind
 have O:=Rat.mul_nonneg (show 0≤64-(d.length:Rat) by grind) (show 0≤lF k d by grind)
 have Q:fQ 0=0:=lE 0 (by decide)
 obtain⟨e1,e2,e3⟩:=H9 k (lF k d) L N d 0 0 0 (fun x f=>⟨A x f,D x f,t x f⟩) (by decide) (by decide) (by grind) (by grind) (by rw[Q];unfold ab;grind)
 generalize wR k 0 d=s at*
 have e4:9007199254740992*ab (fQ s-lF k d)≤130*lF k d:=by
  have:(0:Rat)+lF k d=lF k d:=Rat.zero_add _
  rw[this]at e3
  grind
 have l:=kF (fQ s-lF k d)
 have s1:1≤2*fQ s:=by grind
 have U:fK s≠0:=fun e=>by
  have:=lE s e
  grind
 obtain⟨r1,r2,r3,r4,r5,r6,r7⟩:=Bu s e1 U e2
 have V:fK (sV s)≠0:=fun e=>by
  have:=(aS (sV s)).1 e
  omega
 rw[K,q8 _ _ r1 V]
 have X:=cN (fD (sV s)).natAbs (fX (sV s)+k)
 rw[gP _ _ (by omega)]
 exact r2
def ut(N:Nat→Nat)(j:Nat):Nat→Nat
 |0=>0
 |t+1=>if cO (ut N j t) (N (j+t))<0 then N (j+t)else ut N j t
def JF(N:Nat→Nat)(j:Nat):Nat→Nat
 |0=>j
 |t+1=>if cO (ut N j t) (N (j+t))<0 then j+t else JF N j t
theorem xq{a b:Nat}(d:ap a=true)(f:ap b=true):cO a b<0↔fZ a<fZ b:=by
 have h:=(bB d).2;have l:=(bB f).2
 unfold cO bs
 rw[if_neg (fun e=>e.elim h l)]
 repeat' split
 all_goals omega
theorem Dr{a:Nat}(h:fS a=false):0≤fZ a:=by
 unfold fZ
 rw[h]
 exact Int.natCast_nonneg _
theorem Gq(N:Nat→Nat)(j:Nat)(h:∀k,N k<18446744073709551616):∀t,ut N j t<18446744073709551616
 |0=>by show 0<18446744073709551616;decide
 |t+1=>by
  show(if _ then _ else _)<_
  split
  ·exact h _
  ·exact Gq N j h t
theorem Jz(r c:Nat)(S:List Nat)(j:Nat)(N:r≤6)(G:∀x∈S,x<18446744073709551616):∀t,rH r c S j t=true→
  JF (eJ r c S j) j t=oT r c S j t∧ap (ut (eJ r c S j) j t)=true∧((t=0∧ut (eJ r c S j) j t=0)∨(0<t∧ap (eJ r c S j (oT r c S j t))=true∧fZ (ut (eJ r c S j) j t)=fZ (eJ r c S j (oT r c S j t)))):=by
 intro t
 induction t with
 |zero=>intro _;exact⟨rfl,(by show ap 0=true;decide),.inl ⟨rfl,rfl⟩⟩
 |succ t ih=>
  intro M
  have h:(rH r c S j t&&ap (eJ r c S j (j+t)))=true:=M
  rw[Bool.and_eq_true]at h
  obtain⟨z,A,L⟩:=ih h.1
  have f:=h.2
  have H:fS (eJ r c S j (j+t))=false:=FY _ (by rw[bh];omega) (ru G _ _ _ _) f
  show(if cO (ut _ j t) (eJ r c S j (j+t))<0 then j+t else JF _ j t)=(if cO (eJ r c S j (oT r c S j t)) (eJ r c S j (j+t))<0 then j+t else oT r c S j t)∧ap (if cO (ut _ j t) (eJ r c S j (j+t))<0 then eJ r c S j (j+t)else ut _ j t)=true∧
   ((t+1=0∧_)∨(0<t+1∧ap (eJ r c S j (if cO (eJ r c S j (oT r c S j t)) (eJ r c S j (j+t))<0 then j+t else oT r c S j t))=true∧fZ (if cO (ut _ j t) (eJ r c S j (j+t))<0 then eJ r c S j (j+t)else ut _ j t)=fZ (eJ r c S j (if cO (eJ r c S j (oT r c S j t)) (eJ r c S j (j+t))<0 then j+t else oT r c S j t))))
  have O:=Dr H
  rcases L with⟨rfl,e⟩|⟨U,D,F⟩
  ·have l:oT r c S j 0=j:=rfl
   have Q:fZ 0=0:=(iE 0 (by decide)).1.trans (by decide)
   rw[l,e,z,l]
   rw[Nat.add_zero]at*
   have K:¬cO (eJ r c S j j) (eJ r c S j j)<0:=fun q=>by have:=(xq f f).1 q;omega
   rw[if_neg K]
   by_cases d:cO 0 (eJ r c S j j)<0
   ·rw[if_pos d,if_pos d]
    exact⟨rfl,f,.inr ⟨by omega,f,rfl⟩⟩
   ·rw[if_neg d,if_neg d]
    refine⟨rfl,by decide,.inr ⟨by omega,f,?_⟩⟩
    have:¬fZ 0<fZ (eJ r c S j j):=fun q=>d ((xq (by decide) f).2 q)
    omega
  ·have m:cO (ut (eJ r c S j) j t) (eJ r c S j (j+t))<0↔cO (eJ r c S j (oT r c S j t)) (eJ r c S j (j+t))<0:=by
    rw[xq A f,xq D f,F]
   by_cases d:cO (ut (eJ r c S j) j t) (eJ r c S j (j+t))<0
   ·rw[if_pos d,if_pos d,if_pos (m.1 d)]
    exact⟨rfl,f,.inr ⟨by omega,f,rfl⟩⟩
   ·rw[if_neg d,if_neg d,if_neg (fun q=>d (m.2 q))]
    exact⟨z,A,.inr ⟨by omega,D,F⟩⟩
theorem FZ(r c:Nat)(S:List Nat)(j:Nat):∀t d,rH r c S j (t+d)=true→rH r c S j t=true:=by
 intro t d
 induction d with
 |zero=>exact fun h=>h
 |succ d ih=>
  intro h
  have f:(rH r c S j (t+d)&&_)=true:=h
  rw[Bool.and_eq_true]at f
  exact ih f.1
theorem pB(r c f j:Nat)(z:Option Addr)(S:List Nat)(w:World)(h:Mx w z f r c S)(O:j<r)(Q:j<c)(U:cC w):
  Calls Tryz.prog 71 #[.agg #[.int .i64 r,.int .i64 c,.slice z S.length f],.int .i64 (j:Nat)] w fun e w'=>((vL r c S j=true∧e=.returned (.tuple #[.int .i64 (oI r c S j:Nat),.int .i64 0]))∨(vL r c S j=false∧e=.returned (.tuple #[.int .i64 0,.int .i64 2])))∧Below w.heap.size w w':=by
 have G:=h.2.2.1;have N:=h.2.2.2
 have H:∀k,eJ r c S j k<18446744073709551616:=fun k=>lL _
 have K:=t4 r c S.length f j (r-j) (c-j) z S (fun k=>dg c S j (r-j) k) (eJ r c S j) (JF (eJ r c S j) j) (ut (eJ r c S j) j) (fun k=>ap (eJ r c S j k)) (rH r c S j) w G N O rfl (by omega) h.1 ⟨rfl,rfl⟩ rfl (fun t _=>⟨rfl,Gq _ _ H t,H _,?_⟩) (fun t ht V=>?_) (fun w' k X Y m=>?_) (fun w' k F d _ _ m A=>?_) (fun w' k _ _=>d7 _ w' (H k))
 ·refine K.mono ?_
  rintro e w' ⟨L,m⟩
  refine⟨?_,m⟩
  rcases L with⟨D,rfl⟩|⟨D,rfl⟩
  ·exact .inl ⟨D,by rw[(Jz r c S j G h.1.nat _ D).1];rfl⟩
  ·exact .inr ⟨D,rfl⟩
 ·by_cases l:cO (ut (eJ r c S j) j t) (eJ r c S j (j+t))<0
  ·refine .inl ⟨l,?_,?_⟩
   ·show(if _ then _ else _)=_;rw[if_pos l]
   ·show(if _ then _ else _)=_;rw[if_pos l]
  ·refine .inr ⟨l,?_,?_⟩
   ·show(if _ then _ else _)=_;rw[if_neg l]
   ·show(if _ then _ else _)=_;rw[if_neg l]
 ·cases hz:rH r c S j (c-j)with
  |false=>rfl
  |true=>
   have:=FZ r c S j (t+1) (c-j-(t+1)) (by rw[show t+1+(c-j-(t+1))=c-j by omega];exact hz)
   rw[V]at this;cases this
 ·have:=kO r c f j k (r-j) 1 z S w' ⟨m,h.2.1,G,N⟩ (by omega) (by omega)
  refine this.mono ?_
  rintro e Z ⟨v,rfl,⟨F,d,rfl,hn,A⟩,M⟩
  rw[wi]at A⊢
  rw[bh]
  exact⟨F,d,rfl,A,M⟩
 ·have:=tq F d (az (dg c S j (r-j) k)) w' A (by rw[al,bh];omega) (U.all m)
  rw[al,bh,iJ,cE]at this
  exact this
def zw(r c:Nat)(S:List Nat)(j a i:Nat):List Nat:=fu r c (fun p q=>gJ c S p (if p<i then Jy j a q else q))
theorem JA(r c:Nat)(S:List Nat)(j a:Nat)(h:S.length=r*c):zw r c S j a 0=S:=by
 conv=>rhs;rw[←lG r c S h]
 exact bC (fun p q _ _=>by rw[if_neg (Nat.not_lt_zero p)];rfl)
theorem JB(r c:Nat)(S:List Nat){j a:Nat}(f:j<c)(h:a<c):zw r c S j a r=FG r c S j a:=by
 conv=>rhs;rw[←lG r c (FG r c S j a) (xg r c S j a)]
 refine bC (fun p q d l=>?_)
 rw[if_pos d]
 exact(Gm r c S f h d l).symm
theorem Ds(r c:Nat)(S:List Nat){j a i:Nat}(m:j<c)(t:a<c)(f:i<r):((zw r c S j a i).set (i*c+j) ((zw r c S j a i)[i*c+a]?.getD 0)).set (i*c+a) ((zw r c S j a i)[i*c+j]?.getD 0)=zw r c S j a (i+1):=by
 have z:(zw r c S j a i)[i*c+a]?.getD 0=gJ c S i a:=by
  unfold zw
  rw[vA r c _ f t,if_neg (Nat.lt_irrefl i)];rfl
 have A:(zw r c S j a i)[i*c+j]?.getD 0=gJ c S i j:=by
  unfold zw
  rw[vA r c _ f m,if_neg (Nat.lt_irrefl i)];rfl
 rw[z,A]
 unfold zw
 rw[iH r c _ _ f m,iH r c _ _ f t]
 refine bC (fun p q D F=>?_)
 by_cases h:p=i
 ·subst h
  by_cases d:q=a
  ·subst d
   rw[if_pos ⟨rfl,rfl⟩,if_pos (Nat.lt_succ_self p)]
   unfold Jy
   rw[if_pos rfl]
  ·rw[if_neg (fun e=>d e.2),if_pos (Nat.lt_succ_self p)]
   unfold Jy
   rw[if_neg d]
   by_cases l:q=j
   ·subst l
    rw[if_pos ⟨rfl,rfl⟩,if_pos rfl]
   ·rw[if_neg (fun e=>l e.2),if_neg l,if_neg (Nat.lt_irrefl p)]
 ·rw[if_neg (fun e=>h e.1),if_neg (fun e=>h e.1)]
  by_cases d:p<i
  ·rw[if_pos d,if_pos (by omega)]
  ·rw[if_neg d,if_neg (by omega)]
theorem F0(r c d j a:Nat)(l:Option Addr)(S:List Nat)(w:World)(h:Mx w l d r c S)(m:j<c)(t:a<c):
  Calls Tryz.prog 72 #[.slice l S.length d,.int .i64 c,.int .i64 (j:Nat),.int .i64 (a:Nat)] w fun e w'=>∃g,e=.returned (.slice (some ⟨g,0,none⟩) S.length S.length)∧w.heap.size≤g∧bg w' g (FG r c S j a)∧Below w.heap.size w w':=by
 have D:=h.2.2.1;have F:=h.2.2.2;have A:=h.small
 have f:=It S.length c r j a d l (zw r c S j a) (fun i=>i*c) w (by omega) (by omega) m t (by rw[JA r c S j a h.2.1];exact h.1) (fun i=>by rw[h.2.1];exact cT _ _ _) ⟨Nat.zero_mul c,h.2.1.symm,fun i z=>⟨by rw[Nat.add_mul,Nat.one_mul],by rw[h.2.1];exact Nat.mul_le_mul_right c z,Ds r c S m t z⟩⟩
 rw[JB r c S m t]at f
 exact f
theorem F3(c j a g:Nat)(L:List Nat)(w:World)(h:bM w g L)(d:L.length=c)(z:c≤6)(l:∀x∈L,x≤1000000)(m:j<c)(t:a<c):
  Calls Tryz.prog 73 #[.slice (some ⟨g,0,none⟩) c c,.int .i64 c,.int .i64 (j:Nat),.int .i64 (a:Nat)] w fun e w'=>∃g,e=.returned (.slice (some ⟨g,0,none⟩) c c)∧w.heap.size≤g∧bM w' g (oJ L j a)∧Below w.heap.size w w':=by
 have f:=h.ints l
 rw[d]at f
 refine Iu c c 1 j a c (some ⟨g,0,none⟩) (fun i=>if i=0 then L else oJ L j a) (fun i=>i*c) w (by omega) (by omega) m t f (fun i=>?_) ⟨Nat.zero_mul c,Nat.one_mul c,fun i f=>?_⟩
 ·show(if i=0 then L else oJ L j a).length=c
  split
  ·exact d
  ·rw[rl,d]
 ·obtain rfl:i=0:=by omega
  refine⟨by omega,by omega,?_⟩
  rw[if_pos rfl,if_neg (by omega),Nat.zero_mul,Nat.zero_add,Nat.zero_add]
  unfold oJ
  rw[List.getD_eq_getElem?_getD,List.getD_eq_getElem?_getD]
theorem Dt(r c l j:Nat)(F:Option Addr)(S:List Nat)(w:World)(h:Mx w F l r c S)(hj:j+1<r)(U:j<c)(L:cC w):
  Calls Tryz.prog 74 #[.agg #[.int .i64 r,.int .i64 c,.slice F S.length l],.int .i64 (j:Nat)] w fun e w'=>Cz w w' (cY (jz r c S j)&&yV (jz r c S j)) r c S.length (r-j) (Jw r c S j) (jI (jz r c S j)) (mq (jz r c S j)) e∧Below w.heap.size w w':=by
 have M:=h.2.1
 have K:=h.2.2.1;have N:=h.2.2.2
 have m:(jz r c S j).length=r-j:=bh _ _ _ _ _
 have lV:(jI (jz r c S j)).length=r-j:=by rw[mR,m]
 refine FD r c S.length l j (r-j) (mq (jz r c S j)) (Cp (jz r c S j)) F S (mT r c S j j (jI (jz r c S j)) (mq (jz r c S j))) (Jw r c S j) (jz r c S j) (jI (jz r c S j)) _ w K (by omega) rfl h.1 (fun w' t=>?_) (fun w' D d G t z=>?_) (fun w' D d G t z=>?_) (fun w' V X t Y Z=>?_) (fun w' g H=>?_)
 ·refine(kO r c l j j (r-j) 1 F S w' ⟨t,M,K,N⟩ (by omega) (by omega)).mono ?_
  rintro e A ⟨v,rfl,⟨D,d,rfl,hn,z⟩,f⟩
  rw[wi]at z⊢
  rw[bh]
  exact⟨D,d,rfl,z,f⟩
 ·rw[Bool.and_eq_true]at G
  have:=Do D d (az (jz r c S j)) w' z (by rw[al,m];omega) (by rw[al,m];omega) (by rw[al];exact G.1) (by rw[cE];exact G.2) (L.all t)
  rw[cE,al,m]at this
  exact this
 ·cases hf:cY (jz r c S j)
  ·have:=zp D d (az (jz r c S j)) w' z (by rw[al,m];omega) (by rw[al,m];omega) (by rw[al];exact hf)
   rw[al,m]at this
   refine this.mono ?_
   rintro e A ⟨O,Q,rfl,f⟩
   exact⟨O,Q,4,rfl,.inr rfl,f⟩
  ·have hk:yV (jz r c S j)=false:=by
    have:=G
    rw[hf,Bool.true_and]at this
    exact this
   have:=v8 D d (az (jz r c S j)) w' z (by rw[al,m];omega) (by rw[al,m];omega) (by rw[al];exact hf) (by rw[cE];exact hk) (L.all t)
   rw[al,m]at this
   refine this.mono ?_
   rintro e A ⟨O,Q,rfl,f⟩
   exact⟨O,Q,2,rfl,.inl rfl,f⟩
 ·have:=oS r c l j j X (mq (jz r c S j)) F V S (jI (jz r c S j)) w' ⟨Y,M,K,N⟩ Z (by rw[lV];omega) (by omega) (rf _) (L.all t)
  rw[lV]at this
  refine this.mono ?_
  rintro e A ⟨g,rfl,hg,hr,f⟩
  exact⟨g,rfl,by omega,hr,f⟩
 ·have:=vH r c j (Cp (jz r c S j)) g _ w' K N (by omega) (by omega) (gL r c S j j (jI (jz r c S j)) (mq (jz r c S j))) H
  rw[gL,←M]at this
  exact this
theorem JQ(r c:Nat)(S:List Nat){j:Nat}(f:j<r)(d:j<c):jz r c (px r c S j) j=dg c S j (r-j) (oI r c S j):=by
 unfold jz dg
 refine List.map_congr_left (fun p h=>?_)
 have:=List.mem_range.1 h
 unfold px
 rw[Gm r c S d (jc r c S d) (by omega) d]
 unfold Jy
 split
 ·rename_i g;exact congrArg (gJ c S (j+p)) g
 ·rw[if_pos rfl]
theorem IG(r c:Nat)(S:List Nat)(j:Nat):∀t,rH r c S j t=true→∀k,j≤k→k<j+t→ap (eJ r c S j k)=true:=by
 intro t
 induction t with
 |zero=>intro _ k f l;omega
 |succ t ih=>
  intro h k f l
  have d:(rH r c S j t&&ap (eJ r c S j (j+t)))=true:=h
  rw[Bool.and_eq_true]at d
  by_cases g:k=j+t
  ·rw[g];exact d.2
  ·exact ih d.1 k f (by omega)
theorem JR(r c:Nat)(S:List Nat){j:Nat}(f:j<r)(d:j<c)(h:vL r c S j=true):cY (jz r c (px r c S j) j)=true:=by
 rw[JQ r c S f d]
 have:=xp _ (IG r c S j (c-j) h (oI r c S j) (Ir r c S j) (by have:=jc r c S d;omega))
 unfold cY
 rw[mW]
 intro k l
 rw[fG]
 refine this _ ?_
 rw[List.getD_eq_getElem?_getD,List.getElem?_eq_getElem l]
 exact List.getElem_mem l
theorem zu(r c:Nat)(S:List Nat):∀m,Dy r c S m=true↔∀j,j<m→FI r c (eQ r c S j) j=true:=by
 intro m
 induction m with
 |zero=>exact⟨fun _ j d=>absurd d (Nat.not_lt_zero j),fun _=>rfl⟩
 |succ m ih=>
  show(Dy r c S m&&FI r c (eQ r c S m) m)=true↔_
  rw[Bool.and_eq_true,ih]
  constructor
  ·rintro⟨f,l⟩ j d
   by_cases g:j=m
   ·rw[g];exact l
   ·exact f j (by omega)
  ·intro h
   exact⟨fun j d=>h j (by omega),h m (Nat.lt_succ_self m)⟩
theorem Du(r c l:Nat)(H:Option Addr)(S:List Nat)(w:World)(h:Mx w H l r c S)(O:cC w):
  Calls Tryz.prog 31 #[.agg #[.int .i64 r,.int .i64 c,.slice H S.length l]] w fun e w'=>Db w w' (Dy r c S (min c r)) r c S.length (fH r c) (us r c S) (CQ r c S) (fun j=>jI (eR r c S j)) (fun j=>mq (eR r c S j)) e∧Below w.heap.size w w':=by
 have t:=h.2.1
 have L:=h.2.2.1;have F:=h.2.2.2
 have lR:=fun j=>(fW r c S t j).trans t.symm
 have Q:=fun j=>(jt r c (eQ r c S j) j).trans t.symm
 have G:=h.1.nat
 have M:∀j,j≤c→∀x∈zd r c S j,x≤1000000:=fun j f x K=>by have:=jw r c S f x K;omega
 refine FJ r c S.length l (min c r) (fH r c) H (eQ r c S) (fun j=>px r c (eQ r c S j) j) (fun j=>jI (eR r c S j)) (zd r c S) (fun j=>oI r c (eQ r c S j) j) (fun j=>mq (eR r c S j)) (fun j=>vL r c (eQ r c S j) j) (fun j=>cY (eR r c S j)&&yV (eR r c S j)) (Dy r c S (min c r)) w L F (by omega) (fun j=>by rw[iL];omega) (by unfold fH;omega) lR Q (fun j=>by rw[mR,rm]) (fun j _=>vU (ry G j) j) (fun j _=>ry G (j+1)) (fun j f d=>?_) rfl ?_ (fun w' z=>?_) (fun w' j A D f z m=>?_) (fun w' j A D f m=>?_) (fun w' j X f m=>?_) (fun w' j g f d z m=>?_)
 ·show vM r c (eQ r c S j) j=_
  unfold vM
  rw[if_neg d]
 ·rw[zu]
  constructor
  ·intro q j f
   have:=q j f
   unfold FI at this
   rw[Bool.and_eq_true]at this
   refine⟨this.1,fun d=>?_⟩
   have U:=this.2
   rw[decide_eq_false (by omega),Bool.false_or]at U
   rw[show cY (eR r c S j)=true from JR r c _ (by omega) (by omega) this.1,Bool.true_and]
   exact U
  ·intro q j f
   obtain⟨Z,q2⟩:=q j f
   unfold FI
   rw[show vL r c (eQ r c S j) j=true from Z,Bool.true_and]
   by_cases g:j+1<r
   ·have:=q2 g
    rw[Bool.and_eq_true]at this
    rw[show yV (jz r c (px r c (eQ r c S j) j) j)=true from this.2,Bool.or_true]
   ·rw[decide_eq_true (by omega),Bool.true_or]
 ·refine(kO r c l 0 0 r c H S w' (h.below z) (by omega) (by omega)).mono ?_
  rintro e ae ⟨v,rfl,⟨A,D,rfl,V,K⟩,N⟩
  have Y:IL c S 0 0 r c=S:=by
   conv=>rhs;rw[←lG r c S t]
   unfold IL
   refine bC (fun p q _ _=>?_)
   rw[Nat.zero_add,Nat.zero_add]
   rfl
  rw[Y]at V K⊢
  exact⟨A,D,rfl,V,K,N⟩
 ·have:=pB r c D j A (eQ r c S j) w' ⟨m,fW r c S t j,L,F⟩ (by omega) (by omega) (O.all z)
  rw[lR j]at this
  exact this
 ·have:=F0 r c D j (oI r c (eQ r c S j) j) A (eQ r c S j) w' ⟨m,fW r c S t j,L,F⟩ (by omega) (jc r c _ (by omega))
  rw[lR j]at this
  exact this
 ·exact F3 c j (oI r c (eQ r c S j) j) X (zd r c S j) w' m (iM r c S j) F (M j (by omega)) (by omega) (jc r c _ (by omega))
 ·have:=Dt r c S.length j (some ⟨g,0,none⟩) (px r c (eQ r c S j) j) w' ⟨m,jt r c _ _,L,F⟩ d (by omega) (O.all z)
  rw[Q j]at this
  have e:eQ r c S (j+1)=Jw r c (px r c (eQ r c S j) j) j:=by
   show vM r c (eQ r c S j) j=_
   unfold vM
   rw[if_pos d]
  rw[e]
  exact this
theorem F4(r:Nat)(X:Nat→List Nat)(K:Nat):∀t d,cY (ze r X K (t+d))=true→cY (ze r X K t)=true:=by
 intro t d
 induction d with
 |zero=>exact fun h=>h
 |succ d ih=>exact fun h=>ih (FT (dU r X K (t+d)) _ _ _ _ h)
theorem F5(r c D:Nat)(lo:Option Addr)(S:List Nat)(R:List Mr)(w:World)(z:r≤6)(M:bI 0 w (.slice lo (fH r c) D) R)(F:R.length=fH r c)(G:∀k,k<fH r c→(bO R k).V=jI (eR r c S k)∧(bO R k).tau=mq (eR r c S k))(N:cC w):
  Calls Tryz.prog 32 #[.int .i64 r,.slice lo (fH r c) D] w fun e w'=>∃Q d f,(Q=vN r c S∨(gA (az Q) (r*r)=false∧cY (vN r c S)=false))∧Q.length=r*r∧e=.returned (.agg #[.int .i64 r,.int .i64 r,.slice d (r*r) f])∧bD w.heap.size d (az Q)∧ad w' d f (az Q)∧Below w.heap.size w w':=by
 have lV:∀j,(jI (eR r c S j)).length=r-j:=fun j=>by rw[mR,rm]
 have O:fH r c≤6:=by unfold fH;omega
 refine(vR r (r*r) (fH r c) D lo (fun j=>jI (eR r c S j)) (ze r (eR r c S) (fH r c)) (fun j=>mq (eR r c S j)) R w (Nat.mul_le_mul z z) O M F G (dU r _ _) lV ?_ ?_ (fun w' x l=>d7 x w' l)).mono ?_
 ·intro w'
  refine(Fv r w' z).mono ?_
  rintro e K ⟨v,rfl,⟨d,f,rfl,m,A⟩,h⟩
  exact⟨d,f,by rw[show(yT r).length=r*r from cT r r _],m,A,h⟩
 ·intro w' t j X Y Z vc ht hj A hp hv
  have U:=(iL r c j).1 (by omega)
  have:=zt r r Y j 0 vc (mq (eR r c S j)) X Z (ze r (eR r c S) (fH r c) t) (jI (eR r c S j)) w' ⟨hp,dU r _ _ t,z,z⟩ hv (by rw[lV];omega) (by omega) (rf _) (N.all A)
  rw[dU,lV]at this
  refine this.mono ?_
  rintro e K ⟨v,rfl,⟨d,f,rfl,m,l⟩,h⟩
  rw[gL]
  have e:mT r r (ze r (eR r c S) (fH r c) t) j 0 (jI (eR r c S j)) (mq (eR r c S j))=ze r (eR r c S) (fH r c) (t+1):=by
   show _=mT r r (ze r (eR r c S) (fH r c) t) (fH r c-1-t) 0 (jI (eR r c S (fH r c-1-t))) (mq (eR r c S (fH r c-1-t)))
   rw[←hj]
  rw[e]at m l
  exact⟨d,f,rfl,m,l,h⟩
 ·rintro e w' ⟨t,d,f,ht,L,rfl,m,l,A⟩
  refine⟨_,d,f,?_,dU r _ _ t,rfl,m,l,A⟩
  rcases L with e|e
  ·left;rw[e];rfl
  ·right
   refine⟨e,?_⟩
   cases hf:cY (vN r c S)
   ·rfl
   ·have H:=F4 r (eR r c S) (fH r c) t (fH r c-t) (by rw[show t+(fH r c-t)=fH r c by omega];exact hf)
    unfold cY at H
    rw[dU,e]at H
    cases H
theorem mt(r c f:Nat)(l:Option Addr)(S:List Nat)(w:World)(h:Mx w l f r c S)(U:cY S=true)(K:cC w):
  Calls Tryz.prog 9 #[.agg #[.int .i64 r,.int .i64 c,.slice l S.length f]] w fun e w'=>(xh r c S=true∧rB w r c S e w')∨(xh r c S=false∧lO w 2 e w'):=by
 have L:=h.2.1
 have z:=h.2.2.1;have c6:=h.2.2.2
 have Z:=h.small
 have M:r*r≤36:=Nat.mul_le_mul z z
 have A:(us r c S).length=S.length:=(fW r c S L _).trans L.symm
 have N:(vN r c S).length=r*r:=dU _ _ _ _
 have lp:(CQ r c S).length=c:=iM _ _ _ _
 have D:mP (r:Int) (c:Int) (az S)=0:=by
  unfold mP
  rw[al,Cc h]
  have:gA (az S) S.length=true:=U
  rw[this]
  rfl
 refine(vS r c S.length (r*r) (fH r c) f l (us r c S) (vN r c S) (CQ r c S) (fun j=>jI (eR r c S j)) (fun j=>mq (eR r c S j)) (Dy r c S (min c r)) (cY (vN r c S)) (cY (us r c S)) w A N (by unfold cY;rw[N]) ?_ (fun w' d=>Du r c f l S w' (h.below d) (K.all d)) (fun w' lo V R d m t X=>F5 r c V lo S R w' z m t X (K.all d)) ?_ ?_).mono ?_
 ·intro w' d
  have:=oD r c l f (az S) w' (h.1.below d) (by rw[al];omega)
  rw[al,D]at this
  exact this
 ·intro w' Q qo qc d F
  have:=cL qo qc (az Q) w' d (by rw[al];omega)
  rw[al,F]at this
  exact this
 ·intro w' ro rc d
  have:=cL ro rc (az (us r c S)) w' d (by rw[al];omega)
  unfold cY
  rw[al,A]at this
  rw[A]
  exact this
 ·rintro e w' ⟨G,d⟩
  rcases G with⟨H,v,u,O,rfl,m,t,hg,hp⟩|⟨H,v,u,rfl,m,t⟩
  ·refine .inl ⟨H,v,u,some ⟨O,0,none⟩,c,rfl,m,t,.inr ⟨O,0,rfl,hg⟩,?_,d⟩
   have:=hp.ints (fun x Y=>by have:=jw r c S (show min c r≤c by omega) x Y;omega)
   rw[lp]at this
   exact this
  ·exact .inr ⟨H,v,u,none,0,rfl,m,t,d⟩
theorem uk(r c:Int)(f:Option Addr)(d:Nat)(I:List Int)(w:World)(m:ad w f d I)(D:I.length≤17592186043904)(h:mP r c I≠0):
  Calls Tryz.prog 9 #[.agg #[.int .i64 r,.int .i64 c,.slice f I.length d]] w (lO w (mP r c I)):=by
 have t:mP r c I=1∨mP r c I=4:=by
  unfold mP at h⊢
  repeat' split
  all_goals first|exact .inl rfl|exact .inr rfl|(exfalso;revert h;simp_all)
 refine(t6 r c f I.length d _ w t (fun w' l=>oD r c f d I w' (m.below l) (by omega))).mono ?_
 rintro e w' ⟨v,u,rfl,z,A,l⟩
 exact⟨v,u,none,0,rfl,z,A,l⟩
theorem ul(r c d:Nat)(l:Option Addr)(S:List Nat)(w:World)(h:Mx w l d r c S)(m:cY S=true)(t:xh r c S=true)(z:cC w):
  Calls Tryz.prog 9 #[.agg #[.int .i64 r,.int .i64 c,.slice l S.length d]] w (rB w r c S):=by
 refine(mt r c d l S w h m z).mono ?_
 rintro e w' (⟨_,A⟩|⟨f,_⟩)
 ·exact A
 ·rw[t]at f;cases f
theorem wl(r c d:Nat)(l:Option Addr)(S:List Nat)(w:World)(h:Mx w l d r c S)(m:cY S=true)(t:xh r c S=false)(z:cC w):
  Calls Tryz.prog 9 #[.agg #[.int .i64 r,.int .i64 c,.slice l S.length d]] w (lO w 2):=by
 refine(mt r c d l S w h m z).mono ?_
 rintro e w' (⟨f,_⟩|⟨_,A⟩)
 ·rw[t]at f;cases f
 ·exact A
end Go.Proofs.YtnnfjeieennffaaGreatDoor
