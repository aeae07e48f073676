/- Part 50 of the texts. -/
import Derived.Test.YtmpkkhackbpflaaGreatDoorPartg49
import Derived.Test.YtmpkkhackbpflaaGreatDoorPartg47
set_option maxHeartbeats 8000000
set_option maxRecDepth 20000
namespace Go.Proofs.YtmpkkhackbpflaaGreatDoor
open Go.RowKit
attribute [local go_sem ↓] Go.wp_at_zero Go.wp_at_succ
theorem wC(r c n l i k L vc ad:Nat)(M vo:Option Addr)(T:Nat→Nat→List Nat)(X:Nat→List Int)(P U:Nat→Nat→Nat)(t:Nat→Nat)(w:World)(a3:n≤36)(h6:c≤6)(a4:r≤6)(a5:i+L≤r)(hk:k≤c)
  (D:ak w M l (bs (T k 0))) (lT:∀d j,(T d j).length=n) (J:∀d,T d L=T (d+1) 0)
  (hP:∀d j,k≤d→d<c→j<L→P d j<n∧(i+j)*c+d=P d j∧(T d j).set (P d j) (U d j)=T d (j+1))
  (C1:∀h d,Below w.heap.size w h→k≤d→d<c→Calls Tryz.prog 99 #[.agg #[.int .i64 r,.int .i64 c,.slice M n l],.int .i64 i,.int .i64 (d:Nat),.int .i64 L,.int .i64 1] h fun e H=>∃z F,e=.returned (.tuple #[.agg #[.int .i64 L,.int .i64 1,.slice z L F],.int .i64 0])∧dJ h.heap.size z (X d)∧ak H z F (X d)∧Below h.heap.size h H)
  (C2:∀h d z F,Below w.heap.size w h→k≤d→d<c→ak h z F (X d)→Calls Tryz.prog 191 #[.slice z L F,.slice vo L vc,.int .u64 ad] h fun e H=>∃v,e=.returned v∧Mj H v h.heap.size z vo L F L vc (t d)∧Below h.heap.size h H)
  (C3:∀h d j z F bx bt bv,Below w.heap.size w h→k≤d→d<c→j<L→ak h z F (X d)→h.cell? ⟨bx,0,none⟩=some (.slice z L F)→h.cell? ⟨bt,0,none⟩=some (.int .u64 (t d:Nat))→h.cell? ⟨bv,0,none⟩=some (.slice vo L vc)→Calls Tryz.prog 216 #[.int .i64 (j:Nat),.pointer (some ⟨bx,0,none⟩),.pointer (some ⟨bt,0,none⟩),.pointer (some ⟨bv,0,none⟩)] h fun e H=>e=.returned (.int .u64 (U d j:Nat))∧Below h.heap.size h H):
  Calls Tryz.prog 160 #[.agg #[.int .i64 r,.int .i64 c,.slice M n l],.int .i64 i,.int .i64 k,.slice vo L vc,.int .u64 ad] w fun e h=>∃g,e=.returned (.agg #[.int .i64 r,.int .i64 c,.slice (some ⟨g,0,none⟩) n n])∧w.heap.size≤g∧bI h g (T c 0)∧Below w.heap.size w h:=by
 have G:=ac (mP.start w r c n l M)
 have aq:=run_make_row' (P:=Tryz.prog) 23 28 (.int .u64 0) 8 Tryz.underlying23 (by kernel_rfl) rfl .i64 .i64 n (by omega) (by omega)
 have HP:=ac hP;have K1:=ac C1;have K2:=ac C2;have K3:=ac C3;have LT:=ac lT;have HX:=ac J
 obtain⟨w5,a1,am,ap⟩:=vY _ (w.heap.size+1+1) n l M (T k 0) (uH G).row (D.below (uH G).bel) (lT k 0)
 have ae:=ac ((uH G).copied ap am)
 clear hP C1 C2 C3 lT D am ap J
 have y0:=(uH G).m.c0;have V:=(uH G).m.c1;have y2:=(uH G).m.c2
 go_enter Tryz.func160,Tryz.ntmps160
 go_wp2_with fail
 clear aq a1 y0 V y2 G
 go_loopw[12] (fun a wr=>∃d:Nat,k≤d∧d≤c∧a=.int .i64 d∧Hid (mP w wr r c n l M (T d 0))) (fun a _=>c-(intOf a).toNat)
 case atStart=>exact⟨k,Nat.le_refl _,hk,rfl,ae⟩
 case round=>
  clear ae
  obtain⟨d,O,bb,rfl,D⟩:=hrel
  by_cases N:d<c
  ·have a6:(d:Int)<(c:Int):=by omega
   have y0:=(uH D).m.c0;have V:=(uH D).m.c1;have y2:=(uH D).m.c2
   go_wp2_with fail
   clear y0 V y2
   refine(uH K1 _ d (uH D).bel O N).mono ?_
   rintro e w2 ⟨z,F,rfl,hn,hx,I⟩
   have S2:=ac ((uH D).all I)
   have HN:=ac (dJ.least hn (show w.heap.size+1+1+1≤wr.heap.size from(uH D).row.lt))
   have HB:=ac hx
   clear hn hx I D
   go_wp2_with fail
   have ba:=ag w2 (.cells #[.int .i64 L,.int .i64 1,.slice z L F] 25)
   replace S2:=ac ((uH S2).all ba)
   replace HB:=ac ((uH HB).below ba)
   clear ba
   have HL:=ac (show w.heap.size+1+1+1≤(w2.alloc (.cells #[.int .i64 L,.int .i64 1,.slice z L F] 25)).heap.size from(uH S2).row.lt)
   refine(uH K2 _ d z F (uH S2).bel O N (uH HB)).mono ?_
   rintro e w3 ⟨v,rfl,hv,I⟩
   obtain⟨bx,bt,bv,rfl,l1,l2,l3,c1,c2,c3⟩:=hv.ex
   have S3:=ac (show tK w w3 r c n l M (T d 0) bx bt bv z vo L F vc (t d) (X d)from⟨(uH S2).all I,Nat.le_trans (uH HL) l1,Nat.le_trans (uH HL) l2,Nat.le_trans (uH HL) l3,c1,c2,c3,(uH HB).below I,uH HN⟩)
   clear hv I l1 l2 l3 c1 c2 c3 S2 HN HB HL
   have KC:=ac (fun h j I hj hx Q h2 h3=>uH K3 h d j z F bx bt bv I O N hj hx Q h2 h3)
   have ax:=ac (fun j hj=>uH HP d j O N hj)
   have ay:=ac (uH LT d)
   have az:=ac (uH HX d)
   generalize bd:T d=TD at*
   generalize be:U d=UD at*
   generalize bi:P d=PD at*
   generalize t d=td at*
   generalize X d=XD at*
   go_wp2_with fail
   go_loopw[48] (fun a wr=>∃j:Nat,j≤L∧a=.int .i64 j∧Hid (tK w wr r c n l M (TD j) bx bt bv z vo L F vc td XD)) (fun a _=>L-(intOf a).toNat)
   case atStart=>exact⟨0,Nat.zero_le _,rfl,S3⟩
   case round=>
    clear S3
    obtain⟨j,hj,rfl,D⟩:=hrel
    by_cases ai:j<L
    ·have a7:(j:Int)<(L:Int):=by omega
     obtain⟨hp,aa,Y⟩:=uH ax j ai
     have KJ:=ac (fun h I hx Q h2 h3=>uH KC h j I ai hx Q h2 h3)
     have LL:=ac (uH ay j);have HN:=ac Y
     clear Y
     obtain⟨a,ha⟩:∃a,i+j=a:=⟨_,rfl⟩
     rw[ha]at aa
     obtain⟨q,hq⟩:∃q,a*c=q:=⟨_,rfl⟩
     rw[hq]at aa
     have e1:IntKind.i64.wrap ((i:Int)+(j:Int))=(a:Int):=(br _ (by omega)).trans (by omega)
     have e2:IntKind.i64.wrap ((a:Int)*(c:Int))=(q:Int):=by
      rw[cK a c,hq]
      exact br _ (by omega)
     have e3:IntKind.i64.wrap ((q:Int)+(d:Int))=(PD j:Int):=(br _ (by omega)).trans (by omega)
     have e4:(i:Int)+(j:Int)=(a:Int):=by omega
     have e5:(a:Int)*(c:Int)=(q:Int):=by rw[cK a c,hq]
     have e6:(q:Int)+(d:Int)=(PD j:Int):=by omega
     have w1:IntKind.i64.wrap (a:Int)=(a:Int):=br _ (by omega)
     have w2:IntKind.i64.wrap (q:Int)=(q:Int):=br _ (by omega)
     have w3:IntKind.i64.wrap (PD j:Int)=(PD j:Int):=br _ (by omega)
     generalize bm:TD j=TT at*
     generalize a2:TD (j+1)=TN at*
     generalize PD j=p at*
     generalize UD j=u at*
     have a9:(p:Int)<(n:Int):=by omega
     clear hq aa ha
     go_wp2_with fail
     refine aG (fun W=>tK w W r c n l M TT bx bt bv z vo L F vc td XD) (uH D) ?_
     clear D
     intro W st
     have G:=ac (st.all ((Below.refl W.heap.size W).drew))
     clear st
     have V:=(uH G).st.m.c1
     go_region_with (first
      |(go_at_call 216;refine(uH KJ _ (uH G).st.bel (uH G).x (uH G).cx (uH G).ct (uH G).cv).mono ?_;rintro e w8 ⟨rfl,I⟩;clear V;have S8:=(uH G).all I;have V:=S8.st.m.c1;have d1:=S8.st.row.cell p (by rw[uH LL];exact hp);have aD:=S8.st.row.free p;have P9:=ac (S8.set p u);clear S8 I G KJ)
      |fail "NO ARM")
     all_goals
      clear d1 aD V
      go_wp2_with fail
      go_round
      case rel=>exact⟨j+1,by omega,by go_num,by rw[a2,←uH HN];exact P9⟩
      case measure=>simp[intOf];omega
    ·have aI:j=L:=by omega
     subst aI
     have S4:=ac (uH D).st
     rw[uH az]at S4
     clear D
     go_wp2_with fail
     go_round
     case rel=>exact⟨d+1,by omega,by omega,by go_num,S4⟩
     case measure=>simp[intOf];omega
  ·have a0:d=c:=by omega
   subst a0
   obtain⟨h6,Q,Z,h5⟩:=uH D
   have y0:=Q.c0;have V:=Q.c1;have y2:=Q.c2
   have r0:=Z.c0;have r1:=Z.c1;have r2:=Z.c2
   have f0:=Z.free 0;have f1:=Z.free 1;have f2:=Z.free 2
   have XP:=Z.put (.int .i64 r) (.int .i64 d) (.slice (some ⟨w.heap.size+1+1,0,none⟩) n n)
   have z0:=XP.c0;have z1:=XP.c1;have z2:=XP.c2
   have RW:=ac (h5.three (g:=w.heap.size+1) (by omega) (.int .i64 r) (.int .i64 d) (.slice (some ⟨w.heap.size+1+1,0,none⟩) n n))
   have BP:=ac (aW h6 (b:=w.heap.size+1) (by omega) (.int .i64 r) (.int .i64 d) (.slice (some ⟨w.heap.size+1+1,0,none⟩) n n))
   clear XP Q Z h5 h6 D
   go_wp2_with fail
   exact bodyPost_ret (v:=.agg #[.int .i64 r,.int .i64 d,.slice (some ⟨w.heap.size+1+1,0,none⟩) n n]) (by simp[results,Tryz.results160,go_sem,z0,z1,z2]) rfl ⟨_,rfl,by omega,uH RW,uH BP⟩
theorem JC(r c:Int)(z:Option Addr)(n d:Nat)(i k:Int)(M:Option Addr)(L N F:Nat)(w:World)
  (H:∀l,Calls Tryz.prog 97 #[.agg #[.int .i64 r,.int .i64 c,.slice z n d]] l fun e G=>e=.returned (.int .i64 1)∧Below l.heap.size l G):
  Calls Tryz.prog 106 #[.agg #[.int .i64 r,.int .i64 c,.slice z n d],.int .i64 i,.int .i64 k,.slice M L N,.int .u64 F] w fun e l=>∃v,e=.returned (.tuple #[v,.int .i64 1])∧dc w.heap.size l 0 0 [] v∧Below w.heap.size w l:=by
 have K:=ac (H ((w.alloc (.cells #[.int .i64 r,.int .i64 c,.slice z n d] 25)).alloc (.cells #[.int .i64 0,.int .i64 0,.slice none 0 0] 25)))
 simp only[aH]at K
 have I:=ac (tC w (.int .i64 r) (.int .i64 c) (.slice z n d) (.int .i64 0) (.int .i64 0) (.slice none 0 0))
 clear H
 go_enter Tryz.func106,Tryz.ntmps106
 go_wp2_with fail
 refine Calls.mono (uH K) ?_
 rintro e U ⟨rfl,t⟩
 obtain⟨J,T,h⟩:=uH I U t
 clear K I t T
 have V:=h.free 0;have X:=h.free 1;have Y:=h.free 2
 have Z:=h.c0;have s1:=h.c1;have s2:=h.c2
 have D:=h.put (.int .i64 0) (.int .i64 0) (.slice none 0 0)
 have O:=D.c0;have z1:=D.c1;have z2:=D.c2
 have Q:=ac (aW J (b:=w.heap.size+1) (by omega) (.int .i64 0) (.int .i64 0) (.slice none 0 0))
 clear D h J
 go_wp2
 refine bodyPost_ret (v:=.tuple #[.agg #[.int .i64 0,.int .i64 0,.slice none 0 0],_]) (by simp[results,Tryz.results106,go_sem,O,z1,z2]) rfl ⟨_,rfl,dc.zero _ _,uH Q⟩
theorem BV(r c n d i k L T F:Nat)(D U:Option Addr)(S:List Nat)(w:World)(N:r≤6)(hi:i+L≤r)(hk:k≤c)
  (V:∀h,Calls Tryz.prog 97 #[.agg #[.int .i64 r,.int .i64 c,.slice D n d]] h fun e t=>e=.returned (.int .i64 0)∧Below h.heap.size h t)
  (X:∀h,Below w.heap.size w h→Calls Tryz.prog 160 #[.agg #[.int .i64 r,.int .i64 c,.slice D n d],.int .i64 i,.int .i64 k,.slice U L T,.int .u64 F] h fun e t=>∃g,e=.returned (.agg #[.int .i64 r,.int .i64 c,.slice (some ⟨g,0,none⟩) n n])∧h.heap.size≤g∧bI t g S∧Below h.heap.size h t):
  Calls Tryz.prog 106 #[.agg #[.int .i64 r,.int .i64 c,.slice D n d],.int .i64 i,.int .i64 k,.slice U L T,.int .u64 F] w fun e h=>∃g,e=.returned (.tuple #[.agg #[.int .i64 r,.int .i64 c,.slice (some ⟨g,0,none⟩) n n],.int .i64 0])∧w.heap.size+2≤g∧bI h g S∧Below w.heap.size w h:=by
 have K:=ac (V ((w.alloc (.cells #[.int .i64 r,.int .i64 c,.slice D n d] 25)).alloc (.cells #[.int .i64 0,.int .i64 0,.slice none 0 0] 25)))
 simp only[aH]at K
 have Y:=ac (tC w (.int .i64 r) (.int .i64 c) (.slice D n d) (.int .i64 0) (.int .i64 0) (.slice none 0 0))
 have Z:=ac X
 have HZ:=ac (show w.heap.size+2≤((w.alloc (.cells #[.int .i64 r,.int .i64 c,.slice D n d] 25)).alloc (.cells #[.int .i64 0,.int .i64 0,.slice none 0 0] 25)).heap.size by rw[aH,aH];omega)
 have hw:IntKind.i64.wrap ((r:Int)-(L:Int))=(r:Int)-(L:Int):=br _ (by omega)
 have h1:(i:Int)≤(r:Int)-(L:Int):=by omega
 have h2:(k:Int)≤(c:Int):=by omega
 clear V X
 go_enter Tryz.func106,Tryz.ntmps106
 go_wp2_with fail
 refine Calls.mono (uH K) ?_
 rintro e w1 ⟨rfl,z⟩
 obtain⟨H,M,l⟩:=uH Y w1 z
 have G:=ac (Nat.le_trans (uH HZ) z.size)
 clear K Y z HZ
 have a0:=M.c0;have a1:=M.c1;have a2:=M.c2
 have I:=ac H;have HX:=ac l
 clear H M l
 go_wp2_with fail
 clear a0 a1 a2
 refine(uH Z _ (uH I)).mono ?_
 rintro e w2 ⟨g,rfl,hg,N,O⟩
 have H:=(uH I).trans (O.mono (uH I).size)
 have l:=(uH HX).all O
 have HG:=ac (Nat.le_trans (uH G) hg)
 have f0:=l.free 0;have f1:=l.free 1;have f2:=l.free 2
 have s0:=l.c0;have s1:=l.c1;have s2:=l.c2
 have J:=l.put (.int .i64 r) (.int .i64 c) (.slice (some ⟨g,0,none⟩) n n)
 have z0:=J.c0;have z1:=J.c1;have z2:=J.c2
 have Q:=ac (N.three (g:=w.heap.size+1) (by have:=uH HG;omega) (.int .i64 r) (.int .i64 c) (.slice (some ⟨g,0,none⟩) n n))
 have BP:=ac (aW H (b:=w.heap.size+1) (by omega) (.int .i64 r) (.int .i64 c) (.slice (some ⟨g,0,none⟩) n n))
 clear H l O hg N J I HX Z G
 go_wp2
 exact bodyPost_ret (v:=.tuple #[.agg #[.int .i64 r,.int .i64 c,.slice (some ⟨g,0,none⟩) n n],.int .i64 0]) (by simp[results,Tryz.results106,go_sem,z0,z1,z2]) rfl ⟨_,rfl,uH HG,uH Q,uH BP⟩
theorem Mk{r c:Nat}{S:List Nat}(h:∀p q,cj c S p q<18446744073709551616)(i k:Nat)(l:List Nat)(d:Nat):∀x∈qE r c S i k l d,x<18446744073709551616:=by
 intro x t
 unfold qE mW at t
 obtain⟨p,_,rfl⟩:=List.mem_map.1 t
 show(if _ then _ else _)<_
 split
 ·rename_i g
  exact E6 c S i _ l d (by omega) h
 ·exact h _ _
theorem yN(c:Nat)(S:List Nat)(i d n:Nat):Mv c S i d n 1=bf c S i n d:=by
 unfold Mv mW bf
 rw[Nat.mul_one]
 refine List.map_congr_left (fun p _=>?_)
 show cj c S (i+p/1) (d+p%1)=_
 rw[Nat.div_one,Nat.mod_one,Nat.add_zero]
theorem qs(r c z i k N l:Nat)(L O:Option Addr)(S t:List Nat)(w:World)(h:Mx w L z r c S)(hV:ak w O N (bs t))(Y:i+t.length≤r)(hk:k≤c)(ht:l<18446744073709551616)(hT:c8 w):
  Calls Tryz.prog 106 #[.agg #[.int .i64 r,.int .i64 c,.slice L S.length z],.int .i64 i,.int .i64 k,.slice O t.length N,.int .u64 l] w fun e M=>∃g,e=.returned (.tuple #[.agg #[.int .i64 r,.int .i64 c,.slice (some ⟨g,0,none⟩) S.length S.length],.int .i64 0])∧w.heap.size+2≤g∧bI M g (qE r c S i k t l)∧Below w.heap.size w M:=by
 have ad:=h.small
 have r6:=h.2.2.1
 have c6:=h.2.2.2
 refine BV r c S.length z i k t.length N l L O (qE r c S i k t l) w r6 Y hk (fun M=>?_) (fun M hb=>?_)
 ·have:=lk (r:Int) (c:Int) L S.length z M (by omega)
  rw[if_pos (zT h)]at this
  exact this
 have hM:=h.below hb
 have U:=hV.below hb
 have V:=hT.all hb
 rw[←Im r c S i k t l c (Nat.le_refl _)]
 refine wC r c S.length z i k t.length N l L O (fun d j=>Bx r c S i k t l d j) (fun d=>bs (bf c S i t.length d)) (fun d j=>(i+j)*c+d) (fun d j=>(wK c S i d t l).getD j 0) (fun d=>mV l (eh 0 t (bf c S i t.length d))) M ad c6 r6 Y hk
  (by show ak M L z (bs (Bx r c S i k t l k 0));rw[Nj r c S i k t l h.2.1];exact hM.1) (fun d j=>by rw[Il,h.2.1]) (fun d=>E5 r c S i k t l d)
  (fun d j Z G J=>⟨by rw[h.2.1];exact gN (by omega) G,rfl,Io r c S Y G Z J⟩) (fun F d D Z G=>?_) (fun F d po Q D Z G hX=>?_) (fun F d j po Q bx bt bv D Z G J hX hx aa hv=>?_)
 ·refine(mD r c z i d t.length 1 L S F (hM.below D) Y (by omega)).mono ?_
  rintro e T ⟨v,rfl,⟨po,Q,rfl,hn,hx⟩,H⟩
  rw[yN]at hn hx⊢
  rw[aL]
  exact⟨po,Q,rfl,hn,hx,H⟩
 ·have I:=yM po O Q N l (bf c S i t.length d) t F hX (U.below D) (aL _ _ _ _ _) (by omega) ht (V.all D)
  rw[aL]at I
  exact I
 ·have ae:=U.below D
  have X:=V.all D
  obtain⟨b1,o1,e1,_,z1⟩:=hX.ne (by rw[aM,aL];omega)
  obtain⟨b2,o2,e2,_,z2⟩:=ae.ne (by rw[aM];omega)
  subst e1
  subst e2
  have q1:=z1 j (by rw[aM,aL];exact J)
  have q2:=z2 j (by rw[aM];exact J)
  rw[jz,iE c S i t.length d J]at q1
  rw[jz]at q2
  have lv:t.getD j 0<18446744073709551616:=by
   have:=hV.lt j
   rwa[jz]at this
  show Calls _ _ _ F fun e T=>e=.returned (.int .u64 ((wK c S i d t l).getD j 0:Nat))∧_
  rw[qi c S i d t l J]
  exact yL _ _ _ (mV (mV l (eh 0 t (bf c S i t.length d))) (t.getD j 0)) _ j t.length t.length Q N bx bv bt b1 o1 b2 o2 F J J hx hv aa q1 q2
   (fun T H=>pZ _ _ T (kL _ _) lv (X.all H)) (fun T H=>mJ _ _ T (h.el_lt _ _) (kL _ _) (X.all H))
theorem Ca(r c t i k D d:Nat)(F G:Option Addr)(S z:List Nat)(w:World)(h:Mx w F t r c S)(J:ak w G D (bs z))(L:i+z.length≤r)(M:k≤c)(N:d<18446744073709551616)(O:c8 w):
  Calls Tryz.prog 106 #[.agg #[.int .i64 r,.int .i64 c,.slice F S.length t],.int .i64 i,.int .i64 k,.slice G z.length D,.int .u64 d] w fun e H=>∃v,e=.returned (.tuple #[v,.int .i64 0])∧dc w.heap.size H r c (qE r c S i k z d) v∧Below w.heap.size w H:=by
 refine(qs r c t i k D d F G S z w h J L M N O).mono ?_
 rintro e H ⟨g,rfl,U,Q,T⟩
 have l:S.length=(qE r c S i k z d).length:=by rw[kv,h.2.1]
 have I:=Q.bits (Mk (fun p q=>h.el_lt p q) i k z d)
 refine⟨_,rfl,⟨_,S.length,by rw[l],.inr ⟨g,0,rfl,by omega⟩,?_⟩,T⟩
 rw[l]
 exact I
end Go.Proofs.YtmpkkhackbpflaaGreatDoor
namespace Go.Proofs.YtmpkkhackbpflaaGreatDoor
open Go.RowKit
theorem IG(a b:Nat)(h:ah (aV a b)=true):ah a=true:=by
 by_cases d:fK a=4
 ·unfold aV at h
  rw[if_pos (.inl d)]at h
  exact absurd h (by decide+kernel)
 by_cases l:fK a=3
 ·unfold aV at h
  by_cases t:fK b=4
  ·rw[if_pos (.inr t)]at h
   exact absurd h (by decide+kernel)
  ·rw[if_neg (fun e=>e.elim d t),if_pos l]at h
   split at h
   ·exact absurd h (by decide+kernel)
   ·exact h
 exact gt a l d
theorem wD(d:List Nat):eM d=true↔∀k,k<d.length→ah (d.getD k 0)=true:=by
 unfold eM
 rw[oS]
 exact⟨fun h k l=>by have:=h k l;rwa[jz]at this,fun h k l=>by rw[jz];exact h k l⟩
theorem IH{r c:Nat}{S:List Nat}(F:S.length=r*c)(i k:Nat)(t:List Nat)(d:Nat)(h:eM (qE r c S i k t d)=true):eM S=true:=by
 rw[wD]at h⊢
 intro x z
 rw[kv]at h
 rw[F]at z
 obtain⟨G,H,D⟩:=jY z
 have l:ah (cj c (qE r c S i k t d) (x/c) (x%c))=true:=by
  have:=h x z
  unfold cj
  rwa[D]
 rw[mH r c S i k t d G H]at l
 have e:S.getD x 0=cj c S (x/c) (x%c):=by unfold cj;rw[D]
 rw[e]
 split at l
 ·rename_i g
  rw[qi c S i (x%c) t d (j:=x/c-i) (by omega)]at l
  have:=IG _ _ l
  rwa[show i+(x/c-i)=x/c by omega]at this
 ·exact l
theorem Fr(m r:Nat)(d:m<9223372036854775808)(l:r<9223372036854775808)(h:9218868437227405312≤m∨9218868437227405312≤r):9218868437227405312≤mx m r∧mx m r<9223372036854775808:=by
 obtain⟨t,D,F⟩:=iJ m d
 obtain⟨z,G,H⟩:=iJ r l
 unfold mx
 split
 ·decide
 ·rw[t,z]
  rcases Nat.lt_or_ge m r with g|g
  ·have:=pB g
   rw[if_pos (by omega)]
   omega
  ·have:=jl g
   rw[if_neg (by omega)]
   omega
theorem II(m r:Nat)(d:m<9223372036854775808)(h:r<9223372036854775808):mx m r<9223372036854775808:=by
 unfold mx
 repeat' split
 ·decide
 ·exact h
 ·exact d
theorem IJ:∀(d:List Nat) (m:Nat),m<9223372036854775808→(9218868437227405312≤m∨∃x∈d,ah x=false)→9218868437227405312≤bS m d∧bS m d<9223372036854775808:=by
 intro d
 induction d with
 |nil=>
  intro m l h
  rcases h with h|⟨x,F,_⟩
  ·exact⟨h,l⟩
  ·cases F
 |cons x d ih=>
  intro m l h
  have G:=jG x
  show 9218868437227405312≤bS (mx m (fR x)) d∧bS (mx m (fR x)) d<9223372036854775808
  have D:=II m (fR x) l (by omega)
  refine ih _ D ?_
  rcases h with h|⟨y,t,z⟩
  ·exact .inl (Fr m (fR x) l (by omega) (.inl h)).1
  ·rcases List.mem_cons.1 t with e|t
   ·subst e
    refine .inl (Fr m _ l (by omega) (.inr ?_)).1
    rcases Nat.lt_or_ge (fR y) 9218868437227405312 with g|g
    ·rw[(cF y).2.2.2 g]at z;cases z
    ·exact g
   ·exact .inr ⟨y,t,z⟩
theorem Af(d:List Nat)(h:ah (aX d)=true):∀x∈d,ah x=true:=by
 intro x z
 cases hf:ah x with
 |true=>rfl
 |false=>
  exfalso
  obtain⟨D,t⟩:=IJ d 0 (by decide) (.inr ⟨x,z,hf⟩)
  obtain⟨F,G,H⟩:=iJ (bS 0 d) t
  have l:ah (bS 0 d)=false:=by
   cases hq:ah (bS 0 d)with
   |false=>rfl
   |true=>have:=jt _ hq;omega
  have e:aX d=bS 0 d:=by unfold aX;rw[if_pos (.inr l)]
  rw[e,l]at h
  cases h
theorem IK(d:List Nat)(l:∀x∈d,x<18446744073709551616∧ah x=true):jV 5000 d:=by
 refine⟨l,.inr ?_⟩
 obtain⟨t,_⟩:=mu d 0 (by decide) (fun x h=>(l x h).2)
 have:=vR (bS 0 d) (by omega)
 omega
theorem IL(d:List Nat)(J:d.length≤64)(G:∀x∈d,x<18446744073709551616)(h:ah (aX d)=true):fS (aX d)=false:=by
 have H:=Af d h
 have L:=IK d (fun x h=>⟨G x h,H x h⟩)
 by_cases z:bS 0 d=0
 ·have e:aX d=0:=by unfold aX;rw[if_pos (.inl z)];exact z
  rw[e];decide
 obtain⟨k,I⟩:∃k,eX (bS 0 d)=k:=⟨_,rfl⟩
 obtain⟨b1,Z,b3,b4,b5,b6,b7,D,y,hy,b9,F⟩:=gz 5000 d L z
 rw[I]at D F
 have M:aX d=xV (sV (oK k 0 d)) k:=by
  unfold aX
  rw[if_neg (by rw[Z];simp[z]),I]
 have N:1≤eO k d:=by have:=oL k d y hy;grind
 have O:(d.length:Rat)≤64:=Rat.natCast_le_natCast.2 J
 have Q:eO k d≤256:=by have:=s9 k d D;grind
 have T:=Rat.mul_nonneg (show 0≤64-(d.length:Rat) by grind) (show 0≤eO k d by grind)
 have U:fQ 0=0:=bu 0 (by decide)
 obtain⟨e1,e2,e3⟩:=s8 k (eO k d) N Q d 0 0 0 (fun x t=>⟨G x t,H x t,D x t⟩) (by decide) (by decide) (by grind) (by grind) (by rw[U];unfold ab;grind)
 generalize oK k 0 d=s at*
 have e4:9007199254740992*ab (fQ s-eO k d)≤130*eO k d:=by
  have:(0:Rat)+eO k d=eO k d:=Rat.zero_add _
  rw[this]at e3
  grind
 have l:=au (fQ s-eO k d)
 have s1:1≤2*fQ s:=by grind
 have V:fK s≠0:=fun e=>by
  have:=bu s e
  grind
 obtain⟨r1,r2,r3,r4,r5,r6,r7⟩:=iX s e1 V e2
 have X:fK (sV s)≠0:=fun e=>by
  have:=(cP (sV s)).1 e
  omega
 rw[M,pL _ _ r1 X]
 have Y:=di (fD (sV s)).natAbs (fX (sV s)+k)
 rw[js _ _ (by omega)]
 exact r2
def wM(N:Nat→Nat)(j:Nat):Nat→Nat
 |0=>0
 |t+1=>if cO (wM N j t) (N (j+t))<0 then N (j+t)else wM N j t
def Nx(N:Nat→Nat)(j:Nat):Nat→Nat
 |0=>j
 |t+1=>if cO (wM N j t) (N (j+t))<0 then j+t else Nx N j t
theorem si{a b:Nat}(d:ah a=true)(h:ah b=true):cO a b<0↔fZ a<fZ b:=by
 have l:=(bY d).2;have t:=(bY h).2
 unfold cO cU
 rw[if_neg (fun e=>e.elim l t)]
 repeat' split
 all_goals omega
theorem Fs{a:Nat}(h:fS a=false):0≤fZ a:=by
 unfold fZ
 rw[h]
 exact Int.natCast_nonneg _
theorem JD(N:Nat→Nat)(j:Nat)(h:∀k,N k<18446744073709551616):∀t,wM N j t<18446744073709551616
 |0=>by show 0<18446744073709551616;decide
 |t+1=>by
  show(if _ then _ else _)<_
  split
  ·exact h _
  ·exact JD N j h t
theorem Nq(r c:Nat)(S:List Nat)(j:Nat)(Q:r≤6)(J:∀x∈S,x<18446744073709551616):∀t,tW r c S j t=true→
  Nx (eK r c S j) j t=ot r c S j t∧ah (wM (eK r c S j) j t)=true∧((t=0∧wM (eK r c S j) j t=0)∨(0<t∧ah (eK r c S j (ot r c S j t))=true∧fZ (wM (eK r c S j) j t)=fZ (eK r c S j (ot r c S j t)))):=by
 intro t
 induction t with
 |zero=>intro _;exact⟨rfl,(by show ah 0=true;decide),.inl ⟨rfl,rfl⟩⟩
 |succ t ih=>
  intro O
  have l:(tW r c S j t&&ah (eK r c S j (j+t)))=true:=O
  rw[Bool.and_eq_true]at l
  obtain⟨F,G,N⟩:=ih l.1
  have h:=l.2
  have L:fS (eK r c S j (j+t))=false:=IL _ (by rw[aL];omega) (Ac J _ _ _ _) h
  show(if cO (wM _ j t) (eK r c S j (j+t))<0 then j+t else Nx _ j t)=(if cO (eK r c S j (ot r c S j t)) (eK r c S j (j+t))<0 then j+t else ot r c S j t)∧ah (if cO (wM _ j t) (eK r c S j (j+t))<0 then eK r c S j (j+t)else wM _ j t)=true∧
   ((t+1=0∧_)∨(0<t+1∧ah (eK r c S j (if cO (eK r c S j (ot r c S j t)) (eK r c S j (j+t))<0 then j+t else ot r c S j t))=true∧fZ (if cO (wM _ j t) (eK r c S j (j+t))<0 then eK r c S j (j+t)else wM _ j t)=fZ (eK r c S j (if cO (eK r c S j (ot r c S j t)) (eK r c S j (j+t))<0 then j+t else ot r c S j t))))
  have T:=Fs L
  rcases N with⟨rfl,e⟩|⟨V,H,I⟩
  ·have z:ot r c S j 0=j:=rfl
   have U:fZ 0=0:=(iJ 0 (by decide)).1.trans (by decide)
   rw[z,e,F,z]
   rw[Nat.add_zero]at*
   have M:¬cO (eK r c S j j) (eK r c S j j)<0:=fun q=>by have:=(si h h).1 q;omega
   rw[if_neg M]
   by_cases d:cO 0 (eK r c S j j)<0
   ·rw[if_pos d,if_pos d]
    exact⟨rfl,h,.inr ⟨by omega,h,rfl⟩⟩
   ·rw[if_neg d,if_neg d]
    refine⟨rfl,by decide,.inr ⟨by omega,h,?_⟩⟩
    have:¬fZ 0<fZ (eK r c S j j):=fun q=>d ((si (by decide) h).2 q)
    omega
  ·have D:cO (wM (eK r c S j) j t) (eK r c S j (j+t))<0↔cO (eK r c S j (ot r c S j t)) (eK r c S j (j+t))<0:=by
    rw[si G h,si H h,I]
   by_cases d:cO (wM (eK r c S j) j t) (eK r c S j (j+t))<0
   ·rw[if_pos d,if_pos d,if_pos (D.1 d)]
    exact⟨rfl,h,.inr ⟨by omega,h,rfl⟩⟩
   ·rw[if_neg d,if_neg d,if_neg (fun q=>d (D.2 q))]
    exact⟨F,G,.inr ⟨by omega,H,I⟩⟩
theorem IP(r c:Nat)(S:List Nat)(j:Nat):∀t d,tW r c S j (t+d)=true→tW r c S j t=true:=by
 intro t d
 induction d with
 |zero=>exact fun h=>h
 |succ d ih=>
  intro h
  have l:(tW r c S j (t+d)&&_)=true:=h
  rw[Bool.and_eq_true]at l
  exact ih l.1
theorem rg(r c l j:Nat)(G:Option Addr)(S:List Nat)(w:World)(h:Mx w G l r c S)(U:j<r)(V:j<c)(X:c8 w):
  Calls Tryz.prog 101 #[.agg #[.int .i64 r,.int .i64 c,.slice G S.length l],.int .i64 (j:Nat)] w fun e z=>((Cg r c S j=true∧e=.returned (.tuple #[.int .i64 (jB r c S j:Nat),.int .i64 0]))∨(Cg r c S j=false∧e=.returned (.tuple #[.int .i64 0,.int .i64 2])))∧Below w.heap.size w z:=by
 have L:=h.2.2.1;have T:=h.2.2.2
 have M:∀k,eK r c S j k<18446744073709551616:=fun k=>lu _
 have N:=wu r c S.length l j (r-j) (c-j) G S (fun k=>bf c S j (r-j) k) (eK r c S j) (Nx (eK r c S j) j) (wM (eK r c S j) j) (fun k=>ah (eK r c S j k)) (tW r c S j) w L T U rfl (by omega) h.1 ⟨rfl,rfl⟩ rfl (fun t _=>⟨rfl,JD _ _ M t,M _,?_⟩) (fun t ht Y=>?_) (fun z k Z aa F=>?_) (fun z k J d _ _ F H=>?_) (fun z k _ _=>fi _ z (M k))
 ·refine N.mono ?_
  rintro e z ⟨O,F⟩
  refine⟨?_,F⟩
  rcases O with⟨I,rfl⟩|⟨I,rfl⟩
  ·exact .inl ⟨I,by rw[(Nq r c S j L h.1.nat _ I).1];rfl⟩
  ·exact .inr ⟨I,rfl⟩
 ·by_cases D:cO (wM (eK r c S j) j t) (eK r c S j (j+t))<0
  ·refine .inl ⟨D,?_,?_⟩
   ·show(if _ then _ else _)=_;rw[if_pos D]
   ·show(if _ then _ else _)=_;rw[if_pos D]
  ·refine .inr ⟨D,?_,?_⟩
   ·show(if _ then _ else _)=_;rw[if_neg D]
   ·show(if _ then _ else _)=_;rw[if_neg D]
 ·cases hz:tW r c S j (c-j)with
  |false=>rfl
  |true=>
   have:=IP r c S j (t+1) (c-j-(t+1)) (by rw[show t+1+(c-j-(t+1))=c-j by omega];exact hz)
   rw[Y]at this;cases this
 ·have:=mD r c l j k (r-j) 1 G S z ⟨F,h.2.1,L,T⟩ (by omega) (by omega)
  refine this.mono ?_
  rintro e ad ⟨v,rfl,⟨J,d,rfl,hn,H⟩,Q⟩
  rw[yN]at H⊢
  rw[aL]
  exact⟨J,d,rfl,H,Q⟩
 ·have:=vS J d (bs (bf c S j (r-j) k)) z H (by rw[aM,aL];omega) (X.all F)
  rw[aM,aL,tw,g6]at this
  exact this
def Cj(r c:Nat)(S:List Nat)(j a i:Nat):List Nat:=mW r c (fun p q=>cj c S p (if p<i then jJ j a q else q))
theorem Nr(r c:Nat)(S:List Nat)(j a:Nat)(h:S.length=r*c):Cj r c S j a 0=S:=by
 conv=>rhs;rw[←nN r c S h]
 exact dL (fun p q _ _=>by rw[if_neg (Nat.not_lt_zero p)];rfl)
theorem Ns(r c:Nat)(S:List Nat){j a:Nat}(h:j<c)(l:a<c):Cj r c S j a r=BJ r c S j a:=by
 conv=>rhs;rw[←nN r c (BJ r c S j a) (zZ r c S j a)]
 refine dL (fun p q d t=>?_)
 rw[if_pos d]
 exact(rX r c S h l d t).symm
theorem Ft(r c:Nat)(S:List Nat){j a i:Nat}(z:j<c)(D:a<c)(h:i<r):((Cj r c S j a i).set (i*c+j) ((Cj r c S j a i)[i*c+a]?.getD 0)).set (i*c+a) ((Cj r c S j a i)[i*c+j]?.getD 0)=Cj r c S j a (i+1):=by
 have F:(Cj r c S j a i)[i*c+a]?.getD 0=cj c S i a:=by
  unfold Cj
  rw[xZ r c _ h D,if_neg (Nat.lt_irrefl i)];rfl
 have G:(Cj r c S j a i)[i*c+j]?.getD 0=cj c S i j:=by
  unfold Cj
  rw[xZ r c _ h z,if_neg (Nat.lt_irrefl i)];rfl
 rw[F,G]
 unfold Cj
 rw[mC r c _ _ h z,mC r c _ _ h D]
 refine dL (fun p q H I=>?_)
 by_cases l:p=i
 ·subst l
  by_cases d:q=a
  ·subst d
   rw[if_pos ⟨rfl,rfl⟩,if_pos (Nat.lt_succ_self p)]
   unfold jJ
   rw[if_pos rfl]
  ·rw[if_neg (fun e=>d e.2),if_pos (Nat.lt_succ_self p)]
   unfold jJ
   rw[if_neg d]
   by_cases t:q=j
   ·subst t
    rw[if_pos ⟨rfl,rfl⟩,if_pos rfl]
   ·rw[if_neg (fun e=>t e.2),if_neg t,if_neg (Nat.lt_irrefl p)]
 ·rw[if_neg (fun e=>l e.1),if_neg (fun e=>l e.1)]
  by_cases d:p<i
  ·rw[if_pos d,if_pos (by omega)]
  ·rw[if_neg d,if_neg (by omega)]
theorem IQ(r c d j a:Nat)(t:Option Addr)(S:List Nat)(w:World)(h:Mx w t d r c S)(z:j<c)(D:a<c):
  Calls Tryz.prog 102 #[.slice t S.length d,.int .i64 c,.int .i64 (j:Nat),.int .i64 (a:Nat)] w fun e F=>∃g,e=.returned (.slice (some ⟨g,0,none⟩) S.length S.length)∧w.heap.size≤g∧bI F g (BJ r c S j a)∧Below w.heap.size w F:=by
 have I:=h.2.2.1;have J:=h.2.2.2;have H:=h.small
 have l:=Mb S.length c r j a d t (Cj r c S j a) (fun i=>i*c) w (by omega) (by omega) z D (by rw[Nr r c S j a h.2.1];exact h.1) (fun i=>by rw[h.2.1];exact fW _ _ _) ⟨Nat.zero_mul c,h.2.1.symm,fun i G=>⟨by rw[Nat.add_mul,Nat.one_mul],by rw[h.2.1];exact Nat.mul_le_mul_right c G,Ft r c S z D G⟩⟩
 rw[Ns r c S z D]at l
 exact l
theorem IW(c j a g:Nat)(L:List Nat)(w:World)(h:cw w g L)(d:L.length=c)(G:c≤6)(z:∀x∈L,x≤1000000)(D:j<c)(F:a<c):
  Calls Tryz.prog 103 #[.slice (some ⟨g,0,none⟩) c c,.int .i64 c,.int .i64 (j:Nat),.int .i64 (a:Nat)] w fun e t=>∃g,e=.returned (.slice (some ⟨g,0,none⟩) c c)∧w.heap.size≤g∧cw t g (wL L j a)∧Below w.heap.size w t:=by
 have l:=h.ints z
 rw[d]at l
 refine Mc c c 1 j a c (some ⟨g,0,none⟩) (fun i=>if i=0 then L else wL L j a) (fun i=>i*c) w (by omega) (by omega) D F l (fun i=>?_) ⟨Nat.zero_mul c,Nat.one_mul c,fun i l=>?_⟩
 ·show(if i=0 then L else wL L j a).length=c
  split
  ·exact d
  ·rw[tH,d]
 ·obtain rfl:i=0:=by omega
  refine⟨by omega,by omega,?_⟩
  rw[if_pos rfl,if_neg (by omega),Nat.zero_mul,Nat.zero_add,Nat.zero_add]
  unfold wL
  rw[List.getD_eq_getElem?_getD,List.getD_eq_getElem?_getD]
theorem Fu(r c z j:Nat)(J:Option Addr)(S:List Nat)(w:World)(h:Mx w J z r c S)(hj:j+1<r)(X:j<c)(O:c8 w):
  Calls Tryz.prog 104 #[.agg #[.int .i64 r,.int .i64 c,.slice J S.length z],.int .i64 (j:Nat)] w fun e t=>E8 w t (eM (bD r c S j)&&EU (bD r c S j)) r c S.length (r-j) (jI r c S j) (cu (bD r c S j)) (dr (bD r c S j)) e∧Below w.heap.size w t:=by
 have Q:=h.2.1
 have N:=h.2.2.1;have T:=h.2.2.2
 have D:(bD r c S j).length=r-j:=aL _ _ _ _ _
 have lV:(cu (bD r c S j)).length=r-j:=by rw[eH,D]
 refine It r c S.length z j (r-j) (dr (bD r c S j)) (gv (bD r c S j)) J S (qE r c S j j (cu (bD r c S j)) (dr (bD r c S j))) (jI r c S j) (bD r c S j) (cu (bD r c S j)) _ w N (by omega) rfl h.1 (fun t F=>?_) (fun t I d L F G=>?_) (fun t I d L F G=>?_) (fun t Y Z F hp hv=>?_) (fun t g M=>?_)
 ·refine(mD r c z j j (r-j) 1 J S t ⟨F,Q,N,T⟩ (by omega) (by omega)).mono ?_
  rintro e H ⟨v,rfl,⟨I,d,rfl,hn,G⟩,l⟩
  rw[yN]at G⊢
  rw[aL]
  exact⟨I,d,rfl,G,l⟩
 ·rw[Bool.and_eq_true]at L
  have:=Fq I d (bs (bD r c S j)) t G (by rw[aM,D];omega) (by rw[aM,D];omega) (by rw[aM];exact L.1) (by rw[g6];exact L.2) (O.all F)
  rw[g6,aM,D]at this
  exact this
 ·cases hf:eM (bD r c S j)
  ·have:=BT I d (bs (bD r c S j)) t G (by rw[aM,D];omega) (by rw[aM,D];omega) (by rw[aM];exact hf)
   rw[aM,D]at this
   refine this.mono ?_
   rintro e H ⟨U,V,rfl,l⟩
   exact⟨U,V,4,rfl,.inr rfl,l⟩
  ·have hk:EU (bD r c S j)=false:=by
    have:=L
    rw[hf,Bool.true_and]at this
    exact this
   have:=yK I d (bs (bD r c S j)) t G (by rw[aM,D];omega) (by rw[aM,D];omega) (by rw[aM];exact hf) (by rw[g6];exact hk) (O.all F)
   rw[aM,D]at this
   refine this.mono ?_
   rintro e H ⟨U,V,rfl,l⟩
   exact⟨U,V,2,rfl,.inl rfl,l⟩
 ·have:=qs r c z j j Z (dr (bD r c S j)) J Y S (cu (bD r c S j)) t ⟨hp,Q,N,T⟩ hv (by rw[lV];omega) (by omega) (EV _) (O.all F)
  rw[lV]at this
  refine this.mono ?_
  rintro e H ⟨g,rfl,hg,hr,l⟩
  exact⟨g,rfl,by omega,hr,l⟩
 ·have:=yn r c j (gv (bD r c S j)) g _ t N T (by omega) (by omega) (kv r c S j j (cu (bD r c S j)) (dr (bD r c S j))) M
  rw[kv,←Q]at this
  exact this
theorem Ml(r c:Nat)(S:List Nat){j:Nat}(h:j<r)(d:j<c):bD r c (eP r c S j) j=bf c S j (r-j) (jB r c S j):=by
 unfold bD bf
 refine List.map_congr_left (fun p l=>?_)
 have:=List.mem_range.1 l
 unfold eP
 rw[rX r c S d (gU r c S d) (by omega) d]
 unfold jJ
 split
 ·rename_i g;exact congrArg (cj c S (j+p)) g
 ·rw[if_pos rfl]
theorem Fv(r c:Nat)(S:List Nat)(j:Nat):∀t,tW r c S j t=true→∀k,j≤k→k<j+t→ah (eK r c S j k)=true:=by
 intro t
 induction t with
 |zero=>intro _ k l z;omega
 |succ t ih=>
  intro h k l z
  have d:(tW r c S j t&&ah (eK r c S j (j+t)))=true:=h
  rw[Bool.and_eq_true]at d
  by_cases g:k=j+t
  ·rw[g];exact d.2
  ·exact ih d.1 k l (by omega)
theorem NG(r c:Nat)(S:List Nat){j:Nat}(l:j<r)(d:j<c)(h:Cg r c S j=true):eM (bD r c (eP r c S j) j)=true:=by
 rw[Ml r c S l d]
 have:=Af _ (Fv r c S j (c-j) h (jB r c S j) (yu r c S j) (by have:=gU r c S d;omega))
 unfold eM
 rw[oS]
 intro k t
 rw[jz]
 refine this _ ?_
 rw[List.getD_eq_getElem?_getD,List.getElem?_eq_getElem t]
 exact List.getElem_mem t
theorem sj(r c:Nat)(S:List Nat):∀m,Ix r c S m=true↔∀j,j<m→Jw r c (dN r c S j) j=true:=by
 intro m
 induction m with
 |zero=>exact⟨fun _ j d=>absurd d (Nat.not_lt_zero j),fun _=>rfl⟩
 |succ m ih=>
  show(Ix r c S m&&Jw r c (dN r c S m) m)=true↔_
  rw[Bool.and_eq_true,ih]
  constructor
  ·rintro⟨l,t⟩ j d
   by_cases g:j=m
   ·rw[g];exact t
   ·exact l j (by omega)
  ·intro h
   exact⟨fun j d=>h j (by omega),h m (Nat.lt_succ_self m)⟩
theorem Fw(r c z:Nat)(M:Option Addr)(S:List Nat)(w:World)(h:Mx w M z r c S)(U:c8 w):
  Calls Tryz.prog 42 #[.agg #[.int .i64 r,.int .i64 c,.slice M S.length z]] w fun e d=>Ff w d (Ix r c S (min c r)) r c S.length (jA r c) (jD r c S) (LU r c S) (fun j=>cu (ky r c S j)) (fun j=>dr (ky r c S j)) e∧Below w.heap.size w d:=by
 have F:=h.2.1
 have O:=h.2.2.1;have J:=h.2.2.2
 have lR:=fun j=>(kx r c S F j).trans F.symm
 have V:=fun j=>(tI r c (dN r c S j) j).trans F.symm
 have L:=h.1.nat
 have Q:∀j,j≤c→∀x∈Iw r c S j,x≤1000000:=fun j t x N=>by have:=sd r c S t x N;omega
 refine IA r c S.length z (min c r) (jA r c) M (dN r c S) (fun j=>eP r c (dN r c S j) j) (fun j=>cu (ky r c S j)) (Iw r c S) (fun j=>jB r c (dN r c S j) j) (fun j=>dr (ky r c S j)) (fun j=>Cg r c (dN r c S j) j) (fun j=>eM (ky r c S j)&&EU (ky r c S j)) (Ix r c S (min c r)) w O J (by omega) (fun j=>by rw[yl];omega) (by unfold jA;omega) lR V (fun j=>by rw[eH,mL]) (fun j _=>Fg (yB L j) j) (fun j _=>yB L (j+1)) (fun j t l=>?_) rfl ?_ (fun d G=>?_) (fun d j H I t G D=>?_) (fun d j H I t D=>?_) (fun d j Z t D=>?_) (fun d j g t l G D=>?_)
 ·show mX r c (dN r c S j) j=_
  unfold mX
  rw[if_neg l]
 ·rw[sj]
  constructor
  ·intro q j t
   have:=q j t
   unfold Jw at this
   rw[Bool.and_eq_true]at this
   refine⟨this.1,fun l=>?_⟩
   have X:=this.2
   rw[decide_eq_false (by omega),Bool.false_or]at X
   rw[show eM (ky r c S j)=true from NG r c _ (by omega) (by omega) this.1,Bool.true_and]
   exact X
  ·intro q j t
   obtain⟨q1,q2⟩:=q j t
   unfold Jw
   rw[show Cg r c (dN r c S j) j=true from q1,Bool.true_and]
   by_cases g:j+1<r
   ·have:=q2 g
    rw[Bool.and_eq_true]at this
    rw[show EU (bD r c (eP r c (dN r c S j) j) j)=true from this.2,Bool.or_true]
   ·rw[decide_eq_true (by omega),Bool.true_or]
 ·refine(mD r c z 0 0 r c M S d (h.below G) (by omega) (by omega)).mono ?_
  rintro e aa ⟨v,rfl,⟨H,I,rfl,Y,N⟩,T⟩
  have ps:Mv c S 0 0 r c=S:=by
   conv=>rhs;rw[←nN r c S F]
   unfold Mv
   refine dL (fun p q _ _=>?_)
   rw[Nat.zero_add,Nat.zero_add]
   rfl
  rw[ps]at Y N⊢
  exact⟨H,I,rfl,Y,N,T⟩
 ·have:=rg r c I j H (dN r c S j) d ⟨D,kx r c S F j,O,J⟩ (by omega) (by omega) (U.all G)
  rw[lR j]at this
  exact this
 ·have:=IQ r c I j (jB r c (dN r c S j) j) H (dN r c S j) d ⟨D,kx r c S F j,O,J⟩ (by omega) (gU r c _ (by omega))
  rw[lR j]at this
  exact this
 ·exact IW c j (jB r c (dN r c S j) j) Z (Iw r c S j) d D (mK r c S j) J (Q j (by omega)) (by omega) (gU r c _ (by omega))
 ·have:=Fu r c S.length j (some ⟨g,0,none⟩) (eP r c (dN r c S j) j) d ⟨D,tI r c _ _,O,J⟩ l (by omega) (U.all G)
  rw[V j]at this
  have e:dN r c S (j+1)=jI r c (eP r c (dN r c S j) j) j:=by
   show mX r c (dN r c S j) j=_
   unfold mX
   rw[if_pos l]
  rw[e]
  exact this
theorem IX(r:Nat)(X:Nat→List Nat)(K:Nat):∀t d,eM (Ch r X K (t+d))=true→eM (Ch r X K t)=true:=by
 intro t d
 induction d with
 |zero=>exact fun h=>h
 |succ d ih=>exact fun h=>ih (IH (iF r X K (t+d)) _ _ _ _ h)
theorem IY(r c I:Nat)(lo:Option Addr)(S:List Nat)(R:List Mr)(w:World)(G:r≤6)(T:ch 0 w (.slice lo (jA r c) I) R)(J:R.length=jA r c)(L:∀k,k<jA r c→(fo R k).V=cu (ky r c S k)∧(fo R k).tau=dr (ky r c S k))(U:c8 w):
  Calls Tryz.prog 43 #[.int .i64 r,.slice lo (jA r c) I] w fun e d=>∃Q h l,(Q=Ci r c S∨(je (bs Q) (r*r)=false∧eM (Ci r c S)=false))∧Q.length=r*r∧e=.returned (.agg #[.int .i64 r,.int .i64 r,.slice h (r*r) l])∧dJ w.heap.size h (bs Q)∧ak d h l (bs Q)∧Below w.heap.size w d:=by
 have lV:∀j,(cu (ky r c S j)).length=r-j:=fun j=>by rw[eH,mL]
 have X:jA r c≤6:=by unfold jA;omega
 refine(yz r (r*r) (jA r c) I lo (fun j=>cu (ky r c S j)) (Ch r (ky r c S) (jA r c)) (fun j=>dr (ky r c S j)) R w (Nat.mul_le_mul G G) X T J L (iF r _ _) lV ?_ ?_ (fun d x D=>fi x d D)).mono ?_
 ·intro d
  refine(Ic r d G).mono ?_
  rintro e N ⟨v,rfl,⟨h,l,rfl,F,H⟩,z⟩
  exact⟨h,l,by rw[show(Ju r).length=r*r from fW r r _],F,H,z⟩
 ·intro d t j Z pc vo vc ht hj H hp hv
  have Y:=(yl r c j).1 (by omega)
  have:=Ca r r pc j 0 vc (dr (ky r c S j)) Z vo (Ch r (ky r c S) (jA r c) t) (cu (ky r c S j)) d ⟨hp,iF r _ _ t,G,G⟩ hv (by rw[lV];omega) (by omega) (EV _) (U.all H)
  rw[iF,lV]at this
  refine this.mono ?_
  rintro e N ⟨v,rfl,⟨h,l,rfl,F,D⟩,z⟩
  rw[kv]
  have e:qE r r (Ch r (ky r c S) (jA r c) t) j 0 (cu (ky r c S j)) (dr (ky r c S j))=Ch r (ky r c S) (jA r c) (t+1):=by
   show _=qE r r (Ch r (ky r c S) (jA r c) t) (jA r c-1-t) 0 (cu (ky r c S (jA r c-1-t))) (dr (ky r c S (jA r c-1-t)))
   rw[←hj]
  rw[e]at F D
  exact⟨h,l,rfl,F,D,z⟩
 ·rintro e d ⟨t,h,l,ht,O,rfl,F,D,H⟩
  refine⟨_,h,l,?_,iF r _ _ t,rfl,F,D,H⟩
  rcases O with e|e
  ·left;rw[e];rfl
  ·right
   refine⟨e,?_⟩
   cases hf:eM (Ci r c S)
   ·rfl
   ·have M:=IX r (ky r c S) (jA r c) t (jA r c-t) (by rw[show t+(jA r c-t)=jA r c by omega];exact hf)
    unfold eM at M
    rw[iF,e]at M
    cases M
theorem wE(r c t:Nat)(z:Option Addr)(S:List Nat)(w:World)(h:Mx w z t r c S)(X:eM S=true)(N:c8 w):
  Calls Tryz.prog 11 #[.agg #[.int .i64 r,.int .i64 c,.slice z S.length t]] w fun e d=>(Jx r c S=true∧yD w r c S e d)∨(Jx r c S=false∧Mi w 2 e d):=by
 have O:=h.2.1
 have G:=h.2.2.1;have c6:=h.2.2.2
 have aa:=h.small
 have T:r*r≤36:=Nat.mul_le_mul G G
 have H:(jD r c S).length=S.length:=(kx r c S O _).trans O.symm
 have U:(Ci r c S).length=r*r:=iF _ _ _ _
 have lp:(LU r c S).length=c:=mK _ _ _ _
 have I:Ig (r:Int) (c:Int) (bs S)=0:=by
  unfold Ig
  rw[aM,zT h]
  have:je (bs S) S.length=true:=X
  rw[this]
  rfl
 refine(yA r c S.length (r*r) (jA r c) t z (jD r c S) (Ci r c S) (LU r c S) (fun j=>cu (ky r c S j)) (fun j=>dr (ky r c S j)) (Ix r c S (min c r)) (eM (Ci r c S)) (eM (jD r c S)) w H U (by unfold eM;rw[U]) ?_ (fun d l=>Fw r c t z S d (h.below l) (N.all l)) (fun d lo Y R l D F Z=>IY r c Y lo S R d G D F Z (N.all l)) ?_ ?_).mono ?_
 ·intro d l
  have:=qg r c z t (bs S) d (h.1.below l) (by rw[aM];omega)
  rw[aM,I]at this
  exact this
 ·intro d Q qo qc l J
  have:=du qo qc (bs Q) d l (by rw[aM];omega)
  rw[aM,J]at this
  exact this
 ·intro d ro rc l
  have:=du ro rc (bs (jD r c S)) d l (by rw[aM];omega)
  unfold eM
  rw[aM,H]at this
  rw[H]
  exact this
 ·rintro e d ⟨L,l⟩
  rcases L with⟨M,v,u,V,rfl,D,F,hg,hp⟩|⟨M,v,u,rfl,D,F⟩
  ·refine .inl ⟨M,v,u,some ⟨V,0,none⟩,c,rfl,D,F,.inr ⟨V,0,rfl,hg⟩,?_,l⟩
   have:=hp.ints (fun x hx=>by have:=sd r c S (show min c r≤c by omega) x hx;omega)
   rw[lp]at this
   exact this
  ·exact .inr ⟨M,v,u,none,0,rfl,D,F,l⟩
theorem ov(r c d:Nat)(t:Option Addr)(S:List Nat)(w:World)(h:Mx w t d r c S)(z:eM S=true)(D:Jx r c S=true)(F:c8 w):
  Calls Tryz.prog 11 #[.agg #[.int .i64 r,.int .i64 c,.slice t S.length d]] w (yD w r c S):=by
 refine(wE r c d t S w h z F).mono ?_
 rintro e H (⟨_,G⟩|⟨l,_⟩)
 ·exact G
 ·rw[D]at l;cases l
def gD(Z:Rat)(r c:Nat)(S:List Nat):Prop:=∀p q,p<r→q<c→cj c S p q<18446744073709551616∧ah (cj c S p q)=true∧ab (fQ (cj c S p q))≤Z
theorem gD.mono{Z Y:Rat}{r c:Nat}{S:List Nat}(h:gD Z r c S)(t:Z≤Y):gD Y r c S:=fun p q d l=>⟨(h p q d l).1,(h p q d l).2.1,Rat.le_trans (h p q d l).2.2 t⟩
theorem gD.col{Z:Rat}{r c:Nat}{S:List Nat}(h:gD Z r c S){i n q:Nat}(z:i+n≤r)(d:q<c):cI Z (bf c S i n q):=by
 intro x t
 obtain⟨j,l,rfl⟩:=List.mem_map.1 t
 have:=List.mem_range.1 l
 exact h (i+j) q (by omega) d
theorem gD.fins{Z:Rat}{r c:Nat}{S:List Nat}(h:gD Z r c S)(l:S.length=r*c):eM S=true:=by
 rw[wD]
 intro k d
 rw[l]at d
 obtain⟨t,z,D⟩:=jY d
 have:=(h (k/c) (k%c) t z).2.1
 unfold cj at this
 rwa[D]at this
theorem gD.ap{Z:Rat}{r c:Nat}{S:List Nat}(h:gD Z r c S)(i k:Nat)(l:List Nat)(d:Nat)(L:l.length≤6)(M:i+l.length≤r)(N:ah d=true)(O:1000*ab (fQ d)≤2001)(Q:∀v∈l,ah v=true∧1000*ab (fQ v)≤1001)(T:6*Z≤p2 900)(D:1267650600228229401496703205376*p2 (-1075)≤Z):gD (24*Z) r c (qE r c S i k l d):=by
 intro p q J z
 have U:0≤Z:=by have:=aw (-1075);grind
 rw[mH r c S i k l d J z]
 split
 ·rename_i g
  have H:=h.col (n:=l.length) M z
  have I:p-i<l.length:=by omega
  have F:=rQ d Z l (bf c S i l.length q) L (aL _ _ _ _ _).symm N O Q (fun y G=>⟨(H y G).2.1,(H y G).2.2⟩) T D
  have t:(wK c S i q l d).getD (p-i) 0∈wK c S i q l d:=by
   rw[List.getD_eq_getElem?_getD,List.getElem?_eq_getElem (by rw[zV];exact I)]
   exact List.getElem_mem _
  have:=F _ t
  refine⟨?_,this.1,this.2⟩
  rw[qi c S i q l d I]
  exact jT _ _ (h (i+(p-i)) q (by omega) z).1 (jF _ (kL _ _))
 ·have:=h p q J z
  exact⟨this.1,this.2.1,by grind⟩
theorem gD.sw{Z:Rat}{r c:Nat}{S:List Nat}(h:gD Z r c S){j a:Nat}(l:j<c)(t:a<c):gD Z r c (BJ r c S j a):=by
 intro p q d z
 rw[rX r c S l t d z]
 refine h p _ d ?_
 unfold jJ
 repeat' split
 all_goals omega
theorem gD.cl{Z:Rat}{r c:Nat}{S:List Nat}(h:gD Z r c S)(j:Nat)(b:Nat)(z:0≤Z)(t:b<18446744073709551616∧ah b=true∧ab (fQ b)≤Z):gD Z r c (Jv r c S j b):=by
 intro p q d l
 rw[j5 r c S j b d l]
 repeat' split
 ·exact t
 ·rw[ix];exact⟨by decide,by decide,by unfold ab;grind⟩
 ·exact h p q d l
theorem Fx(X:List Nat)(Z:Rat)(t:X.length≤6)(D:cI Z X)(H:Z≤p2 290)(I:p2 (-800)≤Z):gv X<18446744073709551616∧ah (gv X)=true∧ab (fQ (gv X))≤24*Z:=by
 have d:cI (p2 300) X:=D.mono (Rat.le_trans H (aA (by decide)))
 obtain⟨c1,c2,c3,c4,O,Q⟩:=gO X t d
 obtain⟨x1,x2,x3,x4⟩:=io X t d
 have Y:=aw (-800)
 have Z0:0<Z:=by grind
 refine⟨yh X (fun x J=>(D x J).1),Q,?_⟩
 by_cases G:X= []
 ·rw[G]
  show ab (fQ 0)≤_
  rw[ix];unfold ab;grind
 have S0:=bw X
 have hS:aJ X≤6*(Z*Z):=by
  have L:=mw Z X (fun x h=>(D x h).2.2)
  have M:(X.length:Rat)≤6:=Rat.natCast_le_natCast.2 t
  have:=Rat.mul_nonneg (show 0≤6-(X.length:Rat) by grind) (al Z)
  grind
 have N:p2 (-1700)≤Z*Z:=by
  have q0:=aw (-800)
  have L:=Rat.mul_nonneg (show 0≤Z-p2 (-800) by grind) (show 0≤Z+p2 (-800) by grind)
  have h2:p2 (-1600)=p2 (-800)*p2 (-800):=by rw[←nO];rfl
  have h3:=aA (show(-1700:Int)≤-1600 by decide)
  grind
 have l:=au (fQ (aX X)*fQ (aX X)-aJ X)
 have F:fQ (gv X)*fQ (gv X)≤24*Z*(24*Z):=by
  have e:24*Z*(24*Z)=576*(Z*Z):=by grind
  rw[e]
  rcases O G with g|g
  ·rw[g]
   generalize fQ (aX X)*fQ (aX X)=T at*
   generalize Z*Z=U at*
   generalize aJ X=V at*
   generalize ab (T-V)=z at*
   grind
  ·rw[g]
   generalize Z*Z=U at*
   grind
 refine bW (by grind) ?_
 rw[show ab (fQ (gv X))*ab (fQ (gv X))=fQ (gv X)*fQ (gv X) by rw[←aK];exact aQ (al _)]
 exact F
theorem gD.step{Z:Rat}{r c:Nat}{S:List Nat}(h:gD Z r c S){j:Nat}(Y:r≤6)(M:j<r)(d:j<c)(F:Z≤p2 290)(l:p2 (-800)≤Z):
  Cg r c S j=true∧Jw r c S j=true∧gD (24*Z) r c (mX r c S j):=by
 have p0:=aw (-800)
 have Z0:0<Z:=by grind
 have z:1267650600228229401496703205376*p2 (-1075)≤Z:=Rat.le_trans (pP (-800) (by decide)) l
 have G:6*Z≤p2 900:=by
  have:=aA (show(290+1+1+1:Int)≤900 by decide)
  simp only[bR]at this
  have:=aw 290
  grind
 have O:=gU r c S d
 have Q:∀k,j≤k→k<c→ah (eK r c S j k)=true:=fun k _ N=>
  (io _ (by rw[aL];omega) ((h.col (i:=j) (n:=r-j) (by omega) N).mono (Rat.le_trans F (aA (by decide))))).1
 have hF:∀t,j+t≤c→tW r c S j t=true:=by
  intro t
  induction t with
  |zero=>intro _;rfl
  |succ t ih=>
   intro ht
   show(tW r c S j t&&ah (eK r c S j (j+t)))=true
   rw[ih (by omega),Q (j+t) (by omega) (by omega)]
   rfl
 have H:gD Z r c (eP r c S j):=h.sw d O
 have J:cI Z (bD r c (eP r c S j) j):=H.col (by omega) d
 have L:(bD r c (eP r c S j) j).length=r-j:=aL _ _ _ _ _
 obtain⟨T,U,V,X,c5,c6⟩:=gO (bD r c (eP r c S j) j) (by omega) (J.mono (Rat.le_trans F (aA (by decide))))
 have D:Cg r c S j=true:=hF (c-j) (by omega)
 refine⟨D,?_,?_⟩
 ·unfold Jw
  rw[D,T,Bool.or_true]
  rfl
 ·unfold mX
  split
  ·have I:=H.ap j j (cu (bD r c (eP r c S j) j)) (dr (bD r c (eP r c S j) j)) (by rw[eH,L];omega) (by rw[eH,L];omega) U V X G z
   exact I.cl j _ (by grind) (Fx _ Z (by omega) J F l)
  ·exact H.mono (by grind)
theorem gD.all{r c:Nat}{S:List Nat}(h:gD (p2 200) r c S)(l:r≤6):∀j,j≤min c r→gD (p2 (200+5*j)) r c (dN r c S j)∧∀t,t<j→Jw r c (dN r c S t) t=true:=by
 intro j
 induction j with
 |zero=>intro _;exact⟨h,fun t d=>absurd d (Nat.not_lt_zero t)⟩
 |succ j ih=>
  intro I
  obtain⟨z,D⟩:=ih (by omega)
  obtain⟨H,F,G⟩:=z.step l (show j<r by omega) (by omega) (aA (by omega)) (aA (by omega))
  refine⟨G.mono ?_,fun t d=>?_⟩
  ·have e:p2 (200+5*((j+1:Nat):Int))=32*p2 (200+5*(j:Int)):=by
    rw[show(200+5*((j+1:Nat):Int))=200+5*(j:Int)+((5:Nat):Int) by omega,dG]
    rfl
   rw[e]
   have:=aw (200+5*(j:Int))
   grind
  ·by_cases g:t=j
   ·rw[g];exact F
   ·exact D t (by omega)
theorem gD.eye(r:Nat):gD (p2 0) r r (Ju r):=by
 intro p q d h
 rw[show cj r (Ju r) p q=if q=p then 4607182418800017408 else 0 from zS r r _ d h,kF]
 split
 ·rw[k7];exact⟨by decide,by decide,by unfold ab;grind⟩
 ·rw[ix];exact⟨by decide,by decide,by unfold ab;grind⟩
theorem Cb{r c:Nat}{S:List Nat}(h:gD (p2 200) r c S)(G:S.length=r*c)(H:r≤6):Jx r c S=true:=by
 have d:=h.all H
 have I:Ix r c S (min c r)=true:=(sj r c S _).2 (d (min c r) (Nat.le_refl _)).2
 have J:eM (jD r c S)=true:=(d (min c r) (Nat.le_refl _)).1.fins (kx r c S G _)
 have L:∀t,t≤jA r c→gD (p2 (5*t)) r r (Ch r (ky r c S) (jA r c) t):=by
  intro t
  induction t with
  |zero=>intro _;exact gD.eye r
  |succ t ih=>
   intro ht
   have i:=ih (by omega)
   have l:=(yl r c (jA r c-1-t)).1 (by omega)
   obtain⟨j,F⟩:∃j,jA r c-1-t=j:=⟨_,rfl⟩
   rw[F]at l
   have z:=(d j (by omega)).1
   have M:cI (p2 300) (ky r c S j):=((z.sw (j:=j) (a:=jB r c (dN r c S j) j) (by omega) (gU r c _ (by omega))).col (i:=j) (n:=r-j) (by omega) (by omega)).mono (aA (by omega))
   obtain⟨X,Q,T,U,Y,Z⟩:=gO (ky r c S j) (by rw[mL];omega) M
   show gD _ r r (qE r r (Ch r (ky r c S) (jA r c) t) (jA r c-1-t) 0 (cu (ky r c S (jA r c-1-t))) (dr (ky r c S (jA r c-1-t))))
   rw[F]
   have V:jA r c≤6:=by unfold jA;omega
   have D:6*p2 (5*(t:Int))≤p2 900:=by
    have N:=aA (show(5*(t:Int)+1+1+1:Int)≤900 by omega)
    simp only[bR]at N
    have:=aw (5*(t:Int))
    grind
   refine(i.ap j 0 _ _ (by rw[eH,mL];omega) (by rw[eH,mL];omega) Q T U D (pP _ (by omega))).mono ?_
   have e:p2 (5*((t+1:Nat):Int))=32*p2 (5*(t:Int)):=by
    rw[show(5*((t+1:Nat):Int))=5*(t:Int)+((5:Nat):Int) by omega,dG]
    rfl
   rw[e]
   have:=aw (5*(t:Int))
   grind
 have O:eM (Ci r c S)=true:=(L (jA r c) (Nat.le_refl _)).fins (iF _ _ _ _)
 unfold Jx
 rw[I,O,J]
 rfl
end Go.Proofs.YtmpkkhackbpflaaGreatDoor
