/- Part 45 of the texts. -/
import Derived.Test.YtlnphkioddknfaaGreatDoorParty44
set_option maxHeartbeats 32000000
set_option maxRecDepth 20000
namespace Go.Proofs.YtlnphkioddknfaaGreatDoor
open Go.RowKit
attribute [local go_sem ↓] Go.wp_at_zero Go.wp_at_succ
structure pi (w wr:World) (h n q tn tc bn bc L xc:Nat) (tq bo xo:Option Addr) (X:List Nat):Prop where
 bel:Below w.heap.size w wr
 hh:w.heap.size+3≤h
 t:aq wr w.heap.size (.int .i64 n) (.int .i64 n) (.slice tq tn tc)
 b:aq wr (w.heap.size+1) (.int .i64 n) (.int .i64 q) (.slice bo bn bc)
 res:aq wr (w.heap.size+1+1) (.int .i64 0) (.int .i64 0) (.slice none 0 0)
 x:aq wr h (.int .i64 n) (.int .i64 q) (.slice xo L xc)
 bits:ac wr xo xc (ar X)
 new:bH w.heap.size xo (ar X)
 len:X.length=L
theorem pi.all{w wr f:World}{h n q l m y z L A:Nat}{D F G:Option Addr}{X:List Nat}(s:pi w wr h n q l m y z L A D F G X)(d:Below wr.heap.size wr f):pi w f h n q l m y z L A D F G X:=
 ⟨s.bel.trans (d.mono s.bel.size),s.hh,s.t.all d,s.b.all d,s.res.all d,s.x.all d,s.bits.below d,s.new,s.len⟩
theorem pi.put{w wr:World}{h n q l m y z L F f:Nat}{A D G d:Option Addr}{X Y:List Nat}(s:pi w wr h n q l m y z L F A D G X)(H:ac wr d f (ar Y))(I:bH w.heap.size d (ar Y))(K:Y.length=L):
  pi w (((wr.setCell ⟨h,0,none⟩ (.int .i64 n)).setCell ⟨h,1,none⟩ (.int .i64 q)).setCell ⟨h,2,none⟩ (.slice d L f)) h n q l m y z L f A D d Y:=by
 have M:=s.hh
 exact⟨ai s.bel (by omega) _ _ _,M,s.t.three14 (by omega) _ _ _,s.b.three14 (by omega) _ _ _,s.res.three14 (by omega) _ _ _,s.x.put _ _ _,H.putM s.x _ _ _,I,K⟩
theorem DJ(n q M U O Z L:Nat)(f:Int)(N V:Option Addr)(T B:List Nat)(w:World)(hT:Mx w N M n n T)(hB:Mx w V U n q B)(a6:T.length=O)(a7:B.length=Z)(hL:n*q=L)
  (CC:∀d,Below w.heap.size w d→Calls Tryz.prog 48 #[.agg #[.int .i64 n,.int .i64 n,.slice N O M],.agg #[.int .i64 n,.int .i64 q,.slice V Z U]] d fun e aI=>e=.returned (.int .i64 0)∧Below d.heap.size d aI)
  (CF:∀d D F,Below w.heap.size w d→ac d D F (ar (rx n q T B))→Calls Tryz.prog 53 #[.agg #[.int .i64 n,.int .i64 q,.slice D L F]] d fun e aI=>DI f n q L D F e∧Below d.heap.size d aI):
  Calls Tryz.prog 13 #[.agg #[.int .i64 n,.int .i64 n,.slice N O M],.agg #[.int .i64 n,.int .i64 q,.slice V Z U]] w fun e d=>∃D F,DI f n q L D F e∧bH w.heap.size D (ar (rx n q T B))∧ac d D F (ar (rx n q T B))∧Below w.heap.size w d:=by
 have n6:=hT.2.2.1
 have q6:=hB.2.2.2
 have KB:=aa (bp w (.int .i64 n) (.int .i64 n) (.slice N O M) (.int .i64 n) (.int .i64 q) (.slice V Z U) (.int .i64 0) (.int .i64 0) (.slice none 0 0))
 obtain⟨b0,x0,x1,x2⟩:=uH KB _ (by have:=Below.refl (((w.alloc (.cells #[.int .i64 n,.int .i64 n,.slice N O M] 24)).alloc (.cells #[.int .i64 n,.int .i64 q,.slice V Z U] 24)).alloc (.cells #[.int .i64 0,.int .i64 0,.slice none 0 0] 24)).heap.size (((w.alloc (.cells #[.int .i64 n,.int .i64 n,.slice N O M] 24)).alloc (.cells #[.int .i64 n,.int .i64 q,.slice V Z U] 24)).alloc (.cells #[.int .i64 0,.int .i64 0,.slice none 0 0] 24));simpa only[ad]using this)
 have K1:=aa (CC _ b0)
 have HB:=aa b0;have HX:=aa x0;have HY:=aa x1;have HR:=aa x2
 have HT:=aa hT;have b2:=aa hB
 have KZ:=aa (fun d=>gA n q d n6 q6)
 have a9:=aa CF
 have hO:=tW n
 obtain⟨o,ho⟩:∃o:Nat→Nat,(fun m=>n-1-m)=o:=⟨_,rfl⟩
 have EO:=aa (show∀m,o m=(fun m=>n-1-m) m from fun m=>by rw[←ho])
 rw[ho]at hO
 obtain⟨G,K⟩:∃G:Nat→Nat→List Nat,zT n q (bB n T) (bB q B) o DR=G:=⟨_,rfl⟩
 obtain⟨NN,ak⟩:∃NN:Nat→Nat→Nat,(fun c m=>Jr n (bB n T) (fun p=>bB q B p c) o DR m)=NN:=⟨_,rfl⟩
 obtain⟨XX,am⟩:∃XX:Nat→Nat→Nat→Nat,(fun c m k=>zw n (bB n T) (fun p=>bB q B p c) o DR m k)=XX:=⟨_,rfl⟩
 obtain⟨Q,Y⟩:∃Q:Nat→Nat→Nat→Nat,(fun c m k=>Gz (bB n T) (zw n (bB n T) (fun p=>bB q B p c) o DR m) DR (o m) (bB q B (o m) c) k)=Q:=⟨_,rfl⟩
 have EM:=aa (show G q 0=rx n q T B from by rw[←K,←ho];exact xz _ _ _ _ _ _)
 have E0:=aa (show List.replicate (n*q) 0=G 0 0 from by rw[←K,←qg];exact gL n q)
 have EC:=aa (show∀c,G c n=G (c+1) 0 from fun c=>by rw[←K];exact xy _ _ _ _ _ _ c)
 have ES:=aa (show∀c m,m<n→c<q→(G c m).set (o m*q+c) (NN c m)=G c (m+1)from fun c m hm hc=>by rw[←K,←ak];exact xA _ _ _ hO hm hc)
 have EL:=aa (show∀c m,(G c m).length=L from fun c m=>by rw[←K,xx,hL])
 have EA:=aa (show∀c m k,k<n→c<q→bB q (G c m) k c=XX c m k from fun c m k hk hc=>by rw[←K,←am];exact DA _ _ _ _ hk hc)
 have SY:=aa (show∀c m k,DR (o m) k=true→Q c m (k+1)=aV (Q c m k) (fN (mV (bB n T (o m) k) (XX c m k)))from fun c m k hd=>by rw[←Y,←am];exact if_pos hd)
 have S0:=aa (show∀c m,Q c m (o m+1)=bB q B (o m) c from fun c m=>by rw[←Y];exact tX _ _ _ _ _ _ (fun p hp=>decide_eq_false (by omega)))
 have SN:=aa (show∀c m,Q c m n=Q c m n from fun c m=>rfl)
 have SE:=aa (show∀c m,NN c m=dV (Q c m n) (bB n T (o m) (o m))from fun c m=>by rw[←Y,←ak];rfl)
 have SL:=aa (show∀c m k,Q c m k<18446744073709551616 from fun c m k=>by rw[←Y];exact ru _ _ _ _ _ (hB.el_lt _ _) k)
 have XL:=aa (show∀c m k,XX c m k<18446744073709551616 from fun c m k=>by rw[←am];exact wg _ _ _ _ _ m k)
 have NL:=aa (show∀c m,NN c m<18446744073709551616 from fun c m=>by rw[←ak];exact nA _ _)
 have TL:=aa (show∀i k,bB n T i k<18446744073709551616 from fun i k=>hT.el_lt i k)
 have OL:=aa (show∀m,m<n→o m<n from hO.lt)
 have HL:=aa hL;have LT:=aa a6;have LB:=aa a7
 have y0:=x0.c0;have y1:=x0.c1;have y2:=x0.c2;have u0:=x1.c0;have u1:=x1.c1;have u2:=x1.c2
 generalize rx n q T B=ck at*
 clear CC CF KB b0 x0 x1 x2 hT hB a6 a7 hL hO ho K ak am Y
 go_enter Tryz.func13,Tryz.ntmps13
 go_wp2_with fail
 clear y0 y1 y2 u0 u1 u2
 refine(uH K1).mono ?_
 rintro e w1 ⟨rfl,A⟩
 replace HX:=aa ((uH HX).all A);replace HY:=aa ((uH HY).all A);replace HR:=aa ((uH HR).all A)
 replace HB:=aa ((uH HB).trans (A.mono (uH HB).size))
 have b3:=aa A.size
 clear A K1
 have u0:=(uH HY).c0;have u1:=(uH HY).c1
 go_wp2_with fail
 clear u0 u1
 refine(uH KZ _).mono ?_
 rintro e w2 ⟨v,rfl,⟨D,F,rfl,hn,hq⟩,A⟩
 have ST:Hid (pi w (w2.alloc (.cells #[.int .i64 n,.int .i64 q,.slice D L F] 24)) w2.heap.size n q O M Z U L F N V D (G 0 0)):=aa (by
  have ba:=ab w2 (.cells #[.int .i64 n,.int .i64 q,.slice D L F] 24)
  have bb:=(uH HB).trans (A.mono (uH HB).size)
  have e0:=uH E0
  rw[e0]at hn hq
  exact⟨bb.trans (ba.mono bb.size),by have:=(uH HR).lt;have:=A.size;omega,((uH HX).all A).all ba,((uH HY).all A).all ba,((uH HR).all A).all ba,aq.new w2 _ _ _,hq.below ba,hn.least (uH HB).size,uH EL 0 0⟩)
 have ax:(List.replicate (n*q) 0:List Nat).length=L:=by rw[List.length_replicate];exact uH HL
 rw[ax]
 clear ax KZ hn hq A HB HX HY HR E0 b3
 go_wp2_with fail
 generalize w2.heap.size=h at*
 go_loopg [7] q (fun g a wr=>∃(c:Nat) (D:Option Addr) (F:Nat),c+g=q∧a=.int .i64 c∧Hid (pi w wr h n q O M Z U L F N V D (G c 0)))
 case atStart=>exact⟨0,D,F,by omega,rfl,ST⟩
 case round=>
  clear ST
  obtain⟨c,D,F,cy,rfl,l⟩:=hrel
  cases gk with
  |zero=>
   have cl:¬((c:Int)<(q:Int)):=by omega
   have e1:G c 0=ck:=by rw[show c=q by omega];exact uH EM
   rw[e1]at l
   clear e1
   have y1:=(uH l).b.c1
   have q0:=(uH l).x.c0;have q1:=(uH l).x.c1;have q2:=(uH l).x.c2
   go_wp2_with fail
   clear y1 q0 q1 q2
   refine(uH a9 _ D F (uH l).bel (uH l).bits).mono ?_
   rintro e w3 ⟨bx,A⟩
   have S3:=(uH l).all A
   have HN:=aa S3.new;have HQ:=aa S3.bits;have HB:=aa S3.bel;have HR:=aa S3.res
   clear S3 A l a9
   rcases bx with⟨rfl,rfl⟩|⟨hf,rfl⟩
   ·have H:=uH HR
    have f0:=H.free 0;have f1:=H.free 1;have f2:=H.free 2
    have s0:=H.c0;have s1:=H.c1;have s2:=H.c2
    have XP:=H.put (.int .i64 n) (.int .i64 q) (.slice D L F)
    have z0:=XP.c0;have z1:=XP.c1;have z2:=XP.c2
    have BP:=aa (ai (uH HB) (b:=w.heap.size+1+1) (by omega) (.int .i64 n) (.int .i64 q) (.slice D L F))
    have QP:=aa ((uH HQ).putM H (.int .i64 n) (.int .i64 q) (.slice D L F))
    clear XP H
    go_wp2_with fail
    exact bodyPost_ret (v:=.tuple #[.agg #[.int .i64 n,.int .i64 q,.slice D L F],.int .i64 0]) (by simp[results,Tryz.results13,go_sem,z0,z1,z2]) rfl ⟨D,F,.inl ⟨rfl,rfl⟩,uH HN,uH QP,uH BP⟩
   ·have H:=uH HR
    have f0:=H.free 0;have f1:=H.free 1;have f2:=H.free 2
    have s0:=H.c0;have s1:=H.c1;have s2:=H.c2
    have XP:=H.put (.int .i64 0) (.int .i64 0) (.slice none 0 0)
    have z0:=XP.c0;have z1:=XP.c1;have z2:=XP.c2
    have BP:=aa (ai (uH HB) (b:=w.heap.size+1+1) (by omega) (.int .i64 0) (.int .i64 0) (.slice none 0 0))
    have QP:=aa ((uH HQ).putM H (.int .i64 0) (.int .i64 0) (.slice none 0 0))
    have HF:=aa hf
    clear XP H hf
    go_wp2_with fail
    exact bodyPost_ret (v:=.tuple #[.agg #[.int .i64 0,.int .i64 0,.slice none 0 0],.int .i64 f]) (by simp[results,Tryz.results13,go_sem,z0,z1,z2]) rfl ⟨D,F,.inr ⟨uH HF,rfl⟩,uH HN,uH QP,uH BP⟩
  |succ g=>
   have cm:(c:Int)<(q:Int):=by omega
   have X:=aa (show c<q by omega)
   have b4:IntKind.i64.wrap ((n:Int)-1)=(n:Int)-1:=aP _ (by omega)
   have co:IntKind.i64.wrap ((c:Int)+1)=(c:Int)+1:=aP _ (by omega)
   have y0:=(uH l).t.c0;have y1:=(uH l).b.c1
   go_wp2_with fail
   clear y0 y1
   go_loopg [8] n (fun g2 a wr=>∃(m:Nat) (D:Option Addr) (F:Nat),m+g2=n∧a=.int .i64 ((n:Int)-1-(m:Int))∧Hid (pi w wr h n q O M Z U L F N V D (G c m)))
   case atStart=>exact⟨0,D,F,by omega,by simp,l⟩
   case round=>
    clear l b4
    obtain⟨m,D,F,cz,rfl,l⟩:=hrel
    cases gk with
    |zero=>
     have b5:(n:Int)-1-(m:Int)= -1:=by omega
     rw[b5]
     go_wp2_with fail
     go_roundg g
     case measure=>omega
     case rel=>
      have be:Hid (G c m=G (c+1) 0):=aa (by rw[←uH EC c,show m=n by omega])
      exact⟨c+1,D,F,by omega,by go_num,by rw[←uH be];exact l⟩
    |succ g2=>
     have bi:=aa (show m<n by omega)
     obtain⟨i,hi⟩:∃i,o m=i:=⟨_,rfl⟩
     have I:=aa (show i<n by rw[←hi];exact uH OL m (uH bi))
     have HI:=aa hi
     have a0:(n:Int)-1-(m:Int)=(i:Int):=by
      have:=uH EO m
      rw[hi]at this
      have h2:i=n-1-m:=this
      omega
     rw[a0]
     have cp:(0:Int)≤(i:Int):=by omega
     have b6:=aa a0
     obtain⟨i1,a5⟩:∃i1,i+1=i1:=⟨_,rfl⟩
     have cq:IntKind.i64.wrap ((i:Int)+1)=(i1:Int):=(aP _ (by have:=uH I;omega)).trans (by omega)
     have bj:=aa a5
     clear a0 hi
     have b9:=aa (show∀k,DR i k=true→Q c m (k+1)=aV (Q c m k) (fN (mV (bB n T i k) (XX c m k)))from fun k hd=>by have:=uH SY c m k (by rw[uH HI];exact hd);rwa[uH HI]at this)
     have a1:=aa (uH S0 c m)
     have cs:=aa (uH SN c m)
     have bm:=aa (uH SE c m)
     have bq:=aa (uH ES c m (uH bi) (uH X))
     rw[uH HI]at bm bq a1
     rw[a5]at a1
     clear a5
     have ca:=aa (fun k hk=>uH EA c m k hk (uH X))
     have br:=aa (uH SL c m);have cb:=aa (uH XL c m);have cc:=aa (uH NL c m)
     generalize Q c m=SS at*
     generalize XX c m=XK at*
     have ae:=aa (uH EL c m);have bt:=aa (uH EL c (m+1))
     have a2:=aa (fun d (A:Below w.heap.size w d)=>fW n q U i c V B d ((uH b2).below A) (uH I) (uH X))
     rw[uH LB,←uH a1]at a2
     have a3:=aa (fun d k (A:Below w.heap.size w d) (hk:k<n)=>fW n n M i k N T d ((uH HT).below A) (uH I) hk)
     rw[uH LT]at a3
     have y0:=(uH l).t.c0;have u0:=(uH l).b.c0;have u1:=(uH l).b.c1;have u2:=(uH l).b.c2
     go_wp2_with fail
     clear y0 u0 u1 u2
     refine(uH a2 _ (uH l).bel).mono ?_
     rintro e w3 ⟨rfl,A⟩
     replace l:=aa ((uH l).all A)
     clear A a2
     go_wp2_with fail
     go_loopg [9,10] (n-(i+1)) (fun g3 sv a wr=>∃k:Nat,k+g3=n∧i<k∧sv=.int .u64 (SS k:Nat)∧a=.int .i64 k∧Hid (pi w wr h n q O M Z U L F N V D (G c m)))
     case atStart=>exact⟨i1,by have:=uH I;have:=uH bj;omega,by have:=uH bj;omega,rfl,rfl,l⟩
     case round=>
      clear l
      obtain⟨k,cA,c3,rfl,rfl,l⟩:=hrel
      by_cases ct:k<n
      ·have cd:(k:Int)<(n:Int):=by omega
       have aj:=aa (show k<n by have:=uH I;omega)
       obtain⟨g3,rfl⟩:∃g3,gk=g3+1:=⟨gk-1,by have:=uH aj;omega⟩
       have E1:=aa (uH b9 k (decide_eq_true (by omega)))
       have K0:=aa (fun d (A:Below wr.heap.size wr d)=>uH a3 d k ((uH l).bel.trans (A.mono (uH l).bel.size)) (uH aj))
       have K1:=aa (fun d (A:Below wr.heap.size wr d)=>fW n q F k c D (G c m) d ⟨(uH l).bits.below A,by rw[uH ae];exact(uH HL).symm,n6,q6⟩ (uH aj) (uH X))
       rw[uH ae,uH ca k (uH aj)]at K1
       have K2:=aa (fun d (_:Below wr.heap.size wr d)=>io (bB n T i k) (XK k) d (uH TL i k) (uH cb k))
       have K3:=aa (fun d (_:Below wr.heap.size wr d)=>iB (SS k) (mV (bB n T i k) (XK k)) d (uH br k) (gp _ _))
       rw[←uH E1]at K3
       generalize mV (bB n T i k) (XK k)=pv at*
       generalize bB n T i k=tv at*
       generalize XK k=xv at*
       generalize bE:SS (k+1)=s2 at*
       have ce:=aa bE
       clear bE
       generalize SS k=s1 at*
       have cv:IntKind.i64.wrap ((k:Int)+1)=(k:Int)+1:=aP _ (by omega)
       have y0:=(uH l).t.c0;have y1:=(uH l).t.c1;have y2:=(uH l).t.c2;have u0:=(uH l).x.c0;have u1:=(uH l).x.c1;have u2:=(uH l).x.c2
       have HK:=aa (fun d (h':Below wr.heap.size wr d)=>(show Below wr.heap.size wr d∧d.cell? ⟨w.heap.size,0,none⟩=some (.int .i64 (n:Nat))∧d.cell? ⟨w.heap.size,1,none⟩=some (.int .i64 (n:Nat))∧d.cell? ⟨w.heap.size,2,none⟩=some (.slice N O M)∧d.cell? ⟨h,0,none⟩=some (.int .i64 (n:Nat))∧d.cell? ⟨h,1,none⟩=some (.int .i64 (q:Nat))∧d.cell? ⟨h,2,none⟩=some (.slice D L F)from⟨h',ah y0 h',ah y1 h',ah y2 h',ah u0 h',ah u1 h',ah u2 h'⟩))
       clear y1 y2 u0 u1 u2 E1
       go_wp2_with fail
       clear y0
       go_region_held3(fun d=>Below wr.heap.size wr d∧d.cell? ⟨w.heap.size,0,none⟩=some (.int .i64 (n:Nat))∧d.cell? ⟨w.heap.size,1,none⟩=some (.int .i64 (n:Nat))∧d.cell? ⟨w.heap.size,2,none⟩=some (.slice N O M)∧d.cell? ⟨h,0,none⟩=some (.int .i64 (n:Nat))∧d.cell? ⟨h,1,none⟩=some (.int .i64 (q:Nat))∧d.cell? ⟨h,2,none⟩=some (.slice D L F))
        (first|exact uH HK _ (Below.refl _ _).drew|exact uH HK _ (by assumption)|fail "KK")
        (first|(go_at_call 42;with_reducible refine Calls.mono (uH K0 _ (And.left (by assumption))) ?_;rintro e w4 ⟨rfl,y⟩;have a4:Below wr.heap.size wr w4:=Below.trans (And.left (by assumption)) (y.mono (Below.size (And.left (by assumption))));clear y)|(go_at_call 42;with_reducible refine Calls.mono (uH K1 _ (And.left (by assumption))) ?_;rintro e w4 ⟨rfl,y⟩;have a4:Below wr.heap.size wr w4:=Below.trans (And.left (by assumption)) (y.mono (Below.size (And.left (by assumption))));clear y)|(go_at_call 50;with_reducible refine Calls.mono (uH K2 _ (And.left (by assumption))) ?_;rintro e w4 ⟨rfl,y⟩;have a4:Below wr.heap.size wr w4:=Below.trans (And.left (by assumption)) (y.mono (Below.size (And.left (by assumption))));clear y)|(go_at_call 49;with_reducible refine Calls.mono (uH K3 _ (And.left (by assumption))) ?_;rintro e w4 ⟨rfl,y⟩;have a4:Below wr.heap.size wr w4:=Below.trans (And.left (by assumption)) (y.mono (Below.size (And.left (by assumption))));clear y)|fail "NO ARM")
       go_wp2_with fail
       go_roundg g3
       case measure=>omega
       case rel=>exact⟨k+1,by omega,by omega,by rw[uH ce],by go_num,aa ((uH l).all (And.left (by assumption)))⟩
      ·have cd:¬((k:Int)<(n:Int)):=by omega
       have bv:SS k=SS n:=by rw[show k=n by omega]
       rw[bv]
       clear bv
       have K0:=aa (fun d (A:Below wr.heap.size wr d)=>uH a3 d i ((uH l).bel.trans (A.mono (uH l).bel.size)) (uH I))
       have K1:=aa (fun d (_:Below wr.heap.size wr d)=>lH (SS n) (bB n T i i) d (uH br n) (uH TL i i))
       rw[←uH bm]at K1
       have K2:=aa (fun d (A:Below wr.heap.size wr d)=>ef n q F i c (NN c m) D (G c m) d ⟨(uH l).bits.below A,by rw[uH ae];exact(uH HL).symm,n6,q6⟩ (uH I) (uH X) (uH cc))
       rw[uH ae,uH bq]at K2
       have cf:=aa (fun d yo yc (A:Below wr.heap.size wr d) (h1:bH wr.heap.size yo (ar (G c (m+1)))) (h2:ac d yo yc (ar (G c (m+1))))=>((uH l).all A).put h2 (h1.least (uH l).bel.size) (uH bt))
       generalize NN c m=nv at*
       generalize bB n T i i=tv at*
       generalize SS n=sv at*
       generalize b1:G c (m+1)=NX at*
       have ci:=aa b1
       have cj:=aa (show NX.length=L from uH bt)
       clear b1
       have y0:=(uH l).t.c0
       go_wp2_with fail
       clear y0
       have HK:=aa (fun d (h':Below wr.heap.size wr d)=>(show Below wr.heap.size wr d∧d.cell? ⟨w.heap.size,0,none⟩=some (.int .i64 (n:Nat))∧d.cell? ⟨w.heap.size,1,none⟩=some (.int .i64 (n:Nat))∧d.cell? ⟨w.heap.size,2,none⟩=some (.slice N O M)∧d.cell? ⟨h,0,none⟩=some (.int .i64 (n:Nat))∧d.cell? ⟨h,1,none⟩=some (.int .i64 (q:Nat))∧d.cell? ⟨h,2,none⟩=some (.slice D L F)∧(∀j,d.frozen? ⟨h,j,none⟩=false)from
        have z:=(uH l).all h';⟨h',z.t.c0,z.t.c1,z.t.c2,z.x.c0,z.x.c1,z.x.c2,fun j=>z.x.free j⟩))
       obtain⟨_,c0,c1,c2,d0,d1,d2,d3⟩:=uH HK _ (Below.refl _ _)
       have cx:=(Below.refl wr.heap.size wr).drew
       go_region_with (first|(go_at_call 42;refine(uH K0 _ (by assumption)).mono ?_;rintro e wn ⟨rfl,y⟩;have hB:Below wr.heap.size wr wn:=Below.trans (by assumption) (y.mono (Below.size (B:=wr.heap.size) (w:=wr) (by assumption)));clear y c0 c1 c2 d0 d1 d2 d3;obtain⟨_,c0,c1,c2,d0,d1,d2,d3⟩:=uH HK _ hB)|(go_at_call 52;refine(uH K1 _ (by assumption)).mono ?_;rintro e wn ⟨rfl,y⟩;have hB:Below wr.heap.size wr wn:=Below.trans (by assumption) (y.mono (Below.size (B:=wr.heap.size) (w:=wr) (by assumption)));clear y c0 c1 c2 d0 d1 d2 d3;obtain⟨_,c0,c1,c2,d0,d1,d2,d3⟩:=uH HK _ hB)|(go_at_call 51;refine(uH K2 _ (by assumption)).mono ?_;rintro e wn ⟨v,rfl,⟨yo,yc,rfl,bz,bA⟩,y⟩;have bw:Below wr.heap.size wr wn:=Below.trans (by assumption) (y.mono (Below.size (B:=wr.heap.size) (w:=wr) (by assumption)));have P9:=aa (uH cf _ yo yc bw (bz.least (Below.size (B:=wr.heap.size) (w:=wr) (by assumption))) bA);rw[uH cj];clear y bz bA c0 c1 c2 d0 d1 d2 d3;obtain⟨_,c0,c1,c2,d0,d1,d2,d3⟩:=uH HK _ bw)|fail "NO ARM")
       all_goals
        clear c0 c1 c2 d0 d1 d2 d3
        go_wp2_with fail
        go_roundg g2
        case measure=>omega
        case rel=>exact⟨m+1,_,_,by omega,by have:=uH b6;go_num,by rw[uH ci];assumption⟩
theorem zM(r c p q:Int)(I J:List Int):dO r c p q I J=0∨dO r c p q I J=1∨dO r c p q I J=4∨dO r c p q I J=3:=by
 unfold dO ml
 rcases eg r c I with e|e|e<;>rcases eg p q J with d|d|d<;>rw[e,d]<;>(repeat' split)<;>simp_all
theorem qi(r c p q f:Int)(ao D:Option Addr)(k cap m d:Nat)(w:World)(H:f=1∨f=4∨f=3∨f=5)
  (O:∀A,Below w.heap.size w A→Calls Tryz.prog 48 #[.agg #[.int .i64 r,.int .i64 c,.slice ao k cap],.agg #[.int .i64 p,.int .i64 q,.slice D m d]] A fun e I=>e=.returned (.int .i64 f)∧Below A.heap.size A I):
  Calls Tryz.prog 13 #[.agg #[.int .i64 r,.int .i64 c,.slice ao k cap],.agg #[.int .i64 p,.int .i64 q,.slice D m d]] w fun e A=>e=.returned (.tuple #[.agg #[.int .i64 0,.int .i64 0,.slice none 0 0],.int .i64 f])∧Below w.heap.size w A:=by
 have Q:=aa (bp w (.int .i64 r) (.int .i64 c) (.slice ao k cap) (.int .i64 p) (.int .i64 q) (.slice D m d) (.int .i64 0) (.int .i64 0) (.slice none 0 0))
 obtain⟨U,V,X,Y⟩:=uH Q _ (by have:=Below.refl (((w.alloc (.cells #[.int .i64 r,.int .i64 c,.slice ao k cap] 24)).alloc (.cells #[.int .i64 p,.int .i64 q,.slice D m d] 24)).alloc (.cells #[.int .i64 0,.int .i64 0,.slice none 0 0] 24)).heap.size (((w.alloc (.cells #[.int .i64 r,.int .i64 c,.slice ao k cap] 24)).alloc (.cells #[.int .i64 p,.int .i64 q,.slice D m d] 24)).alloc (.cells #[.int .i64 0,.int .i64 0,.slice none 0 0] 24));simpa only[ad]using this)
 have h:=aa U;have l:=aa V;have t:=aa X;have F:=aa Y
 have K:=aa O
 clear O Q U V X Y
 rcases H with rfl|rfl|rfl|rfl
 all_goals
  have L:=(uH l).c0;have M:=(uH l).c1;have N:=(uH l).c2;have u0:=(uH t).c0;have u1:=(uH t).c1;have u2:=(uH t).c2
  go_enter Tryz.func13,Tryz.ntmps13
  go_wp2_with fail
  clear L M N u0 u1 u2
  refine(uH K _ (uH h)).mono ?_
  rintro e wn ⟨rfl,y⟩
  replace l:=aa ((uH l).all y);replace t:=aa ((uH t).all y);replace F:=aa ((uH F).all y)
  replace h:=aa ((uH h).trans (y.mono (uH h).size))
  clear y
  have L:=(uH l).c0;have M:=(uH l).c1;have N:=(uH l).c2;have u0:=(uH t).c0;have u1:=(uH t).c1;have u2:=(uH t).c2
  go_wp2_with fail
  clear L M N u0 u1 u2
  refine(uH K _ (uH h)).mono ?_
  rintro e wn ⟨rfl,y⟩
  have z:=(uH F).all y
  replace h:=aa ((uH h).trans (y.mono (uH h).size))
  clear y K l t F
  have f0:=z.free 0;have f1:=z.free 1;have f2:=z.free 2
  have s0:=z.c0;have s1:=z.c1;have s2:=z.c2
  have G:=z.put (.int .i64 0) (.int .i64 0) (.slice none 0 0)
  have Z:=G.c0;have z1:=G.c1;have z2:=G.c2
  have BP:=aa (ai (uH h) (b:=w.heap.size+1+1) (by omega) (.int .i64 0) (.int .i64 0) (.slice none 0 0))
  clear G z
  go_wp2_with fail
  exact bodyPost_ret (v:=.tuple #[.agg #[.int .i64 0,.int .i64 0,.slice none 0 0],.int .i64 _]) (by simp[results,Tryz.results13,go_sem,Z,z1,z2]) rfl ⟨rfl,uH BP⟩
theorem DK(r c p q:Int)(ao l:Option Addr)(cap d:Nat)(I J:List Int)(w:World)(F:ac w ao cap I)(G:ac w l d J)(H:I.length≤35184372088830)(K:J.length≤35184372088830)(h:dO r c p q I J≠0):
  Calls Tryz.prog 48 #[.agg #[.int .i64 r,.int .i64 c,.slice ao I.length cap],.agg #[.int .i64 p,.int .i64 q,.slice l J.length d]] w fun e f=>e=.returned (.int .i64 (dO r c p q I J))∧Below w.heap.size w f:=by
 have t:=fun f (z:Below w.heap.size w f)=>cD r c ao cap I f (F.below z) H
 have A:=fun f (z:Below w.heap.size w f)=>cD p q l d J f (G.below z) K
 unfold dO ml at h⊢
 by_cases m:gG r c I=0
 ·rw[m]at t
  rw[if_pos m]at h⊢
  by_cases y:gG p q J=0
  ·rw[y]at A
   rw[if_pos y]at h⊢
   by_cases D:r=c∧r=p
   ·rw[if_pos D]at h;exact absurd rfl h
   ·rw[if_neg D]
    refine uh r c p q ao l I.length cap J.length d w ?_ t A
    by_cases e:r=c
    ·exact .inr ⟨e,fun L=>D ⟨e,L⟩⟩
    ·exact .inl e
  ·rw[if_neg y]
   exact zL r c p q (gG p q J) ao l I.length cap J.length d w ((eg p q J).resolve_left y) t A
 ·rw[if_neg m]at h⊢
  rw[if_neg m]
  exact zK r c p q (gG r c I) ao l I.length cap J.length d w ((eg r c I).resolve_left m) t
theorem DL(n q f h:Nat)(l m:Option Addr)(T B:List Nat)(w:World)(t:Mx w l f n n T)(y:Mx w m h n q B)(F:bG T=true)(G:bG B=true):
  Calls Tryz.prog 48 #[.agg #[.int .i64 n,.int .i64 n,.slice l T.length f],.agg #[.int .i64 n,.int .i64 q,.slice m B.length h]] w fun e d=>e=.returned (.int .i64 (if zB (gc n n T)=true then 5 else 0))∧Below w.heap.size w d:=by
 have A:=t.small;have D:=y.small
 refine DH n q f h T.length B.length l m T w t rfl (fun d z=>?_) (fun d z=>?_)
 ·have:=cD n n l f (ar T) d (t.1.below z) (by rw[al];omega)
  rwa[al,jx t F]at this
 ·have:=cD n q m h (ar B) d (y.1.below z) (by rw[al];omega)
  rwa[al,jx y G]at this
theorem ui(r c p q:Int)(ao l:Option Addr)(cap d:Nat)(I J:List Int)(w:World)(t:ac w ao cap I)(y:ac w l d J)(z:I.length≤35184372088830)(A:J.length≤35184372088830)(h:dO r c p q I J≠0):
  Calls Tryz.prog 13 #[.agg #[.int .i64 r,.int .i64 c,.slice ao I.length cap],.agg #[.int .i64 p,.int .i64 q,.slice l J.length d]] w fun e f=>gR w f (dO r c p q I J) 0 0 [] e∧Below w.heap.size w f:=by
 refine(qi r c p q (dO r c p q I J) ao l I.length cap J.length d w (by rcases zM r c p q I J with e|e|e|e<;>simp_all) (fun f m=>DK r c p q ao l cap d I J f (t.below m) (y.below m) z A h)).mono ?_
 rintro e f ⟨rfl,m⟩
 exact⟨.inr ⟨h,rfl⟩,m⟩
theorem uk(n q h l:Nat)(m t:Option Addr)(T B:List Nat)(w:World)(D:Mx w m h n n T)(F:Mx w t l n q B)(K:bG T=true)(L:bG B=true):
  Calls Tryz.prog 13 #[.agg #[.int .i64 n,.int .i64 n,.slice m T.length h],.agg #[.int .i64 n,.int .i64 q,.slice t B.length l]] w fun e d=>gR w d (Gg n T (rx n q T B)) n q (rx n q T B) e∧Below w.heap.size w d:=by
 have A:=fun d (f:Below w.heap.size w d)=>DL n q h l m t T B d (D.below f) (F.below f) K L
 have I:(rx n q T B).length=n*q:=mL _ _ _ _ _ _
 unfold Gg
 cases hz:zB (gc n n T)with
 |true=>
  rw[hz,if_pos rfl]at A
  rw[if_pos rfl]
  refine(qi n n n q 5 m t T.length h B.length l w (by simp) A).mono ?_
  rintro e d ⟨rfl,f⟩
  exact⟨.inr ⟨by decide,rfl⟩,f⟩
 |false=>
  rw[hz,if_neg (by decide)]at A
  rw[if_neg (by decide)]
  refine(DJ n q h l T.length B.length (n*q) (if bG (rx n q T B)=true then 0 else 2) m t T B w D F rfl rfl rfl A (fun d G H f M=>wv n q (n*q) H G _ d M I (Nat.mul_le_mul D.2.2.1 F.2.2.2))).mono ?_
  rintro e d ⟨G,H,y,O,Q,f⟩
  refine⟨?_,f⟩
  rcases y with⟨z,rfl⟩|⟨z,rfl⟩
  ·have N:bG (rx n q T B)=true:=by
    cases hq:bG (rx n q T B)
    ·rw[hq,if_neg (by decide)]at z;cases z
    ·rfl
   exact .inl ⟨z,G,H,rfl,O,Q,I,N⟩
  ·exact .inr ⟨z,rfl⟩
theorem gR.one{w t:World}{f:Int}{n q:Nat}{M:List Nat}{e:Ending}(h:gR w t f n q M e):∃d l,e=.returned (.tuple #[.agg #[.int .i64 ((if f=0 then n else 0:Nat):Int),.int .i64 ((if f=0 then q else 0:Nat):Int),.slice d (if f=0 then M else []).length l],.int .i64 f])∧ac t d l (ar (if f=0 then M else [])):=by
 rcases h with⟨rfl,d,l,rfl,_,y,z,_⟩|⟨m,rfl⟩
 ·refine⟨d,l,?_,?_⟩
  ·rw[if_pos rfl,if_pos rfl,if_pos rfl,z]
  ·rw[if_pos rfl];exact y
 ·refine⟨none,0,?_,?_⟩
  ·rw[if_neg m,if_neg m,if_neg m];rfl
  ·rw[if_neg m];exact ac.none t 0
theorem oH(w:World)(a:Nat)(f:a<18446744073709551616):ac (w.alloc (.cells #[.int .u64 (a:Nat)] 37)) (some ⟨w.heap.size,0,none⟩) 1 [(a:Int)]:=by
 have h:aY (w.alloc (.cells #[.int .u64 (a:Nat)] 37)) w.heap.size [a]:=heap_alloc_new w _
 exact h.bits (fun x d=>by simp at d;subst d;exact f)
theorem DM{S:List Nat}{r n:Nat}(d:S.length=r*n)(h:bG S=true){i k p q:Nat}(y:i+p≤r)(z:k+q≤n):bG (qX n S i k p q)=true:=by
 rw[kZ]at h⊢
 rw[show(qX n S i k p q).length=p*q from bg _ _ _]
 intro x t
 obtain⟨f,l,m⟩:=iy t
 unfold qX
 rw[←m,mG _ _ _ f l]
 exact h _ (by rw[d];exact cV (show i+x/q<r by omega) (show k+x%q<n by omega))
def oI(r c:Nat)(S:List Nat):List Nat:=qX r (g6 r c S) 0 0 r c
def i8(r c:Nat)(S:List Nat):List Nat:=qX c (iC r c S) 0 0 c c
def jO(r c q:Nat)(S B:List Nat):List Nat:=FH c r q (mH r c (oI r c S)) B
def zU(r c q:Nat)(S B:List Nat):List Nat:=rx c q (i8 r c S) (jO r c q S B)
def pk(r c q:Nat)(S B:List Nat):Int:=if iX r c S=true then(if DB c c (i8 r c S)=true then 5 else if bG (jO r c q S B)=true then Gg c (i8 r c S) (zU r c q S B)else 4)else 2
theorem xB{r c:Nat}{S:List Nat}(f:S.length=r*c)(h:c≤r)(d:iX r c S=true):bG (i8 r c S)=true:=by
 unfold iX at d
 rw[Bool.and_eq_true,Bool.and_eq_true]at d
 exact DM (r:=r) (dP r c S f _) d.2.2 (by omega) (by omega)
theorem Jv{r c p q cap d:Nat}{ao f:Option Addr}{S B:List Nat}{w:World}(h:Mx w ao cap r c S)(l:Mx w f d p q B)(fS:bG S=true)(m:bG B=true):
  Calls Tryz.prog 70 #[.agg #[.int .i64 r,.int .i64 c,.slice ao S.length cap],.agg #[.int .i64 p,.int .i64 q,.slice f B.length d]] w fun e t=>e=.returned (.int .i64 0)∧Below w.heap.size w t:=by
 have y:=h.small;have z:=l.small
 have:=gQ r c p q ao f cap d (ar S) (ar B) w h.1 l.1 (by rw[al];omega) (by rw[al];omega)
 rw[al,al]at this
 unfold ml at this
 rwa[if_pos (jx h fS),jx l m]at this
theorem ul(r c q A H:Nat)(D I:Option Addr)(S B:List Nat)(w:World)(K:Mx w D A r c S)(Y:Mx w I H r q B)(fS:bG S=true)(fB:bG B=true)(Z:c≤r)(L:b7 w):
  Calls Tryz.prog 22 #[.agg #[.int .i64 r,.int .i64 c,.slice D S.length A],.agg #[.int .i64 r,.int .i64 q,.slice I B.length H]] w fun e d=>gR w d (pk r c q S B) c q (zU r c q S B) e∧Below w.heap.size w d:=by
 have r6:=K.2.2.1;have m:=K.2.2.2;have q6:=Y.2.2.2
 have F:¬(r:Int)<(c:Int):=by omega
 have hm:min r c=c:=by omega
 have C1:=fun d (f:Below w.heap.size w d)=>Jv (K.below f) (Y.below f) fS fB
 unfold pk
 cases hk:iX r c S with
 |false=>
  rw[if_neg (by decide)]
  refine(ug r c q S.length A B.length H D I w F C1 (fun d f=>(Dy r c A D S d (K.below f) fS hk (L.all f)).mono ?_)).mono ?_
  ·rintro e h ⟨v,u,rfl,⟨ao,cap,rfl,_,_⟩,⟨G,z,rfl,_,_⟩,l⟩
   exact⟨0,0,0,0,ao,G,0,cap,0,z,rfl,l⟩
  ·rintro e d ⟨rfl,f⟩
   exact⟨.inr ⟨by decide,rfl⟩,f⟩
 |true=>
  rw[if_pos rfl]
  have fT:=xB K.2.1 Z hk
  have V:(i8 r c S).length=c*c:=by unfold i8 qX;exact bg _ _ _
  have lQ:(oI r c S).length=r*c:=by unfold oI qX;exact bg _ _ _
  have lY:(jO r c q S B).length=c*q:=by unfold jO FH;exact bg _ _ _
  have C2:∀d,Below w.heap.size w d→Calls Tryz.prog 71 #[.agg #[.int .i64 r,.int .i64 c,.slice D S.length A]] d fun e h=>∃Q U t y,e=.returned (.tuple #[.agg #[.int .i64 r,.int .i64 c,.slice Q (oI r c S).length U],.agg #[.int .i64 c,.int .i64 c,.slice t (i8 r c S).length y],.int .i64 0])∧ac h Q U (ar (oI r c S))∧ac h t y (ar (i8 r c S))∧Below d.heap.size d h:=fun d f=>by
   have:=zv r c A D S d (K.below f) fS hk (L.all f)
   rw[hm]at this
   refine this.mono ?_
   rintro e h ⟨v,u,rfl,⟨ao,cap,rfl,_,N⟩,⟨G,z,rfl,_,h2⟩,l⟩
   exact⟨ao,cap,G,z,rfl,N,h2,l⟩
  have X:∀d t y,Below w.heap.size w d→ac d t y (ar (i8 r c S))→Calls Tryz.prog 18 #[.agg #[.int .i64 c,.int .i64 c,.slice t (i8 r c S).length y]] d fun e h=>e=.returned (.tuple #[.bool (DB c c (i8 r c S)),.int .i64 0])∧Below d.heap.size d h:=fun d t y f M=>
   DF c c y t (i8 r c S) d ⟨M,V,m,m⟩ fT (L.all f)
  cases hf:DB c c (i8 r c S)with
  |true=>
   rw[hf]at X
   rw[if_pos rfl]
   refine(wu r c q S.length A B.length H (oI r c S).length (i8 r c S).length (oI r c S) (i8 r c S) D I w F C1 C2 X).mono ?_
   rintro e d ⟨rfl,f⟩
   exact⟨.inr ⟨by decide,rfl⟩,f⟩
  |false=>
   rw[hf]at X
   rw[if_neg (by decide)]
   refine DG r c q (if bG (jO r c q S B)=true then Gg c (i8 r c S) (zU r c q S B)else 4) S.length A B.length H (oI r c S).length (i8 r c S).length (jO r c q S B).length c q (oI r c S) (i8 r c S) (jO r c q S B) (zU r c q S B) D I w F C1 C2 X (fun d Q U f hs=>?_) (fun d t y yo yd f M hy=>?_)
   ·refine(tU r c q U H Q I (oI r c S) B d ⟨hs,lQ,r6,m⟩ (Y.below f) (L.all f)).mono ?_
    rintro e h ⟨v,rfl,⟨ao,cap,rfl,_,N⟩,l⟩
    exact⟨ao,cap,rfl,N,l⟩
   ·cases hy2:bG (jO r c q S B)with
    |true=>
     rw[if_pos rfl]
     exact DD c q y yd t yo (i8 r c S) (jO r c q S B) d ⟨M,V,m,m⟩ ⟨hy,lY,m,q6⟩ fT hy2 (L.all f)
    |false=>
     rw[if_neg (by decide)]
     have e4:dO c c c q (ar (i8 r c S)) (ar (jO r c q S B))=4:=by
      have N:gG (c:Int) (c:Int) (ar (i8 r c S))=0:=jx (w:=d) (ao:=t) (cap:=y) ⟨M,V,m,m⟩ fT
      have h2:gG (c:Int) (q:Int) (ar (jO r c q S B))=4:=by
       unfold gG
       have ae:Mx d yo yd c q (jO r c q S B):=⟨hy,lY,m,q6⟩
       rw[al,kT ae]
       have:fu (ar (jO r c q S B)) (jO r c q S B).length=false:=hy2
       rw[this]
       rfl
      unfold dO ml
      rw[N,h2]
      rfl
     have aj:c*c≤36:=Nat.mul_le_mul m m
     have ak:c*q≤36:=Nat.mul_le_mul m q6
     have:=DE c c c q t yo y yd (ar (i8 r c S)) (ar (jO r c q S B)) d M hy (by rw[al,V];omega) (by rw[al,lY];omega) (by rw[e4];decide)
     rw[e4,al,al]at this
     refine this.mono ?_
     rintro e h ⟨O,l⟩
     rcases O with⟨h0,_⟩|⟨_,rfl⟩
     ·cases h0
     ·exact⟨.inr ⟨by decide,rfl⟩,l⟩
theorem ww(w:World)
  (D:∀d ao F,Below w.heap.size w d→ac d ao 1 [((4611686018427387904:Nat):Int)]→ac d F 1 [((4616189618054758400:Nat):Int)]→Calls Tryz.prog 22 #[.agg #[.int .i64 1,.int .i64 1,.slice ao 1 1],.agg #[.int .i64 1,.int .i64 1,.slice F 1 1]] d fun e h=>∃t m,e=.returned (.tuple #[.agg #[.int .i64 1,.int .i64 1,.slice t 1 m],.int .i64 0])∧ac h t m [((4611686018427387904:Nat):Int)]∧Below d.heap.size d h):
  Calls Tryz.prog 15 #[] w fun e d=>e=.returned (.bool true)∧Below w.heap.size w d:=by
 have G:=aa D
 have y:=ab w (.cells #[.int .u64 ((4611686018427387904:Nat):Int)] 37)
 have H:=oH w 4611686018427387904 (by decide)
 have z:=ab (w.alloc (.cells #[.int .u64 ((4611686018427387904:Nat):Int)] 37)) (.cells #[.int .u64 ((4616189618054758400:Nat):Int)] 37)
 have A:=oH (w.alloc (.cells #[.int .u64 ((4611686018427387904:Nat):Int)] 37)) 4616189618054758400 (by decide)
 rw[ad]at A
 have I:=aa (H.below z);have K:=aa A
 have f:=aa (y.trans (z.mono y.size))
 clear D y H z A
 go_enter Tryz.func15,Tryz.ntmps15
 go_wp2_with fail
 refine(uH G _ _ _ (uH f) (uH I) (uH K)).mono ?_
 rintro e N ⟨t,m,rfl,O,Q⟩
 obtain⟨b,l,rfl,_,M⟩:=O.ne (by decide)
 have U:N.cell? ⟨b,l+0,none⟩=some (.int .u64 4611686018427387904):=M 0 (by decide)
 rw[Nat.add_zero]at U
 replace f:=aa ((uH f).trans (Q.mono (uH f).size))
 clear Q G I K O M
 have L:=ab N (.cells #[.int .i64 1,.int .i64 1,.slice (some ⟨b,l,none⟩) 1 m] 24)
 have V:=aa ((uH f).trans (L.mono (uH f).size))
 clear L f
 go_wp2
 go_ret
 exact⟨rfl,uH V⟩
theorem zN(r c f:Int)(n cap d:Nat)(ao h:Option Addr)(w:World)
  (D:∀l,Below w.heap.size w l→Calls Tryz.prog 23 #[.agg #[.int .i64 r,.int .i64 c,.slice ao n cap],.agg #[.int .i64 r,.int .i64 c,.slice h n d]] l fun e z=>e=.returned (.bool true)∧Below l.heap.size l z):
  Calls Tryz.prog 14 #[.agg #[.int .i64 r,.int .i64 c,.slice ao n cap],.int .i64 f,.agg #[.int .i64 r,.int .i64 c,.slice h n d],.int .i64 f] w fun e l=>e=.returned (.bool true)∧Below w.heap.size w l:=by
 have F:=aa (dE w (.int .i64 r) (.int .i64 c) (.slice ao n cap) (.int .i64 r) (.int .i64 c) (.slice h n d))
 obtain⟨A,t,y⟩:=uH F ((w.alloc (.cells #[.int .i64 r,.int .i64 c,.slice ao n cap] 24)).alloc (.cells #[.int .i64 r,.int .i64 c,.slice h n d] 24)) (by have:=Below.refl ((w.alloc (.cells #[.int .i64 r,.int .i64 c,.slice ao n cap] 24)).alloc (.cells #[.int .i64 r,.int .i64 c,.slice h n d] 24)).heap.size ((w.alloc (.cells #[.int .i64 r,.int .i64 c,.slice ao n cap] 24)).alloc (.cells #[.int .i64 r,.int .i64 c,.slice h n d] 24));simpa only[ad]using this)
 have G:=aa (D _ A)
 have m:=aa A
 have I:=t.c0;have K:=t.c1;have L:=t.c2;have u0:=y.c0;have u1:=y.c1;have u2:=y.c2
 clear D F A t y
 go_enter Tryz.func14,Tryz.ntmps14
 go_wp2_with fail
 refine(uH G).mono ?_
 rintro e M ⟨rfl,H⟩
 replace m:=aa ((uH m).trans (H.mono (uH m).size))
 clear H G I K L u0 u1 u2
 go_wp2
 go_ret
 exact⟨rfl,uH m⟩
theorem oJ(r c f:Int)(cap d:Nat)(ao l:Option Addr)(S:List Nat)(w:World)(h:ac w ao cap (ar S))(y:ac w l d (ar S))(z:S.length≤1000000):
  Calls Tryz.prog 14 #[.agg #[.int .i64 r,.int .i64 c,.slice ao S.length cap],.int .i64 f,.agg #[.int .i64 r,.int .i64 c,.slice l S.length d],.int .i64 f] w fun e m=>e=.returned (.bool true)∧Below w.heap.size w m:=
 zN r c f S.length cap d ao l w (fun m t=>yZ r c ao l cap d S m (h.below t) (y.below t) z)
end Go.Proofs.YtlnphkioddknfaaGreatDoor
namespace Go.Proofs.YtlnphkioddknfaaGreatDoor
open Go.RowKit
theorem Jw:iX 1 1 [4611686018427387904]=true:=by decide+kernel
theorem GB:i8 1 1 [4611686018427387904]= [4611686018427387904]:=by decide+kernel
theorem Jx:oI 1 1 [4611686018427387904]= [4607182418800017408]:=by decide+kernel
theorem GC:jO 1 1 1 [4611686018427387904] [4616189618054758400]= [4616189618054758400]:=by
 unfold jO
 rw[Jx]
 decide+kernel
theorem Jy:DB 1 1 [4611686018427387904]=false:=by decide+kernel
theorem Jz:rx 1 1 [4611686018427387904] [4616189618054758400]= [4611686018427387904]:=by decide+kernel
theorem jU:pk 1 1 1 [4611686018427387904] [4616189618054758400]=0∧zU 1 1 1 [4611686018427387904] [4616189618054758400]= [4611686018427387904]:=by
 have d:zU 1 1 1 [4611686018427387904] [4616189618054758400]= [4611686018427387904]:=by
  unfold zU
  rw[GB,GC]
  exact Jz
 refine⟨?_,d⟩
 unfold pk
 rw[d,Jw,GB,GC,Jy]
 decide+kernel
theorem um(w:World)(t:b7 w):∀d,Below w.heap.size w d→Calls Tryz.prog 15 #[] d fun e f=>e=.returned (.bool true)∧Below d.heap.size d f:=fun y l=>
 ww y (fun d ao z A D F=>by
  have:=ul 1 1 1 1 1 ao z [4611686018427387904] [4616189618054758400] d ⟨D,rfl,by decide,by decide⟩ ⟨F,rfl,by decide,by decide⟩ (by decide+kernel) (by decide+kernel) (Nat.le_refl 1) ((t.all l).all A)
  rw[jU.1,jU.2]at this
  refine this.mono ?_
  rintro e f ⟨h,m⟩
  rcases h with⟨_,G,H,rfl,_,I,_,_⟩|⟨K,_⟩
  ·exact⟨G,H,rfl,I,m⟩
  ·exact absurd rfl K)
end Go.Proofs.YtlnphkioddknfaaGreatDoor
