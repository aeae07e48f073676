/- Part 32 of the texts. -/
import Derived.Test.YtcbcmlaogehimaaGreatDoorPartu31
set_option maxHeartbeats 32000000
set_option maxRecDepth 20000
namespace Go.Proofs.YtcbcmlaogehimaaGreatDoor
open Go.RowKit
attribute [local go_sem ↓] Go.wp_at_zero Go.wp_at_succ
theorem ar.oth3{w:World}{b:Nat}{x y z:Value}(h:ar w b x y z){g:Nat}(l:b≠g)(u u' u'':Value):ar (((w.setCell ⟨g,0,none⟩ u).setCell ⟨g,1,none⟩ u').setCell ⟨g,2,none⟩ u'') b x y z:=
 ((h.other (p:=⟨g,0,none⟩) l u).other (p:=⟨g,1,none⟩) l u').other (p:=⟨g,2,none⟩) l u''
theorem jl.oth3{w:World}{b g:Nat}{lo s:Int}(h:jl w b lo s){x:Bool}{a:GY}{l c:Nat}{y:Int}(D:ar w g (.bool x) (.slice a l c) (C0 y))(t:b≠g)(u u' u'':Value):jl (((w.setCell ⟨g,0,none⟩ u).setCell ⟨g,1,none⟩ u').setCell ⟨g,2,none⟩ u'') b lo s:=by
 obtain⟨n,a,l,c,X,F,G⟩:=h;exact⟨n,a,l,c,X,F.oth3 t _ _ _,aH.put3 G D _ _ _⟩
theorem jl.put{w:World}{g:Nat}{lo s t:Int}{D:Int}(h:jl w g lo s){n:Bool}{a:GY}{l c:Nat}{X:Int}(G:aN w (.agg #[.bool n,.slice a l c,C0 X]) D t):jl (((w.setCell ⟨g,0,none⟩ (.bool n)).setCell ⟨g,1,none⟩ (.slice a l c)).setCell ⟨g,2,none⟩ (C0 X)) g D t:=by
 obtain⟨H,I,J,K,L,F,_⟩:=h;exact⟨n,a,l,c,X,F.put _ _ _,aH.put3 G F _ _ _⟩
theorem Qo(w:World):GF 28 #[C0 1] w fun e h=>∃v,e=.returned v/\aA w.heap.size h v 1/\H8 w h:=
 (ia 1 w (by decide) (by decide)).mono fun e h ⟨r,l,t,D⟩=>⟨r,l,t.num (by omega),D⟩
def gA(w wr:World)(r c p q s d:Int)(ao bo co:GY)(na nb nc ca cb cc:Nat)(lo z:Int):Prop:=
 s8 w wr r c p q s d ao bo co na nb nc ca cb cc/\jl wr (w.heap.size+1+1+1+1) lo z
theorem gA.all{w wr l:World}{r c p q s d:Int}{ao t D:GY}{F G H I J K:Nat}{lo z:Int}(h:gA w wr r c p q s d ao t D F G H I J K lo z)(L:H8 wr l):gA w l r c p q s d ao t D F G H I J K lo z:=⟨h.1.all L,h.2.all L⟩
theorem gA.start(w:World)(r c p q s d:Int)(ao l t:GY)(D F G H I J:Nat)(lo:Int):gA w (((((w.alloc (.cells #[C0 r,C0 c,.slice ao D H] 24)).alloc (.cells #[C0 p,C0 q,.slice l F I] 24)).alloc (.cells #[C0 s,C0 d,.slice t G J] 24)).alloc (.cells #[.bool false,.slice none 0 0,C0 0] 35)).alloc (.cells #[.bool false,.slice none 0 0,C0 0] 35)) r c p q s d ao l t D F G H I J lo 0:=by
 have h:=s8.start w r c p q s d ao l t D F G H I J;have e:((((w.alloc (.cells #[C0 r,C0 c,.slice ao D H] 24)).alloc (.cells #[C0 p,C0 q,.slice l F I] 24)).alloc (.cells #[C0 s,C0 d,.slice t G J] 24)).alloc (.cells #[.bool false,.slice none 0 0,C0 0] 35)).heap.size=w.heap.size+1+1+1+1:=by simp
 generalize (((w.alloc (.cells #[C0 r,C0 c,.slice ao D H] 24)).alloc (.cells #[C0 p,C0 q,.slice l F I] 24)).alloc (.cells #[C0 s,C0 d,.slice t G J] 24)).alloc (.cells #[.bool false,.slice none 0 0,C0 0] 35)=L at*;have M:=ad L (.cells #[.bool false,.slice none 0 0,C0 0] 35);have K:=jl.new L lo;rw[e]at K;exact⟨h.all M,K⟩
theorem s8.oth{w wr:World}{r c p q s d:Int}{ao l t:GY}{D F G H I J:Nat}(h:s8 w wr r c p q s d ao l t D F G H I J){g:Nat}(K:w.heap.size+1+1+1<g)(u u' u'':Value):s8 w (((wr.setCell ⟨g,0,none⟩ u).setCell ⟨g,1,none⟩ u').setCell ⟨g,2,none⟩ u'') r c p q s d ao l t D F G H I J:=
 ⟨h.1.oth3 (by omega) _ _ _,h.2.1.oth3 (by omega) _ _ _,h.2.2.1.oth3 (by omega) _ _ _,h.2.2.2.1.oth3 (by omega) _ _ _,aJ h.2.2.2.2 (by omega) _ _ _⟩
theorem gA.put{w wr:World}{r c p q s d:Int}{ao D F:GY}{G H I J K L:Nat}{lo z t:Int}(h:gA w wr r c p q s d ao D F G H I J K L lo z){M:Bool}{a:GY}{l N:Nat}{X:Int}(O:aN wr (.agg #[.bool M,.slice a l N,C0 X]) lo t):
  gA w (((wr.setCell ⟨(w.heap.size+1+1+1+1),0,none⟩ (.bool M)).setCell ⟨(w.heap.size+1+1+1+1),1,none⟩ (.slice a l N)).setCell ⟨(w.heap.size+1+1+1+1),2,none⟩ (C0 X)) r c p q s d ao D F G H I J K L lo t:=⟨h.1.oth (by omega) _ _ _,h.2.put O⟩
theorem gA.away{w wr:World}{r c p q s d:Int}{ao t D:GY}{F G H I J K:Nat}{lo z:Int}(h:gA w wr r c p q s d ao t D F G H I J K lo z){g:Nat}{l y:Int}(L:jl wr g l y)(N:(w.heap.size+1+1+1+1)<g)(u u' u'':Value):
  gA w (((wr.setCell ⟨g,0,none⟩ u).setCell ⟨g,1,none⟩ u').setCell ⟨g,2,none⟩ u'') r c p q s d ao t D F G H I J K lo z:=by
 obtain⟨O,Q,U,Z,X',M,_⟩:=L;exact⟨h.1.oth (by omega) _ _ _,h.2.oth3 M (by omega) _ _ _⟩
theorem LA(r n c na nb nc ca cb cc:Nat)(ao bo co:GY)(x:Nat->Nat->Nat)(rw cl:Nat->List Int)(lo1 lo2:Int)(xa dd D:Nat->Nat->Int)(sm:Nat->Nat->Int)(w:World)(hr:r<=6)(hc:c<=6)(s0:sm 0 0=0)(s1:∀i,sm (i+1) 0=sm i c)
  (C1:∀F i k,H8 w F->i<r->k<c->BS 61 #[.agg #[C0 r,C0 c,.slice ao na ca],C0 (i:Nat),C0 (k:Nat)] F (CI (x i k:Nat)))
  (C2:∀F i k,i<r->k<c->GF 60 #[CI (x i k:Nat)] F fun e H=>∃u,e=.returned u/\aN H u lo1 (xa i k)/\H8 F H)
  (C3:∀F i,H8 w F->i<r->GF 59 #[.agg #[C0 r,C0 n,.slice bo nb cb],C0 (i:Nat)] F fun e H=>∃go d,e=.returned (.slice go n d)/\ag H go d (rw i)/\H8 F H)
  (C4:∀F k,H8 w F->k<c->GF 30 #[.agg #[C0 n,C0 c,.slice co nc cc],C0 (k:Nat),C0 0] F fun e H=>∃go d,e=.returned (.slice go n d)/\ag H go d (cl k)/\H8 F H)
  (C5:∀F i k xo xd yo yd,i<r->k<c->ag F xo xd (rw i)->ag F yo yd (cl k)->GF 31 #[.slice xo n xd,.slice yo n yd] F fun e H=>∃v,e=.returned v/\aN H v lo1 (dd i k)/\H8 F H)
  (C6:∀F i k v u,i<r->k<c->aN F v lo1 (xa i k)->aN F u lo1 (dd i k)->GF 58 #[v,u] F fun e H=>∃q,e=.returned q/\aN H q lo1 (D i k)/\H8 F H)
  (C7:∀F i k v,i<r->k<c->aN F v lo1 (D i k)->GF 18 #[v,v] F fun e H=>∃q,e=.returned q/\aN H q lo2 (D i k*D i k)/\H8 F H)
  (C8:∀F i k v u,i<r->k<c->aN F v lo2 (sm i k)->aN F u lo2 (D i k*D i k)->GF 19 #[v,u] F fun e H=>∃q,e=.returned q/\aN H q lo2 (sm i (k+1))/\H8 F H):
  GF 25 #[.agg #[C0 r,C0 c,.slice ao na ca],.agg #[C0 r,C0 n,.slice bo nb cb],.agg #[C0 n,C0 c,.slice co nc cc]] w fun e F=>∃v,e=.returned v/\aN F v lo2 (sm r 0)/\H8 w F:=by
 have K1:=ac C1;have K2:=ac C2;have K3:=ac C3;have K4:=ac C4;have K5:=ac C5;have K6:=ac C6;have K7:=ac C7;have K8:=ac C8;have S1:=ac s1;have ST:=ac (show gA w _ r c r n n c ao bo co na nb nc ca cb cc lo2 (sm 0 0)from by rw[s0];exact gA.start w r c r n n c ao bo co na nb nc ca cb cc lo2);clear C1 C2 C3 C4 C5 C6 C7 C8 s0 s1
 go_enter Tryz.func25,Tryz.ntmps25
 go_wp2_with fail
 go_loopw[8] (fun i wr=>∃j:Nat,j<=r/\i=.int .i64 j/\Hid (gA w wr r c r n n c ao bo co na nb nc ca cb cc lo2 (sm j 0))) (fun i _=>r-(intOf i).toNat)
 case atStart=>exact⟨0,Nat.zero_le _,rfl,ST⟩
 case round=>
  clear ST;obtain⟨j,hj,rfl,J⟩:=hrel;have m1:=(uH J).1.1.c0
  by_cases U:j<r
  ·have bi:(j:Int)<(r:Int):=by omega
   go_wp2_with fail;clear m1
   go_loopw[9] (fun i wr=>∃k:Nat,k<=c/\i=.int .i64 k/\Hid (gA w wr r c r n n c ao bo co na nb nc ca cb cc lo2 (sm j k))) (fun i _=>c-(intOf i).toNat)
   case atStart=>exact⟨0,Nat.zero_le _,rfl,J⟩
   case round=>
    clear J;obtain⟨k,hk,rfl,J⟩:=hrel;have m1:=(uH J).1.1.c1
    by_cases Z:k<c
    ·have bm:(k:Int)<(c:Int):=by omega
     go_wp2_with fail;clear m1;refine aB (fun W=>gA w W r c r n n c ao bo co na nb nc ca cb cc lo2 (sm j k)) (uH J) ?_;clear J;rintro G J
     go_cut[10]from 18 to 41 (fun p wx=>∃g:Nat,p=.pointer (some ⟨g,0,none⟩)/\Hid (gA w wx r c r n n c ao bo co na nb nc ca cb cc lo2 (sm j k)/\jl wx g lo1 (D j k)/\(w.heap.size+1+1+1+1)<g))
     case first=>
      have HK:=ac (show∀F (h:H8 G F),H8 G F/\F.cell? ⟨w.heap.size,0,none⟩=some (C0 r)/\F.cell? ⟨w.heap.size,1,none⟩=some (C0 c)/\F.cell? ⟨w.heap.size,2,none⟩=some (.slice ao na ca)/\F.cell? ⟨w.heap.size+1,0,none⟩=some (C0 r)/\F.cell? ⟨w.heap.size+1,1,none⟩=some (C0 n)/\F.cell? ⟨w.heap.size+1,2,none⟩=some (.slice bo nb cb)/\F.cell? ⟨w.heap.size+1+1,0,none⟩=some (C0 n)/\F.cell? ⟨w.heap.size+1+1,1,none⟩=some (C0 c)/\F.cell? ⟨w.heap.size+1+1,2,none⟩=some (.slice co nc cc)from fun F h=>⟨h,(J.1.all h).1.c0,(J.1.all h).1.c1,(J.1.all h).1.c2,(J.1.all h).2.1.c0,(J.1.all h).2.1.c1,(J.1.all h).2.1.c2,(J.1.all h).2.2.1.c0,(J.1.all h).2.2.1.c1,(J.1.all h).2.2.1.c2⟩);have a9:=ac (fun wn o (O:H8 G wn)=>uH HK (wn.alloc o) (O.alloc O.size o));have bb:=ac (fun wn g u u' u'' (O:H8 G wn) (h4:G.heap.size<=g)=>uH HK (((wn.setCell ⟨g,0,none⟩ u).setCell ⟨g,1,none⟩ u').setCell ⟨g,2,none⟩ u'') (aJ O h4 u u' u''));have am:=ac (fun wm o (O:Below (G.drew.alloc o).heap.size (G.drew.alloc o) wm)=>(show wm.heap[G.heap.size]? =some o from(O.block G.heap.size (by simp)).trans (heap_alloc_new G.drew o)));have ap:=ac (fun wm o (O:Below (G.alloc o).drew.heap.size (G.alloc o).drew wm)=>(show wm.heap[G.heap.size]? =some o from(O.block G.heap.size (by simp)).trans (heap_alloc_new G o)));have ax:=ac (fun(wn wm:World) o (O:Below (wn.alloc o).heap.size (wn.alloc o) wm)=>(show wm.heap[wn.heap.size]? =some o from(O.block wn.heap.size (by simp)).trans (heap_alloc_new wn o)));have BW:=ac (fun F (h:H8 G F)=>J.1.2.2.2.2.trans (h.mono J.1.2.2.2.2.size));have SA:=ac (fun F (h:H8 G F)=>J.all h);have HG:=ac J.2.lt;have W1:=ac (fun F h=>uH K1 F j k h U Z);have W2:=ac (fun F=>uH K2 F j k U Z);have W3:=ac (fun F h=>uH K3 F j h U);have W4:=ac (fun F h=>uH K4 F k h Z);have W5:=ac (fun F xo xd yo yd=>uH K5 F j k xo xd yo yd U Z);have W6:=ac (fun F v u=>uH K6 F j k v u U Z);generalize x j k=xx at*;clear J K1 K2 K3 K4 K5 K6 K7 K8 S1
      go_region_held3(fun F=>H8 G F/\F.cell? ⟨w.heap.size,0,none⟩=some (C0 r)/\F.cell? ⟨w.heap.size,1,none⟩=some (C0 c)/\F.cell? ⟨w.heap.size,2,none⟩=some (.slice ao na ca)/\F.cell? ⟨w.heap.size+1,0,none⟩=some (C0 r)/\F.cell? ⟨w.heap.size+1,1,none⟩=some (C0 n)/\F.cell? ⟨w.heap.size+1,2,none⟩=some (.slice bo nb cb)/\F.cell? ⟨w.heap.size+1+1,0,none⟩=some (C0 n)/\F.cell? ⟨w.heap.size+1+1,1,none⟩=some (C0 c)/\F.cell? ⟨w.heap.size+1+1,2,none⟩=some (.slice co nc cc))
       (first|assumption|exact uH HK _ (Below.refl _ _).drew|exact uH HK _ (by assumption)|exact uH a9 _ _ (by assumption)|exact uH a9 _ _ (And.left (by assumption))|exact uH bb _ _ _ _ _ ae (by first|exact Nat.le_refl _|exact Below.size (by assumption))|fail "KK")
       (first
        |(go_at_call 61;refine(uH W1 _ (uH BW _ (And.left (by assumption)))).mono ?_;rintro e w6 ⟨rfl,l⟩;have a3:H8 G w6:=Below.trans (And.left (by assumption)) (l.mono (Below.size (And.left (by assumption))));(first|(replace I:=ar.all I l)|((with_reducible (have t:=uH am _ _ l));have I:ar w6 G.heap.size (.bool false) (.slice none 0 0) (C0 0):=t;clear t)|((with_reducible (have t:=uH ap _ _ l));have I:ar w6 G.heap.size (.bool false) (.slice none 0 0) (C0 0):=t;clear t)|((with_reducible (have t:=uH ax _ _ _ l));have I:ar w6 _ (.bool false) (.slice none 0 0) (C0 0):=t;clear t)|skip);(first|(with_reducible (replace K:=ac ((uH K).below l)))|(with_reducible (replace K:=ac (((uH K).below (ad _ _)).below l)))|skip);(first|(with_reducible (replace L:=ac ((uH L).below l)))|(with_reducible (replace L:=ac (((uH L).below (ad _ _)).below l)))|skip);(first|(with_reducible (replace M:=ac ((uH M).below l)))|(with_reducible (replace M:=ac (((uH M).below (ad _ _)).below l)))|skip);(first|(with_reducible (replace N:=ac ((uH N).below l)))|(with_reducible (replace N:=ac (((uH N).below (ad _ _)).below l)))|skip);clear l)
        |(go_at_call 60;refine(uH W2 _).mono ?_;rintro e w7 ⟨v7,rfl,qn,l⟩;have a4:H8 G w7:=Below.trans (And.left (by assumption)) (l.mono (Below.size (And.left (by assumption))));(first|(replace I:=ar.all I l)|((with_reducible (have t:=uH am _ _ l));have I:ar w7 G.heap.size (.bool false) (.slice none 0 0) (C0 0):=t;clear t)|((with_reducible (have t:=uH ap _ _ l));have I:ar w7 G.heap.size (.bool false) (.slice none 0 0) (C0 0):=t;clear t)|((with_reducible (have t:=uH ax _ _ _ l));have I:ar w7 _ (.bool false) (.slice none 0 0) (C0 0):=t;clear t)|skip);(first|(with_reducible (replace L:=ac ((uH L).below l)))|(with_reducible (replace L:=ac (((uH L).below (ad _ _)).below l)))|skip);(first|(with_reducible (replace M:=ac ((uH M).below l)))|(with_reducible (replace M:=ac (((uH M).below (ad _ _)).below l)))|skip);(first|(with_reducible (replace N:=ac ((uH N).below l)))|(with_reducible (replace N:=ac (((uH N).below (ad _ _)).below l)))|skip);have K:=ac qn;clear qn;clear l)
        |(go_at_call 59;refine(uH W3 _ (uH BW _ (And.left (by assumption)))).mono ?_;rintro e w8 ⟨po,pd,rfl,qn,l⟩;have a6:H8 G w8:=Below.trans (And.left (by assumption)) (l.mono (Below.size (And.left (by assumption))));(first|(replace I:=ar.all I l)|((with_reducible (have t:=uH am _ _ l));have I:ar w8 G.heap.size (.bool false) (.slice none 0 0) (C0 0):=t;clear t)|((with_reducible (have t:=uH ap _ _ l));have I:ar w8 G.heap.size (.bool false) (.slice none 0 0) (C0 0):=t;clear t)|((with_reducible (have t:=uH ax _ _ _ l));have I:ar w8 _ (.bool false) (.slice none 0 0) (C0 0):=t;clear t)|skip);(first|(with_reducible (replace K:=ac ((uH K).below l)))|(with_reducible (replace K:=ac (((uH K).below (ad _ _)).below l)))|skip);(first|(with_reducible (replace M:=ac ((uH M).below l)))|(with_reducible (replace M:=ac (((uH M).below (ad _ _)).below l)))|skip);(first|(with_reducible (replace N:=ac ((uH N).below l)))|(with_reducible (replace N:=ac (((uH N).below (ad _ _)).below l)))|skip);have L:=ac qn;clear qn;clear l)
        |(go_at_call 30;refine(uH W4 _ (uH BW _ (And.left (by assumption)))).mono ?_;rintro e w9 ⟨qo,qd,rfl,qn,l⟩;have a7:H8 G w9:=Below.trans (And.left (by assumption)) (l.mono (Below.size (And.left (by assumption))));(first|(replace I:=ar.all I l)|((with_reducible (have t:=uH am _ _ l));have I:ar w9 G.heap.size (.bool false) (.slice none 0 0) (C0 0):=t;clear t)|((with_reducible (have t:=uH ap _ _ l));have I:ar w9 G.heap.size (.bool false) (.slice none 0 0) (C0 0):=t;clear t)|((with_reducible (have t:=uH ax _ _ _ l));have I:ar w9 _ (.bool false) (.slice none 0 0) (C0 0):=t;clear t)|skip);(first|(with_reducible (replace K:=ac ((uH K).below l)))|(with_reducible (replace K:=ac (((uH K).below (ad _ _)).below l)))|skip);(first|(with_reducible (replace L:=ac ((uH L).below l)))|(with_reducible (replace L:=ac (((uH L).below (ad _ _)).below l)))|skip);(first|(with_reducible (replace N:=ac ((uH N).below l)))|(with_reducible (replace N:=ac (((uH N).below (ad _ _)).below l)))|skip);have M:=ac qn;clear qn;clear l)
        |(go_at_call 31;refine(uH W5 _ _ _ _ _ (by first|with_reducible exact uH L|exact(uH L).below (ad _ _)) (by first|with_reducible exact uH M|exact(uH M).below (ad _ _))).mono ?_;rintro e a0 ⟨bn,rfl,qn,l⟩;have aI:H8 G a0:=Below.trans (And.left (by assumption)) (l.mono (Below.size (And.left (by assumption))));(first|(replace I:=ar.all I l)|((with_reducible (have t:=uH am _ _ l));have I:ar a0 G.heap.size (.bool false) (.slice none 0 0) (C0 0):=t;clear t)|((with_reducible (have t:=uH ap _ _ l));have I:ar a0 G.heap.size (.bool false) (.slice none 0 0) (C0 0):=t;clear t)|((with_reducible (have t:=uH ax _ _ _ l));have I:ar a0 _ (.bool false) (.slice none 0 0) (C0 0):=t;clear t)|skip);(first|(with_reducible (replace K:=ac ((uH K).below l)))|(with_reducible (replace K:=ac (((uH K).below (ad _ _)).below l)))|skip);(first|(with_reducible (replace L:=ac ((uH L).below l)))|(with_reducible (replace L:=ac (((uH L).below (ad _ _)).below l)))|skip);(first|(with_reducible (replace M:=ac ((uH M).below l)))|(with_reducible (replace M:=ac (((uH M).below (ad _ _)).below l)))|skip);have N:=ac qn;clear qn;clear l)
        |(go_at_call 58;refine(uH W6 _ _ _ (by first|with_reducible exact uH K|exact(uH K).below (ad _ _)) (by first|with_reducible exact uH N|exact(uH N).below (ad _ _))).mono ?_;rintro e wm ⟨q,rfl,⟨n5,a5,c5,L5,rfl,i5⟩,l⟩;have ae:H8 G wm:=Below.trans (And.left (by assumption)) (l.mono (Below.size (And.left (by assumption))));(first|(replace I:=ar.all I l)|((with_reducible (have t:=uH am _ _ l));have I:ar wm G.heap.size (.bool false) (.slice none 0 0) (C0 0):=t;clear t)|((with_reducible (have t:=uH ap _ _ l));have I:ar wm G.heap.size (.bool false) (.slice none 0 0) (C0 0):=t;clear t)|((with_reducible (have t:=uH ax _ _ _ l));have I:ar wm _ (.bool false) (.slice none 0 0) (C0 0):=t;clear t)|skip);(first|(with_reducible (replace K:=ac ((uH K).below l)))|(with_reducible (replace K:=ac (((uH K).below (ad _ _)).below l)))|skip);(first|(with_reducible (replace L:=ac ((uH L).below l)))|(with_reducible (replace L:=ac (((uH L).below (ad _ _)).below l)))|skip);(first|(with_reducible (replace M:=ac ((uH M).below l)))|(with_reducible (replace M:=ac (((uH M).below (ad _ _)).below l)))|skip);(first|(with_reducible (replace N:=ac ((uH N).below l)))|(with_reducible (replace N:=ac (((uH N).below (ad _ _)).below l)))|skip);have IP:=ac (show aN wm (.agg #[.bool n5,.slice a5 L5.length c5,C0 (oE (D j k) lo1)]) lo1 (D j k)from⟨n5,a5,c5,L5,rfl,i5⟩);(first|(have y0:=I.c0;have y1:=I.c1;have y2:=I.c2;have f0:=I.free 0;have f1:=I.free 1;have f2:=I.free 2)|skip);clear i5;clear l)
        |fail "NO ARM")
      all_goals
       first
        |(have xq:=I;clear y0 y1 y2 f0 f1 f2;go_wp2_with fail;go_meet;case rel=>exact⟨_,rfl,ac ⟨(uH SA _ ae).away ⟨_,_,_,_,_,xq,aN.zero _ 0⟩ (by first|exact uH HG|exact Nat.lt_of_lt_of_le (uH HG) (Below.size a3)|exact Nat.lt_of_lt_of_le (uH HG) (Below.size a4)|exact Nat.lt_of_lt_of_le (uH HG) (Below.size a6)|exact Nat.lt_of_lt_of_le (uH HG) (Below.size a7)|exact Nat.lt_of_lt_of_le (uH HG) (Below.size aI)) _ _ _,⟨_,_,_,_,_,xq.put _ _ _,aH.put3 (uH IP) xq _ _ _⟩,(by first|exact uH HG|exact Nat.lt_of_lt_of_le (uH HG) (Below.size a3)|exact Nat.lt_of_lt_of_le (uH HG) (Below.size a4)|exact Nat.lt_of_lt_of_le (uH HG) (Below.size a6)|exact Nat.lt_of_lt_of_le (uH HG) (Below.size a7)|exact Nat.lt_of_lt_of_le (uH HG) (Below.size aI))⟩⟩)
        |(go_wp2_with fail;go_meet;case rel=>exact⟨_,rfl,ac ⟨(uH SA _ ae).all (ad _ _),⟨_,_,_,_,_,ar.new _ _ _ _,(uH IP).below (ad _ _)⟩,Nat.lt_of_lt_of_le (uH HG) (Below.size ae)⟩⟩)
        |fail "NO WAY"
     case rest=>
      obtain⟨g,rfl,hD⟩:=hcut;obtain⟨J,ba,hg⟩:=uH hD;have ST:=ac J;have KP:=ac ba;have HG:=ac hg;clear J ba hg hD;have W7:=ac (fun F v=>uH K7 F j k v U Z);have W8:=ac (fun F v u=>uH K8 F j k v u U Z);go_wp2_with fail;refine aB (fun W=>gA w W r c r n n c ao bo co na nb nc ca cb cc lo2 (sm j k)/\jl W g lo1 (D j k)) ⟨uH ST,uH KP⟩ ?_;clear ST KP;rintro G ⟨st,kp⟩;have D0:=(Below.refl G.heap.size G).drew;have ST:=ac (st.all D0);obtain⟨n1,a1,l1,c1,X1,bd,id⟩:=kp.all D0;obtain⟨n2,a2,l2,c2,X2,bs,is⟩:=(uH ST).2;have BD:=ac bd;have ID:=ac id;have Q:=ac bs;have IS:=ac is;have d0:=bd.c0;have d1:=bd.c1;have d2:=bd.c2;have y0:=bs.c0;have y1:=bs.c1;have y2:=bs.c2;have f0:=bs.free 0;have f1:=bs.free 1;have f2:=bs.free 2;clear st kp bd id bs is D0
      go_region_with (first
       |(go_at_call 18;refine(uH W7 _ _ (uH ID)).mono ?_;rintro e w9 ⟨v,rfl,qn,l⟩;clear y0 y1 y2 f0 f1 f2 d0 d1 d2;replace Q:=ac ((uH Q).all l);replace BD:=ac ((uH BD).all l);replace ST:=ac ((uH ST).all l);have y0:=(uH Q).c0;have y1:=(uH Q).c1;have y2:=(uH Q).c2;have f0:=(uH Q).free 0;have f1:=(uH Q).free 1;have f2:=(uH Q).free 2;have d0:=(uH BD).c0;have d1:=(uH BD).c1;have d2:=(uH BD).c2;replace IS:=ac ((uH IS).below l);have QM:=ac qn;clear qn l)
       |(go_at_call 19;refine(uH W8 _ _ _ (uH IS) (uH QM)).mono ?_;rintro e w9 ⟨v,rfl,⟨n5,a5,c5,L5,rfl,i5⟩,l⟩;clear y0 y1 y2 f0 f1 f2 d0 d1 d2;replace Q:=ac ((uH Q).all l);replace BD:=ac ((uH BD).all l);replace ST:=ac ((uH ST).all l);have y0:=(uH Q).c0;have y1:=(uH Q).c1;have y2:=(uH Q).c2;have f0:=(uH Q).free 0;have f1:=(uH Q).free 1;have f2:=(uH Q).free 2;have d0:=(uH BD).c0;have d1:=(uH BD).c1;have d2:=(uH BD).c2;have IP:=ac (show aN w9 (.agg #[.bool n5,.slice a5 L5.length c5,C0 (oE (sm j (k+1)) lo2)]) lo2 (sm j (k+1))from⟨n5,a5,c5,L5,rfl,i5⟩);clear i5 l)
       |fail "NO ARM")
      all_goals
       clear d0 d1 d2 y0 y1 y2 f0 f1 f2;go_wp2_with fail
       go_roundw
       case rel=>
        first
         |exact⟨k+1,by omega,by go_num,ac ((uH ST).put (uH IP))⟩
         |((repeat apply Exists.intro);exact⟨⟨k+1,by omega,by go_num,ac ((uH ST).put (uH IP))⟩,rfl⟩)
       case measure=>simp[intOf];omega
    ·have bc:k=c:=by omega
     subst bc;go_wp2_with fail
     go_round
     case rel=>exact⟨j+1,by omega,by go_num,by rw[uH S1];exact J⟩
     case measure=>simp[intOf];omega
  ·have be:j=r:=by omega
   subst be;obtain⟨⟨_,_,_,O,h3⟩,⟨nn,aa,ll,cx,X,bx,ix⟩⟩:=uH J;have y0:=bx.c0;have y1:=bx.c1;have y2:=bx.c2;have r0:=O.c0;have r1:=O.c1;have r2:=O.c2;have f0:=O.free 0;have f1:=O.free 1;have f2:=O.free 2;have xe:=O.put (.bool nn) (.slice aa ll cx) (C0 X);have e0:=xe.c0;have e1:=xe.c1;have e2:=xe.c2;have HS:=ac (aH.put3 ix O (.bool nn) (.slice aa ll cx) (C0 X));have BE:=ac (aJ h3 (show w.heap.size<=w.heap.size+1+1+1 by omega) (.bool nn) (.slice aa ll cx) (C0 X));clear xe O bx ix h3 J;go_wp2_with fail;exact bodyPost_ret (v:=.agg #[.bool nn,.slice aa ll cx,C0 X]) (by simp[results,Tryz.results25,go_sem,e0,e1,e2]) rfl ⟨_,rfl,uH HS,uH BE⟩
theorem Hg(ao bo:GY)(c d n:Nat)(I:List Int)(lo lo1 lo2:Int)(fa fb sm:Nat->Int)(w:World)(hI:ag w ao c I)(hJ:Bz w bo d n lo1 fb)(hi:I.length=n)(hn:n<=8)(h0:sm 0=0)
  (C1:∀l k,k<n->GF 60 #[CI (bg I k:Nat)] l fun r F=>∃u,r=.returned u/\aN F u lo (fa k)/\H8 l F)
  (C3:∀l k v u,k<n->aN l v lo (fa k)->aN l u lo1 (fb k)->GF 18 #[v,u] l fun r F=>∃q,r=.returned q/\aN F q lo2 (fa k*fb k)/\H8 l F)
  (C4:∀l k v u,k<n->aN l v lo2 (sm k)->aN l u lo2 (fa k*fb k)->GF 19 #[v,u] l fun r F=>∃q,r=.returned q/\aN F q lo2 (sm (k+1))/\H8 l F):
  GF 62 #[.slice ao n c,.slice bo n d] w fun e l=>∃v,e=.returned v/\aN l v lo2 (sm n)/\H8 w l:=by
 have K1:=ac C1;have K3:=ac C3;have K4:=ac C4;have HI:=ac hI;have HJ:=ac hJ;have LI:=ac hi;have ST:=ac (show mn w _ lo2 (sm 0)from by rw[h0];exact mn.start w lo2);clear C1 C3 C4 hI hJ hi h0
 go_enter Tryz.func62,Tryz.ntmps62
 go_wp2_with fail
 go_loopw[6] (fun i wr=>∃k:Nat,k<=n/\i=.int .i64 k/\Hid (mn w wr lo2 (sm k))) (fun i _=>n-(intOf i).toNat)
 case atStart=>exact⟨0,Nat.zero_le _,rfl,ST⟩
 case round=>
  clear ST;obtain⟨k,hk,rfl,hS⟩:=hrel
  by_cases J:k<n
  ·have ap:(k:Int)<(n:Int):=by omega
   have W1:=ac (fun l=>uH K1 l k J);have W3:=ac (fun l v u=>uH K3 l k v u J);have W4:=ac (fun l v u=>uH K4 l k v u J);obtain⟨b1,o1,rfl,p1,q1⟩:=(uH HI).ne (by rw[uH LI];omega);rcases(uH HJ).2 with e|⟨M,N,rfl,p2,q2⟩
   ·omega
   have K:=q1 k (by rw[uH LI];exact J);obtain⟨yd,e0,e1,e2,hy⟩:=q2 k J;obtain⟨yn,ya,yl,yc,yX⟩:=yd;generalize bg I k=x at*;have KX:=ac K;have KY:=ac (show w.cell? ⟨M,N+k*3,none⟩=some (.bool yn)/\w.cell? ⟨M,N+k*3+1,none⟩=some (.slice ya yl yc)/\w.cell? ⟨M,N+k*3+2,none⟩=some (C0 yX)from⟨e0,e1,e2⟩);have P1:=ac p1;have P2:=ac p2;have ae:=ac (show aN w (.agg #[.bool yn,.slice ya yl yc,C0 yX]) lo1 (fb k)from hy);clear q1 q2 K e0 e1 e2 hy p1 p2;go_wp2_with fail;refine aB (fun W=>mn w W lo2 (sm k)) (uH hS) ?_;clear hS;rintro W0 hS;have D0:=(Below.refl W0.heap.size W0).drew;have G:=ac (hS.all D0);obtain⟨nn,aa,ll,cc,X,H,ix⟩:=(uH G).2.1;have O:=H.c0;have Q:=H.c1;have U:=H.c2;have Z:=H.free 0;have f1:=H.free 1;have f2:=H.free 2;have D:=ac H;have IX:=ac ix;have HK:=ac (show∀l (h:H8 w l),l.cell? ⟨b1,o1+k,none⟩=some (CI (x:Nat))/\l.cell? ⟨M,N+k*3,none⟩=some (.bool yn)/\l.cell? ⟨M,N+k*3+1,none⟩=some (.slice ya yl yc)/\l.cell? ⟨M,N+k*3+2,none⟩=some (C0 yX)from fun l h=>
    ⟨(h.cell (p:=⟨b1,o1+k,none⟩) (uH P1)).trans (uH KX),(h.cell (p:=⟨M,N+k*3,none⟩) (uH P2)).trans (uH KY).1,(h.cell (p:=⟨M,N+k*3+1,none⟩) (uH P2)).trans (uH KY).2.1,(h.cell (p:=⟨M,N+k*3+2,none⟩) (uH P2)).trans (uH KY).2.2⟩)
   clear hS D0 H ix KX KY P1 P2;obtain⟨K,cy,cz,cu⟩:=uH HK _ (uH G).2.2
   go_region_with (first
     |(go_at_call 60;refine(uH W1 _).mono ?_;rintro e w4 ⟨q,rfl,hq,t⟩;replace G:=ac ((uH G).all t);have QX:=ac hq;clear O Q U Z f1 f2 K cy cz cu;replace D:=ac ((uH D).all t);replace IX:=ac ((uH IX).below t);obtain⟨K,cy,cz,cu⟩:=uH HK _ (uH G).2.2;have O:=(uH D).c0;have Q:=(uH D).c1;have U:=(uH D).c2;have Z:=(uH D).free 0;have f1:=(uH D).free 1;have f2:=(uH D).free 2;clear hq t)
     |(go_at_call 18;refine(uH W3 _ _ _ (uH QX) ((uH ae).below (uH G).2.2)).mono ?_;rintro e w4 ⟨q,rfl,hq,t⟩;replace G:=ac ((uH G).all t);have QP:=ac hq;clear O Q U Z f1 f2 K cy cz cu;replace D:=ac ((uH D).all t);replace IX:=ac ((uH IX).below t);obtain⟨K,cy,cz,cu⟩:=uH HK _ (uH G).2.2;have O:=(uH D).c0;have Q:=(uH D).c1;have U:=(uH D).c2;have Z:=(uH D).free 0;have f1:=(uH D).free 1;have f2:=(uH D).free 2;clear hq t)
     |(go_at_call 19;refine(uH W4 _ _ _ (uH IX) (uH QP)).mono ?_;rintro e w4 ⟨q,rfl,⟨n5,a5,c5,L5,rfl,i5⟩,t⟩;replace G:=ac ((uH G).all t);have QS:=ac (show aN w4 (.agg #[.bool n5,.slice a5 L5.length c5,C0 (oE (sm (k+1)) lo2)]) lo2 (sm (k+1))from⟨n5,a5,c5,L5,rfl,i5⟩);clear O Q U Z f1 f2 K cy cz cu;replace D:=ac ((uH D).all t);obtain⟨K,cy,cz,cu⟩:=uH HK _ (uH G).2.2;have O:=(uH D).c0;have Q:=(uH D).c1;have U:=(uH D).c2;have Z:=(uH D).free 0;have f1:=(uH D).free 1;have f2:=(uH D).free 2;have SF:=ac ((uH G).put (uH QS));clear i5 t)
     |fail "NO ARM")
   all_goals
    go_wp2_with fail
    go_round
    case rel=>exact⟨k+1,by omega,by go_num,SF⟩
    case measure=>simp[intOf];omega
  ·have am:k=n:=by omega
   subst am;obtain⟨L,⟨nn,aa,ll,cc,X,H,ix⟩,h3⟩:=uH hS;have O:=H.c0;have Q:=H.c1;have U:=H.c2;have r0:=L.c0;have r1:=L.c1;have r2:=L.c2;have Z:=L.free 0;have f1:=L.free 1;have f2:=L.free 2;have xe:=L.put (.bool nn) (.slice aa ll cc) (C0 X);have e0:=xe.c0;have e1:=xe.c1;have e2:=xe.c2;have HS:=ac (aH.put3 ix L (.bool nn) (.slice aa ll cc) (C0 X));have BE:=ac (aJ h3 (Nat.le_refl _) (.bool nn) (.slice aa ll cc) (C0 X));clear xe L H ix h3 hS;go_wp2_with fail;exact bodyPost_ret (v:=.agg #[.bool nn,.slice aa ll cc,C0 X]) (by simp[results,Tryz.results62,go_sem,e0,e1,e2]) rfl ⟨_,rfl,uH HS,uH BE⟩
theorem iF.made(w:World)(h:Nat)(lo:Int)(f:Nat->Int)(l:h<=w.heap.size):iF h (w.alloc (.cells #[] 35)) (.slice (some ⟨w.heap.size,0,none⟩) 0 0) 0 lo f:=
 ⟨[],rfl,World.ownsRow_made w #[] 0 l (by simp[maxLen]) (by simp),fun g t=>by cases t;exact⟨#[],_,heap_alloc_new w _,fun u D=>by simp at D⟩,fun k F=>by omega⟩
theorem iF.put3{t:Nat}{w:World}{v:Value}{n:Nat}{lo:Int}{f:Nat->Int}(h:iF t w v n lo f){g:Nat}{x:Bool}{a:GY}{l c:Nat}{y:Int}(D:ar w g (.bool x) (.slice a l c) (C0 y))(F:g<t)(b:Bool)(G:GY)(H I:Nat)(J:Int):
  iF t (((w.setCell ⟨g,0,none⟩ (.bool b)).setCell ⟨g,1,none⟩ (.slice G H I)).setCell ⟨g,2,none⟩ (C0 J)) v n lo f:=
 ((h.set D.clr F 0 _).set (D.clr.set _ _ rfl) F 1 _).set ((D.clr.set _ _ rfl).set _ _ rfl) F 2 _
theorem gA.grown{w W D:World}{r c p q s d:Int}{ao F G:GY}{H I J K L M:Nat}{lo z:Int}(h:gA w W r c p q s d ao F G H I J K L M lo z){v:Value}(Z:jU W v)(N:∀k,v.ownBlock=some k->(w.heap.size+5)<=k)(l:W.grownBy D v.ownBlock):gA w D r c p q s d ao F G H I J K L M lo z:=by
 obtain⟨⟨h1,h2,h3,O,Q⟩,n',a',l',c',X',U,h7⟩:=h;have t:∀b,b<(w.heap.size+5)->v.ownBlock≠some b:=fun b hb e=>by have:=N b e;omega
 exact⟨⟨h1.grown l (t _ (by omega)),h2.grown l (t _ (by omega)),h3.grown l (t _ (by omega)),(l.block _ O.lt (t _ (by omega)).symm).trans O,Q.grown l Q.size (fun k hk=>by have:=N k hk;omega)⟩,n',a',l',c',X',(l.block _ U.lt (t _ (by omega)).symm).trans U,h7.grownClear Z l⟩
theorem OY{w W:World}{r c p q s d:Int}{ao O Q:GY}{U Z nc ca cb cc:Nat}{lo z:Int}{po:GY}{m pc:Nat}{lo1:Int}{f:Nat->Int}{G:Bool}{a:GY}{l H:Nat}{X:Int}(h:gA w W r c p q s d ao O Q U Z nc ca cb cc lo z)(ho:iF (w.heap.size+5) W (.slice po m pc) m lo1 f)(hx:aN W (.agg #[.bool G,.slice a l H,C0 X]) lo1 (f m))(hm:m<=6)(ty:TypeId):
  ∃I J t,(Builtin.append_ #[78,78] ty #[.slice po m pc,.slice (some ⟨W.heap.size,0,none⟩) 1 1]).run Tryz.prog (W.alloc (.cells #[.bool G,.slice a l H,C0 X] 35))=.ok (.slice I (m+1) J) t/\(gA w t r c p q s d ao O Q U Z nc ca cb cc lo z/\iF (w.heap.size+5) t (.slice I (m+1) J) (m+1) lo1 f/\Below (w.heap.size+5) W t):=by
 have K:=ad W (.cells #[.bool G,.slice a l H,C0 X] 35);have M:(w.heap.size+5)<=W.heap.size:=by have:=h.2.lt;omega
 have F:=ho.below K;obtain⟨I,J,t,e1,N,hg⟩:=F.push W.heap.size ⟨G,a,l,H,X⟩ (hx.below K) (heap_alloc_new W _) (by omega) (by simp;omega) ty;obtain⟨D,d1,d2,d3,d4⟩:=F;refine⟨I,J,t,e1,(h.all K).grown d3 (fun k L=>(d2.lt k L).1) hg,N,?_⟩;exact(K.mono M).grown hg (by simp;omega) (fun k L=>(d2.lt k L).1)
theorem Hh(r n c Z nx nb ca cx cb:Nat)(ao xo bo:GY)(x:Nat->Nat->Nat)(rw cl cm:Nat->List Int)(lo1 lo2 I:Int)(xb dd L D:Nat->Nat->Int)(sm:Nat->Nat->Int)(w:World)(hr:r<=6)(hn:n<=6)(hc:c<=6)(s0:sm 0 0=0)(s1:∀k,sm (k+1) 0=sm k n)
  (C1:∀F i,H8 w F->i<r->GF 59 #[.agg #[C0 r,C0 n,.slice ao Z ca],C0 (i:Nat)] F fun e G=>∃go d,e=.returned (.slice go n d)/\ag G go d (rw i)/\H8 F G)
  (C2:∀F k,H8 w F->k<c->GF 30 #[.agg #[C0 n,C0 c,.slice xo nx cx],C0 (k:Nat),C0 0] F fun e G=>∃go d,e=.returned (.slice go n d)/\ag G go d (cl k)/\H8 F G)
  (C3:∀F i k ko kd yo yd,i<r->k<c->ag F ko kd (rw i)->ag F yo yd (cl k)->GF 31 #[.slice ko n kd,.slice yo n yd] F fun e G=>∃v,e=.returned v/\aN G v lo1 (dd i k)/\H8 F G)
  (C4:∀F i k,H8 w F->i<r->k<c->BS 61 #[.agg #[C0 r,C0 c,.slice bo nb cb],C0 (i:Nat),C0 (k:Nat)] F (CI (x i k:Nat)))
  (C5:∀F i k,i<r->k<c->GF 60 #[CI (x i k:Nat)] F fun e G=>∃u,e=.returned u/\aN G u lo1 (xb i k)/\H8 F G)
  (C6:∀F i k v u,i<r->k<c->aN F v lo1 (dd i k)->aN F u lo1 (xb i k)->GF 58 #[v,u] F fun e G=>∃q,e=.returned q/\aN G q lo1 (L i k)/\H8 F G)
  (C7:∀F j,H8 w F->j<n->GF 30 #[.agg #[C0 r,C0 n,.slice ao Z ca],C0 (j:Nat),C0 0] F fun e G=>∃go d,e=.returned (.slice go r d)/\ag G go d (cm j)/\H8 F G)
  (C8:∀F j k ko kd yo yd,j<n->k<c->ag F ko kd (cm j)->Bz F yo yd r lo1 (fun t=>L t k)->GF 62 #[.slice ko r kd,.slice yo r yd] F fun e G=>∃v,e=.returned v/\aN G v lo2 (D j k)/\H8 F G)
  (C9:∀F j k v,j<n->k<c->aN F v lo2 (D j k)->GF 18 #[v,v] F fun e G=>∃q,e=.returned q/\aN G q I (D j k*D j k)/\H8 F G)
  (ax:∀F j k v u,j<n->k<c->aN F v I (sm k j)->aN F u I (D j k*D j k)->GF 19 #[v,u] F fun e G=>∃q,e=.returned q/\aN G q I (sm k (j+1))/\H8 F G):
  GF 21 #[.agg #[C0 r,C0 n,.slice ao Z ca],.agg #[C0 n,C0 c,.slice xo nx cx],.agg #[C0 r,C0 c,.slice bo nb cb]] w fun e F=>∃v,e=.returned v/\aN F v I (sm c 0)/\H8 w F:=by
 have K1:=ac C1;have K2:=ac C2;have K3:=ac C3;have K4:=ac C4;have K5:=ac C5;have K6:=ac C6;have K7:=ac C7;have K8:=ac C8;have K9:=ac C9;have bb:=ac ax;have S1:=ac s1;have Q:=ac (show gA w _ r n n c r c ao xo bo Z nx nb ca cx cb I (sm 0 0)from by rw[s0];exact gA.start w r n n c r c ao xo bo Z nx nb ca cx cb I);clear C1 C2 C3 C4 C5 C6 C7 C8 C9 ax s0 s1
 go_enter Tryz.func21,Tryz.ntmps21
 go_wp2_with fail
 go_loopw[8] (fun i wr=>∃k:Nat,k<=c/\i=.int .i64 k/\Hid (gA w wr r n n c r c ao xo bo Z nx nb ca cx cb I (sm k 0))) (fun i _=>c-(intOf i).toNat)
 case atStart=>exact⟨0,Nat.zero_le _,rfl,Q⟩
 case round=>
  clear Q;obtain⟨k,hk,rfl,H⟩:=hrel;have m1:=(uH H).1.2.1.c1
  by_cases M:k<c
  ·have bA:(k:Int)<(c:Int):=by omega
   have BA:=ad wr (.cells #[] 35);have SO:=ac (show gA w _ r n n c r c ao xo bo Z nx nb ca cx cb I (sm k 0)/\iF (w.heap.size+5) _ (.slice (some ⟨wr.heap.size,0,none⟩) 0 0) 0 lo1 (fun t=>L t k)from⟨(uH H).all BA,iF.made wr _ lo1 (fun t=>L t k) (by have:=(uH H).2.lt;omega)⟩);clear BA;go_wp2_with fail;clear m1 H
   go_loopw[9,10] (fun v i wr=>∃(j:Nat) (po:GY) (pc:Nat),j<=r/\i=.int .i64 j/\v=.slice po j pc/\Hid (gA w wr r n n c r c ao xo bo Z nx nb ca cx cb I (sm k 0)/\iF (w.heap.size+5) wr (.slice po j pc) j lo1 (fun t=>L t k))) (fun _ i _=>r-(intOf i).toNat)
   case atStart=>exact⟨0,_,0,Nat.zero_le _,rfl,rfl,SO⟩
   case round=>
    clear SO;obtain⟨j,po,pc,hj,rfl,rfl,H⟩:=hrel;have m1:=(uH H).1.1.1.c0
    by_cases ae:j<r
    ·have bE:(j:Int)<(r:Int):=by omega
     go_wp2_with fail;clear m1;refine aB (fun W=>gA w W r n n c r c ao xo bo Z nx nb ca cx cb I (sm k 0)/\iF (w.heap.size+5) W (.slice po j pc) j lo1 (fun t=>L t k)) (uH H) ?_;clear H;rintro O ⟨H,hO⟩;have D0:=(Below.refl O.heap.size O).drew;have HK:=ac (show∀F (h:Below (w.heap.size+5) O F),Below (w.heap.size+5) O F/\F.cell? ⟨w.heap.size,0,none⟩=some (C0 r)/\F.cell? ⟨w.heap.size,1,none⟩=some (C0 n)/\F.cell? ⟨w.heap.size,2,none⟩=some (.slice ao Z ca)/\F.cell? ⟨w.heap.size+1,0,none⟩=some (C0 n)/\F.cell? ⟨w.heap.size+1,1,none⟩=some (C0 c)/\F.cell? ⟨w.heap.size+1,2,none⟩=some (.slice xo nx cx)/\F.cell? ⟨w.heap.size+1+1,0,none⟩=some (C0 r)/\F.cell? ⟨w.heap.size+1+1,1,none⟩=some (C0 c)/\F.cell? ⟨w.heap.size+1+1,2,none⟩=some (.slice bo nb cb)from fun F h=>⟨h,(H.1.1.below h (by omega)).c0,(H.1.1.below h (by omega)).c1,(H.1.1.below h (by omega)).c2,(H.1.2.1.below h (by omega)).c0,(H.1.2.1.below h (by omega)).c1,(H.1.2.1.below h (by omega)).c2,(H.1.2.2.1.below h (by omega)).c0,(H.1.2.2.1.below h (by omega)).c1,(H.1.2.2.1.below h (by omega)).c2⟩);have aI:=ac (fun wn o (h1:Below (w.heap.size+5) O wn) (h2:(w.heap.size+5)<=wn.heap.size)=>uH HK (wn.alloc o) (h1.alloc h2 o));have HG:=ac (show(w.heap.size+5)<=O.heap.size by have:=H.2.lt;omega);have N:=ac (H.all D0);have J:=ac (hO.below D0);have W1:=ac (fun F h=>uH K1 F j h ae);have W2:=ac (fun F h=>uH K2 F k h M);have W3:=ac (fun F ko kd yo yd=>uH K3 F j k ko kd yo yd ae M);have W4:=ac (fun F h=>uH K4 F j k h ae M);have W5:=ac (fun F=>uH K5 F j k ae M);have W6:=ac (fun F v u=>uH K6 F j k v u ae M);have bc:=ac (show j<=6 by omega);generalize x j k=xx at*;clear H hO D0
     go_region_held3(fun F=>Below (w.heap.size+5) O F/\F.cell? ⟨w.heap.size,0,none⟩=some (C0 r)/\F.cell? ⟨w.heap.size,1,none⟩=some (C0 n)/\F.cell? ⟨w.heap.size,2,none⟩=some (.slice ao Z ca)/\F.cell? ⟨w.heap.size+1,0,none⟩=some (C0 n)/\F.cell? ⟨w.heap.size+1,1,none⟩=some (C0 c)/\F.cell? ⟨w.heap.size+1,2,none⟩=some (.slice xo nx cx)/\F.cell? ⟨w.heap.size+1+1,0,none⟩=some (C0 r)/\F.cell? ⟨w.heap.size+1+1,1,none⟩=some (C0 c)/\F.cell? ⟨w.heap.size+1+1,2,none⟩=some (.slice bo nb cb))
      (first|assumption|exact uH HK _ (Below.refl _ _).drew|exact uH HK _ (by assumption)|exact uH aI _ _ (by assumption) (Nat.le_trans (uH HG) (Below.size (by assumption)))|fail "KK")
      (first
       |(refine rO _ (by rfl) _ _ 78 (by rfl) _ _ _ _ (by rfl) (by rfl) (uH PU) ?_;rintro ro rc w5 ⟨a4,a7,a9⟩;have bG:Below (w.heap.size+5) O w5:=a3.trans a9;have be:=ac (And.intro a4 a7);clear a4 a7 a9 PU)
       |(go_simp;(go_at_call 61;refine(uH W4 _ (uH N).1.2.2.2.2).mono ?_;rintro e w6 ⟨rfl,l⟩;have bt:Below (w.heap.size+5) O w6:=Below.trans (And.left (by assumption)) (l.mono (Nat.le_trans (uH HG) (Below.size (And.left (by assumption)))));(first|(with_reducible (replace QV:=ac ((uH QV).below l)))|skip);(first|(with_reducible (replace QR:=ac ((uH QR).below l)))|skip);(first|(with_reducible (replace QC:=ac ((uH QC).below l)))|skip);(first|(with_reducible (replace QD:=ac ((uH QD).below l)))|skip);replace N:=ac ((uH N).all l);replace J:=ac ((uH J).below l);clear l))
       |(go_simp;(go_at_call 60;refine(uH W5 _).mono ?_;rintro e w7 ⟨v7,rfl,U,l⟩;have bv:Below (w.heap.size+5) O w7:=Below.trans (And.left (by assumption)) (l.mono (Nat.le_trans (uH HG) (Below.size (And.left (by assumption)))));(first|(with_reducible (replace QR:=ac ((uH QR).below l)))|skip);(first|(with_reducible (replace QC:=ac ((uH QC).below l)))|skip);(first|(with_reducible (replace QD:=ac ((uH QD).below l)))|skip);replace N:=ac ((uH N).all l);replace J:=ac ((uH J).below l);have QV:=ac U;clear U;clear l))
       |(go_simp;(go_at_call 59;refine(uH W1 _ (uH N).1.2.2.2.2).mono ?_;rintro e w8 ⟨bJ,bU,rfl,U,l⟩;have bw:Below (w.heap.size+5) O w8:=Below.trans (And.left (by assumption)) (l.mono (Nat.le_trans (uH HG) (Below.size (And.left (by assumption)))));(first|(with_reducible (replace QV:=ac ((uH QV).below l)))|skip);(first|(with_reducible (replace QC:=ac ((uH QC).below l)))|skip);(first|(with_reducible (replace QD:=ac ((uH QD).below l)))|skip);replace N:=ac ((uH N).all l);replace J:=ac ((uH J).below l);have QR:=ac U;clear U;clear l))
       |(go_simp;(go_at_call 30;refine(uH W2 _ (uH N).1.2.2.2.2).mono ?_;rintro e w9 ⟨bV,b0,rfl,U,l⟩;have bz:Below (w.heap.size+5) O w9:=Below.trans (And.left (by assumption)) (l.mono (Nat.le_trans (uH HG) (Below.size (And.left (by assumption)))));(first|(with_reducible (replace QV:=ac ((uH QV).below l)))|skip);(first|(with_reducible (replace QR:=ac ((uH QR).below l)))|skip);(first|(with_reducible (replace QD:=ac ((uH QD).below l)))|skip);replace N:=ac ((uH N).all l);replace J:=ac ((uH J).below l);have QC:=ac U;clear U;clear l))
       |(go_simp;(go_at_call 31;refine(uH W3 _ _ _ _ _ (uH QR) (uH QC)).mono ?_;rintro e br ⟨b1,rfl,U,l⟩;have bi:Below (w.heap.size+5) O br:=Below.trans (And.left (by assumption)) (l.mono (Nat.le_trans (uH HG) (Below.size (And.left (by assumption)))));(first|(with_reducible (replace QV:=ac ((uH QV).below l)))|skip);(first|(with_reducible (replace QR:=ac ((uH QR).below l)))|skip);(first|(with_reducible (replace QC:=ac ((uH QC).below l)))|skip);replace N:=ac ((uH N).all l);replace J:=ac ((uH J).below l);have QD:=ac U;clear U;clear l))
       |(go_simp;(go_at_call 58;refine(uH W6 _ _ _ (uH QD) (uH QV)).mono ?_;rintro e wm ⟨q,rfl,⟨n5,a5,c5,L5,rfl,i5⟩,l⟩;have a3:Below (w.heap.size+5) O wm:=Below.trans (And.left (by assumption)) (l.mono (Nat.le_trans (uH HG) (Below.size (And.left (by assumption)))));(first|(with_reducible (replace QV:=ac ((uH QV).below l)))|skip);(first|(with_reducible (replace QR:=ac ((uH QR).below l)))|skip);(first|(with_reducible (replace QC:=ac ((uH QC).below l)))|skip);(first|(with_reducible (replace QD:=ac ((uH QD).below l)))|skip);replace N:=ac ((uH N).all l);replace J:=ac ((uH J).below l);have IP:=ac (show aN wm (.agg #[.bool n5,.slice a5 L5.length c5,C0 (oE (L j k) lo1)]) lo1 (L j k)from⟨n5,a5,c5,L5,rfl,i5⟩);have PU:=ac (OY (uH N) (uH J) (uH IP) (uH bc) 78);clear i5;clear l))
       |fail "NO ARM")
     all_goals
      clear N J HK aI W1 W2 W3 W4 W5 W6;go_wp2_with fail
      go_round
      case rel=>exact⟨j+1,ro,rc,by omega,by go_num,rfl,be⟩
      case measure=>simp[intOf];omega
    ·have bm:j=r:=by omega
     subst bm;go_wp2_with fail;clear m1
     go_loopw[11] (fun i wr=>∃i':Nat,i'<=n/\i=.int .i64 i'/\Hid (gA w wr j n n c j c ao xo bo Z nx nb ca cx cb I (sm k i')/\iF (w.heap.size+5) wr (.slice po j pc) j lo1 (fun t=>L t k))) (fun i _=>n-(intOf i).toNat)
     case atStart=>exact⟨0,Nat.zero_le _,rfl,H⟩
     case round=>
      clear H;obtain⟨i,hi,rfl,H⟩:=hrel;have m1:=(uH H).1.1.1.c1
      by_cases am:i<n
      ·have bI:(i:Int)<(n:Int):=by omega
       have a0:=(uH H).1.1.1.c0;have a2:=(uH H).1.1.1.c2;have W7:=ac (uH K7 _ i (uH H).1.1.2.2.2.2 am);go_wp2_with fail;refine Calls.mono (uH W7) ?_;rintro e w6 ⟨go,gd,rfl,qb,l⟩;have st:=(uH H).1.all l;have ow:=(uH H).2.below l;have W8:=ac (fun yo yd h=>uH K8 w6 i k go gd yo yd am M qb h);obtain⟨yo,yd,ey,hy⟩:=ow.dys
       cases ey
       have W8:=ac (uH W8 _ _ hy);have Q:=ac st;have J:=ac ow;clear st ow hy qb l H W7 a0 a2 m1;go_wp2_with fail;refine Calls.mono (uH W8) ?_;rintro e w7 ⟨v,rfl,⟨n6,a6,c6,L6,rfl,i6⟩,l⟩;have hv:aN w7 (.agg #[.bool n6,.slice a6 L6.length c6,C0 (oE (D i k) lo2)]) lo2 (D i k):=⟨n6,a6,c6,L6,rfl,i6⟩;generalize L6.length=l6 at*;generalize oE (D i k) lo2=X6 at*;have ba:=ad w7 (.cells #[.bool n6,.slice a6 l6 c6,C0 X6] 35);have ap:=l.trans (ba.mono l.size);replace Q:=ac ((uH Q).all ap);replace J:=ac ((uH J).below ap);have KP:=ac (show jl _ w7.heap.size lo2 (D i k)from⟨n6,a6,l6,c6,X6,ar.new w7 _ _ _,hv.below ba⟩);clear i6 hv ba ap l W8;have W9:=ac (fun F v=>uH K9 F i k v am M);have bn:=ac (fun F v u=>uH bb F i k v u am M);go_wp2_with fail;generalize w7.heap.size=g at*;refine aB (fun W=>gA w W j n n c j c ao xo bo Z nx nb ca cx cb I (sm k i)/\jl W g lo2 (D i k)/\iF (w.heap.size+5) W (.slice po j pc) j lo1 (fun t=>L t k)) ⟨uH Q,uH KP,uH J⟩ ?_;clear Q KP J;rintro O ⟨st,kp,ow⟩;have D0:=(Below.refl O.heap.size O).drew;have Q:=ac (st.all D0);have J:=ac (ow.below D0);obtain⟨n1,a1,l1,c1,X1,bd,id⟩:=kp.all D0;obtain⟨n2,a2,l2,c2,X2,bs,is⟩:=(uH Q).2;have BD:=ac bd;have ID:=ac id;have K:=ac bs;have IS:=ac is;have d0:=bd.c0;have d1:=bd.c1;have d2:=bd.c2;have y0:=bs.c0;have y1:=bs.c1;have y2:=bs.c2;have f0:=bs.free 0;have f1:=bs.free 1;have f2:=bs.free 2;clear st kp ow bd id bs is D0
       go_region_with (first
        |(go_at_call 18;refine(uH W9 _ _ (uH ID)).mono ?_;rintro e w9 ⟨v,rfl,U,l⟩;clear y0 y1 y2 f0 f1 f2 d0 d1 d2;replace K:=ac ((uH K).all l);replace BD:=ac ((uH BD).all l);replace Q:=ac ((uH Q).all l);have y0:=(uH K).c0;have y1:=(uH K).c1;have y2:=(uH K).c2;have f0:=(uH K).free 0;have f1:=(uH K).free 1;have f2:=(uH K).free 2;have d0:=(uH BD).c0;have d1:=(uH BD).c1;have d2:=(uH BD).c2;replace IS:=ac ((uH IS).below l);replace J:=ac ((uH J).below l);have QM:=ac U;clear U l)
        |(go_at_call 19;refine(uH bn _ _ _ (uH IS) (uH QM)).mono ?_;rintro e w9 ⟨v,rfl,⟨n5,a5,c5,L5,rfl,i5⟩,l⟩;clear y0 y1 y2 f0 f1 f2 d0 d1 d2;replace K:=ac ((uH K).all l);replace BD:=ac ((uH BD).all l);replace Q:=ac ((uH Q).all l);have y0:=(uH K).c0;have y1:=(uH K).c1;have y2:=(uH K).c2;have f0:=(uH K).free 0;have f1:=(uH K).free 1;have f2:=(uH K).free 2;have d0:=(uH BD).c0;have d1:=(uH BD).c1;have d2:=(uH BD).c2;replace J:=ac ((uH J).below l);have IP:=ac (show aN w9 (.agg #[.bool n5,.slice a5 L5.length c5,C0 (oE (sm k (i+1)) I)]) I (sm k (i+1))from⟨n5,a5,c5,L5,rfl,i5⟩);clear i5 l)
        |fail "NO ARM")
       all_goals
        clear d0 d1 d2 y0 y1 y2 f0 f1 f2;go_wp2_with fail
        go_roundw
        case rel=>
         first
          |exact⟨i+1,by omega,by go_num,ac ⟨(uH Q).put (uH IP),iF.put3 (uH J) (uH K) (by omega) _ _ _ _ _⟩⟩
          |((repeat apply Exists.intro);exact⟨⟨i+1,by omega,by go_num,ac ⟨(uH Q).put (uH IP),iF.put3 (uH J) (uH K) (by omega) _ _ _ _ _⟩⟩,rfl⟩)
        case measure=>simp[intOf];omega
      ·have bp:i=n:=by omega
       subst bp;go_wp2_with fail
       go_round
       case rel=>exact⟨k+1,by omega,by go_num,by rw[uH S1];exact ac (uH H).1⟩
       case measure=>simp[intOf];omega
  ·have bq:k=c:=by omega
   subst bq;obtain⟨⟨_,_,_,h1,h3⟩,⟨nn,aa,ll,cy,X,bx,ix⟩⟩:=uH H;have y0:=bx.c0;have y1:=bx.c1;have y2:=bx.c2;have r0:=h1.c0;have r1:=h1.c1;have r2:=h1.c2;have f0:=h1.free 0;have f1:=h1.free 1;have f2:=h1.free 2;have xe:=h1.put (.bool nn) (.slice aa ll cy) (C0 X);have e0:=xe.c0;have e1:=xe.c1;have e2:=xe.c2;have HS:=ac (aH.put3 ix h1 (.bool nn) (.slice aa ll cy) (C0 X));have BE:=ac (aJ h3 (show w.heap.size<=w.heap.size+1+1+1 by omega) (.bool nn) (.slice aa ll cy) (C0 X));clear xe h1 bx ix h3 H;go_wp2_with fail;exact bodyPost_ret (v:=.agg #[.bool nn,.slice aa ll cy,C0 X]) (by simp[results,Tryz.results21,go_sem,e0,e1,e2]) rfl ⟨_,rfl,uH HS,uH BE⟩
theorem BM(c:Nat)(S:H3)(i:Nat){j:Nat}(h:j<c):bg (aX (uV c S i)) j=a8 c S i j:=by rw[fW];exact zP c S i j h
theorem u9(r c:Nat)(S:H3)(k:Nat):(OS r c S k).length=r:=iT _ _
theorem ve(r c:Nat)(S:H3)(k:Nat){j:Nat}(h:j<r):bg (aX (OS r c S k)) j=a8 c S j k:=by
 rw[fW]
 simp[OS,kX,List.getD_eq_getElem?_getD,h]
theorem Hi(ao F:GY)(c d n:Nat)(I J:List Int)(w:World)(G:ag w ao c I)(H:ag w F d J)(N:I.length=n)(K:J.length=n)(O:n<=8)(t:∀k,k<n->ah (bg I k)=true)(D:∀k,k<n->ah (bg J k)=true):
  GF 31 #[.slice ao n c,.slice F n d] w fun e l=>∃v,e=.returned v/\aN l v (-2148) (dN (fun j=>fZ (bg I j)*fZ (bg J j)) n)/\H8 w l:=
 Lz ao F c d n I J (-1074) (-2148) (fun k=>fZ (bg I k)) (fun k=>fZ (bg J k)) (fun k=>dN (fun j=>fZ (bg I j)*fZ (bg J j)) k) w G H N K O rfl
  (fun l k h=>ma _ l (G.lt k) (t k h)) (fun l k h=>ma _ l (H.lt k) (D k h)) (fun l k v u h L M=>MH (G.lt k) (H.lt k) (t k h) (D k h) L M)
  (fun l k v u h L M=>tY L M (zV k (by omega) _ _ (fun j K=>t j (by omega)) (fun j K=>D j (by omega))) (OQ _ _ (t k h) (D k h)))
theorem BN(ao l:GY)(c d n:Nat)(I J:List Int)(x y:Nat->Nat)(w:World)(G:ag w ao c I)(H:ag w l d J)(K:I.length=n)(L:J.length=n)(M:n<=8)(t:∀k,k<n->bg I k=x k)(D:∀k,k<n->bg J k=y k)(N:∀k,ah (x k)=true)(O:∀k,ah (y k)=true):
  GF 31 #[.slice ao n c,.slice l n d] w fun e F=>∃v,e=.returned v/\aN F v (-2148) (Bq n x y)/\H8 w F:=by
 have C:=Hi ao l c d n I J w G H K L M (fun k h=>by rw[t k h];exact N k) (fun k h=>by rw[D k h];exact O k);have e:dN (fun j=>fZ (bg I j)*fZ (bg J j)) n=Bq n x y:=t6 n (fun k h=>by show fZ (bg I k)*fZ (bg J k)=_;rw[t k h,D k h])
 rwa[e]at C
theorem Qp(r n c I J K:Nat)(ao L M:GY)(A B C:H3)(w:World)(N:Mx w ao I r c A)(hB:Mx w L J r n B)(hC:Mx w M K n c C)(fA:∀x∈A,ah x=true)(U:∀x∈B,ah x=true)(Z:∀x∈C,ah x=true):
  GF 25 #[.agg #[C0 r,C0 c,.slice ao A.length I],.agg #[C0 r,C0 n,.slice L B.length J],.agg #[C0 n,C0 c,.slice M C.length K]] w fun e h=>∃v,e=.returned v/\aN h v (-4296) (Rb r n c A B C)/\H8 w h:=by
 have r6:=N.2.2.1;have c6:=N.2.2.2;have n6:=hC.2.2.1;have G:∀i k,ga (-2148) 4200 (KL n c A B C i k):=fun i k=>⟨OD n c A B C i k (by omega) fA U Z,by decide,by decide,by decide⟩
 have pl:∀i k,ga (-4296) 8407 (KL n c A B C i k*KL n c A B C i k):=fun i k=>(show ga (-4296) 8400 _ from⟨iU (j:=4200) (k:=4200) (V:=8400) (by decide) (G i k).1 (G i k).1,by decide,by decide,by decide⟩).more (by decide) (by decide) (by decide)
 have D:=LA r n c A.length B.length C.length I J K ao L M (fun i k=>a8 c A i k) (fun i=>aX (uV n B i)) (fun k=>aX (OS n c C k)) (-2148) (-4296) (fun i k=>fZ (a8 c A i k)*2^1074) (fun i k=>Bq n (fun j=>a8 n B i j) (fun j=>a8 c C j k)) (fun i k=>KL n c A B C i k) (fun i k=>DA (fun i k=>KL n c A B C i k*KL n c A B C i k) c i k) w r6 c6 rfl (fun i=>(Br _ c i).symm)
  (fun h i k t O Q=>uW r c I i k ao A h (N.below t) O Q)
  (fun h i k _ _=>(ma (a8 c A i k) h (N.el_lt i k) (de c A i k fA)).mono (by
   rintro e aa ⟨u,rfl,H,t⟩;refine⟨u,rfl,?_,t⟩;have:=H.lower 1074
   rwa[show(-1074:Int)-(1074:Nat)= -2148 by decide]at this))
  (fun h i t O=>xA r n J i L B h (hB.below t) O)
  (fun h k t Q=>rT n c K k M C h (hC.below t) Q)
  (fun h i k xo xd yo yd _ _ hx hy=>BN xo yo xd yd n _ _ (fun j=>a8 n B i j) (fun j=>a8 c C j k) h hx hy (by rw[aC,mc]) (by rw[aC,u9]) (by omega) (fun j hj=>BM n B i hj) (fun j hj=>ve n c C k hj) (fun j=>de n B i j U) (fun j=>de c C j k Z))
  (fun h i k v u _ _ F H=>Mt F H (GV _ (de c A i k fA)) (zV n (by omega) _ _ (fun l _=>de n B i l U) (fun l _=>de c C l k Z)))
  (fun h i k v _ _ F=>xl F F (G i k) (G i k) (by decide))
  (fun h i k v u O Q F H=>by
   rw[xt];exact tY F H ⟨Bu (W:=8400) (V:=8407) (by decide) r c i k (by omega) (by omega) (by omega) (by omega) (fun i k _=>iU (j:=4200) (k:=4200) (V:=8400) (by decide) (G i k).1 (G i k).1),by decide,by decide,by decide⟩ (pl i k))
 rw[Bs]at D;exact D
theorem DN(ao F:GY)(c d n:Nat)(I:List Int)(x:Nat->Nat)(f:Nat->Int)(w:World)(K:ag w ao c I)(M:Bz w F d n (-2148) f)(N:I.length=n)(O:n<=8)(L:∀k,k<n->bg I k=x k)(D:∀k,ah (x k)=true)(G:∀k,k<n->ga (-2148) 4200 (f k)):
  GF 62 #[.slice ao n c,.slice F n d] w fun e t=>∃v,e=.returned v/\aN t v (-3222) (dN (fun i=>fZ (x i)*f i) n)/\H8 w t:=by
 have pl:∀k,k<n->ga (-3222) 6301 (fZ (x k)*f k):=fun k h=>(show ga (-3222) 6298 _ from⟨iU (j:=2098) (k:=4200) (V:=6298) (by decide) (ew _ (D k)) (G k h).1,by decide,by decide,by decide⟩).more (by decide) (by decide) (by decide)
 refine Hg ao F c d n I (-1074) (-2148) (-3222) (fun k=>fZ (x k)) f (fun k=>dN (fun i=>fZ (x i)*f i) k) w K M N O rfl
  (fun t k h=>?_) (fun t k v u h H J=>xl H J (OP _ (D k)) (G k h) (by decide)) (fun t k v u h H J=>tY H J ⟨kq (W:=6298) (V:=6301) (by decide) k (by omega) (fun l Q=>iU (j:=2098) (k:=4200) (V:=6298) (by decide) (ew _ (D l)) (G l (by omega)).1),by decide,by decide,by decide⟩ (pl k h))
 have:=ma (bg I k) t (K.lt k) (by rw[L k h];exact D k)
 rwa[L k h]at this⊢
theorem DO(r n c I L M:Nat)(ao N O:GY)(A X B:H3)(w:World)(Q:Mx w ao I r n A)(hX:Mx w N L n c X)(hB:Mx w O M r c B)(fA:∀x∈A,ah x=true)(fX:∀x∈X,ah x=true)(U:∀x∈B,ah x=true):
  GF 21 #[.agg #[C0 r,C0 n,.slice ao A.length I],.agg #[C0 n,C0 c,.slice N X.length L],.agg #[C0 r,C0 c,.slice O B.length M]] w fun e h=>∃v,e=.returned v/\aN h v (-6444) (KM r n c A X B)/\H8 w h:=by
 have r6:=Q.2.2.1;have n6:=Q.2.2.2;have c6:=hX.2.2.2;have H:∀j k,ga (-3222) 6301 (zL r n c A X B j k):=fun j k=>⟨zO r n c A X B j k (by omega) (by omega) fA fX U,by decide,by decide,by decide⟩
 have pl:∀j k,ga (-6444) 12609 (zL r n c A X B j k*zL r n c A X B j k):=fun j k=>(show ga (-6444) 12602 _ from⟨iU (j:=6301) (k:=6301) (V:=12602) (by decide) (H j k).1 (H j k).1,by decide,by decide,by decide⟩).more (by decide) (by decide) (by decide)
 have D:=Hh r n c A.length X.length B.length I L M ao N O (fun i k=>a8 c B i k) (fun i=>aX (uV n A i)) (fun k=>aX (OS n c X k)) (fun j=>aX (OS r n A j)) (-2148) (-3222) (-6444) (fun i k=>fZ (a8 c B i k)*2^1074) (fun i k=>Bq n (fun j=>a8 n A i j) (fun j=>a8 c X j k)) (fun i k=>Bq n (fun j=>a8 n A i j) (fun j=>a8 c X j k)-fZ (a8 c B i k)*2^1074) (fun j k=>zL r n c A X B j k) (fun k j=>DA (fun k j=>zL r n c A X B j k*zL r n c A X B j k) n k j) w r6 n6 c6 rfl (fun k=>(Br _ n k).symm)
  (fun h i t J=>xA r n I i ao A h (Q.below t) J)
  (fun h k t Z=>rT n c L k N X h (hX.below t) Z)
  (fun h i k ko kd yo yd _ _ hx hy=>BN ko yo kd yd n _ _ (fun j=>a8 n A i j) (fun j=>a8 c X j k) h hx hy (by rw[aC,mc]) (by rw[aC,u9]) (by omega) (fun j F=>BM n A i F) (fun j F=>ve n c X k F) (fun j=>de n A i j fA) (fun j=>de c X j k fX))
  (fun h i k t J Z=>uW r c M i k O B h (hB.below t) J Z)
  (fun h i k _ _=>(ma (a8 c B i k) h (hB.el_lt i k) (de c B i k U)).mono (by
   rintro e aa ⟨u,rfl,K,t⟩;refine⟨u,rfl,?_,t⟩;have:=K.lower 1074
   rwa[show(-1074:Int)-(1074:Nat)= -2148 by decide]at this))
  (fun h i k v u _ _ G K=>Mt G K (zV n (by omega) _ _ (fun l _=>de n A i l fA) (fun l _=>de c X l k fX)) (GV _ (de c B i k U)))
  (fun h j t F=>rT r n I j ao A h (Q.below t) F)
  (fun h j k ko kd yo yd _ _ hx hy=>DN ko yo kd yd r _ (fun i=>a8 n A i j) _ h hx hy (by rw[aC,u9]) (by omega) (fun i J=>ve r n A j J) (fun i=>de n A i j fA) (fun i _=>GW n c A X B i k n6 fA fX U))
  (fun h j k v _ _ G=>xl G G (H j k) (H j k) (by decide))
  (fun h j k v u F Z G K=>by
   rw[xt];exact tY G K ⟨Bu (W:=12602) (V:=12609) (by decide) c n k j (by omega) (by omega) (by omega) (by omega) (fun k j _=>iU (j:=6301) (k:=6301) (V:=12602) (by decide) (H j k).1 (H j k).1),by decide,by decide,by decide⟩ (pl j k))
 rw[Bs]at D;exact D
theorem Ah(J K:Bool)(ao L:GY)(M N O Q:Nat)(x y k:Int)(m1 e1 m2 e2 m3 I o:Int)(w:World)(hk:0<=k/\k<=200)
  (C1:∀l,H8 w l->GF 29 #[.agg #[.bool K,.slice L N Q,C0 y],C0 (-(2*k))] l fun r D=>∃q,r=.returned q/\aH D q m1 e1/\H8 l D)
  (C2:∀l v,aA 0 l v 1->GF 27 #[v,C0 (-4000)] l fun r D=>∃q,r=.returned q/\aH D q m2 e2/\H8 l D)
  (C3:∀l v u,aH l v m1 e1->aH l u m2 e2->GF 19 #[v,u] l fun r D=>∃q,r=.returned q/\aH D q m3 I/\H8 l D)
  (C4:∀l v,H8 w l->aH l v m3 I->BS 33 #[.agg #[.bool J,.slice ao M O,C0 x],v] l (C0 o)):
  BS 20 #[.agg #[.bool J,.slice ao M O,C0 x],.agg #[.bool K,.slice L N Q,C0 y],C0 k] w (.bool (decide (o<=0))):=by
 have F:=ac (DM.start w J K ao L M N O Q x y);have K1:=ac C1;have K2:=ac C2;have K3:=ac C3;have K4:=ac C4;have K5:=ac Qo;clear C1 C2 C3 C4;have y0:=(uH F).2.1.c0;have y1:=(uH F).2.1.c1;have y2:=(uH F).2.1.c2;have hj:IntKind.i64.wrap (-(2*k))= -(2*k):=bF _ (by omega)
 go_enter Tryz.func20,Tryz.ntmps20
 go_wp2_with fail;refine(uH K1 _ (uH F).2.2).mono ?_;rintro e w1 ⟨q,rfl,hq,h⟩;replace F:=ac ((uH F).all h);have G:=ac hq;clear h hq K1 y0 y1 y2;go_wp2_with fail;refine(uH K5 _).mono ?_;rintro e w2 ⟨v,rfl,hv,h⟩;replace F:=ac ((uH F).all h);replace G:=ac ((uH G).below h);have HV:=ac (hv.mono (Nat.zero_le _));clear h hv K5;go_wp2_with fail;refine(uH K2 _ _ (uH HV)).mono ?_;rintro e w3 ⟨u,rfl,hu,h⟩;replace F:=ac ((uH F).all h);replace G:=ac ((uH G).below h);have HU:=ac hu;clear h hu K2 HV;go_wp2_with fail;refine(uH K3 _ _ _ (uH G) (uH HU)).mono ?_;rintro e w4 ⟨t,rfl,Z,h⟩;obtain⟨n3,a3,c3,L3,rfl,i3⟩:=Z.num;generalize L3.length=l3 at*;have U:=ad w4 (.cells #[.bool n3,.slice a3 l3 c3,C0 I] 35);have H:=h.trans (U.mono h.size);replace F:=ac ((uH F).all H);have HT:=ac (Z.below U);have XT:=ac (ar.new w4 (.bool n3) (.slice a3 l3 c3) (C0 I));clear h Z K3 G HU U H i3;have x0:=(uH F).1.c0;have x1:=(uH F).1.c1;have x2:=(uH F).1.c2;go_wp2_with fail;refine(uH K4 _ _ (uH F).2.2 (uH HT)).mono ?_;rintro e w5 ⟨rfl,h⟩;clear x0 x1 x2;replace F:=ac ((uH F).all h);clear h K4
 go_wp2
 go_ret
 exact⟨rfl,(uH F).2.2⟩
theorem DP:(1:Int).natAbs<eE:=mK (k:=1) (by decide) (by decide)
theorem vf(r c:Int)(ao:GY)(cap:Nat)(I:List Int)(w:World)(J:ag w ao cap I)(K:I.length<=35184372088830):
  BS 16 #[.agg #[C0 r,C0 c,.slice ao I.length cap]] w (C0 (qm r c I)):=by
 have F:=ac (fun D=>rN r c ao I.length cap D);have H:=ac (fun D (h:ag D ao cap I)=>uS ao cap I D h K);have t:=ac (ad w (.cells #[C0 r,C0 c,.slice ao I.length cap] 24));have G:=ac (aE.new w (C0 r) (C0 c) (.slice ao I.length cap));have L:=ac J;unfold qm;generalize kx r c I.length=b at*;generalize iD I I.length=f at*;generalize I.length=n at*;clear J
 cases b
 ·clear H
  go_enter Tryz.func16,Tryz.ntmps16
  go_wp2_with fail;refine(uH F _).mono ?_;rintro e O ⟨rfl,l⟩;have M:=ac ((uH t).trans (l.mono (uH t).size));clear l F G
  go_wp2
  go_ret
  exact⟨rfl,uH M⟩
 ·cases f
  all_goals
   go_enter Tryz.func16,Tryz.ntmps16
   go_wp2_with fail;refine(uH F _).mono ?_;rintro e O ⟨rfl,l⟩;replace t:=ac ((uH t).trans (l.mono (uH t).size));replace G:=ac ((uH G).all l);clear l F;have N:=(uH G).c2;go_wp2_with fail;refine(uH H _ ((uH L).below (uH t))).mono ?_;rintro e Q ⟨rfl,l⟩;replace t:=ac ((uH t).trans (l.mono (uH t).size));clear l H N
   go_wp2
   go_ret
   exact⟨rfl,uH t⟩
theorem pz(r c:Int)(ao:GY)(cap:Nat)(I:List Int)(K:Int)(w:World)(J:ag w ao cap I)(M:I.length<=35184372088830)(L:-5000<=K/\K<=5000):
  BS 13 #[.agg #[C0 r,C0 c,.slice ao I.length cap],C0 K] w (.bool (kx r c I.length&&xj K I I.length)):=by
 have F:=ac (fun D=>rN r c ao I.length cap D);have H:=ac (fun D (h:ag D ao cap I)=>zJ ao cap I K D h M L);have t:=ac (ad w (.cells #[C0 r,C0 c,.slice ao I.length cap] 24));have G:=ac (aE.new w (C0 r) (C0 c) (.slice ao I.length cap));have N:=ac J;generalize kx r c I.length=b at*;generalize xj K I I.length=f at*;generalize I.length=n at*;clear J L
 cases b
 ·clear H
  go_enter Tryz.func13,Tryz.ntmps13
  go_wp2_with fail;refine(uH F _).mono ?_;rintro e U ⟨rfl,l⟩;have O:=ac ((uH t).trans (l.mono (uH t).size));clear l F G
  go_wp2
  go_ret
  exact⟨rfl,uH O⟩
 ·go_enter Tryz.func13,Tryz.ntmps13
  go_wp2_with fail;refine(uH F _).mono ?_;rintro e U ⟨rfl,l⟩;replace t:=ac ((uH t).trans (l.mono (uH t).size));replace G:=ac ((uH G).all l);clear l F;have Q:=(uH G).c2;go_wp2_with fail;refine(uH H _ ((uH N).below (uH t))).mono ?_;rintro e Z ⟨rfl,l⟩;replace t:=ac ((uH t).trans (l.mono (uH t).size));clear l H Q
  go_wp2
  go_ret
  exact⟨rfl,uH t⟩
theorem vg(r c:Int)(ao:GY)(n cap:Nat)(lo z:Int)(w:World)
  (C:∀l,H8 w l->GF 32 #[.slice ao n cap] l fun e H=>∃v,e=.returned v/\aN H v lo z/\H8 l H):
  GF 17 #[.agg #[C0 r,C0 c,.slice ao n cap]] w fun e l=>∃v,e=.returned v/\aN l v lo z/\H8 w l:=by
 obtain⟨Z,x1,bb⟩:=Lh w r c ao n cap;have O:=ac Z;have Q:=ac x1;have I:=ac bb;have K:=ac C;clear Z x1 bb C;have y2:=(uH O).c2
 go_enter Tryz.func17,Tryz.ntmps17
 go_wp2_with fail;refine(uH K _ (uH I)).mono ?_;rintro e w2 ⟨v,rfl,⟨D,F,G,N,rfl,i5⟩,t⟩;have U:aN w2 (.agg #[.bool D,.slice F N.length G,C0 (oE z lo)]) lo z:=⟨D,F,G,N,rfl,i5⟩;generalize N.length=L at*;generalize oE z lo=M at*;have h:=(uH Q).all t;have r0:=h.c0;have r1:=h.c1;have r2:=h.c2;have f0:=h.free 0;have f1:=h.free 1;have f2:=h.free 2;have J:=h.put (.bool D) (.slice F L G) (C0 M);have z0:=J.c0;have z1:=J.c1;have z2:=J.c2;have HV:=ac (aH.put3 U h (.bool D) (.slice F L G) (C0 M));have HB:=ac (aJ ((uH I).trans (t.mono (uH I).size)) (show w.heap.size<=w.heap.size+1 by omega) (.bool D) (.slice F L G) (C0 M));clear i5 U h J t I O Q K y2
 go_wp2
 exact bodyPost_ret (v:=.agg #[.bool D,.slice F L G,C0 M]) (by simp[results,Tryz.results17,go_sem,z0,z1,z2]) rfl ⟨_,rfl,uH HV,uH HB⟩
theorem Hj(S:H3):∀k,xk (aX S) k=dN (fun p=>fZ (S.getD p 0)*fZ (S.getD p 0)) k
 |0=>rfl
 |k+1=>by
  show xk (aX S) k+fZ (bg (aX S) k)*fZ (bg (aX S) k)=dN _ k+_;rw[Hj S k,fW]
theorem qp{I:List Int}:∀n,iD I n=true↔∀k,k<n->ah (bg I k)=true
 |0=>⟨fun _ k l=>by omega,fun _=>rfl⟩
 |n+1=>by
  show(iD I n&&ah (bg I n))=true↔_;rw[Bool.and_eq_true,qp n]
  constructor
  ·rintro⟨t,D⟩ k l
   by_cases e:k=n
   ·subst e;exact D
   ·exact t k (by omega)
  ·exact fun h=>⟨fun k l=>h k (by omega),h n (by omega)⟩
theorem LC{S:H3}(h:∀x∈S,ah x=true):iD (aX S) S.length=true:=(qp _).2 fun k l=>by
 rw[fW,List.getD_eq_getElem?_getD,List.getElem?_eq_getElem l];exact h _ (List.getElem_mem l)
theorem jB(r c cap:Nat)(ao:GY)(S:H3)(w:World)(h:Mx w ao cap r c S)(t:∀x∈S,ah x=true):
  GF 17 #[.agg #[C0 r,C0 c,.slice ao S.length cap]] w fun e l=>∃v,e=.returned v/\aN l v (-2148) (jy S)/\H8 w l:=by
 refine vg r c ao S.length cap (-2148) (jy S) w (fun l D=>?_);have:=s7 ao cap (aX S) l (h.1.below D) (by rw[aC];have:=h.small;omega) (by rw[aC];exact LC t);rw[aC,Hj]at this;exact this
end Go.Proofs.YtcbcmlaogehimaaGreatDoor
