/- Part 35 of the texts. -/
import Derived.Test.YtcbcmlaogehimaaGreatDoorPartu34
set_option maxHeartbeats 8000000
set_option maxRecDepth 20000
namespace Go.Proofs.YtcbcmlaogehimaaGreatDoor
open Go.RowKit
attribute [local go_sem ↓] Go.wp_at_zero Go.wp_at_succ
theorem xT(r c p q f:Int)(ao F:GY)(k cap m d n u:Nat)(M:H3)(w:World)
  (C1:∀t,H8 w t->GF 104 #[.agg #[C0 r,C0 c,.slice ao k cap],.agg #[C0 p,C0 q,.slice F m d],.func (.func 105) #[C0 r] #[],.func (.func 106) #[] #[]] t fun e G=>ov t G f n u M e/\H8 t G):
  GF 52 #[.agg #[C0 r,C0 c,.slice ao k cap],.agg #[C0 p,C0 q,.slice F m d]] w fun e t=>ov w t f n u M e/\H8 w t:=by
 have KB:=ac (dh w (C0 r) (C0 c) (.slice ao k cap) (C0 p) (C0 q) (.slice F m d) (C0 0) (C0 0) (.slice none 0 0));obtain⟨b0,O,Q,x2⟩:=uH KB _ (by have:=Below.refl (((w.alloc (.cells #[C0 r,C0 c,.slice ao k cap] 24)).alloc (.cells #[C0 p,C0 q,.slice F m d] 24)).alloc (.cells #[C0 0,C0 0,.slice none 0 0] 24)).heap.size (((w.alloc (.cells #[C0 r,C0 c,.slice ao k cap] 24)).alloc (.cells #[C0 p,C0 q,.slice F m d] 24)).alloc (.cells #[C0 0,C0 0,.slice none 0 0] 24));simpa only[an]using this);have K1:=ac (C1 _ b0);have D:=ac b0;have N:=ac x2;have y0:=O.c0;have y1:=O.c1;have y2:=O.c2;have u0:=Q.c0;have u1:=Q.c1;have u2:=Q.c2;clear C1 KB b0 O Q x2
 go_enter Tryz.func52,Tryz.ntmps52
 go_wp2_with fail;clear y0 y1 y2 u0 u1 u2;refine(uH K1).mono ?_;rintro e w1 ⟨H,hb⟩;replace N:=ac ((uH N).all hb);have U:=ac (uH D).size;replace D:=ac ((uH D).trans (hb.mono (uH D).size));clear hb K1;rcases H with⟨rfl,I,J,rfl,hn,hq,hl,K⟩|⟨K,rfl⟩
 ·have HN:=ac (hn.least (uH U))
  have HQ:=ac hq;have HL:=ac hl;have Z:=ac K;obtain⟨L,hL⟩:∃L,n*u=L:=⟨_,rfl⟩;rw[hL];have EL:=ac hL;have h:=uH N;have f0:=h.free 0;have f1:=h.free 1;have f2:=h.free 2;have s0:=h.c0;have s1:=h.c1;have s2:=h.c2;have l:=h.put (C0 n) (C0 u) (.slice I L J);have z0:=l.c0;have z1:=l.c1;have z2:=l.c2;have BP:=ac (az (uH D) (b:=w.heap.size+1+1) (by omega) (C0 n) (C0 u) (.slice I L J));have QP:=ac ((uH HQ).putM h (C0 n) (C0 u) (.slice I L J));clear l h hn hq hl K hL;go_wp2_with fail;exact bodyPost_ret (v:=.tuple #[.agg #[C0 n,C0 u,.slice I L J],C0 0]) (by simp[results,Tryz.results52,go_sem,z0,z1,z2]) rfl ⟨.inl ⟨rfl,I,J,by rw[uH EL],uH HN,uH QP,uH HL,uH Z⟩,uH BP⟩
 ·have h:=uH N
  have f0:=h.free 0;have f1:=h.free 1;have f2:=h.free 2;have s0:=h.c0;have s1:=h.c1;have s2:=h.c2;have l:=h.put (C0 0) (C0 0) (.slice none 0 0);have z0:=l.c0;have z1:=l.c1;have z2:=l.c2;have BP:=ac (az (uH D) (b:=w.heap.size+1+1) (by omega) (C0 0) (C0 0) (.slice none 0 0));have Z:=ac K;clear l h K;go_wp2_with fail;exact bodyPost_ret (v:=.tuple #[.agg #[C0 0,C0 0,.slice none 0 0],C0 f]) (by simp[results,Tryz.results52,go_sem,z0,z1,z2]) rfl ⟨.inr ⟨uH Z,rfl⟩,uH BP⟩
theorem Hz(n q t D:Nat)(F G:GY)(T B:H3)(w:World)(I:Mx w F t n n T)(J:Mx w G D n q B)(K:cF T=true)(L:cF B=true)(l:cX w):
  GF 52 #[.agg #[C0 n,C0 n,.slice F T.length t],.agg #[C0 n,C0 q,.slice G B.length D]] w fun e h=>ov w h (O9 n T (LW n q T B)) n q (LW n q T B) e/\H8 w h:=
 xT n n n q (O9 n T (LW n q T B)) F G T.length t B.length D n q (LW n q T B) w (fun h H=>D8 n q t D 105 106 F G T B (fun m=>n-1-m) Hw h (I.below H) (J.below H) K L (Ht n) O8 Qr (fun h m M=>vp n m h I.2.2.1 M) (fun h i k _ _=>LY i k h) (l.all H))
theorem H6(r c p q:Int)(ao l:GY)(cap d:Nat)(I J:List Int)(w:World)(G:ag w ao cap I)(H:ag w l d J)(K:I.length<=35184372088830)(L:J.length<=35184372088830)(h:pD r c p q I J≠0):
  GF 52 #[.agg #[C0 r,C0 c,.slice ao I.length cap],.agg #[C0 p,C0 q,.slice l J.length d]] w fun e t=>ov w t (pD r c p q I J) 0 0 [] e/\H8 w t:=
 xT r c p q (pD r c p q I J) ao l I.length cap J.length d 0 0 [] w (fun t F=>(D9 r c p q ao l cap d I J _ _ t (G.below F) (H.below F) K L h).mono (by
  rintro e M ⟨rfl,D⟩;exact⟨.inr ⟨h,rfl⟩,D⟩))
theorem MT(D:H3):mv (aX D) D.length=bT 0 D:=by
 have:=oc (aX D)
 rwa[aC,iV]at this
theorem xU(D:H3):bT 0 D<18446744073709551616:=by
 rw[<-MT];exact rH _ _
theorem Ma(a:Nat):fR a<18446744073709551616:=by unfold fR;omega
theorem H7(r c cap:Nat)(ao:GY)(S:H3)(w:World)(h:Mx w ao cap r c S)(J:cF S=true)(K:cX w):
  BS 50 #[.agg #[C0 r,C0 c,.slice ao S.length cap]] w (.tuple #[.bool (Aq r c S),C0 0]):=by
 have M:=h.small;have Q:=h.2.2.1;have D:(gI r c S).length=min r c:=vk r c S;refine L8 r c S.length cap (min r c) (bT 0 (gI r c S)) (xV (bT 0 (gI r c S)) (-40)) ao (gI r c S) (Aq r c S) w (fun l t=>?_) (fun l t=>ou r c cap (min r c) ao S l (h.below t) rfl) (fun l g t F=>?_) (fun l t=>mU _ (-40) l (xU _) (K.all t)) (fun l g b t F L=>?_)
 ·have:=ks r c ao cap (aX S) l (h.1.below t) (by rw[aC];omega)
  rw[aC,sf h J]at this;exact this
 ·have:=fw (some ⟨g,0,none⟩) (min r c) (aX (gI r c S)) l (o6 F D (si h)) (by rw[aC,D];omega)
  rw[aC,MT,D]at this;exact this
 ·refine ud 100 #[.pointer (some ⟨b,0,none⟩)] (some ⟨g,0,none⟩) (min r c) (min r c) (gI r c S) (fun x=>!Qq (xV (bT 0 (gI r c S)) (-40)) (fR x)) l D (by omega) (o6 F D (si h)) LZ (fun G k H O=>?_)
  have N:=xS (si h) k;exact Hy _ _ (fR ((gI r c S).getD k 0)) b (Qq (xV (bT 0 (gI r c S)) (-40)) (fR ((gI r c S).getD k 0))) G (ay L H) (fun I _=>rl _ I N) (fun I _=>Ax _ _ I (Bb _ _ (xU _)) (Ma _))
theorem Pu(r c p q er:Int)(t D F G:Nat)(H I:GY)(w:World)(U:er=1\/er=4)
  (C1:∀l,H8 w l->BS 48 #[.agg #[C0 r,C0 c,.slice H t D],.agg #[C0 p,C0 q,.slice I F G]] l (C0 er)):
  BS 15 #[.agg #[C0 r,C0 c,.slice H t D],.agg #[C0 p,C0 q,.slice I F G]] w (.tuple #[.agg #[C0 0,C0 0,.slice none 0 0],C0 er]):=by
 have KB:=ac (dh w (C0 r) (C0 c) (.slice H t D) (C0 p) (C0 q) (.slice I F G) (C0 0) (C0 0) (.slice none 0 0));obtain⟨b0,L,M,x2⟩:=uH KB _ (by have:=Below.refl (((w.alloc (.cells #[C0 r,C0 c,.slice H t D] 24)).alloc (.cells #[C0 p,C0 q,.slice I F G] 24)).alloc (.cells #[C0 0,C0 0,.slice none 0 0] 24)).heap.size (((w.alloc (.cells #[C0 r,C0 c,.slice H t D] 24)).alloc (.cells #[C0 p,C0 q,.slice I F G] 24)).alloc (.cells #[C0 0,C0 0,.slice none 0 0] 24));simpa only[an]using this);have K1:=ac (C1 _ b0);have O:=ac b0;have J:=ac L;have K:=ac M;have HR:=ac x2;have y0:=L.c0;have y1:=L.c1;have y2:=L.c2;have u0:=M.c0;have u1:=M.c1;have u2:=M.c2;clear C1 KB b0 L M x2;rcases U with rfl|rfl
 all_goals
  go_enter Tryz.func15,Tryz.ntmps15
  go_wp2_with fail;clear y0 y1 y2 u0 u1 u2;refine(uH K1).mono ?_;rintro e w1 ⟨rfl,N⟩;replace J:=ac ((uH J).all N);replace K:=ac ((uH K).all N);replace HR:=ac ((uH HR).all N);replace O:=ac ((uH O).trans (N.mono (uH O).size));clear N K1;have y0:=(uH J).c0;have y1:=(uH J).c1;have y2:=(uH J).c2;have u0:=(uH K).c0;have u1:=(uH K).c1;have u2:=(uH K).c2;clear y0 y1 y2 u0 u1 u2;have h:=uH HR;have f0:=h.free 0;have f1:=h.free 1;have f2:=h.free 2;have s0:=h.c0;have s1:=h.c1;have s2:=h.c2;have Q:=h.put (C0 0) (C0 0) (.slice none 0 0);have z0:=Q.c0;have z1:=Q.c1;have z2:=Q.c2;have BP:=ac (az (uH O) (b:=w.heap.size+1+1) (by omega) (C0 0) (C0 0) (.slice none 0 0));clear Q h;go_wp2_with fail;exact bodyPost_ret (v:=.tuple #[.agg #[C0 0,C0 0,.slice none 0 0],C0 _]) (by simp[results,Tryz.results15,go_sem,z0,z1,z2]) rfl ⟨rfl,uH BP⟩
theorem xW(r c p q:Int)(L M N O:Nat)(Q U:GY)(w:World)(F:r<c\/(¬r<c/\¬r=p))
  (C1:∀J,H8 w J->BS 48 #[.agg #[C0 r,C0 c,.slice Q L M],.agg #[C0 p,C0 q,.slice U N O]] J (C0 0)):
  BS 15 #[.agg #[C0 r,C0 c,.slice Q L M],.agg #[C0 p,C0 q,.slice U N O]] w (.tuple #[.agg #[C0 0,C0 0,.slice none 0 0],C0 3]):=by
 have KB:=ac (dh w (C0 r) (C0 c) (.slice Q L M) (C0 p) (C0 q) (.slice U N O) (C0 0) (C0 0) (.slice none 0 0));obtain⟨b0,Z,x1,x2⟩:=uH KB _ (by have:=Below.refl (((w.alloc (.cells #[C0 r,C0 c,.slice Q L M] 24)).alloc (.cells #[C0 p,C0 q,.slice U N O] 24)).alloc (.cells #[C0 0,C0 0,.slice none 0 0] 24)).heap.size (((w.alloc (.cells #[C0 r,C0 c,.slice Q L M] 24)).alloc (.cells #[C0 p,C0 q,.slice U N O] 24)).alloc (.cells #[C0 0,C0 0,.slice none 0 0] 24));simpa only[an]using this);have K1:=ac (C1 _ b0);have H:=ac b0;have t:=ac Z;have D:=ac x1;have K:=ac x2;have y0:=Z.c0;have y1:=Z.c1;have y2:=Z.c2;have u0:=x1.c0;have u1:=x1.c1;have u2:=x1.c2;clear C1 KB b0 Z x1 x2;have I:¬r<c->¬r=p->(r != p)=true:=fun _ e=>bne_iff_ne.2 e
 rcases F with F|⟨F,aa⟩
 ·clear I
  go_enter Tryz.func15,Tryz.ntmps15
  go_wp2_with fail;clear y0 y1 y2 u0 u1 u2;refine(uH K1).mono ?_;rintro e w1 ⟨rfl,l⟩;replace t:=ac ((uH t).all l);replace D:=ac ((uH D).all l);replace K:=ac ((uH K).all l);replace H:=ac ((uH H).trans (l.mono (uH H).size));clear l K1;have y0:=(uH t).c0;have y1:=(uH t).c1;have y2:=(uH t).c2;have u0:=(uH D).c0;have u1:=(uH D).c1;have u2:=(uH D).c2;have h:=uH K;have f0:=h.free 0;have f1:=h.free 1;have f2:=h.free 2;have s0:=h.c0;have s1:=h.c1;have s2:=h.c2;have G:=h.put (C0 0) (C0 0) (.slice none 0 0);have z0:=G.c0;have z1:=G.c1;have z2:=G.c2;have BP:=ac (az (uH H) (b:=w.heap.size+1+1) (by omega) (C0 0) (C0 0) (.slice none 0 0));clear G h;go_wp2_with fail;exact bodyPost_ret (v:=.tuple #[.agg #[C0 0,C0 0,.slice none 0 0],C0 3]) (by simp[results,Tryz.results15,go_sem,z0,z1,z2]) rfl ⟨rfl,uH BP⟩
 ·replace I:=I F aa
  go_enter Tryz.func15,Tryz.ntmps15
  go_wp2_with fail;clear y0 y1 y2 u0 u1 u2;refine(uH K1).mono ?_;rintro e w1 ⟨rfl,l⟩;replace t:=ac ((uH t).all l);replace D:=ac ((uH D).all l);replace K:=ac ((uH K).all l);replace H:=ac ((uH H).trans (l.mono (uH H).size));clear l K1;have y0:=(uH t).c0;have y1:=(uH t).c1;have y2:=(uH t).c2;have u0:=(uH D).c0;have u1:=(uH D).c1;have u2:=(uH D).c2;have h:=uH K;have f0:=h.free 0;have f1:=h.free 1;have f2:=h.free 2;have s0:=h.c0;have s1:=h.c1;have s2:=h.c2;have G:=h.put (C0 0) (C0 0) (.slice none 0 0);have z0:=G.c0;have z1:=G.c1;have z2:=G.c2;have BP:=ac (az (uH H) (b:=w.heap.size+1+1) (by omega) (C0 0) (C0 0) (.slice none 0 0));clear G h;go_wp2_with fail;exact bodyPost_ret (v:=.tuple #[.agg #[C0 0,C0 0,.slice none 0 0],C0 3]) (by simp[results,Tryz.results15,go_sem,z0,z1,z2]) rfl ⟨rfl,uH BP⟩
theorem xX(r c q:Int)(J K N O:Nat)(L Q:GY)(w:World)(aa:¬r<c)
  (C1:∀l,H8 w l->BS 48 #[.agg #[C0 r,C0 c,.slice L J K],.agg #[C0 r,C0 q,.slice Q N O]] l (C0 0))
  (C2:∀l,H8 w l->GF 49 #[.agg #[C0 r,C0 c,.slice L J K]] l fun e G=>∃(a1 a2 b1 b2:Int) (so vo:GY) (sn sd vn vd:Nat),e=.returned (.tuple #[.agg #[C0 a1,C0 a2,.slice so sn sd],.agg #[C0 b1,C0 b2,.slice vo vn vd],C0 2])/\H8 l G):
  BS 15 #[.agg #[C0 r,C0 c,.slice L J K],.agg #[C0 r,C0 q,.slice Q N O]] w (.tuple #[.agg #[C0 0,C0 0,.slice none 0 0],C0 2]):=by
 have KB:=ac (dh w (C0 r) (C0 c) (.slice L J K) (C0 r) (C0 q) (.slice Q N O) (C0 0) (C0 0) (.slice none 0 0));obtain⟨b0,U,Z,x2⟩:=uH KB _ (by have:=Below.refl (((w.alloc (.cells #[C0 r,C0 c,.slice L J K] 24)).alloc (.cells #[C0 r,C0 q,.slice Q N O] 24)).alloc (.cells #[C0 0,C0 0,.slice none 0 0] 24)).heap.size (((w.alloc (.cells #[C0 r,C0 c,.slice L J K] 24)).alloc (.cells #[C0 r,C0 q,.slice Q N O] 24)).alloc (.cells #[C0 0,C0 0,.slice none 0 0] 24));simpa only[an]using this);have K1:=ac (C1 _ b0);have h:=ac b0;have M:=ac U;have D:=ac Z;have H:=ac x2;have K2:=ac C2;have y0:=U.c0;have y1:=U.c1;have y2:=U.c2;have u0:=Z.c0;have u1:=Z.c1;have u2:=Z.c2;clear C2 C1 KB b0 U Z x2
 go_enter Tryz.func15,Tryz.ntmps15
 go_wp2_with fail;clear y0 y1 y2 u0 u1 u2;refine(uH K1).mono ?_;rintro e w1 ⟨rfl,t⟩;replace M:=ac ((uH M).all t);replace D:=ac ((uH D).all t);replace H:=ac ((uH H).all t);replace h:=ac ((uH h).trans (t.mono (uH h).size));clear t K1;have y0:=(uH M).c0;have y1:=(uH M).c1;have y2:=(uH M).c2;have u0:=(uH D).c0;have u1:=(uH D).c1;have u2:=(uH D).c2;go_wp2_with fail;clear y0 y1 y2 u0 u1 u2;refine(uH K2 _ (uH h)).mono ?_;rintro e w2 ⟨a1,a2,b1,b2,so,vo,sn,sd,vn,vd,rfl,t⟩;replace D:=ac ((uH D).all t);replace H:=ac ((uH H).all t);replace h:=ac ((uH h).trans (t.mono (uH h).size));clear t K2;have ba:=ad w2 (.cells #[C0 a1,C0 a2,.slice so sn sd] 24);have I:=ad (w2.alloc (.cells #[C0 a1,C0 a2,.slice so sn sd] 24)) (.cells #[C0 b1,C0 b2,.slice vo vn vd] 24);replace H:=ac (((uH H).all ba).all I);replace h:=ac (((uH h).trans (ba.mono (uH h).size)).trans (I.mono ((uH h).trans (ba.mono (uH h).size)).size));clear ba I M D;have F:=uH H;have f0:=F.free 0;have f1:=F.free 1;have f2:=F.free 2;have s0:=F.c0;have s1:=F.c1;have s2:=F.c2;have XP:=F.put (C0 0) (C0 0) (.slice none 0 0);have z0:=XP.c0;have z1:=XP.c1;have z2:=XP.c2;have BP:=ac (az (uH h) (b:=w.heap.size+1+1) (by omega) (C0 0) (C0 0) (.slice none 0 0));clear XP F;go_wp2_with fail;exact bodyPost_ret (v:=.tuple #[.agg #[C0 0,C0 0,.slice none 0 0],C0 2]) (by simp[results,Tryz.results15,go_sem,z0,z1,z2]) rfl ⟨rfl,uH BP⟩
theorem Ay(r c q:Int)(Q U bn bc Z vn:Nat)(S V:H3)(tq bo:GY)(w:World)(ae:¬r<c)
  (C1:∀l,H8 w l->BS 48 #[.agg #[C0 r,C0 c,.slice tq Q U],.agg #[C0 r,C0 q,.slice bo bn bc]] l (C0 0))
  (C2:∀l,H8 w l->GF 49 #[.agg #[C0 r,C0 c,.slice tq Q U]] l fun e D=>∃L M I J,e=.returned (.tuple #[.agg #[C0 r,C0 c,.slice L Z M],.agg #[C0 c,C0 c,.slice I vn J],C0 0])/\ag D L M (aX S)/\ag D I J (aX V)/\H8 l D)
  (C3:∀l I J,H8 w l->ag l I J (aX V)->BS 50 #[.agg #[C0 c,C0 c,.slice I vn J]] l (.tuple #[.bool true,C0 0])):
  BS 15 #[.agg #[C0 r,C0 c,.slice tq Q U],.agg #[C0 r,C0 q,.slice bo bn bc]] w (.tuple #[.agg #[C0 0,C0 0,.slice none 0 0],C0 5]):=by
 have KB:=ac (dh w (C0 r) (C0 c) (.slice tq Q U) (C0 r) (C0 q) (.slice bo bn bc) (C0 0) (C0 0) (.slice none 0 0));obtain⟨b0,x0,x1,x2⟩:=uH KB _ (by have:=Below.refl (((w.alloc (.cells #[C0 r,C0 c,.slice tq Q U] 24)).alloc (.cells #[C0 r,C0 q,.slice bo bn bc] 24)).alloc (.cells #[C0 0,C0 0,.slice none 0 0] 24)).heap.size (((w.alloc (.cells #[C0 r,C0 c,.slice tq Q U] 24)).alloc (.cells #[C0 r,C0 q,.slice bo bn bc] 24)).alloc (.cells #[C0 0,C0 0,.slice none 0 0] 24));simpa only[an]using this);have K1:=ac (C1 _ b0);have t:=ac b0;have HT:=ac x0;have G:=ac x1;have K:=ac x2;have K2:=ac C2;have K3:=ac C3;have y0:=x0.c0;have y1:=x0.c1;have y2:=x0.c2;have u0:=x1.c0;have u1:=x1.c1;have u2:=x1.c2;clear C3 C2 C1 KB b0 x0 x1 x2
 go_enter Tryz.func15,Tryz.ntmps15
 go_wp2_with fail;clear y0 y1 y2 u0 u1 u2;refine(uH K1).mono ?_;rintro e w1 ⟨rfl,h⟩;replace HT:=ac ((uH HT).all h);replace G:=ac ((uH G).all h);replace K:=ac ((uH K).all h);replace t:=ac ((uH t).trans (h.mono (uH t).size));clear h K1;have y0:=(uH HT).c0;have y1:=(uH HT).c1;have y2:=(uH HT).c2;have u0:=(uH G).c0;have u1:=(uH G).c1;have u2:=(uH G).c2;go_wp2_with fail;clear y0 y1 y2 u0 u1 u2;refine(uH K2 _ (uH t)).mono ?_;rintro e w2 ⟨L,M,I,J,rfl,hs,hv,h⟩;replace G:=ac ((uH G).all h);replace K:=ac ((uH K).all h);replace t:=ac ((uH t).trans (h.mono (uH t).size));have O:=ad w2 (.cells #[C0 r,C0 c,.slice L Z M] 24);have sa:=an w2 (.cells #[C0 r,C0 c,.slice L Z M] 24);have xs:=aE.new w2 (C0 r) (C0 c) (.slice L Z M);have F:=ad (w2.alloc (.cells #[C0 r,C0 c,.slice L Z M] 24)) (.cells #[C0 c,C0 c,.slice I vn J] 24);have xv:=aE.new (w2.alloc (.cells #[C0 r,C0 c,.slice L Z M] 24)) (C0 c) (C0 c) (.slice I vn J);rw[sa]at xv;have HS:=ac ((hs.below O).below F);have HV:=ac ((hv.below O).below F);have aa:=ac (xs.all F);have H:=ac xv;replace G:=ac (((uH G).all O).all F);replace K:=ac (((uH K).all O).all F);replace t:=ac (((uH t).trans (O.mono (uH t).size)).trans (F.mono ((uH t).trans (O.mono (uH t).size)).size));clear h K2 O F sa xs xv hs hv HT;have v0:=(uH H).c0;have v1:=(uH H).c1;have v2:=(uH H).c2;go_wp2_with fail;clear v0 v1 v2;refine(uH K3 _ I J (uH t) (uH HV)).mono ?_;rintro e w3 ⟨rfl,h⟩;replace G:=ac ((uH G).all h);replace K:=ac ((uH K).all h);replace aa:=ac ((uH aa).all h);replace H:=ac ((uH H).all h);replace HS:=ac ((uH HS).below h);replace HV:=ac ((uH HV).below h);replace t:=ac ((uH t).trans (h.mono (uH t).size));clear h K3;have N:=uH K;have f0:=N.free 0;have f1:=N.free 1;have f2:=N.free 2;have s0:=N.c0;have s1:=N.c1;have s2:=N.c2;have XP:=N.put (C0 0) (C0 0) (.slice none 0 0);have z0:=XP.c0;have z1:=XP.c1;have z2:=XP.c2;have BP:=ac (az (uH t) (b:=w.heap.size+1+1) (by omega) (C0 0) (C0 0) (.slice none 0 0));clear XP N;go_wp2_with fail;exact bodyPost_ret (v:=.tuple #[.agg #[C0 0,C0 0,.slice none 0 0],C0 5]) (by simp[results,Tryz.results15,go_sem,z0,z1,z2]) rfl ⟨rfl,uH BP⟩
theorem H9(r c q f:Int)(tn tc bn bc sn vn yn m u:Nat)(S V Y M:H3)(tq bo:GY)(w:World)(ap:¬r<c)
  (C1:∀h,H8 w h->BS 48 #[.agg #[C0 r,C0 c,.slice tq tn tc],.agg #[C0 r,C0 q,.slice bo bn bc]] h (C0 0))
  (C2:∀h,H8 w h->GF 49 #[.agg #[C0 r,C0 c,.slice tq tn tc]] h fun e D=>∃U Z N O,e=.returned (.tuple #[.agg #[C0 r,C0 c,.slice U sn Z],.agg #[C0 c,C0 c,.slice N vn O],C0 0])/\ag D U Z (aX S)/\ag D N O (aX V)/\H8 h D)
  (C3:∀h N O,H8 w h->ag h N O (aX V)->BS 50 #[.agg #[C0 c,C0 c,.slice N vn O]] h (.tuple #[.bool false,C0 0]))
  (C4:∀h U Z,H8 w h->ag h U Z (aX S)->GF 51 #[.agg #[C0 r,C0 c,.slice U sn Z],.agg #[C0 r,C0 q,.slice bo bn bc]] h fun e D=>∃yo yd,e=.returned (.tuple #[.agg #[C0 c,C0 q,.slice yo yn yd],C0 0])/\ag D yo yd (aX Y)/\H8 h D)
  (C5:∀h N O yo yd,H8 w h->ag h N O (aX V)->ag h yo yd (aX Y)->GF 52 #[.agg #[C0 c,C0 c,.slice N vn O],.agg #[C0 c,C0 q,.slice yo yn yd]] h fun e D=>ov h D f m u M e/\H8 h D):
  GF 15 #[.agg #[C0 r,C0 c,.slice tq tn tc],.agg #[C0 r,C0 q,.slice bo bn bc]] w fun e h=>ov w h f m u M e/\H8 w h:=by
 have KB:=ac (dh w (C0 r) (C0 c) (.slice tq tn tc) (C0 r) (C0 q) (.slice bo bn bc) (C0 0) (C0 0) (.slice none 0 0));obtain⟨b0,x0,x1,x2⟩:=uH KB _ (by have:=Below.refl (((w.alloc (.cells #[C0 r,C0 c,.slice tq tn tc] 24)).alloc (.cells #[C0 r,C0 q,.slice bo bn bc] 24)).alloc (.cells #[C0 0,C0 0,.slice none 0 0] 24)).heap.size (((w.alloc (.cells #[C0 r,C0 c,.slice tq tn tc] 24)).alloc (.cells #[C0 r,C0 q,.slice bo bn bc] 24)).alloc (.cells #[C0 0,C0 0,.slice none 0 0] 24));simpa only[an]using this);have K1:=ac (C1 _ b0);have t:=ac b0;have HT:=ac x0;have H:=ac x1;have J:=ac x2;have K2:=ac C2;have K3:=ac C3;have K4:=ac C4;have K5:=ac C5;have y0:=x0.c0;have y1:=x0.c1;have y2:=x0.c2;have u0:=x1.c0;have u1:=x1.c1;have u2:=x1.c2;clear C5 C4 C3 C2 C1 KB b0 x0 x1 x2
 go_enter Tryz.func15,Tryz.ntmps15
 go_wp2_with fail;clear y0 y1 y2 u0 u1 u2;refine(uH K1).mono ?_;rintro e w1 ⟨rfl,l⟩;replace HT:=ac ((uH HT).all l);replace H:=ac ((uH H).all l);replace J:=ac ((uH J).all l);replace t:=ac ((uH t).trans (l.mono (uH t).size));clear l K1;have y0:=(uH HT).c0;have y1:=(uH HT).c1;have y2:=(uH HT).c2;have u0:=(uH H).c0;have u1:=(uH H).c1;have u2:=(uH H).c2;go_wp2_with fail;clear y0 y1 y2 u0 u1 u2;refine(uH K2 _ (uH t)).mono ?_;rintro e w2 ⟨U,Z,N,O,rfl,hs,hv,l⟩;replace H:=ac ((uH H).all l);replace J:=ac ((uH J).all l);replace t:=ac ((uH t).trans (l.mono (uH t).size));have K:=ad w2 (.cells #[C0 r,C0 c,.slice U sn Z] 24);have sa:=an w2 (.cells #[C0 r,C0 c,.slice U sn Z] 24);have xs:=aE.new w2 (C0 r) (C0 c) (.slice U sn Z);have I:=ad (w2.alloc (.cells #[C0 r,C0 c,.slice U sn Z] 24)) (.cells #[C0 c,C0 c,.slice N vn O] 24);have xv:=aE.new (w2.alloc (.cells #[C0 r,C0 c,.slice U sn Z] 24)) (C0 c) (C0 c) (.slice N vn O);rw[sa]at xv;have HS:=ac ((hs.below K).below I);have HV:=ac ((hv.below K).below I);have Q:=ac (xs.all I);have F:=ac xv;replace H:=ac (((uH H).all K).all I);replace J:=ac (((uH J).all K).all I);replace t:=ac (((uH t).trans (K.mono (uH t).size)).trans (I.mono ((uH t).trans (K.mono (uH t).size)).size));clear l K2 K I sa xs xv hs hv HT;have v0:=(uH F).c0;have v1:=(uH F).c1;have v2:=(uH F).c2;go_wp2_with fail;clear v0 v1 v2;refine(uH K3 _ N O (uH t) (uH HV)).mono ?_;rintro e w3 ⟨rfl,l⟩;replace H:=ac ((uH H).all l);replace J:=ac ((uH J).all l);replace Q:=ac ((uH Q).all l);replace F:=ac ((uH F).all l);replace HS:=ac ((uH HS).below l);replace HV:=ac ((uH HV).below l);replace t:=ac ((uH t).trans (l.mono (uH t).size));clear l K3;have v0:=(uH Q).c0;have v1:=(uH Q).c1;have v2:=(uH Q).c2;have u0:=(uH H).c0;have u1:=(uH H).c1;have u2:=(uH H).c2;go_wp2_with fail;clear v0 v1 v2 u0 u1 u2;refine(uH K4 _ U Z (uH t) (uH HS)).mono ?_;rintro e w4 ⟨yo,yd,rfl,hy,l⟩;have K:=ad w4 (.cells #[C0 c,C0 q,.slice yo yn yd] 24);have HY:=ac (hy.below K);have aa:=ac (aE.new w4 (C0 c) (C0 q) (.slice yo yn yd));replace J:=ac (((uH J).all l).all K);replace F:=ac (((uH F).all l).all K);replace HV:=ac (((uH HV).below l).below K);replace t:=ac (((uH t).trans (l.mono (uH t).size)).trans (K.mono ((uH t).trans (l.mono (uH t).size)).size));clear l K hy K4 H Q HS;have v0:=(uH F).c0;have v1:=(uH F).c1;have v2:=(uH F).c2;have u0:=(uH aa).c0;have u1:=(uH aa).c1;have u2:=(uH aa).c2;go_wp2_with fail;clear v0 v1 v2 u0 u1 u2;refine(uH K5 _ N O yo yd (uH t) (uH HV) (uH HY)).mono ?_;rintro e w5 ⟨ae,l⟩;replace J:=ac ((uH J).all l);have am:=ac (uH t).size;replace t:=ac ((uH t).trans (l.mono (uH t).size));clear l K5 F aa HV HY;rcases ae with⟨rfl,xo,xc,rfl,hn,hq,hl,hf⟩|⟨hf,rfl⟩
 ·have HN:=ac (hn.least (uH am))
  have HQ:=ac hq;have HL:=ac hl;have HF:=ac hf;obtain⟨L,hL⟩:∃L,m*u=L:=⟨_,rfl⟩;rw[hL];have EL:=ac hL;have G:=uH J;have f0:=G.free 0;have f1:=G.free 1;have f2:=G.free 2;have s0:=G.c0;have s1:=G.c1;have s2:=G.c2;have XP:=G.put (C0 m) (C0 u) (.slice xo L xc);have z0:=XP.c0;have z1:=XP.c1;have z2:=XP.c2;have BP:=ac (az (uH t) (b:=w.heap.size+1+1) (by omega) (C0 m) (C0 u) (.slice xo L xc));have QP:=ac ((uH HQ).putM G (C0 m) (C0 u) (.slice xo L xc));clear XP G hn hq hl hf hL;go_wp2_with fail;exact bodyPost_ret (v:=.tuple #[.agg #[C0 m,C0 u,.slice xo L xc],C0 0]) (by simp[results,Tryz.results15,go_sem,z0,z1,z2]) rfl ⟨.inl ⟨rfl,xo,xc,by rw[uH EL],uH HN,uH QP,uH HL,uH HF⟩,uH BP⟩
 ·have G:=uH J
  have f0:=G.free 0;have f1:=G.free 1;have f2:=G.free 2;have s0:=G.c0;have s1:=G.c1;have s2:=G.c2;have XP:=G.put (C0 0) (C0 0) (.slice none 0 0);have z0:=XP.c0;have z1:=XP.c1;have z2:=XP.c2;have BP:=ac (az (uH t) (b:=w.heap.size+1+1) (by omega) (C0 0) (C0 0) (.slice none 0 0));have HF:=ac hf;clear XP G hf;go_wp2_with fail;exact bodyPost_ret (v:=.tuple #[.agg #[C0 0,C0 0,.slice none 0 0],C0 f]) (by simp[results,Tryz.results15,go_sem,z0,z1,z2]) rfl ⟨.inr ⟨uH HF,rfl⟩,uH BP⟩
theorem Qs{n:Nat}{T:H3}(h:∀i,i<n->fK (a8 n T i i)≠0):O7 (gI n n T)=false:=by
 unfold O7 gI;rw[List.any_eq_false];intro x t;obtain⟨i,l,rfl⟩:=List.mem_map.1 t;have:=List.mem_range.1 l
 simpa using h i (by omega)
theorem sj(w:World)(a:Nat)(t:a<18446744073709551616):ag (w.alloc (.cells #[CI (a:Nat)] 69)) (some ⟨w.heap.size,0,none⟩) 1 [(a:Int)]:=by
 have h:bS (w.alloc (.cells #[CI (a:Nat)] 69)) w.heap.size [a]:=heap_alloc_new w _;exact h.bits (fun x l=>by simp at l;subst l;exact t)
theorem Ia{S:H3}{r n:Nat}(l:S.length=r*n)(h:cF S=true){i k p q:Nat}(H:i+p<=r)(I:k+q<=n):cF (t5 n S i k p q)=true:=by
 rw[jh]at h⊢;rw[show(t5 n S i k p q).length=p*q from cQ _ _ _];intro x G;obtain⟨t,D,F⟩:=iE G;unfold t5;rw[<-F,qk _ _ _ t D];exact h _ (by rw[l];exact dK (show i+x/q<r by omega) (show k+x%q<n by omega))
def Ib(r c:Nat)(S:H3):H3:=t5 r (iG r c S) 0 0 r c
def pE(r c:Nat)(S:H3):H3:=t5 c (dy r c S) 0 0 c c
def vF(r c q:Nat)(S B:H3):H3:=IH c r q (sG r c (Ib r c S)) B
def MU(r c q:Nat)(S B:H3):H3:=LW c q (pE r c S) (vF r c q S B)
def MV(r c q:Nat)(S B:H3):Int:=if mY r c S=true then(if Aq c c (pE r c S)=true then 5 else if cF (vF r c q S B)=true then O9 c (pE r c S) (MU r c q S B)else 4)else 2
theorem Mb{r c:Nat}{S:H3}(l:S.length=r*c)(t:c<=r)(h:mY r c S=true):cF (pE r c S)=true:=by
 unfold mY at h;rw[Bool.and_eq_true,Bool.and_eq_true]at h;exact Ia (r:=r) (jt r c S l _) h.2.2 (by omega) (by omega)
theorem MW{r c p q cap d:Nat}{ao l:GY}{S B:H3}{w:World}(h:Mx w ao cap r c S)(t:Mx w l d p q B)(fS:cF S=true)(D:cF B=true):
  BS 48 #[.agg #[C0 r,C0 c,.slice ao S.length cap],.agg #[C0 p,C0 q,.slice l B.length d]] w (C0 0):=by
 have G:=h.small;have H:=t.small;have:=lh r c p q ao l cap d (aX S) (aX B) w h.1 t.1 (by rw[aC];omega) (by rw[aC];omega);rw[aC,aC]at this;unfold Hx at this
 rwa[if_pos (sf h fS),sf t D]at this
theorem xY(r c q J N:Nat)(K O:GY)(S B:H3)(w:World)(Q:Mx w K J r c S)(hB:Mx w O N r q B)(fS:cF S=true)(fB:cF B=true)(ae:c<=r)(U:cX w):
  GF 15 #[.agg #[C0 r,C0 c,.slice K S.length J],.agg #[C0 r,C0 q,.slice O B.length N]] w fun e h=>ov w h (MV r c q S B) c q (MU r c q S B) e/\H8 w h:=by
 have r6:=Q.2.2.1;have F:=Q.2.2.2;have q6:=hB.2.2.2;have L:¬(r:Int)<(c:Int):=by omega
 have hm:min r c=c:=by omega
 have C1:=fun h (l:H8 w h)=>MW (Q.below l) (hB.below l) fS fB
 unfold MV
 cases hk:mY r c S with
 |false=>
  rw[if_neg (by decide)];refine(xX r c q S.length J B.length N K O w L C1 (fun h l=>(Hr r c J K S h (Q.below l) fS hk (U.all l)).mono ?_)).mono ?_
  ·rintro e t ⟨v,u,rfl,⟨ao,cap,rfl,_,_⟩,⟨M,I,rfl,_,_⟩,D⟩
   exact⟨0,0,0,0,ao,M,0,cap,0,I,rfl,D⟩
  ·rintro e h ⟨rfl,l⟩
   exact⟨.inr ⟨by decide,rfl⟩,l⟩
 |true=>
  rw[if_pos rfl];have fT:=Mb Q.2.1 ae hk;have lT:(pE r c S).length=c*c:=by unfold pE t5;exact cQ _ _ _
  have lQ:(Ib r c S).length=r*c:=by unfold Ib t5;exact cQ _ _ _
  have lY:(vF r c q S B).length=c*q:=by unfold vF IH;exact cQ _ _ _
  have C2:∀h,H8 w h->GF 49 #[.agg #[C0 r,C0 c,.slice K S.length J]] h fun e t=>∃so sd G H,e=.returned (.tuple #[.agg #[C0 r,C0 c,.slice so (Ib r c S).length sd],.agg #[C0 c,C0 c,.slice G (pE r c S).length H],C0 0])/\ag t so sd (aX (Ib r c S))/\ag t G H (aX (pE r c S))/\H8 h t:=fun h l=>by
   have:=DX r c J K S h (Q.below l) fS hk (U.all l);rw[hm]at this;refine this.mono ?_;rintro e t ⟨v,u,rfl,⟨ao,cap,rfl,_,h1⟩,⟨M,I,rfl,_,h2⟩,D⟩;exact⟨ao,cap,M,I,rfl,h1,h2,D⟩
  have C3:∀h G H,H8 w h->ag h G H (aX (pE r c S))->BS 50 #[.agg #[C0 c,C0 c,.slice G (pE r c S).length H]] h (.tuple #[.bool (Aq c c (pE r c S)),C0 0]):=fun h G H l Z=>
   H7 c c H G (pE r c S) h ⟨Z,lT,F,F⟩ fT (U.all l)
  cases hf:Aq c c (pE r c S)with
  |true=>
   rw[hf]at C3;rw[if_pos rfl];refine(Ay r c q S.length J B.length N (Ib r c S).length (pE r c S).length (Ib r c S) (pE r c S) K O w L C1 C2 C3).mono ?_;rintro e h ⟨rfl,l⟩;exact⟨.inr ⟨by decide,rfl⟩,l⟩
  |false=>
   rw[hf]at C3;rw[if_neg (by decide)];refine H9 r c q (if cF (vF r c q S B)=true then O9 c (pE r c S) (MU r c q S B)else 4) S.length J B.length N (Ib r c S).length (pE r c S).length (vF r c q S B).length c q (Ib r c S) (pE r c S) (vF r c q S B) (MU r c q S B) K O w L C1 C2 C3 (fun h so sd l hs=>?_) (fun h G H yo yd l Z hy=>?_)
   ·refine(xM r c q sd N so O (Ib r c S) B h ⟨hs,lQ,r6,F⟩ (hB.below l) (U.all l)).mono ?_
    rintro e t ⟨v,rfl,⟨ao,cap,rfl,_,h1⟩,D⟩;exact⟨ao,cap,rfl,h1,D⟩
   ·cases hy2:cF (vF r c q S B)with
    |true=>
     rw[if_pos rfl];exact Hz c q H yd G yo (pE r c S) (vF r c q S B) h ⟨Z,lT,F,F⟩ ⟨hy,lY,F,q6⟩ fT hy2 (U.all l)
    |false=>
     rw[if_neg (by decide)];have e4:pD c c c q (aX (pE r c S)) (aX (vF r c q S B))=4:=by
      have h1:qm (c:Int) (c:Int) (aX (pE r c S))=0:=sf (w:=h) (ao:=G) (cap:=H) ⟨Z,lT,F,F⟩ fT;have h2:qm (c:Int) (q:Int) (aX (vF r c q S B))=4:=by
       unfold qm;have am:Mx h yo yd c q (vF r c q S B):=⟨hy,lY,F,q6⟩;rw[aC,pw am];have:iD (aX (vF r c q S B)) (vF r c q S B).length=false:=hy2;rw[this];rfl
      unfold pD Hx;rw[h1,h2];rfl
     have ap:c*c<=36:=Nat.mul_le_mul F F;have ax:c*q<=36:=Nat.mul_le_mul F q6;have:=H6 c c c q G yo H yd (aX (pE r c S)) (aX (vF r c q S B)) h Z hy (by rw[aC,lT];omega) (by rw[aC,lY];omega) (by rw[e4];decide);rw[e4,aC,aC]at this;refine this.mono ?_;rintro e t ⟨aa,D⟩;rcases aa with⟨h0,_⟩|⟨_,rfl⟩
     ·cases h0
     ·exact⟨.inr ⟨by decide,rfl⟩,D⟩
theorem Az(w:World)
  (K:∀h ao L,H8 w h->ag h ao 1 [((4611686018427387904:Nat):Int)]->ag h L 1 [((4616189618054758400:Nat):Int)]->GF 15 #[.agg #[C0 1,C0 1,.slice ao 1 1],.agg #[C0 1,C0 1,.slice L 1 1]] h fun e t=>∃G F,e=.returned (.tuple #[.agg #[C0 1,C0 1,.slice G 1 F],C0 0])/\ag t G F [((4611686018427387904:Nat):Int)]/\H8 h t):
  BS 14 #[] w (.bool true):=by
 have M:=ac K;have H:=ad w (.cells #[CI ((4611686018427387904:Nat):Int)] 69);have N:=sj w 4611686018427387904 (by decide);have I:=ad (w.alloc (.cells #[CI ((4611686018427387904:Nat):Int)] 69)) (.cells #[CI ((4616189618054758400:Nat):Int)] 69);have J:=sj (w.alloc (.cells #[CI ((4611686018427387904:Nat):Int)] 69)) 4616189618054758400 (by decide);(try unfold H8 at J);rw[an]at J;have O:=ac (N.below I);have Q:=ac J;have l:=ac (H.trans (I.mono H.size));clear K H N I J
 go_enter Tryz.func14,Tryz.ntmps14
 go_wp2_with fail;refine(uH M _ _ _ (uH l) (uH O) (uH Q)).mono ?_;rintro e w1 ⟨G,F,rfl,bv,hb⟩;obtain⟨b,D,rfl,_,Z⟩:=bv.ne (by decide);have c0:w1.cell? ⟨b,D+0,none⟩=some (CI 4611686018427387904):=Z 0 (by decide);rw[Nat.add_zero]at c0;replace l:=ac ((uH l).trans (hb.mono (uH l).size));clear hb M O Q bv Z;have U:=ad w1 (.cells #[C0 1,C0 1,.slice (some ⟨b,D,none⟩) 1 F] 24);have BC:=ac ((uH l).trans (U.mono (uH l).size));clear U l
 go_wp2
 go_ret
 exact⟨rfl,uH BC⟩
end Go.Proofs.YtcbcmlaogehimaaGreatDoor
namespace Go.Proofs.YtcbcmlaogehimaaGreatDoor
open Go.RowKit
theorem Qt:mY 1 1 [4611686018427387904]=true:=by decide+kernel
theorem MX:pE 1 1 [4611686018427387904]= [4611686018427387904]:=by decide+kernel
theorem Qu:Ib 1 1 [4611686018427387904]= [4607182418800017408]:=by decide+kernel
theorem MY:vF 1 1 1 [4611686018427387904] [4616189618054758400]= [4616189618054758400]:=by
 unfold vF;rw[Qu]
 decide+kernel
theorem Qv:Aq 1 1 [4611686018427387904]=false:=by decide+kernel
theorem Qw:LW 1 1 [4611686018427387904] [4616189618054758400]= [4611686018427387904]:=by decide+kernel
theorem my:MV 1 1 1 [4611686018427387904] [4616189618054758400]=0/\MU 1 1 1 [4611686018427387904] [4616189618054758400]= [4611686018427387904]:=by
 have h:MU 1 1 1 [4611686018427387904] [4616189618054758400]= [4611686018427387904]:=by
  unfold MU;rw[MX,MY];exact Qw
 refine⟨?_,h⟩;unfold MV;rw[h,Qt,MX,MY,Qv]
 decide+kernel
theorem xZ(w:World)(G:cX w):∀h,H8 w h->BS 14 #[] h (.bool true):=fun H D=>
 Az H (fun h ao I J K L=>by
  have:=xY 1 1 1 1 1 ao I [4611686018427387904] [4616189618054758400] h ⟨K,rfl,by decide,by decide⟩ ⟨L,rfl,by decide,by decide⟩ (by decide+kernel) (by decide+kernel) (Nat.le_refl 1) ((G.all D).all J);rw[my.1,my.2]at this;refine this.mono ?_;rintro e l ⟨t,F⟩;rcases t with⟨_,M,N,rfl,_,O,_,_⟩|⟨Q,_⟩
  ·exact⟨M,N,rfl,O,F⟩
  ·exact absurd rfl Q)
attribute [local go_sem ↓] Go.wp_at_zero Go.wp_at_succ
theorem AA{P:Program}{c:Code}{Q:Exit->Act->World->Prop}{a:Act}{w:World}{T:Type}(f:Act->T->Act)(J:T->World->Prop)(h:Code.wp P c (Exit.then (fun D l=>∃t:T,D=f a t/\J t l) (fun _ _ _=>False)) a w)(k:∀t l,J t l->Q .normal (f a t) l):Code.wp P c Q a w:=
 Code.wp_mono (fun e D l h=>by
  cases e<;>first
   |(obtain⟨t,F,G⟩:=h;rw[F];exact k t l G)
   |exact h.elim) h
theorem aE.not3{w:World}{b:Nat}{x y z l t D:Value}(h:aE w b x y z)(F:ar w b l t D):False:=by
 have e:=h.symm.trans F
 simp at e
end Go.Proofs.YtcbcmlaogehimaaGreatDoor
