/- Part 33 of the texts. -/
import Derived.Test.YtcbcmlaogehimaaGreatDoorPartu32
set_option maxHeartbeats 8000000
set_option maxRecDepth 20000
namespace Go.Proofs.YtcbcmlaogehimaaGreatDoor
open Go.RowKit
attribute [local go_sem ↓] Go.wp_at_zero Go.wp_at_succ
theorem Hk(w:World)(a b:Nat)(t:a<18446744073709551616)(D:b<18446744073709551616):ag (w.alloc (.cells #[CI (a:Nat),CI (b:Nat)] 69)) (some ⟨w.heap.size,0,none⟩) 2 [(a:Int),(b:Int)]:=by
 have h:bS (w.alloc (.cells #[CI (a:Nat),CI (b:Nat)] 69)) w.heap.size [a,b]:=heap_alloc_new w _;exact h.bits (fun x l=>by simp at l;rcases l with rfl|rfl;exact t;exact D)
theorem DQ(ao:GY)(n c:Nat)(w:World)(I:1<=n)(J:n<=64)
  (D:BS 125 #[.slice ao n c] w (.bool false)):
  BS 225 #[.slice ao n c] w (.tuple #[.slice none 0 0,CI 0,CI 0,C0 4]):=by
 have F:=ac D;have H:(n:Int)<=64:=by omega
 have l:¬(n:Int)=0:=by omega
 have K:((n:Int)==0)=false:=by rw[beq_eq_false_iff_ne];exact l
 clear D
 go_enter Tryz.func225,Tryz.ntmps225
 go_wp2_with fail;refine Calls.mono (uH F) ?_;rintro e L ⟨rfl,t⟩;clear F
 go_wp2
 exact bodyPost_ret (v:=.tuple #[.slice none 0 0,CI 0,CI 0,C0 4]) (by simp[results,Tryz.results225,go_sem]) rfl ⟨rfl,t⟩
theorem DR(w:World)(d:Nat):(w.alloc (.cells #[CI (d:Nat)] 69)).cell? ⟨w.heap.size,0,none⟩=some (CI (d:Nat)):=by
 rw[cell_of_row _ w.heap.size 0 _ _ _ (heap_alloc_new w (.cells #[CI (d:Nat)] 69))];rfl
theorem t9(w:World)(h d:Nat)(l:h<18446744073709551616)(G:d<18446744073709551616):
  ag ((w.alloc (.cells #[CI (d:Nat)] 69)).alloc (.cells #[CI (h:Nat),CI (d:Nat)] 69)) (some ⟨w.heap.size+1,0,none⟩) 2 [(h:Int),(d:Int)]/\H8 w ((w.alloc (.cells #[CI (d:Nat)] 69)).alloc (.cells #[CI (h:Nat),CI (d:Nat)] 69))/\((w.alloc (.cells #[CI (d:Nat)] 69)).alloc (.cells #[CI (h:Nat),CI (d:Nat)] 69)).cell? ⟨w.heap.size,0,none⟩=some (CI (d:Nat)):=by
 have t:=Hk (w.alloc (.cells #[CI (d:Nat)] 69)) h d l G;(try unfold H8 at t);rw[an]at t;have D:=ad w (.cells #[CI (d:Nat)] 69);have F:=ad (w.alloc (.cells #[CI (d:Nat)] 69)) (.cells #[CI (h:Nat),CI (d:Nat)] 69);exact⟨t,D.trans (F.mono D.size),ay (DR w d) F⟩
theorem xG(b t c a:Nat)(w:World)(hc:1<=c)
  (L:w.cell? ⟨b,t,none⟩=some (CI (a:Nat)))
  (M:BS 125 #[.slice (some ⟨b,t,none⟩) 1 c] w (.bool true))
  (N:∀l,H8 w l->BS 98 #[.slice (some ⟨b,t,none⟩) 0 0] l (CI (0:Nat)))
  (S:H3)
  (O:∀l,H8 w l->GF 255 #[.slice (some ⟨b,t,none⟩) 0 0,.func (.func 256) #[] #[]] l fun e h=>∃D F,e=.returned (.slice D 1 F)/\dw l.heap.size D (aX S)/\ag h D F (aX S)/\H8 l h):
  GF 225 #[.slice (some ⟨b,t,none⟩) 1 c] w fun e l=>∃D F,e=.returned (.tuple #[.slice D 1 F,CI 0,CI (a:Nat),C0 0])/\dw w.heap.size D (aX S)/\ag l D F (aX S)/\H8 w l:=by
 have Q:=ac M;have U:=ac N;have Z:=ac O;have aa:(1:Int)<=(c:Int):=by omega
 clear M N O
 go_enter Tryz.func225,Tryz.ntmps225
 go_wp2_with fail;refine Calls.mono (uH Q) ?_;rintro e w1 ⟨rfl,G⟩;have c0:=ay L G;have B1:=ac G;clear Q L G;go_wp2_with fail
 go_quiet (fail)
 clear c0;go_wp2_with fail;have K:=ac (below_drewN (uH B1) nq);clear B1;refine(uH U _ (uH K)).mono ?_;rintro e w2 ⟨rfl,I⟩;have H:=ac ((uH K).trans (I.mono (uH K).size));clear U K I;go_wp2_with fail;refine(uH Z _ (uH H)).mono ?_;rintro e w3 ⟨D,F,rfl,hn,hs,J⟩;have B4:=ac ((uH H).trans (J.mono (uH H).size));have HN:=ac (dw.least hn (uH H).size);have HS:=ac hs;clear Z H J hn hs
 go_wp2
 exact bodyPost_ret (v:=.tuple #[.slice D 1 F,CI 0,CI (a:Nat),C0 0]) (by simp[results,Tryz.results225,go_sem]) rfl ⟨D,F,rfl,uH HN,uH HS,uH B4⟩
theorem Ai(b t n c a:Nat)(w:World)(h1:2<=n)(h2:n<=64)(hc:n<=c)
  (M:w.cell? ⟨b,t,none⟩=some (CI (a:Nat)))
  (N:BS 125 #[.slice (some ⟨b,t,none⟩) n c] w (.bool true))
  (O:∀l,H8 w l->BS 98 #[.slice (some ⟨b,t+1,none⟩) (n-1) (n-1)] l (CI (0:Nat)))
  (S:H3)
  (Q:∀l,H8 w l->GF 255 #[.slice (some ⟨b,t+1,none⟩) (n-1) (n-1),.func (.func 256) #[] #[]] l fun e h=>∃D F,e=.returned (.slice D n F)/\dw l.heap.size D (aX S)/\ag h D F (aX S)/\H8 l h):
  GF 225 #[.slice (some ⟨b,t,none⟩) n c] w fun e l=>∃D F,e=.returned (.tuple #[.slice D n F,CI 0,CI (a:Nat),C0 0])/\dw w.heap.size D (aX S)/\ag l D F (aX S)/\H8 w l:=by
 have U:=ac N;have Z:=ac O;have K3:=ac Q;have aa:(n:Int)<=64:=by omega
 have ae:(2:Int)<=(n:Int):=by omega
 have am:(n:Int)<=(c:Int):=by omega
 have L:¬(n:Int)=0:=by omega
 have e0:((n:Int)==0)=false:=by rw[beq_eq_false_iff_ne];exact L
 have e1:decide ((64:Int)<(n:Int))=false:=decide_eq_false (by omega);clear N O Q
 go_enter Tryz.func225,Tryz.ntmps225
 go_wp2_with fail;refine Calls.mono (uH U) ?_;rintro e w1 ⟨rfl,G⟩;have c0:=ay M G;have B1:=ac G;clear U M G;go_wp2_with fail
 go_quiet (fail)
 clear c0;go_wp2_with fail;have K:=ac (below_drewN (uH B1) nq);clear B1;refine(uH Z _ (uH K)).mono ?_;rintro e w2 ⟨rfl,I⟩;have H:=ac ((uH K).trans (I.mono (uH K).size));clear Z K I;go_wp2_with fail;refine(uH K3 _ (uH H)).mono ?_;rintro e w3 ⟨D,F,rfl,hn,hs,J⟩;have B4:=ac ((uH H).trans (J.mono (uH H).size));have HN:=ac (dw.least hn (uH H).size);have HS:=ac hs;clear K3 H J hn hs
 go_wp2
 exact bodyPost_ret (v:=.tuple #[.slice D n F,CI 0,CI (a:Nat),C0 0]) (by simp[results,Tryz.results225,go_sem]) rfl ⟨D,F,rfl,uH HN,uH HS,uH B4⟩
theorem xH(b F n c a m H d:Nat)(w:World)(h1:2<=n)(h2:n<=64)(hc:n<=c)(hm:¬m=0)(I:H<18446744073709551616)(U:d<18446744073709551616)
  (Z:w.cell? ⟨b,F,none⟩=some (CI (a:Nat)))
  (C1:BS 125 #[.slice (some ⟨b,F,none⟩) n c] w (.bool true))
  (C2:∀l,H8 w l->BS 98 #[.slice (some ⟨b,F+1,none⟩) (n-1) (n-1)] l (CI (m:Nat)))
  (C4:∀l,H8 w l->BS 257 #[.slice (some ⟨b,F,none⟩) n c] l (CI (H:Nat)))
  (C5:∀l,H8 w l->BS 202 #[CI a,CI H] l (CI (d:Nat)))
  (C6:∀l ao,H8 w l->ag l ao 2 [(H:Int),(d:Int)]->BS 125 #[.slice ao 2 2] l (.bool false)):
  BS 225 #[.slice (some ⟨b,F,none⟩) n c] w (.tuple #[.slice none 0 0,CI 0,CI 0,C0 2]):=by
 have K1:=ac C1;have K2:=ac C2;have K4:=ac C4;have K5:=ac C5;have K6:=ac C6;have aa:(n:Int)<=64:=by omega
 have ae:(2:Int)<=(n:Int):=by omega
 have am:(n:Int)<=(c:Int):=by omega
 have O:¬(n:Int)=0:=by omega
 have e0:((n:Int)==0)=false:=by rw[beq_eq_false_iff_ne];exact O
 have e1:decide ((64:Int)<(n:Int))=false:=decide_eq_false (by omega);have em:((m:Int)==0)=false:=by rw[beq_eq_false_iff_ne];omega
 have J:=ac I;have HD:=ac U;clear I U;clear C1 C2 C4 C5 C6
 go_enter Tryz.func225,Tryz.ntmps225
 go_wp2_with fail;refine Calls.mono (uH K1) ?_;rintro e w1 ⟨rfl,D⟩;have c0:=ay Z D;have B1:=ac D;clear K1 Z D;go_wp2_with fail
 go_quiet (fail)
 clear c0;go_wp2_with fail;have K:=ac (below_drewN (uH B1) nq);clear B1;refine(uH K2 _ (uH K)).mono ?_;rintro e w2 ⟨rfl,G⟩;have L:=ac ((uH K).trans (G.mono (uH K).size));clear K2 K G;go_wp2_with fail;refine(uH K4 _ (uH L)).mono ?_;rintro e w3 ⟨rfl,h⟩;have M:=ac ((uH L).trans (h.mono (uH L).size));clear K4 L h;go_wp2_with fail;refine(uH K5 _ (uH M)).mono ?_;rintro e w4 ⟨rfl,h⟩;have Q:=ac ((uH M).trans (h.mono (uH M).size));clear K5 M h;go_wp2_with fail;obtain⟨D,G,h⟩:=t9 w4 H d (uH J) (uH HD);have N:=ac ((uH Q).trans (G.mono (uH Q).size));have CB:=ac h;refine(uH K6 _ _ (uH N) D).mono ?_;clear D G h;rintro e w5 ⟨rfl,h⟩;have B7:=ac ((uH N).trans (h.mono (uH N).size));have CD:=ac (ay (uH CB) h);clear K6 Q N CB h J HD
 go_wp2
 exact bodyPost_ret (v:=.tuple #[.slice none 0 0,CI 0,CI 0,C0 2]) (by simp[results,Tryz.results225,go_sem]) rfl ⟨rfl,uH B7⟩
theorem Hl(b F n c a m J d u t:Nat)(w:World)(h1:2<=n)(h2:n<=64)(hc:n<=c)(hm:¬m=0)(L:J<18446744073709551616)(hd:d<18446744073709551616)
  (hx:w.cell? ⟨b,F,none⟩=some (CI (a:Nat)))
  (C1:BS 125 #[.slice (some ⟨b,F,none⟩) n c] w (.bool true))
  (C2:∀l,H8 w l->BS 98 #[.slice (some ⟨b,F+1,none⟩) (n-1) (n-1)] l (CI (m:Nat)))
  (C4:∀l,H8 w l->BS 257 #[.slice (some ⟨b,F,none⟩) n c] l (CI (J:Nat)))
  (C5:∀l,H8 w l->BS 202 #[CI a,CI J] l (CI (d:Nat)))
  (C6:∀l ao,H8 w l->ag l ao 2 [(J:Int),(d:Int)]->BS 125 #[.slice ao 2 2] l (.bool true))
  (S:H3)
  (C7:∀l g,H8 w l->l.cell? ⟨g,0,none⟩=some (CI (d:Nat))->GF 255 #[.slice (some ⟨b,F+1,none⟩) (n-1) (n-1),.func (.func 258) #[] #[.pointer (some ⟨g,0,none⟩)]] l fun e D=>∃I K,e=.returned (.slice I n K)/\dw l.heap.size I (aX S)/\ag D I K (aX S)/\H8 l D)
  (C8:∀l,H8 w l->BS 202 #[CI J,CI a] l (CI (u:Nat)))
  (C9:∀l,H8 w l->BS 204 #[CI u,CI J] l (CI (t:Nat))):
  GF 225 #[.slice (some ⟨b,F,none⟩) n c] w fun e l=>∃I K,e=.returned (.tuple #[.slice I n K,CI (t:Nat),CI (J:Nat),C0 0])/\dw w.heap.size I (aX S)/\ag l I K (aX S)/\H8 w l:=by
 have K1:=ac C1;have K2:=ac C2;have K4:=ac C4;have K5:=ac C5;have K6:=ac C6;have K7:=ac C7;have K8:=ac C8;have K9:=ac C9;have ae:(n:Int)<=64:=by omega
 have am:(2:Int)<=(n:Int):=by omega
 have ap:(n:Int)<=(c:Int):=by omega
 have aa:¬(n:Int)=0:=by omega
 have e0:((n:Int)==0)=false:=by rw[beq_eq_false_iff_ne];exact aa
 have e1:decide ((64:Int)<(n:Int))=false:=decide_eq_false (by omega);have em:((m:Int)==0)=false:=by rw[beq_eq_false_iff_ne];omega
 have M:=ac L;have HD:=ac hd;clear L hd;clear C1 C2 C4 C5 C6 C7 C8 C9
 go_enter Tryz.func225,Tryz.ntmps225
 go_wp2_with fail;refine Calls.mono (uH K1) ?_;rintro e w1 ⟨rfl,G⟩;have c0:=ay hx G;have B1:=ac G;clear K1 hx G;go_wp2_with fail
 go_quiet (fail)
 clear c0;go_wp2_with fail;have Q:=ac (below_drewN (uH B1) nq);clear B1;refine(uH K2 _ (uH Q)).mono ?_;rintro e w2 ⟨rfl,H⟩;have U:=ac ((uH Q).trans (H.mono (uH Q).size));clear K2 Q H;go_wp2_with fail;refine(uH K4 _ (uH U)).mono ?_;rintro e w3 ⟨rfl,h⟩;have Z:=ac ((uH U).trans (h.mono (uH U).size));clear K4 U h;go_wp2_with fail;refine(uH K5 _ (uH Z)).mono ?_;rintro e w4 ⟨rfl,h⟩;have B5:=ac ((uH Z).trans (h.mono (uH Z).size));clear K5 Z h;go_wp2_with fail;obtain⟨G,H,h⟩:=t9 w4 J d (uH M) (uH HD);have B6:=ac ((uH B5).trans (H.mono (uH B5).size));have CB:=ac h;refine(uH K6 _ _ (uH B6) G).mono ?_;clear G H h;rintro e w5 ⟨rfl,h⟩;have N:=ac ((uH B6).trans (h.mono (uH B6).size));have CD:=ac (ay (uH CB) h);clear K6 B5 B6 CB h M HD;go_wp2_with fail;refine(uH K7 _ _ (uH N) (uH CD)).mono ?_;rintro e w6 ⟨I,K,rfl,hn,hs,h⟩;have B8:=ac ((uH N).trans (h.mono (uH N).size));have HN:=ac (dw.least hn (uH N).size);have O:=ac hs;clear K7 N h hn hs CD;go_wp2_with fail;refine(uH K8 _ (uH B8)).mono ?_;rintro e w7 ⟨rfl,h⟩;have B9:=ac ((uH B8).trans (h.mono (uH B8).size));replace O:=ac ((uH O).below h);clear K8 B8 h;go_wp2_with fail;refine(uH K9 _ (uH B9)).mono ?_;rintro e w8 ⟨rfl,h⟩;have BA:=ac ((uH B9).trans (h.mono (uH B9).size));replace O:=ac ((uH O).below h);clear K9 B9 h
 go_wp2
 exact bodyPost_ret (v:=.tuple #[.slice I n K,CI (t:Nat),CI (J:Nat),C0 0]) (by simp[results,Tryz.results225,go_sem]) rfl ⟨I,K,rfl,uH HN,uH O,uH BA⟩
end Go.Proofs.YtcbcmlaogehimaaGreatDoor
namespace Go.Proofs.YtcbcmlaogehimaaGreatDoor
open Go.RowKit
theorem Aj{t:H3}(h:∀x∈t,ah x=true):bT 0 t=0↔mf t=true:=by
 obtain⟨H,I,F,l⟩:=nO t 0 (by decide) h
 constructor
 ·intro J
  exact List.all_eq_true.2 (fun x D=>decide_eq_true ((dY x).2 (by have:=F x D;omega)))
 ·intro G
  rcases l with l|⟨x,D,l⟩
  ·exact l
  ·rw[<-l]
   exact(dY x).1 (rQ G x D)
theorem rZ(I:List Int)(k:Nat):cK (I.drop k)=(cK I).drop k:=by
 unfold cK;rw[List.map_drop]
theorem o4{w:World}{b l c:Nat}{I:List Int}(h:ag w (some ⟨b,l,none⟩) c I)(L:2<=I.length):ag w (some ⟨b,l+1,none⟩) (I.length-1) (I.drop 1):=by
 obtain⟨M,D,e,J,K⟩:=h.ne (by omega);simp only[Option.some.injEq,Addr.mk.injEq]at e;obtain⟨rfl,rfl,_⟩:=e;refine⟨by rw[List.length_drop];omega,fun x F=>h.2.1 x (List.mem_of_mem_drop F),.inr ⟨b,l+1,rfl,J,fun i G=>?_⟩⟩;have t:1+i<I.length:=by rw[List.length_drop]at G;omega
 have H:=K (1+i) t;rw[List.getElem?_drop,show l+1+i=l+(1+i) by omega,H,(h.wf (1+i)).1]
theorem Hm(I:List Int)(j:Nat):bg (I.drop 1) j=bg I (j+1):=by
 unfold bg;rw[List.getElem?_drop,Nat.add_comm 1 j]
theorem sc{I:List Int}(h:iD I I.length=true):∀x∈(cK I).drop 1,ah x=true:=fun x l=>Kz I (fun x=>ah x=true) ((qp _).1 h) x (List.mem_of_mem_drop l)
theorem Ak(ao:GY)(c:Nat)(I:List Int)(w:World)(G:ag w ao c I)(h1:1<=I.length)(Q:I.length<=64)(K:iD I I.length=true)(U:mf ((cK I).drop 1)=true):
  GF 225 #[.slice ao I.length c] w fun e l=>∃J L,e=.returned (.tuple #[.slice J I.length L,CI 0,CI (bg I 0:Nat),C0 0])/\dw w.heap.size J (aX (MR (fun _=>0) I.length))/\ag l J L (aX (MR (fun _=>0) I.length))/\H8 w l:=by
 obtain⟨b,F,rfl,hb,hc⟩:=G.ne (by omega);have M:=hc 0 (by omega);have H:=dO _ c I w G (by omega);rw[K]at H;have N:∀args w,(callFunc 256 args).run Tryz.prog w=.ok (.enter 256 args) w:=fun _ _=>by kernel_rfl
 have D:=G.1;rcases Nat.lt_or_ge 1 I.length with g|g
 ·have R:=fun l (h:H8 w l)=>o4 (G.below h) g
  have e:((I.drop 1).length:Nat)=I.length-1:=by rw[List.length_drop]
  refine Ai b F I.length c (bg I 0) w g Q D M H (fun l h=>?_) (MR (fun _=>0) I.length) (fun l h=>?_)
  ·have B:=fw _ _ (I.drop 1) l (R l h) (by omega)
   rw[oc,rZ,(Aj (sc K)).2 U,e]at B;exact B
  ·have O:=mZ 256 #[] _ _ (I.drop 1) (fun _=>0) l N (R l h) (by omega) (fun _ _=>by show 0<18446744073709551616;decide) (fun t k _ _=>rY _ t)
   rw[e,show I.length-1+1=I.length by omega]at O;exact O
 ·have Z:I.length=1:=by omega
  rw[Z]at D H⊢;refine xG b F c (bg I 0) w D M H (fun l h=>fw _ _ [] l (ag.nilAt _ _ _) (by simp)) (MR (fun _=>0) 1) (fun l h=>?_);exact mZ 256 #[] _ _ [] (fun _=>0) l N (ag.nilAt _ _ _) (by simp) (fun _ _=>by show 0<18446744073709551616;decide) (fun t k _ _=>rY _ t)
theorem BO{I:List Int}(h:mf ((cK I).drop 1)=false):2<=I.length:=by
 rcases Nat.lt_or_ge I.length 2 with g|g
 ·rw[List.drop_eq_nil_of_le (by rw[iS];omega)]at h
  cases h
 ·exact g
theorem Hn(ao:GY)(c:Nat)(I:List Int)(w:World)(t:ag w ao c I)(D:I.length<=64)(J:iD I I.length=true)(G:mf ((cK I).drop 1)=false)(N:(ah (g9 (bg I 0) ((cK I).drop 1))&&ah (mw (bg I 0) ((cK I).drop 1)))=false)(K:cX w):
  BS 225 #[.slice ao I.length c] w (.tuple #[.slice none 0 0,CI 0,CI 0,C0 2]):=by
 have g:=BO G;obtain⟨b,H,rfl,hb,Z⟩:=t.ne (by omega);have Q:=Z 0 (by omega);have L:=dO _ c I w t (by omega);rw[J]at L;have R:=fun l (h:H8 w l)=>o4 (t.below h) g
 have e:((I.drop 1).length:Nat)=I.length-1:=by rw[List.length_drop]
 have M:=t.lt 0;have U:(if uX (cK I)=true then bM (cK I)else fN (bM (cK I)))=g9 (bg I 0) ((cK I).drop 1):=by
  unfold g9;rw[<-oq (by omega)]
 refine xH b H I.length c (bg I 0) (bT 0 ((cK I).drop 1)) (g9 (bg I 0) ((cK I).drop 1)) (mw (bg I 0) ((cK I).drop 1)) w g D t.1 (fun O=>by rw[(Aj (sc J)).1 O]at G;cases G) (jg _ _) (zW _ _ M) Q L (fun l h=>?_) (fun l h=>?_) (fun l h=>le _ _ l M (jg _ _) (K.all h)) (fun l ao h D=>?_)
 ·have B:=fw _ _ (I.drop 1) l (R l h) (by omega)
  rw[oc,rZ,e]at B;exact B
 ·have B:=t8 _ c I l (t.below h) D (K.all h)
  rw[U]at B;exact B
 ·have F:=dO ao 2 _ l D (by simp)
  rw[show iD [((g9 (bg I 0) ((cK I).drop 1):Nat):Int),((mw (bg I 0) ((cK I).drop 1):Nat):Int)] [((g9 (bg I 0) ((cK I).drop 1):Nat):Int),((mw (bg I 0) ((cK I).drop 1):Nat):Int)].length=false from(show iD [((g9 (bg I 0) ((cK I).drop 1):Nat):Int),((mw (bg I 0) ((cK I).drop 1):Nat):Int)] 2=_ from by show((true&&ah (g9 (bg I 0) ((cK I).drop 1)))&&ah (mw (bg I 0) ((cK I).drop 1)))=_;rw[Bool.true_and,N])]at F;exact F
theorem DS(ao:GY)(c:Nat)(I:List Int)(w:World)(t:ag w ao c I)(H:I.length<=64)(Q:iD I I.length=true)(J:mf ((cK I).drop 1)=false)(hk:(ah (g9 (bg I 0) ((cK I).drop 1))&&ah (mw (bg I 0) ((cK I).drop 1)))=true)(D:cX w):
  GF 225 #[.slice ao I.length c] w fun e l=>∃M Z,e=.returned (.tuple #[.slice M I.length Z,CI (dV (aV (g9 (bg I 0) ((cK I).drop 1)) (fN (bg I 0))) (g9 (bg I 0) ((cK I).drop 1)):Nat),CI (g9 (bg I 0) ((cK I).drop 1):Nat),C0 0])/\dw w.heap.size M (aX (MR (fun j=>dV (bg I (j+1)) (mw (bg I 0) ((cK I).drop 1))) I.length))/\ag l M Z (aX (MR (fun j=>dV (bg I (j+1)) (mw (bg I 0) ((cK I).drop 1))) I.length))/\H8 w l:=by
 have g:=BO J;obtain⟨b,N,rfl,L,hc⟩:=t.ne (by omega);have c0:=hc 0 (by omega);have C1:=dO _ c I w t (by omega);rw[Q]at C1;have R:=fun l (h:H8 w l)=>o4 (t.below h) g
 have e:((I.drop 1).length:Nat)=I.length-1:=by rw[List.length_drop]
 have G:=t.lt 0;have eB:(if uX (cK I)=true then bM (cK I)else fN (bM (cK I)))=g9 (bg I 0) ((cK I).drop 1):=by
  unfold g9;rw[<-oq (by omega)]
 have cf:∀args w,(callFunc 258 args).run Tryz.prog w=.ok (.enter 258 args) w:=fun _ _=>by kernel_rfl
 refine Hl b N I.length c (bg I 0) (bT 0 ((cK I).drop 1)) (g9 (bg I 0) ((cK I).drop 1)) (mw (bg I 0) ((cK I).drop 1)) (aV (g9 (bg I 0) ((cK I).drop 1)) (fN (bg I 0))) _ w g H t.1 (fun h0=>by rw[(Aj (sc Q)).1 h0]at J;cases J) (jg _ _) (zW _ _ G) c0 C1 (fun l h=>?_) (fun l h=>?_) (fun l h=>le _ _ l G (jg _ _) (D.all h)) (fun l ao h H=>?_) (MR (fun j=>dV (bg I (j+1)) (mw (bg I 0) ((cK I).drop 1))) I.length) (fun l U h hg=>?_) (fun l h=>le _ _ l (jg _ _) G (D.all h)) (fun l h=>rV _ _ l (jc _ _ (jg _ _) (iY _ G)) (jg _ _) (D.all h))
 ·have B:=fw _ _ (I.drop 1) l (R l h) (by omega)
  rw[oc,rZ,e]at B;exact B
 ·have B:=t8 _ c I l (t.below h) H (D.all h)
  rw[eB]at B;exact B
 ·have F:=dO ao 2 _ l H (by simp)
  rw[show iD [((g9 (bg I 0) ((cK I).drop 1):Nat):Int),((mw (bg I 0) ((cK I).drop 1):Nat):Int)] [((g9 (bg I 0) ((cK I).drop 1):Nat):Int),((mw (bg I 0) ((cK I).drop 1):Nat):Int)].length=true from(show iD [((g9 (bg I 0) ((cK I).drop 1):Nat):Int),((mw (bg I 0) ((cK I).drop 1):Nat):Int)] 2=_ from by show((true&&ah (g9 (bg I 0) ((cK I).drop 1)))&&ah (mw (bg I 0) ((cK I).drop 1)))=_;rw[Bool.true_and,hk])]at F;exact F
 ·have O:=mZ 258 #[.pointer (some ⟨U,0,none⟩)] _ _ (I.drop 1) (fun j=>dV (bg I (j+1)) (mw (bg I 0) ((cK I).drop 1))) l cf (R l h) (by omega) (fun _ _=>wD _ _) (fun K k L aa=>by
   rw[Hm];exact Ag _ _ U K (t.lt _) (zW _ _ G) (ay hg L) ((D.all h).all L))
  rw[e,show I.length-1+1=I.length by omega]at O;exact O
theorem Ho(ao:GY)(c:Nat)(I:List Int)(w:World)(D:ag w ao c I)(l:1<=I.length)(F:I.length<=64)(G:iD I I.length=true)(H:GX (cK I)=true)(N:cX w):
  GF 225 #[.slice ao I.length c] w fun e h=>∃t J,e=.returned (.tuple #[.slice t I.length J,CI (kA (cK I):Nat),CI (mX (cK I):Nat),C0 0])/\dw w.heap.size t (aX (kt (cK I)))/\ag h t J (aX (kt (cK I)))/\H8 w h:=by
 obtain⟨K,L,M⟩:=xD l
 cases hn:mf ((cK I).drop 1)
 ·rw[hn,Bool.false_or]at M
  rw[M]at H;rw[K,L,hn,if_neg (by decide),if_neg (by decide),Hd l (fun x=>dV x (mw (bg I 0) ((cK I).drop 1))) (fun x=>by rw[hn,if_neg (by decide)])];exact DS ao c I w D F G hn H N
 ·rw[K,L,hn,if_pos rfl,if_pos rfl,Hd l (fun _=>0) (fun x=>by rw[hn,if_pos rfl])]
  exact Ak ao c I w D l F G hn
theorem Al(ao:GY)(c:Nat)(I:List Int)(w:World)(D:ag w ao c I)(F:1<=I.length)(G:I.length<=64)(H:iD I I.length=true)(J:GX (cK I)=false)(K:cX w):
  GF 225 #[.slice ao I.length c] w fun e l=>∃L M,e=.returned (.tuple #[.slice L 0 M,CI 0,CI 0,C0 2])/\H8 w l:=by
 obtain⟨_,_,t⟩:=xD F;rw[J]at t;have h:=t.symm;rw[Bool.or_eq_false_iff]at h;refine(Hn ao c I w D G H h.1 h.2 K).mono ?_;rintro e O ⟨rfl,N⟩;exact⟨_,_,rfl,N⟩
theorem DT(ao:GY)(c:Nat)(I:List Int)(w:World)(t:ag w ao c I)(D:1<=I.length)(F:I.length<=64)(G:iD I I.length=false):
  GF 225 #[.slice ao I.length c] w fun e h=>∃H J,e=.returned (.tuple #[.slice H 0 J,CI 0,CI 0,C0 4])/\H8 w h:=by
 have l:=dO ao c I w t (by omega);rw[G]at l;refine(DQ ao I.length c w D F l).mono ?_;rintro e L ⟨rfl,K⟩;exact⟨_,_,rfl,K⟩
attribute [local go_sem ↓] Go.wp_at_zero Go.wp_at_succ
theorem Am(t x y p o k n m c d M D N:Nat)(G H I J:Nat)(w:World)(hk:k<n)(hm:k<m)
  (O:w.cell? ⟨M,0,none⟩=some (.slice (some ⟨G,H,none⟩) n c)) (Q:w.cell? ⟨D,0,none⟩=some (.slice (some ⟨I,J,none⟩) m d)) (U:w.cell? ⟨N,0,none⟩=some (CI (t:Nat)))
  (Z:w.cell? ⟨G,H+k,none⟩=some (CI (x:Nat))) (h4:w.cell? ⟨I,J+k,none⟩=some (CI (y:Nat)))
  (C1:∀l,H8 w l->BS 203 #[CI t,CI y] l (CI (p:Nat)))
  (C2:∀l,H8 w l->BS 202 #[CI x,CI p] l (CI (o:Nat))):
  BS 280 #[C0 k,.pointer (some ⟨M,0,none⟩),.pointer (some ⟨N,0,none⟩),.pointer (some ⟨D,0,none⟩)] w (CI (o:Nat)):=by
 have K1:=ac C1;have K2:=ac C2;have aa:(k:Int)<(n:Int):=by omega
 have ae:(k:Int)<(m:Int):=by omega
 have HK:=ac (fun l (h:H8 w l)=>(show H8 w l/\l.cell? ⟨M,0,none⟩=some (.slice (some ⟨G,H,none⟩) n c)/\l.cell? ⟨D,0,none⟩=some (.slice (some ⟨I,J,none⟩) m d)/\l.cell? ⟨G,H+k,none⟩=some (CI (x:Nat))/\l.cell? ⟨I,J+k,none⟩=some (CI (y:Nat))/\l.cell? ⟨N,0,none⟩=some (CI (t:Nat))from
  ⟨h,ay O h,ay Q h,ay Z h,ay h4 h,ay U h⟩))
 clear C1 C2 O Q Z h4 U
 go_enter Tryz.func280,Tryz.ntmps280
 go_wp2_with fail
 go_region_held3(fun l=>H8 w l/\l.cell? ⟨M,0,none⟩=some (.slice (some ⟨G,H,none⟩) n c)/\l.cell? ⟨D,0,none⟩=some (.slice (some ⟨I,J,none⟩) m d)/\l.cell? ⟨G,H+k,none⟩=some (CI (x:Nat))/\l.cell? ⟨I,J+k,none⟩=some (CI (y:Nat))/\l.cell? ⟨N,0,none⟩=some (CI (t:Nat)))
  (first|exact uH HK _ (Below.refl _ _).drew|exact uH HK _ (by assumption)|fail "KK")
  (first|(go_at_call 203;refine(uH K1 _ (And.left (by assumption))).mono ?_;rintro e w1 ⟨rfl,K⟩;have am:H8 w w1:=Below.trans (And.left (by assumption)) (K.mono (Below.size (And.left (by assumption))));clear K)|(go_at_call 202;refine(uH K2 _ (And.left (by assumption))).mono ?_;rintro e w2 ⟨rfl,L⟩;have ap:H8 w w2:=Below.trans (And.left (by assumption)) (L.mono (Below.size (And.left (by assumption))));clear L)|fail "NO ARM")
 go_wp2
 go_ret
 exact⟨rfl,And.left (by assumption)⟩
structure OZ (w:World) (v:Value) (H:Nat) (xo vo:GY) (n xc m vc t:Nat):Prop where
 ex:∃bx bt bv,v=.func (.func 280) #[] #[.pointer (some ⟨bx,0,none⟩),.pointer (some ⟨bt,0,none⟩),.pointer (some ⟨bv,0,none⟩)]/\H<=bx/\H<=bt/\H<=bv/\w.cell? ⟨bx,0,none⟩=some (.slice xo n xc)/\w.cell? ⟨bt,0,none⟩=some (CI (t:Nat))/\w.cell? ⟨bv,0,none⟩=some (.slice vo m vc)
theorem DU(F K:GY)(n G m L M d t:Nat)(w:World)
  (Z:∀D,H8 w D->BS 136 #[.slice K m L,.slice F n G] D (.tuple #[CI (d:Nat),C0 0]))
  (C2:∀D,H8 w D->BS 203 #[CI M,CI d] D (CI (t:Nat))):
  GF 259 #[.slice F n G,.slice K m L,CI M] w fun e D=>∃v,e=.returned v/\OZ D v w.heap.size F K n G m L t/\H8 w D:=by
 have K1:=ac Z;have K2:=ac C2;clear Z C2;have O:=ad w (.cells #[.slice F n G] 22);have x1:=d9 w (.slice F n G) 22;have s1:=an w (.cells #[.slice F n G] 22);have Q:=ad (w.alloc (.cells #[.slice F n G] 22)) (.cells #[.slice K m L] 22);have U:=d9 (w.alloc (.cells #[.slice F n G] 22)) (.slice K m L) 22;have y1:=ay x1 Q;rw[s1]at U;have l:=ac (show H8 w ((w.alloc (.cells #[.slice F n G] 22)).alloc (.cells #[.slice K m L] 22))from O.trans (Q.mono O.size));have I:=ac y1;have J:=ac U;clear O x1 s1 Q U y1
 go_enter Tryz.func259,Tryz.ntmps259
 go_wp2_with fail;refine(uH K1 _ (uH l)).mono ?_;rintro e w1 ⟨rfl,h⟩;replace I:=ac (ay (uH I) h);replace J:=ac (ay (uH J) h);replace l:=ac ((uH l).trans (h.mono (uH l).size));clear h K1;go_wp2_with fail;refine(uH K2 _ (uH l)).mono ?_;rintro e w2 ⟨rfl,h⟩;replace I:=ac (ay (uH I) h);replace J:=ac (ay (uH J) h);replace l:=ac ((uH l).trans (h.mono (uH l).size));clear h K2;have N:=ad w2 (.cells #[CI (t:Nat)] 69);have x3:=ac (d9 w2 (CI (t:Nat)) 69);replace I:=ac (ay (uH I) N);replace J:=ac (ay (uH J) N);have HS:=ac (uH l).size;replace l:=ac ((uH l).trans (N.mono (uH l).size));clear N
 go_wp2
 go_ret
 exact⟨_,rfl,⟨_,_,_,rfl,Nat.le_refl _,uH HS,Nat.le_succ _,uH I,uH x3,uH J⟩,uH l⟩
theorem An(G H:GY)(I J t:Nat)(l h:H3)(w:World)(N:ag w G I (aX l))(O:ag w H J (aX h))(K:l.length=h.length)(Q:h.length<=64)(U:t<18446744073709551616)(M:cX w):
  GF 259 #[.slice G l.length I,.slice H h.length J,CI t] w fun e F=>∃v,e=.returned v/\OZ F v w.heap.size G H l.length I h.length J (mV t (cH 0 h l))/\H8 w F:=by
 refine DU G H l.length I h.length J t (cH 0 h l) _ w (fun F L=>?_) (fun F L=>?_)
 ·have D:=xh H G J I (aX h) (aX l) F (O.below L) (N.below L) (M.all L)
  have g:Ow (aX h) (aX l)=true:=decide_eq_true ⟨by rw[aC];exact Q,by rw[aC,aC,K]⟩;rw[if_pos g,if_pos g,BJ (aX h) (aX l) (aX h).length (Nat.le_refl _) (by rw[aC,aC,K];exact Nat.le_refl _),iV,iV,aC,aC,List.take_of_length_le (Nat.le_refl _),List.take_of_length_le (by rw[K];exact Nat.le_refl _)]at D;exact D
 ·refine nX t (cH 0 h l) F U ?_ (M.all L)
  have:=rG (aX h) (aX l) (aX h).length
  rwa[BJ (aX h) (aX l) (aX h).length (Nat.le_refl _) (by rw[aC,aC,K];exact Nat.le_refl _),iV,iV,aC,List.take_of_length_le (Nat.le_refl _),List.take_of_length_le (by rw[K];exact Nat.le_refl _)]at this
structure ot (w wr:World) (r c n cap:Nat) (ao:GY) (S:H3):Prop where
 bel:H8 w wr
 m:aE wr w.heap.size (C0 r) (C0 c) (.slice ao n cap)
 res:aE wr (w.heap.size+1) (C0 0) (C0 0) (.slice none 0 0)
 row:bS wr (w.heap.size+1+1) S
theorem ot.all{w wr t:World}{r c n cap:Nat}{ao:GY}{S:H3}(h:ot w wr r c n cap ao S)(l:H8 wr t):ot w t r c n cap ao S:=
 ⟨h.bel.trans (l.mono h.bel.size),h.m.all l,h.res.all l,h.row.below l h.row.lt⟩
theorem ot.set{w wr:World}{r c n cap:Nat}{ao:GY}{S:H3}(h:ot w wr r c n cap ao S)(p x:Nat):ot w (wr.setCell ⟨w.heap.size+1+1,p,none⟩ (CI (x:Int))) r c n cap ao (S.set p x):=
 ⟨h.bel.setCell (p:=⟨w.heap.size+1+1,p,none⟩) (by show w.heap.size<=w.heap.size+1+1;omega) _,h.m.other (p:=⟨w.heap.size+1+1,p,none⟩) (by show w.heap.size≠w.heap.size+1+1;omega) _,h.res.other (p:=⟨w.heap.size+1+1,p,none⟩) (by show w.heap.size+1≠w.heap.size+1+1;omega) _,h.row.set p x⟩
theorem ot.start(w:World)(r c n cap:Nat)(ao:GY):
  ot w (((w.alloc (.cells #[C0 r,C0 c,.slice ao n cap] 24)).alloc (.cells #[C0 0,C0 0,.slice none 0 0] 24)).alloc (.cells (madeCells #[CI 0] n) 69)) r c n cap ao (List.replicate n 0):=by
 have t:=ad w (.cells #[C0 r,C0 c,.slice ao n cap] 24);have K:=an w (.cells #[C0 r,C0 c,.slice ao n cap] 24);have L:=aE.new w (C0 r) (C0 c) (.slice ao n cap);generalize w.alloc (.cells #[C0 r,C0 c,.slice ao n cap] 24)=h at*;have D:=ad h (.cells #[C0 0,C0 0,.slice none 0 0] 24);have F:=an h (.cells #[C0 0,C0 0,.slice none 0 0] 24);have G:=aE.new h (C0 0) (C0 0) (.slice none 0 0);generalize h.alloc (.cells #[C0 0,C0 0,.slice none 0 0] 24)=J at*;have l:=ad J (.cells (madeCells #[CI 0] n) 69);have H:=bS.made J n;rw[K]at G F;rw[F]at H;have I:=t.trans (D.mono t.size);exact⟨I.trans (l.mono I.size),(L.all D).all l,G.all l,H⟩
theorem ot.copied{w wr l:World}{r c n cap:Nat}{ao:GY}{S T:H3}(h:ot w wr r c n cap ao S)(t:Below (w.heap.size+1+1) wr l)(D:bS l (w.heap.size+1+1) T):ot w l r c n cap ao T:=
 ⟨h.bel.trans (t.mono (by omega)),h.m.below t (by omega),h.res.below t (by omega),D⟩
structure vh (w wr:World) (r c n cap:Nat) (ao:GY) (S:H3) (bx bt bv:Nat) (po vo:GY) (L pc vc t:Nat) (X:List Int):Prop where
 st:ot w wr r c n cap ao S
 lx:w.heap.size+1+1+1<=bx
 lt:w.heap.size+1+1+1<=bt
 lv:w.heap.size+1+1+1<=bv
 cx:wr.cell? ⟨bx,0,none⟩=some (.slice po L pc)
 ct:wr.cell? ⟨bt,0,none⟩=some (CI (t:Nat))
 cv:wr.cell? ⟨bv,0,none⟩=some (.slice vo L vc)
 x:ag wr po pc X
 nx:dw (w.heap.size+1+1+1) po X
theorem vh.all{w wr D:World}{r c n cap:Nat}{ao:GY}{S:H3}{F G H:Nat}{I J:GY}{L K M t:Nat}{X:List Int}(h:vh w wr r c n cap ao S F G H I J L K M t X)(l:H8 wr D):vh w D r c n cap ao S F G H I J L K M t X:=
 ⟨h.st.all l,h.lx,h.lt,h.lv,ay h.cx l,ay h.ct l,ay h.cv l,h.x.below l,h.nx⟩
theorem vh.set{w wr:World}{r c n cap:Nat}{ao:GY}{S:H3}{l D F:Nat}{G H:GY}{L I J t:Nat}{X:List Int}(h:vh w wr r c n cap ao S l D F G H L I J t X)(p x:Nat):vh w (wr.setCell ⟨w.heap.size+1+1,p,none⟩ (CI (x:Int))) r c n cap ao (S.set p x) l D F G H L I J t X:=by
 have K:=h.lx;have M:=h.lt;have N:=h.lv;refine⟨h.st.set p x,K,M,N,?_,?_,?_,h.x.far h.nx (by omega) p _,h.nx⟩
 ·rw[au _ _ _ _ (show l≠w.heap.size+1+1 by omega)];exact h.cx
 ·rw[au _ _ _ _ (show D≠w.heap.size+1+1 by omega)];exact h.ct
 ·rw[au _ _ _ _ (show F≠w.heap.size+1+1 by omega)];exact h.cv
theorem xI(r c n cap i k L vc ae:Nat)(ao vo:GY)(T:Nat->Nat->H3)(X:Nat->List Int)(P U:Nat->Nat->Nat)(t:Nat->Nat)(w:World)(bb:n<=36)(h6:c<=6)(bc:r<=6)(bd:i+L<=r)(hk:k<=c)
  (D:ag w ao cap (aX (T k 0))) (lT:∀d j,(T d j).length=n) (J:∀d,T d L=T (d+1) 0)
  (hP:∀d j,k<=d->d<c->j<L->P d j<n/\(i+j)*c+d=P d j/\(T d j).set (P d j) (U d j)=T d (j+1))
  (C1:∀h d,H8 w h->k<=d->d<c->GF 95 #[.agg #[C0 r,C0 c,.slice ao n cap],C0 i,C0 (d:Nat),C0 L,C0 1] h fun e H=>∃l F,e=.returned (.tuple #[.agg #[C0 L,C0 1,.slice l L F],C0 0])/\dw h.heap.size l (X d)/\ag H l F (X d)/\H8 h H)
  (C2:∀h d l F,H8 w h->k<=d->d<c->ag h l F (X d)->GF 259 #[.slice l L F,.slice vo L vc,CI ae] h fun e H=>∃v,e=.returned v/\OZ H v h.heap.size l vo L F L vc (t d)/\H8 h H)
  (C3:∀h d j l F bx bt bv,H8 w h->k<=d->d<c->j<L->ag h l F (X d)->h.cell? ⟨bx,0,none⟩=some (.slice l L F)->h.cell? ⟨bt,0,none⟩=some (CI (t d:Nat))->h.cell? ⟨bv,0,none⟩=some (.slice vo L vc)->BS 280 #[C0 (j:Nat),.pointer (some ⟨bx,0,none⟩),.pointer (some ⟨bt,0,none⟩),.pointer (some ⟨bv,0,none⟩)] h (CI (U d j:Nat))):
  GF 227 #[.agg #[C0 r,C0 c,.slice ao n cap],C0 i,C0 k,.slice vo L vc,CI ae] w fun e h=>∃g,e=.returned (.agg #[C0 r,C0 c,.slice (some ⟨g,0,none⟩) n n])/\w.heap.size<=g/\bS h g (T c 0)/\H8 w h:=by
 have G:=ac (ot.start w r c n cap ao);have a0:=run_make_row' (P:=Tryz.prog) 22 69 (CI 0) 8 Tryz.underlying22 (by kernel_rfl) rfl .i64 .i64 n (by omega) (by omega);have HP:=ac hP;have K1:=ac C1;have K2:=ac C2;have K3:=ac C3;have LT:=ac lT;have HX:=ac J;obtain⟨w5,a7,ax,aI⟩:=Hb _ (w.heap.size+1+1) n cap ao (T k 0) (uH G).row (D.below (uH G).bel) (lT k 0);have am:=ac ((uH G).copied aI ax);clear hP C1 C2 C3 lT D ax aI J;have y0:=(uH G).m.c0;have O:=(uH G).m.c1;have y2:=(uH G).m.c2
 go_enter Tryz.func227,Tryz.ntmps227
 go_wp2_with fail;clear a0 a7 y0 O y2 G
 go_loopw[12] (fun a wr=>∃d:Nat,k<=d/\d<=c/\a=.int .i64 d/\Hid (ot w wr r c n cap ao (T d 0))) (fun a _=>c-(intOf a).toNat)
 case atStart=>exact⟨k,Nat.le_refl _,hk,rfl,am⟩
 case round=>
  clear am;obtain⟨d,M,bn,rfl,D⟩:=hrel
  by_cases K:d<c
  ·have be:(d:Int)<(c:Int):=by omega
   have y0:=(uH D).m.c0;have O:=(uH D).m.c1;have y2:=(uH D).m.c2;go_wp2_with fail;clear y0 O y2;refine(uH K1 _ d (uH D).bel M K).mono ?_;rintro e w2 ⟨l,F,rfl,hn,hx,I⟩;have S2:=ac ((uH D).all I);have HN:=ac (dw.least hn (show w.heap.size+1+1+1<=wr.heap.size from(uH D).row.lt));have HB:=ac hx;clear hn hx I D;go_wp2_with fail;have ba:=ad w2 (.cells #[C0 L,C0 1,.slice l L F] 24);replace S2:=ac ((uH S2).all ba);replace HB:=ac ((uH HB).below ba);clear ba;have HL:=ac (show w.heap.size+1+1+1<=(w2.alloc (.cells #[C0 L,C0 1,.slice l L F] 24)).heap.size from(uH S2).row.lt);refine(uH K2 _ d l F (uH S2).bel M K (uH HB)).mono ?_;rintro e w3 ⟨v,rfl,hv,I⟩;obtain⟨bx,bt,bv,rfl,l1,l2,l3,c1,c2,c3⟩:=hv.ex;have S3:=ac (show vh w w3 r c n cap ao (T d 0) bx bt bv l vo L F vc (t d) (X d)from⟨(uH S2).all I,Nat.le_trans (uH HL) l1,Nat.le_trans (uH HL) l2,Nat.le_trans (uH HL) l3,c1,c2,c3,(uH HB).below I,uH HN⟩);clear hv I l1 l2 l3 c1 c2 c3 S2 HN HB HL;have KC:=ac (fun h j I hj hx N h2 h3=>uH K3 h d j l F bx bt bv I M K hj hx N h2 h3);have a1:=ac (fun j hj=>uH HP d j M K hj);have a2:=ac (uH LT d);have a3:=ac (uH HX d);generalize bo:T d=TD at*;generalize bp:U d=UD at*;generalize bq:P d=PD at*;generalize t d=td at*;generalize X d=XD at*;go_wp2_with fail
   go_loopw[48] (fun a wr=>∃j:Nat,j<=L/\a=.int .i64 j/\Hid (vh w wr r c n cap ao (TD j) bx bt bv l vo L F vc td XD)) (fun a _=>L-(intOf a).toNat)
   case atStart=>exact⟨0,Nat.zero_le _,rfl,S3⟩
   case round=>
    clear S3;obtain⟨j,hj,rfl,D⟩:=hrel
    by_cases ap:j<L
    ·have bi:(j:Int)<(L:Int):=by omega
     obtain⟨hp,aa,Q⟩:=uH a1 j ap;have KJ:=ac (fun h I hx N h2 h3=>uH KC h j I ap hx N h2 h3);have LL:=ac (uH a2 j);have HN:=ac Q;clear Q;obtain⟨a,ha⟩:∃a,i+j=a:=⟨_,rfl⟩;rw[ha]at aa;obtain⟨q,hq⟩:∃q,a*c=q:=⟨_,rfl⟩;rw[hq]at aa;have e1:IntKind.i64.wrap ((i:Int)+(j:Int))=(a:Int):=(bF _ (by omega)).trans (by omega);have e2:IntKind.i64.wrap ((a:Int)*(c:Int))=(q:Int):=by
      rw[ch a c,hq];exact bF _ (by omega)
     have e3:IntKind.i64.wrap ((q:Int)+(d:Int))=(PD j:Int):=(bF _ (by omega)).trans (by omega);have e4:(i:Int)+(j:Int)=(a:Int):=by omega
     have e5:(a:Int)*(c:Int)=(q:Int):=by rw[ch a c,hq]
     have e6:(q:Int)+(d:Int)=(PD j:Int):=by omega
     have w1:IntKind.i64.wrap (a:Int)=(a:Int):=bF _ (by omega);have w2:IntKind.i64.wrap (q:Int)=(q:Int):=bF _ (by omega);have w3:IntKind.i64.wrap (PD j:Int)=(PD j:Int):=bF _ (by omega);generalize br:TD j=TT at*;generalize a9:TD (j+1)=TN at*;generalize PD j=p at*;generalize UD j=u at*;have bm:(p:Int)<(n:Int):=by omega
     clear hq aa ha;go_wp2_with fail;refine aB (fun W=>vh w W r c n cap ao TT bx bt bv l vo L F vc td XD) (uH D) ?_;clear D;intro W st;have G:=ac (st.all ((Below.refl W.heap.size W).drew));clear st;have O:=(uH G).st.m.c1
     go_region_with (first
      |(go_at_call 280;refine(uH KJ _ (uH G).st.bel (uH G).x (uH G).cx (uH G).ct (uH G).cv).mono ?_;rintro e w8 ⟨rfl,I⟩;clear O;have S8:=(uH G).all I;have O:=S8.st.m.c1;have d1:=S8.st.row.cell p (by rw[uH LL];exact hp);have a4:=S8.st.row.free p;have P9:=ac (S8.set p u);clear S8 I G KJ)
      |fail "NO ARM")
     all_goals
      clear d1 a4 O;go_wp2_with fail
      go_round
      case rel=>exact⟨j+1,by omega,by go_num,by rw[a9,<-uH HN];exact P9⟩
      case measure=>simp[intOf];omega
    ·have a5:j=L:=by omega
     subst a5;have S4:=ac (uH D).st;rw[uH a3]at S4;clear D;go_wp2_with fail
     go_round
     case rel=>exact⟨d+1,by omega,by omega,by go_num,S4⟩
     case measure=>simp[intOf];omega
  ·have a6:d=c:=by omega
   subst a6;obtain⟨h6,N,Z,h5⟩:=uH D;have y0:=N.c0;have O:=N.c1;have y2:=N.c2;have r0:=Z.c0;have r1:=Z.c1;have r2:=Z.c2;have f0:=Z.free 0;have f1:=Z.free 1;have f2:=Z.free 2;have XP:=Z.put (C0 r) (C0 d) (.slice (some ⟨w.heap.size+1+1,0,none⟩) n n);have z0:=XP.c0;have z1:=XP.c1;have z2:=XP.c2;have RW:=ac (h5.three (g:=w.heap.size+1) (by omega) (C0 r) (C0 d) (.slice (some ⟨w.heap.size+1+1,0,none⟩) n n));have BP:=ac (az h6 (b:=w.heap.size+1) (by omega) (C0 r) (C0 d) (.slice (some ⟨w.heap.size+1+1,0,none⟩) n n));clear XP N Z h5 h6 D;go_wp2_with fail;exact bodyPost_ret (v:=.agg #[C0 r,C0 d,.slice (some ⟨w.heap.size+1+1,0,none⟩) n n]) (by simp[results,Tryz.results227,go_sem,z0,z1,z2]) rfl ⟨_,rfl,by omega,uH RW,uH BP⟩
theorem MS(r c:Int)(ao:GY)(n cap:Nat)(i k:Int)(M:GY)(L N F:Nat)(w:World)
  (H:∀l,BS 117 #[.agg #[C0 r,C0 c,.slice ao n cap]] l (C0 1)):
  GF 196 #[.agg #[C0 r,C0 c,.slice ao n cap],C0 i,C0 k,.slice M L N,CI F] w fun e l=>∃v,e=.returned (.tuple #[v,C0 1])/\bO w.heap.size l 0 0 [] v/\H8 w l:=by
 have K:=ac (H ((w.alloc (.cells #[C0 r,C0 c,.slice ao n cap] 24)).alloc (.cells #[C0 0,C0 0,.slice none 0 0] 24)));(try unfold BS at K);(try unfold H8 at K);simp only[an]at K;have I:=ac (jf w (C0 r) (C0 c) (.slice ao n cap) (C0 0) (C0 0) (.slice none 0 0));clear H
 go_enter Tryz.func196,Tryz.ntmps196
 go_wp2_with fail;refine Calls.mono (uH K) ?_;rintro e Z ⟨rfl,t⟩;obtain⟨J,U,h⟩:=uH I Z t;clear K I t U;have f0:=h.free 0;have f1:=h.free 1;have f2:=h.free 2;have s0:=h.c0;have s1:=h.c1;have s2:=h.c2;have D:=h.put (C0 0) (C0 0) (.slice none 0 0);have O:=D.c0;have z1:=D.c1;have z2:=D.c2;have Q:=ac (az J (b:=w.heap.size+1) (by omega) (C0 0) (C0 0) (.slice none 0 0));clear D h J
 go_wp2
 refine bodyPost_ret (v:=.tuple #[.agg #[C0 0,C0 0,.slice none 0 0],_]) (by simp[results,Tryz.results196,go_sem,O,z1,z2]) rfl ⟨_,rfl,bO.zero _ _,uH Q⟩
theorem DV(r c n cap i k L U F:Nat)(ao Z:GY)(S:H3)(w:World)(N:r<=6)(hi:i+L<=r)(hk:k<=c)
  (C1:∀h,BS 117 #[.agg #[C0 r,C0 c,.slice ao n cap]] h (C0 0))
  (C2:∀h,H8 w h->GF 227 #[.agg #[C0 r,C0 c,.slice ao n cap],C0 i,C0 k,.slice Z L U,CI F] h fun e t=>∃g,e=.returned (.agg #[C0 r,C0 c,.slice (some ⟨g,0,none⟩) n n])/\h.heap.size<=g/\bS t g S/\H8 h t):
  GF 196 #[.agg #[C0 r,C0 c,.slice ao n cap],C0 i,C0 k,.slice Z L U,CI F] w fun e h=>∃g,e=.returned (.tuple #[.agg #[C0 r,C0 c,.slice (some ⟨g,0,none⟩) n n],C0 0])/\w.heap.size+2<=g/\bS h g S/\H8 w h:=by
 have K:=ac (C1 ((w.alloc (.cells #[C0 r,C0 c,.slice ao n cap] 24)).alloc (.cells #[C0 0,C0 0,.slice none 0 0] 24)));(try unfold BS at K);(try unfold H8 at K);simp only[an]at K;have KB:=ac (jf w (C0 r) (C0 c) (.slice ao n cap) (C0 0) (C0 0) (.slice none 0 0));have K2:=ac C2;have HZ:=ac (show w.heap.size+2<=((w.alloc (.cells #[C0 r,C0 c,.slice ao n cap] 24)).alloc (.cells #[C0 0,C0 0,.slice none 0 0] 24)).heap.size by rw[an,an];omega);have hw:IntKind.i64.wrap ((r:Int)-(L:Int))=(r:Int)-(L:Int):=bF _ (by omega);have h1:(i:Int)<=(r:Int)-(L:Int):=by omega
 have h2:(k:Int)<=(c:Int):=by omega
 clear C1 C2
 go_enter Tryz.func196,Tryz.ntmps196
 go_wp2_with fail;refine Calls.mono (uH K) ?_;rintro e w1 ⟨rfl,D⟩;obtain⟨H,M,l⟩:=uH KB w1 D;have G:=ac (Nat.le_trans (uH HZ) D.size);clear K KB D HZ;have a0:=M.c0;have a1:=M.c1;have a2:=M.c2;have I:=ac H;have HX:=ac l;clear H M l;go_wp2_with fail;clear a0 a1 a2;refine(uH K2 _ (uH I)).mono ?_;rintro e w2 ⟨g,rfl,hg,N,O⟩;have H:=(uH I).trans (O.mono (uH I).size);have l:=(uH HX).all O;have HG:=ac (Nat.le_trans (uH G) hg);have f0:=l.free 0;have f1:=l.free 1;have f2:=l.free 2;have s0:=l.c0;have s1:=l.c1;have s2:=l.c2;have J:=l.put (C0 r) (C0 c) (.slice (some ⟨g,0,none⟩) n n);have z0:=J.c0;have z1:=J.c1;have z2:=J.c2;have Q:=ac (N.three (g:=w.heap.size+1) (by have:=uH HG;omega) (C0 r) (C0 c) (.slice (some ⟨g,0,none⟩) n n));have BP:=ac (az H (b:=w.heap.size+1) (by omega) (C0 r) (C0 c) (.slice (some ⟨g,0,none⟩) n n));clear H l O hg N J I HX K2 G
 go_wp2
 exact bodyPost_ret (v:=.tuple #[.agg #[C0 r,C0 c,.slice (some ⟨g,0,none⟩) n n],C0 0]) (by simp[results,Tryz.results196,go_sem,z0,z1,z2]) rfl ⟨_,rfl,uH HG,uH Q,uH BP⟩
theorem O5{r c:Nat}{S:H3}(l:∀p q,a8 c S p q<18446744073709551616)(i k:Nat)(t:H3)(h:Nat):∀x∈rR r c S i k t h,x<18446744073709551616:=by
 intro x D;unfold rR kZ at D;obtain⟨p,_,rfl⟩:=List.mem_map.1 D;show(if _ then _ else _)<_
 split
 ·rename_i g
  exact G9 c S i _ t h (by omega) l
 ·exact l _ _
theorem Hp(c:Nat)(S:H3)(i d n:Nat):t5 c S i d n 1=bH c S i n d:=by
 unfold t5 kZ bH;rw[Nat.mul_one];refine List.map_congr_left (fun p _=>?_);show a8 c S (i+p/1) (d+p%1)=_;rw[Nat.div_one,Nat.mod_one,Nat.add_zero]
theorem se(r c cap i k L l:Nat)(ao M:GY)(S t:H3)(w:World)(h:Mx w ao cap r c S)(hV:ag w M L (aX t))(hi:i+t.length<=r)(hk:k<=c)(ht:l<18446744073709551616)(hT:cX w):
  GF 196 #[.agg #[C0 r,C0 c,.slice ao S.length cap],C0 i,C0 k,.slice M t.length L,CI l] w fun e K=>∃g,e=.returned (.tuple #[.agg #[C0 r,C0 c,.slice (some ⟨g,0,none⟩) S.length S.length],C0 0])/\w.heap.size+2<=g/\bS K g (rR r c S i k t l)/\H8 w K:=by
 have ae:=h.small;have r6:=h.2.2.1;have c6:=h.2.2.2;refine DV r c S.length cap i k t.length L l ao M (rR r c S i k t l) w r6 hi hk (fun K=>?_) (fun K hb=>?_)
 ·have:=mW (r:Int) (c:Int) ao S.length cap K (by omega)
  rw[if_pos (pw h)]at this;exact this
 have hM:=h.below hb;have Q:=hV.below hb;have U:=hT.all hb;rw[<-Lm r c S i k t l c (Nat.le_refl _)];refine xI r c S.length cap i k t.length L l ao M (fun d j=>DF r c S i k t l d j) (fun d=>aX (bH c S i t.length d)) (fun d j=>(i+j)*c+d) (fun d j=>(BI c S i d t l).getD j 0) (fun d=>mV l (cH 0 t (bH c S i t.length d))) K ae c6 r6 hi hk
  (by show ag K ao cap (aX (DF r c S i k t l k 0));rw[Qn r c S i k t l h.2.1];exact hM.1) (fun d j=>by rw[Ll,h.2.1]) (fun d=>G8 r c S i k t l d)
  (fun d j hd G J=>⟨by rw[h.2.1];exact dK (by omega) G,rfl,Ln r c S hi G hd J⟩) (fun F d D hd G=>?_) (fun F d po N D hd G hX=>?_) (fun F d j po N bx bt bv D hd G J hX hx aa hv=>?_)
 ·refine(k7 r c cap i d t.length 1 ao S F (hM.below D) hi (by omega)).mono ?_
  rintro e O ⟨v,rfl,⟨po,N,rfl,hn,hx⟩,H⟩;rw[Hp]at hn hx⊢;rw[bD];exact⟨po,N,rfl,hn,hx,H⟩
 ·have I:=An po M N L l (bH c S i t.length d) t F hX (Q.below D) (bD _ _ _ _ _) (by omega) ht (U.all D)
  rw[bD]at I;exact I
 ·have am:=Q.below D
  have Z:=U.all D;obtain⟨b1,o1,e1,_,z1⟩:=hX.ne (by rw[aC,bD];omega);obtain⟨b2,o2,e2,_,z2⟩:=am.ne (by rw[aC];omega);subst e1;subst e2;have q1:=z1 j (by rw[aC,bD];exact J);have q2:=z2 j (by rw[aC];exact J);rw[fW,gU c S i t.length d J]at q1;rw[fW]at q2;have lv:t.getD j 0<18446744073709551616:=by
   have:=hV.lt j
   rwa[fW]at this
  show Calls _ _ _ F fun e O=>e=.returned (CI ((BI c S i d t l).getD j 0:Nat))/\_
  rw[uY c S i d t l J];exact Am _ _ _ (mV (mV l (cH 0 t (bH c S i t.length d))) (t.getD j 0)) _ j t.length t.length N L bx bv bt b1 o1 b2 o2 F J J hx hv aa q1 q2
   (fun O H=>nX _ _ O (iQ _ _) lv (Z.all H)) (fun O H=>le _ _ O (h.el_lt _ _) (iQ _ _) (Z.all H))
theorem DW(r c cap i k F t:Nat)(ao G:GY)(S D:H3)(w:World)(h:Mx w ao cap r c S)(J:ag w G F (aX D))(K:i+D.length<=r)(L:k<=c)(M:t<18446744073709551616)(N:cX w):
  GF 196 #[.agg #[C0 r,C0 c,.slice ao S.length cap],C0 i,C0 k,.slice G D.length F,CI t] w fun e H=>∃v,e=.returned (.tuple #[v,C0 0])/\bO w.heap.size H r c (rR r c S i k D t) v/\H8 w H:=by
 refine(se r c cap i k F t ao G S D w h J K L M N).mono ?_;rintro e H ⟨g,rfl,U,O,Q⟩;have l:S.length=(rR r c S i k D t).length:=by rw[mg,h.2.1]
 have I:=O.bits (O5 (fun p q=>h.el_lt p q) i k D t);refine⟨_,rfl,⟨_,S.length,by rw[l],.inr ⟨g,0,rfl,by omega⟩,?_⟩,Q⟩;rw[l];exact I
end Go.Proofs.YtcbcmlaogehimaaGreatDoor
namespace Go.Proofs.YtcbcmlaogehimaaGreatDoor
open Go.RowKit
theorem LD(a b:Nat)(h:ah (aV a b)=true):ah a=true:=by
 by_cases l:fK a=4
 ·unfold aV at h
  rw[if_pos (.inl l)]at h;exact absurd h (by decide+kernel)
 by_cases t:fK a=3
 ·unfold aV at h
  by_cases D:fK b=4
  ·rw[if_pos (.inr D)]at h
   exact absurd h (by decide+kernel)
  ·rw[if_neg (fun e=>e.elim l D),if_pos t]at h
   split at h
   ·exact absurd h (by decide+kernel)
   ·exact h
 exact fO a t l
theorem jh(l:H3):cF l=true↔∀k,k<l.length->ah (l.getD k 0)=true:=by
 unfold cF;rw[qp];exact⟨fun h k t=>by have:=h k t;rwa[fW]at this,fun h k t=>by rw[fW];exact h k t⟩
theorem LF{r c:Nat}{S:H3}(H:S.length=r*c)(i k:Nat)(D:H3)(l:Nat)(h:cF (rR r c S i k D l)=true):cF S=true:=by
 rw[jh]at h⊢;intro x F;rw[mg]at h;rw[H]at F;obtain⟨I,J,G⟩:=iE F;have t:ah (a8 c (rR r c S i k D l) (x/c) (x%c))=true:=by
  have:=h x F;unfold a8
  rwa[G]
 rw[t7 r c S i k D l I J]at t;have e:S.getD x 0=a8 c S (x/c) (x%c):=by unfold a8;rw[G]
 rw[e]
 split at t
 ·rename_i g
  rw[uY c S i (x%c) D l (j:=x/c-i) (by omega)]at t;have:=LD _ _ t
  rwa[show i+(x/c-i)=x/c by omega]at this
 ·exact t
theorem Hq(r c:Nat)(S:H3)(K:Nat):∀t d,cF (sH r c S K (t+d))=true->cF (sH r c S K t)=true:=by
 intro t d
 induction d with
 |zero=>exact fun h=>h
 |succ d ih=>exact fun h=>ih (LF (gV r c S K (t+d)) _ _ _ _ h)
theorem LG(r c:Nat)(S:H3)(h:S.length=r*c):t5 c S 0 0 r c=S:=by
 conv=>rhs;rw[<-uT r c S h]
 unfold t5;refine dL (fun p q _ _=>?_);rw[Nat.zero_add,Nat.zero_add];rfl
theorem vi(r c cap:Nat)(ao:GY)(S:H3)(w:World)(h:Mx w ao cap r c S)(hT:cX w):
  GF 151 #[.agg #[C0 r,C0 c,.slice ao S.length cap]] w fun e t=>Ab w t (Lr r c S (bZ r c)) r c S.length (bZ r c) (dy r c S) (fun j=>kt (ei r c S j)) (fun j=>kA (ei r c S j)) e/\H8 w t:=by
 have L:=h.2.1;have O:=h.2.2.1;have Z:=h.2.2.2;have lR:=fun j=>(jt r c S L j).trans L.symm
 have F:∀j,(ei r c S j).length=r-j:=ku r c S;have lV:∀j,(kt (ei r c S j)).length=r-j:=fun j=>by rw[iW,F]
 refine Lv r c S.length cap (bZ r c) (min (c:Int) ((r:Int)-1)) ao (kB r c S) (fun j=>kt (ei r c S j)) (fun j=>kA (ei r c S j)) (fun j=>cF (ei r c S j)&&GX (ei r c S j)) (Lr r c S (bZ r c)) w O Z rfl (fun j=>by rw[jz];omega) lR lV (fun j _=>Ae h.1.nat (j+1)) ?_ ?_ ?_
 ·rw[Lw]
  exact⟨fun q j J=>by rw[(q j J).1,(q j J).2];rfl,fun q j J=>by have:=q j J;rwa[Bool.and_eq_true]at this⟩
 ·intro t G
  refine(k7 r c cap 0 0 r c ao S t (h.below G) (by omega) (by omega)).mono ?_;rintro e H ⟨v,rfl,⟨Q,U,rfl,hn,D⟩,l⟩;rw[LG r c S L]at hn D⊢;exact⟨Q,U,rfl,hn,D,l⟩
 ·intro w1 j Q U J aa hp
  have ae:=(jz r c j).1 J;have I:=hT.all aa;refine Lt r c S.length U j (r-j) (kA (ei r c S j)) (mX (ei r c S j)) Q (kB r c S j) (rR r c (kB r c S j) j j (kt (ei r c S j)) (kA (ei r c S j))) (kB r c S (j+1)) (ei r c S j) (kt (ei r c S j)) _ w1 O (by omega) rfl hp (fun t G=>?_) (fun t K d M G D=>?_) (fun t K d M G D=>?_) (fun t vo vc G hp hv=>?_) (fun t g N=>?_)
  ·have:=k7 r c U j j (r-j) 1 Q (kB r c S j) t ⟨G,jt r c S L j,O,Z⟩ (by omega) (by omega)
   rw[lR j]at this;refine this.mono ?_;rintro e H ⟨v,rfl,⟨K,d,rfl,hn,D⟩,l⟩;rw[Hp]at D⊢;rw[bD];exact⟨K,d,rfl,D,l⟩
  ·rw[Bool.and_eq_true]at M
   have:=Ho K d (aX (ei r c S j)) t D (by rw[aC,F];omega) (by rw[aC,F];omega) (by rw[aC];exact M.1) (by rw[iV];exact M.2) (I.all G);rw[iV,aC,F]at this;exact this
  ·cases hf:cF (ei r c S j)
   ·have:=DT K d (aX (ei r c S j)) t D (by rw[aC,F];omega) (by rw[aC,F];omega) (by rw[aC];exact hf)
    rw[aC,F]at this;refine this.mono ?_;rintro e H ⟨so,cs,rfl,l⟩;exact⟨so,cs,4,rfl,.inr rfl,l⟩
   ·have hk:GX (ei r c S j)=false:=by
     have:=M;rw[hf,Bool.true_and]at this;exact this
    have:=Al K d (aX (ei r c S j)) t D (by rw[aC,F];omega) (by rw[aC,F];omega) (by rw[aC];exact hf) (by rw[iV];exact hk) (I.all G);rw[aC,F]at this;refine this.mono ?_;rintro e H ⟨so,cs,rfl,l⟩;exact⟨so,cs,2,rfl,.inl rfl,l⟩
  ·have:=se r c U j j vc (kA (ei r c S j)) Q vo (kB r c S j) (kt (ei r c S j)) t ⟨hp,jt r c S L j,O,Z⟩ hv (by rw[lV];omega) (by omega) (G0 _) (I.all G)
   rw[lR j,lV]at this;refine this.mono ?_;rintro e H ⟨g,rfl,hg,hr,l⟩;exact⟨g,rfl,by omega,hr,l⟩
  ·have:=zZ r c j (mX (ei r c S j)) g _ t O Z (by omega) (by omega) (mg r c (kB r c S j) j j (kt (ei r c S j)) (kA (ei r c S j))) N
   rw[mg,<-L]at this;exact this
theorem xJ(r c K:Nat)(lo:GY)(S:H3)(R:List Mr)(w:World)(I:r<=6)(hc:c<=6)(Z:cW 0 w (.slice lo (bZ r c) K) R)(L:R.length=bZ r c)(M:∀k,k<bZ r c->(gJ R k).V=kt (ei r c S k)/\(gJ R k).tau=kA (ei r c S k))(hT:cX w):
  GF 152 #[C0 r,.slice lo (bZ r c) K] w fun e h=>∃Q l D,(Q=iG r c S\/(iD (aX Q) (r*r)=false/\cF (iG r c S)=false))/\Q.length=r*r/\e=.returned (.agg #[C0 r,C0 r,.slice l (r*r) D])/\dw w.heap.size l (aX Q)/\ag h l D (aX Q)/\H8 w h:=by
 have lX:∀j,(ei r c S j).length=r-j:=ku r c S;have lV:∀j,(kt (ei r c S j)).length=r-j:=fun j=>by rw[iW,lX]
 have hK:bZ r c<=6:=by unfold bZ;omega
 refine(Ac r (r*r) (bZ r c) K lo (fun j=>kt (ei r c S j)) (sH r c S (bZ r c)) (fun j=>kA (ei r c S j)) R w (Nat.mul_le_mul I I) hK Z L M (gV r c S _) lV ?_ ?_ (fun h x G=>gE x h G)).mono ?_
 ·intro h
  refine(Lc r h I).mono ?_;rintro e O ⟨v,rfl,⟨l,D,rfl,H,J⟩,F⟩;exact⟨l,D,by rw[show(ML r).length=r*r from cQ r r _],H,J,F⟩
 ·intro h t j po pc vo vc ht hj J hp hv
  have aa:=(jz r c j).1 (by omega);have:=DW r r pc j 0 vc (kA (ei r c S j)) po vo (sH r c S (bZ r c) t) (kt (ei r c S j)) h ⟨hp,gV r c S _ t,I,I⟩ hv (by rw[lV];omega) (by omega) (G0 _) (hT.all J);rw[gV,lV]at this;refine this.mono ?_;rintro e O ⟨v,rfl,⟨l,D,rfl,H,G⟩,F⟩;rw[mg];have e:rR r r (sH r c S (bZ r c) t) j 0 (kt (ei r c S j)) (kA (ei r c S j))=sH r c S (bZ r c) (t+1):=by
   show _=rR r r (sH r c S (bZ r c) t) (bZ r c-1-t) 0 (kt (ei r c S (bZ r c-1-t))) (kA (ei r c S (bZ r c-1-t)));rw[<-hj]
  rw[e]at H G;exact⟨l,D,rfl,H,G,F⟩
 ·rintro e h ⟨t,l,D,ht,U,rfl,H,G,J⟩
  refine⟨_,l,D,?_,gV r c S _ t,rfl,H,G,J⟩;rcases U with e|e
  ·left;rw[e];rfl
  ·right
   refine⟨e,?_⟩
   cases hf:cF (iG r c S)
   ·rfl
   ·have N:=Hq r c S (bZ r c) t (bZ r c-t) (by rw[show t+(bZ r c-t)=bZ r c by omega];exact hf)
    unfold cF at N;rw[gV,e]at N
    cases N
theorem xK(r c cap:Nat)(ao:GY)(S:H3)(w:World)(h:Mx w ao cap r c S)(L:cF S=true)(I:cX w):
  GF 94 #[.agg #[C0 r,C0 c,.slice ao S.length cap]] w fun e l=>((mY r c S=true/\u5 w l r c S.length (r*r) (bZ r c) (iG r c S) (dy r c S) e)\/(mY r c S=false/\∃v u,e=.returned (.tuple #[v,u,C0 2])/\bO w.heap.size l 0 0 [] v/\bO w.heap.size l 0 0 [] u))/\H8 w l:=by
 have J:=h.2.1;have D:=h.2.2.1;have Z:=h.2.2.2;have aa:=h.small;have K:r*r<=36:=Nat.mul_le_mul D D;have F:(dy r c S).length=S.length:=(jt r c S J _).trans J.symm;have G:qm (r:Int) (c:Int) (aX S)=0:=by
  unfold qm;rw[aC,pw h];have:iD (aX S) S.length=true:=L;rw[this];rfl
 refine DI r c S.length (r*r) (bZ r c) cap ao (dy r c S) (iG r c S) (fun j=>kt (ei r c S j)) (fun j=>kA (ei r c S j)) (Lr r c S (bZ r c)) (cF (iG r c S)) (cF (dy r c S)) w F (gV _ _ _ _ _) (by unfold cF;rw[show(iG r c S).length=r*r from gV _ _ _ _ _]) ?_ (fun l t=>vi r c cap ao S l (h.below t) (I.all t)) (fun l lo M R t N O U=>xJ r c M lo S R l D Z N O U (I.all t)) ?_ ?_
 ·intro l t
  have:=ks r c ao cap (aX S) l (h.1.below t) (by rw[aC];omega);rw[aC,G]at this;exact this
 ·intro l Q qo qc t H
  have:=dO qo qc (aX Q) l t (by rw[aC];omega);rw[aC,H]at this;exact this
 ·intro l ro rc t
  have:=dO ro rc (aX (dy r c S)) l t (by rw[aC];omega);unfold cF;rw[aC,F]at this;rw[F];exact this
theorem pC(r c cap:Nat)(ao:GY)(S:H3)(w:World)(h:Mx w ao cap r c S)(F:cF S=true)(G:cX w):
  GF 94 #[.agg #[C0 r,C0 c,.slice ao S.length cap]] w fun e l=>((mY r c S=true/\∃v u,e=.returned (.tuple #[v,u,C0 0])/\bO w.heap.size l r r (iG r c S) v/\bO w.heap.size l r c (dy r c S) u)\/(mY r c S=false/\∃v u,e=.returned (.tuple #[v,u,C0 2])/\bO w.heap.size l 0 0 [] v/\bO w.heap.size l 0 0 [] u))/\H8 w l:=by
 refine(xK r c cap ao S w h F G).mono ?_;rintro e l ⟨⟨H,t⟩|t,D⟩
 ·exact⟨.inl ⟨H,t.two (gV _ _ _ _ _) ((jt r c S h.2.1 _).trans h.2.1.symm)⟩,D⟩
 ·exact⟨.inr t,D⟩
theorem xL(r c cap:Nat)(ao:GY)(S:H3)(w:World)(h:Mx w ao cap r c S)(D:cF S=true)(F:mY r c S=true)(G:cX w):
  GF 94 #[.agg #[C0 r,C0 c,.slice ao S.length cap]] w fun e t=>∃v u,e=.returned (.tuple #[v,u,C0 0])/\bO w.heap.size t r r (iG r c S) v/\bO w.heap.size t r c (dy r c S) u/\H8 w t:=by
 refine(pC r c cap ao S w h D G).mono ?_;rintro e t ⟨⟨_,v,u,rfl,H,I⟩|⟨l,_⟩,J⟩
 ·exact⟨v,u,rfl,H,I,J⟩
 ·rw[F]at l;cases l
theorem Ao(r c cap:Nat)(ao:GY)(S:H3)(w:World)(h:Mx w ao cap r c S)(D:cF S=true)(F:mY r c S=false)(G:cX w):
  GF 94 #[.agg #[C0 r,C0 c,.slice ao S.length cap]] w fun e t=>∃v u,e=.returned (.tuple #[v,u,C0 2])/\bO w.heap.size t 0 0 [] v/\bO w.heap.size t 0 0 [] u/\H8 w t:=by
 refine(pC r c cap ao S w h D G).mono ?_;rintro e t ⟨⟨l,_⟩|⟨_,v,u,rfl,H,I⟩,J⟩
 ·rw[F]at l;cases l
 ·exact⟨v,u,rfl,H,I,J⟩
theorem DX(r c cap:Nat)(ao:GY)(S:H3)(w:World)(h:Mx w ao cap r c S)(H:cF S=true)(I:mY r c S=true)(J:cX w):
  GF 49 #[.agg #[C0 r,C0 c,.slice ao S.length cap]] w fun e l=>∃v u,e=.returned (.tuple #[v,u,C0 0])/\bO w.heap.size l r (min r c) (t5 r (iG r c S) 0 0 r (min r c)) v/\bO w.heap.size l (min r c) c (t5 c (dy r c S) 0 0 (min r c) c) u/\H8 w l:=by
 have t:=h.2.2.1;have U:=h.2.2.2;have D:(iG r c S).length=r*r:=gV _ _ _ _ _;have F:(dy r c S).length=r*c:=jt r c S h.2.1 _;refine Ls r c S.length cap (min r c) (r*r) (r*c) (r*min r c) (min r c*c) ao (iG r c S) (dy r c S) _ _ w (by omega) D F (cQ _ _ _) (cQ _ _ _) (fun l G=>xL r c cap ao S l (h.below G) H I (J.all G)) (fun l K L M=>?_) (fun l N O Q=>?_)
 ·have:=k7 r r L 0 0 r (min r c) K (iG r c S) l ⟨M,D,t,t⟩ (by omega) (by omega)
  rw[D]at this;exact this
 ·have:=k7 r c O 0 0 (min r c) c N (dy r c S) l ⟨Q,F,t,U⟩ (by omega) (by omega)
  rw[F]at this;exact this
theorem Hr(r c cap:Nat)(ao:GY)(S:H3)(w:World)(h:Mx w ao cap r c S)(D:cF S=true)(F:mY r c S=false)(G:cX w):
  GF 49 #[.agg #[C0 r,C0 c,.slice ao S.length cap]] w fun e l=>∃v u,e=.returned (.tuple #[v,u,C0 2])/\bO w.heap.size l 0 0 [] v/\bO w.heap.size l 0 0 [] u/\H8 w l:=
 Hc r c ao S.length cap 2 w (.inr (.inr rfl)) (fun l t=>Ao r c cap ao S l (h.below t) D F (G.all t))
theorem xM(r c s cap d:Nat)(ao t:GY)(S T:H3)(w:World)(h:Mx w ao cap r c S)(G:Mx w t d r s T)(H:cX w):
  GF 51 #[.agg #[C0 r,C0 c,.slice ao S.length cap],.agg #[C0 r,C0 s,.slice t T.length d]] w fun e l=>∃v,e=.returned (.tuple #[v,C0 0])/\bO w.heap.size l c s (IH c r s (sG r c S) T) v/\H8 w l:=by
 have F:(sG r c S).length=c*r:=cQ _ _ _;refine Ad r c ao S.length cap r s t T.length d (c*r) _ c r c s (sG r c S) (IH c r s (sG r c S) T) 0 w F rfl (fun l D=>GT r c cap ao S l (h.below D)) (fun l I J D K=>?_);have:=Le c r J s d I t (sG r c S) T l ⟨K,F,h.2.2.2,h.2.2.1⟩ (G.below D) (H.all D);rw[F]at this;exact this
end Go.Proofs.YtcbcmlaogehimaaGreatDoor
