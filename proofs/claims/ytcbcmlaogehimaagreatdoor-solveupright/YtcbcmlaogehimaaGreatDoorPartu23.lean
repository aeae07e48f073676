/- Part 23 of the texts. -/
import Derived.Test.YtcbcmlaogehimaaGreatDoorPartu22
set_option maxHeartbeats 4000000
set_option maxRecDepth 20000
namespace Go.Proofs.YtcbcmlaogehimaaGreatDoor
open Go.RowKit
theorem rJ(z1 z2 lo1 lo2:Int)(F:z1≠0)(G:z2≠0)(H:lo1<=oE z1 lo1)(I:lo2<=oE z2 lo2):
  oM (z1*z2)=oM (oM z1*oM z2)/\oE (z1*z2) (lo1+lo2)=oE (oM z1*oM z2) (oE z1 lo1+oE z2 lo2):=by
 have h:=kI z1 lo1 F;have l:=kI z2 lo2 G;obtain⟨i,t⟩:∃i:Nat,oE z1 lo1=lo1+i:=⟨(oE z1 lo1-lo1).toNat,by omega⟩;obtain⟨j,D⟩:∃j:Nat,oE z2 lo2=lo2+j:=⟨(oE z2 lo2-lo2).toNat,by omega⟩;rw[t,show(lo1+(i:Int)-lo1).toNat=i by omega]at h;rw[D,show(lo2+(j:Int)-lo2).toNat=j by omega]at l;have e:z1*z2=oM z1*oM z2*2^(i+j):=by
  rw[Int.pow_add,show oM z1*oM z2*(2^i*2^j)=oM z1*2^i*(oM z2*2^j) by ac_rfl,h,l]
 have s:=iy (oM z1*oM z2) (i+j) (lo1+lo2);rw[<-e]at s;refine⟨s.1,?_⟩;rw[s.2,t,D]
 congr 1
 omega
theorem Bo(z lo:Int)(h:z≠0):lo<=oE z lo:=by
 rw[dc _ _ h];omega
theorem Qk{w:World}{v u:Value}{h l t D:Int}(U:aH w v h t)(Z:aH w u l D)(I:h.natAbs<1152921504606846976)(J:l.natAbs<1152921504606846976)(b1:-3000<=t/\t<=3000)(b2:-3000<=D/\D<=3000):
  GF 18 #[v,u] w fun r K=>∃q,r=.returned q/\aH K q (oM (h*l)) (oE (h*l) (t+D))/\H8 w K:=by
 have F:(1152921504606846976:Nat)<=4294967296^30:=by decide+kernel
 obtain⟨n,a,c,L,rfl,M,g2,N,g4,g5⟩:=U.right (df _ (by omega));obtain⟨n',a',c',H,rfl,O,k2,Q,k4,k5⟩:=Z.right (df _ (by omega));have v1:aj L=h.natAbs:=by rw[<-N,aU]
 have v2:aj H=l.natAbs:=by rw[<-Q,aU]
 have l1:L.length<=30:=(ju L M.2.1 (aG g2).2.1 30).2 (by rw[v1];exact Nat.lt_of_lt_of_le I F);have l2:H.length<=30:=(ju H O.2.1 (aG k2).2.1 30).2 (by rw[v2];exact Nat.lt_of_lt_of_le J F);have:=Fa n n' a a' c c' L H t D w M O l1 l2;rw[N,Q]at this;have hm:(h*l).natAbs<2^120:=by
  rw[Int.natAbs_mul];have:h.natAbs*l.natAbs<1152921504606846976*1152921504606846976:=Nat.mul_lt_mul_of_lt_of_le I (Nat.le_of_lt J) (by decide);exact Nat.lt_of_lt_of_le this (by decide)
 have hE:(if h*l=0 then 0 else IntKind.i64.wrap (IntKind.i64.wrap (t+D)+tz (h*l).natAbs))=oE (h*l) (t+D):=by
  by_cases G:h*l=0
  ·rw[if_pos G,G,bL]
  ·have ht:tz (h*l).natAbs<120:=mr _ 120 (by omega) hm
   rw[if_neg G,dc _ _ G,bC (t+D) (by omega),bC _ (by omega)]
 rwa[hE]at this
def aN(w:World)(v:Value)(lo z:Int):Prop:=aH w v (oM z) (oE z lo)
theorem aN.below{w l:World}{v:Value}{lo z:Int}(h:aN w v lo z)(t:H8 w l):aN l v lo z:=aH.below h t
theorem aN.zero(w:World)(lo:Int):aN w (.agg #[.bool false,.slice none 0 0,C0 0]) lo 0:=by
 unfold aN;rw[bj,bL];exact aH.zero w none 0
theorem aN.lower{w:World}{v:Value}{lo z:Int}(h:aN w v lo z)(k:Nat):aN w v (lo-k) (z*2^k):=by
 unfold aN;have s:=iy z k (lo-k);rw[show lo-(k:Int)+k=lo by omega]at s;rw[s.1,s.2];exact h
theorem ma(b:Nat)(w:World)(h:b<18446744073709551616)(t:ah b=true):
  GF 60 #[CI b] w fun r l=>∃u,r=.returned u/\aN l u (-1074) (fZ b)/\H8 w l:=by
 obtain⟨D,F⟩:=d7 b h t;unfold aN;rw[D,F];exact ke b w h
theorem Ql{b:Nat}(h:fZ b≠0):fK b≠0:=fun e=>h (by
 have:=ie b;rw[(dY b).1 e,gp]at this;omega)
theorem Gz(b:Nat)(h:b<18446744073709551616)(l:ah b=true):(oM (fZ b)).natAbs<9007199254740992/\-1074<=oE (fZ b) (-1074)/\oE (fZ b) (-1074)<=1024:=by
 by_cases t:fZ b=0
 ·rw[t,bj,bL];decide
 ·obtain⟨D,F⟩:=d7 b h l
  obtain⟨z1,z2,I,J,G,H,K,L,M⟩:=gf b h l (Ql t);rw[D,F];exact⟨z2,G,H⟩
theorem MH{a b:Nat}{w:World}{v u:Value}(F:a<18446744073709551616)(G:b<18446744073709551616)(H:ah a=true)(I:ah b=true)(J:aN w v (-1074) (fZ a))(K:aN w u (-1074) (fZ b)):
  GF 18 #[v,u] w fun r t=>∃q,r=.returned q/\aN t q (-2148) (fZ a*fZ b)/\H8 w t:=by
 obtain⟨M,N,O⟩:=Gz a F H;obtain⟨Q,U,Z⟩:=Gz b G I;have:=Qk J K (by omega) (by omega) (by omega) (by omega);unfold aN
 by_cases h:fZ a=0
 ·rw[h]at this⊢
  rw[bj,Int.zero_mul,bj,bL]at this;rw[Int.zero_mul,bj,bL];exact this
 by_cases l:fZ b=0
 ·rw[l]at this⊢
  rw[bj,Int.mul_zero,bj,bL]at this;rw[Int.mul_zero,bj,bL];exact this
 obtain⟨L,D⟩:=rJ (fZ a) (fZ b) (-1074) (-1074) h l (Bo _ _ h) (Bo _ _ l);rw[show(-1074:Int)+-1074= -2148 by decide]at D;rw[L,D];exact this
theorem Kv{w:World}{v:Value}{lo:Int}{W:Nat}{z:Int}(n:Int)(D:aN w v lo z)(l:ga lo W z)(F:-32768<=n/\n<=32768):
  GF 29 #[v,C0 n] w fun r t=>∃q,r=.returned q/\aN t q (lo+n) z/\H8 w t:=by
 unfold aN at*;obtain⟨I,ao,J,A,rfl,K,L,M,N,O⟩:=D.right l.right.2;have G:=re l.right.1;have:=yT I ao J A _ n w K L G F;rw[M,PC]at this
 by_cases h:z=0
 ·subst h
  rw[bj,bL]at*;exact this
 ·rw[PE _ _ h]at this
  have H:oE z (lo+n)=oE z lo+n:=by rw[dc _ _ h,dc _ _ h];omega
  rw[H];exact this
attribute [local go_sem ↓] Go.wp_at_zero Go.wp_at_succ
theorem ga.more{lo:Int}{W l:Nat}{z:Int}(h:ga lo W z)(t:W<=l)(D:lo+l<=16384)(F:l<=16384):ga lo l z:=
 ⟨Nat.lt_of_lt_of_le h.1 (Nat.pow_le_pow_right (by decide) t),h.2.1,D,F⟩
def xk(I:List Int):Nat->Int
 |0=>0
 |k+1=>xk I k+fZ (bg I k)*fZ (bg I k)
def MI:Nat:=2^4196
theorem Kw:MI=2^2098*2^2098:=by decide+kernel
theorem GA:64*MI<2^4203:=by decide+kernel
theorem zK(x:Int):0<=x*x:=by
 rcases Int.le_total 0 x with h|h
 ·exact Int.mul_nonneg h h
 ·exact Int.mul_nonneg_of_nonpos_of_nonpos h h
theorem GB(b:Nat)(l:ah b=true):(fZ b*fZ b).natAbs<MI:=by
 rw[Int.natAbs_mul,Kw];have h:=ew b l;generalize (2:Nat)^2098=P at*;exact Nat.mul_lt_mul'' h h
theorem OA(I:List Int)(n:Nat)(h:iD I n=true):∀k,k<=n->0<=xk I k/\(xk I k).natAbs<=k*MI:=by
 intro k
 induction k with
 |zero=>intro _;exact⟨Int.le_refl _,by rw[Nat.zero_mul];exact Nat.le_refl _⟩
 |succ k ih=>
  intro D;obtain⟨H,J⟩:=ih (by omega);have t:ah (bg I k)=true:=by
   have l:(iD I k&&ah (bg I k))=true:=nY I n (k+1) D h;rw[Bool.and_eq_true]at l;exact l.2
  have F:=GB (bg I k) t;have G:0<=fZ (bg I k)*fZ (bg I k):=zK _;show 0<=xk I k+fZ (bg I k)*fZ (bg I k)/\(xk I k+fZ (bg I k)*fZ (bg I k)).natAbs<=(k+1)*MI;generalize fZ (bg I k)*fZ (bg I k)=q at*;generalize xk I k=s at*;rw[Nat.succ_mul];generalize MI=P at*;omega
theorem Kx(I:List Int)(n:Nat)(D:n<=64)(h:iD I n=true)(k:Nat)(l:k<=n):ga (-2148) 4203 (xk I k):=by
 obtain⟨F,t⟩:=OA I n h k l;refine⟨?_,by decide,by decide,by decide⟩;exact Nat.lt_of_le_of_lt (Nat.le_trans t (Nat.mul_le_mul_right _ (by omega))) GA
theorem Ky(b:Nat)(l:ah b=true):ga (-2148) 4203 (fZ b*fZ b):=by
 have h:=GB b l;refine⟨?_,by decide,by decide,by decide⟩;exact Nat.lt_of_lt_of_le h (Nat.le_trans (show MI<=64*MI by omega) (Nat.le_of_lt GA))
theorem s7(ao:GY)(c:Nat)(I:List Int)(w:World)(hI:ag w ao c I)(hn:I.length<=64)(hf:iD I I.length=true):
  GF 32 #[.slice ao I.length c] w fun e D=>∃v,e=.returned v/\aN D v (-2148) (xk I I.length)/\H8 w D:=by
 have HI:=ac hI;obtain⟨n,ax⟩:∃n,I.length=n:=⟨_,rfl⟩;rw[ax]at hn hf⊢;have HN:=ac ax;have HF:=ac hf;have HL:=ac (fun k hk=>Kx I n hn hf k hk);have XR:=ac ((ar.new w (.bool false) (.slice none 0 0) (C0 0)).old (.cells #[.bool false,.slice none 0 0,C0 0] 35));have K:=ar.new (w.alloc (.cells #[.bool false,.slice none 0 0,C0 0] 35)) (.bool false) (.slice none 0 0) (C0 0);(try unfold H8 at K);rw[an]at K;have XS:=ac K;have B0:=ac ((ad w (.cells #[.bool false,.slice none 0 0,C0 0] 35)).alloc (by simp) (.cells #[.bool false,.slice none 0 0,C0 0] 35));clear hI ax K hf
 go_enter Tryz.func32,Tryz.ntmps32
 go_wp2_with fail
 go_loopw[4] (fun i wr=>∃(k:Nat) (O:Bool) (Q:GY) (U Z:Nat) (X:Int),k<=n/\i=.int .i64 k/\Hid (ar wr w.heap.size (.bool false) (.slice none 0 0) (C0 0))/\Hid (ar wr (w.heap.size+1) (.bool O) (.slice Q U Z) (C0 X))/\Hid (aN wr (.agg #[.bool O,.slice Q U Z,C0 X]) (-2148) (xk I k))/\Hid (H8 w wr)) (fun i _=>n-(intOf i).toNat)
 case atStart=>exact⟨0,false,none,0,0,0,Nat.zero_le _,rfl,XR,XS,aN.zero _ _,B0⟩
 case round=>
  clear XR XS B0;obtain⟨k,O,Q,U,Z,X,hk,rfl,H,K,hs,hB⟩:=hrel
  by_cases a3:k<n
  ·have bb:(k:Int)<(n:Int):=by omega
   obtain⟨b,be,ba,hb,hc⟩:=((uH HI).below hB.out).ne (by rw[uH HN];omega);have bc:=hc k (by rw[uH HN];exact a3);have ae:=(uH HI).lt k;have F:ah (bg I k)=true:=by
    have h2:(iD I k&&ah (bg I k))=true:=nY I n (k+1) (by omega) (uH HF);rw[Bool.and_eq_true]at h2;exact h2.2
   have C1:=ac (fun D=>ma (bg I k) D ae F);have C2:=ac (fun D v (hv:aN D v (-1074) (fZ (bg I k)))=>MH ae ae F F hv hv);have G:=uH HL k (by omega);have C3:=ac (fun D v u (hv:aN D v (-2148) (xk I k)) (hu:aN D u (-2148) (fZ (bg I k)*fZ (bg I k)))=>(show GF 19 #[v,u] D fun r aI=>∃q,r=.returned q/\aN aI q (-2148) (xk I k+fZ (bg I k)*fZ (bg I k))/\H8 D aI from tY hv hu G (Ky _ F)));have eV:Hid (xk I (k+1)=xk I k+fZ (bg I k)*fZ (bg I k)):=rfl;subst ba;clear hc ae F G;generalize xk I k+fZ (bg I k)*fZ (bg I k)=s2 at*;generalize fZ (bg I k)*fZ (bg I k)=p at*;generalize fZ (bg I k)=z at*;generalize bg I k=x at*;go_wp2_with fail;refine(uH C1 _).mono ?_;rintro e wv ⟨q,rfl,⟨L,M,N,L1,rfl,i1⟩,t⟩;have hv:aN wv (.agg #[.bool L,.slice M L1.length N,C0 (oE z (-1074))]) (-1074) z:=⟨L,M,N,L1,rfl,i1⟩;generalize L1.length=G at*;generalize oE z (-1074)=X1 at*;have HV:=ac (hv.below (ad wv (.cells #[.bool L,.slice M G N,C0 X1] 35)));have bv:=hB.out.trans (t.mono hB.out.size);have BV:=ac (bv.alloc bv.size (.cells #[.bool L,.slice M G N,C0 X1] 35));have HS:=ac (((uH hs).below t).below (ad wv (.cells #[.bool L,.slice M G N,C0 X1] 35)));have XR:=ac (((uH H).all t).old (.cells #[.bool L,.slice M G N,C0 X1] 35));have XS:=ac (((uH K).all t).old (.cells #[.bool L,.slice M G N,C0 X1] 35));have XV:=ac (ar.new wv (.bool L) (.slice M G N) (C0 X1));clear i1 hv t bv hB hs H K C1;go_wp2_with fail;refine aB (fun W=>H8 w W/\ar W w.heap.size (.bool false) (.slice none 0 0) (C0 0)/\ar W (w.heap.size+1) (.bool O) (.slice Q U Z) (C0 X)/\ar W wv.heap.size (.bool L) (.slice M G N) (C0 X1)/\aN W (.agg #[.bool O,.slice Q U Z,C0 X]) (-2148) (xk I k)/\aN W (.agg #[.bool L,.slice M G N,C0 X1]) (-1074) z) ⟨uH BV,uH XR,uH XS,uH XV,uH HS,uH HV⟩ ?_;rintro W0 ⟨b0,x0,h,x2,h1,h2⟩;have b0:=b0.drew;have x0:=x0.drew;have h:=h.drew;have x2:=x2.drew;have h1:=h1.below ((Below.refl W0.heap.size W0).drew);have h2:=h2.below ((Below.refl W0.heap.size W0).drew);clear BV XR XS XV HS HV;have a0:w.heap.size<=w.heap.size+1:=by omega
   have a2:w.heap.size≠w.heap.size+1:=by omega
   have HZ:=ac a0;have ap:=ac a2;clear a0 a2;generalize wv.heap.size=gv at*;have y0:=h.c0;have y1:=h.c1;have y2:=h.c2;have f0:=h.free 0;have f1:=h.free 1;have f2:=h.free 2;have v0:=x2.c0;have v1:=x2.c1;have v2:=x2.c2;have X0:=ac x0;have l:=ac h;have bd:=ac x2;have H1:=ac h1;have H2:=ac h2;have BB:=ac b0;clear x0 h x2 h1 h2 b0
   go_region_with (first|(go_at_call 18;refine(uH C2 _ _ (uH H2)).mono ?_;rintro e w4 ⟨q,rfl,⟨n4,a4,c4,L4,rfl,i4⟩,J⟩;clear y0 y1 y2 f0 f1 f2 v0 v1 v2;have Q4:=ac (show aN w4 (.agg #[.bool n4,.slice a4 L4.length c4,C0 (oE p (-2148))]) (-2148) p from⟨n4,a4,c4,L4,rfl,i4⟩);generalize L4.length=l4 at*;generalize oE p (-2148)=X4 at*;have h:=(uH l).all J;have BB:=ac ((uH BB).trans (J.mono (uH BB).size));have X0:=ac ((uH X0).all J);have H1:=ac ((uH H1).below J);have l:=ac h;have y0:=h.c0;have y1:=h.c1;have y2:=h.c2;have f0:=h.free 0;have f1:=h.free 1;have f2:=h.free 2;clear i4 J h)|(go_at_call 19;refine(uH C3 _ _ _ (uH H1) (uH Q4)).mono ?_;rintro e w5 ⟨q,rfl,⟨n5,a5,c5,L5,rfl,i5⟩,am⟩;clear y0 y1 y2 f0 f1 f2;have Q5:=ac (show aN w5 (.agg #[.bool n5,.slice a5 L5.length c5,C0 (oE s2 (-2148))]) (-2148) s2 from⟨n5,a5,c5,L5,rfl,i5⟩);generalize L5.length=l5 at*;generalize oE s2 (-2148)=X5 at*;have h:=(uH l).all am;have BB:=ac ((uH BB).trans (am.mono (uH BB).size));have X0:=ac ((uH X0).all am);have l:=ac h;have y0:=h.c0;have y1:=h.c1;have y2:=h.c2;have f0:=h.free 0;have f1:=h.free 1;have f2:=h.free 2;clear i5 am h)|fail "NO ARM")
   all_goals
    have a6:=ac ((((uH X0).other (p:=⟨w.heap.size+1,0,none⟩) (uH ap) (.bool n5)).other (p:=⟨w.heap.size+1,1,none⟩) (uH ap) (.slice a5 l5 c5)).other (p:=⟨w.heap.size+1,2,none⟩) (uH ap) (C0 X5));have a7:=ac ((uH l).put (.bool n5) (.slice a5 l5 c5) (C0 X5));have Q':=ac (aH.put3 (uH Q5) (uH l) (.bool n5) (.slice a5 l5 c5) (C0 X5));have B':=ac ((((uH BB).setCell (p:=⟨w.heap.size+1,0,none⟩) (uH HZ) (.bool n5)).setCell (p:=⟨w.heap.size+1,1,none⟩) (uH HZ) (.slice a5 l5 c5)).setCell (p:=⟨w.heap.size+1,2,none⟩) (uH HZ) (C0 X5));clear X0 l Q5 BB;go_wp2_with fail
    go_round
    case rel=>exact⟨k+1,n5,a5,l5,c5,X5,by omega,by go_num,a6,a7,by rw[uH eV];exact Q',B'⟩
    case measure=>simp[intOf];omega
  ·have a9:k=n:=by omega
   subst a9;have y0:=(uH K).c0;have y1:=(uH K).c1;have y2:=(uH K).c2;have r0:=(uH H).c0;have r1:=(uH H).c1;have r2:=(uH H).c2;have f0:=(uH H).free 0;have f1:=(uH H).free 1;have f2:=(uH H).free 2;have t:w.heap.size+1≠w.heap.size:=by omega
   have HS:=ac (aH.put3 (uH hs) (uH H) (.bool O) (.slice Q U Z) (C0 X));have BE:=ac (((hB.out.setCell (p:=⟨w.heap.size,0,none⟩) (Nat.le_refl _) (.bool O)).setCell (p:=⟨w.heap.size,1,none⟩) (Nat.le_refl _) (.slice Q U Z)).setCell (p:=⟨w.heap.size,2,none⟩) (Nat.le_refl _) (C0 X));have xe:=(uH H).put (.bool O) (.slice Q U Z) (C0 X);have e0:=xe.c0;have e1:=xe.c1;have e2:=xe.c2;clear xe t H K hs hB;go_wp2_with fail;exact bodyPost_ret (v:=.agg #[.bool O,.slice Q U Z,C0 X]) (by simp[results,Tryz.results32,go_sem,e0,e1,e2]) rfl ⟨_,rfl,uH HS,uH BE⟩
end Go.Proofs.YtcbcmlaogehimaaGreatDoor
namespace Go.Proofs.YtcbcmlaogehimaaGreatDoor
open Go.RowKit
def cK(I:List Int):H3:=I.map Int.toNat
theorem iS(I:List Int):(cK I).length=I.length:=by simp[cK]
theorem rK(I:List Int)(j:Nat)(h:j<I.length):(cK I)[j]? =some (bg I j):=by simp[cK,bg,h]
theorem nZ(I:List Int)(j:Nat)(h:j<I.length):(cK I).take (j+1)=(cK I).take j++[bg I j]:=by
 rw[List.take_add_one,rK I j h];rfl
theorem Kz(I:List Int)(P:Nat->Prop)(h:∀j,j<I.length->P (bg I j)):∀x∈cK I,P x:=by
 intro x D;obtain⟨j,t,rfl⟩:=List.getElem_of_mem D;have l:j<I.length:=by rw[<-iS];exact t
 have e:=rK I j l;rw[List.getElem?_eq_getElem t]at e;rw[Option.some.inj e];exact h j l
theorem GC(x:Nat):∀(h:H3) (m:Nat),bT m (h++[x])=mx (bT m h) (fR x):=by
 intro h
 induction h with
 |nil=>intro m;rfl
 |cons y ys ih=>intro m;exact ih _
theorem GD(k:Int)(x:Nat):∀(h:H3) (s:Nat),tU k s (h++[x])=FS k (tU k s h) x:=by
 intro h
 induction h with
 |nil=>intro m;rfl
 |cons y ys ih=>intro m;exact ih _
theorem GE(I:List Int):∀j,j<=I.length->mv I j=bT 0 ((cK I).take j):=by
 intro j
 induction j with
 |zero=>intro _;rfl
 |succ j ih=>
  intro h;rw[nZ I j (by omega),GC,<-ih (by omega)];rfl
theorem oc(I:List Int):mv I I.length=bT 0 (cK I):=by
 rw[GE I _ (Nat.le_refl _),List.take_of_length_le (by rw[iS];exact Nat.le_refl _)]
theorem GG(k:Int)(I:List Int):∀j,j<=I.length->uR (tL k I) (tL k I) j=tU k 0 ((cK I).take j):=by
 intro j
 induction j with
 |zero=>intro _;rfl
 |succ j ih=>
  intro h;rw[nZ I j (by omega),GD,<-ih (by omega)];show aV (uR (tL k I) (tL k I) j) (mV (bg (tL k I) j) (bg (tL k I) j))=_;rw[show bg (tL k I) j=xV (bg I j) (-k)from Ox _ _ j (by omega)];rfl
theorem KA(k:Int)(I:List Int):uR (tL k I) (tL k I) I.length=tU k 0 (cK I):=by
 rw[GG k I _ (Nat.le_refl _),List.take_of_length_le (by rw[iS];exact Nat.le_refl _)]
theorem Bp(I:List Int):Ps I=bM (cK I):=by
 unfold Ps bM;rw[KA,oc]
attribute [local go_sem ↓] Go.wp_at_zero Go.wp_at_succ
theorem Dx(t D:Bool)(ao F:GY)(G H:Nat)(A B:H3)(x y:Int)(w:World)(hA:ai w ao G A)(hB:ai w F H B)(la:A.length<=512)(lb:B.length<=512)(hz:(af t A*af D B).natAbs<eE):
  GF 18 #[.agg #[.bool t,.slice ao A.length G,C0 x],.agg #[.bool D,.slice F B.length H,C0 y]] w fun r l=>∃v,r=.returned v/\aH l v (oM (af t A*af D B)) (if af t A*af D B=0 then 0 else IntKind.i64.wrap (IntKind.i64.wrap (x+y)+tz (af t A*af D B).natAbs))/\H8 w l:=by
 have CM:=ac (fun l h h'=>qJ t D ao F G H A B l h h' (by omega) (by omega));have CO:=ac (fun e' l u B' (Q:aA B' l u (af t A*af D B)) (he:e'=IntKind.i64.wrap (x+y))=>show GF 27 #[u,C0 e'] l fun r U=>∃u,r=.returned u/\aH U u (oM (af t A*af D B)) (if af t A*af D B=0 then 0 else IntKind.i64.wrap (IntKind.i64.wrap (x+y)+tz (af t A*af D B).natAbs))/\H8 l U by
  subst he;exact uy _ (Q.toM hz) (by decide) (qR _))
 clear hz;generalize af t A*af D B=z at*;generalize (if z=0 then 0 else IntKind.i64.wrap (IntKind.i64.wrap (x+y)+tz z.natAbs))=ox at*;generalize oM z=om at*;have Z:H8 w (((w.alloc (.cells #[.bool t,.slice ao A.length G,C0 x] 35)).alloc (.cells #[.bool D,.slice F B.length H,C0 y] 35)).alloc (.cells #[.bool false,.slice none 0 0,C0 0] 35)):=
  (((Below.refl _ _).alloc (Nat.le_refl _) _).alloc (by simp) _).alloc (by simp;omega) _
 have L:ar (((w.alloc (.cells #[.bool t,.slice ao A.length G,C0 x] 35)).alloc (.cells #[.bool D,.slice F B.length H,C0 y] 35)).alloc (.cells #[.bool false,.slice none 0 0,C0 0] 35)) w.heap.size (.bool t) (.slice ao A.length G) (C0 x):=((ar.new _ _ _ _).old _).old _;have M:ar (((w.alloc (.cells #[.bool t,.slice ao A.length G,C0 x] 35)).alloc (.cells #[.bool D,.slice F B.length H,C0 y] 35)).alloc (.cells #[.bool false,.slice none 0 0,C0 0] 35)) (w.heap.size+1) (.bool D) (.slice F B.length H) (C0 y):=by
  have:=(ar.new (w.alloc (.cells #[.bool t,.slice ao A.length G,C0 x] 35)) (.bool D) (.slice F B.length H) (C0 y)).old (.cells #[.bool false,.slice none 0 0,C0 0] 35)
  simpa using this
 have N:ar (((w.alloc (.cells #[.bool t,.slice ao A.length G,C0 x] 35)).alloc (.cells #[.bool D,.slice F B.length H,C0 y] 35)).alloc (.cells #[.bool false,.slice none 0 0,C0 0] 35)) (w.heap.size+1+1) (.bool false) (.slice none 0 0) (C0 0):=by
  have:=ar.new ((w.alloc (.cells #[.bool t,.slice ao A.length G,C0 x] 35)).alloc (.cells #[.bool D,.slice F B.length H,C0 y] 35)) (.bool false) (.slice none 0 0) (C0 0)
  simpa using this
 have B0:=ac Z;have X0:=ac L;have X1:=ac M;have X2:=ac N;clear Z L M N
 go_enter Tryz.func18,Tryz.ntmps18
 go_wp2_with fail;refine aB (fun W=>H8 w W/\ar W w.heap.size (.bool t) (.slice ao A.length G) (C0 x)/\ar W (w.heap.size+1) (.bool D) (.slice F B.length H) (C0 y)/\ar W (w.heap.size+1+1) (.bool false) (.slice none 0 0) (C0 0)) ⟨uH B0,uH X0,uH X1,uH X2⟩ ?_;clear B0 X0 X1 X2;rintro O ⟨b0,L,M,N⟩;have s0:w.heap.size+1+1<O.heap.size:=N.lt;have hK:∀l,Below (w.heap.size+1+1) O l->Below (w.heap.size+1+1) O l/\l.cell? ⟨w.heap.size,0,none⟩=some (.bool t)/\l.cell? ⟨w.heap.size,1,none⟩=some (.slice ao A.length G)/\l.cell? ⟨w.heap.size,2,none⟩=some (C0 x)/\l.cell? ⟨w.heap.size+1,0,none⟩=some (.bool D)/\l.cell? ⟨w.heap.size+1,1,none⟩=some (.slice F B.length H)/\l.cell? ⟨w.heap.size+1,2,none⟩=some (C0 y):=fun l h=>
  ⟨h,(L.below h (by omega)).c0,(L.below h (by omega)).c1,(L.below h (by omega)).c2,(M.below h (by omega)).c0,(M.below h (by omega)).c1,(M.below h (by omega)).c2⟩
 have HK:=ac hK;have BB:=ac b0;have X2:=ac N;clear hK b0 L M N
 go_region_held3(fun l=>Below (w.heap.size+1+1) O l/\l.cell? ⟨w.heap.size,0,none⟩=some (.bool t)/\l.cell? ⟨w.heap.size,1,none⟩=some (.slice ao A.length G)/\l.cell? ⟨w.heap.size,2,none⟩=some (C0 x)/\l.cell? ⟨w.heap.size+1,0,none⟩=some (.bool D)/\l.cell? ⟨w.heap.size+1,1,none⟩=some (.slice F B.length H)/\l.cell? ⟨w.heap.size+1,2,none⟩=some (C0 y))
  (first|exact uH HK _ (Below.refl _ _).drew|exact uH HK _ (by assumption)|exact uH HK _ (aJ am (by omega) _ _ _))
  (first|(go_at_call 54;refine(uH CM _ (hA.below ((uH BB).trans ((Below.refl _ _).drew))) (hB.below ((uH BB).trans ((Below.refl _ _).drew)))).mono ?_;rintro e w3 ⟨v,rfl,⟨n4,a4,c4,L4,rfl,i4⟩,I⟩;have aa:Below (w.heap.size+1+1) O w3:=((Below.refl _ _).drew).trans (I.mono (by simp;omega));have X3:=ac ((uH X2).drew.below I (by simp;omega));have IZ:=ac (show aA 0 w3 (.agg #[.bool n4,.slice a4 L4.length c4]) z from⟨n4,a4,c4,L4,rfl,i4⟩);have s1:=I.size;have ae:=ac ((uH BB).trans (aa.mono (by omega)));clear I i4)|(go_at_call 27;refine(uH CO _ _ _ _ (uH IZ) (by first|rfl|exact(gF _))).mono ?_;rintro e w4 ⟨u,rfl,Q,J⟩;obtain⟨n5,a5,c5,L5,rfl,i5⟩:=Q.num;have am:Below (w.heap.size+1+1) O w4:=aa.trans (J.mono (by simp at s1;omega));have K:=(uH X3).below J (by simp at s1;omega);have y0:=K.c0;have y1:=K.c1;have y2:=K.c2;have f0:=K.free 0;have f1:=K.free 1;have f2:=K.free 2;have IU:=ac Q;have X5:=ac K;have ap:=ac ((uH ae).trans (J.mono (by simp at s1;omega)));clear J Q i5 K))
 go_wp2
 refine bodyPost_ret (v:=.agg #[.bool n5,.slice a5 L5.length c5,C0 ox]) (by simp[results,Tryz.results18,go_sem,y0,y1,y2]) rfl ⟨_,rfl,(uH IU).put3 (uH X5) _ _ _,aJ (uH ap) (by omega) _ _ _⟩
theorem xl{w:World}{v u:Value}{lo1 lo2:Int}{W1 W2:Nat}{z1 z2:Int}(N:aN w v lo1 z1)(O:aN w u lo2 z2)(D:ga lo1 W1 z1)(F:ga lo2 W2 z2)(Q:W1+W2<=16384):
  GF 18 #[v,u] w fun r H=>∃q,r=.returned q/\aN H q (lo1+lo2) (z1*z2)/\H8 w H:=by
 unfold aN at*;have I:∀{z lo:Int} {W:Nat},ga lo W z->-16384<=oE z lo/\oE z lo<=16384:=fun{z lo W} h=>by
  by_cases G:z=0
  ·rw[G,bL];decide
  ·have:=h.tzs G
   have:=h.2;rw[dc _ _ G];omega
 have b1:=I D;have b2:=I F;obtain⟨na,ao,ca,A,rfl,a1,a2,L,a4,a5⟩:=N.right D.right.2;obtain⟨nb,bo,cb,B,rfl,c1,c2,M,c4,c5⟩:=O.right F.right.2;have J:(oM z1*oM z2).natAbs<2^(W1+W2):=by
  rw[Int.natAbs_mul];exact Nat.lt_of_le_of_lt (Nat.mul_le_mul (tO z1) (tO z2)) (mL D.1 F.1)
 have U:(oM z1*oM z2).natAbs<eE:=mK J Q;have:=Dx na nb ao bo ca cb A B (oE z1 lo1) (oE z2 lo2) w a1 c1 a4 c4 (by rw[L,M];exact U);rw[L,M]at this
 by_cases l:z1=0
 ·subst l
  rw[bj,Int.zero_mul,bj,if_pos rfl]at this;rw[Int.zero_mul,bj,bL];exact this
 by_cases t:z2=0
 ·subst t
  rw[bj,Int.mul_zero,bj,if_pos rfl]at this;rw[Int.mul_zero,bj,bL];exact this
 obtain⟨m1,m2⟩:=rJ z1 z2 lo1 lo2 l t (Bo _ _ l) (Bo _ _ t);have Z:=(g6 z1 l).1;have o2:=(g6 z2 t).1;have K:oM z1*oM z2≠0:=Int.mul_ne_zero Z o2;have ht:tz (oM z1*oM z2).natAbs<W1+W2:=mr _ (W1+W2) (by omega) J;rw[if_neg K,bC (oE z1 lo1+oE z2 lo2) (by omega),bC _ (by omega),<-dc _ (oE z1 lo1+oE z2 lo2) K]at this;rw[m1,m2];exact this
theorem MJ{w:World}{v u:Value}{lo:Int}{W:Nat}{z1 z2:Int}(l:aN w v lo z1)(t:aN w u lo z2)(D:ga lo W z1)(F:ga lo W z2):
  GF 19 #[v,u] w fun r h=>∃q,r=.returned q/\aN h q lo (z1+z2)/\H8 w h:=tY l t D F
theorem og:(Tryz.prog.info? 69).map (fun i=>(i.zero,i.size,i.bytes))=some (some (CI 0),1,8):=by kernel_rfl
def cT(base:Nat)(w:World)(v:Value)(S:H3):Prop:=w.ownsRow base 69 1 v S.length (S.map ml)/\∀x∈S,x<18446744073709551616
theorem cT.below{l:Nat}{w D:World}{v:Value}{S:H3}(h:cT l w v S)(t:H8 w D):cT l D v S:=
 ⟨h.1.kept (row:=none) ⟨t.os,t.tape,t.output,t.size,fun k F _=>t.block k F⟩ (by cases hv:v.ownBlock<;>simp),h.2⟩
theorem cT.bits{l:Nat}{w:World}{v:Value}{S:H3}(h:cT l w v S):∃ao cap,v=.slice ao S.length cap/\ag w ao cap (S.map (fun x:Nat=>(x:Int))):=by
 have M:(S.map ml).length=S.length:=by simp
 have H:∀x∈S.map (fun x:Nat=>(x:Int)),0<=x/\x<=18446744073709551615:=by
  intro x J;obtain⟨y,I,rfl⟩:=List.mem_map.1 J;have:=h.2 y I;omega
 rcases h.1.2 with⟨D,N⟩|⟨g,cap,K,D,O,F,Q,U,Z,L⟩
 ·have:S= []:=List.length_eq_zero_iff.1 (by omega)
  subst this;exact⟨none,0,D,⟨by simp,by simp,.inl rfl⟩⟩
 ·refine⟨some ⟨g,0,none⟩,cap,D,⟨by simp;omega,H,.inr ⟨g,0,rfl,(Array.getElem?_eq_some_iff.1 F).1,fun i G=>?_⟩⟩⟩
  have t:i<S.length:=by simpa using G
  have q:(S.map ml)[i]? =some (CI ((S[i]:Nat):Int)):=by
   rw[List.getElem?_map,List.getElem?_eq_getElem t];rfl
  rw[<-L,List.getElem?_take,if_pos (by omega)]at q;rw[cell_of_row w g _ _ _ _ F,Nat.zero_add];have e:(S.map (fun x:Nat=>(x:Int)))[i]?.getD 0=((S[i]:Nat):Int):=by simp[t]
  rw[e]
  simpa using q
theorem cT.nil(w:World)(l:Nat)(h:l<=w.heap.size):cT l (w.alloc (.cells #[] 69)) (.slice (some ⟨w.heap.size,0,none⟩) 0 0) []:=
 ⟨World.ownsRow_made w #[] 0 h (by simp[maxLen]) (by simp),by simp⟩
theorem cT.snoc{l:Nat}{w:World}{v:Value}{S:H3}{x n:Nat}(D:n=S.length)(h:w.ownsRow l 69 1 v (n+1) (S.map ml++[CI (x:Int)]))(F:∀x∈S,x<18446744073709551616)(G:x<18446744073709551616):cT l w v (S++[x]):=by
 subst D;refine⟨by simpa[ml]using h,fun y H=>?_⟩;rcases List.mem_append.1 H with t|t
 ·exact F y t
 ·simp at t;subst t;exact G
def kX(f:Nat->Nat)(k:Nat):H3:=(List.range k).map f
theorem iT(f:Nat->Nat)(k:Nat):(kX f k).length=k:=by simp[kX]
theorem oh(f:Nat->Nat)(k:Nat):kX f (k+1)=kX f k++[f k]:=by simp[kX,List.range_succ]
end Go.Proofs.YtcbcmlaogehimaaGreatDoor
namespace Go.Proofs.YtcbcmlaogehimaaGreatDoor
open Go.RowKit
theorem du{P:Program}(w:World){l:Array Oper}{rest:List Oper}{o:Oper}{a:Act}{Q:Exit->Act->World->Prop}(D:o.guard=none)(s x:Operand)(t:TypeId)
  (J:o.op=.call {callee:=.builtin .append,args:=#[s,x],argTypes:=#[t,t]}) (F G H:Value) (I:World) (K:a.eval s=F) (L:a.eval x=G)
  (M:(Builtin.append_ #[t,t] o.type #[F,G]).run P w=.ok H I) (h:wpList P l Q rest (a.put o.dst H) I):wpList P l Q (o::rest) a w:=
 wpList_plain D fun _ N=>by
  unfold Oper.wp execOp;simp only[J,resolve,invoke,builtin,Sem.run_bind,Sem.run_pure,Result.andThen_ok,List.map_toArray,List.map_cons,List.map_nil,K,L,M];exact N _ _ h
def MK(v u:Value):Prop:=∀g,v.ownBlock=some g->u.ownBlock≠some g
theorem cT.push{l:Nat}{w:World}{v:Value}{S:H3}(h:cT l w v S)(x:Nat)(hx:x<18446744073709551616)(hl:S.length<=1000000)(hb:l<=w.heap.size)(ty:TypeId):
  ∃G t,(Builtin.append_ #[22,22] ty #[v,.slice (some ⟨w.heap.size,0,none⟩) 1 1]).run Tryz.prog (w.alloc (.cells #[CI (x:Int)] 69))=.ok G t/\cT l t G (S++[x])/\Below l w t/\
   (∀u T,cT l w u T->MK v u->cT l t u T/\MK G u)/\(∀ao c I,ag w ao c I->(I= []\/∃b D,ao=some ⟨b,D,none⟩/\v.ownBlock≠some b)->ag t ao c I):=by
 obtain⟨i0,M,O,Q,U⟩:=info_parts og;obtain⟨G,t,e1,e2,L,e4,H⟩:=run_append_own_at (P:=Tryz.prog) (w.alloc (.cells #[CI (x:Int)] 69)) l 22 ty 69 i0 (CI 0) 1 8 Tryz.underlying22 M O Q U rfl (by decide) v S.length (S.map ml) (h.1.alloc _) ⟨w.heap.size,0,none⟩ 1 1 [CI (x:Int)] rfl (cell_one_new _ _ _) (fun u F=>by simp at F;subst F;rfl) (by unfold maxLen;omega) (by omega) (by simp;omega);have hn:cT l t G (S++[x]):=cT.snoc rfl e2 h.2 hx;refine⟨G,t,e1,hn,((ad w _).mono hb).grown L (by simp;omega) (fun g K=>(h.1.lt g K).1),?_,?_⟩
 ·intro u T F ha
  refine⟨⟨(F.1.alloc _).kept L ?_,F.2⟩,?_⟩
  ·cases hv:u.ownBlock with
   |none=>exact .inl rfl
   |some g=>
    right
    intro e;exact ha g e.symm hv
  ·intro g K J
   rcases H with H|H
   ·exact ha g (by rw[<-H];exact K) J
   ·rw[K]at H
    have h1:=(F.1.lt g J).2
    simp at H
    omega
 ·intro ao c I hI Z
  have N:=hI.below (ad w (.cells #[CI (x:Int)] 69));refine⟨N.1,N.2.1,?_⟩;rcases N.2.2 with e|⟨b,D,f1,f2,f3⟩
  ·exact .inl e
  rcases Z with e|⟨b',aa,g1,g2⟩
  ·exact .inl e
  rw[f1]at g1;simp only[Option.some.injEq,Addr.mk.injEq]at g1;obtain⟨rfl,rfl,_⟩:=g1;refine .inr ⟨b,D,f1,Nat.lt_of_lt_of_le f2 L.size,fun i M=>?_⟩;exact L.cell (f3 i M) (fun e=>g2 e.symm)
end Go.Proofs.YtcbcmlaogehimaaGreatDoor
