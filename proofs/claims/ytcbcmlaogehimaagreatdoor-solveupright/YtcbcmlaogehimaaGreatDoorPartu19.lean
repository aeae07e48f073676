/- Part 19 of the texts. -/
import Derived.Test.YtcbcmlaogehimaaGreatDoorPartu18
set_option maxHeartbeats 4000000
set_option maxRecDepth 20000
namespace Go.Proofs.YtcbcmlaogehimaaGreatDoor
open Go.RowKit
def fc(xs:H3)(i:Nat):Rat:=fQ (xs.getD i 0)
def vl(j:Nat)(xs:H3)(i:Nat):Rat:=if i<j then 0 else fc xs (i-j)
theorem jk:fQ 0=0:=bf 0 (by decide)
theorem kT:∀(n:Nat) (f:Nat->Rat),sm (n+1) f=f 0+sm n (fun i=>f (i+1)):=by
 intro n
 induction n with
 |zero=>intro f;show(0:Rat)+f 0=f 0+0;grind
 |succ n ih=>
  intro f;show sm (n+1) f+f (n+1)=f 0+(sm n (fun i=>f (i+1))+f (n+1));rw[ih]
  grind
theorem kU(j:Nat)(f:Nat->Rat):∀n,sm (j+n) f=sm j f+sm n (fun i=>f (j+i)):=by
 intro n
 induction n with
 |zero=>show sm j f=sm j f+0;grind
 |succ n ih=>
  show sm (j+n) f+f (j+n)=sm j f+(sm n (fun i=>f (j+i))+f (j+n));rw[ih]
  grind
theorem dz:∀(n:Nat) (f:Nat->Rat),(∀i,i<n->f i=0)->sm n f=0:=by
 intro n
 induction n with
 |zero=>intro f _;rfl
 |succ n ih=>
  intro f h;show sm n f+f n=0;rw[ih f (fun i l=>h i (by omega)),h n (by omega)]
  grind
theorem F0:∀(t l:H3),t.length=l.length->dt t.length (fc t) (fc l)=cG t l:=by
 intro t
 induction t with
 |nil=>
  intro l h;have:l= []:=by cases l with|nil=>rfl|cons y l=>simp at h
  subst this;rfl
 |cons v t ih=>
  intro l h
  cases l with
  |nil=>simp at h
  |cons y l=>
   have e:=ih l (by simpa using h);have D:cG (v::t) (y::l)=fQ v*fQ y+cG t l:=rfl;rw[D,<-e];show sm (t.length+1) _=_;rw[kT];rfl
theorem rB:∀(h:H3),dt h.length (fc h) (fc h)=aL h:=by
 intro h
 induction h with
 |nil=>rfl
 |cons x h ih=>
  have l:aL (x::h)=fQ x*fQ x+aL h:=rfl;rw[l,<-ih];show sm (h.length+1) _=_;rw[kT];rfl
theorem F1(j n:Nat)(h:H3)(y:Nat->Rat):dt (j+n) (vl j h) y=dt n (fc h) (fun i=>y (j+i)):=by
 unfold dt;rw[kU,dz j _ (fun i l=>by unfold vl;rw[if_pos l];grind)];rw[show∀z:Rat,(0:Rat)+z=z from fun z=>by grind];exact bN (fun i _=>by
  show vl j h (j+i)*y (j+i)=fc h i*y (j+i);unfold vl;rw[if_neg (by omega),show j+i-j=i by omega])
theorem nW(h:H3)(j i:Nat):fc h (j+i)=fc (h.drop j) i:=by
 unfold fc;rw[List.getD_eq_getElem?_getD,List.getD_eq_getElem?_getD,List.getElem?_drop]
theorem jr(l t:H3)(i:Nat)(h:i<l.length):fc (l++t) i=fc l i:=by
 unfold fc;rw[List.getD_eq_getElem?_getD,List.getD_eq_getElem?_getD,List.getElem?_append_left h]
theorem gT(h l:H3)(i:Nat):fc (h++l) (h.length+i)=fc l i:=by
 unfold fc;rw[List.getD_eq_getElem?_getD,List.getD_eq_getElem?_getD,List.getElem?_append_right (by omega),show h.length+i-h.length=i by omega]
theorem lZ(l:H3)(j i:Nat)(h:i<j):fc (l.take j) i=fc l i:=by
 unfold fc;rw[List.getD_eq_getElem?_getD,List.getD_eq_getElem?_getD,List.getElem?_take_of_lt h]
theorem qi(c E:Rat):∀(D l t:H3),cr c E D l t->t.length=l.length/\∀i,i<l.length->9007199254740992*ab (fc t i-(fc l i-c*fc D i))<=E:=by
 intro D
 induction D with
 |nil=>
  intro l t h
  cases l with
  |cons y l=>exact absurd h (by unfold cr;exact id)
  |nil=>
   cases t with
   |cons u t=>exact absurd h (by unfold cr;exact id)
   |nil=>exact⟨rfl,fun i F=>absurd F (by simp)⟩
 |cons v D ih=>
  intro l t h
  cases l with
  |nil=>exact absurd h (by unfold cr;exact id)
  |cons y l=>
   cases t with
   |nil=>exact absurd h (by unfold cr;exact id)
   |cons u t=>
    unfold cr at h;obtain⟨⟨_,G⟩,H⟩:=h;obtain⟨I,J⟩:=ih l t H;refine⟨by simp[I],fun i F=>?_⟩
    cases i with
    |zero=>exact G
    |succ i=>exact J i (by simpa using F)
theorem l8(n:Nat)(l:n<=6)(x:Nat->Rat)(e:Rat)(H:0<=e)(h:∀i,i<n->ab (x i)<=e):Bd n x (5/2*e):=by
 refine⟨by grind,?_⟩;have k:∀m,m<=n->dt m x x<=(m:Rat)*(e*e):=by
  intro m
  induction m with
  |zero=>intro _;show(0:Rat)<=((0:Nat):Rat)*_;have:((0:Nat):Rat)=0:=rfl;rw[this];grind
  |succ m ih=>
   intro Q;have I:=ih (by omega);have t:dt (m+1) x x=dt m x x+x m*x m:=rfl;have D:((m+1:Nat):Rat)=(m:Rat)+1:=by rw[Rat.natCast_add];rfl
   have q:x m*x m<=e*e:=by
    have J:=h m (by omega);have K:=bK (x m);have F:x m*x m=ab (x m)*ab (x m):=by rw[<-aM];exact(aQ (ak _)).symm
    have L:=Rat.mul_nonneg (show 0<=e-ab (x m) by grind) (show 0<=e+ab (x m) by grind);rw[F]
    grind
   rw[t,D]
   grind
 have M:=k n (Nat.le_refl _);have G:(n:Rat)<=6:=Rat.natCast_le_natCast.2 l;have N:=Rat.mul_nonneg (show 0<=6-(n:Rat) by grind) (ak e);have O:=ak e
 grind
theorem F2(j D:Nat)(Y:Rat)(t l:H3)(O:l.length<=6)(G:j+t.length=l.length)(Q:ah D=true)(U:1000*ab (fQ D)<=2001)(Z:∀v∈t,ah v=true/\1000*ab (fQ v)<=1001)(hy:∀y∈l,ah y=true)
  (J:gz (l.drop j)<=Y) (hY:Y<=p2 900) (K:1267650600228229401496703205376*p2 (-1075)<=Y):
  Bd l.length (fun i=>fc (l.take j++lP (mV D (cH 0 t (l.drop j))) t (l.drop j)) i+(-1)*eH l.length (vl j t) (fQ D) (fc l) i) (115/9007199254740992*Y):=by
 have H:(l.drop j).length=t.length:=by rw[List.length_drop];omega
 have L:=oV D Y t (l.drop j) (by omega) H.symm Q U Z (fun y h=>hy y (List.mem_of_mem_drop h)) J hY K;generalize lP (mV D (cH 0 t (l.drop j))) t (l.drop j)=F at*;obtain⟨l1,l2⟩:=qi _ _ t (l.drop j) F L;have M:dt l.length (vl j t) (fc l)=cG t (l.drop j):=by
  rw[<-G,F1,<-F0 t (l.drop j) H.symm];exact d8 (fun _ _=>rfl) (fun i _=>nW l j i)
 have hp:=av (-1075);have b:=l8 l.length O (fun i=>fc (l.take j++F) i+(-1)*eH l.length (vl j t) (fQ D) (fc l) i) (46/9007199254740992*Y) (by grind) (fun i hi=>by
  have tl:(l.take j).length=j:=by rw[List.length_take];omega
  unfold eH;rw[M];rcases Nat.lt_or_ge i j with g|g
  ·have I:=jr (l.take j) F i (by omega)
   rw[lZ l j i g]at I;have N:vl j t i=0:=by unfold vl;rw[if_pos g]
   rw[I,N,show fc l i+(-1)*(fc l i+-(fQ D*cG t (l.drop j))*0)=0 by grind];unfold ab
   grind
  ·obtain⟨k,rfl⟩:∃k,i=j+k:=⟨i-j,by omega⟩
   have I:=gT (l.take j) F k;rw[tl]at I;have N:vl j t (j+k)=fc t k:=by unfold vl;rw[if_neg (by omega),show j+k-j=k by omega]
   have e3:=nW l j k;have h:=l2 k (by omega);rw[I,N,e3,show fc F k+(-1)*(fc (l.drop j) k+-(fQ D*cG t (l.drop j))*fc t k)=fc F k-(fc (l.drop j) k-fQ D*cG t (l.drop j)*fc t k) by grind];generalize ab (fc F k-(fc (l.drop j) k-fQ D*cG t (l.drop j)*fc t k))=z at*
   grind)
 exact b.mono (by grind)
theorem gH(a b:Nat)(F:ah a=true)(G:ah b=true)(h:fQ a*fQ b=0):ah (mV a b)=true/\fQ (mV a b)=0:=by
 have H:ab (0:Rat)=0:=by unfold ab;grind
 have I:=uJ a b F G (by rw[h,H];exact av _);refine⟨I,?_⟩;have e:=uI a b F G I;rw[h,H,show fQ (mV a b)-0=fQ (mV a b) by grind]at e;rcases e with e|⟨_,e⟩
 ·have:=aw (fQ (mV a b));have:=bK (fQ (mV a b));grind
 ·have t:=av (-1074)
  unfold fQ at e⊢;rw[aM,aQ (Rat.le_of_lt t)]at e;obtain⟨z,J⟩:∃z:Int,fZ (mV a b)=z:=⟨_,rfl⟩;rw[J]at e⊢;rcases Int.lt_trichotomy z 0 with g|g|g
  ·exfalso
   have k:(z:Rat)<=((-1:Int):Rat):=Rat.intCast_le_intCast.2 (by omega);have D:((-1:Int):Rat)= -1:=rfl;have l:=aw (z:Rat);have m:=Rat.mul_le_mul_of_nonneg_left (show 1<=ab (z:Rat) by grind) (Rat.le_of_lt t);generalize p2 (-1074)=P at*
   grind
  ·rw[g]
   have D:((0:Int):Rat)=0:=rfl;rw[D]
   grind
  ·exfalso
   have k:((1:Int):Rat)<=(z:Rat):=Rat.intCast_le_intCast.2 (by omega);have D:((1:Int):Rat)=1:=rfl;have l:=aw (z:Rat);have m:=Rat.mul_le_mul_of_nonneg_left (show 1<=ab (z:Rat) by grind) (Rat.le_of_lt t);generalize p2 (-1074)=P at*
   grind
theorem kV(a b:Nat)(l:ah a=true)(t:ah b=true)(h:fQ a+fQ b=0):ah (aV a b)=true/\fQ (aV a b)=0:=by
 have D:ab (0:Rat)=0:=by unfold ab;grind
 have F:=gy a b l t (by rw[h,D];exact av _);refine⟨F,?_⟩;have e:=gS a b l t F;rw[h,D,show fQ (aV a b)-0=fQ (aV a b) by grind]at e;have:=aw (fQ (aV a b));have:=bK (fQ (aV a b));grind
theorem pr:∀(l h:H3) (s:Nat),ah s=true->fQ s=0->(∀v∈l,ah v=true)->(∀y∈h,ah y=true/\fQ y=0)->ah (cH s l h)=true/\fQ (cH s l h)=0:=by
 intro l
 induction l with
 |nil=>
  intro h s t D _ _;have e:cH s [] h=s:=by cases h<;>rfl
  rw[e];exact⟨t,D⟩
 |cons v l ih=>
  intro h s t D G H
  cases h with
  |nil=>exact⟨t,D⟩
  |cons y h=>
   obtain⟨I,J⟩:=H y List.mem_cons_self;obtain⟨K,L⟩:=gH v y (G v List.mem_cons_self) I (by rw[J];grind);obtain⟨M,N⟩:=kV s (mV v y) t K (by rw[D,L];grind);exact ih h _ M N (fun w F=>G w (List.mem_cons_of_mem _ F)) (fun w F=>H w (List.mem_cons_of_mem _ F))
theorem zr(t:Nat)(J:ah t=true)(K:fQ t=0):∀(D l:H3),D.length=l.length->(∀v∈D,ah v=true)->(∀y∈l,ah y=true/\fQ y=0)->∀E,0<=E->cr 0 E D l (lP t D l):=by
 intro D
 induction D with
 |nil=>
  intro l h _ _ E _
  cases l with
  |nil=>exact trivial
  |cons y l=>simp at h
 |cons v D ih=>
  intro l h H I E hE
  cases l with
  |nil=>simp at h
  |cons y l=>
   obtain⟨N,G⟩:=I y List.mem_cons_self;obtain⟨O,Q⟩:=gH t v J (H v List.mem_cons_self) (by rw[K];grind);have pl:=iQ t v;have L:ah (fN (mV t v))=true:=by rw[gu _ pl];exact O
   have M:=jR _ pl;obtain⟨U,Z⟩:=kV y (fN (mV t v)) N L (by rw[M,Q,G];grind);show cr 0 E (v::D) (y::l) (aV y (fN (mV t v))::lP t D l);unfold cr;refine⟨⟨U,?_⟩,ih l (by simpa using h) (fun w F=>H w (List.mem_cons_of_mem _ F)) (fun w F=>I w (List.mem_cons_of_mem _ F)) E hE⟩;rw[Z,G,show(0:Rat)-(0-0*fQ v)=0 by grind,show ab (0:Rat)=0 by unfold ab;grind]
   grind
theorem JX:∀(F t l:H3) (c E:Rat),cr c E F t l->∀u∈l,ah u=true:=by
 intro F
 induction F with
 |nil=>
  intro t l c E h u D
  cases t with
  |cons y t=>exact absurd h (by unfold cr;exact id)
  |nil=>
   cases l with
   |nil=>cases D
   |cons w l=>exact absurd h (by unfold cr;exact id)
 |cons v F ih=>
  intro t l c E h u D
  cases t with
  |nil=>exact absurd h (by unfold cr;exact id)
  |cons y t=>
   cases l with
   |nil=>cases D
   |cons w l=>
    unfold cr at h;rcases List.mem_cons.1 D with rfl|D
    ·exact h.1.1
    ·exact ih t l c E h.2 u D
theorem F3(h:H3)(j:Nat)(H:h.length<=6)(a:Rat)(t:Bd h.length (fc h) a):gz (h.drop j)<=5/2*a:=by
 have I:=t.1;have D:=t.2;rw[rB]at D;have J:aL (h.drop j)<=aL h:=by
  have l:∀(zs:H3) (j:Nat),aL (zs.drop j)<=aL zs:=by
   intro zs
   induction zs with
   |nil=>intro j;rw[List.drop_nil];exact Rat.le_refl
   |cons z zs ih=>
    intro j
    cases j with
    |zero=>exact Rat.le_refl
    |succ j=>
     have i:=ih j;have e:aL (z::zs)=fQ z*fQ z+aL zs:=rfl;have q:=ak (fQ z);rw[List.drop_succ_cons,e]
     grind
  exact l h j
 have q:=N6 (h.drop j);have F:=bW (h.drop j);have G:((h.drop j).length:Rat)<=6:=Rat.natCast_le_natCast.2 (show(h.drop j).length<=6 by rw[List.length_drop];omega);have m:=Rat.mul_nonneg (show 0<=6-((h.drop j).length:Rat) by grind) F;refine dr (by grind) ?_;have:=ak a
 grind
theorem tX(j D:Nat)(F t:H3)(hl:t.length<=6)(K:j+F.length=t.length)(ft:ah D=true)(ht:1000*ab (fQ D)<=2001)(Z:∀v∈F,ah v=true/\1000*ab (fQ v)<=1001)(L:∀y∈t,ah y=true)
  (hY:gz (t.drop j)<=p2 900) (I:(∀y∈t,fQ y=0)\/∀a,Bd t.length (fc t) a->1267650600228229401496703205376*p2 (-1075)<=a):
  (∀u∈t.take j++lP (mV D (cH 0 F (t.drop j))) F (t.drop j),ah u=true)/\(t.take j++lP (mV D (cH 0 F (t.drop j))) F (t.drop j)).length=t.length/\
  ∀a,Bd t.length (fc t) a->Bd t.length (fun i=>fc (t.take j++lP (mV D (cH 0 F (t.drop j))) F (t.drop j)) i+(-1)*eH t.length (vl j F) (fQ D) (fc t) i) (288/9007199254740992*a):=by
 have J:(t.drop j).length=F.length:=by rw[List.length_drop];omega
 have tl:(t.take j).length=j:=by rw[List.length_take];omega
 have N:∀H c E,cr c E F (t.drop j) H->(∀u∈t.take j++H,ah u=true)/\(t.take j++H).length=t.length:=by
  intro H c E G;refine⟨fun u hu=>?_,?_⟩
  ·rcases List.mem_append.1 hu with h|h
   ·exact L u (List.mem_of_mem_take h)
   ·exact JX _ _ _ _ _ G u h
  ·rw[List.length_append,tl,(qi _ _ _ _ _ G).1,J]
   omega
 have hp:=av (-1075);have O:1267650600228229401496703205376*p2 (-1075)<=p2 900:=by
  obtain⟨q1,q2,q3⟩:=dg;have M:=aq (show(0:Int)<=900 by decide);rw[oR]at M
  grind
 rcases I with hz|I
 ·obtain⟨d1,d2⟩:=pr F (t.drop j) 0 (by decide) jk (fun v h=>(Z v h).1) (fun y h=>⟨L y (List.mem_of_mem_drop h),hz y (List.mem_of_mem_drop h)⟩)
  obtain⟨m1,m2⟩:=gH D _ ft d1 (by rw[d2];grind);have G:=zr _ m1 m2 F (t.drop j) J.symm (fun v h=>(Z v h).1) (fun y h=>⟨L y (List.mem_of_mem_drop h),hz y (List.mem_of_mem_drop h)⟩) 0 (by grind);generalize lP (mV D (cH 0 F (t.drop j))) F (t.drop j)=H at*;obtain⟨g1,g2⟩:=N H _ _ G;refine⟨g1,g2,fun a ha=>?_⟩;have h0:=ha.1;obtain⟨l1,l2⟩:=qi _ _ F (t.drop j) H G;have fz:∀i,fc t i=0:=fun i=>by
   unfold fc;rw[List.getD_eq_getElem?_getD];rcases Nat.lt_or_ge i t.length with g|g
   ·rw[List.getElem?_eq_getElem g]
    exact hz _ (List.getElem_mem g)
   ·rw[List.getElem?_eq_none g]
    exact jk
  have aa:dt t.length (vl j F) (fc t)=0:=dz _ _ (fun i _=>by show vl j F i*fc t i=0;rw[fz i];grind);refine((Bd.nought t.length).congr (fun i hi=>?_)).mono (by grind);show(0:Rat)=_;unfold eH;rw[aa,fz i];rcases Nat.lt_or_ge i j with g|g
  ·have Q:=jr (t.take j) H i (by omega)
   rw[lZ t j i g,fz i]at Q;rw[Q]
   grind
  ·obtain⟨k,rfl⟩:∃k,i=j+k:=⟨i-j,by omega⟩
   have Q:=gT (t.take j) H k;rw[tl]at Q;have h:=l2 k (by omega);rw[<-nW,fz (j+k)]at h;have l:=aw (fc H k-(0-0*fc F k));have:fc H k=0:=by grind
   rw[Q,this]
   grind
 ·have G:=fun Y (M:gz (t.drop j)<=Y) h2 h3=>oV D Y F (t.drop j) (by omega) J.symm ft ht Z (fun y h=>L y (List.mem_of_mem_drop h)) M h2 h3
  have U:=fun Y (M:gz (t.drop j)<=Y) h2 h3=>F2 j D Y F t hl K ft ht Z L M h2 h3
  generalize lP (mV D (cH 0 F (t.drop j))) F (t.drop j)=H at*;obtain⟨g1,g2⟩:=N H _ _ (G (p2 900) hY Rat.le_refl O);refine⟨g1,g2,fun a ha=>?_⟩;have h0:=I a ha;have hs:=F3 t j hl a ha;rcases Rat.le_total (a:=gz (t.drop j)) (b:=1267650600228229401496703205376*p2 (-1075))with g|g
  ·exact(U _ g O Rat.le_refl).mono (by grind)
  ·exact(U _ Rat.le_refl hY g).mono (by grind)
theorem N9(j t:Nat)(h:H3)(n:Nat)(l:n=j+h.length)(F:8796093022208*ab (fQ t*aL h-2)<=1)(D:0<=fQ t):Bj n (vl j h) (fQ t) (1/8796093022208):=by
 have e:dt n (vl j h) (vl j h)=aL h:=by
  rw[l,F1,<-rB];exact d8 (fun _ _=>rfl) (fun i _=>by
   show vl j h (j+i)=fc h i;unfold vl;rw[if_neg (by omega),show j+i-j=i by omega])
 refine⟨by grind,by grind,?_,D⟩;rw[e]
 grind
def aO(s t:Bool):Nat:=if(s&&t)=true then 9223372036854775808 else 0
theorem zt(a b:Nat)(w:World)(F:a<18446744073709551616)(G:b<18446744073709551616):
  BS 276 #[CI a,CI b] w (CI (aO (fS a) (fS b):Nat)):=by
 have H:=ac (fun l=>gD a l F);have I:=ac (fun l=>gD b l G);generalize fS a=s at*;generalize fS b=t at*;clear F G
 go_enter Tryz.func276,Tryz.ntmps276
 go_wp2_with fail;refine(uH H _).mono ?_;rintro e J ⟨rfl,h⟩
 cases s
 ·go_wp2
  go_ret
  exact⟨rfl,h⟩
 ·go_wp2_with fail
  refine(uH I _).mono ?_;rintro e K ⟨rfl,D⟩
  cases t
  ·go_wp2
   go_ret
   exact⟨rfl,h.trans (D.mono h.size)⟩
  ·go_wp2
   go_ret
   exact⟨rfl,h.trans (D.mono h.size)⟩
theorem F4{w:World}{n:Bool}{a:GY}{l c:Nat}{e m X:Int}(h:aH w (.agg #[.bool n,.slice a l c,C0 e]) m X):((l:Int)==0)=decide (m=0):=by
 obtain⟨K,L,M,t,G,_,J,_,F,_⟩:=h.parts;simp only[Value.agg.injEq,Array.mk.injEq,List.cons.injEq,Value.slice.injEq]at G;have I:=G.2.1.2.1
 by_cases D:m=0
 ·have:t= []:=(aY t J).1 (by rw[F,D];rfl)
  rw[decide_eq_true D,I,this];rfl
 ·have:t.length≠0:=fun H=>by
   have:t= []:=List.length_eq_zero_iff.1 H;rw[this]at F
   simp[aj]at F
   omega
  rw[decide_eq_false D];simp;omega
theorem wR(a b:Nat)(z1 z2 F G H:Int)(w:World)(o:Nat)
  (C1:∀t,H8 w t->GF 168 #[CI a] t fun r D=>pG D r 0 z1 F/\H8 t D)
  (C2:∀t,H8 w t->GF 168 #[CI b] t fun r D=>pG D r 0 z2 G/\H8 t D)
  (C3:∀t v u,H8 w t->aH t v z1 F->aH t u z2 G->GF 275 #[v,u] t fun r D=>pG D r 0 0 H/\H8 t D)
  (C4:∀t,BS 276 #[CI a,CI b] t (CI (o:Nat))):
  BS 248 #[CI a,CI b] w (.tuple #[CI (o:Nat),.int .u8 0]):=by
 have K1:=ac C1;have K2:=ac C2;have K3:=ac C3;have K4:=ac C4;clear C1 C2 C3 C4
 go_enter Tryz.func248,Tryz.ntmps248
 go_wp2_with fail;refine(uH K1 _ (Below.refl _ _)).mono ?_;rintro e K ⟨⟨v,rfl,L⟩,l⟩;obtain⟨n1,a1,c1,L1,rfl,i1⟩:=L;have h:H8 K (K.alloc (.cells #[.bool n1,.slice a1 L1.length c1,C0 F] 35)):=(Below.refl _ _).alloc (Nat.le_refl _) _;have HV:=ac ((show aH K (.agg #[.bool n1,.slice a1 L1.length c1,C0 F]) z1 F from⟨n1,a1,c1,L1,rfl,i1⟩).below h);have X:=ac (ar.new K (.bool n1) (.slice a1 L1.length c1) (C0 F));have O:=ac (l.trans (h.mono l.size));clear i1 l h K1;go_wp2_with fail;refine(uH K2 _ (uH O)).mono ?_;rintro e M ⟨⟨v,rfl,L⟩,l⟩;obtain⟨n2,a2,c2,L2,rfl,i2⟩:=L;have h:H8 M (M.alloc (.cells #[.bool n2,.slice a2 L2.length c2,C0 G] 35)):=(Below.refl _ _).alloc (Nat.le_refl _) _;have HU:=ac ((show aH M (.agg #[.bool n2,.slice a2 L2.length c2,C0 G]) z2 G from⟨n2,a2,c2,L2,rfl,i2⟩).below h);have I:=ac (((uH HV).below l).below h);have Q:=((uH X).all l).all h;have U:=ar.new M (.bool n2) (.slice a2 L2.length c2) (C0 G);have Z:=ac ((uH O).trans ((l.trans (h.mono l.size)).mono (uH O).size));have y0:=Q.c0;have y1:=Q.c1;have y2:=Q.c2;have u0:=U.c0;have u1:=U.c1;have u2:=U.c2;clear i2 l h K2 O HV X Q U;go_wp2_with fail;refine(uH K3 _ _ _ (uH Z) (uH I) (uH HU)).mono ?_;rintro e N ⟨⟨v,rfl,L⟩,l⟩;clear y0 y1 y2 u0 u1 u2;obtain⟨n3,a3,c3,J,rfl,i3⟩:=L;have h:H8 N (N.alloc (.cells #[.bool n3,.slice a3 J.length c3,C0 H] 35)):=(Below.refl _ _).alloc (Nat.le_refl _) _;have HX:=ac ((show aH N (.agg #[.bool n3,.slice a3 J.length c3,C0 H]) 0 H from⟨n3,a3,c3,J,rfl,i3⟩).below h);have hl:=F4 (uH HX);rw[decide_eq_true rfl]at hl;have B3:=ac ((uH Z).trans ((l.trans (h.mono l.size)).mono (uH Z).size));have x3:=ar.new N (.bool n3) (.slice a3 J.length c3) (C0 H);have y0:=x3.c0;have y1:=x3.c1;have y2:=x3.c2;clear i3 l h K3 Z I HU x3;generalize J.length=l3 at*;go_wp2_with fail;refine(uH K4 _).mono ?_;rintro e w4 ⟨rfl,l⟩;have B4:=ac ((uH B3).trans (l.mono (uH B3).size));clear l K4 B3
 go_wp2
 exact bodyPost_ret (v:=.tuple #[CI o,.int .u8 0]) (by simp[results,Tryz.results248,go_sem]) rfl ⟨rfl,uH B4⟩
theorem wS(a b:Nat)(z1 z2 O F G H fl:Int)(w:World)(o:Nat)(h0:O≠0)
  (C1:∀t,H8 w t->GF 168 #[CI a] t fun r D=>pG D r 0 z1 F/\H8 t D)
  (C2:∀t,H8 w t->GF 168 #[CI b] t fun r D=>pG D r 0 z2 G/\H8 t D)
  (C3:∀t v u,H8 w t->aH t v z1 F->aH t u z2 G->GF 275 #[v,u] t fun r D=>pG D r 0 O H/\H8 t D)
  (C4:∀t v,H8 w t->aH t v O H->BS 229 #[v] t (.tuple #[CI (o:Nat),.int .u8 fl,C0 0])):
  BS 248 #[CI a,CI b] w (.tuple #[CI (o:Nat),.int .u8 fl]):=by
 have K1:=ac C1;have K2:=ac C2;have K3:=ac C3;have K4:=ac C4;clear C1 C2 C3 C4
 go_enter Tryz.func248,Tryz.ntmps248
 go_wp2_with fail;refine(uH K1 _ (Below.refl _ _)).mono ?_;rintro e K ⟨⟨v,rfl,L⟩,l⟩;obtain⟨n1,a1,c1,L1,rfl,i1⟩:=L;have h:H8 K (K.alloc (.cells #[.bool n1,.slice a1 L1.length c1,C0 F] 35)):=(Below.refl _ _).alloc (Nat.le_refl _) _;have HV:=ac ((show aH K (.agg #[.bool n1,.slice a1 L1.length c1,C0 F]) z1 F from⟨n1,a1,c1,L1,rfl,i1⟩).below h);have X:=ac (ar.new K (.bool n1) (.slice a1 L1.length c1) (C0 F));have Q:=ac (l.trans (h.mono l.size));clear i1 l h K1;go_wp2_with fail;refine(uH K2 _ (uH Q)).mono ?_;rintro e M ⟨⟨v,rfl,L⟩,l⟩;obtain⟨n2,a2,c2,L2,rfl,i2⟩:=L;have h:H8 M (M.alloc (.cells #[.bool n2,.slice a2 L2.length c2,C0 G] 35)):=(Below.refl _ _).alloc (Nat.le_refl _) _;have HU:=ac ((show aH M (.agg #[.bool n2,.slice a2 L2.length c2,C0 G]) z2 G from⟨n2,a2,c2,L2,rfl,i2⟩).below h);have I:=ac (((uH HV).below l).below h);have U:=((uH X).all l).all h;have Z:=ar.new M (.bool n2) (.slice a2 L2.length c2) (C0 G);have B2:=ac ((uH Q).trans ((l.trans (h.mono l.size)).mono (uH Q).size));have y0:=U.c0;have y1:=U.c1;have y2:=U.c2;have u0:=Z.c0;have u1:=Z.c1;have u2:=Z.c2;clear i2 l h K2 Q HV X U Z;go_wp2_with fail;refine(uH K3 _ _ _ (uH B2) (uH I) (uH HU)).mono ?_;rintro e N ⟨⟨v,rfl,L⟩,l⟩;clear y0 y1 y2 u0 u1 u2;obtain⟨n3,a3,c3,J,rfl,i3⟩:=L;have h:H8 N (N.alloc (.cells #[.bool n3,.slice a3 J.length c3,C0 H] 35)):=(Below.refl _ _).alloc (Nat.le_refl _) _;have HX:=ac ((show aH N (.agg #[.bool n3,.slice a3 J.length c3,C0 H]) O H from⟨n3,a3,c3,J,rfl,i3⟩).below h);have hl:=F4 (uH HX);rw[decide_eq_false h0]at hl;have B3:=ac ((uH B2).trans ((l.trans (h.mono l.size)).mono (uH B2).size));have x3:=ar.new N (.bool n3) (.slice a3 J.length c3) (C0 H);have y0:=x3.c0;have y1:=x3.c1;have y2:=x3.c2;clear i3 l h K3 B2 I HU x3;generalize J.length=l3 at*;go_wp2_with fail;refine(uH K4 _ _ (uH B3) (uH HX)).mono ?_;rintro e w4 ⟨rfl,l⟩;have B4:=ac ((uH B3).trans (l.mono (uH B3).size));clear l K4 B3
 go_wp2
 exact bodyPost_ret (v:=.tuple #[CI o,.int .u8 fl]) (by simp[results,Tryz.results248,go_sem]) rfl ⟨rfl,uH B4⟩
theorem sT(a b:Nat)(w:World)(H:a<18446744073709551616)(I:b<18446744073709551616)(D:ah a=true)(F:ah b=true)(G:cX w):
  BS 248 #[CI a,CI b] w (.tuple #[CI (aV a b:Nat),.int .u8 (aF a b)]):=by
 obtain⟨Q,U⟩:fK a≠3/\fK a≠4:=by
  rcases i9 a with⟨h,_⟩|⟨_,h⟩
  ·rw[D]at h;cases h
  ·omega
 obtain⟨Z,b4⟩:fK b≠3/\fK b≠4:=by
  rcases i9 b with⟨h,_⟩|⟨_,h⟩
  ·rw[F]at h;cases h
  ·omega
 obtain⟨d1,d2⟩:=d7 a H D;obtain⟨d3,d4⟩:=d7 b I F;have K:=ND a b D F;have M:∀l,H8 w l->_:=fun l h=>fh a l H D (G.all h)
 have N:∀l,H8 w l->_:=fun l h=>fh b l I F (G.all h)
 have L:∀l v u,H8 w l->aH l v (fD a) (fX a)->aH l u (fD b) (fX b)->_:=fun l v u h J hu=>
  QU (W:=2099) (lo:=-1074) (z1:=fZ a) (z2:=fZ b) (by rw[d1,d2];exact J) (by rw[d3,d4];exact hu) (oP a D) (oP b F) K (G.all h)
 rw[(A2 a b Q U Z b4).1,(A2 a b Q U Z b4).2]
 by_cases t:aZ a b=0
 ·rw[if_pos t,if_pos t]
  have hz:fZ a+fZ b=0:=t;rw[hz,bj]at L;exact wR a b _ _ _ _ _ w _ M N L (fun l=>zt a b l H I)
 ·rw[if_neg t,if_neg t]
  have O:∀l v,H8 w l->aH l v (oM (aZ a b)) (oE (aZ a b) (-1074))->_:=fun l v h J=>kK J K.right.2 K.right.1 (G.all h)
  rw[(lM (aZ a b) (-1074)).1,lL]at O;exact wS a b _ _ _ _ _ _ _ w _ (g6 _ t).1 M N L O
theorem JY(a b:Nat)(J:Int)(w:World)
  (F:∀h,BS 164 #[CI a] h (C0 4))
  (G:∀h,BS 164 #[CI b] h (C0 J)):
  BS 215 #[CI a,CI b] w (.tuple #[CI 9221120237041090560,.int .u8 0]):=by
 have H:=ac F;have I:=ac G;clear F G
 go_enter Tryz.func215,Tryz.ntmps215
 go_wp2_with fail;refine(uH H _).mono ?_;rintro e K ⟨rfl,t⟩;go_wp2_with fail;refine(uH I _).mono ?_;rintro e L ⟨rfl,D⟩;have B:=ac (t.trans (D.mono t.size));clear t D H I
 go_wp2
 exact bodyPost_ret (v:=.tuple #[CI 9221120237041090560,.int .u8 0]) (by simp[results,Tryz.results215,go_sem]) rfl ⟨rfl,uH B⟩
theorem JZ(a b:Nat)(F:Int)(w:World)(K:(F==4)=false)
  (G:∀h,BS 164 #[CI a] h (C0 F))
  (H:∀h,BS 164 #[CI b] h (C0 4)):
  BS 215 #[CI a,CI b] w (.tuple #[CI 9221120237041090560,.int .u8 0]):=by
 have I:=ac G;have J:=ac H;clear G H
 go_enter Tryz.func215,Tryz.ntmps215
 go_wp2_with fail;refine(uH I _).mono ?_;rintro e L ⟨rfl,t⟩;go_wp2_with fail;refine(uH J _).mono ?_;rintro e M ⟨rfl,D⟩;have B:=ac (t.trans (D.mono t.size));clear t D I J
 go_wp2
 exact bodyPost_ret (v:=.tuple #[CI 9221120237041090560,.int .u8 0]) (by simp[results,Tryz.results215,go_sem]) rfl ⟨rfl,uH B⟩
theorem J0(a b:Nat)(w:World)(J:((a:Int)==(b:Int))=false)
  (F:∀h,BS 164 #[CI a] h (C0 3))
  (G:∀h,BS 164 #[CI b] h (C0 3)):
  BS 215 #[CI a,CI b] w (.tuple #[CI 9221120237041090560,.int .u8 16]):=by
 have H:=ac F;have I:=ac G;clear F G
 go_enter Tryz.func215,Tryz.ntmps215
 go_wp2_with fail;refine(uH H _).mono ?_;rintro e K ⟨rfl,t⟩;go_wp2_with fail;refine(uH I _).mono ?_;rintro e L ⟨rfl,D⟩;have B:=ac (t.trans (D.mono t.size));clear t D H I
 go_wp2
 exact bodyPost_ret (v:=.tuple #[CI 9221120237041090560,.int .u8 16]) (by simp[results,Tryz.results215,go_sem]) rfl ⟨rfl,uH B⟩
theorem J5(a b:Nat)(w:World)(J:((a:Int)==(b:Int))=true)
  (F:∀h,BS 164 #[CI a] h (C0 3))
  (G:∀h,BS 164 #[CI b] h (C0 3)):
  BS 215 #[CI a,CI b] w (.tuple #[CI a,.int .u8 0]):=by
 have H:=ac F;have I:=ac G;clear F G
 go_enter Tryz.func215,Tryz.ntmps215
 go_wp2_with fail;refine(uH H _).mono ?_;rintro e K ⟨rfl,t⟩;go_wp2_with fail;refine(uH I _).mono ?_;rintro e L ⟨rfl,D⟩;have B:=ac (t.trans (D.mono t.size));clear t D H I
 go_wp2
 exact bodyPost_ret (v:=.tuple #[CI a,.int .u8 0]) (by simp[results,Tryz.results215,go_sem]) rfl ⟨rfl,uH B⟩
theorem Oa(a b:Nat)(F:Int)(w:World)(K:(F==4)=false)(L:(F==3)=false)
  (G:∀h,BS 164 #[CI a] h (C0 3))
  (H:∀h,BS 164 #[CI b] h (C0 F)):
  BS 215 #[CI a,CI b] w (.tuple #[CI a,.int .u8 0]):=by
 have I:=ac G;have J:=ac H;clear G H
 go_enter Tryz.func215,Tryz.ntmps215
 go_wp2_with fail;refine(uH I _).mono ?_;rintro e M ⟨rfl,t⟩;go_wp2_with fail;refine(uH J _).mono ?_;rintro e N ⟨rfl,D⟩;have B:=ac (t.trans (D.mono t.size));clear t D I J
 go_wp2
 exact bodyPost_ret (v:=.tuple #[CI a,.int .u8 0]) (by simp[results,Tryz.results215,go_sem]) rfl ⟨rfl,uH B⟩
theorem Ob(a b:Nat)(F:Int)(w:World)(K:(F==4)=false)(L:(F==3)=false)
  (G:∀h,BS 164 #[CI a] h (C0 F))
  (H:∀h,BS 164 #[CI b] h (C0 3)):
  BS 215 #[CI a,CI b] w (.tuple #[CI b,.int .u8 0]):=by
 have I:=ac G;have J:=ac H;clear G H
 go_enter Tryz.func215,Tryz.ntmps215
 go_wp2_with fail;refine(uH I _).mono ?_;rintro e M ⟨rfl,t⟩;go_wp2_with fail;refine(uH J _).mono ?_;rintro e N ⟨rfl,D⟩;have B:=ac (t.trans (D.mono t.size));clear t D I J
 go_wp2
 exact bodyPost_ret (v:=.tuple #[CI b,.int .u8 0]) (by simp[results,Tryz.results215,go_sem]) rfl ⟨rfl,uH B⟩
theorem Oc(a b:Nat)(G H I:Int)(o:Nat)(w:World)(Z:(G==4)=false)(h2:(G==3)=false)(h3:(H==4)=false)(h4:(H==3)=false)(J:cX w)
  (K:∀h,cX h->BS 248 #[CI a,CI b] h (.tuple #[CI (o:Nat),.int .u8 I]))
  (L:∀h,BS 164 #[CI a] h (C0 G))
  (M:∀h,BS 164 #[CI b] h (C0 H)):
  BS 215 #[CI a,CI b] w (.tuple #[CI (o:Nat),.int .u8 I]):=by
 have N:=ac L;have O:=ac M;clear L M
 go_enter Tryz.func215,Tryz.ntmps215
 go_wp2_with fail;refine(uH N _).mono ?_;rintro e w1 ⟨rfl,t⟩;go_wp2_with fail;refine(uH O _).mono ?_;rintro e w2 ⟨rfl,D⟩;have B:=ac (t.trans (D.mono t.size));clear t D N O;have Q:=ac K;have U:=ac (J.all (uH B));clear K J;go_wp2_with fail;refine(uH Q _ (uH U)).mono ?_;rintro e w3 ⟨rfl,F⟩;have B:=ac ((uH B).trans (F.mono (uH B).size));clear F Q U
 go_wp2
 exact bodyPost_ret (v:=.tuple #[CI (o:Nat),.int .u8 I]) (by simp[results,Tryz.results215,go_sem]) rfl ⟨rfl,uH B⟩
theorem wT(a b:Nat)(w:World)(O:a<18446744073709551616)(Q:b<18446744073709551616)(U:cX w):
  BS 215 #[CI a,CI b] w (.tuple #[CI (aV a b:Nat),.int .u8 (aF a b)]):=by
 have F:=fun L=>dp a L O
 have G:=fun L=>dp b L Q
 by_cases M:fK a=4
 ·have H:aV a b=9221120237041090560:=by unfold aV;rw[if_pos (Or.inl M)]
  have I:aF a b=0:=by unfold aF;rw[if_pos (Or.inl M)]
  rw[H,I];rw[M]at F;exact JY a b _ w F G
 by_cases N:fK b=4
 ·have H:aV a b=9221120237041090560:=by unfold aV;rw[if_pos (Or.inr N)]
  have I:aF a b=0:=by unfold aF;rw[if_pos (Or.inr N)]
  rw[H,I];rw[N]at G;exact JZ a b _ w (by simp[M]) F G
 have K:¬(fK a=4\/fK b=4):=by omega
 by_cases l:fK a=3
 ·by_cases D:fK b=3
  ·by_cases J:a=b
   ·have H:aV a b=a:=by unfold aV;rw[if_neg K,if_pos l,if_neg (fun h=>h.2 J)]
    have I:aF a b=0:=by unfold aF;rw[if_neg K,if_pos l,if_neg (fun h=>h.2 J)]
    rw[H,I];rw[l]at F;rw[D]at G;exact J5 a b w (by simp[J]) F G
   ·have H:aV a b=9221120237041090560:=by unfold aV;rw[if_neg K,if_pos l,if_pos ⟨D,J⟩]
    have I:aF a b=16:=by unfold aF;rw[if_neg K,if_pos l,if_pos ⟨D,J⟩]
    rw[H,I];rw[l]at F;rw[D]at G;exact J0 a b w (by simp;omega) F G
  ·have H:aV a b=a:=by unfold aV;rw[if_neg K,if_pos l,if_neg (fun h=>D h.1)]
   have I:aF a b=0:=by unfold aF;rw[if_neg K,if_pos l,if_neg (fun h=>D h.1)]
   rw[H,I];rw[l]at F;exact Oa a b _ w (by simp[N]) (by simp[D]) F G
 ·by_cases D:fK b=3
  ·have H:aV a b=b:=by unfold aV;rw[if_neg K,if_neg l,if_pos D]
   have I:aF a b=0:=by unfold aF;rw[if_neg K,if_neg l,if_pos D]
   rw[H,I];rw[D]at G;exact Ob a b _ w (by simp[M]) (by simp[l]) F G
  ·exact Oc a b _ _ _ _ w (by simp[M]) (by simp[l]) (by simp[N]) (by simp[D]) U (fun L t=>sT a b L O Q (fO a l M) (fO b D N) t) F G
theorem F5(a b:Nat)(w:World)(D:a<18446744073709551616)(l:b<18446744073709551616)(F:cX w):
  BS 182 #[CI a,CI b] w (.tuple #[CI (aV a (fN b):Nat),.int .u8 (aF a (fN b))]):=by
 have G:=ac (fun t=>iZ b t l);have H:=ac (wT a (fN b) w D (iY b l) F);clear D l F;generalize aV a (fN b)=o at*;generalize aF a (fN b)=I at*
 go_enter Tryz.func182,Tryz.ntmps182
 go_wp2_with fail;refine(uH G _).mono ?_;rintro e J ⟨rfl,rfl⟩;go_wp2_with fail;refine Calls.mono (uH H) ?_;rintro e K ⟨rfl,h⟩;have B:=ac h;clear h G H
 go_wp2
 exact bodyPost_ret (v:=.tuple #[CI o,.int .u8 I]) (by simp[results,Tryz.results182,go_sem]) rfl ⟨rfl,uH B⟩
theorem tY{w:World}{v u:Value}{lo:Int}{W:Nat}{z1 z2:Int}(hv:aH w v (oM z1) (oE z1 lo))(hu:aH w u (oM z2) (oE z2 lo))(t:ga lo W z1)(D:ga lo W z2):
  GF 19 #[v,u] w fun r H=>∃q,r=.returned q/\aH H q (oM (z1+z2)) (oE (z1+z2) lo)/\H8 w H:=by
 obtain⟨K,ao,L,A,rfl,M,N,h,a4,a5⟩:=hv.right t.right.2;obtain⟨O,Q,U,B,rfl,b1,b2,l,b4,b5⟩:=hu.right D.right.2;have x1:=re t.right.1;have x2:=re D.right.1;have t1:=t.tops;have t2:=D.tops
 by_cases I:z1=0/\z2=0
 ·obtain⟨rfl,rfl⟩:=I
  rw[bj]at h l;rw[bL]at*;have eZ:dW 0 0 0 0=0:=by decide
  have J:gr 0 0 (cE 0 0 0 0)=0:=fL _ _ _ (by rw[gt];exact j5) (by decide);have:=qT K O ao Q L U A B 0 0 w M b1 N b2 (by omega) (by omega) (by rw[h,l];exact J) (by rw[h,l];exact J);rw[h,l,eZ,bj,bL]at this
  simpa[bj,bL]using this
 ·obtain⟨k,F,e2,e3,e4,e5⟩:=oO t D I
  have g1:gr (oM z1) (oE z1 lo) (lo+k)=0:=fL _ _ _ (Nat.lt_of_le_of_lt (lN e2) t1) e4;have g2:gr (oM z2) (oE z2 lo) (lo+k)=0:=fL _ _ _ (Nat.lt_of_le_of_lt (lN e3) t2) e5;have:=qT K O ao Q L U A B _ _ w M b1 N b2 x1 x2 (by rw[h,l,F];exact g1) (by rw[h,l,F];exact g2);rw[h,l,F]at this;have hZ:dW (oM z1) (oE z1 lo) (oM z2) (oE z2 lo)*2^k=z1+z2:=by
   unfold dW;rw[F,Int.add_mul,e2,e3]
  generalize dW (oM z1) (oE z1 lo) (oM z2) (oE z2 lo)=Z at*;have G:=iy Z k lo;rw[hZ]at G;rw[G.1,G.2];exact this
theorem uN(z a b:Nat)(s t:Bool)(o:Nat)(w:World)
  (G:∀h,BS 161 #[CI a] h (.bool s))
  (H:∀h,BS 161 #[CI b] h (.bool t))
  (I:∀h,GF 162 #[CI z] h fun r l=>r=.returned (CI (o:Nat))/\h=l):
  BS 262 #[CI z,CI a,CI b] w (CI ((if(s^^t)=true then o else z:Nat):Int)):=by
 have J:=ac G;have K:=ac H;have L:=ac I;clear G H I
 go_enter Tryz.func262,Tryz.ntmps262
 go_wp2_with fail;refine(uH J _).mono ?_;rintro e N ⟨rfl,D⟩;go_wp2_with fail;refine(uH K _).mono ?_;rintro e O ⟨rfl,F⟩;have B:=ac (D.trans (F.mono D.size));clear D F J K
 cases s<;>cases t
 ·go_wp2
  go_ret
  exact⟨rfl,uH B⟩
 ·go_wp2_with fail
  refine(uH L _).mono ?_;rintro e M ⟨rfl,rfl⟩
  go_wp2
  go_ret
  exact⟨rfl,uH B⟩
 ·go_wp2_with fail
  refine(uH L _).mono ?_;rintro e M ⟨rfl,rfl⟩
  go_wp2
  go_ret
  exact⟨rfl,uH B⟩
 ·go_wp2
  go_ret
  exact⟨rfl,uH B⟩
theorem iB(z a b:Nat)(w:World)(t:a<18446744073709551616)(D:b<18446744073709551616)(F:z<9223372036854775808):
  BS 262 #[CI z,CI a,CI b] w (CI (iJ (fS a^^fS b) z:Nat)):=by
 have h:=uN z a b (fS a) (fS b) (fN z) w (fun l=>gD a l t) (fun l=>gD b l D) (fun l=>iZ z l (by omega));have e:(if(fS a^^fS b)=true then fN z else z:Nat)=iJ (fS a^^fS b) z:=by
  cases (fS a^^fS b)
  ·rw[cJ];rfl
  ·rw[<-Fl z F];rfl
 rwa[e]at h
theorem wU(a b:Nat)(z1 z2 z3 F G H fl:Int)(w:World)(o:Nat)
  (C1:∀t,H8 w t->GF 168 #[CI a] t fun r D=>pG D r 0 z1 F/\H8 t D)
  (C2:∀t,H8 w t->GF 168 #[CI b] t fun r D=>pG D r 0 z2 G/\H8 t D)
  (C3:∀t v u,H8 w t->aH t v z1 F->aH t u z2 G->GF 282 #[v,u] t fun r D=>pG D r 0 z3 H/\H8 t D)
  (C4:∀t v,H8 w t->aH t v z3 H->BS 229 #[v] t (.tuple #[CI (o:Nat),.int .u8 fl,C0 0])):
  BS 263 #[CI a,CI b] w (.tuple #[CI (o:Nat),.int .u8 fl]):=by
 have K1:=ac C1;have K2:=ac C2;have K3:=ac C3;have K4:=ac C4;clear C1 C2 C3 C4
 go_enter Tryz.func263,Tryz.ntmps263
 go_wp2_with fail;refine(uH K1 _ (Below.refl _ _)).mono ?_;rintro e K ⟨⟨v,rfl,L⟩,l⟩;obtain⟨n1,a1,c1,L1,rfl,i1⟩:=L;have h:H8 K (K.alloc (.cells #[.bool n1,.slice a1 L1.length c1,C0 F] 35)):=(Below.refl _ _).alloc (Nat.le_refl _) _;have HV:=ac ((show aH K (.agg #[.bool n1,.slice a1 L1.length c1,C0 F]) z1 F from⟨n1,a1,c1,L1,rfl,i1⟩).below h);have X:=ac (ar.new K (.bool n1) (.slice a1 L1.length c1) (C0 F));have O:=ac (l.trans (h.mono l.size));clear i1 l h K1;go_wp2_with fail;refine(uH K2 _ (uH O)).mono ?_;rintro e M ⟨⟨v,rfl,L⟩,l⟩;obtain⟨n2,a2,c2,L2,rfl,i2⟩:=L;have h:H8 M (M.alloc (.cells #[.bool n2,.slice a2 L2.length c2,C0 G] 35)):=(Below.refl _ _).alloc (Nat.le_refl _) _;have HU:=ac ((show aH M (.agg #[.bool n2,.slice a2 L2.length c2,C0 G]) z2 G from⟨n2,a2,c2,L2,rfl,i2⟩).below h);have I:=ac (((uH HV).below l).below h);have Q:=((uH X).all l).all h;have U:=ar.new M (.bool n2) (.slice a2 L2.length c2) (C0 G);have Z:=ac ((uH O).trans ((l.trans (h.mono l.size)).mono (uH O).size));have y0:=Q.c0;have y1:=Q.c1;have y2:=Q.c2;have u0:=U.c0;have u1:=U.c1;have u2:=U.c2;clear i2 l h K2 O HV X Q U;go_wp2_with fail;refine(uH K3 _ _ _ (uH Z) (uH I) (uH HU)).mono ?_;rintro e N ⟨⟨v,rfl,L⟩,l⟩;clear y0 y1 y2 u0 u1 u2;obtain⟨n3,a3,c3,J,rfl,i3⟩:=L;have h:H8 N (N.alloc (.cells #[.bool n3,.slice a3 J.length c3,C0 H] 35)):=(Below.refl _ _).alloc (Nat.le_refl _) _;have HX:=ac ((show aH N (.agg #[.bool n3,.slice a3 J.length c3,C0 H]) z3 H from⟨n3,a3,c3,J,rfl,i3⟩).below h);have B3:=ac ((uH Z).trans ((l.trans (h.mono l.size)).mono (uH Z).size));have x3:=ar.new N (.bool n3) (.slice a3 J.length c3) (C0 H);have y0:=x3.c0;have y1:=x3.c1;have y2:=x3.c2;clear i3 l h K3 Z I HU x3;generalize J.length=l3 at*;go_wp2_with fail;refine(uH K4 _ _ (uH B3) (uH HX)).mono ?_;rintro e w4 ⟨rfl,l⟩;have B4:=ac ((uH B3).trans (l.mono (uH B3).size));clear l K4 B3
 go_wp2
 exact bodyPost_ret (v:=.tuple #[CI o,.int .u8 fl]) (by simp[results,Tryz.results263,go_sem]) rfl ⟨rfl,uH B4⟩
theorem Qa:(2:Nat)^2098*2^2098=2^4196:=by decide+kernel
theorem Od(a b:Nat)(h:ah a=true)(l:ah b=true):ga (-1074+-1074) 4196 (fZ a*fZ b):=by
 have t:=ew a h;have D:=ew b l;refine⟨?_,by decide,by decide,by decide⟩;have F:=Qa;have G:=Nat.two_pow_pos 2098;rw[Int.natAbs_mul];generalize (2:Nat)^4196=P at*;generalize (2:Nat)^2098=Q at*;rw[<-F];exact Nat.mul_lt_mul_of_lt_of_le t (Nat.le_of_lt D) G
theorem zu(b:Nat)(h:fK b≠0):fZ b≠0/\decide (fZ b<0)=fS b:=by
 have l:rv (fR b)≠0:=fun e=>h ((dY b).2 ((oQ _).1 e))
 unfold fZ pv
 cases fS b
 ·simp only[Bool.false_eq_true,if_false]
  exact⟨by omega,decide_eq_false (by omega)⟩
 ·simp only[if_true]
  exact⟨by omega,decide_eq_true (by omega)⟩
theorem Oe(a b:Nat)(F:fK a≠0)(G:fK b≠0):fZ a*fZ b≠0/\decide (fZ a*fZ b<0)=(fS a^^fS b):=by
 obtain⟨t,H⟩:=zu a F;obtain⟨D,I⟩:=zu b G;refine⟨Int.mul_ne_zero t D,?_⟩;rw[<-H,<-I];generalize fZ a=x at*;generalize fZ b=y at*;rcases Int.lt_or_gt_of_ne t with h|h<;>rcases Int.lt_or_gt_of_ne D with l|l
 ·have:=Int.mul_pos_of_neg_of_neg h l
  rw[decide_eq_true h,decide_eq_true l,decide_eq_false (by omega)];rfl
 ·have:=Int.mul_neg_of_neg_of_pos h l
  rw[decide_eq_true h,decide_eq_false (show¬y<0 by omega),decide_eq_true this];rfl
 ·have:=Int.mul_neg_of_pos_of_neg h l
  rw[decide_eq_false (show¬x<0 by omega),decide_eq_true l,decide_eq_true this];rfl
 ·have:=Int.mul_pos h l
  rw[decide_eq_false (show¬x<0 by omega),decide_eq_false (show¬y<0 by omega),decide_eq_false (show¬x*y<0 by omega)];rfl
theorem sW(a b:Nat)(w:World)(K:a<18446744073709551616)(L:b<18446744073709551616)(t:ah a=true)(D:ah b=true)(G:fK a≠0)(H:fK b≠0)(F:cX w):
  BS 263 #[CI a,CI b] w (.tuple #[CI (mV a b:Nat),.int .u8 (mF a b)]):=by
 obtain⟨Z,d2⟩:=d7 a K t;obtain⟨d3,d4⟩:=d7 b L D;have J:=Od a b t D;obtain⟨z0,z1⟩:=Oe a b G H;have O:∀l,H8 w l->_:=fun l h=>fh a l K t (F.all h)
 have Q:∀l,H8 w l->_:=fun l h=>fh b l L D (F.all h)
 have U:∀l v u,H8 w l->aH l v (fD a) (fX a)->aH l u (fD b) (fX b)->_:=fun l v u h I N=>
  QW (W1:=2099) (W2:=2099) (W:=4196) (lo1:=-1074) (lo2:=-1074) (z1:=fZ a) (z2:=fZ b) (by rw[Z,d2];exact I) (by rw[d3,d4];exact N) (oP a t) (oP b D) J (F.all h)
 rw[(Fs a b t D G H).1,(Fs a b t D G H).2];have M:∀l v,H8 w l->aH l v (oM (fZ a*fZ b)) (oE (fZ a*fZ b) (-1074+-1074))->_:=fun l v h I=>kK I J.right.2 J.right.1 (F.all h)
 rw[(lM (fZ a*fZ b) (-1074+-1074)).1,lL,z1,Int.natAbs_mul,ie,ie]at M;exact wU a b _ _ _ _ _ _ _ w _ O Q U M
theorem J6(a b:Nat)(J:Int)(w:World)
  (F:∀h,BS 164 #[CI a] h (C0 4))
  (G:∀h,BS 164 #[CI b] h (C0 J)):
  BS 232 #[CI a,CI b] w (.tuple #[CI 9221120237041090560,.int .u8 0]):=by
 have H:=ac F;have I:=ac G;clear F G
 go_enter Tryz.func232,Tryz.ntmps232
 go_wp2_with fail;refine(uH H _).mono ?_;rintro e K ⟨rfl,t⟩;go_wp2_with fail;refine(uH I _).mono ?_;rintro e L ⟨rfl,D⟩;have B:=ac (t.trans (D.mono t.size));clear t D H I
 go_wp2
 exact bodyPost_ret (v:=.tuple #[CI 9221120237041090560,.int .u8 0]) (by simp[results,Tryz.results232,go_sem]) rfl ⟨rfl,uH B⟩
theorem J7(a b:Nat)(F:Int)(w:World)(K:(F==4)=false)
  (G:∀h,BS 164 #[CI a] h (C0 F))
  (H:∀h,BS 164 #[CI b] h (C0 4)):
  BS 232 #[CI a,CI b] w (.tuple #[CI 9221120237041090560,.int .u8 0]):=by
 have I:=ac G;have J:=ac H;clear G H
 go_enter Tryz.func232,Tryz.ntmps232
 go_wp2_with fail;refine(uH I _).mono ?_;rintro e L ⟨rfl,t⟩;go_wp2_with fail;refine(uH J _).mono ?_;rintro e M ⟨rfl,D⟩;have B:=ac (t.trans (D.mono t.size));clear t D I J
 go_wp2
 exact bodyPost_ret (v:=.tuple #[CI 9221120237041090560,.int .u8 0]) (by simp[results,Tryz.results232,go_sem]) rfl ⟨rfl,uH B⟩
theorem J8(a b:Nat)(w:World)
  (F:∀h,BS 164 #[CI a] h (C0 3))
  (G:∀h,BS 164 #[CI b] h (C0 0)):
  BS 232 #[CI a,CI b] w (.tuple #[CI 9221120237041090560,.int .u8 16]):=by
 have H:=ac F;have I:=ac G;clear F G
 go_enter Tryz.func232,Tryz.ntmps232
 go_wp2_with fail;refine(uH H _).mono ?_;rintro e J ⟨rfl,t⟩;go_wp2_with fail;refine(uH I _).mono ?_;rintro e K ⟨rfl,D⟩;have B:=ac (t.trans (D.mono t.size));clear t D H I
 go_wp2
 exact bodyPost_ret (v:=.tuple #[CI 9221120237041090560,.int .u8 16]) (by simp[results,Tryz.results232,go_sem]) rfl ⟨rfl,uH B⟩
theorem J9(a b:Nat)(w:World)
  (F:∀h,BS 164 #[CI a] h (C0 0))
  (G:∀h,BS 164 #[CI b] h (C0 3)):
  BS 232 #[CI a,CI b] w (.tuple #[CI 9221120237041090560,.int .u8 16]):=by
 have H:=ac F;have I:=ac G;clear F G
 go_enter Tryz.func232,Tryz.ntmps232
 go_wp2_with fail;refine(uH H _).mono ?_;rintro e J ⟨rfl,t⟩;go_wp2_with fail;refine(uH I _).mono ?_;rintro e K ⟨rfl,D⟩;have B:=ac (t.trans (D.mono t.size));clear t D H I
 go_wp2
 exact bodyPost_ret (v:=.tuple #[CI 9221120237041090560,.int .u8 16]) (by simp[results,Tryz.results232,go_sem]) rfl ⟨rfl,uH B⟩
theorem Of(a b:Nat)(G:Int)(o:Nat)(w:World)(N:(G==4)=false)(O:(G==0)=false)
  (H:∀h,BS 164 #[CI a] h (C0 3))
  (I:∀h,BS 164 #[CI b] h (C0 G))
  (J:∀h,BS 262 #[CI 9218868437227405312,CI a,CI b] h (CI (o:Nat))):
  BS 232 #[CI a,CI b] w (.tuple #[CI (o:Nat),.int .u8 0]):=by
 have K:=ac H;have L:=ac I;clear H I
 go_enter Tryz.func232,Tryz.ntmps232
 go_wp2_with fail;refine(uH K _).mono ?_;rintro e Q ⟨rfl,t⟩;go_wp2_with fail;refine(uH L _).mono ?_;rintro e U ⟨rfl,D⟩;have B:=ac (t.trans (D.mono t.size));clear t D K L;have M:=ac J;clear J;go_wp2_with fail;refine(uH M _).mono ?_;rintro e Z ⟨rfl,F⟩;have B:=ac ((uH B).trans (F.mono (uH B).size));clear F M
 go_wp2
 exact bodyPost_ret (v:=.tuple #[CI (o:Nat),.int .u8 0]) (by simp[results,Tryz.results232,go_sem]) rfl ⟨rfl,uH B⟩
theorem Og(a b:Nat)(G:Int)(o:Nat)(w:World)(N:(G==4)=false)(O:(G==0)=false)(Q:(G==3)=false)
  (H:∀h,BS 164 #[CI a] h (C0 G))
  (I:∀h,BS 164 #[CI b] h (C0 3))
  (J:∀h,BS 262 #[CI 9218868437227405312,CI a,CI b] h (CI (o:Nat))):
  BS 232 #[CI a,CI b] w (.tuple #[CI (o:Nat),.int .u8 0]):=by
 have K:=ac H;have L:=ac I;clear H I
 go_enter Tryz.func232,Tryz.ntmps232
 go_wp2_with fail;refine(uH K _).mono ?_;rintro e U ⟨rfl,t⟩;go_wp2_with fail;refine(uH L _).mono ?_;rintro e Z ⟨rfl,D⟩;have B:=ac (t.trans (D.mono t.size));clear t D K L;have M:=ac J;clear J;go_wp2_with fail;refine(uH M _).mono ?_;rintro e w3 ⟨rfl,F⟩;have B:=ac ((uH B).trans (F.mono (uH B).size));clear F M
 go_wp2
 exact bodyPost_ret (v:=.tuple #[CI (o:Nat),.int .u8 0]) (by simp[results,Tryz.results232,go_sem]) rfl ⟨rfl,uH B⟩
theorem Oh(a b:Nat)(G:Int)(o:Nat)(w:World)(N:(G==4)=false)(O:(G==3)=false)
  (H:∀h,BS 164 #[CI a] h (C0 0))
  (I:∀h,BS 164 #[CI b] h (C0 G))
  (J:∀h,BS 262 #[CI 0,CI a,CI b] h (CI (o:Nat))):
  BS 232 #[CI a,CI b] w (.tuple #[CI (o:Nat),.int .u8 0]):=by
 have K:=ac H;have L:=ac I;clear H I
 go_enter Tryz.func232,Tryz.ntmps232
 go_wp2_with fail;refine(uH K _).mono ?_;rintro e Q ⟨rfl,t⟩;go_wp2_with fail;refine(uH L _).mono ?_;rintro e U ⟨rfl,D⟩;have B:=ac (t.trans (D.mono t.size));clear t D K L;have M:=ac J;clear J;go_wp2_with fail;refine(uH M _).mono ?_;rintro e Z ⟨rfl,F⟩;have B:=ac ((uH B).trans (F.mono (uH B).size));clear F M
 go_wp2
 exact bodyPost_ret (v:=.tuple #[CI (o:Nat),.int .u8 0]) (by simp[results,Tryz.results232,go_sem]) rfl ⟨rfl,uH B⟩
theorem Oi(a b:Nat)(G:Int)(o:Nat)(w:World)(N:(G==4)=false)(O:(G==3)=false)(Q:(G==0)=false)
  (H:∀h,BS 164 #[CI a] h (C0 G))
  (I:∀h,BS 164 #[CI b] h (C0 0))
  (J:∀h,BS 262 #[CI 0,CI a,CI b] h (CI (o:Nat))):
  BS 232 #[CI a,CI b] w (.tuple #[CI (o:Nat),.int .u8 0]):=by
 have K:=ac H;have L:=ac I;clear H I
 go_enter Tryz.func232,Tryz.ntmps232
 go_wp2_with fail;refine(uH K _).mono ?_;rintro e U ⟨rfl,t⟩;go_wp2_with fail;refine(uH L _).mono ?_;rintro e Z ⟨rfl,D⟩;have B:=ac (t.trans (D.mono t.size));clear t D K L;have M:=ac J;clear J;go_wp2_with fail;refine(uH M _).mono ?_;rintro e w3 ⟨rfl,F⟩;have B:=ac ((uH B).trans (F.mono (uH B).size));clear F M
 go_wp2
 exact bodyPost_ret (v:=.tuple #[CI (o:Nat),.int .u8 0]) (by simp[results,Tryz.results232,go_sem]) rfl ⟨rfl,uH B⟩
theorem Oj(a b:Nat)(G H:Int)(I:Int)(o:Nat)(w:World)(Z:(G==4)=false)(h1:(G==3)=false)(h2:(G==0)=false)(h3:(H==4)=false)(h4:(H==3)=false)(h5:(H==0)=false)(J:cX w)
  (K:∀h,BS 164 #[CI a] h (C0 G))
  (L:∀h,BS 164 #[CI b] h (C0 H))
  (M:∀h,cX h->BS 263 #[CI a,CI b] h (.tuple #[CI (o:Nat),.int .u8 I])):
  BS 232 #[CI a,CI b] w (.tuple #[CI (o:Nat),.int .u8 I]):=by
 have N:=ac K;have O:=ac L;clear K L
 go_enter Tryz.func232,Tryz.ntmps232
 go_wp2_with fail;refine(uH N _).mono ?_;rintro e w1 ⟨rfl,t⟩;go_wp2_with fail;refine(uH O _).mono ?_;rintro e w2 ⟨rfl,D⟩;have B:=ac (t.trans (D.mono t.size));clear t D N O;have Q:=ac M;have U:=ac (J.all (uH B));clear M J;go_wp2_with fail;refine(uH Q _ (uH U)).mono ?_;rintro e w3 ⟨rfl,F⟩;have B:=ac ((uH B).trans (F.mono (uH B).size));clear F Q U
 go_wp2
 exact bodyPost_ret (v:=.tuple #[CI (o:Nat),.int .u8 I]) (by simp[results,Tryz.results232,go_sem]) rfl ⟨rfl,uH B⟩
theorem F6(a b:Nat)(w:World)(L:a<18446744073709551616)(M:b<18446744073709551616)(hT:cX w):
  BS 232 #[CI a,CI b] w (.tuple #[CI (mV a b:Nat),.int .u8 (mF a b)]):=by
 have l:=fun F=>dp a F L
 have D:=fun F=>dp b F M
 have Z:=fun F=>iB 9218868437227405312 a b F L M (by decide)
 have CZ:=fun F=>iB 0 a b F L M (by decide)
 by_cases G:fK a=4
 ·rw[show mV a b=9221120237041090560 by unfold mV;rw[if_pos (Or.inl G)],show mF a b=0 by unfold mF;rw[if_pos (Or.inl G)]]
  rw[G]at l;exact J6 a b _ w l D
 by_cases H:fK b=4
 ·rw[show mV a b=9221120237041090560 by unfold mV;rw[if_pos (Or.inr H)],show mF a b=0 by unfold mF;rw[if_pos (Or.inr H)]]
  rw[H]at D;exact J7 a b _ w (by simp[G]) l D
 have J:¬(fK a=4\/fK b=4):=by omega
 by_cases K:fK a=3\/fK b=3
 ·by_cases I:fK a=0\/fK b=0
  ·rw[show mV a b=9221120237041090560 by unfold mV;rw[if_neg J,if_pos K,if_pos I],show mF a b=16 by unfold mF;rw[if_neg J,if_pos K,if_pos I]]
   by_cases N:fK a=3
   ·have Q:fK b=0:=by omega
    rw[N]at l;rw[Q]at D;exact J8 a b w l D
   ·have U:fK b=3:=by omega
    have O:fK a=0:=by omega
    rw[O]at l;rw[U]at D;exact J9 a b w l D
  ·rw[show mV a b=iJ (fS a^^fS b) 9218868437227405312 by unfold mV;rw[if_neg J,if_pos K,if_neg I],show mF a b=0 by unfold mF;rw[if_neg J,if_pos K,if_neg I]]
   by_cases N:fK a=3
   ·rw[N]at l
    exact Of a b _ _ w (by simp[H]) (by simp;omega) l D Z
   ·have U:fK b=3:=by omega
    rw[U]at D;exact Og a b _ _ w (by simp[G]) (by simp;omega) (by simp[N]) l D Z
 ·by_cases I:fK a=0\/fK b=0
  ·have hz:rv (fR a)*rv (fR b)=0:=by
    rcases I with h|h
    ·rw[(oQ _).2 ((dY a).1 h),Nat.zero_mul]
    ·rw[(oQ _).2 ((dY b).1 h),Nat.mul_zero]
   rw[show mV a b=iJ (fS a^^fS b) 0 by unfold mV;rw[if_neg J,if_neg K,hz,wB],show mF a b=0 by unfold mF;rw[if_neg J,if_neg K,if_pos I]]
   by_cases O:fK a=0
   ·rw[O]at l
    exact Oh a b _ _ w (by simp[H]) (by simp;omega) l D CZ
   ·have Q:fK b=0:=by omega
    rw[Q]at D;exact Oi a b _ _ w (by simp[G]) (by simp;omega) (by simp[O]) l D CZ
  ·exact Oj a b _ _ _ _ w (by simp[G]) (by simp;omega) (by simp;omega) (by simp[H]) (by simp;omega) (by simp;omega) hT l D (fun F t=>sW a b F L M (fO a (by omega) G) (fO b (by omega) H) (by omega) (by omega) t)
theorem F7(a:Nat)(k:Int)(f:Bool)(w:World)(H:f=false\/(f=true/\k=0))
  (t:∀l,GF 88 #[CI a] l fun r h=>r=.returned (.bool f)/\l=h)
  (D:∀l,GF 89 #[CI a] l fun r h=>r=.returned (C0 k)/\l=h):
  BS 90 #[CI a] w (C0 0):=by
 have F:=ac t;have I:=ac D;clear t D;rcases H with rfl|⟨rfl,rfl⟩
 ·go_enter Tryz.func90,Tryz.ntmps90
  go_wp2_with fail;refine(uH F _).mono ?_;rintro e G ⟨rfl,rfl⟩
  go_wp2
  go_ret
  exact⟨rfl,Below.refl _ _⟩
 ·go_enter Tryz.func90,Tryz.ntmps90
  go_wp2_with fail;refine(uH F _).mono ?_;rintro e G ⟨rfl,rfl⟩;go_wp2_with fail;refine(uH I _).mono ?_;rintro e G ⟨rfl,rfl⟩
  go_wp2
  go_ret
  exact⟨rfl,Below.refl _ _⟩
theorem F8(a:Nat)(k D X t:Int)(w:World)(h0:(k==0)=false)(ht:-2000<=t/\t<=2000)
  (J:∀l,GF 88 #[CI a] l fun r h=>r=.returned (.bool true)/\l=h)
  (K:∀l,GF 89 #[CI a] l fun r h=>r=.returned (C0 k)/\l=h)
  (L:∀l,GF 60 #[CI a] l fun r h=>∃u,r=.returned u/\aH h u D X/\H8 l h)
  (M:∀l v,aH l v D X->BS 69 #[v] l (C0 t)):
  BS 90 #[CI a] w (C0 (t-1)):=by
 have N:=ac J;have O:=ac K;have Q:=ac L;have U:=ac M;clear J K L M;have hw:=bC (t-1) (by omega)
 go_enter Tryz.func90,Tryz.ntmps90
 go_wp2_with fail;refine(uH N _).mono ?_;rintro e I ⟨rfl,rfl⟩;go_wp2_with fail;refine(uH O _).mono ?_;rintro e I ⟨rfl,rfl⟩;go_wp2_with fail;refine(uH Q _).mono ?_;rintro e I ⟨v,rfl,hv,F⟩;obtain⟨n1,a1,c1,H,rfl,i1⟩:=hv;have Z:=ac (show aH I (.agg #[.bool n1,.slice a1 H.length c1,C0 X]) D X from⟨n1,a1,c1,H,rfl,i1⟩);have G:=ac F;clear i1 F N O Q;generalize H.length=l1 at*;go_wp2_with fail;refine(uH U _ _ (uH Z)).mono ?_;rintro e w2 ⟨rfl,F⟩;have B2:=ac ((uH G).trans (F.mono (uH G).size));clear F G Z U
 go_wp2
 go_ret
 exact⟨rfl,uH B2⟩
theorem Qb{w:World}{v:Value}{D X:Int}(l:aH w v D X)(M:D%2=1)(N:D.natAbs<9007199254740992)(O:-1074<=X/\X<=1024):
  BS 69 #[v] w (C0 ((bl D.natAbs:Int)+X)):=by
 obtain⟨J,ao,K,A,rfl,t,F,L,Q,U⟩:=l.right (df _ (by omega));have:=qN J ao K A X w t (by omega) (by omega);have l:aj A=D.natAbs:=by rw[<-L,aU]
 have H:=kf t.2.1 F;have I:A.length≠0:=fun h=>by
  have:=(aW F).2 h;omega
 unfold jw at this;rw[if_neg I,H,l]at this;exact this
theorem Dh(a:Nat)(w:World)(t:a<18446744073709551616):
  BS 90 #[CI a] w (C0 (eX a)):=by
 have D:=fun l=>jo a l t
 have G:=fun l=>lw a l t
 unfold eX
 by_cases h:fK a=4\/fK a=3\/fK a=0
 ·rw[if_pos h]
  refine F7 a _ _ w ?_ D G;rcases i9 a with⟨F,_⟩|⟨F,U⟩
  ·exact .inl F
  ·exact .inr ⟨F,by omega⟩
 ·rw[if_neg h]
  have H:=fO a (by omega) (by omega);obtain⟨z1,z2,J,K,L,M,N,O,Q⟩:=gf a t H (by omega);rw[H]at D;exact F8 a _ (fD a) (fX a) _ w (by simp;omega) (by omega) D G (fun l=>ke a l t) (fun l v I=>Qb I z1 z2 (by omega))
end Go.Proofs.YtcbcmlaogehimaaGreatDoor
