/- Part 41 of the texts. -/
import Derived.Test.YtmpkkhackbpflaaGreatDoorPartg40
set_option maxRecDepth 20000
namespace Go.Proofs.YtmpkkhackbpflaaGreatDoor
open Go.RowKit
def cI(Z:Rat)(xs:List Nat):Prop:=∀x∈xs,x<18446744073709551616∧ah x=true∧ab (fQ x)≤Z
theorem cI.mono{Z Y:Rat}{l:List Nat}(h:cI Z l)(t:Z≤Y):cI Y l:=fun x d=>⟨(h x d).1,(h x d).2.1,Rat.le_trans (h x d).2.2 t⟩
theorem nO(e:Int):p2 (e+e)=p2 e*p2 e:=cQ e e
theorem dG(e:Int)(k:Nat):p2 (e+k)=((2^k:Nat):Rat)*p2 e:=by rw[cQ,cR,Rat.mul_comm]
theorem kw{d:List Nat}(h:bS 0 d=0):aX d=0:=by unfold aX;rw[if_pos (.inl h)];exact h
theorem qh{d:List Nat}(h:∀x∈d,fQ x=0):aJ d=0:=by
 induction d with
 |nil=>rfl
 |cons x d ih=>
  show fQ x*fQ x+aJ d=0
  rw[h x List.mem_cons_self,ih (fun y l=>h y (List.mem_cons_of_mem _ l))]
  grind
theorem io(d:List Nat)(O:d.length≤6)(H:cI (p2 300) d):
  ah (aX d)=true∧0≤fQ (aX d)∧9007199254740992*ab (fQ (aX d)*fQ (aX d)-aJ d)≤135*aJ d+p2 (-1700)∧∀x∈d,1000*ab (fQ x)≤1001*fQ (aX d):=by
 have P0:=aw (-1700)
 have l:d.length≤64:=by omega
 by_cases D:bS 0 d=0
 ·have e:=kw D
  have z:=MW d (fun x h=>(H x h).2.1) D
  rw[e,ix,qh z]
  refine⟨by decide,Rat.le_refl,?_,fun x h=>?_⟩
  ·have:(0:Rat)*0-0=0:=by grind
   rw[this]
   unfold ab
   grind
  ·rw[z x h]
   unfold ab
   grind
 ·obtain⟨k,t⟩:∃k,eX (bS 0 d)=k:=⟨_,rfl⟩
  have I:jV (k.natAbs+1) d:=⟨fun x h=>⟨(H x h).1,(H x h).2.1⟩,.inr ⟨by rw[t];omega,by rw[t];omega⟩⟩
  obtain⟨b1,Y,Z,b4,b5,b6,N,b8,y,hy,b9,aa⟩:=gz _ d I D
  have J:=jv _ (by omega) Y Z
  rw[t,aQ (ju _ b4)]at J
  have F:=(H y hy).2.2
  rw[b9]at F
  have k1:k≤300:=mz (Rat.le_trans J.1 F)
  obtain⟨nf,up⟩:=jy _ d l I D (by rw[t];omega)
  have ge:=vB _ d l I D (by rw[t];omega)
  rw[t]at up
  have pk:=aw k
  have G:0<fQ (aX d):=by grind
  refine⟨nf,Rat.le_of_lt G,?_,fun x h=>by have:=N x h;grind⟩
  rcases Int.lt_or_le k (-899)with g|g
  ·--tiny
   rw[aQ (Rat.le_of_lt G)]at up
   have hk:=aA (show k≤-900 by omega)
   have q1:p2 (-1074)≤p2 (-900):=aA (by decide)
   have Q:p2 (-1700)=1267650600228229401496703205376*(p2 (-900)*p2 (-900)):=by
    rw[←nO,show(-1700:Int)=(-900+-900)+((100:Nat):Int) by rfl,dG]
    rfl
   have Q0:=aw (-900)
   have T:fQ (aX d)≤18*p2 (-900):=by grind
   have U:aJ d≤6*(2*p2 (-900)*(2*p2 (-900))):=by
    have h1:=mw (2*p2 (-900)) d (fun x h=>by have:=N x h;rw[bR]at J;grind)
    have V:(d.length:Rat)≤6:=Rat.natCast_le_natCast.2 O
    have:=Rat.mul_nonneg (show 0≤6-(d.length:Rat) by grind) (al (2*p2 (-900)))
    grind
   have S0:=bw d
   have L:fQ (aX d)*fQ (aX d)≤324*(p2 (-900)*p2 (-900)):=by
    have:=Rat.mul_nonneg (show 0≤18*p2 (-900)-fQ (aX d) by grind) (show 0≤18*p2 (-900)+fQ (aX d) by grind)
    grind
   have N0:=al (fQ (aX d))
   have R0:=al (p2 (-900))
   rw[Q]
   have X:6*(2*p2 (-900)*(2*p2 (-900)))=24*(p2 (-900)*p2 (-900)):=by grind
   rw[X]at U
   generalize fQ (aX d)*fQ (aX d)=NN at*
   generalize p2 (-900)*p2 (-900)=RR at*
   generalize aJ d=SS at*
   have:=bU (x:=NN-SS) (y:=348*RR) (by grind) (by grind)
   grind
  ·have M:jV 900 d:=⟨I.1,.inr ⟨by rw[t];omega,by rw[t];omega⟩⟩
   obtain⟨_,_,_,n4⟩:=pU 900 (by decide) d l M D
   grind
theorem gO(X:List Nat)(D:X.length≤6)(l:cI (p2 300) X):
  EU X=true∧ah (dr X)=true∧1000*ab (fQ (dr X))≤2001∧(∀v∈cu X,ah v=true∧1000*ab (fQ v)≤1001)∧(X≠ []→(fQ (gv X)*fQ (gv X)=fQ (aX X)*fQ (aX X)∨fQ (gv X)*fQ (gv X)=aJ X))∧ah (gv X)=true:=by
 match X,D,l with
 | [],_,_=>exact⟨rfl,by decide,by rw[show dr []=0 from rfl,ix];unfold ab;grind,(fun v d=>by cases d),fun h=>absurd rfl h,by decide⟩
 |a::xs,D,l=>
  obtain⟨M,n0,n1,n2⟩:=io (a::xs) D l
  cases hn:kP xs with
  |true=>
   have F:dr (a::xs)=0:=if_pos hn
   have G:gv (a::xs)=a:=if_pos hn
   have H:EU (a::xs)=true:=by show(kP xs||_)=true;rw[hn];rfl
   rw[F,G,H]
   refine⟨rfl,by decide,by rw[ix];unfold ab;grind,fun v d=>?_,fun _=>.inr ?_,(l a List.mem_cons_self).2.1⟩
   ·rcases List.mem_cons.1 d with rfl|d
    ·rw[k7];exact⟨by decide,by unfold ab;grind⟩
    ·obtain⟨x,_,rfl⟩:=List.mem_map.1 d
     rw[if_pos hn,ix]
     exact⟨by decide,by unfold ab;grind⟩
   ·show _=fQ a*fQ a+aJ xs
    rw[zU hn];grind
  |false=>
   have O:bS 0 (a::xs)≠0:=by
    intro e
    have k:=MW (a::xs) (fun x h=>(l x h).2.1) e
    have:kP xs=true:=List.all_eq_true.2 (fun x z=>decide_eq_true (tE (l x (List.mem_cons_of_mem _ z)).1 (l x (List.mem_cons_of_mem _ z)).2.1 (k x (List.mem_cons_of_mem _ z))))
    rw[this]at hn
    cases hn
   have L:=lu (a::xs)
   obtain⟨Q,T⟩:=tG a xs
   have I:ah (da a xs)=true∧((fQ (da a xs)=fQ (aX (a::xs))∧fQ a≤0)∨(fQ (da a xs)= -fQ (aX (a::xs))∧0≤fQ a)):=by
    unfold da
    by_cases e:rW (a::xs)=true
    ·rw[if_pos e];exact⟨M,.inl ⟨rfl,Q e⟩⟩
    ·rw[if_neg e]
     exact⟨(gY _ L).trans M,.inr ⟨mv _ L,T (by simpa using e)⟩⟩
   obtain⟨J,N⟩:=I
   obtain⟨U,V,Y,Z,_⟩:=ti a (da a xs) (gS a xs) (dV (aV (da a xs) (fN a)) (da a xs)) xs (xs.map (fun x=>dV x (gS a xs))) (by omega) l O (gT a xs) J N rfl rfl rfl
   have t:¬kP xs=true:=by rw[hn];decide
   have F:dr (a::xs)=dV (aV (da a xs) (fN a)) (da a xs):=if_neg t
   have G:gv (a::xs)=da a xs:=if_neg t
   have H:EU (a::xs)=true:=by show(kP xs||(ah (da a xs)&&ah (gS a xs)))=true;rw[J,U,Bool.and_self,Bool.or_true]
   rw[F,G,H]
   refine⟨rfl,V,Y,fun v d=>?_,fun _=>.inl ?_,J⟩
   ·rcases List.mem_cons.1 d with rfl|d
    ·rw[k7];exact⟨by decide,by unfold ab;grind⟩
    ·obtain⟨x,z,rfl⟩:=List.mem_map.1 d
     rw[if_neg t]
     exact Z _ (List.mem_map.2 ⟨x,z,rfl⟩)
   ·rcases N with⟨e,_⟩|⟨e,_⟩<;>rw[e]<;>grind
theorem zW(X:List Nat)(M:X.length≤6)(z:cI (p2 290) X)(d:p2 (-290)≤fQ (aX X)):
  zF X.length (vl 0 (cu X)) (fQ (dr X)) (1/8796093022208)∨fQ (dr X)=0:=by
 match X,M,z,d with
 | [],_,_,_=>exact .inr ix
 |a::xs,M,z,d=>
  cases hn:kP xs with
  |true=>exact .inr (by rw[show dr (a::xs)=0 from if_pos hn,ix])
  |false=>
   left
   have Y:cI (p2 300) (a::xs):=z.mono (aA (by decide))
   have G:bS 0 (a::xs)≠0:=by
    intro e
    rw[kw e,ix]at d
    have:=aw (-290)
    grind
   obtain⟨k,t⟩:∃k,eX (bS 0 (a::xs))=k:=⟨_,rfl⟩
   have H:jV (k.natAbs+1) (a::xs):=⟨fun x h=>⟨(z x h).1,(z x h).2.1⟩,.inr ⟨by rw[t];omega,by rw[t];omega⟩⟩
   obtain⟨b1,b2,b3,b4,b5,b6,b7,b8,y,hy,b9,aa⟩:=gz _ (a::xs) H G
   have N:=jv _ (by omega) b2 b3
   rw[t,aQ (ju _ b4)]at N
   have D:=(z y hy).2.2
   rw[b9]at D
   have k1:k≤290:=mz (Rat.le_trans N.1 D)
   obtain⟨V,up⟩:=jy _ (a::xs) (by omega) H G (by rw[t];omega)
   rw[t]at up
   have Z:-296≤k:=by
    rcases Int.lt_or_le k (-296)with g|g
    ·exfalso
     have O:=aA (show k≤-297 by omega)
     have Q:p2 (-290)=128*p2 (-297):=by rw[show(-290:Int)= -297+((7:Nat):Int) by rfl,dG];rfl
     have T:=aA (show(-1074:Int)≤-297 by decide)
     have q4:=aw (-297)
     have l:=au (fQ (aX (a::xs)))
     grind
    ·exact g
   have I:jV 300 (a::xs):=⟨H.1,.inr ⟨by rw[t];omega,by rw[t];omega⟩⟩
   have J:=lu (a::xs)
   obtain⟨s1,s2⟩:=tG a xs
   have pν:=aw (-290)
   have U:fK (aX (a::xs))≠0:=fun e=>by rw[bu _ e]at d;grind
   have L:ah (da a xs)=true∧fK (da a xs)≠0∧((fQ (da a xs)=fQ (aX (a::xs))∧fQ a≤0)∨(fQ (da a xs)= -fQ (aX (a::xs))∧0≤fQ a)):=by
    unfold da
    by_cases e:rW (a::xs)=true
    ·rw[if_pos e];exact⟨V,U,.inl ⟨rfl,s1 e⟩⟩
    ·rw[if_neg e]
     exact⟨(gY _ J).trans V,fun g=>U ((Jk _ J).symm.trans g),.inr ⟨mv _ J,s2 (by simpa using e)⟩⟩
   obtain⟨O,Q,T⟩:=L
   obtain⟨f1,f2,f3,f4,f5,f6,_⟩:=kO a (da a xs) (gS a xs) (dV (aV (da a xs) (fN a)) (da a xs)) xs (xs.map (fun x=>dV x (gS a xs))) (by omega) I G (gT a xs) O Q T rfl rfl rfl
   have F:¬kP xs=true:=by rw[hn];decide
   have e1:dr (a::xs)=dV (aV (da a xs) (fN a)) (da a xs):=if_neg F
   have e2:cu (a::xs)=4607182418800017408::xs.map (fun x=>dV x (gS a xs)):=by
    show 4607182418800017408::xs.map (fun x=>if kP xs=true then 0 else dV x (gS a xs))=_
    congr 1
    exact List.map_congr_left (fun x _=>if_neg F)
   rw[e1,e2]
   exact KH 0 _ _ _ (by simp) f6 (by grind)
theorem Ii(X y:List Nat)(Q:X.length≤6)(hy:y.length=X.length)(hX:cI (p2 290) X)(T:cI (p2 290) y)(aa:fQ (aX y)≤fQ (aX X)):
  (∀Z,cI Z y→6*Z≤p2 900→1267650600228229401496703205376*p2 (-1075)≤Z→cI (24*Z) (mU (mV (dr X) (eh 0 (cu X) y)) (cu X) y))∧
  (p2 (-290)≤fQ (aX X)→274877906944*aJ (mU (mV (dr X) (eh 0 (cu X) y)) (cu X) y)≤274877906945*(fQ (aX X)*fQ (aX X)))∧
  (fQ (aX X)<p2 (-290)→∀u∈mU (mV (dr X) (eh 0 (cu X) y)) (cu X) y,ab (fQ u)≤p2 (-285)):=by
 have I:cI (p2 300) X:=hX.mono (aA (by decide))
 have ad:cI (p2 300) y:=T.mono (aA (by decide))
 obtain⟨c1,c2,c3,c4,c5,c6⟩:=gO X Q I
 obtain⟨x1,x2,x3,x4⟩:=io X Q I
 obtain⟨y1,y2,y3,y4⟩:=io y (by omega) ad
 have J:(cu X).length=y.length:=by rw[eH,hy]
 have hu:∀u∈mU (mV (dr X) (eh 0 (cu X) y)) (cu X) y,u<18446744073709551616:=by
  intro u hu
  obtain⟨i,H,rfl⟩:=List.getElem_of_mem hu
  have:=EW (mV (dr X) (eh 0 (cu X) y)) (cu X) y i J (by rw[oR _ _ _ J]at H;exact H)
  rw[List.getD_eq_getElem?_getD,List.getElem?_eq_getElem H]at this
  simp only[Option.getD_some]at this
  rw[this]
  refine jT _ _ ?_ (jF _ (kL _ _))
  rw[List.getD_eq_getElem?_getD,List.getElem?_eq_getElem (by rw[oR _ _ _ J,J]at H;exact H)]
  exact(T _ (List.getElem_mem _)).1
 have d:∀Z,(∀x∈y,ah x=true∧ab (fQ x)≤Z)→6*Z≤p2 900→1267650600228229401496703205376*p2 (-1075)≤Z→∀u∈mU (mV (dr X) (eh 0 (cu X) y)) (cu X) y,ah u=true∧ab (fQ u)≤24*Z:=fun Z U V L=>rQ (dr X) Z (cu X) y (by omega) J c2 c3 c4 U V L
 refine⟨fun Z U V L u D=>⟨hu u D,d Z (fun x F=>⟨(U x F).2.1,(U x F).2.2⟩) V L u D⟩,fun G=>?_,fun G u D=>?_⟩
 ·obtain⟨ν,t⟩:∃ν,fQ (aX X)=ν:=⟨_,rfl⟩
  rw[t]at G aa x2⊢
  have p0:=aw (-290)
  have ν0:0<ν:=by grind
  --the other column's square
  have ae:p2 (-580)≤ν*ν:=by
   rw[show(-580:Int)= -290+-290 by rfl,nO]
   have:=Rat.mul_nonneg (show 0≤ν-p2 (-290) by grind) (show 0≤ν+p2 (-290) by grind)
   grind
  have ht:1267650600228229401496703205376*p2 (-1700)≤p2 (-580):=by
   have e:p2 (-1600)=1267650600228229401496703205376*p2 (-1700):=by rw[show(-1600:Int)= -1700+((100:Nat):Int) by rfl,dG];rfl
   rw[←e]
   exact aA (by decide)
  have ao:fQ (aX y)*fQ (aX y)≤ν*ν:=by
   have:=Rat.mul_nonneg (show 0≤ν-fQ (aX y) by grind) (show 0≤ν+fQ (aX y) by grind)
   grind
  have S0:=bw y
  have hS:9007199254740992*aJ y≤9007199254741140*(ν*ν):=by
   have l:=au (fQ (aX y)*fQ (aX y)-aJ y)
   have p1:=aw (-1700)
   generalize fQ (aX y)*fQ (aX y)=NN at*
   generalize ν*ν=Y at*
   generalize aJ y=SS at*
   generalize ab (NN-SS)=z at*
   grind
  --a bound of its size
  obtain⟨A,hA⟩:∃A,A=(1+80/9007199254740992)*ν:=⟨_,rfl⟩
  have M:Bd y.length (fc y) A:=by
   refine⟨by grind,?_⟩
   rw[k9]
   have e:A*A=(1+80/9007199254740992)*(1+80/9007199254740992)*(ν*ν):=by rw[hA];grind
   rw[e]
   generalize ν*ν=Y at*
   grind
  have ai:mT y≤3*ν:=by
   have:=Jq y 0 (by omega) A M
   rw[List.drop_zero]at this
   grind
  have N:3*ν≤p2 900:=by
   have V:ν≤p2 308:=by
    have hw:ν*ν≤p2 308*p2 308:=by
     have l:=au (fQ (aX X)*fQ (aX X)-aJ X)
     have hs:=mw (p2 300) X (fun x F=>(I x F).2.2)
     have ap:(X.length:Rat)≤6:=Rat.natCast_le_natCast.2 Q
     have m:=Rat.mul_nonneg (show 0≤6-(X.length:Rat) by grind) (al (p2 300))
     have e:p2 308*p2 308=65536*(p2 300*p2 300):=by rw[show(308:Int)=300+((8:Nat):Int) by rfl,dG];have:((2^8:Nat):Rat)=256:=rfl;rw[this];grind
     have p1:p2 (-1700)≤p2 300*p2 300:=by rw[←nO];exact aA (by decide)
     have X0:=bw X
     rw[t]at l x3
     rw[e]
     generalize ν*ν=Y at*
     generalize p2 300*p2 300=PP at*
     generalize aJ X=SX at*
     generalize ab (Y-SX)=z at*
     grind
    exact bW (Rat.le_of_lt (aw _)) hw
   have L:=aA (show(308+1+1:Int)≤900 by decide)
   simp only[bR]at L
   have:=aw 308
   grind
  have hη:1267650600228229401496703205376*p2 (-1075)≤3*ν:=by
   have:=pP (-290) (by decide)
   grind
  have st:=vx 0 (dr X) (3*ν) (cu X) y (by omega) (by omega) c2 c3 c4 (fun x F=>(T x F).2.1) (by rw[List.drop_zero];exact ai) N hη
  rw[List.take_zero,List.nil_append,List.drop_zero]at st
  have hm:Bd y.length (dE y.length (vl 0 (cu X)) (fQ (dr X)) (fc y)) ((1+2*(1/8796093022208))*A):=by
   rcases zW X Q hX (by rw[t];exact G)with hM|h0
   ·rw[←hy]at hM
    exact hM.bd M
   ·refine(M.congr (fun i H=>?_)).mono (by have:=M.1;grind)
    unfold dE
    rw[h0]
    grind
  have am:=(Bd.add st hm).congr (y:=fc (mU (mV (dr X) (eh 0 (cu X) y)) (cu X) y)) (fun i H=>by grind)
  have O:=am.2
  have la:(mU (mV (dr X) (eh 0 (cu X) y)) (cu X) y).length=y.length:=by rw[oR _ _ _ J,J]
  rw[←la,k9]at O
  have e:(115/9007199254740992*(3*ν)+(1+2*(1/8796093022208))*A)≤(1+3000/9007199254740992)*ν:=by rw[hA];grind
  have e0:0≤115/9007199254740992*(3*ν)+(1+2*(1/8796093022208))*A:=by have:=M.1;grind
  have m:=Rat.mul_nonneg (show 0≤(1+3000/9007199254740992)*ν-(115/9007199254740992*(3*ν)+(1+2*(1/8796093022208))*A) by grind) (show 0≤(1+3000/9007199254740992)*ν+(115/9007199254740992*(3*ν)+(1+2*(1/8796093022208))*A) by grind)
  have e3:(1+3000/9007199254740992)*ν*((1+3000/9007199254740992)*ν)=(1+3000/9007199254740992)*(1+3000/9007199254740992)*(ν*ν):=by grind
  generalize 115/9007199254740992*(3*ν)+(1+2*(1/8796093022208))*A=B at*
  generalize aJ (mU (mV (dr X) (eh 0 (cu X) y)) (cu X) y)=US at*
  have e4:US≤(1+3000/9007199254740992)*(1+3000/9007199254740992)*(ν*ν):=by grind
  have aq:=al ν
  clear m e3 O e e0
  generalize ν*ν=Y at*
  grind
 ·have q0:=aw (-290)
  have e1:p2 (-285)=32*p2 (-290):=by rw[show(-285:Int)= -290+((5:Nat):Int) by rfl,dG];rfl
  have h:=d (1001/1000*p2 (-290)) (fun x F=>⟨(T x F).2.1,by have:=y4 x F;grind⟩) (by
   have:=aA (show(-290+1+1+1:Int)≤900 by decide)
   simp only[bR]at this
   grind) (by have:=pP (-290) (by decide);grind) u D
  rw[e1]
  grind
theorem yj(n:Nat):∀(d h:List ((Nat→Rat)×Rat)) (y:Nat→Rat),bJ n (d++h) y=bJ n h (bJ n d y):=by
 intro d
 induction d with
 |nil=>intro h y;rfl
 |cons m d ih=>intro h y;exact ih h _
theorem Ij{n:Nat}{v:Nat→Rat}{t:Rat}{y:Nat→Rat}(h:dt n v y=0)(i:Nat):dE n v t y i=y i:=by
 unfold dE
 rw[h]
 grind
theorem EX(n j:Nat)(d:List Nat)(y:Nat→Rat)(h:∀i,i<n→j≤i→y i=0):dt n (vl j d) y=0:=by
 refine k8 n _ (fun i l=>?_)
 show vl j d i*y i=0
 rcases Nat.lt_or_ge i j with g|g
 ·unfold vl;rw[if_pos g];grind
 ·rw[h i l g];grind
structure Mr where
 ao:Option Addr
 cap:Nat
 V:List Nat
 tau:Nat
 beta:Nat
def fo(R:List Mr)(k:Nat):Mr:=R[k]?.getD ⟨none,0,[],0,0⟩
def Ik(g:Option Nat)(x:Mr):Prop:=x.V= []∨∃b off,x.ao=some ⟨b,off,none⟩∧some b≠g
theorem Ik.new{w:World}{x:Mr}(h:ak w x.ao x.cap (bs x.V)){g:Nat}(l:w.heap.size≤g):Ik (some g) x:=by
 rcases h.2.2 with e|⟨b,d,e,t,_⟩
 ·exact .inl (by cases hV:x.V with
   |nil=>rfl
   |cons y ys=>rw[hV]at e;cases e)
 ·exact .inr ⟨b,d,e,by intro e;cases e;omega⟩
theorem mI{w z:World}{x:Mr}{g:Option Nat}(h:ak w x.ao x.cap (bs x.V))(H:Ik g x)(D:w.grownBy z g):ak z x.ao x.cap (bs x.V):=by
 refine⟨h.1,h.2.1,?_⟩
 rcases h.2.2 with e|⟨b,d,e,F,J⟩
 ·exact .inl e
 ·rcases H with l|⟨L,G,l,t⟩
  ·exact .inl (by rw[l];rfl)
  ·rw[e]at l
   simp only[Option.some.injEq,Addr.mk.injEq]at l
   obtain⟨rfl,rfl,_⟩:=l
   refine .inr ⟨b,d,e,Nat.lt_of_lt_of_le F D.size,fun i I=>?_⟩
   rw[World.cell?_of_block (a:=⟨b,d+i,none⟩) (D.block b F t)]
   exact J i I
theorem j4{w F:World}{d e l n:Nat}{v:Value}{G:List Value}{g:Option Nat}(h:w.ownsRow d e l v n G)(J:w.grownBy F g)(t:∀k,v.ownBlock=some k→some k≠g):F.ownsRow d e l v n G:=by
 refine⟨h.1,?_⟩
 rcases h.2 with h|⟨k,z,D,H,M,I,N⟩
 ·exact .inl h
 ·have L:k<w.heap.size:=(Array.getElem?_eq_some_iff.1 I).1
  exact .inr ⟨k,z,D,H,M,(J.block k L (t k (by rw[H];rfl))).trans I,N⟩
def Mr.pair(x:Mr):List Value:=[.slice x.ao x.V.length x.cap,.int .u64 (x.tau:Nat)]
def gA(R:List Mr):List Value:=R.flatMap Mr.pair
theorem oq:∀(R:List Mr) (k:Nat),k<R.length→(gA R)[k*2]? =some (.slice (fo R k).ao (fo R k).V.length (fo R k).cap)∧(gA R)[k*2+1]? =some (.int .u64 ((fo R k).tau:Nat))
 |x::R,0,_=>by simp[gA,fo,Mr.pair]
 |x::R,k+1,h=>by
  have:=oq R k (by simpa using h)
  have e:gA (x::R)=.slice x.ao x.V.length x.cap::.int .u64 (x.tau:Nat)::gA R:=rfl
  rw[e,show(k+1)*2=k*2+1+1 by omega]
  simpa[fo]using this
def ch(base:Nat)(w:World)(v:Value)(R:List Mr):Prop:=w.ownsRow base 121 2 v R.length (gA R)∧∀x∈R,ak w x.ao x.cap (bs x.V)∧Ik v.ownBlock x
theorem ch.start(w:World)(d:Nat):ch d w (.slice none 0 0) []:=⟨⟨by rfl,.inl ⟨rfl,rfl⟩⟩,by simp⟩
theorem ch.below{d:Nat}{w t:World}{v:Value}{R:List Mr}(h:ch d w v R)(l:Below w.heap.size w t):ch d t v R:=
 ⟨j4 h.1 ⟨l.os,l.tape,l.output,l.size,fun k D _=>l.block k D⟩ (fun k _=>by simp:∀k,v.ownBlock=some k→some k≠none),fun x z=>⟨((h.2 x z).1).below l,(h.2 x z).2⟩⟩
theorem ch.lt{d:Nat}{w:World}{v:Value}{R:List Mr}(h:ch d w v R):∀k,v.ownBlock=some k→d≤k∧k<w.heap.size:=h.1.lt
theorem LO:(Tryz.prog.info? 121).map (fun i=>(i.zero,i.size,i.bytes))=some (some (.agg #[.slice none 0 0,.int .u64 0]),2,32):=by kernel_rfl
theorem ch.push{d:Nat}{w:World}{v:Value}{R:List Mr}(h:ch d w v R)(x:Mr)(Q:ak w x.ao x.cap (bs x.V))(T:Ik v.ownBlock x)(hl:R.length≤1000000)(U:d≤w.heap.size)(L:TypeId):
  ∃v' z,(Builtin.append_ #[66,66] L #[v,.slice (some ⟨w.heap.size,0,none⟩) 1 1]).run Tryz.prog (w.alloc (.cells #[.slice x.ao x.V.length x.cap,.int .u64 (x.tau:Nat)] 121))=.ok v' z∧ch d z v' (R++[x])∧Below d w z∧(w.alloc (.cells #[.slice x.ao x.V.length x.cap,.int .u64 (x.tau:Nat)] 121)).grownBy z v.ownBlock∧(v'.ownBlock=v.ownBlock∨v'.ownBlock=some (w.heap.size+1)):=by
 obtain⟨i0,hi,G,H,I⟩:=info_parts LO
 have D:=ag w (.cells #[.slice x.ao x.V.length x.cap,.int .u64 (x.tau:Nat)] 121)
 have Z:=heap_alloc_new w (.cells #[.slice x.ao x.V.length x.cap,.int .u64 (x.tau:Nat)] 121)
 have s1:=aH w (.cells #[.slice x.ao x.V.length x.cap,.int .u64 (x.tau:Nat)] 121)
 have N:=h.below D
 have F:=Q.below D
 generalize w.alloc (.cells #[.slice x.ao x.V.length x.cap,.int .u64 (x.tau:Nat)] 121)=W at*
 obtain⟨v',z,e1,e2,J,e4,O⟩:=run_append_own_at (P:=Tryz.prog) W d 66 L 121 i0 (.agg #[.slice none 0 0,.int .u64 0]) 2 32 Tryz.underlying66 hi G H I rfl (by decide) v R.length (gA R) N.1 ⟨w.heap.size,0,none⟩ 1 1 x.pair rfl (fun j u X=>by
   rw[show(⟨w.heap.size,0,none⟩:Addr).add j=⟨w.heap.size,j,none⟩from by unfold Addr.add;split<;>simp_all,cell_of_row _ w.heap.size j _ _ _ Z]
   simpa[Mr.pair]using X) (fun u M=>by
   simp[Mr.pair]at M
   rcases M with rfl|rfl<;>rfl) (by unfold maxLen;omega) (by omega) (by omega)
 ·refine⟨v',z,e1,⟨?_,fun y t=>?_⟩,(D.mono U).grown J (by omega) (fun g Y=>(h.1.lt g Y).1),J,by rw[←s1];exact O⟩
  ·rw[List.length_append,show gA (R++[x])=gA R++x.pair by simp[gA]]
   exact e2
  ·have l:ak W y.ao y.cap (bs y.V)∧Ik v.ownBlock y:=by
    rcases List.mem_append.1 t with t|t
    ·exact N.2 y t
    ·simp at t;subst t;exact⟨F,T⟩
   refine⟨mI l.1 l.2 J,?_⟩
   rcases O with e|e
   ·rw[e];exact l.2
   ·rw[e];exact Ik.new l.1 (Nat.le_refl _)
theorem ch.putQ{l:Nat}{w:World}{v:Value}{R:List Mr}(h:ch l w v R){g:Nat}{x y:Int}{o:Option Addr}{n d:Nat}(G:aT w g (.int .i64 x) (.int .i64 y) (.slice o n d))(u u' u'':Value):ch l (((w.setCell ⟨g,0,none⟩ u).setCell ⟨g,1,none⟩ u').setCell ⟨g,2,none⟩ u'') v R:=by
 refine⟨⟨h.1.1,?_⟩,fun z H=>⟨(h.2 z H).1.putM G u u' u'',(h.2 z H).2⟩⟩
 rcases h.1.2 with e|⟨k,D,F,J,L,I,rest⟩
 ·exact .inl e
 ·have t:k≠g:=by
   rintro rfl
   have e:=I.symm.trans G
   simp at e
  exact .inr ⟨k,D,F,J,L,(Below.heap_setCell _ ⟨g,2,none⟩ u'' k t).trans ((Below.heap_setCell _ ⟨g,1,none⟩ u' k t).trans ((Below.heap_setCell _ ⟨g,0,none⟩ u k t).trans I)),rest⟩
theorem ch.grown{d:Nat}{w t:World}{v:Value}{R:List Mr}(h:ch d w v R){g:Nat}(D:v.ownBlock≠some g)(F:∀x∈R,Ik (some g) x)(z:w.grownBy t (some g)):ch d t v R:=
 ⟨j4 h.1 z (fun k G e=>D (by rw[G,e])),fun x l=>⟨mI (h.2 x l).1 (F x l) z,(h.2 x l).2⟩⟩
theorem ch.slice{d:Nat}{w:World}{v:Value}{R:List Mr}(h:ch d w v R):∃lo l,v=.slice lo R.length l:=by
 rcases h.1.2 with⟨t,z⟩|⟨g,D,F,G,_⟩
 ·exact⟨none,0,by rw[t,z]⟩
 ·exact⟨_,_,G⟩
theorem ch.least{d z:Nat}{w:World}{v:Value}{R:List Mr}(h:ch d w v R)(D:z≤d):ch z w v R:=by
 refine⟨⟨h.1.1,?_⟩,h.2⟩
 rcases h.1.2 with e|⟨k,l,t,F,G,rest⟩
 ·exact .inl e
 ·exact .inr ⟨k,l,t,F,Nat.le_trans D G,rest⟩
theorem ch.at{d:Nat}{w:World}{v:Value}{R:List Mr}(h:ch d w v R){k:Nat}(D:k<R.length):∃g l,v=.slice (some ⟨g,0,none⟩) R.length l∧d≤g∧g<w.heap.size∧w.cell? ⟨g,k*2,none⟩=some (.slice (fo R k).ao (fo R k).V.length (fo R k).cap)∧w.cell? ⟨g,k*2+1,none⟩=some (.int .u64 ((fo R k).tau:Nat))∧ak w (fo R k).ao (fo R k).cap (bs (fo R k).V):=by
 rcases h.1.2 with⟨G,L⟩|⟨g,l,H,G,I,F,M,N,O,J⟩
 ·omega
 ·obtain⟨t,z⟩:=oq R k D
  rw[←J,List.getElem?_take]at t z
  rw[if_pos (by omega)]at t z
  simp only[Array.getElem?_toList]at t z
  refine⟨g,l,G,I,(Array.getElem?_eq_some_iff.1 F).1,?_,?_,(h.2 (fo R k) ?_).1⟩
  ·rw[cell_of_row w g _ _ _ _ F];exact t
  ·rw[cell_of_row w g _ _ _ _ F];exact z
  ·unfold fo
   rw[List.getElem?_eq_getElem D]
   exact List.getElem_mem D
end Go.Proofs.YtmpkkhackbpflaaGreatDoor
