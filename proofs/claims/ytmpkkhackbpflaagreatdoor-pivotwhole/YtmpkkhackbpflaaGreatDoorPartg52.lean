/- Part 52 of the texts. -/
import Derived.Test.YtmpkkhackbpflaaGreatDoorPartg51
import Derived.Lib.SmallJoins
import Derived.Test.YtmpkkhackbpflaaGreatDoorRows
import Derived.Deep.DeepHandedRow
set_option maxHeartbeats 1000000
namespace Go.Proofs.YtmpkkhackbpflaaGreatDoor
open Go.RowKit
theorem FH(a:Nat)(d:ah a=true):ah (fR a)=true∧fQ (fR a)=ab (fQ a):=by
 have t:=jt a d
 have h:=iJ (fR a) (jG a)
 have l:fS (fR a)=false:=decide_eq_false (by have:=jG a;omega)
 refine⟨?_,?_⟩
 ·unfold ah fP
  refine decide_eq_true ?_
  omega
 ·rw[df,l,iW,h.2.1]
  simp
theorem Mm{a b:Nat}:fZ a<fZ b↔fQ a<fQ b:=by
 constructor
 ·intro h
  unfold fQ
  exact Rat.mul_lt_mul_of_pos_right (Rat.intCast_lt_intCast.2 h) (aw _)
 ·intro h
  rcases Int.lt_or_le (fZ a) (fZ b)with g|g
  ·exact g
  ·exfalso
   have:=yO g
   grind
theorem tO(c:Nat)(S:List Nat)(k:Nat)(G:ah (cj c S 0 0)=true)(H:ah (cj c S k k)=true)(Y:ab (fQ (cj c S 0 0))≤1000)(Z:1≤1000*ab (fQ (cj c S 0 0))):
  (Cl c S k=true↔ab (fQ (cj c S 0 0))<1099511627776*ab (fQ (cj c S k k))):=by
 obtain⟨T,z⟩:=FH _ G
 obtain⟨U,V⟩:=FH _ H
 have I:=bK (fQ (cj c S 0 0))
 have J:p2 (-40)*1099511627776=1:=by have:=dG (-40) 40;rw[show(-40:Int)+((40:Nat):Int)=0 by rfl,kF]at this;have h:((2^40:Nat):Rat)=1099511627776:=rfl;rw[h]at this;grind
 have L:p2 (-60)*1048576=p2 (-40):=by have:=dG (-60) 20;rw[show(-60:Int)+((20:Nat):Int)= -40 by rfl]at this;have h:((2^20:Nat):Rat)=1048576:=rfl;rw[h]at this;grind
 have M:=aA (show(-1022:Int)≤-60 by decide)
 have N:=aA (show(0:Int)≤1023 by decide)
 rw[kF]at N
 have d:=aw (-40)
 have l:ab (fQ (fR (cj c S 0 0)))=ab (fQ (cj c S 0 0)):=by rw[z];exact aQ I
 have O:=Rat.mul_nonneg (show 0≤1000-ab (fQ (cj c S 0 0)) by grind) (Rat.le_of_lt d)
 have Q:=Rat.mul_nonneg (show 0≤1000*ab (fQ (cj c S 0 0))-1 by grind) (Rat.le_of_lt d)
 obtain⟨X,F⟩:=oj (fR (cj c S 0 0)) (-40) (I7 _) T (by rw[l];grind) (by rw[l];grind)
 unfold Cl NI
 rw[decide_eq_true_iff,si X U,Mm,F,z,V]
 have t:p2 (-40)=1/1099511627776:=by grind
 rw[t]
 clear O Q F t
 generalize ab (fQ (cj c S 0 0))=A at*
 generalize ab (fQ (cj c S k k))=D at*
 constructor
 ·intro g;grind
 ·intro g;grind
theorem sl.near{r c j:Nat}{v:Nat→Nat→Int}{T:List Nat}{z:List ((Nat→Rat)×Rat)}{B:Rat}(h:sl r c j v T z B)(F:j≤3)(G:j≤c)(H:1/2≤B)(I:B≤9):Ky r j z (fun k i=>(v k i:Rat)) (fun k=>cv c T r k) (fun k=>ej j k*B) (1200/9007199254740992*B) where
 tri:=⟨fun i p D t=>h.low i p D t,fun p t=>by have:=h.big p t;grind,fun i p D t=>h.up p i (by omega) t (by omega)⟩
 err k hk:=h.err k (by omega)
 le k hk:=by
  refine Rat.mul_le_mul_of_nonneg_right ?_ (by grind)
  unfold ej
  rw[if_pos hk]
  match j,k,F,hk with
  |1,0,_,_=>show(290*((0:Nat):Rat)+612+((1:Nat):Rat))/9007199254740992≤_;have l:((0:Nat):Rat)=0:=rfl;have d:((1:Nat):Rat)=1:=rfl;rw[l,d];grind
  |2,0,_,_=>show(290*((0:Nat):Rat)+612+((2:Nat):Rat))/9007199254740992≤_;have l:((0:Nat):Rat)=0:=rfl;have d:((2:Nat):Rat)=2:=rfl;rw[l,d];grind
  |2,1,_,_=>show(290*((1:Nat):Rat)+612+((1:Nat):Rat))/9007199254740992≤_;have d:((1:Nat):Rat)=1:=rfl;rw[d];grind
  |3,0,_,_=>show(290*((0:Nat):Rat)+612+((3:Nat):Rat))/9007199254740992≤_;have l:((0:Nat):Rat)=0:=rfl;have d:((3:Nat):Rat)=3:=rfl;rw[l,d];grind
  |3,1,_,_=>show(290*((1:Nat):Rat)+612+((2:Nat):Rat))/9007199254740992≤_;have l:((1:Nat):Rat)=1:=rfl;have d:((2:Nat):Rat)=2:=rfl;rw[l,d];grind
  |3,2,_,_=>show(290*((2:Nat):Rat)+612+((1:Nat):Rat))/9007199254740992≤_;have l:((2:Nat):Rat)=2:=rfl;have d:((1:Nat):Rat)=1:=rfl;rw[l,d];grind
 big p t:=by have:=h.big p t;grind
theorem JE{j:Nat}(t:j≤3){B:Rat}(D:0≤B):wt j (fun k=>ej j k*B) j≤5500/9007199254740992*B:=by
 have d:((0:Nat):Rat)=0:=rfl
 have h:((1:Nat):Rat)=1:=rfl
 have l:((2:Nat):Rat)=2:=rfl
 have z:((3:Nat):Rat)=3:=rfl
 match j,t with
 |0,_=>show(0:Rat)≤_;grind
 |1,_=>
  show 0+1002/1000*((290*((0:Nat):Rat)+612+((1:Nat):Rat))/9007199254740992*B)≤_
  rw[d,h];grind
 |2,_=>
  show 0+2005/1000*((290*((0:Nat):Rat)+612+((2:Nat):Rat))/9007199254740992*B)+1002/1000*((290*((1:Nat):Rat)+612+((1:Nat):Rat))/9007199254740992*B)≤_
  rw[d,h,l];grind
 |3,_=>
  show 0+4012/1000*((290*((0:Nat):Rat)+612+((3:Nat):Rat))/9007199254740992*B)+2005/1000*((290*((1:Nat):Rat)+612+((2:Nat):Rat))/9007199254740992*B)+1002/1000*((290*((2:Nat):Rat)+612+((1:Nat):Rat))/9007199254740992*B)≤_
  rw[d,h,l,z];grind
theorem sr{j k:Nat}(d:j≤3)(l:j≤k){B:Rat}(h:0≤B):ej j k*B≤870/9007199254740992*B:=by
 refine Rat.mul_le_mul_of_nonneg_right ?_ h
 unfold ej
 rw[if_neg (by omega)]
 have:(j:Rat)≤3:=Rat.natCast_le_natCast.2 d
 grind
theorem iG(d:List Nat)(h:d.length≤6)(D:cI (p2 300) d):1000000*aJ d≤1000001*(fQ (aX d)*fQ (aX d))+p2 (-1600)∧1000000*(fQ (aX d)*fQ (aX d))≤1000001*aJ d+p2 (-1600):=by
 obtain⟨M,N,O,F⟩:=io d h D
 have t:=aA (show(-1700:Int)≤-1600 by decide)
 have I:=aw (-1700)
 have J:=bw d
 have L:=al (fQ (aX d))
 have l:=au (fQ (aX d)*fQ (aX d)-aJ d)
 clear F
 generalize fQ (aX d)*fQ (aX d)=G at*
 generalize aJ d=H at*
 generalize ab (G-H)=z at*
 grind
theorem sl.hangs{r c j:Nat}{v:Nat→Nat→Int}{T:List Nat}{I:List ((Nat→Rat)×Rat)}{B:Rat}(h:sl r c j v T I B)(J:gD (p2 290) r c T)(Y:r≤4)(l:j≤3)(z:j≤r)(D:1/2≤B)(F:B≤9)(G:∀k i,-4≤v k i∧v k i≤4)
  (L:0<kZ (fun i k=>aU (v i) r (v k)) j) {k:Nat} (M:j≤k) (d:k<c) (Z:4194400*fQ (aX (bf c T j (r-j) k))≤1):∀i,i<r→kG r v j (v k) i=0:=by
 have O:=h.near l (by omega) D F
 have H:cI (p2 300) (bf c T j (r-j) k):=(J.col (i:=j) (n:=r-j) (by omega) d).mono (aA (by decide))
 have s1:=(iG _ (by rw[aL];omega) H).1
 have n0:=(io _ (by rw[aL];omega) H).2.1
 have e:=tN c T (j:=j) (r:=r) k z
 have Q:p2 (-60)*1152921504606846976=1:=by have:=dG (-60) 60;rw[show(-60:Int)+((60:Nat):Int)=0 by rfl,kF]at this;have U:((2^60:Nat):Rat)=1152921504606846976:=rfl;rw[U]at this;grind
 have t:=aA (show(-1600:Int)≤-60 by decide)
 have V:Bd r (xH j (cv c T r k)) (1/4100000):=by
  refine⟨by grind,?_⟩
  rw[e]
  have m:=Rat.mul_nonneg (show 0≤1-4194400*fQ (aX (bf c T j (r-j) k)) by grind) (show 0≤1+4194400*fQ (aX (bf c T j (r-j) k)) by grind)
  generalize aJ (bf c T j (r-j) k)=SS at*
  generalize fQ (aX (bf c T j (r-j) k))=ν at*
  grind
 have X:kZ (fun i k=>aU (v i) r (v k)) j≤2097152:=GU _ (fun i k=>by
  have:=zG (v i) (v k) (G i) (G k) r
  omega) j l
 have hw:=JE l (show 0≤B by grind)
 have he:=sr l M (show 0≤B by grind)
 exact xJ l h.mirs (by have:=h.len;omega) O (v k) (cv c T r k) (h.err k d) (fun p N=>h.up p k N (by omega) d) V (by grind) L X
theorem sl.little{r c j:Nat}{v:Nat→Nat→Int}{T:List Nat}{Z:List ((Nat→Rat)×Rat)}{B:Rat}(h:sl r c j v T Z B)(hE:gD (p2 290) r c T)(r4:r≤4)(z:j≤3)(l:j≤r)(H:1/2≤B)(I:B≤9)
  (hG:0<kZ (fun i k=>aU (v i) r (v k)) j) {k:Nat} (hk:j≤k) (d:k<c) (J:∀i,i<r→kG r v j (v k) i=0):fQ (aX (bf c T j (r-j) k))≤6400/9007199254740992*B:=by
 have L:=h.near z (by omega) H I
 have hX:cI (p2 300) (bf c T j (r-j) k):=(hE.col (i:=j) (n:=r-j) (by omega) d).mono (aA (by decide))
 have s1:=(iG _ (by rw[aL];omega) hX).2
 have e:=tN c T (j:=j) (r:=r) k l
 obtain⟨G,X⟩:∃G,kZ (fun i k=>aU (v i) r (v k)) j=G:=⟨_,rfl⟩
 obtain⟨Y,eY⟩:∃Y,FP (fun i k=>aU (v i) r (v k)) (fun i=>aU (v i) r (v k)) j=Y:=⟨_,rfl⟩
 have G0:(0:Rat)<(G:Rat):=by rw[←X];have:((0:Int):Rat)<((kZ (fun i k=>aU (v i) r (v k)) j:Int):Rat):=Rat.intCast_lt_intCast.2 hG;exact this
 have M:∀t i,((gp Y v t i:Int):Rat)=(G:Rat)*ws (fun k=>(Y k:Rat)*(G:Rat)⁻¹) (fun k i=>(v k i:Rat)) t i:=by
  intro t i
  induction t with
  |zero=>show((0:Int):Rat)=(G:Rat)*0;have:((0:Int):Rat)=0:=rfl;rw[this];grind
  |succ t ih=>
   show((gp Y v t i+Y t*v t i:Int):Rat)=(G:Rat)*(ws _ _ t i+(Y t:Rat)*(G:Rat)⁻¹ *(v t i:Rat))
   rw[Rat.intCast_add,Rat.intCast_mul,ih,Rat.mul_add]
   have:(G:Rat)*((Y t:Rat)*(G:Rat)⁻¹ *(v t i:Rat))=((G:Rat)*(G:Rat)⁻¹)*((Y t:Rat)*(v t i:Rat)):=by grind
   rw[this,Rat.mul_inv_cancel _ (by grind),Rat.one_mul]
 have N:∀i,i<r→(v k i:Rat)=ws (fun k=>(Y k:Rat)*(G:Rat)⁻¹) (fun k i=>(v k i:Rat)) j i:=fun i hi=>by
  have O:=J i hi
  unfold kG at O
  rw[X,eY]at O
  have Q:(G:Rat)*(v k i:Rat)=((gp Y v j i:Int):Rat):=by rw[←Rat.intCast_mul];congr 1;omega
  rw[M]at Q
  have:=Rat.mul_inv_cancel (G:Rat) (by grind)
  have D:(G:Rat)⁻¹ *((G:Rat)*(v k i:Rat))=(v k i:Rat):=by rw[←Rat.mul_assoc,Rat.inv_mul_cancel _ (by grind),Rat.one_mul]
  rw[←D,Q,←Rat.mul_assoc,Rat.inv_mul_cancel _ (by grind),Rat.one_mul]
 have hw:=JE z (show 0≤B by grind)
 have he:=sr z hk (show 0≤B by grind)
 have sm:=xI z l L _ (fun i=>(v k i:Rat)) (cv c T r k) N (h.err k d) (by grind) (fun p hp=>h.up p k hp (by omega) d)
 have U:=(sm.mono (show _≤6370/9007199254740992*B by grind)).2
 rw[e]at U
 have V:p2 (-200)*1606938044258990275541962092341162602522202993782792835301376=1:=by have:=dG (-200) 200;rw[show(-200:Int)+((200:Nat):Int)=0 by rfl,kF]at this;have F:((2^200:Nat):Rat)=1606938044258990275541962092341162602522202993782792835301376:=rfl;rw[F]at this;grind
 have t:=aA (show(-1600:Int)≤-200 by decide)
 have BB:1/4≤B*B:=by have:=Rat.mul_nonneg (show 0≤B-1/2 by grind) (show 0≤B+1/2 by grind);grind
 refine bW (by grind) ?_
 have D:6370/9007199254740992*B*(6370/9007199254740992*B)=6370/9007199254740992*(6370/9007199254740992)*(B*B):=by grind
 have F:6400/9007199254740992*B*(6400/9007199254740992*B)=6400/9007199254740992*(6400/9007199254740992)*(B*B):=by grind
 rw[D]at U
 rw[F]
 clear D F N M sm hw he e J L h
 generalize fQ (aX (bf c T j (r-j) k))*fQ (aX (bf c T j (r-j) k))=NN at*
 generalize aJ (bf c T j (r-j) k)=SS at*
 generalize B*B=B2 at*
 grind
theorem Cd{g g':Nat→Nat→Int}{j:Nat}(d:j≤3)(h:∀i k,i<j→k<j→g i k=g' i k):kZ g j=kZ g' j:=by
 match j,d with
 |0,_=>rfl
 |1,_=>show g 0 0=g' 0 0;exact h 0 0 (by omega) (by omega)
 |2,_=>
  show g 0 0*g 1 1-g 0 1*g 0 1=g' 0 0*g' 1 1-g' 0 1*g' 0 1
  rw[h 0 0 (by omega) (by omega),h 1 1 (by omega) (by omega),h 0 1 (by omega) (by omega)]
 |3,_=>
  show g 0 0*(g 1 1*g 2 2-g 1 2*g 1 2)-g 0 1*(g 0 1*g 2 2-g 1 2*g 0 2)+g 0 2*(g 0 1*g 1 2-g 1 1*g 0 2)=g' 0 0*(g' 1 1*g' 2 2-g' 1 2*g' 1 2)-g' 0 1*(g' 0 1*g' 2 2-g' 1 2*g' 0 2)+g' 0 2*(g' 0 1*g' 1 2-g' 1 1*g' 0 2)
  rw[h 0 0 (by omega) (by omega),h 1 1 (by omega) (by omega),h 0 1 (by omega) (by omega),h 2 2 (by omega) (by omega),h 1 2 (by omega) (by omega),h 0 2 (by omega) (by omega)]
def jd(r:Nat)(v:Nat→Nat→Int)(t:Nat):Prop:=∀j,j<t→∃b:Nat→Int,(∀i,i<j→aU b r (v i)=0)∧aU b r (v j)≠0
theorem jd.congr{r t:Nat}{v v':Nat→Nat→Int}(h:jd r v t)(d:∀k,k<t→v' k=v k):jd r v' t:=by
 intro j l
 obtain⟨b,D,F⟩:=h j l
 exact⟨b,fun i z=>by rw[d i (by omega)];exact D i z,by rw[d j l];exact F⟩
theorem JF{r:Nat}{v:Nat→Nat→Int}{j:Nat}(d:¬∀i,i<r→kG r v j (v j) i=0):aU (kG r v j (v j)) r (kG r v j (v j))≠0:=fun e=>d (kY _ r e)
theorem I8{r j:Nat}{v:Nat→Nat→Int}{q:Nat→Int}(d:0<kZ (fun i k=>aU (v i) r (v k)) j)(h:∀i,i<r→kG r v j q i=0):∃(G:Int) (Y:Nat→Int),G≠0∧∀x,x<r→G*q x=gp Y v j x:=
 ⟨kZ (fun i k=>aU (v i) r (v k)) j,FP (fun i k=>aU (v i) r (v k)) (fun i=>aU (v i) r q) j,Int.ne_of_gt d,fun x l=>by
  have:=h x l
  unfold kG at this
  omega⟩
theorem jd.more{r:Nat}{v:Nat→Nat→Int}{j:Nat}(h:jd r v j)(d:j≤3)(l:¬∀i,i<r→kG r v j (v j) i=0):jd r v (j+1):=by
 intro i z
 rcases Nat.lt_or_ge i j with g|g
 ·exact h i g
 ·obtain rfl:i=j:=by omega
  refine⟨kG r v i (v i),fun k t=>by rw[eE];exact nI r v (v i) d t,fun e=>JF l ?_⟩
  rw[pT r v (v i) d,e,Int.mul_zero]
theorem I9{r:Nat}{v:Nat→Nat→Int}{j:Nat}(d:j≤2)(h:0<kZ (fun i k=>aU (v i) r (v k)) j)(l:¬∀i,i<r→kG r v j (v j) i=0):0<kZ (fun i k=>aU (v i) r (v k)) (j+1):=by
 have z:=JF l
 have D:=kr (kG r v j (v j)) r
 have t:=pT r v (v j) (show j≤3 by omega)
 rw[D8 r v d]at t
 rcases Int.lt_or_le 0 (kZ (fun i k=>aU (v i) r (v k)) (j+1))with g|g
 ·exact g
 ·exfalso
  have:=Int.mul_nonneg (Int.le_of_lt h) (show 0≤-kZ (fun i k=>aU (v i) r (v k)) (j+1) by omega)
  rw[Int.mul_neg]at this
  omega
theorem Ce(j a k:Nat):jJ j a (jJ j a k)=k:=by
 unfold jJ
 repeat' split
 all_goals omega
def JG(c:Nat)(v v0:Nat→Nat→Int):Prop:=∃s s':Nat→Nat,(∀k,k<c→s k<c)∧(∀k,k<c→s' k<c)∧(∀k,k<c→s (s' k)=k)∧∀k,k<c→v k=v0 (s k)
theorem JG.swap{c:Nat}{v z:Nat→Nat→Int}(h:JG c v z){j a:Nat}(l:j<c)(t:a<c):JG c (fun k=>v (jJ j a k)) z:=by
 obtain⟨s,D,F,G,H,I⟩:=h
 refine⟨fun k=>s (jJ j a k),fun k=>jJ j a (D k),fun k d=>F _ (lH l t d),fun k d=>lH l t (G k d),fun k d=>?_,fun k d=>I _ (lH l t d)⟩
 show s (jJ j a (jJ j a (D k)))=k
 rw[Ce]
 exact H k d
def qu(r c t:Nat)(v0:Nat→Nat→Int):Prop:=∃v,JG c v v0∧t≤c∧jd r v t∧((∀k,t≤k→k<c→∃(G:Int) (Y:Nat→Int),G≠0∧∀x,x<r→G*v k x=gp Y v t x)∨r≤t)
theorem FI{r c:Nat}{T:List Nat}(h:gD (p2 290) r c T){j:Nat}(H:r≤6)(t:j<r)(F:j<c){D ν:Rat}(I:fQ (cj c (mX r c T j) j j)=D)(G:fQ (eK r c T j (jB r c T j))=ν):
  1000000*(D*D)≤1000001*(ν*ν)+p2 (-520)∧1000000*(ν*ν)≤1000001*(D*D)+p2 (-520):=by
 have d:=I4 h H t F
 rw[I,G]at d
 have l:=au (D*D-ν*ν)
 have M:=aw (-520)
 have N:=al D;have O:=al ν
 generalize D*D=J at*
 generalize ν*ν=L at*
 generalize ab (J-L)=z at*
 grind
theorem qv{r c:Nat}{S:List Nat}(r4:r≤4)(c4:c≤4)(hE:∀i,i≤min c r→gD (p2 290) r c (dN r c S i)){B:Rat}(I:1/2≤B)(Q:B≤9)(v0:Nat→Nat→Int)(h0:10000*B≤10001*fQ (eK r c S 0 (jB r c S 0)))
  (j:Nat) (v:Nat→Nat→Int) (ms:List ((Nat→Rat)×Rat)) (J:j<min c r) (h:sl r c j v (dN r c S j) ms B) (hG:0<kZ (fun i k=>aU (v i) r (v k)) j) (hC:jd r v j) (hv:∀k i,-4≤v k i∧v k i≤4) (hT:∀k,k<j→Cl c (jD r c S) k=true) (hO:JG c v v0):
  ∃v',JG c v' v0∧(∀k i,-4≤v' k i∧v' k i≤4)∧jd r v' j∧0<kZ (fun i k=>aU (v' i) r (v' k)) j∧
   (qu r c (FG r c (jD r c S)) v0∨(Cl c (jD r c S) j=true∧jd r v' (j+1)∧(j+1<min c r→∃ns,sl r c (j+1) v' (dN r c S (j+1)) ns B∧0<kZ (fun i k=>aU (v' i) r (v' k)) (j+1)))):=by
 have ad:j<r:=by omega
 have d:j<c:=by omega
 have hA:=gU r c (dN r c S j) d
 have ae:=yu r c (dN r c S j) j
 have ai:=hE j (by omega)
 have hF:=(ai.step (by omega) ad d Rat.le_refl (aA (by decide))).1
 have hW:=h.swap d ae hA
 have F:gD (p2 290) r c (eP r c (dN r c S j) j):=ai.sw d hA
 have L:∀k,k<j→(fun k=>v (jJ j (jB r c (dN r c S j) j) k)) k=v k:=fun k O=>by show v (jJ j _ k)=v k;rw[ip ae O]
 have aq:=hO.swap d hA
 have am:jd r (fun k=>v (jJ j (jB r c (dN r c S j) j) k)) j:=hC.congr L
 have G:0<kZ (fun i k=>aU ((fun k=>v (jJ j (jB r c (dN r c S j) j) k)) i) r ((fun k=>v (jJ j (jB r c (dN r c S j) j) k)) k)) j:=by
  rw[Cd (g':=fun i k=>aU (v i) r (v k)) (by omega) (fun i k hi O=>by rw[L i hi,L k O])]
  exact hG
 have ao:∀k i,-4≤(fun k=>v (jJ j (jB r c (dN r c S j) j) k)) k i∧(fun k=>v (jJ j (jB r c (dN r c S j) j) k)) k i≤4:=fun k i=>hv _ i
 have eX:=Ml r c (dN r c S j) ad d
 have V:∀k,j≤k→k<c→fQ (aX (bf c (eP r c (dN r c S j) j) j (r-j) k))≤fQ (aX (bD r c (eP r c (dN r c S j) j) j)):=fun k O l=>by
  have ey:bf c (eP r c (dN r c S j) j) j (r-j) k=bf c (dN r c S j) j (r-j) (jJ j (jB r c (dN r c S j) j) k):=Fz r c _ d hA l (by omega)
  rw[ey,eX]
  refine yO (Fy r c _ j (c-j) hF _ (yP ae O) ?_)
  have:=lH d hA l
  omega
 obtain⟨ν,z⟩:∃ν,fQ (aX (bD r c (eP r c (dN r c S j) j) j))=ν:=⟨_,rfl⟩
 have X:fQ (eK r c (dN r c S j) j (jB r c (dN r c S j) j))=ν:=by rw[←z,eX];rfl
 obtain⟨D,hD⟩:∃D,fQ (cj c (mX r c (dN r c S j) j) j j)=D:=⟨_,rfl⟩
 have M:fQ (cj c (jD r c S) j j)=D:=by
  rw[←hD]
  show fQ (cj c (dN r c S (min c r)) j j)=_
  rw[nR r c S (min c r) J (Nat.le_refl _)]
  rfl
 obtain⟨d1,d2⟩:=FI ai (by omega) ad d hD X
 have ν0:0≤ν:=by rw[←z];exact(io _ (by rw[aL];omega) ((F.col (i:=j) (n:=r-j) (by omega) d).mono (aA (by decide)))).2.1
 have νB:ν≤10002/10000*B:=by rw[←z];exact hW.norm F (by omega) (by omega) (by omega) I d
 have a1:p2 (-520)≤1/1606938044258990275541962092341162602522202993782792835301376:=by
  have aI:p2 (-200)*1606938044258990275541962092341162602522202993782792835301376=1:=by have:=dG (-200) 200;rw[show(-200:Int)+((200:Nat):Int)=0 by rfl,kF]at this;have e2:((2^200:Nat):Rat)=1606938044258990275541962092341162602522202993782792835301376:=rfl;rw[e2]at this;grind
  have t:=aA (show(-520:Int)≤-200 by decide)
  grind
 have ax:=hE (min c r) (Nat.le_refl _)
 have H:∀k,k<min c r→ah (cj c (jD r c S) k k)=true:=fun k O=>(ax k k (by omega) (by omega)).2.1
 have A0:=bK D
 have aD:=Ag D
 have BB:1/4≤B*B:=by have:=Rat.mul_nonneg (show 0≤B-1/2 by grind) (show 0≤B+1/2 by grind);grind
 --the first number
 have ay:0<j→fQ (cj c (jD r c S) 0 0)=cv c (dN r c S j) r 0 0:=fun T=>by
  rw[gh _ _ _ _ (by omega),nR r c S j T (by omega)]
  show fQ (cj c (dN r c S (min c r)) 0 0)=_
  rw[nR r c S (min c r) (by omega) (Nat.le_refl _)]
 have Y:0<j→ab (fQ (cj c (jD r c S) 0 0))≤10∧1000*B≤1001*ab (fQ (cj c (jD r c S) 0 0)):=fun T=>by
  rw[ay T]
  refine⟨?_,h.top T⟩
  have:=(h.size (by omega) (show 0<c by omega)).at (show 0<r by omega)
  grind
 have N:j=0→10000*B≤10001*ν:=fun e=>by subst e;rw[←X];exact h0
 refine⟨_,aq,ao,am,G,?_⟩
 by_cases hs:∀i,i<r→kG r (fun k=>v (jJ j (jB r c (dN r c S j) j) k)) j ((fun k=>v (jJ j (jB r c (dN r c S j) j) k)) j) i=0
 ·left
  have hl:=hW.little F r4 (by omega) (by omega) I Q G (Nat.le_refl j) d hs
  have a2:ν≤6400/9007199254740992*B:=by rw[←z];exact hl
  rcases Nat.eq_zero_or_pos j with g|g
  ·exfalso
   have:=N g
   grind
  ·obtain⟨q1,q2⟩:=Y g
   have a3:ab D≤6500/9007199254740992*B:=by
    refine bW (by grind) ?_
    rw[aD]
    have m:=Rat.mul_nonneg (show 0≤6400/9007199254740992*B-ν by grind) (show 0≤6400/9007199254740992*B+ν by grind)
    have Z:(6400/9007199254740992*B-ν)*(6400/9007199254740992*B+ν)=6400/9007199254740992*(6400/9007199254740992)*(B*B)-ν*ν:=by grind
    have e2:6500/9007199254740992*B*(6500/9007199254740992*B)=6500/9007199254740992*(6500/9007199254740992)*(B*B):=by grind
    rw[Z]at m
    rw[e2]
    clear Z e2
    generalize D*D=DD at*
    generalize ν*ν=NN at*
    generalize B*B=B2 at*
    generalize p2 (-520)=P at*
    grind
   have U:Cl c (jD r c S) j=false:=by
    have:=tO c (jD r c S) j (H 0 (by omega)) (H j J) (by grind) (by grind)
    rw[M]at this
    cases ht:Cl c (jD r c S) j with
    |false=>rfl
    |true=>
     exfalso
     have:=this.1 ht
     grind
   have e:FG r c (jD r c S)=j:=eT _ (min r c) j (by omega) hT (.inr U)
   rw[e]
   refine⟨_,aq,by omega,am,.inl (fun k O l=>?_)⟩
   have a4:=V k O l
   have az:=hW.hangs F r4 (by omega) (by omega) I Q ao G O l (by
    show 4194400*fQ (aX (bf c (eP r c (dN r c S j) j) j (r-j) k))≤1
    grind)
   exact I8 G az
 ·right
  have aa:1≤4194400*ν:=by
   rcases Rat.le_total (a:=4194400*ν) (b:=1)with g|g
   ·exfalso
    exact hs (hW.hangs F r4 (by omega) (by omega) I Q ao G (Nat.le_refl j) d (by
     show 4194400*fQ (aX (bD r c (eP r c (dN r c S j) j) j))≤1
     rw[z];exact g))
   ·exact g
  have νν:1≤4194400*4194400*(ν*ν):=by have:=Rat.mul_nonneg (show 0≤4194400*ν-1 by grind) (show 0≤4194400*ν+1 by grind);grind
  have a5:99*ν≤100*ab D:=by
   refine bW (by grind) ?_
   have Z:99*ν*(99*ν)=9801*(ν*ν):=by grind
   have e2:100*ab D*(100*ab D)=10000*(ab D*ab D):=by grind
   rw[Z,e2,aD]
   clear Z e2
   generalize D*D=DD at*
   generalize ν*ν=NN at*
   generalize p2 (-520)=P at*
   grind
  have a6:ab D≤20:=by
   refine bW (by grind) ?_
   rw[aD]
   have m:=Rat.mul_nonneg (show 0≤10-ν by grind) (show 0≤10+ν by grind)
   have Z:(10-ν)*(10+ν)=100-ν*ν:=by grind
   rw[Z]at m
   clear Z
   generalize D*D=DD at*
   generalize ν*ν=NN at*
   generalize p2 (-520)=P at*
   grind
  have ap:Cl c (jD r c S) j=true:=by
   rcases Nat.eq_zero_or_pos j with g|g
   ·have b0:=N g
    subst g
    rw[tO c (jD r c S) 0 (H 0 J) (H 0 J) (by rw[M];grind) (by rw[M];grind),M]
    grind
   ·obtain⟨q1,q2⟩:=Y g
    rw[tO c (jD r c S) j (H 0 (by omega)) (H j J) (by grind) (by grind),M]
    grind
  refine⟨ap,am.more (by omega) hs,fun a0=>?_⟩
  obtain⟨ns,hn⟩:=hW.step F (by omega) (by omega) (by omega) d I Q (by rw[←z]at aa;exact aa) (fun k O l=>V k (by omega) l) (fun e=>by have:=N e;rw[←z]at this;exact this)
  refine⟨ns,?_,I9 (by omega) G hs⟩
  have eS:dN r c S (j+1)=jI r c (eP r c (dN r c S j) j) j:=by
   show mX r c (dN r c S j) j=_
   unfold mX
   rw[if_pos (by omega)]
  rw[eS]
  exact hn
theorem yS{r c:Nat}{S:List Nat}(V:r≤4)(X:c≤4)(Y:∀i,i≤min c r→gD (p2 290) r c (dN r c S i)){B:Rat}(z:1/2≤B)(D:B≤9)(I:Nat→Nat→Int)(Z:10000*B≤10001*fQ (eK r c S 0 (jB r c S 0))):
  ∀(d j:Nat) (v:Nat→Nat→Int) (F:List ((Nat→Rat)×Rat)),j+d+1=min c r→sl r c j v (dN r c S j) F B→0<kZ (fun i k=>aU (v i) r (v k)) j→jd r v j→(∀k i,-4≤v k i∧v k i≤4)→(∀k,k<j→Cl c (jD r c S) k=true)→JG c v I→
   qu r c (FG r c (jD r c S)) I:=by
 intro d
 induction d with
 |zero=>
  intro j v F hj h M N O H Q
  obtain⟨v',t,G,J,L,l⟩:=qv V X Y z D I Z j v F (by omega) h M N O H Q
  rcases l with g|⟨T,U,g3⟩
  ·exact g
  ·have e:FG r c (jD r c S)=j+1:=eT _ (min r c) (j+1) (by omega) (fun k hk=>by
    rcases Nat.lt_or_ge k j with q|q
    ·exact H k q
    ·obtain rfl:k=j:=by omega
     exact T) (.inl (by omega))
   rw[e]
   refine⟨v',t,by omega,U,?_⟩
   rcases Nat.lt_or_ge (j+1) r with q|q
   ·left
    intro k hk aa
    omega
   ·exact .inr q
 |succ d ih=>
  intro j v F hj h M N O H Q
  obtain⟨v',t,G,J,L,l⟩:=qv V X Y z D I Z j v F (by omega) h M N O H Q
  rcases l with g|⟨T,U,g3⟩
  ·exact g
  ·obtain⟨ns,hn,hg⟩:=g3 (by omega)
   exact ih (j+1) v' ns (by omega) hn hg U G (fun k hk=>by
    rcases Nat.lt_or_ge k j with q|q
    ·exact H k q
    ·obtain rfl:k=j:=by omega
     exact T) t
theorem qw(Y:Nat→Int)(a v:Nat→Nat→Int)(K:Int)(x:Nat):∀t,(∀i,i<t→a i x=K*v i x)→gp Y a t x=K*gp Y v t x
 |0,_=>by show(0:Int)=K*0;simp
 |t+1,h=>by
  show gp Y a t x+Y t*a t x=K*(gp Y v t x+Y t*v t x)
  rw[qw Y a v K x t (fun i d=>h i (by omega)),h t (Nat.lt_succ_self t)]
  grind
theorem qA(b f g:Nat→Int)(K:Int)(n:Nat)(h:∀x,x<n→f x=K*g x):aU b n f=K*aU b n g:=by
 have e:=iZ b g g K 0 n
 rw[Int.zero_mul,Int.add_zero]at e
 rw[←e]
 exact jx n (fun _ _=>rfl) (fun x d=>by rw[h x d];omega)
theorem qu.rank{r c t:Nat}{I a:Nat→Nat→Int}{K:Int}(M:K≠0)(h:qu r c t I)(N:∀k x,k<c→x<r→a k x=K*I k x):dw t a c r:=by
 obtain⟨v,⟨s,J,L,T,U,V⟩,X,Z,l⟩:=h
 have H:∀k x,k<c→x<r→a (s k) x=K*v k x:=fun k x D d=>by rw[N (s k) x (L k D) d,V k D]
 have R:dw t (fun k=>a (s k)) c r:=by
  refine wW X (fun j O=>?_) ?_
  ·obtain⟨b,b1,b2⟩:=Z j O
   refine⟨b,fun i F=>?_,?_⟩
   ·rw[qA b _ (v i) K r (fun x d=>H i x (by omega) d),b1 i F,Int.mul_zero]
   ·rw[qA b _ (v j) K r (fun x d=>H j x (by omega) d)]
    exact fun e=>(Int.mul_eq_zero.1 e).elim M b2
  ·rcases l with l|l
   ·left
    intro k D z
    obtain⟨G,Y,g1,g2⟩:=l k D z
    refine⟨G,Y,g1,fun x d=>?_⟩
    rw[qw Y _ v K x t (fun i F=>H i x (by omega) d),H k x z d,←g2 x d]
    grind
   ·exact .inr l
 exact⟨fun Q=>R.1 (lY s L (fun i _=>rfl) Q),lY J T (fun i F=>by show a i=a (s (J i));rw[U i F]) R.2⟩
theorem yT(n:Nat):∃K:Nat,2^n=K∧0<K:=⟨2^n,rfl,Nat.pow_pos (by decide)⟩
theorem FJ{x:Nat}{n:Int}(h:fQ x=(n:Rat)){K:Nat}(d:2^1074=K):fZ x=(K:Int)*n:=by
 have e:=dG (-1074) 1074
 rw[d,show(-1074:Int)+((1074:Nat):Int)=0 by rfl,kF]at e
 unfold fQ at h
 have l:(fZ x:Rat)=(n:Rat)*((K:Nat):Rat):=by
  rw[←h]
  have:(fZ x:Rat)*p2 (-1074)*((K:Nat):Rat)=(fZ x:Rat)*(((K:Nat):Rat)*p2 (-1074)):=by grind
  rw[this,←e,Rat.mul_one]
 have t:(fZ x:Rat)=(((K:Int)*n:Int):Rat):=by
  rw[l,Rat.intCast_mul,Rat.mul_comm]
  rfl
 exact Rat.intCast_inj.1 t
theorem FK{r c:Nat}{S:List Nat}(r4:r≤4)(c4:c≤4)(d:Nat→Nat→Int)(Q:∀k i,-4≤d k i∧d k i≤4)
  (F:∀p q,p<r→q<c→cj c S p q<18446744073709551616∧ah (cj c S p q)=true∧fQ (cj c S p q)=(d q p:Rat)):qu r c (FG r c (jD r c S)) d:=by
 have U:JG c d d:=⟨fun k=>k,fun k=>k,fun _ h=>h,fun _ h=>h,fun _ _=>rfl,fun _ _=>rfl⟩
 have V:jd r d 0:=fun j M=>absurd M (Nat.not_lt_zero j)
 have X:∀q p,ab (d q p:Rat)≤4:=fun q p=>by
  have h1:(d q p:Rat)≤((4:Int):Rat):=Rat.intCast_le_intCast.2 (Q q p).2
  have h2:((-4:Int):Rat)≤(d q p:Rat):=Rat.intCast_le_intCast.2 (Q q p).1
  have Y:((4:Int):Rat)=4:=rfl
  have J:((-4:Int):Rat)= -4:=rfl
  exact bU (by grind) (by grind)
 have h4:gD 4 r c S:=fun p q z D=>⟨(F p q z D).1,(F p q z D).2.1,by rw[(F p q z D).2.2];exact X q p⟩
 have p3:p2 3=8:=by rw[show(3:Int)=((3:Nat):Int) by rfl,cR];rfl
 have N:gD (p2 200) r c S:=h4.mono (by have:=aA (show(3:Int)≤200 by decide);grind)
 have hE:∀i,i≤min c r→gD (p2 290) r c (dN r c S i):=fun i H=>(N.all (by omega) i H).1.mono (aA (by omega))
 rcases Nat.eq_zero_or_pos (min c r)with T|T
 ·have e:FG r c (jD r c S)=0:=eT _ (min r c) 0 (Nat.zero_le _) (fun j M=>absurd M (Nat.not_lt_zero j)) (.inl (by omega))
  rw[e]
  refine⟨d,U,Nat.zero_le _,V,?_⟩
  rcases Nat.eq_zero_or_pos r with g|g
  ·exact .inr (by omega)
  ·exact .inl (fun k _ t=>by omega)
 ·by_cases Z:∀p q,p<r→q<c→d q p=0
  ·have aa:gD 0 r c S:=fun p q z D=>⟨(F p q z D).1,(F p q z D).2.1,by rw[(F p q z D).2.2,Z p q z D];show ab 0≤0;unfold ab;grind⟩
   have h0:∀i,i≤min c r→gD 0 r c (dN r c S i):=by
    intro i
    induction i with
    |zero=>intro _;exact aa
    |succ i ih=>intro H;exact(ih (by omega)).step0 (by omega) (by omega) (by omega)
   have I:=h0 (min c r) (Nat.le_refl _) 0 0 (by omega) (by omega)
   have q0:fQ (cj c (jD r c S) 0 0)=0:=by have:=I.2.2;have:=au (fQ (cj c (dN r c S (min c r)) 0 0));show fQ (cj c (dN r c S (min c r)) 0 0)=0;grind
   have k0:fR (cj c (jD r c S) 0 0)=0:=(cP _).1 (tE I.1 I.2.1 q0)
   have e:FG r c (jD r c S)=0:=eT _ (min r c) 0 (Nat.zero_le _) (fun j M=>absurd M (Nat.not_lt_zero j)) (.inr (by unfold Cl;rw[k0];decide))
   rw[e]
   refine⟨d,U,Nat.zero_le _,V,.inl (fun k _ t=>⟨1,fun _=>0,by decide,fun x I=>?_⟩)⟩
   rw[Z x k I t]
   rfl
  ·obtain⟨p,q,z,D,ao⟩:∃p q,p<r∧q<c∧d q p≠0:=by
    apply Classical.byContradiction
    intro hn
    exact Z (fun p q z D=>Classical.byContradiction (fun e=>hn ⟨p,q,z,D,e⟩))
   have hF:=((hE 0 (by omega)).step (by omega) (show 0<r by omega) (show 0<c by omega) Rat.le_refl (aA (by decide))).1
   obtain⟨ν,L⟩:∃ν,fQ (eK r c S 0 (jB r c S 0))=ν:=⟨_,rfl⟩
   have sm:∀k,k<c→cI 4 (bf c S 0 (r-0) k):=fun k t=>h4.col (i:=0) (n:=r-0) (by omega) t
   have G:∀k,k<c→cI (p2 300) (bf c S 0 (r-0) k):=fun k t=>(sm k t).mono (by have:=aA (show(3:Int)≤300 by decide);grind)
   have le:∀k,k<c→fQ (aX (bf c S 0 (r-0) k))≤ν:=fun k t=>by
    rw[←L]
    exact yO (Fy r c S 0 (c-0) hF k (Nat.zero_le _) (by omega))
   have ν1:1000≤1001*ν:=by
    have n4:=(io _ (by rw[aL];omega) (G q D)).2.2.2 (cj c S p q) (List.mem_map.2 ⟨p,List.mem_range.2 (by omega),by rw[Nat.zero_add]⟩)
    have l:=le q D
    rw[(F p q z D).2.2]at n4
    have ai:1≤ab (d q p:Rat):=by
     rcases Int.lt_or_le (d q p) 0 with g|g
     ·have:(d q p:Rat)≤((-1:Int):Rat):=Rat.intCast_le_intCast.2 (by omega)
      have J:((-1:Int):Rat)= -1:=rfl
      have:=au (d q p:Rat)
      grind
     ·have:((1:Int):Rat)≤(d q p:Rat):=Rat.intCast_le_intCast.2 (by omega)
      have J:((1:Int):Rat)=1:=rfl
      have:=au (d q p:Rat)
      grind
    grind
   have ae:p2 (-1600)≤1/1000:=by
    have e:p2 (-10)*1024=1:=by have:=dG (-10) 10;rw[show(-10:Int)+((10:Nat):Int)=0 by rfl,kF]at this;have J:((2^10:Nat):Rat)=1024:=rfl;rw[J]at this;grind
    have:=aA (show(-1600:Int)≤-10 by decide)
    grind
   have νν:9/10≤ν*ν:=by have:=Rat.mul_nonneg (show 0≤ν-1000/1001 by grind) (show 0≤ν+1000/1001 by grind);grind
   have ν2:ν≤801/100:=by
    have hA:=gU r c S (show 0<c by omega)
    have s2:=(iG _ (by rw[aL];omega) (G _ hA)).2
    have hs:=mw 4 (bf c S 0 (r-0) (jB r c S 0)) (fun x I=>(sm _ hA x I).2.2)
    have am:((bf c S 0 (r-0) (jB r c S 0)).length:Rat)≤4:=Rat.natCast_le_natCast.2 (by rw[aL];omega)
    have e:fQ (aX (bf c S 0 (r-0) (jB r c S 0)))=ν:=L
    rw[e]at s2
    refine bW (by grind) ?_
    generalize aJ (bf c S 0 (r-0) (jB r c S 0))=SS at*
    generalize ν*ν=NN at*
    grind
   obtain⟨B,hB⟩:∃B,B=20001/20000*ν:=⟨_,rfl⟩
   have vb:∀k,k<c→Bd r (fun i=>(d k i:Rat)) B:=fun k t=>by
    refine⟨by grind,?_⟩
    have e:dt r (fun i=>(d k i:Rat)) (fun i=>(d k i:Rat))=aJ (bf c S 0 (r-0) k):=by
     rw[←k9,aL]
     have O:∀i,i<r→(d k i:Rat)=fc (bf c S 0 (r-0) k) i:=fun i H=>by
      unfold fc
      rw[iE c S 0 (r-0) k (by omega),Nat.zero_add,(F i k H t).2.2]
     exact dp O O
    rw[e]
    have s1:=(iG _ (by rw[aL];omega) (G k t)).1
    have l:=le k t
    have n0:=(io _ (by rw[aL];omega) (G k t)).2.1
    have m:=Rat.mul_nonneg (show 0≤ν-fQ (aX (bf c S 0 (r-0) k)) by grind) (show 0≤ν+fQ (aX (bf c S 0 (r-0) k)) by grind)
    have Y:(ν-fQ (aX (bf c S 0 (r-0) k)))*(ν+fQ (aX (bf c S 0 (r-0) k)))=ν*ν-fQ (aX (bf c S 0 (r-0) k))*fQ (aX (bf c S 0 (r-0) k)):=by grind
    have J:B*B=20001/20000*(20001/20000)*(ν*ν):=by rw[hB];grind
    rw[Y]at m
    rw[J]
    clear Y J e l n0
    generalize aJ (bf c S 0 (r-0) k)=SS at*
    generalize fQ (aX (bf c S 0 (r-0) k))*fQ (aX (bf c S 0 (r-0) k))=NN at*
    generalize ν*ν=VV at*
    generalize p2 (-1600)=P at*
    grind
   have ad:sl r c 0 d (dN r c S 0) [] B:=by
    refine⟨fun m T=>absurd T List.not_mem_nil,Nat.le_refl _,fun k t=>?_,fun p k z=>absurd z (Nat.not_lt_zero p),fun p z=>absurd z (Nat.not_lt_zero p),vb,fun k i t=>absurd t (Nat.not_lt_zero k),fun h=>absurd h (Nat.lt_irrefl 0)⟩
    refine((Bd.nought r).congr (fun i H=>?_)).mono ?_
    ·show(0:Rat)=cv c S r k i+(-1)*(d k i:Rat)
     rw[gh _ _ _ _ H,(F i k H t).2.2]
     grind
    ·have e:ej 0 k=0:=by unfold ej;rw[if_neg (by omega)];have:((0:Nat):Rat)=0:=rfl;rw[this];grind
     rw[e]
     grind
   exact yS r4 c4 hE (B:=B) (by grind) (by grind) d (by rw[L];grind) (min c r-1) 0 d [] (by omega) ad (by show(0:Int)<1;decide) V Q (fun k t=>absurd t (Nat.not_lt_zero k)) U
theorem yU{r c:Nat}{S:List Nat}(l:r≤4)(t:c≤4)(d:Nat→Nat→Int)(z:∀k i,-4≤d k i∧d k i≤4)
  (h:∀p q,p<r→q<c→cj c S p q<18446744073709551616∧ah (cj c S p q)=true∧fQ (cj c S p q)=(d q p:Rat)):dw (FG r c (jD r c S)) (fun i k=>fZ (cj c S i k)) r c:=by
 obtain⟨K,H,I⟩:=yT 1074
 have G:(K:Int)≠0:=by omega
 have:=(FK l t d z h).rank (a:=fun k x=>fZ (cj c S x k)) (K:=(K:Int)) G (fun k x D F=>FJ (h x k F D).2.2 H)
 exact Au this
end Go.Proofs.YtmpkkhackbpflaaGreatDoor
namespace Go.Proofs.YtmpkkhackbpflaaGreatDoor
open Go.ChangeShapes Go.WideShapes Go.ChangeAt Go.RowKit Go.Joins
theorem Tryz.own:ownKnob Tryz.prog.godebug=none:=by kernel_rfl
theorem Tryz.laidOut:laidOutB Tryz.prog=true:=by kernel_rfl
theorem Tryz.tabName:Tryz.prog.globalNamed "math/bits.deBruijn32tab" =some 1:=by kernel_rfl
theorem Tryz.tabType:(Tryz.prog.globals[1]?).map (·.type)=some 227:=by kernel_rfl
theorem Tryz.tabCells:Tryz.prog.cellsOf 227=32:=by kernel_rfl
theorem Tryz.byteCells:Tryz.prog.cellsOf 5=1:=by kernel_rfl
theorem FL:∀j,j<Lib.deBruijn32tab.length→(List.map Int.ofNat Lib.deBruijn32tab).getD j 0=((Lib.deBruijn32tab.getD j 0:Nat):Int):=by decide
theorem wF{W:World}(h:laidMetH Tryz.prog [("math/bits.deBruijn32tab",Rows.laid_math_bits_deBruijn32tab)] W):c8 W:=by
 have l:=Lib.tabIs_of_head (zs:=Lib.deBruijn32tab.map Int.ofNat) (rest:=[]) Tryz.tabName Tryz.tabType Tryz.underlying227 Tryz.underlying5 Tryz.byteCells Tryz.tabCells h
 intro j d
 have:=l.cell Tryz.tabName j (by simpa using d)
 rw[this]
 congr 2
 exact FL j d
end Go.Proofs.YtmpkkhackbpflaaGreatDoor
