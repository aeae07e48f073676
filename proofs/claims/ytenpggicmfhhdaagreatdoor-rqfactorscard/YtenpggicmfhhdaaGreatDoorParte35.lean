/- Part 35 of the texts. -/
import Derived.Test.YtenpggicmfhhdaaGreatDoorParte34
set_option maxHeartbeats 8000000
set_option maxRecDepth 20000
namespace Go.Proofs.YtenpggicmfhhdaaGreatDoor
open Go.RowKit
attribute [local go_sem ↓] Go.wp_at_zero Go.wp_at_succ
theorem m9(I:List Int)(j:Nat)(d:j<I.length):(aU I).getD j 0=aP I j:=by
 rw[List.getD_eq_getElem?_getD,mW I j d]
 rfl
theorem rJ(L:List Nat){j:Nat}(h:j<L.length):ik (L.drop j)=(decide (fK (L.getD j 0)=0)&&ik (L.drop (j+1))):=by
 rw[List.drop_eq_getElem_cons h,List.getD_eq_getElem?_getD,List.getElem?_eq_getElem h]
 rfl
theorem rK(L:List Nat){j:Nat}(h:j<L.length):lf (L.drop j)=if fK (L.getD j 0)=0 then lf (L.drop (j+1))else fS (L.getD j 0):=by
 rw[List.drop_eq_getElem_cons h,List.getD_eq_getElem?_getD,List.getElem?_eq_getElem h]
 rfl
theorem iL(M:Option Addr)(c:Nat)(I:List Int)(w:World)(N:ab w M c I)(hn:I.length≤64):
  Calls Tryz.prog 58 #[.slice M I.length c] w fun e A=>e=.returned (.bool (ik ((aU I).drop 1)))∧Below w.heap.size w A:=by
 have O:=aa N
 obtain⟨G,d⟩:∃G:Nat→Bool,G=fun j=>ik ((aU I).drop j):=⟨_,rfl⟩
 have Q:ik ((aU I).drop 1)=G 1:=by rw[d]
 have T:∀j,I.length≤j→G j=true:=fun j l=>by
  rw[d]
  show ik ((aU I).drop j)=true
  rw[List.drop_eq_nil_of_le (by rw[cP];exact l)]
  rfl
 have U:∀j,j<I.length→G j=(decide (fK (aP I j)=0)&&G (j+1)):=fun j l=>by
  rw[d]
  show ik ((aU I).drop j)=_
  rw[rJ (aU I) (by rw[cP];exact l),m9 I j l]
 rw[Q]
 obtain⟨v,K⟩:∃v,G 1=v:=⟨_,rfl⟩
 have V:=aa T;have X:=aa U
 obtain⟨n,h⟩:∃n,I.length=n:=⟨_,rfl⟩
 rw[h]at hn V X⊢
 rw[K]
 have Y:=aa h
 have HV:=aa K
 clear N d Q T U h K
 go_enter Tryz.func58,Tryz.ntmps58
 go_wp2_with fail
 go_loopw[3] (fun i wr=>∃j:Nat,1≤j∧j≤n+1∧i=.int .i64 j∧Hid (G j=v)∧Hid (Below w.heap.size w wr)) (fun i _=>n+1-(intOf i).toNat)
 case atStart=>exact⟨1,Nat.le_refl _,by omega,rfl,HV,Below.refl _ _⟩
 case round=>
  obtain⟨j,am,l,rfl,d,z⟩:=hrel
  by_cases m:j<n
  ·have D:(j:Int)<(n:Int):=by omega
   obtain⟨b,av,L,hb,Z⟩:=((uH O).below z.out).ne (by rw[uH Y];omega)
   have F:=aa (Z j (by rw[uH Y];exact m))
   have t:=aa (fun A=>fo (aP I j) A ((uH O).lt j))
   have y:=aa (uH X j m)
   subst L
   clear Z
   generalize fK (aP I j)=kd at*
   generalize aP I j=x at*
   have ae:=uH F
   by_cases H:kd=0
   ·subst H
    have R:=aa (show G (j+1)=v from by have:=uH y;rw[uH d]at this;rw[this];rfl)
    clear y
    go_wp2_with fail
    refine(uH t _).mono ?_
    rintro e w2 ⟨rfl,rfl⟩
    clear t
    go_wp2_with fail
    go_round
    case rel=>exact⟨j+1,by omega,by omega,by go_num,R,z⟩
    case measure=>simp[intOf];omega
   ·have f:v=false:=by have:=uH y;rw[uH d,decide_eq_false H]at this;rw[this];rfl
    subst f
    clear y
    have aj:(kd==0)=false:=by rw[beq_eq_false_iff_ne];exact H
    go_wp2_with fail
    refine(uH t _).mono ?_
    rintro e w2 ⟨rfl,rfl⟩
    clear t
    go_wp2_with fail
    exact bodyPost_ret (v:=.bool false) (by simp[results,Tryz.results58,go_sem]) rfl ⟨rfl,z.out⟩
  ·have f:v=true:=by have:=uH V j (by omega);rw[uH d]at this;exact this
   subst f
   have D:(n:Int)≤(j:Int):=by omega
   go_wp2_with fail
   exact bodyPost_ret (v:=.bool true) (by simp[results,Tryz.results58,go_sem]) rfl ⟨rfl,z.out⟩
theorem kZ(T:Option Addr)(c:Nat)(I:List Int)(w:World)(U:ab w T c I)(hn:I.length≤64)(V:ik (aU I)=false):
  Calls Tryz.prog 61 #[.slice T I.length c] w fun e D=>∃p:Nat,e=.returned (.int .i64 (p:Nat))∧p<I.length∧fS (aP I p)=lf (aU I)∧Below w.heap.size w D:=by
 have X:=aa U
 obtain⟨G,f⟩:∃G:Nat→Bool,G=fun j=>ik ((aU I).drop j):=⟨_,rfl⟩
 obtain⟨L,t⟩:∃L:Nat→Bool,L=fun j=>lf ((aU I).drop j):=⟨_,rfl⟩
 have Y:G 0=false:=by rw[f];exact V
 have Z:lf (aU I)=L 0:=by rw[t];rfl
 have GE:∀j,I.length≤j→G j=true:=fun j l=>by
  rw[f]
  show ik ((aU I).drop j)=true
  rw[List.drop_eq_nil_of_le (by rw[cP];exact l)]
  rfl
 have GS:∀j,j<I.length→G j=(decide (fK (aP I j)=0)&&G (j+1))∧L j=if fK (aP I j)=0 then L (j+1)else fS (aP I j):=fun j l=>by
  rw[f,t]
  show ik ((aU I).drop j)=_∧lf ((aU I).drop j)=_
  rw[rJ (aU I) (by rw[cP];exact l),rK (aU I) (by rw[cP];exact l),m9 I j l]
  exact⟨rfl,rfl⟩
 rw[Z]
 obtain⟨v,M⟩:∃v,L 0=v:=⟨_,rfl⟩
 have HE:=aa GE;have HS:=aa GS;have F:=aa Y
 obtain⟨n,h⟩:∃n,I.length=n:=⟨_,rfl⟩
 rw[h]at hn HE HS⊢
 rw[M]
 have HN:=aa h
 have HV:=aa M
 clear U f t Y Z GE GS h M V
 go_enter Tryz.func61,Tryz.ntmps61
 go_wp2_with fail
 go_loopw[3] (fun i wr=>∃j:Nat,j≤n∧i=.int .i64 j∧Hid (G j=false)∧Hid (L j=v)∧Hid (Below w.heap.size w wr)) (fun i _=>n-(intOf i).toNat)
 case atStart=>exact⟨0,Nat.zero_le _,rfl,F,HV,Below.refl _ _⟩
 case round=>
  obtain⟨j,l,rfl,f,t,N⟩:=hrel
  by_cases d:j<n
  ·have ae:(j:Int)<(n:Int):=by omega
   obtain⟨b,am,O,hb,hc⟩:=((uH X).below N.out).ne (by rw[uH HN];omega)
   have y:=aa (hc j (by rw[uH HN];exact d))
   have z:=aa (fun D=>fo (aP I j) D ((uH X).lt j))
   have A:=aa (uH HS j d)
   have HX:=aa (show aP I j=aP I j from rfl)
   subst O
   clear hc
   by_cases m:fK (aP I j)=0
   ·have R:=aa (show G (j+1)=false from by have:=(uH A).1;rw[uH f,decide_eq_true m,Bool.true_and]at this;exact this.symm)
    have H:=aa (show L (j+1)=v from by have:=(uH A).2;rw[uH t,if_pos m]at this;exact this.symm)
    rw[m]at z
    clear A HX m
    generalize aP I j=x at*
    have K:=uH y
    go_wp2_with fail
    refine(uH z _).mono ?_
    rintro e w2 ⟨rfl,rfl⟩
    clear z
    go_wp2_with fail
    go_round
    case rel=>exact⟨j+1,by omega,by go_num,R,H,N⟩
    case measure=>simp[intOf];omega
   ·have H:=aa (show fS (aP I j)=v from by have:=(uH A).2;rw[uH t,if_neg m]at this;exact this.symm)
    have aj:(fK (aP I j)==0)=false:=by rw[beq_eq_false_iff_ne];exact m
    clear A HX
    generalize fK (aP I j)=kd at*
    generalize Q:aP I j=x at*
    have K:=uH y
    go_wp2_with fail
    refine(uH z _).mono ?_
    rintro e w2 ⟨rfl,rfl⟩
    clear z
    go_wp2_with fail
    exact bodyPost_ret (v:=.int .i64 (j:Nat)) (by simp[results,Tryz.results61,go_sem]) rfl ⟨j,rfl,d,by rw[Q];exact uH H,N.out⟩
  ·have:=uH HE j (by omega)
   rw[uH f]at this
   cases this
end Go.Proofs.YtenpggicmfhhdaaGreatDoor
namespace Go.Proofs.YtenpggicmfhhdaaGreatDoor
def rL(r c:Nat)(S:List Nat)(i k:Nat)(vs:List Nat)(tau d j:Nat):List Nat:=dC r c (fun p q=>if(k≤q∧i≤p∧p<i+vs.length)∧(q<d∨(q=d∧p<i+j))then(Ae c S i q vs tau).getD (p-i) 0 else dJ c S p q)
theorem pQ(r c:Nat)(S:List Nat)(i k:Nat)(h:List Nat)(f d j:Nat):(rL r c S i k h f d j).length=r*c:=bY _ _ _
theorem Ea(r c:Nat)(S:List Nat)(i k:Nat)(f:List Nat)(d:Nat)(h:S.length=r*c):rL r c S i k f d k 0=S:=by
 unfold rL
 rw[←jz r c S h]
 refine bC (fun p q _ _=>?_)
 rw[jz r c S h,if_neg (fun g=>by omega)]
 rfl
theorem rM(r c:Nat)(S:List Nat)(i k:Nat)(f:List Nat)(h d:Nat):rL r c S i k f h d f.length=rL r c S i k f h (d+1) 0:=by
 unfold rL
 refine bC (fun p q _ _=>?_)
 by_cases g:(k≤q∧i≤p∧p<i+f.length)∧(q<d∨(q=d∧p<i+f.length))
 ·rw[if_pos g,if_pos ⟨g.1,by omega⟩]
 ·rw[if_neg g,if_neg (fun l=>g ⟨l.1,by omega⟩)]
theorem uT(r c:Nat)(S:List Nat)(i k:Nat)(h:List Nat)(f d:Nat)(m:c≤d):rL r c S i k h f d 0=km r c S i k h f:=by
 unfold rL km
 refine bC (fun p q _ t=>?_)
 by_cases g:k≤q∧i≤p∧p<i+h.length
 ·rw[if_pos g,if_pos ⟨g,by omega⟩]
 ·rw[if_neg g,if_neg (fun l=>g l.1)]
theorem uU(r c:Nat)(S:List Nat){i k:Nat}{h:List Nat}{f d j:Nat}(y:i+h.length≤r)(l:d<c)(m:k≤d)(z:j<h.length):
  (rL r c S i k h f d j).set ((i+j)*c+d) ((Ae c S i d h f).getD j 0)=rL r c S i k h f d (j+1):=by
 unfold rL
 rw[ke r c _ _ (show i+j<r by omega) l]
 refine bC (fun p q _ _=>?_)
 by_cases e:p=i+j∧q=d
 ·obtain⟨rfl,rfl⟩:=e
  rw[if_pos ⟨rfl,rfl⟩,if_pos ⟨⟨m,by omega,by omega⟩,.inr ⟨rfl,by omega⟩⟩,show i+j-i=j by omega]
 ·rw[if_neg e]
  by_cases g:(k≤q∧i≤p∧p<i+h.length)∧(q<d∨(q=d∧p<i+j))
  ·rw[if_pos g,if_pos ⟨g.1,by omega⟩]
  ·rw[if_neg g,if_neg (fun t=>g ⟨t.1,by omega⟩)]
theorem pR(c:Nat)(S:List Nat)(i q:Nat)(d:List Nat)(f:Nat){j:Nat}(h:j<d.length):
  (Ae c S i q d f).getD j 0=aV (dJ c S (i+j) q) (fN (mV (mV f (s6 0 d (eg c S i d.length q))) (d.getD j 0))):=by
 unfold Ae
 rw[Fr _ d _ j (bU _ _ _ _ _).symm h,pP c S i d.length q h]
theorem tK(c:Nat)(S:List Nat)(i q:Nat)(f:List Nat)(d:Nat){j:Nat}(h:j<f.length)(l:∀p q,dJ c S p q<18446744073709551616):(Ae c S i q f d).getD j 0<18446744073709551616:=by
 rw[pR c S i q f d h]
 exact mn _ _ (l _ _) (jJ _ (iB _ _))
theorem Aj(x y:Nat):∀(f d:List Nat) (s:Nat),f.length=d.length→s6 s (f++[x]) (d++[y])=aV (s6 s f d) (mV x y):=by
 intro f
 induction f with
 |nil=>
  intro d s h
  match d with
  | []=>rfl
  |y'::d=>cases h
 |cons x' f ih=>
  intro d s h
  match d with
  | []=>cases h
  |y'::d=>exact ih d _ (by simpa using h)
theorem pT(I J:List Int):∀j,j≤I.length→j≤J.length→jl I J j=s6 0 ((aU I).take j) ((aU J).take j):=by
 intro j
 induction j with
 |zero=>intro _ _;rfl
 |succ j ih=>
  intro d f
  rw[j8 I j d,j8 J j f,Aj _ _ _ _ _ (by simp[cP];omega),←ih (by omega) (by omega)]
  rfl
def AV(r c:Nat)(S:List Nat)(j b i:Nat):List Nat:=dC r c (fun p q=>if q=j∧j≤p∧p<i then(if p=j then b else 0)else dJ c S p q)
theorem ie(r c:Nat)(S:List Nat)(j b i:Nat):(AV r c S j b i).length=r*c:=bY _ _ _
theorem o0(r c:Nat)(S:List Nat){j:Nat}(b:Nat)(h:S.length=r*c)(d:j<r)(f:j<c):S.set (j*c+j) b=AV r c S j b (j+1):=by
 have e:S=dC r c (fun p q=>dJ c S p q):=by
  conv=>lhs;rw[←jz r c S h]
  rfl
 conv=>lhs;rw[e]
 rw[ke r c _ _ d f]
 unfold AV
 refine bC (fun p q _ _=>?_)
 by_cases g:p=j∧q=j
 ·rw[if_pos g,if_pos ⟨g.2,by omega,by omega⟩,if_pos g.1]
 ·rw[if_neg g,if_neg (fun l=>g (by omega))]
theorem uV(r c:Nat)(S:List Nat){j i:Nat}(b:Nat)(l:j<i)(f:i<r)(h:j<c):(AV r c S j b i).set (i*c+j) 0=AV r c S j b (i+1):=by
 unfold AV
 rw[ke r c _ _ f h]
 refine bC (fun p q _ _=>?_)
 by_cases g:p=i∧q=j
 ·rw[if_pos g,if_pos ⟨g.2,by omega,by omega⟩,if_neg (by omega)]
 ·rw[if_neg g]
  by_cases d:q=j∧j≤p∧p<i
  ·rw[if_pos d,if_pos (show q=j∧j≤p∧p<i+1 by omega)]
  ·rw[if_neg d,if_neg (show¬(q=j∧j≤p∧p<i+1) by omega)]
def Eb(r c:Nat)(S:List Nat)(j b:Nat):List Nat:=AV r c S j b r
theorem DC(r c:Nat)(S:List Nat)(j b:Nat):(Eb r c S j b).length=r*c:=ie _ _ _ _ _ _
def Ak(r c:Nat)(S:List Nat)(j:Nat):List Nat:=eg c S j (r-j) j
theorem DD(r c:Nat)(S:List Nat)(j:Nat):(Ak r c S j).length=r-j:=bU _ _ _ _ _
def GK(r c:Nat)(S:List Nat)(j:Nat):List Nat:=Eb r c (km r c S j j (je (Ak r c S j)) (kJ (Ak r c S j))) j (xn (Ak r c S j))
theorem DE(r c:Nat)(S:List Nat)(j:Nat):(GK r c S j).length=r*c:=DC _ _ _ _ _
def bB(xs:List Nat):Bool:=fu (ar xs) xs.length
def GN(r c:Nat)(S:List Nat)(j:Nat):Bool:=bB (Ak r c S j)&&xp (Ak r c S j)
def rN(r c:Nat)(S:List Nat):Nat→List Nat
 |0=>S
 |j+1=>GK r c (rN r c S j) j
def dk(r c:Nat)(S:List Nat)(j:Nat):List Nat:=Ak r c (rN r c S j) j
def Ec(r c:Nat)(S:List Nat):Nat→Bool
 |0=>true
 |j+1=>Ec r c S j&&GN r c (rN r c S j) j
theorem eE(r c:Nat)(S:List Nat)(h:S.length=r*c):∀j,(rN r c S j).length=r*c
 |0=>h
 |_+1=>DE _ _ _ _
theorem pU(r c:Nat)(S:List Nat)(j:Nat):(dk r c S j).length=r-j:=DD _ _ _ _
def gT(r c:Nat):Nat:=min c (r-1)
theorem dZ(r c j:Nat):j<gT r c↔(j:Int)<(c:Int)∧(j:Int)<(r:Int)-1:=by
 unfold gT
 omega
def wO(r c:Nat)(S:List Nat)(K:Nat):Nat→List Nat
 |0=>wI r
 |t+1=>km r r (wO r c S K t) (K-1-t) 0 (je (dk r c S (K-1-t))) (kJ (dk r c S (K-1-t)))
theorem cQ(r c:Nat)(S:List Nat)(K:Nat):∀t,(wO r c S K t).length=r*r
 |0=>show(wI r).length=r*r from bY r r _
 |_+1=>gg _ _ _ _ _ _ _
def il(r c:Nat)(S:List Nat):List Nat:=wO r c S (gT r c) (gT r c)
def iM(r c:Nat)(S:List Nat):List Nat:=rN r c S (gT r c)
def n8(r c:Nat)(S:List Nat):Bool:=Ec r c S (gT r c)&&(bB (il r c S)&&bB (iM r c S))
def eY(r c:Nat)(S:List Nat):List Nat:=dC r c (fun p q=>dJ c S (r-1-p) q)
def DF(r c:Nat)(S:List Nat):List Nat:=dC r c (fun p q=>dJ c S p (c-1-q))
theorem ff(r c:Nat)(S:List Nat):(eY r c S).length=r*c:=bY _ _ _
theorem Al(r c:Nat)(S:List Nat):(DF r c S).length=r*c:=bY _ _ _
theorem Am(r c:Nat)(S:List Nat){p q:Nat}(d:p<r)(f:q<c):dJ c (eY r c S) p q=dJ c S (r-1-p) q:=oY r c _ d f
theorem uW(r c:Nat)(S:List Nat){p q:Nat}(d:p<c)(f:q<r):dJ r (d8 r c S) p q=dJ c S q p:=oY c r (fun k i=>dJ c S i k) d f
theorem Gk(r c:Nat)(S:List Nat):d8 c r (eY c r (d8 r c S))=DF r c S:=by
 unfold DF
 rw[show d8 c r (eY c r (d8 r c S))=dC r c (fun k i=>dJ r (eY c r (d8 r c S)) i k)from rfl]
 refine bC (fun p q d f=>?_)
 rw[Am c r _ f d,uW r c S (by omega) d]
def o6(r c:Nat)(S:List Nat):List Nat:=d8 c r (iM c r (d8 r c S))
def rO(r c:Nat)(S:List Nat):List Nat:=d8 c c (il c r (d8 r c S))
def uX(r c:Nat)(S:List Nat):Bool:=n8 c r (d8 r c S)
def uY(r c:Nat)(S:List Nat):List Nat:=DF r c (eY r c (o6 r c (eY r c S)))
def xq(r c:Nat)(S:List Nat):List Nat:=eY c c (rO r c (eY r c S))
def uZ(r c:Nat)(S:List Nat):Bool:=uX r c (eY r c S)
open Go.RowKit
attribute [local go_sem ↓] Go.wp_at_zero Go.wp_at_succ
theorem An(t c:Nat)(f:Nat→Nat→Nat):dC (t+1) c f=dC t c f++(List.range c).map (f t):=by
 unfold dC
 rw[show(t+1)*c=t*c+c by rw[Nat.add_mul,Nat.one_mul],List.range_add,List.map_append,List.map_map]
 congr 1
 refine List.map_congr_left (fun k d=>?_)
 have d:=List.mem_range.1 d
 show f ((t*c+k)/c) ((t*c+k)%c)=f t k
 rw[fv d,fw d]
def AW(r c:Nat)(S:List Nat)(t:Nat):List Nat:=dC t c (fun p q=>dJ c S (r-1-p) q)
theorem DG(r c:Nat)(S:List Nat)(t:Nat):(AW r c S t).length=t*c:=bY _ _ _
theorem Gl(r c:Nat)(S:List Nat):AW r c S 0= []:=by unfold AW dC;rw[Nat.zero_mul];rfl
theorem Ao(r c:Nat)(S:List Nat)(t:Nat):AW r c S (t+1)=AW r c S t++Fl c S (r-1-t):=An t c _
theorem DH(r c:Nat)(S:List Nat):AW r c S r=eY r c S:=rfl
theorem bK.off{d:Nat}{w:World}{v:Value}{S:List Nat}(h:bK d w v S){b:Nat}{x y z:Value}(f:au w b x y z):v.ownBlock≠some b:=by
 rcases h.1.2 with⟨e,_⟩|⟨g,m,t,A,F,D,_⟩
 ·rw[e];intro q;cases q
 ·rw[A]
  intro q
  have e:g=b:=by
   have l:some g=some b:=q
   simpa using l
  subst e
  unfold au at f
  rw[D]at f
  simp at f
theorem bK.other{d:Nat}{w:World}{v:Value}{S:List Nat}(h:bK d w v S){b:Nat}{x y z:Value}(A:au w b x y z)(j:Nat)(u:Value):bK d (w.setCell ⟨b,j,none⟩ u) v S:=by
 have f:=h.off A
 refine⟨⟨h.1.1,?_⟩,h.2⟩
 rcases h.1.2 with e|⟨g,l,m,t,F,G,rest⟩
 ·exact .inl e
 ·refine .inr ⟨g,l,m,t,F,?_,rest⟩
  have D:g≠b:=by
   rintro rfl
   rw[t]at f
   exact f rfl
  rw[Below.heap_setCell _ ⟨b,j,none⟩ u g D]
  exact G
theorem au.put2{w:World}{b:Nat}{x y z:Value}(h:au w b x y z)(u:Value):au (w.setCell ⟨b,2,none⟩ u) b x y u:=by
 have d:=heap_setCell_same w b 2 _ _ u h
 unfold au
 rw[d]
 simp
structure jf (w wr:World) (g r c n cap:Nat) (ao:Option Addr) (v:Value) (T:List Nat):Prop where
 bel:Below w.heap.size w wr
 m:au wr w.heap.size (.int .i64 r) (.int .i64 c) (.slice ao n cap)
 res:au wr (w.heap.size+1) (.int .i64 0) (.int .i64 0) (.slice none 0 0)
 out:au wr g (.int .i64 r) (.int .i64 c) v
 own:bK (w.heap.size+1+1) wr v T
 lo:w.heap.size+1<g
theorem jf.all{w wr l:World}{g r c n d:Nat}{t:Option Addr}{v:Value}{T:List Nat}(h:jf w wr g r c n d t v T)(f:Below wr.heap.size wr l):jf w l g r c n d t v T:=
 ⟨h.bel.trans (f.mono h.bel.size),h.m.all f,h.res.all f,h.out.all f,h.own.below f,h.lo⟩
theorem jf.held{w wr:World}{g r c n d:Nat}{f:Option Addr}{v:Value}{T:List Nat}(h:jf w wr g r c n d f v T):wr.cell? ⟨w.heap.size,0,none⟩=some (.int .i64 (r:Nat))∧wr.cell? ⟨w.heap.size,1,none⟩=some (.int .i64 (c:Nat))∧wr.cell? ⟨w.heap.size,2,none⟩=some (.slice f n d):=⟨h.m.c0,h.m.c1,h.m.c2⟩
theorem jf.app{w wr:World}{g r c n f:Nat}{A:Option Addr}{v:Value}{T:List Nat}(h:jf w wr g r c n f A v T){D:Option Addr}{d:Nat}{U:List Nat}(I:ab wr D d (ar U))(K:T.length+U.length≤1000000):
  ∃t y l,(Builtin.append_ #[22,22] 22 #[v,.slice D U.length d]).run Tryz.prog wr=.ok (.slice t (T.length+U.length) y) l∧(au l w.heap.size (.int .i64 r) (.int .i64 c) (.slice A n f)∧au l g (.int .i64 r) (.int .i64 c) v∧jf w (l.setCell ⟨g,2,none⟩ (.slice t (T.length+U.length) y)) g r c n f A (.slice t (T.length+U.length) y) (T++U)):=by
 have F:=h.lo
 have M:=h.out.lt
 obtain⟨t,y,l,Q,V,z⟩:=rI wr (w.heap.size+1+1) 22 v T D d U h.own I K (by omega)
 have H:=h.m.grown z (h.own.off h.m)
 have N:=h.res.grown z (h.own.off h.res)
 have G:=h.out.grown z (h.own.off h.out)
 have O:Below w.heap.size w l:=h.bel.grown z h.bel.size (fun g L=>by have:=(h.own.1.lt g L).1;omega)
 exact⟨t,y,l,Q,H,G,O.setCell (p:=⟨g,2,none⟩) (by show w.heap.size≤g;omega) _,H.other (p:=⟨g,2,none⟩) (by show w.heap.size≠g;omega) _,N.other (p:=⟨g,2,none⟩) (by show w.heap.size+1≠g;omega) _,G.put2 _,V.other G 2 _,F⟩
theorem jf.start(w:World)(r c n d:Nat)(h:Option Addr):jf w ((((w.alloc (.cells #[.int .i64 r,.int .i64 c,.slice h n d] 24)).alloc (.cells #[.int .i64 0,.int .i64 0,.slice none 0 0] 24)).alloc (.cells #[] 30)).alloc (.cells #[.int .i64 r,.int .i64 c,.slice (some ⟨w.heap.size+1+1,0,none⟩) 0 0] 24)) (w.heap.size+1+1+1) r c n d h (.slice (some ⟨w.heap.size+1+1,0,none⟩) 0 0) []:=by
 have A:=ac w (.cells #[.int .i64 r,.int .i64 c,.slice h n d] 24)
 have M:=ai w (.cells #[.int .i64 r,.int .i64 c,.slice h n d] 24)
 have N:=au.new w (.int .i64 r) (.int .i64 c) (.slice h n d)
 generalize w.alloc (.cells #[.int .i64 r,.int .i64 c,.slice h n d] 24)=t at*
 have D:=ac t (.cells #[.int .i64 0,.int .i64 0,.slice none 0 0] 24)
 have F:=ai t (.cells #[.int .i64 0,.int .i64 0,.slice none 0 0] 24)
 have G:=au.new t (.int .i64 0) (.int .i64 0) (.slice none 0 0)
 generalize t.alloc (.cells #[.int .i64 0,.int .i64 0,.slice none 0 0] 24)=y at*
 rw[M]at G F
 have z:=ac y (.cells #[] 30)
 have H:=ai y (.cells #[] 30)
 have I:=bK.nil y (w.heap.size+1+1) (by omega)
 generalize y.alloc (.cells #[] 30)=L at*
 rw[F]at I H
 have m:=ac L (.cells #[.int .i64 r,.int .i64 c,.slice (some ⟨w.heap.size+1+1,0,none⟩) 0 0] 24)
 have K:=au.new L (.int .i64 r) (.int .i64 c) (.slice (some ⟨w.heap.size+1+1,0,none⟩) 0 0)
 rw[H]at K
 have l:=A.trans (D.mono A.size)
 have f:=l.trans (z.mono l.size)
 exact⟨f.trans (m.mono f.size),((N.all D).all z).all m,(G.all z).all m,K,I.below m,by omega⟩
theorem jc(r c l:Nat)(F:Option Addr)(S:List Nat)(w:World)(h:Mx w F l r c S):
  Calls Tryz.prog 22 #[.agg #[.int .i64 r,.int .i64 c,.slice F S.length l]] w fun e M=>∃v,e=.returned v∧az 0 M r c (eY r c S) v∧Below w.heap.size w M:=by
 have av:=h.2.2.1;have ae:=h.2.2.2
 have KW:=aa (fun i (hi:i<r) M (T:Below w.heap.size w M)=>Aa r c l i F S M (h.below T) hi)
 have ax:IntKind.i64.wrap ((r:Int)-1)=(r:Int)-1:=aW _ (by omega)
 clear h
 generalize hn:S.length=n at*
 clear hn
 have z:=aa (jf.start w r c n l F)
 go_enter Tryz.func22,Tryz.ntmps22
 go_wp2_with fail
 obtain⟨g,hg⟩:∃g,w.heap.size+1+1+1=g:=⟨_,rfl⟩
 rw[hg]at z⊢
 clear hg
 rw[←Gl r c S]at z
 go_loopw[4] (fun a wr=>∃(t:Nat) (v:Value),t≤r∧a=.int .i64 ((r:Int)-1-(t:Int))∧Hid (jf w wr g r c n l F v (AW r c S t))) (fun a _=>(intOf a+1).toNat)
 case atStart=>exact⟨0,_,Nat.zero_le _,by simp,z⟩
 case round=>
  clear z
  obtain⟨t,v,ht,rfl,D⟩:=hrel
  by_cases aI:t<r
  ·obtain⟨m,hm⟩:∃m,r-1-t=m:=⟨_,rfl⟩
   have aj:(r:Int)-1-(t:Int)=(m:Int):=by omega
   rw[aj]
   have a0:IntKind.i64.wrap ((m:Int)-1)=(m:Int)-1:=aW _ (by omega)
   have KR:=aa (uH KW m (by omega))
   have KP:=aa (fun(wr:World) bo d (st:jf w wr g r c n l F v (AW r c S t)) (hU:ab wr bo d (ar (Fl c S m)))=>st.app hU (by rw[DG,lG];have:=Nat.mul_le_mul (show t≤6 by omega) ae;omega))
   rw[lG,←hm,←Ao,hm]at KP
   generalize hL:(AW r c S t).length+c=nl at*
   have HM:=aa hm
   clear hL hm
   go_wp2_with fail
   refine ap (fun W=>jf w W g r c n l F v (AW r c S t)) (uH D) ?_
   clear D
   intro W st
   have z:=aa (st.all (Below.refl W.heap.size W).drew)
   clear st
   have G:=(uH z).out.c2
   refine wp_region_held_drew (S:=(fun M=>M.cell? ⟨w.heap.size,0,none⟩=some (.int .i64 (r:Nat))∧M.cell? ⟨w.heap.size,1,none⟩=some (.int .i64 (c:Nat))∧M.cell? ⟨w.heap.size,2,none⟩=some (.slice F n l))) (by kernel_rfl) ?_ (fun f=>?_)
   ·exact(uH z).held
   refine wpAnyH_take (i:=0) (oi:={dst:=some 18,op:=Op.fieldAddr 24 (Operand.tmp 3) 2,type:=0,pos:= "ref.go:14",after:=#[],guard:=none}) (v:=(Value.pointer (some ⟨g,2,none⟩))) rfl (by kernel_rfl) (by kernel_rfl) (by kernel_rfl) (fun _ _ _ h=>h) (Or.inl ⟨by rfl,?_⟩) (by assumption) ?_
   ·(intro w A;(try dsimp only at A);go_simp)
   simp only[Act.put,List.setIfInBounds_toArray,List.set_cons_zero,List.set_cons_succ]
   refine wpAnyH_take (i:=2) (oi:={dst:=some 20,op:=Op.load 24 (Operand.tmp 1),type:=24,pos:= "ref.go:14",after:=#[],guard:=none}) (v:=(Value.agg #[.int .i64 (r:Nat),.int .i64 (c:Nat),.slice F n l])) rfl (by kernel_rfl) (by kernel_rfl) (by kernel_rfl) (fun _ _ _ h=>h) (Or.inl ⟨by rfl,?_⟩) (by assumption) ?_
   ·(intro w A;(try dsimp only at A);go_simp)
   simp only[Act.put,List.setIfInBounds_toArray,List.set_cons_zero,List.set_cons_succ]
   refine wpAnyH_take (i:=3) (oi:={dst:=some 21,op:=Op.move (Operand.tmp 4),type:=3,pos:= "ref.go:14",after:=#[],guard:=none}) (v:=(Value.int .i64 (m:Nat))) rfl (by kernel_rfl) (by kernel_rfl) (by kernel_rfl) (fun _ _ _ h=>h) (Or.inl ⟨by rfl,?_⟩) (by assumption) ?_
   ·(intro w A;(try dsimp only at A);go_simp)
   simp only[Act.put,List.setIfInBounds_toArray,List.set_cons_zero,List.set_cons_succ]
   refine wpAnyH_ready (rs:=[1,4]) (by kernel_rfl) (by simp) ?_
   refine AllReadyH.cons (o:={dst:=some 19,op:=Op.load 22 (Operand.tmp 18),type:=22,pos:= "ref.go:14",after:=#[{on:=0,ground:=Ground.data}],guard:=none}) rfl (fun K y=>?_) (AllReadyH.cons (o:={dst:=some 22,op:=Op.call {callee:=Callee.value (Operand.func 31),args:=#[Operand.tmp 20,Operand.tmp 21],argTypes:=#[24,3]},type:=22,pos:= "ref.go:14",after:=#[{on:=2,ground:=Ground.data},{on:=3,ground:=Ground.data}],guard:=none}) rfl (fun K y=>?_) AllReadyH.nil)
   ·go_simp
    refine y.out _ _ ?_ (fun f=>?_)
    ·exact(uH z).held
    clear y K
    refine wpAnyH_ready (rs:=[4]) (by kernel_rfl) (by simp) ?_
    refine AllReadyH.cons (o:={dst:=some 22,op:=Op.call {callee:=Callee.value (Operand.func 31),args:=#[Operand.tmp 20,Operand.tmp 21],argTypes:=#[24,3]},type:=22,pos:= "ref.go:14",after:=#[{on:=2,ground:=Ground.data},{on:=3,ground:=Ground.data}],guard:=none}) rfl (fun K y=>?_) AllReadyH.nil
    go_simp
    refine(uH KR _ (uH z).bel).mono ?_
    rintro e w4 ⟨bo,d,rfl,O,T⟩
    clear G
    replace z:=aa ((uH z).all T)
    have G:=(uH z).out.c2
    have HQ:=aa O
    clear T O
    go_wp2_with fail
    refine y.out _ _ ?_ (fun f=>?_)
    ·exact(uH z).held
    clear y K
    refine wpAnyH_ready (rs:=[5]) (by kernel_rfl) (by simp) ?_
    refine AllReadyH.cons (o:={dst:=some 23,op:=Op.call {callee:=Callee.builtin Builtin.append,args:=#[Operand.tmp 19,Operand.tmp 22],argTypes:=#[22,22]},type:=22,pos:= "ref.go:14",after:=#[{on:=1,ground:=Ground.data},{on:=4,ground:=Ground.data},{on:=4,ground:=Ground.chain}],guard:=none}) rfl (fun K y=>?_) AllReadyH.nil
    have H:=aa (uH KP _ _ _ (uH z) (uH HQ))
    refine iJ _ (by rfl) _ _ 22 (by rfl) _ _ _ _ (by rfl) (by rfl) (uH H) ?_
    clear H G
    rintro Y Z U ⟨N,V,X⟩
    have I:=aa (show U.cell? ⟨w.heap.size,0,none⟩=some (.int .i64 (r:Nat))∧U.cell? ⟨w.heap.size,1,none⟩=some (.int .i64 (c:Nat))∧U.cell? ⟨w.heap.size,2,none⟩=some (.slice F n l)from⟨N.c0,N.c1,N.c2⟩)
    have L:=aa (jf.held X)
    have G:=V.c2;have f2:=V.free 2
    have S5:=aa X
    clear N V X z HQ
    refine y.out _ _ ?_ (fun f=>?_)
    ·exact uH I
    clear y K
    refine wpAnyH_take (i:=6) (oi:={dst:=some 24,op:=Op.fieldAddr 24 (Operand.tmp 3) 2,type:=0,pos:= "ref.go:14",after:=#[{on:=0,ground:=Ground.phase},{on:=1,ground:=Ground.phase},{on:=2,ground:=Ground.phase},{on:=3,ground:=Ground.phase},{on:=4,ground:=Ground.phase},{on:=5,ground:=Ground.phase}],guard:=none}) (v:=(Value.pointer (some ⟨g,2,none⟩))) rfl (by kernel_rfl) (by kernel_rfl) (by kernel_rfl) (fun _ _ _ h=>h) (Or.inl ⟨by rfl,?_⟩) (by assumption) ?_
    ·(intro w A;(try dsimp only at A);go_simp)
    simp only[Act.put,List.setIfInBounds_toArray,List.set_cons_zero,List.set_cons_succ]
    refine wpAnyH_ready (rs:=[7]) (by kernel_rfl) (by simp) ?_
    refine AllReadyH.cons (o:={dst:=none,op:=Op.store 22 (Operand.tmp 24) (Operand.tmp 23),type:=0,pos:= "ref.go:14",after:=#[{on:=6,ground:=Ground.data},{on:=5,ground:=Ground.data},{on:=5,ground:=Ground.chain},{on:=0,ground:=Ground.phase},{on:=1,ground:=Ground.phase},{on:=2,ground:=Ground.phase},{on:=3,ground:=Ground.phase},{on:=4,ground:=Ground.phase},{on:=5,ground:=Ground.phase}],guard:=none}) rfl (fun K y=>?_) AllReadyH.nil
    go_simp
    refine y.out _ _ ?_ (fun f=>?_)
    ·exact uH L
    clear y K
    refine wpAnyH_done (by kernel_rfl) ?_ _
    clear G f2 I L
    go_wp2_with fail
    go_round
    case rel=>exact⟨t+1,_,by omega,by first|go_num|(simp;omega),S5⟩
    case measure=>first|(simp[intOf];done)|(simp[intOf];omega)
   ·go_simp
    refine(uH KR _ (uH z).bel).mono ?_
    rintro e w4 ⟨bo,d,rfl,O,T⟩
    clear G
    replace z:=aa ((uH z).all T)
    have G:=(uH z).out.c2
    have HQ:=aa O
    clear T O
    go_wp2_with fail
    refine y.out _ _ ?_ (fun f=>?_)
    ·exact(uH z).held
    clear y K
    refine wpAnyH_ready (rs:=[1]) (by kernel_rfl) (by simp) ?_
    refine AllReadyH.cons (o:={dst:=some 19,op:=Op.load 22 (Operand.tmp 18),type:=22,pos:= "ref.go:14",after:=#[{on:=0,ground:=Ground.data}],guard:=none}) rfl (fun K y=>?_) AllReadyH.nil
    go_simp
    refine y.out _ _ ?_ (fun f=>?_)
    ·exact(uH z).held
    clear y K
    refine wpAnyH_ready (rs:=[5]) (by kernel_rfl) (by simp) ?_
    refine AllReadyH.cons (o:={dst:=some 23,op:=Op.call {callee:=Callee.builtin Builtin.append,args:=#[Operand.tmp 19,Operand.tmp 22],argTypes:=#[22,22]},type:=22,pos:= "ref.go:14",after:=#[{on:=1,ground:=Ground.data},{on:=4,ground:=Ground.data},{on:=4,ground:=Ground.chain}],guard:=none}) rfl (fun K y=>?_) AllReadyH.nil
    have H:=aa (uH KP _ _ _ (uH z) (uH HQ))
    refine iJ _ (by rfl) _ _ 22 (by rfl) _ _ _ _ (by rfl) (by rfl) (uH H) ?_
    clear H G
    rintro Y Z U ⟨N,V,X⟩
    have I:=aa (show U.cell? ⟨w.heap.size,0,none⟩=some (.int .i64 (r:Nat))∧U.cell? ⟨w.heap.size,1,none⟩=some (.int .i64 (c:Nat))∧U.cell? ⟨w.heap.size,2,none⟩=some (.slice F n l)from⟨N.c0,N.c1,N.c2⟩)
    have L:=aa (jf.held X)
    have G:=V.c2;have f2:=V.free 2
    have S5:=aa X
    clear N V X z HQ
    refine y.out _ _ ?_ (fun f=>?_)
    ·exact uH I
    clear y K
    refine wpAnyH_take (i:=6) (oi:={dst:=some 24,op:=Op.fieldAddr 24 (Operand.tmp 3) 2,type:=0,pos:= "ref.go:14",after:=#[{on:=0,ground:=Ground.phase},{on:=1,ground:=Ground.phase},{on:=2,ground:=Ground.phase},{on:=3,ground:=Ground.phase},{on:=4,ground:=Ground.phase},{on:=5,ground:=Ground.phase}],guard:=none}) (v:=(Value.pointer (some ⟨g,2,none⟩))) rfl (by kernel_rfl) (by kernel_rfl) (by kernel_rfl) (fun _ _ _ h=>h) (Or.inl ⟨by rfl,?_⟩) (by assumption) ?_
    ·(intro w A;(try dsimp only at A);go_simp)
    simp only[Act.put,List.setIfInBounds_toArray,List.set_cons_zero,List.set_cons_succ]
    refine wpAnyH_ready (rs:=[7]) (by kernel_rfl) (by simp) ?_
    refine AllReadyH.cons (o:={dst:=none,op:=Op.store 22 (Operand.tmp 24) (Operand.tmp 23),type:=0,pos:= "ref.go:14",after:=#[{on:=6,ground:=Ground.data},{on:=5,ground:=Ground.data},{on:=5,ground:=Ground.chain},{on:=0,ground:=Ground.phase},{on:=1,ground:=Ground.phase},{on:=2,ground:=Ground.phase},{on:=3,ground:=Ground.phase},{on:=4,ground:=Ground.phase},{on:=5,ground:=Ground.phase}],guard:=none}) rfl (fun K y=>?_) AllReadyH.nil
    go_simp
    refine y.out _ _ ?_ (fun f=>?_)
    ·exact uH L
    clear y K
    refine wpAnyH_done (by kernel_rfl) ?_ _
    clear G f2 I L
    go_wp2_with fail
    go_round
    case rel=>exact⟨t+1,_,by omega,by first|go_num|(simp;omega),S5⟩
    case measure=>first|(simp[intOf];done)|(simp[intOf];omega)
  ·have am:t=r:=by omega
   subst am
   have hz:(t:Int)-1-(t:Int)= -1:=by omega
   rw[hz]
   rw[DH]at D
   obtain⟨Y,Z,rfl,O⟩:=(uH D).own.bits
   have y0:=(uH D).out.c0;have y1:=(uH D).out.c1;have G:=(uH D).out.c2
   have r0:=(uH D).res.c0;have r1:=(uH D).res.c1;have r2:=(uH D).res.c2
   have f0:=(uH D).res.free 0;have f1:=(uH D).res.free 1;have f2:=(uH D).res.free 2
   have XP:=(uH D).res.put (.int .i64 t) (.int .i64 c) (.slice Y (eY t c S).length Z)
   have z0:=XP.c0;have z1:=XP.c1;have z2:=XP.c2
   have Q:=aa (ab.putM O (uH D).res (.int .i64 t) (.int .i64 c) (.slice Y (eY t c S).length Z))
   have BP:=aa (al (uH D).bel (b:=w.heap.size+1) (by omega) (.int .i64 t) (.int .i64 c) (.slice Y (eY t c S).length Z))
   clear XP D O
   go_wp2_with fail
   exact bodyPost_ret (v:=.agg #[.int .i64 t,.int .i64 c,.slice Y (eY t c S).length Z]) (by simp[results,Tryz.results22,go_sem,z0,z1,z2]) rfl ⟨_,rfl,az.any (uH Q),uH BP⟩
theorem Ap(r c n U V:Nat)(l:Nat)(F:Option Addr)(L M N:List Nat)(w:World)(Y:L.length=U)(Z:M.length=V)
  (C1:∀f,Below w.heap.size w f→Calls Tryz.prog 28 #[.agg #[.int .i64 r,.int .i64 c,.slice F n l]] f fun e d=>∃v,e=.returned v∧az 0 d c r L v∧Below f.heap.size f d)
  (C2:∀f z A,ab f z A (ar L)→Calls Tryz.prog 22 #[.agg #[.int .i64 c,.int .i64 r,.slice z U A]] f fun e d=>∃v,e=.returned v∧az 0 d c r M v∧Below f.heap.size f d)
  (C3:∀f z A,ab f z A (ar M)→Calls Tryz.prog 28 #[.agg #[.int .i64 c,.int .i64 r,.slice z V A]] f fun e d=>∃v,e=.returned v∧az 0 d r c N v∧Below f.heap.size f d):
  Calls Tryz.prog 23 #[.agg #[.int .i64 r,.int .i64 c,.slice F n l]] w fun e f=>∃v,e=.returned v∧az 0 f r c N v∧Below w.heap.size w f:=by
 have K1:=aa C1;have K2:=aa C2;have K3:=aa C3;have H1:=aa Y;have H2:=aa Z
 have KB:=aa (fun w1=>f8 w (.int .i64 r) (.int .i64 c) (.slice F n l) (.int .i64 0) (.int .i64 0) (.slice none 0 0) w1)
 have s0:=ai w (.cells #[.int .i64 r,.int .i64 c,.slice F n l] 24)
 have O:=ai (w.alloc (.cells #[.int .i64 r,.int .i64 c,.slice F n l] 24)) (.cells #[.int .i64 0,.int .i64 0,.slice none 0 0] 24)
 rw[s0]at O
 have HZ:=aa O
 obtain⟨hB,hA,hR⟩:=uH KB _ (Below.refl _ _)
 have h:=aa hB;have D:=aa hR
 clear C1 C2 C3 Y Z s0 O hB hA hR KB
 go_enter Tryz.func23,Tryz.ntmps23
 go_wp2_with fail
 refine(uH K1 _ (uH h)).mono ?_
 rintro e w1 ⟨v,rfl,⟨z,A,rfl,_,q1⟩,m⟩
 replace h:=aa ((uH h).trans (m.mono (uH h).size))
 replace D:=aa ((uH D).all m)
 have G:=aa (uH K2 _ _ _ q1)
 rw[uH H1]
 clear m q1 K1 K2 HZ H1
 go_wp2_with fail
 refine(uH G).mono ?_
 rintro e w2 ⟨v,rfl,⟨ae,aj,rfl,_,q2⟩,m⟩
 replace h:=aa ((uH h).trans (m.mono (uH h).size))
 replace D:=aa ((uH D).all m)
 have G3:=aa (uH K3 _ _ _ q2)
 rw[uH H2]
 clear m q2 K3 G H2
 go_wp2_with fail
 refine(uH G3).mono ?_
 rintro e w3 ⟨v,rfl,⟨t,y,rfl,_,q3⟩,m⟩
 replace h:=aa ((uH h).trans (m.mono (uH h).size))
 have X:=(uH D).all m
 generalize H:N.length=K at*
 have r0:=X.c0;have r1:=X.c1;have r2:=X.c2
 have f0:=X.free 0;have f1:=X.free 1;have f2:=X.free 2
 have I:=X.put (.int .i64 r) (.int .i64 c) (.slice t K y)
 have z0:=I.c0;have z1:=I.c1;have z2:=I.c2
 have Q:=aa (ab.putM q3 X (.int .i64 r) (.int .i64 c) (.slice t K y))
 have BP:=aa (al (uH h) (b:=w.heap.size+1) (by omega) (.int .i64 r) (.int .i64 c) (.slice t K y))
 have T:=aa H
 clear I X m q3 D h G3 H
 go_wp2_with fail
 refine bodyPost_ret (v:=.agg #[.int .i64 r,.int .i64 c,.slice t K y]) (by simp[results,Tryz.results23,go_sem,z0,z1,z2]) rfl ⟨_,rfl,?_,uH BP⟩
 have:=az.any (r:=r) (c:=c) (uH Q)
 rw[uH T]at this
 exact this
theorem wP(r c d:Nat)(l:Option Addr)(S:List Nat)(w:World)(h:Mx w l d r c S):
  Calls Tryz.prog 23 #[.agg #[.int .i64 r,.int .i64 c,.slice l S.length d]] w fun e f=>∃v,e=.returned v∧az 0 f r c (DF r c S) v∧Below w.heap.size w f:=by
 have z:=h.2.2.1;have A:=h.2.2.2
 refine Ap r c S.length (c*r) (c*r) d l (d8 r c S) (eY c r (d8 r c S)) (DF r c S) w (ez _ _ _) (ff _ _ _) (fun f D=>gR r c d l S f (h.below D)) ?_ ?_
 ·intro f m t y
  have:=jc c r t m (d8 r c S) f ⟨y,ez _ _ _,A,z⟩
  rw[ez]at this
  exact this
 ·intro f m t y
  have:=gR c r t m (eY c r (d8 r c S)) f ⟨y,ff _ _ _,A,z⟩
  rw[ff]at this
  rw[←Gk r c S]
  exact this
end Go.Proofs.YtenpggicmfhhdaaGreatDoor
