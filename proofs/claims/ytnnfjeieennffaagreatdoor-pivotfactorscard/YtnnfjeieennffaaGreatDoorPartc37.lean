/- Part 37 of the texts. -/
import Derived.Test.YtnnfjeieennffaaGreatDoorPartc36
set_option maxHeartbeats 4000000
set_option maxRecDepth 20000
namespace Go.Proofs.YtnnfjeieennffaaGreatDoor
open Go.RowKit
attribute [local go_sem ↓] Go.wp_at_zero Go.wp_at_succ
theorem Cv(a b v:Nat)(o:Option Nat)(w:World)
  (D:∀i w',(binOp .sub i (.float .f64 a) (.float .f64 b)).run Tryz.prog w'=.ok (.float .f64 (fC o a b w')) (lj o w'))
  (f:∀w',Calls Tryz.prog 93 #[.int .u64 a] w' fun r d=>r=.returned (.float .f64 a)∧w'=d)
  (h:∀w',Calls Tryz.prog 93 #[.int .u64 b] w' fun r d=>r=.returned (.float .f64 b)∧w'=d)
  (l:∀u w',Calls Tryz.prog 27 #[.float .f64 (fC o a b u)] w' fun r d=>r=.returned (.int .u64 v)∧w'=d):
  Calls Tryz.prog 84 #[.int .u64 a,.int .u64 b] w fun r w'=>r=.returned (.int .u64 (v:Nat))∧Below w.heap.size w w':=by
 have m:=aa f;have t:=aa h;have z:=aa l
 have B:=aa (gy o w)
 clear f h l
 go_enter Tryz.func84,Tryz.ntmps84
 go_wp2_with fail
 refine(uH m _).mono ?_
 rintro e A ⟨rfl,rfl⟩
 go_wp2_with fail
 refine(uH t _).mono ?_
 rintro e A ⟨rfl,rfl⟩
 go_wp2_with fail
 refine(uH z _ _).mono ?_
 rintro e A ⟨rfl,rfl⟩
 clear m t z
 go_wp2
 go_ret
 exact⟨rfl,uH B⟩
theorem js(a b:Nat)(w:World)(l:a<18446744073709551616)(d:b<18446744073709551616):
  Calls Tryz.prog 84 #[.int .u64 a,.int .u64 b] w fun r w'=>r=.returned (.int .u64 (aV a (fN b):Nat))∧Below w.heap.size w w':=by
 refine Cv a b (aV a (fN b)) (Ieee.double.sub a b) w (fun i w'=>AX i a b w') (fun w'=>gR a w' l) (fun w'=>gR b w' d) (fun u w'=>qd _ _ w' (fun f=>?_))
 rw[Au a b d]
 cases h:Ieee.double.add a (fN b)with
 |some r=>
  have:=p5 a (fN b) u f l (kh b d)
  rw[h]at this
  exact this
 |none=>
  have m:aN a (fN b)=true:=by
   cases e:aN a (fN b)with
   |true=>rfl
   |false=>rw[pT a (fN b) l (kh b d) e]at h;cases h
  rw[(pR a (fN b) l (kh b d) m).2]
  obtain⟨t,z⟩:=lu a b u
  have:=eY _ f t
  rw[if_pos z]at this
  exact this
theorem Cw(a b v:Nat)(o:Option Nat)(w:World)
  (D:∀i w',(binOp .quo i (.float .f64 a) (.float .f64 b)).run Tryz.prog w'=.ok (.float .f64 (fC o a b w')) (lj o w'))
  (f:∀w',Calls Tryz.prog 93 #[.int .u64 a] w' fun r d=>r=.returned (.float .f64 a)∧w'=d)
  (h:∀w',Calls Tryz.prog 93 #[.int .u64 b] w' fun r d=>r=.returned (.float .f64 b)∧w'=d)
  (l:∀u w',Calls Tryz.prog 27 #[.float .f64 (fC o a b u)] w' fun r d=>r=.returned (.int .u64 v)∧w'=d):
  Calls Tryz.prog 85 #[.int .u64 a,.int .u64 b] w fun r w'=>r=.returned (.int .u64 (v:Nat))∧Below w.heap.size w w':=by
 have m:=aa f;have t:=aa h;have z:=aa l
 have B:=aa (gy o w)
 clear f h l
 go_enter Tryz.func85,Tryz.ntmps85
 go_wp2_with fail
 refine(uH m _).mono ?_
 rintro e A ⟨rfl,rfl⟩
 go_wp2_with fail
 refine(uH t _).mono ?_
 rintro e A ⟨rfl,rfl⟩
 go_wp2_with fail
 refine(uH z _ _).mono ?_
 rintro e A ⟨rfl,rfl⟩
 clear m t z
 go_wp2
 go_ret
 exact⟨rfl,uH B⟩
theorem qj(a b:Nat)(w:World)(f:a<18446744073709551616)(h:b<18446744073709551616):
  Calls Tryz.prog 85 #[.int .u64 a,.int .u64 b] w fun r w'=>r=.returned (.int .u64 (dV a b:Nat))∧Below w.heap.size w w':=
 Cw a b (dV a b) (Ieee.double.div a b) w (fun i w'=>A7 i a b w') (fun w'=>gR a w' f) (fun w'=>gR b w' h) (fun u w'=>qd _ _ w' (fun d=>yq a b u d f h))
theorem oG(I:List Int)(j:Nat)(d:j<I.length):(aT I).getD j 0=aL I j:=by
 rw[List.getD_eq_getElem?_getD,oz I j d]
 rfl
theorem tD(L:List Nat){j:Nat}(h:j<L.length):jy (L.drop j)=(decide (fK (L.getD j 0)=0)&&jy (L.drop (j+1))):=by
 rw[List.drop_eq_getElem_cons h,List.getD_eq_getElem?_getD,List.getElem?_eq_getElem h]
 rfl
theorem tE(L:List Nat){j:Nat}(h:j<L.length):mQ (L.drop j)=if fK (L.getD j 0)=0 then mQ (L.drop (j+1))else fS (L.getD j 0):=by
 rw[List.drop_eq_getElem_cons h,List.getD_eq_getElem?_getD,List.getElem?_eq_getElem h]
 rfl
theorem jb(M:Option Addr)(c:Nat)(I:List Int)(w:World)(N:ad w M c I)(hn:I.length≤64):
  Calls Tryz.prog 80 #[.slice M I.length c] w fun e w'=>e=.returned (.bool (jy ((aT I).drop 1)))∧Below w.heap.size w w':=by
 have O:=aa N
 obtain⟨G,d⟩:∃G:Nat→Bool,G=fun j=>jy ((aT I).drop j):=⟨_,rfl⟩
 have Q:jy ((aT I).drop 1)=G 1:=by rw[d]
 have U:∀j,I.length≤j→G j=true:=fun j l=>by
  rw[d]
  show jy ((aT I).drop j)=true
  rw[List.drop_eq_nil_of_le (by rw[de];exact l)]
  rfl
 have V:∀j,j<I.length→G j=(decide (fK (aL I j)=0)&&G (j+1)):=fun j l=>by
  rw[d]
  show jy ((aT I).drop j)=_
  rw[tD (aT I) (by rw[de];exact l),oG I j l]
 rw[Q]
 obtain⟨v,K⟩:∃v,G 1=v:=⟨_,rfl⟩
 have X:=aa U;have Y:=aa V
 obtain⟨n,h⟩:∃n,I.length=n:=⟨_,rfl⟩
 rw[h]at hn X Y⊢
 rw[K]
 have Z:=aa h
 have HV:=aa K
 clear N d Q U V h K
 go_enter Tryz.func80,Tryz.ntmps80
 go_wp2_with fail
 go_loopw[3] (fun i wr=>∃j:Nat,1≤j∧j≤n+1∧i=.int .i64 j∧Hid (G j=v)∧Hid (Below w.heap.size w wr)) (fun i _=>n+1-(intOf i).toNat)
 case atStart=>exact⟨1,Nat.le_refl _,by omega,rfl,HV,Below.refl _ _⟩
 case round=>
  obtain⟨j,am,l,rfl,d,A⟩:=hrel
  by_cases m:j<n
  ·have D:(j:Int)<(n:Int):=by omega
   obtain⟨b,ax,L,hb,hc⟩:=((uH O).below A.out).ne (by rw[uH Z];omega)
   have F:=aa (hc j (by rw[uH Z];exact m))
   have t:=aa (fun w'=>f8 (aL I j) w' ((uH O).lt j))
   have z:=aa (uH Y j m)
   subst L
   clear hc
   generalize fK (aL I j)=kd at*
   generalize aL I j=x at*
   have ae:=uH F
   by_cases H:kd=0
   ·subst H
    have R:=aa (show G (j+1)=v from by have:=uH z;rw[uH d]at this;rw[this];rfl)
    clear z
    go_wp2_with fail
    refine(uH t _).mono ?_
    rintro e w2 ⟨rfl,rfl⟩
    clear t
    go_wp2_with fail
    go_round
    case rel=>exact⟨j+1,by omega,by omega,by go_num,R,A⟩
    case measure=>simp[intOf];omega
   ·have f:v=false:=by have:=uH z;rw[uH d,decide_eq_false H]at this;rw[this];rfl
    subst f
    clear z
    have aj:(kd==0)=false:=by rw[beq_eq_false_iff_ne];exact H
    go_wp2_with fail
    refine(uH t _).mono ?_
    rintro e w2 ⟨rfl,rfl⟩
    clear t
    go_wp2_with fail
    exact bodyPost_ret (v:=.bool false) (by simp[results,Tryz.results80,go_sem]) rfl ⟨rfl,A.out⟩
  ·have f:v=true:=by have:=uH X j (by omega);rw[uH d]at this;exact this
   subst f
   have D:(n:Int)≤(j:Int):=by omega
   go_wp2_with fail
   exact bodyPost_ret (v:=.bool true) (by simp[results,Tryz.results80,go_sem]) rfl ⟨rfl,A.out⟩
theorem mr(U:Option Addr)(c:Nat)(I:List Int)(w:World)(V:ad w U c I)(hn:I.length≤64)(X:jy (aT I)=false):
  Calls Tryz.prog 82 #[.slice U I.length c] w fun e w'=>∃p:Nat,e=.returned (.int .i64 (p:Nat))∧p<I.length∧fS (aL I p)=mQ (aT I)∧Below w.heap.size w w':=by
 have Y:=aa V
 obtain⟨G,f⟩:∃G:Nat→Bool,G=fun j=>jy ((aT I).drop j):=⟨_,rfl⟩
 obtain⟨L,t⟩:∃L:Nat→Bool,L=fun j=>mQ ((aT I).drop j):=⟨_,rfl⟩
 have Z:G 0=false:=by rw[f];exact X
 have L0:mQ (aT I)=L 0:=by rw[t];rfl
 have GE:∀j,I.length≤j→G j=true:=fun j l=>by
  rw[f]
  show jy ((aT I).drop j)=true
  rw[List.drop_eq_nil_of_le (by rw[de];exact l)]
  rfl
 have GS:∀j,j<I.length→G j=(decide (fK (aL I j)=0)&&G (j+1))∧L j=if fK (aL I j)=0 then L (j+1)else fS (aL I j):=fun j l=>by
  rw[f,t]
  show jy ((aT I).drop j)=_∧mQ ((aT I).drop j)=_
  rw[tD (aT I) (by rw[de];exact l),tE (aT I) (by rw[de];exact l),oG I j l]
  exact⟨rfl,rfl⟩
 rw[L0]
 obtain⟨v,M⟩:∃v,L 0=v:=⟨_,rfl⟩
 have HE:=aa GE;have HS:=aa GS;have F:=aa Z
 obtain⟨n,h⟩:∃n,I.length=n:=⟨_,rfl⟩
 rw[h]at hn HE HS⊢
 rw[M]
 have HN:=aa h
 have HV:=aa M
 clear V f t Z L0 GE GS h M X
 go_enter Tryz.func82,Tryz.ntmps82
 go_wp2_with fail
 go_loopw[3] (fun i wr=>∃j:Nat,j≤n∧i=.int .i64 j∧Hid (G j=false)∧Hid (L j=v)∧Hid (Below w.heap.size w wr)) (fun i _=>n-(intOf i).toNat)
 case atStart=>exact⟨0,Nat.zero_le _,rfl,F,HV,Below.refl _ _⟩
 case round=>
  obtain⟨j,l,rfl,f,t,N⟩:=hrel
  by_cases d:j<n
  ·have ae:(j:Int)<(n:Int):=by omega
   obtain⟨b,am,O,hb,hc⟩:=((uH Y).below N.out).ne (by rw[uH HN];omega)
   have z:=aa (hc j (by rw[uH HN];exact d))
   have A:=aa (fun w'=>f8 (aL I j) w' ((uH Y).lt j))
   have D:=aa (uH HS j d)
   have HX:=aa (show aL I j=aL I j from rfl)
   subst O
   clear hc
   by_cases m:fK (aL I j)=0
   ·have R:=aa (show G (j+1)=false from by have:=(uH D).1;rw[uH f,decide_eq_true m,Bool.true_and]at this;exact this.symm)
    have H:=aa (show L (j+1)=v from by have:=(uH D).2;rw[uH t,if_pos m]at this;exact this.symm)
    rw[m]at A
    clear D HX m
    generalize aL I j=x at*
    have K:=uH z
    go_wp2_with fail
    refine(uH A _).mono ?_
    rintro e w2 ⟨rfl,rfl⟩
    clear A
    go_wp2_with fail
    go_round
    case rel=>exact⟨j+1,by omega,by go_num,R,H,N⟩
    case measure=>simp[intOf];omega
   ·have H:=aa (show fS (aL I j)=v from by have:=(uH D).2;rw[uH t,if_neg m]at this;exact this.symm)
    have aj:(fK (aL I j)==0)=false:=by rw[beq_eq_false_iff_ne];exact m
    clear D HX
    generalize fK (aL I j)=kd at*
    generalize Q:aL I j=x at*
    have K:=uH z
    go_wp2_with fail
    refine(uH A _).mono ?_
    rintro e w2 ⟨rfl,rfl⟩
    clear A
    go_wp2_with fail
    exact bodyPost_ret (v:=.int .i64 (j:Nat)) (by simp[results,Tryz.results82,go_sem]) rfl ⟨j,rfl,d,by rw[Q];exact uH H,N.out⟩
  ·have:=uH HE j (by omega)
   rw[uH f]at this
   cases this
end Go.Proofs.YtnnfjeieennffaaGreatDoor
namespace Go.Proofs.YtnnfjeieennffaaGreatDoor
def tG(r c:Nat)(S:List Nat)(i k:Nat)(vs:List Nat)(tau d j:Nat):List Nat:=fu r c (fun p q=>if(k≤q∧i≤p∧p<i+vs.length)∧(q<d∨(q=d∧p<i+j))then(Cs c S i q vs tau).getD (p-i) 0 else gJ c S p q)
theorem rh(r c:Nat)(S:List Nat)(i k:Nat)(h:List Nat)(f d j:Nat):(tG r c S i k h f d j).length=r*c:=cT _ _ _
theorem Gk(r c:Nat)(S:List Nat)(i k:Nat)(f:List Nat)(d:Nat)(h:S.length=r*c):tG r c S i k f d k 0=S:=by
 unfold tG
 rw[←lG r c S h]
 refine bC (fun p q _ _=>?_)
 rw[lG r c S h,if_neg (fun g=>by omega)]
 rfl
theorem tH(r c:Nat)(S:List Nat)(i k:Nat)(f:List Nat)(h d:Nat):tG r c S i k f h d f.length=tG r c S i k f h (d+1) 0:=by
 unfold tG
 refine bC (fun p q _ _=>?_)
 by_cases g:(k≤q∧i≤p∧p<i+f.length)∧(q<d∨(q=d∧p<i+f.length))
 ·rw[if_pos g,if_pos ⟨g.1,by omega⟩]
 ·rw[if_neg g,if_neg (fun l=>g ⟨l.1,by omega⟩)]
theorem wX(r c:Nat)(S:List Nat)(i k:Nat)(h:List Nat)(f d:Nat)(m:c≤d):tG r c S i k h f d 0=mT r c S i k h f:=by
 unfold tG mT
 refine bC (fun p q _ t=>?_)
 by_cases g:k≤q∧i≤p∧p<i+h.length
 ·rw[if_pos g,if_pos ⟨g,by omega⟩]
 ·rw[if_neg g,if_neg (fun l=>g l.1)]
theorem wY(r c:Nat)(S:List Nat){i k:Nat}{h:List Nat}{f d j:Nat}(z:i+h.length≤r)(l:d<c)(m:k≤d)(A:j<h.length):
  (tG r c S i k h f d j).set ((i+j)*c+d) ((Cs c S i d h f).getD j 0)=tG r c S i k h f d (j+1):=by
 unfold tG
 rw[iH r c _ _ (show i+j<r by omega) l]
 refine bC (fun p q _ _=>?_)
 by_cases e:p=i+j∧q=d
 ·obtain⟨rfl,rfl⟩:=e
  rw[if_pos ⟨rfl,rfl⟩,if_pos ⟨⟨m,by omega,by omega⟩,.inr ⟨rfl,by omega⟩⟩,show i+j-i=j by omega]
 ·rw[if_neg e]
  by_cases g:(k≤q∧i≤p∧p<i+h.length)∧(q<d∨(q=d∧p<i+j))
  ·rw[if_pos g,if_pos ⟨g.1,by omega⟩]
  ·rw[if_neg g,if_neg (fun t=>g ⟨t.1,by omega⟩)]
theorem ri(c:Nat)(S:List Nat)(i q:Nat)(d:List Nat)(f:Nat){j:Nat}(h:j<d.length):
  (Cs c S i q d f).getD j 0=aV (gJ c S (i+j) q) (fN (mV (mV f (vB 0 d (dg c S i d.length q))) (d.getD j 0))):=by
 unfold Cs
 rw[Iq _ d _ j (bh _ _ _ _ _).symm h,rg c S i d.length q h]
theorem vF(c:Nat)(S:List Nat)(i q:Nat)(f:List Nat)(d:Nat){j:Nat}(h:j<f.length)(l:∀p q,gJ c S p q<18446744073709551616):(Cs c S i q f d).getD j 0<18446744073709551616:=by
 rw[ri c S i q f d h]
 exact nI _ _ (l _ _) (kh _ (iZ _ _))
theorem Cx(x y:Nat):∀(f d:List Nat) (s:Nat),f.length=d.length→vB s (f++[x]) (d++[y])=aV (vB s f d) (mV x y):=by
 intro f
 induction f with
 |nil=>
  intro d s h
  match d with
  | []=>rfl
  |y'::d=>cases h
 |cons x' f ih=>
  intro d s h
  match d with
  | []=>cases h
  |y'::d=>exact ih d _ (by simpa using h)
theorem rk(I J:List Int):∀j,j≤I.length→j≤J.length→jH I J j=vB 0 ((aT I).take j) ((aT J).take j):=by
 intro j
 induction j with
 |zero=>intro _ _;rfl
 |succ j ih=>
  intro d f
  rw[kN I j d,kN J j f,Cx _ _ _ _ _ (by simp[de];omega),←ih (by omega) (by omega)]
  rfl
def Dx(r c:Nat)(S:List Nat)(j b i:Nat):List Nat:=fu r c (fun p q=>if q=j∧j≤p∧p<i then(if p=j then b else 0)else gJ c S p q)
theorem iK(r c:Nat)(S:List Nat)(j b i:Nat):(Dx r c S j b i).length=r*c:=cT _ _ _
theorem qk(r c:Nat)(S:List Nat){j:Nat}(b:Nat)(h:S.length=r*c)(d:j<r)(f:j<c):S.set (j*c+j) b=Dx r c S j b (j+1):=by
 have e:S=fu r c (fun p q=>gJ c S p q):=by
  conv=>lhs;rw[←lG r c S h]
  rfl
 conv=>lhs;rw[e]
 rw[iH r c _ _ d f]
 unfold Dx
 refine bC (fun p q _ _=>?_)
 by_cases g:p=j∧q=j
 ·rw[if_pos g,if_pos ⟨g.2,by omega,by omega⟩,if_pos g.1]
 ·rw[if_neg g,if_neg (fun l=>g (by omega))]
theorem wZ(r c:Nat)(S:List Nat){j i:Nat}(b:Nat)(l:j<i)(f:i<r)(h:j<c):(Dx r c S j b i).set (i*c+j) 0=Dx r c S j b (i+1):=by
 unfold Dx
 rw[iH r c _ _ f h]
 refine bC (fun p q _ _=>?_)
 by_cases g:p=i∧q=j
 ·rw[if_pos g,if_pos ⟨g.2,by omega,by omega⟩,if_neg (by omega)]
 ·rw[if_neg g]
  by_cases d:q=j∧j≤p∧p<i
  ·rw[if_pos d,if_pos (show q=j∧j≤p∧p<i+1 by omega)]
  ·rw[if_neg d,if_neg (show¬(q=j∧j≤p∧p<i+1) by omega)]
def Gl(r c:Nat)(S:List Nat)(j b:Nat):List Nat:=Dx r c S j b r
theorem FA(r c:Nat)(S:List Nat)(j b:Nat):(Gl r c S j b).length=r*c:=iK _ _ _ _ _ _
def jz(r c:Nat)(S:List Nat)(j:Nat):List Nat:=dg c S j (r-j) j
theorem FB(r c:Nat)(S:List Nat)(j:Nat):(jz r c S j).length=r-j:=bh _ _ _ _ _
def Jw(r c:Nat)(S:List Nat)(j:Nat):List Nat:=Gl r c (mT r c S j j (jI (jz r c S j)) (mq (jz r c S j))) j (Cp (jz r c S j))
theorem FC(r c:Nat)(S:List Nat)(j:Nat):(Jw r c S j).length=r*c:=FA _ _ _ _ _
def cY(xs:List Nat):Bool:=gA (az xs) xs.length
def fH(r c:Nat):Nat:=min c (r-1)
theorem iL(r c j:Nat):j<fH r c↔(j:Int)<(c:Int)∧(j:Int)<(r:Int)-1:=by
 unfold fH
 omega
end Go.Proofs.YtnnfjeieennffaaGreatDoor
