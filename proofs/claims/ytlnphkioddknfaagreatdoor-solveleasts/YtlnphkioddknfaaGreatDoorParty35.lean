/- Part 35 of the texts. -/
import Derived.Test.YtlnphkioddknfaaGreatDoorParty34
set_option maxHeartbeats 4000000
set_option maxRecDepth 20000
namespace Go.Proofs.YtlnphkioddknfaaGreatDoor
open Go.RowKit
attribute [local go_sem ↓] Go.wp_at_zero Go.wp_at_succ
theorem p9(ao N:Option Addr)(c d:Nat)(I J:List Int)(w:World)(O:ac w ao c I)(Q:ac w N d J)(H:I.length=J.length)(hn:I.length≤35184372088830):
  Calls Tryz.prog 92 #[.slice ao I.length c,.slice N J.length d] w fun e f=>e=.returned (.int .u64 (iZ I J I.length:Nat))∧Below w.heap.size w f:=by
 have U:=aa O;have V:=aa Q
 obtain⟨n,l⟩:∃n,I.length=n:=⟨_,rfl⟩
 rw[←H,l]
 rw[l]at hn H
 have X:=aa l;have Y:=aa H.symm
 clear O Q l H
 go_enter Tryz.func92,Tryz.ntmps92
 go_wp2_with fail
 go_loopw[5,6] (fun t i wr=>∃k:Nat,k≤n∧i=.int .i64 k∧t=.int .u64 (iZ I J k:Nat)∧Hid (Below w.heap.size w wr)) (fun _ i _=>n-(intOf i).toNat)
 case atStart=>exact⟨0,Nat.zero_le _,rfl,rfl,Below.refl _ _⟩
 case round=>
  obtain⟨k,hk,rfl,rfl,z⟩:=hrel
  by_cases m:k<n
  ·have ae:(k:Int)<(n:Int):=by omega
   obtain⟨b1,o1,L,am,A⟩:=((uH U).below z.out).ne (by rw[uH X];omega)
   obtain⟨b2,o2,M,ax,D⟩:=((uH V).below z.out).ne (by rw[uH Y];omega)
   have Z:=A k (by rw[uH X];exact m)
   have cy:=D k (by rw[uH Y];exact m)
   have C1:=aa (fun f=>io (aM I k) (aM J k) f ((uH U).lt k) ((uH V).lt k))
   have C2:=aa (fun f=>pW (iZ I J k) (mV (aM I k) (aM J k)) f (gX I J k) (gp _ _))
   have eV:Hid (iZ I J (k+1)=aV (iZ I J k) (mV (aM I k) (aM J k))):=rfl
   subst L
   subst M
   clear A D
   generalize aV (iZ I J k) (mV (aM I k) (aM J k))=o at*
   generalize mV (aM I k) (aM J k)=p at*
   generalize aM I k=x at*
   generalize aM J k=y at*
   generalize iZ I J k=s at*
   have HK:=aa (fun f (h:Below wr.heap.size wr f)=>(show Below wr.heap.size wr f∧f.cell? ⟨b1,o1+k,none⟩=some (.int .u64 (x:Nat))∧f.cell? ⟨b2,o2+k,none⟩=some (.int .u64 (y:Nat))from⟨h,ah Z h,ah cy h⟩))
   clear Z cy
   go_wp2_with fail
   go_region_held3(fun f=>Below wr.heap.size wr f∧f.cell? ⟨b1,o1+k,none⟩=some (.int .u64 (x:Nat))∧f.cell? ⟨b2,o2+k,none⟩=some (.int .u64 (y:Nat)))
    (first|exact uH HK _ (Below.refl _ _).drew|exact uH HK _ (by assumption)|fail "KK")
    (first|(go_at_call 50;refine(uH C1 _).mono ?_;rintro e w1 ⟨rfl,F⟩;have aj:Below wr.heap.size wr w1:=Below.trans (And.left (by assumption)) (F.mono (Below.size (And.left (by assumption))));clear F)|(go_at_call 144;refine(uH C2 _).mono ?_;rintro e w2 ⟨rfl,G⟩;have ak:Below wr.heap.size wr w2:=Below.trans (And.left (by assumption)) (G.mono (Below.size (And.left (by assumption))));clear G)|fail "NO ARM")
   have B2:Hid (Below w.heap.size w _):=z.out.trans (Below.mono (And.left (by assumption)) z.out.size)
   go_wp2_with fail
   go_round
   case rel=>exact⟨k+1,by omega,by go_num,by rw[eV.out],B2⟩
   case measure=>simp[intOf];omega
  ·have K:k=n:=by omega
   subst K
   go_wp2_with fail
   exact bodyPost_ret (v:=.int .u64 (iZ I J k:Nat)) (by simp[results,Tryz.results92,go_sem]) rfl ⟨rfl,z.out⟩
theorem Dg(a b v:Nat)(o:Option Nat)(w:World)
  (D:∀i d,(binOp .sub i (.float .f64 a) (.float .f64 b)).run Tryz.prog d=.ok (.float .f64 (fC o a b d)) (lC o d))
  (h:∀d,Calls Tryz.prog 109 #[.int .u64 a] d fun r f=>r=.returned (.float .f64 a)∧d=f)
  (l:∀d,Calls Tryz.prog 109 #[.int .u64 b] d fun r f=>r=.returned (.float .f64 b)∧d=f)
  (m:∀u d,Calls Tryz.prog 75 #[.float .f64 (fC o a b u)] d fun r f=>r=.returned (.int .u64 v)∧d=f):
  Calls Tryz.prog 49 #[.int .u64 a,.int .u64 b] w fun r d=>r=.returned (.int .u64 (v:Nat))∧Below w.heap.size w d:=by
 have t:=aa h;have y:=aa l;have z:=aa m
 have B:=aa (gv o w)
 clear h l m
 go_enter Tryz.func49,Tryz.ntmps49
 go_wp2_with fail
 refine(uH t _).mono ?_
 rintro e A ⟨rfl,rfl⟩
 go_wp2_with fail
 refine(uH y _).mono ?_
 rintro e A ⟨rfl,rfl⟩
 go_wp2_with fail
 refine(uH z _ _).mono ?_
 rintro e A ⟨rfl,rfl⟩
 clear t y z
 go_wp2
 go_ret
 exact⟨rfl,uH B⟩
theorem iB(a b:Nat)(w:World)(m:a<18446744073709551616)(f:b<18446744073709551616):
  Calls Tryz.prog 49 #[.int .u64 a,.int .u64 b] w fun r d=>r=.returned (.int .u64 (aV a (fN b):Nat))∧Below w.heap.size w d:=by
 refine Dg a b (aV a (fN b)) (Ieee.double.sub a b) w (fun i d=>Bt i a b d) (fun d=>gW a d m) (fun d=>gW b d f) (fun u d=>pV _ _ d (fun l=>?_))
 rw[AU a b f]
 cases h:Ieee.double.add a (fN b)with
 |some r=>
  have:=pR a (fN b) u l m (jR b f)
  rw[h]at this
  exact this
 |none=>
  have t:aN a (fN b)=true:=by
   cases e:aN a (fN b)with
   |true=>rfl
   |false=>rw[pH a (fN b) m (jR b f) e]at h;cases h
  rw[(pG a (fN b) m (jR b f) t).2]
  obtain⟨y,z⟩:=lE a b u
  have:=eZ _ l y
  rw[if_pos z]at this
  exact this
def FX(r c:Nat)(S:List Nat)(k:Nat):List Nat:=gY (fun i=>bB c S i k) r
theorem Dh(r c cap k:Nat)(ao:Option Addr)(S:List Nat)(w:World)(h:Mx w ao cap r c S)(hk:k<c):
  Calls Tryz.prog 80 #[.agg #[.int .i64 r,.int .i64 c,.slice ao S.length cap],.int .i64 k,.int .i64 0] w fun e G=>∃bo d,e=.returned (.slice bo r d)∧ac G bo d (ar (FX r c S k))∧Below w.heap.size w G:=by
 have HH:=aa h
 have r6:=h.2.2.1
 have O:=ad w (.cells #[.int .i64 r,.int .i64 c,.slice ao S.length cap] 24)
 have Q:=ab w (.cells #[.int .i64 r,.int .i64 c,.slice ao S.length cap] 24)
 have X0:=aq.new w (.int .i64 r) (.int .i64 c) (.slice ao S.length cap)
 have H:=ab (w.alloc (.cells #[.int .i64 r,.int .i64 c,.slice ao S.length cap] 24)) (.cells #[] 37)
 have U:=bD.nil (w.alloc (.cells #[.int .i64 r,.int .i64 c,.slice ao S.length cap] 24)) (w.heap.size+1) (by rw[O];omega)
 rw[O]at U
 have V:=aa U;have X:=aa (X0.all H);have Y:=aa (Q.trans (H.mono Q.size))
 obtain⟨l,M⟩:∃l,S.length=l:=⟨_,rfl⟩
 rw[M]at X Y V
 rw[M]
 have Z:=aa M
 clear h O Q X0 H U M
 go_enter Tryz.func80,Tryz.ntmps80
 go_wp2_with fail
 go_loopw[7,8] (fun v i wr=>∃j:Nat,j≤r∧i=.int .i64 j∧Hid (bD (w.heap.size+1) wr v (gY (fun i=>bB c S i k) j))∧Hid (aq wr w.heap.size (.int .i64 r) (.int .i64 c) (.slice ao l cap))∧Hid (Below w.heap.size w wr)) (fun _ i _=>r-(intOf i).toNat)
 case atStart=>exact⟨0,Nat.zero_le _,rfl,V,X,Y⟩
 case round=>
  clear V X Y
  obtain⟨j,hj,rfl,N,K,L⟩:=hrel
  have t0:=(uH K).c0;have t1:=(uH K).c1;have t2:=(uH K).c2
  by_cases ae:j<r
  ·have ak:(j:Int)<(r:Int):=by omega
   have C:=aa (fun G (m:Mx G ao cap r c S)=>fW r c cap j k ao S G m ae hk)
   rw[uH Z]at C
   have HM:=aa ((uH HH).below L.out)
   have ho:=aa ((uH HH).el_lt j k)
   have z:=aa (show(gY (fun i=>bB c S i k) j).length≤1000000 from by rw[dw];omega)
   have eS:=aa (iq (fun i=>bB c S i k) j)
   generalize bB c S j k=o at*
   go_wp2_with fail
   refine(uH C _ (uH HM)).mono ?_
   rintro e w2 ⟨rfl,y⟩
   have A:=(uH N).below y
   have f:=(uH K).all y
   have B2:=L.out.trans (y.mono L.out.size)
   obtain⟨v3,w3,D,F,t,_,_⟩:=A.push o (uH ho) (uH z) (by have:=f.lt;omega) 22
   have I:=aa D
   have O3:=aa (show bD (w.heap.size+1) w3 v3 (gY (fun i=>bB c S i k) (j+1))from by rw[uH eS];exact F)
   have X3:=aa (f.below t (by omega))
   have B3:=aa (B2.trans (t.mono (by omega)))
   clear y C N K L A f B2 D F t ho z eS HM t0 t1 t2
   go_wp2_with(at_builtin;refine aT _ rfl _ _ 22 rfl _ _ _ _ rfl rfl (uH I) ?_;clear I)
   go_round
   case rel=>exact⟨j+1,by omega,by go_num,O3,X3,B3⟩
   case measure=>simp[intOf];omega
  ·have aj:r=j:=by omega
   subst aj
   obtain⟨H,d1,e1,q1⟩:=(uH N).bits
   rw[dw]at e1
   subst e1
   have Q1:=aa q1
   clear q1 N
   go_wp2_with fail
   go_ret
   exact⟨H,d1,rfl,uH Q1,L.out⟩
theorem Di(a b v:Nat)(o:Option Nat)(w:World)
  (D:∀i d,(binOp .quo i (.float .f64 a) (.float .f64 b)).run Tryz.prog d=.ok (.float .f64 (fC o a b d)) (lC o d))
  (h:∀d,Calls Tryz.prog 109 #[.int .u64 a] d fun r f=>r=.returned (.float .f64 a)∧d=f)
  (l:∀d,Calls Tryz.prog 109 #[.int .u64 b] d fun r f=>r=.returned (.float .f64 b)∧d=f)
  (m:∀u d,Calls Tryz.prog 75 #[.float .f64 (fC o a b u)] d fun r f=>r=.returned (.int .u64 v)∧d=f):
  Calls Tryz.prog 52 #[.int .u64 a,.int .u64 b] w fun r d=>r=.returned (.int .u64 (v:Nat))∧Below w.heap.size w d:=by
 have t:=aa h;have y:=aa l;have z:=aa m
 have B:=aa (gv o w)
 clear h l m
 go_enter Tryz.func52,Tryz.ntmps52
 go_wp2_with fail
 refine(uH t _).mono ?_
 rintro e A ⟨rfl,rfl⟩
 go_wp2_with fail
 refine(uH y _).mono ?_
 rintro e A ⟨rfl,rfl⟩
 go_wp2_with fail
 refine(uH z _ _).mono ?_
 rintro e A ⟨rfl,rfl⟩
 clear t y z
 go_wp2
 go_ret
 exact⟨rfl,uH B⟩
theorem lH(a b:Nat)(w:World)(h:a<18446744073709551616)(l:b<18446744073709551616):
  Calls Tryz.prog 52 #[.int .u64 a,.int .u64 b] w fun r d=>r=.returned (.int .u64 (dV a b:Nat))∧Below w.heap.size w d:=
 Di a b (dV a b) (Ieee.double.div a b) w (fun i d=>Bw i a b d) (fun d=>gW a d h) (fun d=>gW b d l) (fun u d=>pV _ _ d (fun f=>yB a b u f h l))
theorem ou(I:List Int)(j:Nat)(d:j<I.length):(aU I).getD j 0=aM I j:=by
 rw[List.getD_eq_getElem?_getD,og I j d]
 rfl
theorem tD(L:List Nat){j:Nat}(h:j<L.length):jN (L.drop j)=(decide (fK (L.getD j 0)=0)&&jN (L.drop (j+1))):=by
 rw[List.drop_eq_getElem_cons h,List.getD_eq_getElem?_getD,List.getElem?_eq_getElem h]
 rfl
theorem tE(L:List Nat){j:Nat}(h:j<L.length):mI (L.drop j)=if fK (L.getD j 0)=0 then mI (L.drop (j+1))else fS (L.getD j 0):=by
 rw[List.drop_eq_getElem_cons h,List.getD_eq_getElem?_getD,List.getElem?_eq_getElem h]
 rfl
theorem jr(ao:Option Addr)(c:Nat)(I:List Int)(w:World)(M:ac w ao c I)(hn:I.length≤64):
  Calls Tryz.prog 195 #[.slice ao I.length c] w fun e A=>e=.returned (.bool (jN ((aU I).drop 1)))∧Below w.heap.size w A:=by
 have N:=aa M
 obtain⟨G,d⟩:∃G:Nat→Bool,G=fun j=>jN ((aU I).drop j):=⟨_,rfl⟩
 have O:jN ((aU I).drop 1)=G 1:=by rw[d]
 have Q:∀j,I.length≤j→G j=true:=fun j l=>by
  rw[d]
  show jN ((aU I).drop j)=true
  rw[List.drop_eq_nil_of_le (by rw[cY];exact l)]
  rfl
 have U:∀j,j<I.length→G j=(decide (fK (aM I j)=0)&&G (j+1)):=fun j l=>by
  rw[d]
  show jN ((aU I).drop j)=_
  rw[tD (aU I) (by rw[cY];exact l),ou I j l]
 rw[O]
 obtain⟨v,K⟩:∃v,G 1=v:=⟨_,rfl⟩
 have V:=aa Q;have X:=aa U
 obtain⟨n,h⟩:∃n,I.length=n:=⟨_,rfl⟩
 rw[h]at hn V X⊢
 rw[K]
 have Y:=aa h
 have HV:=aa K
 clear M d O Q U h K
 go_enter Tryz.func195,Tryz.ntmps195
 go_wp2_with fail
 go_loopw[3] (fun i wr=>∃j:Nat,1≤j∧j≤n+1∧i=.int .i64 j∧Hid (G j=v)∧Hid (Below w.heap.size w wr)) (fun i _=>n+1-(intOf i).toNat)
 case atStart=>exact⟨1,Nat.le_refl _,by omega,rfl,HV,Below.refl _ _⟩
 case round=>
  obtain⟨j,ak,l,rfl,d,z⟩:=hrel
  by_cases m:j<n
  ·have D:(j:Int)<(n:Int):=by omega
   obtain⟨b,am,L,hb,Z⟩:=((uH N).below z.out).ne (by rw[uH Y];omega)
   have F:=aa (Z j (by rw[uH Y];exact m))
   have t:=aa (fun A=>eP (aM I j) A ((uH N).lt j))
   have y:=aa (uH X j m)
   subst L
   clear Z
   generalize fK (aM I j)=kd at*
   generalize aM I j=x at*
   have ae:=uH F
   by_cases H:kd=0
   ·subst H
    have R:=aa (show G (j+1)=v from by have:=uH y;rw[uH d]at this;rw[this];rfl)
    clear y
    go_wp2_with fail
    refine(uH t _).mono ?_
    rintro e w2 ⟨rfl,rfl⟩
    clear t
    go_wp2_with fail
    go_round
    case rel=>exact⟨j+1,by omega,by omega,by go_num,R,z⟩
    case measure=>simp[intOf];omega
   ·have f:v=false:=by have:=uH y;rw[uH d,decide_eq_false H]at this;rw[this];rfl
    subst f
    clear y
    have aj:(kd==0)=false:=by rw[beq_eq_false_iff_ne];exact H
    go_wp2_with fail
    refine(uH t _).mono ?_
    rintro e w2 ⟨rfl,rfl⟩
    clear t
    go_wp2_with fail
    exact bodyPost_ret (v:=.bool false) (by simp[results,Tryz.results195,go_sem]) rfl ⟨rfl,z.out⟩
  ·have f:v=true:=by have:=uH V j (by omega);rw[uH d]at this;exact this
   subst f
   have D:(n:Int)≤(j:Int):=by omega
   go_wp2_with fail
   exact bodyPost_ret (v:=.bool true) (by simp[results,Tryz.results195,go_sem]) rfl ⟨rfl,z.out⟩
theorem mf(ao:Option Addr)(c:Nat)(I:List Int)(w:World)(U:ac w ao c I)(hn:I.length≤64)(V:jN (aU I)=false):
  Calls Tryz.prog 197 #[.slice ao I.length c] w fun e D=>∃p:Nat,e=.returned (.int .i64 (p:Nat))∧p<I.length∧fS (aM I p)=mI (aU I)∧Below w.heap.size w D:=by
 have X:=aa U
 obtain⟨G,f⟩:∃G:Nat→Bool,G=fun j=>jN ((aU I).drop j):=⟨_,rfl⟩
 obtain⟨L,t⟩:∃L:Nat→Bool,L=fun j=>mI ((aU I).drop j):=⟨_,rfl⟩
 have Y:G 0=false:=by rw[f];exact V
 have Z:mI (aU I)=L 0:=by rw[t];rfl
 have GE:∀j,I.length≤j→G j=true:=fun j l=>by
  rw[f]
  show jN ((aU I).drop j)=true
  rw[List.drop_eq_nil_of_le (by rw[cY];exact l)]
  rfl
 have GS:∀j,j<I.length→G j=(decide (fK (aM I j)=0)&&G (j+1))∧L j=if fK (aM I j)=0 then L (j+1)else fS (aM I j):=fun j l=>by
  rw[f,t]
  show jN ((aU I).drop j)=_∧mI ((aU I).drop j)=_
  rw[tD (aU I) (by rw[cY];exact l),tE (aU I) (by rw[cY];exact l),ou I j l]
  exact⟨rfl,rfl⟩
 rw[Z]
 obtain⟨v,M⟩:∃v,L 0=v:=⟨_,rfl⟩
 have HE:=aa GE;have HS:=aa GS;have F:=aa Y
 obtain⟨n,h⟩:∃n,I.length=n:=⟨_,rfl⟩
 rw[h]at hn HE HS⊢
 rw[M]
 have HN:=aa h
 have HV:=aa M
 clear U f t Y Z GE GS h M V
 go_enter Tryz.func197,Tryz.ntmps197
 go_wp2_with fail
 go_loopw[3] (fun i wr=>∃j:Nat,j≤n∧i=.int .i64 j∧Hid (G j=false)∧Hid (L j=v)∧Hid (Below w.heap.size w wr)) (fun i _=>n-(intOf i).toNat)
 case atStart=>exact⟨0,Nat.zero_le _,rfl,F,HV,Below.refl _ _⟩
 case round=>
  obtain⟨j,l,rfl,f,t,N⟩:=hrel
  by_cases d:j<n
  ·have ae:(j:Int)<(n:Int):=by omega
   obtain⟨b,ak,O,hb,hc⟩:=((uH X).below N.out).ne (by rw[uH HN];omega)
   have y:=aa (hc j (by rw[uH HN];exact d))
   have z:=aa (fun D=>eP (aM I j) D ((uH X).lt j))
   have A:=aa (uH HS j d)
   have HX:=aa (show aM I j=aM I j from rfl)
   subst O
   clear hc
   by_cases m:fK (aM I j)=0
   ·have R:=aa (show G (j+1)=false from by have:=(uH A).1;rw[uH f,decide_eq_true m,Bool.true_and]at this;exact this.symm)
    have H:=aa (show L (j+1)=v from by have:=(uH A).2;rw[uH t,if_pos m]at this;exact this.symm)
    rw[m]at z
    clear A HX m
    generalize aM I j=x at*
    have K:=uH y
    go_wp2_with fail
    refine(uH z _).mono ?_
    rintro e w2 ⟨rfl,rfl⟩
    clear z
    go_wp2_with fail
    go_round
    case rel=>exact⟨j+1,by omega,by go_num,R,H,N⟩
    case measure=>simp[intOf];omega
   ·have H:=aa (show fS (aM I j)=v from by have:=(uH A).2;rw[uH t,if_neg m]at this;exact this.symm)
    have aj:(fK (aM I j)==0)=false:=by rw[beq_eq_false_iff_ne];exact m
    clear A HX
    generalize fK (aM I j)=kd at*
    generalize Q:aM I j=x at*
    have K:=uH y
    go_wp2_with fail
    refine(uH z _).mono ?_
    rintro e w2 ⟨rfl,rfl⟩
    clear z
    go_wp2_with fail
    exact bodyPost_ret (v:=.int .i64 (j:Nat)) (by simp[results,Tryz.results197,go_sem]) rfl ⟨j,rfl,d,by rw[Q];exact uH H,N.out⟩
  ·have:=uH HE j (by omega)
   rw[uH f]at this
   cases this
end Go.Proofs.YtlnphkioddknfaaGreatDoor
namespace Go.Proofs.YtlnphkioddknfaaGreatDoor
def tG(r c:Nat)(S:List Nat)(i k:Nat)(vs:List Nat)(tau d j:Nat):List Nat:=bW r c (fun p q=>if(k≤q∧i≤p∧p<i+vs.length)∧(q<d∨(q=d∧p<i+j))then(Dd c S i q vs tau).getD (p-i) 0 else bB c S p q)
theorem re(r c:Nat)(S:List Nat)(i k:Nat)(h:List Nat)(f d j:Nat):(tG r c S i k h f d j).length=r*c:=bg _ _ _
theorem Gw(r c:Nat)(S:List Nat)(i k:Nat)(f:List Nat)(d:Nat)(h:S.length=r*c):tG r c S i k f d k 0=S:=by
 unfold tG
 rw[←qW r c S h]
 refine aX (fun p q _ _=>?_)
 rw[qW r c S h,if_neg (fun g=>by omega)]
 rfl
theorem tH(r c:Nat)(S:List Nat)(i k:Nat)(f:List Nat)(h d:Nat):tG r c S i k f h d f.length=tG r c S i k f h (d+1) 0:=by
 unfold tG
 refine aX (fun p q _ _=>?_)
 by_cases g:(k≤q∧i≤p∧p<i+f.length)∧(q<d∨(q=d∧p<i+f.length))
 ·rw[if_pos g,if_pos ⟨g.1,by omega⟩]
 ·rw[if_neg g,if_neg (fun l=>g ⟨l.1,by omega⟩)]
theorem xm(r c:Nat)(S:List Nat)(i k:Nat)(h:List Nat)(f d:Nat)(m:c≤d):tG r c S i k h f d 0=ot r c S i k h f:=by
 unfold tG ot
 refine aX (fun p q _ t=>?_)
 by_cases g:k≤q∧i≤p∧p<i+h.length
 ·rw[if_pos g,if_pos ⟨g,by omega⟩]
 ·rw[if_neg g,if_neg (fun l=>g l.1)]
theorem xn(r c:Nat)(S:List Nat){i k:Nat}{h:List Nat}{f d j:Nat}(y:i+h.length≤r)(l:d<c)(m:k≤d)(z:j<h.length):
  (tG r c S i k h f d j).set ((i+j)*c+d) ((Dd c S i d h f).getD j 0)=tG r c S i k h f d (j+1):=by
 unfold tG
 rw[iR r c _ _ (show i+j<r by omega) l]
 refine aX (fun p q _ _=>?_)
 by_cases e:p=i+j∧q=d
 ·obtain⟨rfl,rfl⟩:=e
  rw[if_pos ⟨rfl,rfl⟩,if_pos ⟨⟨m,by omega,by omega⟩,.inr ⟨rfl,by omega⟩⟩,show i+j-i=j by omega]
 ·rw[if_neg e]
  by_cases g:(k≤q∧i≤p∧p<i+h.length)∧(q<d∨(q=d∧p<i+j))
  ·rw[if_pos g,if_pos ⟨g.1,by omega⟩]
  ·rw[if_neg g,if_neg (fun t=>g ⟨t.1,by omega⟩)]
theorem rf(c:Nat)(S:List Nat)(i q:Nat)(d:List Nat)(f:Nat){j:Nat}(h:j<d.length):
  (Dd c S i q d f).getD j 0=aV (bB c S (i+j) q) (fN (mV (mV f (u9 0 d (eG c S i d.length q))) (d.getD j 0))):=by
 unfold Dd
 rw[It _ d _ j (bV _ _ _ _ _).symm h,q9 c S i d.length q h]
theorem vI(c:Nat)(S:List Nat)(i q:Nat)(f:List Nat)(d:Nat){j:Nat}(h:j<f.length)(l:∀p q,bB c S p q<18446744073709551616):(Dd c S i q f d).getD j 0<18446744073709551616:=by
 rw[rf c S i q f d h]
 exact kG _ _ (l _ _) (jR _ (gp _ _))
theorem Dj(x y:Nat):∀(f d:List Nat) (s:Nat),f.length=d.length→u9 s (f++[x]) (d++[y])=aV (u9 s f d) (mV x y):=by
 intro f
 induction f with
 |nil=>
  intro d s h
  match d with
  | []=>rfl
  |y'::d=>cases h
 |cons x' f ih=>
  intro d s h
  match d with
  | []=>cases h
  |y'::d=>exact ih d _ (by simpa using h)
theorem rg(I J:List Int):∀j,j≤I.length→j≤J.length→iZ I J j=u9 0 ((aU I).take j) ((aU J).take j):=by
 intro j
 induction j with
 |zero=>intro _ _;rfl
 |succ j ih=>
  intro d f
  rw[kR I j d,kR J j f,Dj _ _ _ _ _ (by simp[cY];omega),←ih (by omega) (by omega)]
  rfl
end Go.Proofs.YtlnphkioddknfaaGreatDoor
