/- Part 41 of the texts. -/
import Derived.Test.YtlnphkioddknfaaGreatDoorParty40
import Derived.Deep.CutRange
set_option maxHeartbeats 4000000
set_option maxRecDepth 20000
namespace Go.Proofs.YtlnphkioddknfaaGreatDoor
open Go.RowKit
theorem xr(r c:Nat)(S:List Nat):∀K,Iw r c S K=true↔∀j,j<K→bG (dG r c S j)=true∧Da (dG r c S j)=true:=by
 intro K
 induction K with
 |zero=>exact⟨fun _ j h=>absurd h (Nat.not_lt_zero j),fun _=>rfl⟩
 |succ K ih=>
  show(Iw r c S K&&(bG (dG r c S K)&&Da (dG r c S K)))=true↔_
  rw[Bool.and_eq_true,Bool.and_eq_true,ih]
  constructor
  ·rintro⟨f,l⟩ j d
   by_cases g:j<K
   ·exact f j g
   ·rw[show j=K by omega];exact l
  ·intro h
   exact⟨fun j d=>h j (by omega),h K (by omega)⟩
theorem rm{S:List Nat}(h:∀x∈S,x<18446744073709551616)(c p q:Nat):bB c S p q<18446744073709551616:=by
 unfold bB
 rw[List.getD_eq_getElem?_getD]
 cases e:S[p*c+q]? with
 |none=>decide
 |some x=>exact h x (List.mem_of_getElem? e)
theorem xt{S:List Nat}(h:∀x∈S,x<18446744073709551616)(c i n q:Nat):∀x∈eG c S i n q,x<18446744073709551616:=by
 intro x d
 obtain⟨j,_,rfl⟩:=List.mem_map.1 d
 exact rm h c _ _
theorem ID{r c:Nat}{S:List Nat}(f:∀x∈S,x<18446744073709551616)(i k:Nat)(h:List Nat)(d:Nat):∀x∈ot r c S i k h d,x<18446744073709551616:=by
 intro x l
 unfold ot bW at l
 obtain⟨p,_,rfl⟩:=List.mem_map.1 l
 show(if _ then _ else _)<_
 split
 ·exact vI c S i _ h d (by omega) (fun p q=>rm f c p q)
 ·exact rm f c _ _
theorem IE{r c:Nat}{S:List Nat}(f:∀x∈S,x<18446744073709551616)(j b:Nat)(h:b<18446744073709551616):∀x∈Iu r c S j b,x<18446744073709551616:=by
 intro x d
 unfold Iu DQ bW at d
 obtain⟨p,_,rfl⟩:=List.mem_map.1 d
 show(if _ then(if _ then _ else _)else _)<_
 split
 ·split
  ·exact h
  ·decide
 ·exact rm f c _ _
theorem rn{r c:Nat}{S:List Nat}(d:∀x∈S,x<18446744073709551616):∀j,∀x∈rG r c S j,x<18446744073709551616
 |0=>d
 |j+1=>IE (ID (rn d j) _ _ _ _) _ _ (Db _ (xt (rn d j) _ _ _ _))
theorem rp{w:World}{ao:Option Addr}{c:Nat}{d:List Nat}(h:ac w ao c (ar d))(l:d.length≤64):
  Calls Tryz.prog 65 #[.slice ao d.length c] w fun e f=>e=.returned (.bool (bG d))∧Below w.heap.size w f:=by
 have:=iQ ao c (ar d) w h (by rw[al];omega)
 rw[al]at this
 exact this
theorem ph(r c cap:Nat)(ao:Option Addr)(S:List Nat)(w:World)(h:Mx w ao cap r c S):
  Calls Tryz.prog 99 #[.agg #[.int .i64 r,.int .i64 c,.slice ao S.length cap]] w fun e f=>vL f (iX r c S) r c (r*r) S.length (g6 r c S) (iC r c S) e∧Below w.heap.size w f:=by
 have H:=h.2.1
 have z:=h.2.2.1
 have I:=h.2.2.2
 have lR:=fun j=>(dP r c S H j).trans H.symm
 have A:∀j,(dG r c S j).length=r-j:=rh r c S
 have lV:∀j,(kp (dG r c S j)).length=r-j:=fun j=>by rw[q8,A]
 refine vQ r c S.length (r*r) cap (iW r c) ao (rG r c S) (fun j=>ot r c (rG r c S j) j j (kp (dG r c S j)) (mJ (dG r c S j))) (dG r c S) (fun j=>kp (dG r c S j)) (zd r c S (iW r c)) (fun j=>mJ (dG r c S j)) (fun j=>DP (dG r c S j)) (fun j=>bG (dG r c S j)) (fun j=>Da (dG r c S j)) (bG (g6 r c S)) (bG (iC r c S)) (iX r c S) w z I (gZ r c) h.1 lR lV ?_ ?_ ?_ ?_ ?_ ?_ ?_ ?_ ?_ ?_ ?_
 ·unfold iX
  rw[Bool.and_eq_true,Bool.and_eq_true,xr]
 ·intro f j D F m l
  have y:=(gZ r c j).1 m
  have:=qd r c F j j D (rG r c S j) f ⟨l,dP r c S H j,z,I⟩ (by omega) (by omega)
  rw[lR j]at this
  exact this
 ·intro f j M d m l
  have:=rp l (by rw[A];omega)
  rw[A]at this
  exact this
 ·intro f j M d m Q l
  have y:=(gZ r c j).1 m
  have:=tK M d (ar (dG r c S j)) f l (by rw[al,A];omega) (by rw[al,A];omega) (by rw[cR];exact Q)
  rw[cR,al,A]at this
  exact this
 ·intro f j M d m Q l
  have y:=(gZ r c j).1 m
  have:=vS M d (ar (dG r c S j)) f l (by rw[al,A];omega) (by rw[al,A];omega) (by rw[cR];exact Q)
  rw[al,A]at this
  exact this
 ·intro f j D F U V m K X
  have y:=(gZ r c j).1 m
  have:=kX r c F j j (mJ (dG r c S j)) D U V (rG r c S j) (kp (dG r c S j)) f ⟨K,dP r c S H j,z,I⟩ X (by rw[lV];omega) (by omega) (qZ _)
  rw[lR j,lV]at this
  exact this
 ·intro f j D F m K
  have y:=(gZ r c j).1 m
  have Y:(ot r c (rG r c S j) j j (kp (dG r c S j)) (mJ (dG r c S j))).length=S.length:=by rw[gP,H]
  have Z:DP (dG r c S j)<18446744073709551616:=Db _ (xt (rn h.1.nat j) _ _ _ _)
  have:=ri r c F j (DP (dG r c S j)) D _ f ⟨K,gP _ _ _ _ _ _ _,z,I⟩ (by omega) (by omega) Z
  rw[Y]at this
  exact this
 ·intro f
  refine(Df r f z).mono ?_
  rintro e L ⟨v,rfl,⟨N,O,rfl,_,l⟩,G⟩
  exact⟨N,O,by rw[show(Ct r).length=r*r from bg r r _],l,G⟩
 ·intro f t j D F U V ht m K X
  have y:=(gZ r c j).1 (by omega)
  have:=kX r r F j 0 (mJ (dG r c S j)) D U V (zd r c S (iW r c) t) (kp (dG r c S j)) f ⟨K,cS r c S _ t,z,z⟩ X (by rw[lV];omega) (by omega) (qZ _)
  rw[cS,lV]at this
  refine this.mono ?_
  rintro e L ⟨N,O,rfl,l,G⟩
  refine⟨N,O,rfl,?_,G⟩
  show ac L N O (ar (ot r r (zd r c S (iW r c) t) (iW r c-1-t) 0 (kp (dG r c S (iW r c-1-t))) (mJ (dG r c S (iW r c-1-t)))))
  rw[←m]
  exact l
 ·intro f D F l
  have hs:r*r≤36:=Nat.mul_le_mul z z
  have:=rp l (by rw[cS];omega)
  rw[cS]at this
  exact this
 ·intro f D F l
  have hs:r*c≤36:=Nat.mul_le_mul z I
  have:=rp l (by rw[dP r c S H];omega)
  rw[lR]at this
  exact this
attribute [local go_sem ↓] Go.wp_at_zero Go.wp_at_succ
theorem vT(ao:Option Addr)(c:Nat)(I:List Int)(w:World)(Y:ac w ao c I)(hn:I.length≤64):
  Calls Tryz.prog 273 #[.slice ao I.length c] w fun e y=>e=.returned (.bool (mI (aU I)))∧Below w.heap.size w y:=by
 have N:=aa Y
 obtain⟨L,h⟩:∃L:Nat→Bool,L=fun j=>mI ((aU I).drop j):=⟨_,rfl⟩
 have Z:mI (aU I)=L 0:=by rw[h];rfl
 have LE:∀j,I.length≤j→L j=false:=fun j z=>by
  rw[h]
  show mI ((aU I).drop j)=false
  rw[List.drop_eq_nil_of_le (by rw[cY];exact z)]
  rfl
 have LS:∀j,j<I.length→L j=if fK (aM I j)=0 then L (j+1)else fS (aM I j):=fun j z=>by
  rw[h]
  show mI ((aU I).drop j)=_
  rw[tE (aU I) (by rw[cY];exact z),ou I j z]
 rw[Z]
 obtain⟨v,U⟩:∃v,L 0=v:=⟨_,rfl⟩
 have HE:=aa LE;have HS:=aa LS
 obtain⟨n,t⟩:∃n,I.length=n:=⟨_,rfl⟩
 rw[t]at hn HE HS⊢
 rw[U]
 have HN:=aa t
 have HV:=aa U
 clear Y h Z LE LS t U
 go_enter Tryz.func273,Tryz.ntmps273
 go_wp2_with fail
 go_loopw[7] (fun i wr=>∃j:Nat,j≤n∧i=.int .i64 j∧Hid (L j=v)∧Hid (Below w.heap.size w wr)) (fun i _=>n-(intOf i).toNat)
 case atStart=>exact⟨0,Nat.zero_le _,rfl,HV,Below.refl _ _⟩
 case round=>
  obtain⟨j,z,rfl,h,l⟩:=hrel
  by_cases A:j<n
  ·have O:(j:Int)<(n:Int):=by omega
   obtain⟨b,aj,V,hb,hc⟩:=((uH N).below l.out).ne (by rw[uH HN];omega)
   have f:=aa (hc j (by rw[uH HN];exact A))
   have D:=aa (fun y=>cu (aM I j) y ((uH N).lt j))
   have H:=aa (fun y=>dZ (aM I j) y ((uH N).lt j))
   have K:=aa (uH HS j A)
   subst V
   clear hc
   by_cases F:fK (aM I j)=0
   ·have M:=aa (show L (j+1)=v from by have:=uH K;rw[uH h,if_pos F]at this;exact this.symm)
    rw[F]at D
    clear K F H
    generalize aM I j=x at*
    have m:=uH f
    go_wp2_with fail
    refine(uH D _).mono ?_
    rintro e X ⟨rfl,d⟩
    have G:Hid (Below w.heap.size w X):=l.out.trans (d.mono l.out.size)
    clear D d f m l
    go_wp2_with fail
    go_round
    case rel=>exact⟨j+1,by omega,by go_num,M,G⟩
    case measure=>simp[intOf];omega
   ·have M:fS (aM I j)=v:=by have:=uH K;rw[uH h,if_neg F]at this;exact this.symm
    have ae:(fK (aM I j)==0)=false:=by rw[beq_eq_false_iff_ne];exact F
    rw[M]at H
    clear K M
    generalize fK (aM I j)=kd at*
    generalize aM I j=x at*
    have m:=uH f
    go_wp2_with fail
    refine(uH D _).mono ?_
    rintro e X ⟨rfl,d⟩
    have G:Hid (Below w.heap.size w X):=l.out.trans (d.mono l.out.size)
    clear D d f m l
    go_wp2_with fail
    refine(uH H _).mono ?_
    rintro e w3 ⟨rfl,d⟩
    have B3:Hid (Below w.heap.size w w3):=G.out.trans (d.mono G.out.size)
    clear H d G
    go_wp2_with fail
    exact bodyPost_ret (v:=.bool v) (by simp[results,Tryz.results273,go_sem]) rfl ⟨rfl,B3.out⟩
  ·have Q:v=false:=by have:=uH HE j (by omega);rw[uH h]at this;exact this
   subst Q
   have O:(n:Int)≤(j:Int):=by omega
   go_wp2_with fail
   exact bodyPost_ret (v:=.bool false) (by simp[results,Tryz.results273,go_sem]) rfl ⟨rfl,l.out⟩
theorem Do(ao:Option Addr)(n c m o:Nat)(s:Bool)(w:World)(h:(s=true∧o=m)∨(s=false∧o=fN m))(G:m<18446744073709551616)
  (H:Calls Tryz.prog 272 #[.slice ao n c] w fun e y=>e=.returned (.tuple #[.int .u64 (m:Nat),.int .i64 0])∧Below w.heap.size w y)
  (I:∀t,Below w.heap.size w t→Calls Tryz.prog 273 #[.slice ao n c] t fun e y=>e=.returned (.bool s)∧Below t.heap.size t y):
  Calls Tryz.prog 258 #[.slice ao n c] w fun e t=>e=.returned (.int .u64 (o:Nat))∧Below w.heap.size w t:=by
 have z:=aa H;have A:=aa I
 have D:=aa (fun t=>ge m t G)
 clear H I G
 rcases h with⟨rfl,rfl⟩|⟨rfl,rfl⟩
 ·clear D
  go_enter Tryz.func258,Tryz.ntmps258
  go_wp2_with fail
  refine Calls.mono (uH z) ?_
  rintro e K ⟨rfl,d⟩
  have l:=aa d
  clear z d
  go_wp2_with fail
  refine(uH A _ (uH l)).mono ?_
  rintro e L ⟨rfl,f⟩
  have F:=aa ((uH l).trans (f.mono (uH l).size))
  clear A f l
  go_wp2
  go_ret
  exact⟨rfl,uH F⟩
 ·generalize fN m=o at*
  go_enter Tryz.func258,Tryz.ntmps258
  go_wp2_with fail
  refine Calls.mono (uH z) ?_
  rintro e K ⟨rfl,d⟩
  have l:=aa d
  clear z d
  go_wp2_with fail
  refine(uH A _ (uH l)).mono ?_
  rintro e L ⟨rfl,f⟩
  have F:=aa ((uH l).trans (f.mono (uH l).size))
  clear A f l
  go_wp2_with fail
  refine(uH D _).mono ?_
  rintro e M ⟨rfl,rfl⟩
  clear D
  go_wp2
  go_ret
  exact⟨rfl,uH F⟩
theorem qe(ao:Option Addr)(c:Nat)(I:List Int)(w:World)(f:ac w ao c I)(h:I.length≤64)(m:b7 w):
  Calls Tryz.prog 258 #[.slice ao I.length c] w fun e d=>e=.returned (.int .u64 ((if mI (aU I)=true then pP (aU I)else fN (pP (aU I)):Nat):Nat))∧Below w.heap.size w d:=by
 have l:=Cl ao c I w f h m
 rw[mE]at l
 refine Do ao I.length c (pP (aU I)) _ (mI (aU I)) w ?_ (oo _) l (fun d t=>vT ao c I d (f.below t) h)
 cases mI (aU I)
 ·exact .inr ⟨rfl,if_neg (by decide)⟩
 ·exact .inl ⟨rfl,if_pos rfl⟩
theorem oB(x:Nat)(w:World):
  Calls Tryz.prog 257 #[.int .u64 x] w fun e d=>e=.returned (.int .u64 (0:Nat))∧Below w.heap.size w d:=by
 go_enter Tryz.func257,Tryz.ntmps257
 go_wp2
 go_ret
 exact⟨rfl,Below.refl _ _⟩
theorem vU(x d g:Nat)(w:World)(h:x<18446744073709551616)(l:d<18446744073709551616)(y:w.cell? ⟨g,0,none⟩=some (.int .u64 (d:Nat)))(m:b7 w):
  Calls Tryz.prog 259 #[.int .u64 x,.pointer (some ⟨g,0,none⟩)] w fun e t=>e=.returned (.int .u64 (dV x d:Nat))∧Below w.heap.size w t:=by
 have K:=aa (ov x d w h l m)
 generalize dV x d=o at*
 clear h l m
 go_enter Tryz.func259,Tryz.ntmps259
 go_wp2_with fail
 refine Calls.mono (uH K) ?_
 rintro e z ⟨rfl,f⟩
 clear K
 go_wp2
 go_ret
 exact⟨rfl,f⟩
def F7(f:Nat→Nat)(k:Nat):List Nat:=4607182418800017408::gY f k
theorem xu(f:Nat→Nat)(k:Nat):(F7 f k).length=k+1:=by
 show(gY f k).length+1=_
 rw[dw]
theorem Dp(f:Nat→Nat)(k:Nat):F7 f (k+1)=F7 f k++[f k]:=by
 show 4607182418800017408::gY f (k+1)=(4607182418800017408::gY f k)++[f k]
 rw[iq]
 rfl
theorem kj(fn:Nat)(A:Array Value)(ao:Option Addr)(c:Nat)(J:List Int)(f:Nat→Nat)(w:World)
  (a2:∀D w,(callFunc fn D).run Tryz.prog w=.ok (.enter fn D) w) (hJ:ac w ao c J) (hn:J.length≤64) (hf:∀k,k<J.length→f k<18446744073709551616)
  (t:∀z k,Below w.heap.size w z→k<J.length→Calls Tryz.prog fn (#[.int .u64 (aM J k:Nat)]++A) z fun e ae=>e=.returned (.int .u64 (f k:Nat))∧Below z.heap.size z ae):
  Calls Tryz.prog 256 #[.slice ao J.length c,.func (.func fn) #[] A] w fun e z=>∃bo d,e=.returned (.slice bo (J.length+1:Nat) d)∧bH w.heap.size bo (ar (F7 f J.length))∧ac z bo d (ar (F7 f J.length))∧Below w.heap.size w z:=by
 obtain⟨i0,am,ax,aI,a0⟩:=info_parts jp
 have HS:=aa t;have HF:=aa hf;have HJ:=aa hJ
 obtain⟨n,O⟩:∃n,J.length=n:=⟨_,rfl⟩
 rw[O]at hn HS HF⊢
 have HN:=aa O
 obtain⟨m,hm⟩:∃m,n+1=m:=⟨_,rfl⟩
 have a3:(1:Int)+(n:Int)=(m:Int):=by omega
 obtain⟨w1,Y,G,Z⟩:=run_make_own (P:=Tryz.prog) w w.heap.size 22 37 i0 (.int .u64 0) 1 Tryz.underlying22 am ax aI .i64 .i64 m (by rw[a0];omega) (by unfold maxLen;omega) (by simp)
 have B1:Below w.heap.size w w1:=(Below.refl w.heap.size w).grown Z (by simp) (fun g hg=>by cases hg)
 have O1:bD w.heap.size w1 (.slice (some ⟨w.heap.size,0,none⟩) 0 m) []:=⟨by simpa using G,by intro x hx;cases hx⟩
 generalize Value.slice (some ⟨w.heap.size,0,none⟩) 0 m=v1 at Y O1
 obtain⟨v2,w2,H,l,I,_,_⟩:=O1.push 4607182418800017408 (by decide) (by simp) B1.size 22
 have y:=aa (show(Builtin.append_ #[22,22] 22 #[v1,.slice (some ⟨w1.heap.size,0,none⟩) 1 1]).run Tryz.prog (w1.alloc (.cells #[.int .u64 4607182418800017408] 37))=.ok v2 w2 from H)
 have O2:=aa (show bD w.heap.size w2 v2 (F7 f 0)from l)
 have U:=aa (B1.trans I)
 clear G Z O1 B1 H l I t hf hJ O
 go_enter Tryz.func256,Tryz.ntmps256
 go_wp2_with(at_builtin;refine aT _ rfl _ _ 22 rfl _ _ _ _ rfl rfl (uH y) ?_;clear y)
 clear Y
 go_loopw[5,17] (fun v i wr=>∃k:Nat,k≤n∧i=.int .i64 k∧Hid (bD w.heap.size wr v (F7 f k))∧Hid (Below w.heap.size w wr)) (fun _ i _=>n-(intOf i).toNat)
 case atStart=>exact⟨0,Nat.zero_le _,rfl,O2,U⟩
 case round=>
  clear O2 U
  obtain⟨k,hk,rfl,hO,V⟩:=hrel
  by_cases N:k<n
  ·have a4:(k:Int)<(n:Int):=by omega
   obtain⟨b,a5,a1,hb,hc⟩:=((uH HJ).below V.out).ne (by rw[uH HN];omega)
   have aj:=hc k (by rw[uH HN];exact N)
   have C:=aa (fun z h=>uH HS z k h N)
   have ho:=aa (uH HF k N)
   have eo:=aa (show f k=f k from rfl)
   have F:=aa (show(F7 f k).length≤1000000 from by rw[xu];omega)
   subst a1
   clear hc
   obtain⟨o,eo⟩:∃o,f k=o:=⟨_,rfl⟩
   rw[eo]at C ho
   have eV:=aa eo
   clear eo
   generalize aM J k=x at*
   go_wp2_with fail
   refine(uH C _ V.out).mono ?_
   rintro e w2 ⟨rfl,Q⟩
   have l:=(uH hO).below Q
   have U:=V.out.trans (Q.mono V.out.size)
   obtain⟨v3,w3,K,L,M,_,_⟩:=l.push o (uH ho) (uH F) U.size 22
   have y:=aa K
   have O3:=aa (show bD w.heap.size w3 v3 (F7 f (k+1))from by
    rw[Dp,uH eV];exact L)
   have B3:=aa (U.trans M)
   clear Q C hO V l U K L M ho eV F aj
   go_wp2_with(at_builtin;refine aT _ rfl _ _ 22 rfl _ _ _ _ rfl rfl (uH y) ?_;clear y)
   go_round
   case rel=>exact⟨k+1,by omega,by go_num,O3,B3⟩
   case measure=>simp[intOf];omega
  ·have ak:k=n:=by omega
   subst ak
   obtain⟨b1,d1,e1,q1⟩:=(uH hO).bits
   rw[xu,hm]at e1
   subst e1
   have X:=aa (uH hO).newB
   have Q1:=aa q1
   clear q1 hO
   go_wp2_with fail
   exact bodyPost_ret (v:=.slice b1 m d1) (by simp[results,Tryz.results256,go_sem]) rfl ⟨b1,d1,by rw[hm],uH X,uH Q1,V.out⟩
theorem cD(r c:Int)(ao:Option Addr)(cap:Nat)(I:List Int)(w:World)(A:ac w ao cap I)(D:I.length≤35184372088830):
  Calls Tryz.prog 19 #[.agg #[.int .i64 r,.int .i64 c,.slice ao I.length cap]] w fun e m=>e=.returned (.int .i64 (gG r c I))∧Below w.heap.size w m:=by
 have t:=aa (fun m=>vG r c ao I.length cap m)
 have z:=aa (fun m (h:ac m ao cap I)=>iQ ao cap I m h D)
 have l:=aa (ab w (.cells #[.int .i64 r,.int .i64 c,.slice ao I.length cap] 24))
 have y:=aa (aq.new w (.int .i64 r) (.int .i64 c) (.slice ao I.length cap))
 have F:=aa A
 unfold gG
 generalize i9 r c I.length=b at*
 generalize fu I I.length=f at*
 generalize I.length=n at*
 clear A
 cases b
 ·clear z
  go_enter Tryz.func19,Tryz.ntmps19
  go_wp2_with fail
  refine(uH t _).mono ?_
  rintro e K ⟨rfl,d⟩
  have G:=aa ((uH l).trans (d.mono (uH l).size))
  clear d t y
  go_wp2
  go_ret
  exact⟨rfl,uH G⟩
 ·cases f
  all_goals
   go_enter Tryz.func19,Tryz.ntmps19
   go_wp2_with fail
   refine(uH t _).mono ?_
   rintro e K ⟨rfl,d⟩
   replace l:=aa ((uH l).trans (d.mono (uH l).size));replace y:=aa ((uH y).all d)
   clear d t
   have H:=(uH y).c2
   go_wp2_with fail
   refine(uH z _ ((uH F).below (uH l))).mono ?_
   rintro e L ⟨rfl,d⟩
   replace l:=aa ((uH l).trans (d.mono (uH l).size))
   clear d z H
   go_wp2
   go_ret
   exact⟨rfl,uH l⟩
theorem IF(S:List Nat):∀k,JI (ar S) k=JJ (fun p=>fZ (S.getD p 0)*fZ (S.getD p 0)) k
 |0=>rfl
 |k+1=>by
  show JI (ar S) k+fZ (aM (ar S) k)*fZ (aM (ar S) k)=JJ _ k+_
  rw[IF S k,di]
theorem mK{I:List Int}:∀n,fu I n=true↔∀k,k<n→aC (aM I k)=true
 |0=>⟨fun _ k d=>by omega,fun _=>rfl⟩
 |n+1=>by
  show(fu I n&&aC (aM I n))=true↔_
  rw[Bool.and_eq_true,mK n]
  constructor
  ·rintro⟨f,l⟩ k d
   by_cases e:k=n
   ·subst e;exact l
   ·exact f k (by omega)
  ·exact fun h=>⟨fun k d=>h k (by omega),h n (by omega)⟩
theorem F8{S:List Nat}(h:fu (ar S) S.length=true):∀x∈S,aC x=true:=fun x f=>by
 obtain⟨i,d,rfl⟩:=List.getElem_of_mem f
 have:=(mK _).1 h i d
 rw[di]at this
 rwa[List.getD_eq_getElem?_getD,List.getElem?_eq_getElem d]at this
theorem Dq{r c:Int}{I:List Int}(h:gG r c I=0):i9 r c I.length=true∧fu I I.length=true:=by
 unfold gG at h
 by_cases d:i9 r c I.length=true
 ·rw[if_pos d]at h
  refine⟨d,?_⟩
  by_cases f:fu I I.length=true
  ·exact f
  ·rw[if_neg f]at h;omega
 ·rw[if_neg d]at h;omega
theorem Mx.asked{w:World}{ao:Option Addr}{cap:Nat}{I:List Int}{r c:Int}(h:ac w ao cap I)(f:gG r c I=0):∃p q:Nat,r=(p:Int)∧c=(q:Int)∧Mx w ao cap p q (cn I)∧ar (cn I)=I∧(∀x∈cn I,aC x=true):=by
 obtain⟨l,m⟩:=Dq f
 obtain⟨p,q,t,y,z,d⟩:=Mx.of h l
 refine⟨p,q,t,y,z,d,F8 ?_⟩
 rw[d,gz]
 exact m
theorem Dr(w:World)(a b:Nat)(f:a<18446744073709551616)(l:b<18446744073709551616):ac (w.alloc (.cells #[.int .u64 (a:Nat),.int .u64 (b:Nat)] 37)) (some ⟨w.heap.size,0,none⟩) 2 [(a:Int),(b:Int)]:=by
 have h:aY (w.alloc (.cells #[.int .u64 (a:Nat),.int .u64 (b:Nat)] 37)) w.heap.size [a,b]:=heap_alloc_new w _
 exact h.bits (fun x d=>by simp at d;rcases d with rfl|rfl;exact f;exact l)
theorem zn(ao:Option Addr)(n c:Nat)(w:World)(z:1≤n)(A:n≤64)
  (l:Calls Tryz.prog 153 #[.slice ao n c] w fun e d=>e=.returned (.bool false)∧Below w.heap.size w d):
  Calls Tryz.prog 235 #[.slice ao n c] w fun e t=>e=.returned (.tuple #[.slice none 0 0,.int .u64 0,.int .u64 0,.int .i64 4])∧Below w.heap.size w t:=by
 have m:=aa l
 have y:(n:Int)≤64:=by omega
 have f:¬(n:Int)=0:=by omega
 have D:((n:Int)==0)=false:=by rw[beq_eq_false_iff_ne];exact f
 clear l
 go_enter Tryz.func235,Tryz.ntmps235
 go_wp2_with fail
 refine Calls.mono (uH m) ?_
 rintro e F ⟨rfl,h⟩
 clear m
 go_wp2
 exact bodyPost_ret (v:=.tuple #[.slice none 0 0,.int .u64 0,.int .u64 0,.int .i64 4]) (by simp[results,Tryz.results235,go_sem]) rfl ⟨rfl,h⟩
theorem zo(w:World)(d:Nat):(w.alloc (.cells #[.int .u64 (d:Nat)] 37)).cell? ⟨w.heap.size,0,none⟩=some (.int .u64 (d:Nat)):=by
 rw[cell_of_row _ w.heap.size 0 _ _ _ (heap_alloc_new w (.cells #[.int .u64 (d:Nat)] 37))]
 rfl
theorem qf(w:World)(f d:Nat)(h:f<18446744073709551616)(y:d<18446744073709551616):
  ac ((w.alloc (.cells #[.int .u64 (d:Nat)] 37)).alloc (.cells #[.int .u64 (f:Nat),.int .u64 (d:Nat)] 37)) (some ⟨w.heap.size+1,0,none⟩) 2 [(f:Int),(d:Int)]∧Below w.heap.size w ((w.alloc (.cells #[.int .u64 (d:Nat)] 37)).alloc (.cells #[.int .u64 (f:Nat),.int .u64 (d:Nat)] 37))∧((w.alloc (.cells #[.int .u64 (d:Nat)] 37)).alloc (.cells #[.int .u64 (f:Nat),.int .u64 (d:Nat)] 37)).cell? ⟨w.heap.size,0,none⟩=some (.int .u64 (d:Nat)):=by
 have l:=Dr (w.alloc (.cells #[.int .u64 (d:Nat)] 37)) f d h y
 rw[ad]at l
 have m:=ab w (.cells #[.int .u64 (d:Nat)] 37)
 have t:=ab (w.alloc (.cells #[.int .u64 (d:Nat)] 37)) (.cells #[.int .u64 (f:Nat),.int .u64 (d:Nat)] 37)
 exact⟨l,m.trans (t.mono m.size),ah (zo w d) t⟩
theorem tN(b h c a:Nat)(w:World)(hc:1≤c)
  (F:w.cell? ⟨b,h,none⟩=some (.int .u64 (a:Nat)))
  (G:Calls Tryz.prog 153 #[.slice (some ⟨b,h,none⟩) 1 c] w fun e d=>e=.returned (.bool true)∧Below w.heap.size w d)
  (H:∀f,Below w.heap.size w f→Calls Tryz.prog 59 #[.slice (some ⟨b,h,none⟩) 0 0] f fun e d=>e=.returned (.int .u64 (0:Nat))∧Below f.heap.size f d)
  (S:List Nat)
  (I:∀f,Below w.heap.size w f→Calls Tryz.prog 256 #[.slice (some ⟨b,h,none⟩) 0 0,.func (.func 257) #[] #[]] f fun e d=>∃l m,e=.returned (.slice l 1 m)∧bH f.heap.size l (ar S)∧ac d l m (ar S)∧Below f.heap.size f d):
  Calls Tryz.prog 235 #[.slice (some ⟨b,h,none⟩) 1 c] w fun e f=>∃l m,e=.returned (.tuple #[.slice l 1 m,.int .u64 0,.int .u64 (a:Nat),.int .i64 0])∧bH w.heap.size l (ar S)∧ac f l m (ar S)∧Below w.heap.size w f:=by
 have K:=aa G;have L:=aa H;have M:=aa I
 have U:(1:Int)≤(c:Int):=by omega
 clear G H I
 go_enter Tryz.func235,Tryz.ntmps235
 go_wp2_with fail
 refine Calls.mono (uH K) ?_
 rintro e w1 ⟨rfl,t⟩
 have V:=ah F t
 have N:=aa t
 clear K F t
 go_wp2_with fail
 go_quiet (fail)
 clear V
 go_wp2_with fail
 have D:=aa (below_drewN (uH N) nq)
 clear N
 refine(uH L _ (uH D)).mono ?_
 rintro e w2 ⟨rfl,z⟩
 have y:=aa ((uH D).trans (z.mono (uH D).size))
 clear L D z
 go_wp2_with fail
 refine(uH M _ (uH y)).mono ?_
 rintro e w3 ⟨l,m,rfl,O,Q,A⟩
 have X:=aa ((uH y).trans (A.mono (uH y).size))
 have Y:=aa (bH.least O (uH y).size)
 have Z:=aa Q
 clear M y A O Q
 go_wp2
 exact bodyPost_ret (v:=.tuple #[.slice l 1 m,.int .u64 0,.int .u64 (a:Nat),.int .i64 0]) (by simp[results,Tryz.results235,go_sem]) rfl ⟨l,m,rfl,uH Y,uH Z,uH X⟩
theorem vV(b h n c a:Nat)(w:World)(h1:2≤n)(h2:n≤64)(hc:n≤c)
  (G:w.cell? ⟨b,h,none⟩=some (.int .u64 (a:Nat)))
  (H:Calls Tryz.prog 153 #[.slice (some ⟨b,h,none⟩) n c] w fun e d=>e=.returned (.bool true)∧Below w.heap.size w d)
  (I:∀f,Below w.heap.size w f→Calls Tryz.prog 59 #[.slice (some ⟨b,h+1,none⟩) (n-1) (n-1)] f fun e d=>e=.returned (.int .u64 (0:Nat))∧Below f.heap.size f d)
  (S:List Nat)
  (K:∀f,Below w.heap.size w f→Calls Tryz.prog 256 #[.slice (some ⟨b,h+1,none⟩) (n-1) (n-1),.func (.func 257) #[] #[]] f fun e d=>∃l m,e=.returned (.slice l n m)∧bH f.heap.size l (ar S)∧ac d l m (ar S)∧Below f.heap.size f d):
  Calls Tryz.prog 235 #[.slice (some ⟨b,h,none⟩) n c] w fun e f=>∃l m,e=.returned (.tuple #[.slice l n m,.int .u64 0,.int .u64 (a:Nat),.int .i64 0])∧bH w.heap.size l (ar S)∧ac f l m (ar S)∧Below w.heap.size w f:=by
 have L:=aa H;have M:=aa I;have N:=aa K
 have V:(n:Int)≤64:=by omega
 have X:(2:Int)≤(n:Int):=by omega
 have Y:(n:Int)≤(c:Int):=by omega
 have F:¬(n:Int)=0:=by omega
 have e0:((n:Int)==0)=false:=by rw[beq_eq_false_iff_ne];exact F
 have e1:decide ((64:Int)<(n:Int))=false:=decide_eq_false (by omega)
 clear H I K
 go_enter Tryz.func235,Tryz.ntmps235
 go_wp2_with fail
 refine Calls.mono (uH L) ?_
 rintro e w1 ⟨rfl,t⟩
 have Z:=ah G t
 have O:=aa t
 clear L G t
 go_wp2_with fail
 go_quiet (fail)
 clear Z
 go_wp2_with fail
 have D:=aa (below_drewN (uH O) nq)
 clear O
 refine(uH M _ (uH D)).mono ?_
 rintro e w2 ⟨rfl,z⟩
 have y:=aa ((uH D).trans (z.mono (uH D).size))
 clear M D z
 go_wp2_with fail
 refine(uH N _ (uH y)).mono ?_
 rintro e w3 ⟨l,m,rfl,Q,U,A⟩
 have B4:=aa ((uH y).trans (A.mono (uH y).size))
 have HN:=aa (bH.least Q (uH y).size)
 have HS:=aa U
 clear N y A Q U
 go_wp2
 exact bodyPost_ret (v:=.tuple #[.slice l n m,.int .u64 0,.int .u64 (a:Nat),.int .i64 0]) (by simp[results,Tryz.results235,go_sem]) rfl ⟨l,m,rfl,uH HN,uH HS,uH B4⟩
theorem tO(b y n c a m A d:Nat)(w:World)(h1:2≤n)(h2:n≤64)(hc:n≤c)(hm:¬m=0)(D:A<18446744073709551616)(N:d<18446744073709551616)
  (O:w.cell? ⟨b,y,none⟩=some (.int .u64 (a:Nat)))
  (Q:Calls Tryz.prog 153 #[.slice (some ⟨b,y,none⟩) n c] w fun e l=>e=.returned (.bool true)∧Below w.heap.size w l)
  (U:∀h,Below w.heap.size w h→Calls Tryz.prog 59 #[.slice (some ⟨b,y+1,none⟩) (n-1) (n-1)] h fun e l=>e=.returned (.int .u64 (m:Nat))∧Below h.heap.size h l)
  (V:∀h,Below w.heap.size w h→Calls Tryz.prog 258 #[.slice (some ⟨b,y,none⟩) n c] h fun e l=>e=.returned (.int .u64 (A:Nat))∧Below h.heap.size h l)
  (X:∀h,Below w.heap.size w h→Calls Tryz.prog 164 #[.int .u64 a,.int .u64 A] h fun e l=>e=.returned (.int .u64 (d:Nat))∧Below h.heap.size h l)
  (Y:∀h ao,Below w.heap.size w h→ac h ao 2 [(A:Int),(d:Int)]→Calls Tryz.prog 153 #[.slice ao 2 2] h fun e l=>e=.returned (.bool false)∧Below h.heap.size h l):
  Calls Tryz.prog 235 #[.slice (some ⟨b,y,none⟩) n c] w fun e h=>e=.returned (.tuple #[.slice none 0 0,.int .u64 0,.int .u64 0,.int .i64 2])∧Below w.heap.size w h:=by
 have Z:=aa Q;have K2:=aa U;have K4:=aa V;have K5:=aa X;have K6:=aa Y
 have ae:(n:Int)≤64:=by omega
 have aj:(2:Int)≤(n:Int):=by omega
 have ak:(n:Int)≤(c:Int):=by omega
 have L:¬(n:Int)=0:=by omega
 have e0:((n:Int)==0)=false:=by rw[beq_eq_false_iff_ne];exact L
 have e1:decide ((64:Int)<(n:Int))=false:=decide_eq_false (by omega)
 have em:((m:Int)==0)=false:=by rw[beq_eq_false_iff_ne];omega
 have F:=aa D;have HD:=aa N
 clear D N
 clear Q U V X Y
 go_enter Tryz.func235,Tryz.ntmps235
 go_wp2_with fail
 refine Calls.mono (uH Z) ?_
 rintro e w1 ⟨rfl,t⟩
 have c0:=ah O t
 have B1:=aa t
 clear Z O t
 go_wp2_with fail
 go_quiet (fail)
 clear c0
 go_wp2_with fail
 have G:=aa (below_drewN (uH B1) nq)
 clear B1
 refine(uH K2 _ (uH G)).mono ?_
 rintro e w2 ⟨rfl,z⟩
 have H:=aa ((uH G).trans (z.mono (uH G).size))
 clear K2 G z
 go_wp2_with fail
 refine(uH K4 _ (uH H)).mono ?_
 rintro e w3 ⟨rfl,f⟩
 have I:=aa ((uH H).trans (f.mono (uH H).size))
 clear K4 H f
 go_wp2_with fail
 refine(uH K5 _ (uH I)).mono ?_
 rintro e w4 ⟨rfl,f⟩
 have M:=aa ((uH I).trans (f.mono (uH I).size))
 clear K5 I f
 go_wp2_with fail
 obtain⟨t,z,f⟩:=qf w4 A d (uH F) (uH HD)
 have K:=aa ((uH M).trans (z.mono (uH M).size))
 have CB:=aa f
 refine(uH K6 _ _ (uH K) t).mono ?_
 clear t z f
 rintro e w5 ⟨rfl,f⟩
 have B7:=aa ((uH K).trans (f.mono (uH K).size))
 have CD:=aa (ah (uH CB) f)
 clear K6 M K CB f F HD
 go_wp2
 exact bodyPost_ret (v:=.tuple #[.slice none 0 0,.int .u64 0,.int .u64 0,.int .i64 2]) (by simp[results,Tryz.results235,go_sem]) rfl ⟨rfl,uH B7⟩
theorem Ds(b y n c a m F d u t:Nat)(w:World)(h1:2≤n)(h2:n≤64)(hc:n≤c)(hm:¬m=0)(H:F<18446744073709551616)(Z:d<18446744073709551616)
  (hx:w.cell? ⟨b,y,none⟩=some (.int .u64 (a:Nat)))
  (C1:Calls Tryz.prog 153 #[.slice (some ⟨b,y,none⟩) n c] w fun e l=>e=.returned (.bool true)∧Below w.heap.size w l)
  (C2:∀h,Below w.heap.size w h→Calls Tryz.prog 59 #[.slice (some ⟨b,y+1,none⟩) (n-1) (n-1)] h fun e l=>e=.returned (.int .u64 (m:Nat))∧Below h.heap.size h l)
  (C4:∀h,Below w.heap.size w h→Calls Tryz.prog 258 #[.slice (some ⟨b,y,none⟩) n c] h fun e l=>e=.returned (.int .u64 (F:Nat))∧Below h.heap.size h l)
  (C5:∀h,Below w.heap.size w h→Calls Tryz.prog 164 #[.int .u64 a,.int .u64 F] h fun e l=>e=.returned (.int .u64 (d:Nat))∧Below h.heap.size h l)
  (C6:∀h ao,Below w.heap.size w h→ac h ao 2 [(F:Int),(d:Int)]→Calls Tryz.prog 153 #[.slice ao 2 2] h fun e l=>e=.returned (.bool true)∧Below h.heap.size h l)
  (S:List Nat)
  (C7:∀h g,Below w.heap.size w h→h.cell? ⟨g,0,none⟩=some (.int .u64 (d:Nat))→Calls Tryz.prog 256 #[.slice (some ⟨b,y+1,none⟩) (n-1) (n-1),.func (.func 259) #[] #[.pointer (some ⟨g,0,none⟩)]] h fun e l=>∃D G,e=.returned (.slice D n G)∧bH h.heap.size D (ar S)∧ac l D G (ar S)∧Below h.heap.size h l)
  (C8:∀h,Below w.heap.size w h→Calls Tryz.prog 164 #[.int .u64 F,.int .u64 a] h fun e l=>e=.returned (.int .u64 (u:Nat))∧Below h.heap.size h l)
  (C9:∀h,Below w.heap.size w h→Calls Tryz.prog 166 #[.int .u64 u,.int .u64 F] h fun e l=>e=.returned (.int .u64 (t:Nat))∧Below h.heap.size h l):
  Calls Tryz.prog 235 #[.slice (some ⟨b,y,none⟩) n c] w fun e h=>∃D G,e=.returned (.tuple #[.slice D n G,.int .u64 (t:Nat),.int .u64 (F:Nat),.int .i64 0])∧bH w.heap.size D (ar S)∧ac h D G (ar S)∧Below w.heap.size w h:=by
 have K1:=aa C1;have K2:=aa C2;have K4:=aa C4;have K5:=aa C5;have K6:=aa C6;have K7:=aa C7;have K8:=aa C8;have K9:=aa C9
 have ae:(n:Int)≤64:=by omega
 have aj:(2:Int)≤(n:Int):=by omega
 have ak:(n:Int)≤(c:Int):=by omega
 have X:¬(n:Int)=0:=by omega
 have e0:((n:Int)==0)=false:=by rw[beq_eq_false_iff_ne];exact X
 have e1:decide ((64:Int)<(n:Int))=false:=decide_eq_false (by omega)
 have em:((m:Int)==0)=false:=by rw[beq_eq_false_iff_ne];omega
 have I:=aa H;have HD:=aa Z
 clear H Z
 clear C1 C2 C4 C5 C6 C7 C8 C9
 go_enter Tryz.func235,Tryz.ntmps235
 go_wp2_with fail
 refine Calls.mono (uH K1) ?_
 rintro e w1 ⟨rfl,z⟩
 have c0:=ah hx z
 have B1:=aa z
 clear K1 hx z
 go_wp2_with fail
 go_quiet (fail)
 clear c0
 go_wp2_with fail
 have M:=aa (below_drewN (uH B1) nq)
 clear B1
 refine(uH K2 _ (uH M)).mono ?_
 rintro e w2 ⟨rfl,A⟩
 have N:=aa ((uH M).trans (A.mono (uH M).size))
 clear K2 M A
 go_wp2_with fail
 refine(uH K4 _ (uH N)).mono ?_
 rintro e w3 ⟨rfl,f⟩
 have O:=aa ((uH N).trans (f.mono (uH N).size))
 clear K4 N f
 go_wp2_with fail
 refine(uH K5 _ (uH O)).mono ?_
 rintro e w4 ⟨rfl,f⟩
 have Y:=aa ((uH O).trans (f.mono (uH O).size))
 clear K5 O f
 go_wp2_with fail
 obtain⟨z,A,f⟩:=qf w4 F d (uH I) (uH HD)
 have Q:=aa ((uH Y).trans (A.mono (uH Y).size))
 have CB:=aa f
 refine(uH K6 _ _ (uH Q) z).mono ?_
 clear z A f
 rintro e w5 ⟨rfl,f⟩
 have K:=aa ((uH Q).trans (f.mono (uH Q).size))
 have CD:=aa (ah (uH CB) f)
 clear K6 Y Q CB f I HD
 go_wp2_with fail
 refine(uH K7 _ _ (uH K) (uH CD)).mono ?_
 rintro e w6 ⟨D,G,rfl,hn,hs,f⟩
 have U:=aa ((uH K).trans (f.mono (uH K).size))
 have HN:=aa (bH.least hn (uH K).size)
 have L:=aa hs
 clear K7 K f hn hs CD
 go_wp2_with fail
 refine(uH K8 _ (uH U)).mono ?_
 rintro e w7 ⟨rfl,f⟩
 have V:=aa ((uH U).trans (f.mono (uH U).size))
 replace L:=aa ((uH L).below f)
 clear K8 U f
 go_wp2_with fail
 refine(uH K9 _ (uH V)).mono ?_
 rintro e w8 ⟨rfl,f⟩
 have BA:=aa ((uH V).trans (f.mono (uH V).size))
 replace L:=aa ((uH L).below f)
 clear K9 V f
 go_wp2
 exact bodyPost_ret (v:=.tuple #[.slice D n G,.int .u64 (t:Nat),.int .u64 (F:Nat),.int .i64 0]) (by simp[results,Tryz.results235,go_sem]) rfl ⟨D,G,rfl,uH HN,uH L,uH BA⟩
end Go.Proofs.YtlnphkioddknfaaGreatDoor
