/- Part 12 of the texts. -/
import Derived.Test.YtnnfjeieennffaaGreatDoorPartc11
set_option maxHeartbeats 4000000
namespace Go.Proofs.YtnnfjeieennffaaGreatDoor
open Go.RowKit
attribute [local go_sem ↓] Go.wp_at_zero Go.wp_at_succ
def qA(n y:Int):Bool:=if n=0 then decide (y=0)else(decide (n%2=1)&&decide (-16384≤y∧y≤16384))
theorem aG.parts{w:World}{v:Value}{m e:Int}(h:aG w v m e):
  ∃(neg:Bool) (f:Option Addr) (d:Nat) (L:List Nat),v=.agg #[.bool neg,.slice f L.length d,.int .i64 e]∧ag w f d L∧bN L∧neg=decide (m<0)∧ak L=m.natAbs∧L.length≤35184372088832:=by
 obtain⟨neg,f,d,L,rfl,K,M,N,t,l,z,O,A,D,F,G⟩:=h
 simp only[Value.agg.injEq,Array.mk.injEq,List.cons.injEq,Value.bool.injEq,Value.slice.injEq,and_true]at l
 obtain⟨rfl,rfl,H,rfl⟩:=l
 exact⟨neg,f,d,t,by rw[H],z,A,D,F,G⟩
theorem rZ(n:Int):(n.natAbs%2=1)↔(n%2=1):=by omega
theorem aG.right{w:World}{v:Value}{m e:Int}(h:aG w v m e)(O:m.natAbs<dE):
  ∃(neg:Bool) (l:Option Addr) (d:Nat) (L:List Nat),v=.agg #[.bool neg,.slice l L.length d,.int .i64 e]∧ag w l d L∧ar neg L=true∧af neg L=m∧L.length≤512∧j6 neg L e=qA m e:=by
 obtain⟨neg,l,d,L,rfl,t,A,F,f,X⟩:=h.parts
 have U:au 0 w (.agg #[.bool neg,.slice l L.length d]) m:=⟨neg,l,d,L,rfl,t,bG.zero t,A,F,f,X⟩
 have V:L.length≤512:=(dW L t.2.1 A).1 (by omega)
 have D:ar neg L=true:=by
  obtain⟨G,Y,H,K,M,Z,N,e4,e5⟩:=U.right O
  simp only[Value.agg.injEq,Array.mk.injEq,List.cons.injEq,Value.bool.injEq,Value.slice.injEq,and_true]at M
  obtain⟨rfl,rfl,o3,rfl⟩:=M
  have:L=K:=by
   refine rI L K t.2.1 Z.2.1 A (ay N).2.1 ?_
   rw[f,←e4,aP]
  rw[this];exact N
 refine⟨neg,l,d,L,rfl,t,D,jP F f,V,?_⟩
 unfold j6 qA
 rw[D,Bool.true_and,f]
 by_cases z:L.length=0
 ·have:m=0:=by
   have:L= []:=List.length_eq_zero_iff.1 z
   rw[this]at f;simp[ak]at f;omega
  rw[if_pos z,if_pos this]
 ·have:m≠0:=fun Q=>z (by
   have:L= []:=(aK L A).1 (by rw[f,Q];rfl)
   rw[this];rfl)
  rw[if_neg z,if_neg this]
  congr 1
  rw[decide_eq_decide]
  exact rZ m
theorem aG.num{w:World}{v:Value}{m e:Int}(h:aG w v m e):
  ∃(neg:Bool) (f:Option Addr) (d:Nat) (L:List Nat),v=.agg #[.bool neg,.slice f L.length d,.int .i64 e]∧au 0 w (.agg #[.bool neg,.slice f L.length d]) m:=h
end Go.Proofs.YtnnfjeieennffaaGreatDoor
namespace Go.Proofs.YtnnfjeieennffaaGreatDoor
open Go.RowKit
theorem wx(z:Int):(oM z).natAbs≤z.natAbs:=by
 by_cases h:z=0
 ·subst h;simp[oM]
 ·have d:=fL z h
  have f:z.natAbs=(oM z).natAbs*2^tz z.natAbs:=by
   conv=>lhs;rw[d.1]
   rw[Int.natAbs_mul,Int.natAbs_pow]
   rfl
  rw[f]
  exact Nat.le_mul_of_pos_right _ (Nat.pow_pos (by decide))
theorem cu:oM 0=0:=by simp[oM]
theorem cS(e:Int):oE 0 e=0:=by simp[oE]
theorem gI(z:Int)(h:z≠0):oM z≠0∧oM z%2=1:=by
 have d:=(fL z h).2
 exact⟨fun e=>by rw[e]at d;simp at d,d⟩
theorem dJ(z e:Int)(h:z≠0):oE z e=e+tz z.natAbs:=by unfold oE;rw[if_neg h]
theorem Gv(z e:Int)(d:-32768≤e∧e≤32768):qA (oM z) (oE z e)=k9 z e:=by
 unfold k9 qA
 rw[decide_eq_true d,Bool.true_and]
 by_cases h:z=0
 ·subst h
  rw[cu,cS];simp
 ·obtain⟨f,l⟩:=gI z h
  rw[if_neg f,decide_eq_true l,dJ z e h,decide_eq_false h]
  simp
theorem xH(z e:Int)(d:-32768≤e∧e≤32768):
  (qA (oM z) (oE z e)=true→cR z e=0∧dM z e=oM z∧dX z e=oE z e)∧(qA (oM z) (oE z e)=false→cR z e=2∧dM z e=0∧dX z e=0):=by
 rw[Gv z e d]
 constructor<;>intro h<;>simp[cR,dM,dX,h]
attribute [local go_sem ↓] Go.wp_at_zero Go.wp_at_succ
def up(s x l:Int):Int:=s*2^(x-l).toNat
theorem r8(d:Bool)(A:List Nat)(n:Int)(h:0≤n):oY d A n=af d A*2^n.toNat:=by
 rw[mE,dC]
 unfold nk
 rw[if_pos h]
 unfold sg
 cases d
 ·simp
 ·simp[Int.neg_mul]
def eM(s x l:Int):Int:=if(up s x l).natAbs<dE∧x-l≤16384 then 0 else 2
def F7(s x l:Int):Int:=if(up s x l).natAbs<dE∧x-l≤16384 then up s x l else 0
theorem kp(d:Bool)(A:List Nat)(x l:Int)(t:ar d A=true)(h:l≤x):ur d A (x-l)=eM (af d A) x l∧rW d A (x-l)=F7 (af d A) x l:=by
 unfold ur rW k8 eM F7
 rw[t,r8 d A (x-l) (by omega)]
 change (if(true&&decide (-16384≤x-l∧x-l≤16384))=true then bu (up (af d A) x l)else if true=true then 2 else 1)=_∧(if(true&&decide (-16384≤x-l∧x-l≤16384))=true then dG (up (af d A) x l)else 0)=_
 rw[Bool.true_and]
 by_cases m:x-l≤16384
 ·rw[if_pos (decide_eq_true (show-16384≤x-l∧x-l≤16384 by omega)),if_pos (decide_eq_true (show-16384≤x-l∧x-l≤16384 by omega))]
  unfold bu dG
  by_cases f:(up (af d A) x l).natAbs<dE
  ·rw[if_pos f,if_pos f,if_pos ⟨f,m⟩,if_pos ⟨f,m⟩];exact⟨rfl,rfl⟩
  ·rw[if_neg f,if_neg f,if_neg (fun h=>f h.1),if_neg (fun h=>f h.1)];exact⟨rfl,rfl⟩
 ·have z:decide (-16384≤x-l∧x-l≤16384)=false:=decide_eq_false (by omega)
  rw[z,if_neg (show¬((up (af d A) x l).natAbs<dE∧x-l≤16384)from fun h=>m h.2),if_neg (show¬((up (af d A) x l).natAbs<dE∧x-l≤16384)from fun h=>m h.2)]
  exact⟨by simp,by simp⟩
theorem r9(s x l:Int):(eM s x l=0∧F7 s x l=up s x l)∨eM s x l=2:=by
 unfold eM F7
 by_cases h:(up s x l).natAbs<dE∧x-l≤16384
 ·rw[if_pos h,if_pos h];exact .inl ⟨rfl,rfl⟩
 ·rw[if_neg h];exact .inr rfl
theorem au.put2{B:Nat}{w:World}{v:Value}{x:Int}(h:au B w v x){p q:Addr}(l:p.block<B)(m:q.block<B)(u u':Value):au B ((w.setCell p u).setCell q u') v x:=by
 obtain⟨n,t,d,L,rfl,z,f,A⟩:=h
 exact⟨n,t,d,L,rfl,(z.store f l u).store f m u',f,A⟩
theorem bQ{w w':World}{B b:Nat}(h:Below B w w')(d:B≤b)(u u':Value):Below B w ((w'.setCell ⟨b,0,none⟩ u).setCell ⟨b,1,none⟩ u'):=
 (h.setCell d _).setCell d _
theorem Gw{w:World}{b c:Nat}{l m t z:Value}(A:aC w b l m)(D:aC w c t z)(d:b≠c)(u0 u1 f h:Value):
  aC ((((((w.setCell ⟨c,0,none⟩ f).setCell ⟨c,1,none⟩ h).setCell ⟨b,0,none⟩ u0).setCell ⟨b,1,none⟩ u1).setCell ⟨c,0,none⟩ f).setCell ⟨c,1,none⟩ h) b u0 u1∧
  aC ((((((w.setCell ⟨c,0,none⟩ f).setCell ⟨c,1,none⟩ h).setCell ⟨b,0,none⟩ u0).setCell ⟨b,1,none⟩ u1).setCell ⟨c,0,none⟩ f).setCell ⟨c,1,none⟩ h) c f h:=
 ⟨((((A.other (p:=⟨c,0,none⟩) d f).other (p:=⟨c,1,none⟩) d h).put u0 u1).other (p:=⟨c,0,none⟩) d f).other (p:=⟨c,1,none⟩) d h,
  (((D.put f h).other (p:=⟨b,0,none⟩) (Ne.symm d) u0).other (p:=⟨b,1,none⟩) (Ne.symm d) u1).put f h⟩
theorem Gx{w:World}{b c:Nat}{l m t z:Value}(A:aC w b l m)(D:aC w c t z)(d:b≠c)(u0 u1 f h:Value):
  aC ((((((w.setCell ⟨b,0,none⟩ u0).setCell ⟨b,1,none⟩ u1).setCell ⟨b,0,none⟩ u0).setCell ⟨b,1,none⟩ u1).setCell ⟨c,0,none⟩ f).setCell ⟨c,1,none⟩ h) b u0 u1∧
  aC ((((((w.setCell ⟨b,0,none⟩ u0).setCell ⟨b,1,none⟩ u1).setCell ⟨b,0,none⟩ u0).setCell ⟨b,1,none⟩ u1).setCell ⟨c,0,none⟩ f).setCell ⟨c,1,none⟩ h) c f h:=
 ⟨(((A.put u0 u1).put u0 u1).other (p:=⟨c,0,none⟩) d f).other (p:=⟨c,1,none⟩) d h,
  ((((D.other (p:=⟨b,0,none⟩) (Ne.symm d) u0).other (p:=⟨b,1,none⟩) (Ne.symm d) u1).other (p:=⟨b,0,none⟩) (Ne.symm d) u0).other (p:=⟨b,1,none⟩) (Ne.symm d) u1).put f h⟩
def Gy(w':World)(r:Ending)(ea eb za zb:Int):Prop:=
 ∃(n1:Bool) (a1:Option Addr) (l1 c1:Nat) (n2:Bool) (a2:Option Addr) (l2 c2:Nat) (er:Int),r=.returned (.tuple #[.agg #[.bool n1,.slice a1 l1 c1],.agg #[.bool n2,.slice a2 l2 c2],.int .i64 er])∧(ea=0→eb=0→er=0∧au 0 w' (.agg #[.bool n1,.slice a1 l1 c1]) za∧au 0 w' (.agg #[.bool n2,.slice a2 l2 c2]) zb)∧(¬(ea=0∧eb=0)→er=2)
theorem xI(f d:Bool)(M K:Option Addr)(N L:Nat)(A B:List Nat)(x y l:Int)(w:World)(hA:ag w M N A)(hB:ag w K L B)(ra:ar f A=true)(rb:ar d B=true)(bx:-16384≤x∧x≤16384)(a3:-16384≤y∧y≤16384)(hl:l=min x y):
  Calls Tryz.prog 223 #[.agg #[.bool f,.slice M A.length N,.int .i64 x],.agg #[.bool d,.slice K B.length L,.int .i64 y]] w fun r w'=>Gy w' r (eM (af f A) x l) (eM (af d B) y l) (up (af f A) x l) (up (af d B) y l)∧Below w.heap.size w w':=by
 have la:=(ay ra).1
 have lb:=(ay rb).1
 have ae:l≤x:=by omega
 have aj:l≤y:=by omega
 have CA:=aa (fun n w' h (e:n=x-l)=>show Calls Tryz.prog 198 #[.agg #[.bool f,.slice M A.length N],.int .i64 n] w' fun e O=>∃v,e=.returned (.tuple #[v,.int .i64 (eM (af f A) x l)])∧au w'.heap.size O v (F7 (af f A) x l)∧Below w'.heap.size w' O by
  have:=gW f M N A n w' h (by omega) (by omega)
  rwa[e,(kp f A x l ra ae).1,(kp f A x l ra ae).2,←e]at this)
 have CB:=aa (fun n w' h (e:n=y-l)=>show Calls Tryz.prog 198 #[.agg #[.bool d,.slice K B.length L],.int .i64 n] w' fun e O=>∃v,e=.returned (.tuple #[v,.int .i64 (eM (af d B) y l)])∧au w'.heap.size O v (F7 (af d B) y l)∧Below w'.heap.size w' O by
  have:=gW d K L B n w' h (by omega) (by omega)
  rwa[e,(kp d B y l rb aj).1,(kp d B y l rb aj).2,←e]at this)
 have HA:=aa (r9 (af f A) x l)
 have HB:=aa (r9 (af d B) y l)
 have HL:=aa hl
 clear hl ra rb ae aj
 generalize eM (af f A) x l=ea at*
 generalize eM (af d B) y l=eb at*
 generalize F7 (af f A) x l=ua at*
 generalize F7 (af d B) y l=ub at*
 generalize up (af f A) x l=za at*
 generalize up (af d B) y l=zb at*
 obtain⟨a6,a7⟩:=bx
 obtain⟨a9,ba⟩:=a3
 have aI:Below w.heap.size w ((((w.alloc (.cells #[.bool f,.slice M A.length N,.int .i64 x] 52)).alloc (.cells #[.bool d,.slice K B.length L,.int .i64 y] 52)).alloc (.cells #[.bool false,.slice none 0 0] 50)).alloc (.cells #[.bool false,.slice none 0 0] 50)):=
  ((((Below.refl _ _).alloc (Nat.le_refl _) _).alloc (by simp) _).alloc (by simp;omega) _).alloc (by simp;omega) _
 have U:aB ((((w.alloc (.cells #[.bool f,.slice M A.length N,.int .i64 x] 52)).alloc (.cells #[.bool d,.slice K B.length L,.int .i64 y] 52)).alloc (.cells #[.bool false,.slice none 0 0] 50)).alloc (.cells #[.bool false,.slice none 0 0] 50)) (w.heap.size+1) (.bool d) (.slice K B.length L) (.int .i64 y):=by
  have:=((aB.new (w.alloc (.cells #[.bool f,.slice M A.length N,.int .i64 x] 52)) (.bool d) (.slice K B.length L) (.int .i64 y)).old (.cells #[.bool false,.slice none 0 0] 50)).old (.cells #[.bool false,.slice none 0 0] 50)
  simpa using this
 have Q:aC ((((w.alloc (.cells #[.bool f,.slice M A.length N,.int .i64 x] 52)).alloc (.cells #[.bool d,.slice K B.length L,.int .i64 y] 52)).alloc (.cells #[.bool false,.slice none 0 0] 50)).alloc (.cells #[.bool false,.slice none 0 0] 50)) (w.heap.size+1+1) (.bool false) (.slice none 0 0):=by
  have:=(aC.new ((w.alloc (.cells #[.bool f,.slice M A.length N,.int .i64 x] 52)).alloc (.cells #[.bool d,.slice K B.length L,.int .i64 y] 52)) (.bool false) (.slice none 0 0)).old (.cells #[.bool false,.slice none 0 0] 50)
  simpa using this
 have x3:aC ((((w.alloc (.cells #[.bool f,.slice M A.length N,.int .i64 x] 52)).alloc (.cells #[.bool d,.slice K B.length L,.int .i64 y] 52)).alloc (.cells #[.bool false,.slice none 0 0] 50)).alloc (.cells #[.bool false,.slice none 0 0] 50)) (w.heap.size+1+1+1) (.bool false) (.slice none 0 0):=by
  have:=aC.new (((w.alloc (.cells #[.bool f,.slice M A.length N,.int .i64 x] 52)).alloc (.cells #[.bool d,.slice K B.length L,.int .i64 y] 52)).alloc (.cells #[.bool false,.slice none 0 0] 50)) (.bool false) (.slice none 0 0)
  simpa using this
 have B0:=aa aI;have X1:=aa U;have X2:=aa Q;have X3:=aa x3
 clear aI U Q x3
 rcases(show x<y∨x=y∨y<x by omega)with ax|ax|ax
 all_goals
  first|subst ax|skip
  go_enter Tryz.func223,Tryz.ntmps223
  go_wp2_with fail
  refine(uH CA _ _ (hA.below (uH B0)) (by have:=uH HL;omega)).mono ?_
  rintro r w1 ⟨v1,rfl,⟨m,t,z,D,rfl,i1⟩,G⟩
  have U:=(uH X1).all G;have Q:=(uH X2).all G;have x3:=(uH X3).all G
  have b1:=(uH B0).trans (G.mono (uH B0).size)
  have hs:w.heap.size+4≤w1.heap.size:=by have:=G.size;simp at this;omega
  have a0:au (w.heap.size+4) w1 (.agg #[.bool m,.slice t D.length z]) ua:=by
   refine au.mono ⟨m,t,z,D,rfl,i1⟩ (by simp)
  have p0:=U.c0;have p1:=U.c1;have p2:=U.c2
  have q0:=Q.c0;have q1:=Q.c1;have f0:=Q.free 0;have f1:=Q.free 1
  have a4:=aa U;have am:=aa Q;have F:=aa x3;have B1:=aa b1;have I1:=aa a0
  clear G U Q x3 b1 i1 a0 X1 X2 X3 B0
  have s0:=(uH F).c0;have s1:=(uH F).c1;have g0:=(uH F).free 0;have g1:=(uH F).free 1
  rcases uH HA with⟨rfl,hu⟩|rfl
  ·have HU:=aa hu
   clear HA CA hu
   go_wp2_with fail
   have b2:=bQ (uH B1) (show w.heap.size≤w.heap.size+1+1 by omega) (.bool m) (.slice t D.length z)
   refine(uH CB _ _ (hB.below b2) (by have:=uH HL;omega)).mono ?_
   rintro r w2 ⟨v2,rfl,⟨Y,Z,c2,L2,rfl,i2⟩,H⟩
   have a5:w.heap.size+4≤w2.heap.size:=by have:=H.size;simp at this;omega
   have y2:=((uH am).put (.bool m) (.slice t D.length z)).all H
   have y3:=(((uH F).other (p:=⟨w.heap.size+1+1,0,none⟩) (by simp) (.bool m)).other (p:=⟨w.heap.size+1+1,1,none⟩) (by simp) (.slice t D.length z)).all H
   have b3:=b2.trans (H.mono b2.size)
   have j1:au (w.heap.size+4) w2 (.agg #[.bool m,.slice t D.length z]) ua:=((uH I1).put2 (p:=⟨w.heap.size+1+1,0,none⟩) (q:=⟨w.heap.size+1+1,1,none⟩) (by simp) (by simp) (.bool m) (.slice t D.length z)).below H
   have j2:au (w.heap.size+4) w2 (.agg #[.bool Y,.slice Z L2.length c2]) ub:=au.mono ⟨Y,Z,c2,L2,rfl,i2⟩ (by simp;omega)
   clear q0 q1 f0 f1 s0 s1 g0 g1 p0 p1 p2 a4 am F I1 B1 H i2 CB
   have q0:=y2.c0;have q1:=y2.c1;have f0:=y2.free 0;have f1:=y2.free 1
   have s0:=y3.c0;have s1:=y3.c1;have g0:=y3.free 0;have g1:=y3.free 1
   have B3:=aa b3;have J1:=aa j1;have J2:=aa j2
   have EE:=aa (fun u0 u1 v0 v1=>Gw y2 y3 (by omega) u0 u1 v0 v1)
   clear b2 b3 y2 y3 j1 j2
   rcases uH HB with⟨rfl,hv⟩|rfl
   ·have HV:=aa hv
    clear HB hv
    go_wp2
    go_region_with fail
    all_goals
     go_wp2
     obtain⟨V,X⟩:=uH EE (.bool m) (.slice t D.length z) (.bool Y) (.slice Z L2.length c2)
     have z0:=V.c0;have z1:=V.c1;have z2:=X.c0;have z3:=X.c1
     refine bodyPost_ret (v:=.tuple #[.agg #[.bool m,.slice t D.length z],.agg #[.bool Y,.slice Z L2.length c2],.int .i64 0]) (by simp[results,Tryz.results223,go_sem,z0,z1,z2,z3]) rfl ⟨⟨m,t,D.length,z,Y,Z,L2.length,c2,0,rfl,?_,?_⟩,?_⟩
     ·intro _ _
      rw[←uH HU,←uH HV]
      exact⟨rfl,((((((uH J1).put2 (by simp) (by simp) _ _).put2 (by simp) (by simp) _ _).put2 (by simp) (by simp) _ _).below ((Below.refl _ _).drew)).mono (Nat.zero_le _)),((((((uH J2).put2 (by simp) (by simp) _ _).put2 (by simp) (by simp) _ _).put2 (by simp) (by simp) _ _).below ((Below.refl _ _).drew)).mono (Nat.zero_le _))⟩
     ·intro h;exact absurd ⟨rfl,rfl⟩ h
     ·exact(bQ (bQ (bQ (uH B3) (by omega) _ _) (by omega) _ _) (by omega) _ _).drew
   ·clear HB
    go_wp2
    go_region_with fail
    all_goals
     go_wp2
     obtain⟨V,X⟩:=uH EE (.bool m) (.slice t D.length z) (.bool Y) (.slice Z L2.length c2)
     have z0:=V.c0;have z1:=V.c1;have z2:=X.c0;have z3:=X.c1
     refine bodyPost_ret (v:=.tuple #[.agg #[.bool m,.slice t D.length z],.agg #[.bool Y,.slice Z L2.length c2],.int .i64 2]) (by simp[results,Tryz.results223,go_sem,z0,z1,z2,z3]) rfl ⟨⟨m,t,D.length,z,Y,Z,L2.length,c2,2,rfl,?_,fun _=>rfl⟩,?_⟩
     ·intro _ h;exact absurd h (by decide)
     ·exact(bQ (bQ (bQ (uH B3) (by omega) _ _) (by omega) _ _) (by omega) _ _).drew
  ·clear HA HB CA CB
   go_wp2
   go_region_with fail
   all_goals
    go_wp2
    obtain⟨V,X⟩:=Gx (uH am) (uH F) (by omega) (.bool m) (.slice t D.length z) (.bool false) (.slice none 0 0)
    have z0:=V.c0;have z1:=V.c1;have z2:=X.c0;have z3:=X.c1
    refine bodyPost_ret (v:=.tuple #[.agg #[.bool m,.slice t D.length z],.agg #[.bool false,.slice none 0 0],.int .i64 2]) (by simp[results,Tryz.results223,go_sem,z0,z1,z2,z3]) rfl ⟨⟨m,t,D.length,z,false,none,0,0,2,rfl,?_,fun _=>rfl⟩,?_⟩
    ·intro h;exact absurd h (by decide)
    ·exact(bQ (bQ (bQ (uH B1) (by omega) _ _) (by omega) _ _) (by omega) _ _).drew
def bK(sa x sb y:Int):Int:=if sa=0 then y else if sb=0 then x else min x y
def dY(sa x sb y:Int):Int:=up sa x (bK sa x sb y)+up sb y (bK sa x sb y)
def kq(sa x sb y:Int):Bool:=decide (eM sa x (bK sa x sb y)=0∧eM sb y (bK sa x sb y)=0∧(dY sa x sb y).natAbs<dE)
def se(sa x sb y:Int):Int:=if kq sa x sb y then cR (dY sa x sb y) (bK sa x sb y)else 2
def sf(sa x sb y:Int):Int:=if kq sa x sb y then dM (dY sa x sb y) (bK sa x sb y)else 0
def si(sa x sb y:Int):Int:=if kq sa x sb y then dX (dY sa x sb y) (bK sa x sb y)else 0
def mu(w':World)(r:Ending)(er m e:Int):Prop:=∃v,r=.returned (.tuple #[v,.int .i64 er])∧aG w' v m e
theorem aJ{n:Bool}{L:List Nat}(h:ar n L=true):af n L=0↔L.length=0:=by
 have d:=(ay h).2.1
 constructor
 ·intro e
  have:ak L=0:=by rw[←aP n L,e];rfl
  rw[(aK L d).1 this];rfl
 ·intro e
  have:L= []:=List.length_eq_zero_iff.1 e
  rw[this,gT]
theorem nz{w:World}{l:Option Addr}{d:Nat}{n:Bool}{L:List Nat}(h:ag w l d L)(f:ar n L=true):(af n L).natAbs<dE:=by
 rw[aP];exact(dW L h.2.1 (ay f).2.1).2 (ay f).1
theorem fU(x l:Int):up 0 x l=0:=by simp[up]
theorem mH(s x:Int):up s x x=s:=by simp[up]
theorem ir(s x l:Int)(d:(up s x l).natAbs<dE)(f:x-l≤16384):eM s x l=0:=by unfold eM;rw[if_pos ⟨d,f⟩]
theorem kr{s x l:Int}(h:eM s x l=0):(up s x l).natAbs<dE:=by
 unfold eM at h
 by_cases d:(up s x l).natAbs<dE∧x-l≤16384
 ·exact d.1
 ·rw[if_neg d]at h;exact absurd h (by decide)
theorem nA(d y:Int)(t:-16384≤y∧y≤16384)(h:d.natAbs<dE):se 0 0 d y=cR d y∧sf 0 0 d y=dM d y∧si 0 0 d y=dX d y:=by
 have f:bK 0 0 d y=y:=by simp[bK]
 have l:dY 0 0 d y=d:=by unfold dY;rw[f,fU,mH];omega
 have m:kq 0 0 d y=true:=by
  unfold kq
  rw[f,l]
  exact decide_eq_true ⟨ir _ _ _ (by rw[fU];exact mG) (by omega),ir _ _ _ (by rw[mH];exact h) (by omega),h⟩
 unfold se sf si
 rw[m,f,l]
 exact⟨rfl,rfl,rfl⟩
theorem nB(d x:Int)(z:-16384≤x∧x≤16384)(h:d.natAbs<dE)(m:d≠0):se d x 0 0=cR d x∧sf d x 0 0=dM d x∧si d x 0 0=dX d x:=by
 have f:bK d x 0 0=x:=by simp[bK,m]
 have l:dY d x 0 0=d:=by unfold dY;rw[f,fU,mH];omega
 have t:kq d x 0 0=true:=by
  unfold kq
  rw[f,l]
  exact decide_eq_true ⟨ir _ _ _ (by rw[mH];exact h) (by omega),ir _ _ _ (by rw[fU];exact mG) (by omega),h⟩
 unfold se sf si
 rw[t,f,l]
 exact⟨rfl,rfl,rfl⟩
theorem iw(d x f y:Int)(h:d≠0)(l:f≠0):bK d x f y=min x y:=by unfold bK;rw[if_neg h,if_neg l]
theorem Ab(d x f y l z:Int)(A:bK d x f y=l)(D:dY d x f y=z):
  (eM d x l=0∧eM f y l=0∧z.natAbs<dE∧se d x f y=cR z l∧sf d x f y=dM z l∧si d x f y=dX z l)∨
  (eM d x l=0∧eM f y l=0∧¬z.natAbs<dE∧se d x f y=2∧sf d x f y=0∧si d x f y=0)∨
  (¬(eM d x l=0∧eM f y l=0)∧se d x f y=2∧sf d x f y=0∧si d x f y=0):=by
 unfold se sf si kq
 rw[A,D]
 by_cases m:eM d x l=0∧eM f y l=0
 ·by_cases t:z.natAbs<dE
  ·left
   rw[decide_eq_true (show eM d x l=0∧eM f y l=0∧z.natAbs<dE from⟨m.1,m.2,t⟩)]
   exact⟨m.1,m.2,t,rfl,rfl,rfl⟩
  ·right;left
   rw[decide_eq_false (show¬(eM d x l=0∧eM f y l=0∧z.natAbs<dE)from fun h=>t h.2.2)]
   exact⟨m.1,m.2,t,rfl,rfl,rfl⟩
 ·right;right
  rw[decide_eq_false (show¬(eM d x l=0∧eM f y l=0∧z.natAbs<dE)from fun h=>m ⟨h.1,h.2.1⟩)]
  exact⟨m,rfl,rfl,rfl⟩
theorem qB(F G:Bool)(ao bo:Option Addr)(ca cb:Nat)(A B:List Nat)(x y:Int)(w:World)(hA:ag w ao ca A)(hB:ag w bo cb B)(ra:ar F A=true)(rb:ar G B=true)(bx:-16384≤x∧x≤16384)(ba:-16384≤y∧y≤16384)(zx:A.length=0→x=0)(zy:B.length=0→y=0)(hT:cC w):
  Calls Tryz.prog 221 #[.agg #[.bool F,.slice ao A.length ca,.int .i64 x],.agg #[.bool G,.slice bo B.length cb,.int .i64 y]] w fun r w'=>mu w' r (se (af F A) x (af G B) y) (sf (af F A) x (af G B) y) (si (af F A) x (af G B) y)∧Below w.heap.size w w':=by
 have ta:=nz hA ra
 have tb:=nz hB rb
 have bb:=aa (show A.length=0→se (af F A) x (af G B) y=cR (af G B) y∧sf (af F A) x (af G B) y=dM (af G B) y∧si (af F A) x (af G B) y=dX (af G B) y from fun h=>by
  have:=(aJ ra).2 h
  rw[this,zx h];exact nA _ _ ba tb)
 have bc:=aa (show A.length≠0→B.length=0→se (af F A) x (af G B) y=cR (af F A) x∧sf (af F A) x (af G B) y=dM (af F A) x∧si (af F A) x (af G B) y=dX (af F A) x from fun V h=>by
  have:=(aJ rb).2 h
  rw[this,zy h];exact nB _ _ bx ta (fun e=>V ((aJ ra).1 e)))
 have HL:=aa (show A.length≠0→B.length≠0→bK (af F A) x (af G B) y=min x y from fun V h=>iw _ _ _ _ (fun e=>V ((aJ ra).1 e)) (fun e=>h ((aJ rb).1 e)))
 obtain⟨l,hl⟩:∃l,bK (af F A) x (af G B) y=l:=⟨_,rfl⟩
 obtain⟨z,hz⟩:∃z,dY (af F A) x (af G B) y=z:=⟨_,rfl⟩
 have HW:=aa (Ab _ _ _ _ l z hl hz)
 have a9:=aa (show z=up (af F A) x l+up (af G B) y l by rw[←hz,←hl];rfl)
 rw[hl]at HL
 have bn:=aa (fun w' h t=>iq G bo cb B y w' h rb (by omega) t)
 have be:=aa (fun w' h t=>iq F ao ca A x w' h ra (by omega) t)
 have a7:=aa (fun w' h h' e=>xI F G ao bo ca cb A B x y l w' h h' ra rb bx ba e)
 have K:=aa (fun w' u v (h1:eM (af F A) x l=0) (h2:eM (af G B) y l=0) (Y:au 0 w' u (up (af F A) x l)) (N:au 0 w' v (up (af G B) y l))=>DZ Y N (kr h1) (kr h2))
 rw[←uH a9]at K
 have Z:=aa (fun(X:z.natAbs<dE) e' w' u B' (he:e'=l) (Y:au B' w' u z) (t:cC w')=>show Calls Tryz.prog 180 #[u,.int .i64 e'] w' fun r bm=>∃v,r=.returned (.tuple #[v,.int .i64 (cR z l)])∧aG bm v (dM z l) (dX z l)∧Below w'.heap.size w' bm by
  subst he
  refine iU _ Y X ?_ t
  have:-16384≤e'∧e'≤16384:=by
   rw[←hl];unfold bK
   split
   ·omega
   ·split<;>omega
  omega)
 have aj:=aa (fun h:z.natAbs<dE=>And.intro (fh z h) (fi z h))
 have aI:=aa (fun h:¬z.natAbs<dE=>(show bu z=2 by unfold bu;rw[if_neg h]))
 clear hl hz ta tb ra rb zx zy a9
 obtain⟨b0,b3⟩:=bx
 obtain⟨b4,b5⟩:=ba
 generalize se (af F A) x (af G B) y=er at*
 generalize sf (af F A) x (af G B) y=am at*
 generalize si (af F A) x (af G B) y=ax at*
 generalize eM (af F A) x l=ea at*
 generalize eM (af G B) y l=eb at*
 generalize up (af F A) x l=za at*
 generalize up (af G B) y l=zb at*
 have bp:Below w.heap.size w (((w.alloc (.cells #[.bool F,.slice ao A.length ca,.int .i64 x] 52)).alloc (.cells #[.bool G,.slice bo B.length cb,.int .i64 y] 52)).alloc (.cells #[.bool false,.slice none 0 0,.int .i64 0] 52)):=
  (((Below.refl _ _).alloc (Nat.le_refl _) _).alloc (by simp) _).alloc (by simp;omega) _
 have Q:aB (((w.alloc (.cells #[.bool F,.slice ao A.length ca,.int .i64 x] 52)).alloc (.cells #[.bool G,.slice bo B.length cb,.int .i64 y] 52)).alloc (.cells #[.bool false,.slice none 0 0,.int .i64 0] 52)) w.heap.size (.bool F) (.slice ao A.length ca) (.int .i64 x):=((aB.new _ _ _ _).old _).old _
 have L:aB (((w.alloc (.cells #[.bool F,.slice ao A.length ca,.int .i64 x] 52)).alloc (.cells #[.bool G,.slice bo B.length cb,.int .i64 y] 52)).alloc (.cells #[.bool false,.slice none 0 0,.int .i64 0] 52)) (w.heap.size+1) (.bool G) (.slice bo B.length cb) (.int .i64 y):=by
  have:=(aB.new (w.alloc (.cells #[.bool F,.slice ao A.length ca,.int .i64 x] 52)) (.bool G) (.slice bo B.length cb) (.int .i64 y)).old (.cells #[.bool false,.slice none 0 0,.int .i64 0] 52)
  simpa using this
 have f:aB (((w.alloc (.cells #[.bool F,.slice ao A.length ca,.int .i64 x] 52)).alloc (.cells #[.bool G,.slice bo B.length cb,.int .i64 y] 52)).alloc (.cells #[.bool false,.slice none 0 0,.int .i64 0] 52)) (w.heap.size+1+1) (.bool false) (.slice none 0 0) (.int .i64 0):=by
  have:=aB.new ((w.alloc (.cells #[.bool F,.slice ao A.length ca,.int .i64 x] 52)).alloc (.cells #[.bool G,.slice bo B.length cb,.int .i64 y] 52)) (.bool false) (.slice none 0 0) (.int .i64 0)
  simpa using this
 have B0:=aa bp;have X0:=aa Q;have X1:=aa L;have X2:=aa f
 clear bp Q L f
 go_enter Tryz.func221,Tryz.ntmps221
 go_wp2_with fail
 refine(dk F ao ca A.length _).mono ?_
 by_cases V:A.length=0
 ·rw[decide_eq_true V]
  rintro r w1 ⟨rfl,d⟩
  obtain⟨rfl,rfl,rfl⟩:=uH bb V
  have L:=(uH X1).all d;have f:=(uH X2).all d
  have U:=(uH B0).trans (d.mono (uH B0).size)
  have q0:=L.c0;have q1:=L.c1;have q2:=L.c2
  have m:=aa f;have D:=aa U
  clear V bb bc HL HW be a7 K Z aj aI d L f U X0 X1 X2 B0
  go_wp2_with fail
  refine(uH bn _ (hB.below (uH D)) (hT.all (uH D))).mono ?_
  rintro r w2 ⟨v,rfl,N,d⟩
  obtain⟨n3,a3,c3,L3,rfl,i3⟩:=N.num
  have f:=(uH m).all d
  have b2:=(uH D).trans (d.mono (uH D).size)
  have y0:=f.c0;have y1:=f.c1;have y2:=f.c2;have f0:=f.free 0;have f1:=f.free 1;have f2:=f.free 2
  have X3:=aa f;have B2:=aa b2;have IV:=aa N
  clear f b2 d N i3
  go_wp2
  refine bodyPost_ret (v:=.tuple #[.agg #[.bool n3,.slice a3 L3.length c3,.int .i64 (dX (af G B) y)],.int .i64 (cR (af G B) y)]) (by simp[results,Tryz.results221,go_sem,y0,y1,y2]) rfl ⟨⟨_,rfl,(uH IV).put3 (uH X3) _ _ _⟩,aD (uH B2) (by omega) _ _ _⟩
 ·rw[decide_eq_false V]
  rintro r w1 ⟨rfl,d⟩
  have Q:=(uH X0).all d;have L:=(uH X1).all d;have f:=(uH X2).all d
  have U:=(uH B0).trans (d.mono (uH B0).size)
  have q0:=L.c0;have q1:=L.c1;have q2:=L.c2
  have M:=aa Q;have O:=aa L;have m:=aa f;have D:=aa U
  have a0:=aa (uH bc V);have bi:=aa (uH HL V)
  clear V bb bc HL bn d Q L f U X0 X1 X2 B0
  go_wp2_with fail
  refine(dk G bo cb B.length _).mono ?_
  by_cases V:B.length=0
  ·rw[decide_eq_true V]
   rintro r w2 ⟨rfl,d⟩
   obtain⟨rfl,rfl,rfl⟩:=uH a0 V
   have Q:=(uH M).all d;have f:=(uH m).all d
   have U:=(uH D).trans (d.mono (uH D).size)
   clear q0 q1 q2 M O m D
   have q0:=Q.c0;have q1:=Q.c1;have q2:=Q.c2
   have m:=aa f;have D:=aa U
   clear V a0 bi HW a7 K Z aj aI d Q f U
   go_wp2_with fail
   refine(uH be _ (hA.below (uH D)) (hT.all (uH D))).mono ?_
   rintro r w4 ⟨v,rfl,N,d⟩
   obtain⟨n3,a3,c3,L3,rfl,i3⟩:=N.num
   have f:=(uH m).all d
   have b2:=(uH D).trans (d.mono (uH D).size)
   have y0:=f.c0;have y1:=f.c1;have y2:=f.c2;have f0:=f.free 0;have f1:=f.free 1;have f2:=f.free 2
   have X3:=aa f;have B2:=aa b2;have IV:=aa N
   clear f b2 d N i3
   go_wp2
   refine bodyPost_ret (v:=.tuple #[.agg #[.bool n3,.slice a3 L3.length c3,.int .i64 (dX (af F A) x)],.int .i64 (cR (af F A) x)]) (by simp[results,Tryz.results221,go_sem,y0,y1,y2]) rfl ⟨⟨_,rfl,(uH IV).put3 (uH X3) _ _ _⟩,aD (uH B2) (by omega) _ _ _⟩
  ·rw[decide_eq_false V]
   rintro r w2 ⟨rfl,d⟩
   have Q:=(uH M).all d;have L:=(uH O).all d;have f:=(uH m).all d
   have U:=(uH D).trans (d.mono (uH D).size)
   have bq:=uH bi V
   clear q0 q1 q2 M O m D
   have p0:=Q.c0;have p1:=Q.c1;have p2:=Q.c2
   have q0:=L.c0;have q1:=L.c1;have q2:=L.c2
   have M:=aa Q;have O:=aa L;have m:=aa f;have D:=aa U;have bt:=aa bq
   clear V a0 bi be d Q L f U bq
   go_wp2_with fail
   refine(uH a7 _ (hA.below (uH D)) (hB.below (uH D)) (uH bt)).mono ?_
   rintro r w3 ⟨⟨n1,a1,l1,c1,n2,a2,l2,c2,ae,rfl,g1,g2⟩,d⟩
   have Q:=(uH M).all d;have L:=(uH O).all d;have f:=(uH m).all d
   have U:=(uH D).trans (d.mono (uH D).size)
   have G1:=aa g1;have G2:=aa g2
   clear p0 p1 p2 q0 q1 q2 M O m D a7 d g1 g2
   --the two boxes of what align answered
   have bA:Below w3.heap.size w3 ((w3.alloc (.cells #[.bool n1,.slice a1 l1 c1] 50)).alloc (.cells #[.bool n2,.slice a2 l2 c2] 50)):=((Below.refl _ _).alloc (Nat.le_refl _) _).alloc (by simp) _
   have M:=aa (Q.all bA);have O:=aa (L.all bA);have m:=aa (f.all bA);have D:=aa (U.trans (bA.mono U.size));have BA:=aa bA
   clear Q L f U bA
   rcases uH HW with⟨e1,e2,X,rfl,rfl,rfl⟩|⟨e1,e2,X,rfl,rfl,rfl⟩|⟨bE,rfl,rfl,rfl⟩
   ·obtain⟨rfl,Y,N⟩:=uH G1 e1 e2
    obtain⟨a6,bz⟩:=uH aj X
    have H:=aa (fun w' u v Y N=>uH K w' u v e1 e2 Y N)
    rw[a6,bz]at H
    have bv:=aa (uH Z X)
    have IU:=aa (Y.below (uH BA));have a5:=aa (N.below (uH BA))
    clear HW K Z aj aI G1 G2 e1 e2 X a6 bz Y N
    go_wp2_with fail
    refine(uH H _ _ _ (uH IU) (uH a5)).mono ?_
    rintro r w5 ⟨u,rfl,⟨n4,a4,c4,L4,rfl,i4⟩,d⟩
    have Q:=((uH M).all d).old (.cells #[.bool n4,.slice a4 L4.length c4] 50)
    have L:=((uH O).all d).old (.cells #[.bool n4,.slice a4 L4.length c4] 50)
    have f:=((uH m).all d).old (.cells #[.bool n4,.slice a4 L4.length c4] 50)
    have U:=((uH D).trans (d.mono (uH D).size)).alloc ((uH D).trans (d.mono (uH D).size)).size (.cells #[.bool n4,.slice a4 L4.length c4] 50)
    have iz:au 0 (w5.alloc (.cells #[.bool n4,.slice a4 L4.length c4] 50)) (.agg #[.bool n4,.slice a4 L4.length c4]) z:=au.mono (au.below ⟨n4,a4,c4,L4,rfl,i4⟩ ((Below.refl _ _).alloc (Nat.le_refl _) _)) (Nat.zero_le _)
    clear M O m D d i4 H IU a5 BA
    have p2:=Q.c2;have q2:=L.c2
    have m:=aa f;have D:=aa U;have IZ:=aa iz
    clear Q L f U iz
    rcases(show x<y∨x=y∨y<x by omega)with bj|bj|bj
    all_goals
     first|subst bj|skip
     go_wp2_with fail
     refine(uH bv _ _ _ _ (by have:=uH bt;omega) (uH IZ) (hT.all (uH D))).mono ?_
     rintro r w4 ⟨v,rfl,N,d⟩
     obtain⟨n3,a3,c3,L3,rfl,i3⟩:=N.num
     have f:=(uH m).all d
     have b2:=(uH D).trans (d.mono (uH D).size)
     have y0:=f.c0;have y1:=f.c1;have y2:=f.c2;have f0:=f.free 0;have f1:=f.free 1;have f2:=f.free 2
     have X3:=aa f;have B2:=aa b2;have IV:=aa N
     clear f b2 d N i3
     go_wp2
     refine bodyPost_ret (v:=.tuple #[.agg #[.bool n3,.slice a3 L3.length c3,.int .i64 (dX z l)],.int .i64 (cR z l)]) (by simp[results,Tryz.results221,go_sem,y0,y1,y2]) rfl ⟨⟨_,rfl,(uH IV).put3 (uH X3) _ _ _⟩,aD (uH B2) (by omega) _ _ _⟩
   ·obtain⟨rfl,Y,N⟩:=uH G1 e1 e2
    have a6:=uH aI X
    have H:=aa (fun w' u v Y N=>uH K w' u v e1 e2 Y N)
    rw[a6]at H
    have IU:=aa (Y.below (uH BA));have a5:=aa (N.below (uH BA))
    clear HW K Z aj aI G1 G2 e1 e2 X a6 Y N
    go_wp2_with fail
    refine(uH H _ _ _ (uH IU) (uH a5)).mono ?_
    rintro r w5 ⟨u,rfl,⟨n4,a4,c4,L4,rfl,i4⟩,d⟩
    have f:=((uH m).all d).old (.cells #[.bool n4,.slice a4 L4.length c4] 50)
    have U:=((uH D).trans (d.mono (uH D).size)).alloc ((uH D).trans (d.mono (uH D).size)).size (.cells #[.bool n4,.slice a4 L4.length c4] 50)
    have y0:=f.c0;have y1:=f.c1;have y2:=f.c2;have f0:=f.free 0;have f1:=f.free 1;have f2:=f.free 2
    have B2:=aa U
    clear M O m D d i4 H IU a5 BA f U
    go_wp2
    refine bodyPost_ret (v:=.tuple #[.agg #[.bool false,.slice none 0 0,.int .i64 0],.int .i64 (2)]) (by simp[results,Tryz.results221,go_sem,y0,y1,y2]) rfl ⟨⟨_,rfl,aG.zero _ _ _⟩,aD (uH B2) (by omega) _ _ _⟩
   ·have ha:=uH G2 bE
    subst ha
    have f:=uH m
    have y0:=f.c0;have y1:=f.c1;have y2:=f.c2;have f0:=f.free 0;have f1:=f.free 1;have f2:=f.free 2
    have B2:=D
    clear HW K Z aj aI G1 G2 bE f M O m BA D
    go_wp2
    refine bodyPost_ret (v:=.tuple #[.agg #[.bool false,.slice none 0 0,.int .i64 0],.int .i64 (2)]) (by simp[results,Tryz.results221,go_sem,y0,y1,y2]) rfl ⟨⟨_,rfl,aG.zero _ _ _⟩,aD (uH B2) (by omega) _ _ _⟩
theorem bR{neg:Bool}{L:List Nat}{e:Int}(h:j6 neg L e=true):ar neg L=true∧L.length≤512∧-16384≤e∧e≤16384∧(L.length=0→e=0):=by
 unfold j6 at h
 rw[Bool.and_eq_true]at h
 obtain⟨l,d⟩:=h
 refine⟨l,(ay l).1,?_⟩
 by_cases f:L.length=0
 ·rw[if_pos f]at d
  have:=of_decide_eq_true d
  omega
 ·rw[if_neg f,Bool.and_eq_true]at d
  have:=of_decide_eq_true d.2
  omega
end Go.Proofs.YtnnfjeieennffaaGreatDoor
