/- Part 12 of the texts. -/
import Derived.Test.YtlnphkioddknfaaGreatDoorParty11
set_option maxHeartbeats 4000000
namespace Go.Proofs.YtlnphkioddknfaaGreatDoor
open Go.RowKit
attribute [local go_sem ↓] Go.wp_at_zero Go.wp_at_succ
def qz(n y:Int):Bool:=if n=0 then decide (y=0)else(decide (n%2=1)&&decide (-16384≤y∧y≤16384))
theorem aG.parts{w:World}{v:Value}{m e:Int}(h:aG w v m e):
  ∃(neg:Bool) (ao:Option Addr) (cap:Nat) (L:List Nat),v=.agg #[.bool neg,.slice ao L.length cap,.int .i64 e]∧ag w ao cap L∧bP L∧neg=decide (m<0)∧an L=m.natAbs∧L.length≤35184372088832:=by
 obtain⟨neg,ao,cap,L,rfl,F,G,H,f,d,l,I,t,y,z,A⟩:=h
 simp only[Value.agg.injEq,Array.mk.injEq,List.cons.injEq,Value.bool.injEq,Value.slice.injEq,and_true]at d
 obtain⟨rfl,rfl,D,rfl⟩:=d
 exact⟨neg,ao,cap,f,by rw[D],l,t,y,z,A⟩
theorem rX(n:Int):(n.natAbs%2=1)↔(n%2=1):=by omega
theorem aG.right{w:World}{v:Value}{m e:Int}(h:aG w v m e)(I:m.natAbs<dy):
  ∃(neg:Bool) (ao:Option Addr) (cap:Nat) (L:List Nat),v=.agg #[.bool neg,.slice ao L.length cap,.int .i64 e]∧ag w ao cap L∧av neg L=true∧af neg L=m∧L.length≤512∧kn neg L e=qz m e:=by
 obtain⟨neg,ao,cap,L,rfl,f,t,z,d,O⟩:=h.parts
 have M:aw 0 w (.agg #[.bool neg,.slice ao L.length cap]) m:=⟨neg,ao,cap,L,rfl,f,bN.zero f,t,z,d,O⟩
 have N:L.length≤512:=(dR L f.2.1 t).1 (by omega)
 have y:av neg L=true:=by
  obtain⟨A,Q,D,F,G,U,H,V,X⟩:=M.right I
  simp only[Value.agg.injEq,Array.mk.injEq,List.cons.injEq,Value.bool.injEq,Value.slice.injEq,and_true]at G
  obtain⟨rfl,rfl,Y,rfl⟩:=G
  have:L=F:=by
   refine rH L F f.2.1 U.2.1 t (ay H).2.1 ?_
   rw[d,←V,aR]
  rw[this];exact H
 refine⟨neg,ao,cap,L,rfl,f,y,j4 z d,N,?_⟩
 unfold kn qz
 rw[y,Bool.true_and,d]
 by_cases l:L.length=0
 ·have:m=0:=by
   have:L= []:=List.length_eq_zero_iff.1 l
   rw[this]at d;simp[an]at d;omega
  rw[if_pos l,if_pos this]
 ·have:m≠0:=fun K=>l (by
   have:L= []:=(aL L t).1 (by rw[d,K];rfl)
   rw[this];rfl)
  rw[if_neg l,if_neg this]
  congr 1
  rw[decide_eq_decide]
  exact rX m
theorem aG.num{w:World}{v:Value}{m e:Int}(h:aG w v m e):
  ∃(neg:Bool) (ao:Option Addr) (cap:Nat) (L:List Nat),v=.agg #[.bool neg,.slice ao L.length cap,.int .i64 e]∧aw 0 w (.agg #[.bool neg,.slice ao L.length cap]) m:=h
end Go.Proofs.YtlnphkioddknfaaGreatDoor
namespace Go.Proofs.YtlnphkioddknfaaGreatDoor
open Go.RowKit
theorem wI(z:Int):(oM z).natAbs≤z.natAbs:=by
 by_cases h:z=0
 ·subst h;simp[oM]
 ·have d:=fG z h
  have f:z.natAbs=(oM z).natAbs*2^tz z.natAbs:=by
   conv=>lhs;rw[d.1]
   rw[Int.natAbs_mul,Int.natAbs_pow]
   rfl
  rw[f]
  exact Nat.le_mul_of_pos_right _ (Nat.pow_pos (by decide))
theorem cw:oM 0=0:=by simp[oM]
theorem cQ(e:Int):oE 0 e=0:=by simp[oE]
theorem gJ(z:Int)(h:z≠0):oM z≠0∧oM z%2=1:=by
 have d:=(fG z h).2
 exact⟨fun e=>by rw[e]at d;simp at d,d⟩
theorem dI(z e:Int)(h:z≠0):oE z e=e+tz z.natAbs:=by unfold oE;rw[if_neg h]
theorem GJ(z e:Int)(d:-32768≤e∧e≤32768):qz (oM z) (oE z e)=lh z e:=by
 unfold lh qz
 rw[decide_eq_true d,Bool.true_and]
 by_cases h:z=0
 ·subst h
  rw[cw,cQ];simp
 ·obtain⟨f,l⟩:=gJ z h
  rw[if_neg f,decide_eq_true l,dI z e h,decide_eq_false h]
  simp
theorem xT(z e:Int)(d:-32768≤e∧e≤32768):
  (qz (oM z) (oE z e)=true→cP z e=0∧dM z e=oM z∧dX z e=oE z e)∧(qz (oM z) (oE z e)=false→cP z e=2∧dM z e=0∧dX z e=0):=by
 rw[GJ z e d]
 constructor<;>intro h<;>simp[cP,dM,dX,h]
attribute [local go_sem ↓] Go.wp_at_zero Go.wp_at_succ
def up(s x l:Int):Int:=s*2^(x-l).toNat
theorem rY(d:Bool)(A:List Nat)(n:Int)(h:0≤n):oR d A n=af d A*2^n.toNat:=by
 rw[my,dr]
 unfold mY
 rw[if_pos h]
 unfold sg
 cases d
 ·simp
 ·simp[Int.neg_mul]
def eD(s x l:Int):Int:=if(up s x l).natAbs<dy∧x-l≤16384 then 0 else 2
def Gi(s x l:Int):Int:=if(up s x l).natAbs<dy∧x-l≤16384 then up s x l else 0
theorem ky(d:Bool)(A:List Nat)(x l:Int)(t:av d A=true)(h:l≤x):uw d A (x-l)=eD (af d A) x l∧rU d A (x-l)=Gi (af d A) x l:=by
 unfold uw rU lg eD Gi
 rw[t,rY d A (x-l) (by omega)]
 change (if(true&&decide (-16384≤x-l∧x-l≤16384))=true then bI (up (af d A) x l)else if true=true then 2 else 1)=_∧(if(true&&decide (-16384≤x-l∧x-l≤16384))=true then dz (up (af d A) x l)else 0)=_
 rw[Bool.true_and]
 by_cases m:x-l≤16384
 ·rw[if_pos (decide_eq_true (show-16384≤x-l∧x-l≤16384 by omega)),if_pos (decide_eq_true (show-16384≤x-l∧x-l≤16384 by omega))]
  unfold bI dz
  by_cases f:(up (af d A) x l).natAbs<dy
  ·rw[if_pos f,if_pos f,if_pos ⟨f,m⟩,if_pos ⟨f,m⟩];exact⟨rfl,rfl⟩
  ·rw[if_neg f,if_neg f,if_neg (fun h=>f h.1),if_neg (fun h=>f h.1)];exact⟨rfl,rfl⟩
 ·have y:decide (-16384≤x-l∧x-l≤16384)=false:=decide_eq_false (by omega)
  rw[y,if_neg (show¬((up (af d A) x l).natAbs<dy∧x-l≤16384)from fun h=>m h.2),if_neg (show¬((up (af d A) x l).natAbs<dy∧x-l≤16384)from fun h=>m h.2)]
  exact⟨by simp,by simp⟩
theorem rZ(s x l:Int):(eD s x l=0∧Gi s x l=up s x l)∨eD s x l=2:=by
 unfold eD Gi
 by_cases h:(up s x l).natAbs<dy∧x-l≤16384
 ·rw[if_pos h,if_pos h];exact .inl ⟨rfl,rfl⟩
 ·rw[if_neg h];exact .inr rfl
theorem aw.put2{B:Nat}{w:World}{v:Value}{x:Int}(h:aw B w v x){p q:Addr}(f:p.block<B)(l:q.block<B)(u u':Value):aw B ((w.setCell p u).setCell q u') v x:=by
 obtain⟨n,ao,cap,L,rfl,m,d,t⟩:=h
 exact⟨n,ao,cap,L,rfl,(m.store d f u).store d l u',d,t⟩
theorem bS{w d:World}{B b:Nat}(h:Below B w d)(f:B≤b)(u u':Value):Below B w ((d.setCell ⟨b,0,none⟩ u).setCell ⟨b,1,none⟩ u'):=
 (h.setCell f _).setCell f _
theorem GK{w:World}{b c:Nat}{l m t y:Value}(z:aA w b l m)(A:aA w c t y)(d:b≠c)(u0 u1 f h:Value):
  aA ((((((w.setCell ⟨c,0,none⟩ f).setCell ⟨c,1,none⟩ h).setCell ⟨b,0,none⟩ u0).setCell ⟨b,1,none⟩ u1).setCell ⟨c,0,none⟩ f).setCell ⟨c,1,none⟩ h) b u0 u1∧
  aA ((((((w.setCell ⟨c,0,none⟩ f).setCell ⟨c,1,none⟩ h).setCell ⟨b,0,none⟩ u0).setCell ⟨b,1,none⟩ u1).setCell ⟨c,0,none⟩ f).setCell ⟨c,1,none⟩ h) c f h:=
 ⟨((((z.other (p:=⟨c,0,none⟩) d f).other (p:=⟨c,1,none⟩) d h).put u0 u1).other (p:=⟨c,0,none⟩) d f).other (p:=⟨c,1,none⟩) d h,
  (((A.put f h).other (p:=⟨b,0,none⟩) (Ne.symm d) u0).other (p:=⟨b,1,none⟩) (Ne.symm d) u1).put f h⟩
theorem GM{w:World}{b c:Nat}{l m t y:Value}(z:aA w b l m)(A:aA w c t y)(d:b≠c)(u0 u1 f h:Value):
  aA ((((((w.setCell ⟨b,0,none⟩ u0).setCell ⟨b,1,none⟩ u1).setCell ⟨b,0,none⟩ u0).setCell ⟨b,1,none⟩ u1).setCell ⟨c,0,none⟩ f).setCell ⟨c,1,none⟩ h) b u0 u1∧
  aA ((((((w.setCell ⟨b,0,none⟩ u0).setCell ⟨b,1,none⟩ u1).setCell ⟨b,0,none⟩ u0).setCell ⟨b,1,none⟩ u1).setCell ⟨c,0,none⟩ f).setCell ⟨c,1,none⟩ h) c f h:=
 ⟨(((z.put u0 u1).put u0 u1).other (p:=⟨c,0,none⟩) d f).other (p:=⟨c,1,none⟩) d h,
  ((((A.other (p:=⟨b,0,none⟩) (Ne.symm d) u0).other (p:=⟨b,1,none⟩) (Ne.symm d) u1).other (p:=⟨b,0,none⟩) (Ne.symm d) u0).other (p:=⟨b,1,none⟩) (Ne.symm d) u1).put f h⟩
def GN(w':World)(r:Ending)(ea eb za zb:Int):Prop:=
 ∃(n1:Bool) (a1:Option Addr) (l1 c1:Nat) (n2:Bool) (a2:Option Addr) (l2 c2:Nat) (er:Int),r=.returned (.tuple #[.agg #[.bool n1,.slice a1 l1 c1],.agg #[.bool n2,.slice a2 l2 c2],.int .i64 er])∧(ea=0→eb=0→er=0∧aw 0 w' (.agg #[.bool n1,.slice a1 l1 c1]) za∧aw 0 w' (.agg #[.bool n2,.slice a2 l2 c2]) zb)∧(¬(ea=0∧eb=0)→er=2)
theorem xU(f d:Bool)(ao K:Option Addr)(M L:Nat)(A B:List Nat)(x y l:Int)(w:World)(hA:ag w ao M A)(hB:ag w K L B)(ra:av f A=true)(rb:av d B=true)(bx:-16384≤x∧x≤16384)(a0:-16384≤y∧y≤16384)(hl:l=min x y):
  Calls Tryz.prog 284 #[.agg #[.bool f,.slice ao A.length M,.int .i64 x],.agg #[.bool d,.slice K B.length L,.int .i64 y]] w fun r G=>GN G r (eD (af f A) x l) (eD (af d B) y l) (up (af f A) x l) (up (af d B) y l)∧Below w.heap.size w G:=by
 have la:=(ay ra).1
 have lb:=(ay rb).1
 have ae:l≤x:=by omega
 have aj:l≤y:=by omega
 have CA:=aa (fun n G h (e:n=x-l)=>show Calls Tryz.prog 252 #[.agg #[.bool f,.slice ao A.length M],.int .i64 n] G fun e N=>∃v,e=.returned (.tuple #[v,.int .i64 (eD (af f A) x l)])∧aw G.heap.size N v (Gi (af f A) x l)∧Below G.heap.size G N by
  have:=ia f ao M A n G h (by omega) (by omega)
  rwa[e,(ky f A x l ra ae).1,(ky f A x l ra ae).2,←e]at this)
 have CB:=aa (fun n G h (e:n=y-l)=>show Calls Tryz.prog 252 #[.agg #[.bool d,.slice K B.length L],.int .i64 n] G fun e N=>∃v,e=.returned (.tuple #[v,.int .i64 (eD (af d B) y l)])∧aw G.heap.size N v (Gi (af d B) y l)∧Below G.heap.size G N by
  have:=ia d K L B n G h (by omega) (by omega)
  rwa[e,(ky d B y l rb aj).1,(ky d B y l rb aj).2,←e]at this)
 have HA:=aa (rZ (af f A) x l)
 have HB:=aa (rZ (af d B) y l)
 have HL:=aa hl
 clear hl ra rb ae aj
 generalize eD (af f A) x l=ea at*
 generalize eD (af d B) y l=eb at*
 generalize Gi (af f A) x l=ua at*
 generalize Gi (af d B) y l=ub at*
 generalize up (af f A) x l=za at*
 generalize up (af d B) y l=zb at*
 obtain⟨a5,a6⟩:=bx
 obtain⟨a7,a9⟩:=a0
 have ax:Below w.heap.size w ((((w.alloc (.cells #[.bool f,.slice ao A.length M,.int .i64 x] 47)).alloc (.cells #[.bool d,.slice K B.length L,.int .i64 y] 47)).alloc (.cells #[.bool false,.slice none 0 0] 45)).alloc (.cells #[.bool false,.slice none 0 0] 45)):=
  ((((Below.refl _ _).alloc (Nat.le_refl _) _).alloc (by simp) _).alloc (by simp;omega) _).alloc (by simp;omega) _
 have Q:az ((((w.alloc (.cells #[.bool f,.slice ao A.length M,.int .i64 x] 47)).alloc (.cells #[.bool d,.slice K B.length L,.int .i64 y] 47)).alloc (.cells #[.bool false,.slice none 0 0] 45)).alloc (.cells #[.bool false,.slice none 0 0] 45)) (w.heap.size+1) (.bool d) (.slice K B.length L) (.int .i64 y):=by
  have:=((az.new (w.alloc (.cells #[.bool f,.slice ao A.length M,.int .i64 x] 47)) (.bool d) (.slice K B.length L) (.int .i64 y)).old (.cells #[.bool false,.slice none 0 0] 45)).old (.cells #[.bool false,.slice none 0 0] 45)
  simpa using this
 have O:aA ((((w.alloc (.cells #[.bool f,.slice ao A.length M,.int .i64 x] 47)).alloc (.cells #[.bool d,.slice K B.length L,.int .i64 y] 47)).alloc (.cells #[.bool false,.slice none 0 0] 45)).alloc (.cells #[.bool false,.slice none 0 0] 45)) (w.heap.size+1+1) (.bool false) (.slice none 0 0):=by
  have:=(aA.new ((w.alloc (.cells #[.bool f,.slice ao A.length M,.int .i64 x] 47)).alloc (.cells #[.bool d,.slice K B.length L,.int .i64 y] 47)) (.bool false) (.slice none 0 0)).old (.cells #[.bool false,.slice none 0 0] 45)
  simpa using this
 have x3:aA ((((w.alloc (.cells #[.bool f,.slice ao A.length M,.int .i64 x] 47)).alloc (.cells #[.bool d,.slice K B.length L,.int .i64 y] 47)).alloc (.cells #[.bool false,.slice none 0 0] 45)).alloc (.cells #[.bool false,.slice none 0 0] 45)) (w.heap.size+1+1+1) (.bool false) (.slice none 0 0):=by
  have:=aA.new (((w.alloc (.cells #[.bool f,.slice ao A.length M,.int .i64 x] 47)).alloc (.cells #[.bool d,.slice K B.length L,.int .i64 y] 47)).alloc (.cells #[.bool false,.slice none 0 0] 45)) (.bool false) (.slice none 0 0)
  simpa using this
 have B0:=aa ax;have X1:=aa Q;have X2:=aa O;have X3:=aa x3
 clear ax Q O x3
 rcases(show x<y∨x=y∨y<x by omega)with am|am|am
 all_goals
  first|subst am|skip
  go_enter Tryz.func284,Tryz.ntmps284
  go_wp2_with fail
  refine(uH CA _ _ (hA.below (uH B0)) (by have:=uH HL;omega)).mono ?_
  rintro r w1 ⟨v1,rfl,⟨m,t,z,D,rfl,i1⟩,H⟩
  have Q:=(uH X1).all H;have O:=(uH X2).all H;have x3:=(uH X3).all H
  have b1:=(uH B0).trans (H.mono (uH B0).size)
  have hs:w.heap.size+4≤w1.heap.size:=by have:=H.size;simp at this;omega
  have aI:aw (w.heap.size+4) w1 (.agg #[.bool m,.slice t D.length z]) ua:=by
   refine aw.mono ⟨m,t,z,D,rfl,i1⟩ (by simp)
  have p0:=Q.c0;have p1:=Q.c1;have p2:=Q.c2
  have q0:=O.c0;have q1:=O.c1;have f0:=O.free 0;have f1:=O.free 1
  have a3:=aa Q;have ak:=aa O;have F:=aa x3;have B1:=aa b1;have I1:=aa aI
  clear H Q O x3 b1 i1 aI X1 X2 X3 B0
  have s0:=(uH F).c0;have s1:=(uH F).c1;have g0:=(uH F).free 0;have g1:=(uH F).free 1
  rcases uH HA with⟨rfl,hu⟩|rfl
  ·have HU:=aa hu
   clear HA CA hu
   go_wp2_with fail
   have b2:=bS (uH B1) (show w.heap.size≤w.heap.size+1+1 by omega) (.bool m) (.slice t D.length z)
   refine(uH CB _ _ (hB.below b2) (by have:=uH HL;omega)).mono ?_
   rintro r w2 ⟨v2,rfl,⟨X,Y,Z,L2,rfl,i2⟩,I⟩
   have a4:w.heap.size+4≤w2.heap.size:=by have:=I.size;simp at this;omega
   have y2:=((uH ak).put (.bool m) (.slice t D.length z)).all I
   have y3:=(((uH F).other (p:=⟨w.heap.size+1+1,0,none⟩) (by simp) (.bool m)).other (p:=⟨w.heap.size+1+1,1,none⟩) (by simp) (.slice t D.length z)).all I
   have b3:=b2.trans (I.mono b2.size)
   have j1:aw (w.heap.size+4) w2 (.agg #[.bool m,.slice t D.length z]) ua:=((uH I1).put2 (p:=⟨w.heap.size+1+1,0,none⟩) (q:=⟨w.heap.size+1+1,1,none⟩) (by simp) (by simp) (.bool m) (.slice t D.length z)).below I
   have j2:aw (w.heap.size+4) w2 (.agg #[.bool X,.slice Y L2.length Z]) ub:=aw.mono ⟨X,Y,Z,L2,rfl,i2⟩ (by simp;omega)
   clear q0 q1 f0 f1 s0 s1 g0 g1 p0 p1 p2 a3 ak F I1 B1 I i2 CB
   have q0:=y2.c0;have q1:=y2.c1;have f0:=y2.free 0;have f1:=y2.free 1
   have s0:=y3.c0;have s1:=y3.c1;have g0:=y3.free 0;have g1:=y3.free 1
   have B3:=aa b3;have J1:=aa j1;have J2:=aa j2
   have EE:=aa (fun u0 u1 v0 v1=>GK y2 y3 (by omega) u0 u1 v0 v1)
   clear b2 b3 y2 y3 j1 j2
   rcases uH HB with⟨rfl,hv⟩|rfl
   ·have HV:=aa hv
    clear HB hv
    go_wp2
    go_region_with fail
    all_goals
     go_wp2
     obtain⟨U,V⟩:=uH EE (.bool m) (.slice t D.length z) (.bool X) (.slice Y L2.length Z)
     have z0:=U.c0;have z1:=U.c1;have z2:=V.c0;have z3:=V.c1
     refine bodyPost_ret (v:=.tuple #[.agg #[.bool m,.slice t D.length z],.agg #[.bool X,.slice Y L2.length Z],.int .i64 0]) (by simp[results,Tryz.results284,go_sem,z0,z1,z2,z3]) rfl ⟨⟨m,t,D.length,z,X,Y,L2.length,Z,0,rfl,?_,?_⟩,?_⟩
     ·intro _ _
      rw[←uH HU,←uH HV]
      exact⟨rfl,((((((uH J1).put2 (by simp) (by simp) _ _).put2 (by simp) (by simp) _ _).put2 (by simp) (by simp) _ _).below ((Below.refl _ _).drew)).mono (Nat.zero_le _)),((((((uH J2).put2 (by simp) (by simp) _ _).put2 (by simp) (by simp) _ _).put2 (by simp) (by simp) _ _).below ((Below.refl _ _).drew)).mono (Nat.zero_le _))⟩
     ·intro h;exact absurd ⟨rfl,rfl⟩ h
     ·exact(bS (bS (bS (uH B3) (by omega) _ _) (by omega) _ _) (by omega) _ _).drew
   ·clear HB
    go_wp2
    go_region_with fail
    all_goals
     go_wp2
     obtain⟨U,V⟩:=uH EE (.bool m) (.slice t D.length z) (.bool X) (.slice Y L2.length Z)
     have z0:=U.c0;have z1:=U.c1;have z2:=V.c0;have z3:=V.c1
     refine bodyPost_ret (v:=.tuple #[.agg #[.bool m,.slice t D.length z],.agg #[.bool X,.slice Y L2.length Z],.int .i64 2]) (by simp[results,Tryz.results284,go_sem,z0,z1,z2,z3]) rfl ⟨⟨m,t,D.length,z,X,Y,L2.length,Z,2,rfl,?_,fun _=>rfl⟩,?_⟩
     ·intro _ h;exact absurd h (by decide)
     ·exact(bS (bS (bS (uH B3) (by omega) _ _) (by omega) _ _) (by omega) _ _).drew
  ·clear HA HB CA CB
   go_wp2
   go_region_with fail
   all_goals
    go_wp2
    obtain⟨U,V⟩:=GM (uH ak) (uH F) (by omega) (.bool m) (.slice t D.length z) (.bool false) (.slice none 0 0)
    have z0:=U.c0;have z1:=U.c1;have z2:=V.c0;have z3:=V.c1
    refine bodyPost_ret (v:=.tuple #[.agg #[.bool m,.slice t D.length z],.agg #[.bool false,.slice none 0 0],.int .i64 2]) (by simp[results,Tryz.results284,go_sem,z0,z1,z2,z3]) rfl ⟨⟨m,t,D.length,z,false,none,0,0,2,rfl,?_,fun _=>rfl⟩,?_⟩
    ·intro h;exact absurd h (by decide)
    ·exact(bS (bS (bS (uH B1) (by omega) _ _) (by omega) _ _) (by omega) _ _).drew
def bO(sa x sb y:Int):Int:=if sa=0 then y else if sb=0 then x else min x y
def dU(sa x sb y:Int):Int:=up sa x (bO sa x sb y)+up sb y (bO sa x sb y)
def kz(sa x sb y:Int):Bool:=decide (eD sa x (bO sa x sb y)=0∧eD sb y (bO sa x sb y)=0∧(dU sa x sb y).natAbs<dy)
def r7(sa x sb y:Int):Int:=if kz sa x sb y then cP (dU sa x sb y) (bO sa x sb y)else 2
def r8(sa x sb y:Int):Int:=if kz sa x sb y then dM (dU sa x sb y) (bO sa x sb y)else 0
def r9(sa x sb y:Int):Int:=if kz sa x sb y then dX (dU sa x sb y) (bO sa x sb y)else 0
def mn(w':World)(r:Ending)(er m e:Int):Prop:=∃v,r=.returned (.tuple #[v,.int .i64 er])∧aG w' v m e
theorem aK{n:Bool}{L:List Nat}(h:av n L=true):af n L=0↔L.length=0:=by
 have d:=(ay h).2.1
 constructor
 ·intro e
  have:an L=0:=by rw[←aR n L,e];rfl
  rw[(aL L d).1 this];rfl
 ·intro e
  have:L= []:=List.length_eq_zero_iff.1 e
  rw[this,g8]
theorem m9{w:World}{ao:Option Addr}{cap:Nat}{n:Bool}{L:List Nat}(h:ag w ao cap L)(d:av n L=true):(af n L).natAbs<dy:=by
 rw[aR];exact(dR L h.2.1 (ay d).2.1).2 (ay d).1
theorem fU(x l:Int):up 0 x l=0:=by simp[up]
theorem mA(s x:Int):up s x x=s:=by simp[up]
theorem iK(s x l:Int)(d:(up s x l).natAbs<dy)(f:x-l≤16384):eD s x l=0:=by unfold eD;rw[if_pos ⟨d,f⟩]
theorem kA{s x l:Int}(h:eD s x l=0):(up s x l).natAbs<dy:=by
 unfold eD at h
 by_cases d:(up s x l).natAbs<dy∧x-l≤16384
 ·exact d.1
 ·rw[if_neg d]at h;exact absurd h (by decide)
theorem nd(d y:Int)(t:-16384≤y∧y≤16384)(h:d.natAbs<dy):r7 0 0 d y=cP d y∧r8 0 0 d y=dM d y∧r9 0 0 d y=dX d y:=by
 have f:bO 0 0 d y=y:=by simp[bO]
 have l:dU 0 0 d y=d:=by unfold dU;rw[f,fU,mA];omega
 have m:kz 0 0 d y=true:=by
  unfold kz
  rw[f,l]
  exact decide_eq_true ⟨iK _ _ _ (by rw[fU];exact mz) (by omega),iK _ _ _ (by rw[mA];exact h) (by omega),h⟩
 unfold r7 r8 r9
 rw[m,f,l]
 exact⟨rfl,rfl,rfl⟩
theorem nf(d x:Int)(y:-16384≤x∧x≤16384)(h:d.natAbs<dy)(m:d≠0):r7 d x 0 0=cP d x∧r8 d x 0 0=dM d x∧r9 d x 0 0=dX d x:=by
 have f:bO d x 0 0=x:=by simp[bO,m]
 have l:dU d x 0 0=d:=by unfold dU;rw[f,fU,mA];omega
 have t:kz d x 0 0=true:=by
  unfold kz
  rw[f,l]
  exact decide_eq_true ⟨iK _ _ _ (by rw[mA];exact h) (by omega),iK _ _ _ (by rw[fU];exact mz) (by omega),h⟩
 unfold r7 r8 r9
 rw[t,f,l]
 exact⟨rfl,rfl,rfl⟩
theorem iL(d x f y:Int)(h:d≠0)(l:f≠0):bO d x f y=min x y:=by unfold bO;rw[if_neg h,if_neg l]
theorem Ax(d x f y l z:Int)(A:bO d x f y=l)(D:dU d x f y=z):
  (eD d x l=0∧eD f y l=0∧z.natAbs<dy∧r7 d x f y=cP z l∧r8 d x f y=dM z l∧r9 d x f y=dX z l)∨
  (eD d x l=0∧eD f y l=0∧¬z.natAbs<dy∧r7 d x f y=2∧r8 d x f y=0∧r9 d x f y=0)∨
  (¬(eD d x l=0∧eD f y l=0)∧r7 d x f y=2∧r8 d x f y=0∧r9 d x f y=0):=by
 unfold r7 r8 r9 kz
 rw[A,D]
 by_cases m:eD d x l=0∧eD f y l=0
 ·by_cases t:z.natAbs<dy
  ·left
   rw[decide_eq_true (show eD d x l=0∧eD f y l=0∧z.natAbs<dy from⟨m.1,m.2,t⟩)]
   exact⟨m.1,m.2,t,rfl,rfl,rfl⟩
  ·right;left
   rw[decide_eq_false (show¬(eD d x l=0∧eD f y l=0∧z.natAbs<dy)from fun h=>t h.2.2)]
   exact⟨m.1,m.2,t,rfl,rfl,rfl⟩
 ·right;right
  rw[decide_eq_false (show¬(eD d x l=0∧eD f y l=0∧z.natAbs<dy)from fun h=>m ⟨h.1,h.2.1⟩)]
  exact⟨m,rfl,rfl,rfl⟩
theorem qA(F G:Bool)(ao bo:Option Addr)(ca cb:Nat)(A B:List Nat)(x y:Int)(w:World)(hA:ag w ao ca A)(hB:ag w bo cb B)(ra:av F A=true)(rb:av G B=true)(bx:-16384≤x∧x≤16384)(a9:-16384≤y∧y≤16384)(zx:A.length=0→x=0)(zy:B.length=0→y=0)(hT:b7 w):
  Calls Tryz.prog 276 #[.agg #[.bool F,.slice ao A.length ca,.int .i64 x],.agg #[.bool G,.slice bo B.length cb,.int .i64 y]] w fun r Q=>mn Q r (r7 (af F A) x (af G B) y) (r8 (af F A) x (af G B) y) (r9 (af F A) x (af G B) y)∧Below w.heap.size w Q:=by
 have ta:=m9 hA ra
 have tb:=m9 hB rb
 have ba:=aa (show A.length=0→r7 (af F A) x (af G B) y=cP (af G B) y∧r8 (af F A) x (af G B) y=dM (af G B) y∧r9 (af F A) x (af G B) y=dX (af G B) y from fun h=>by
  have:=(aK ra).2 h
  rw[this,zx h];exact nd _ _ a9 tb)
 have bb:=aa (show A.length≠0→B.length=0→r7 (af F A) x (af G B) y=cP (af F A) x∧r8 (af F A) x (af G B) y=dM (af F A) x∧r9 (af F A) x (af G B) y=dX (af F A) x from fun V h=>by
  have:=(aK rb).2 h
  rw[this,zy h];exact nf _ _ bx ta (fun e=>V ((aK ra).1 e)))
 have HL:=aa (show A.length≠0→B.length≠0→bO (af F A) x (af G B) y=min x y from fun V h=>iL _ _ _ _ (fun e=>V ((aK ra).1 e)) (fun e=>h ((aK rb).1 e)))
 obtain⟨l,hl⟩:∃l,bO (af F A) x (af G B) y=l:=⟨_,rfl⟩
 obtain⟨z,hz⟩:∃z,dU (af F A) x (af G B) y=z:=⟨_,rfl⟩
 have HW:=aa (Ax _ _ _ _ l z hl hz)
 have a7:=aa (show z=up (af F A) x l+up (af G B) y l by rw[←hz,←hl];rfl)
 rw[hl]at HL
 have bm:=aa (fun Q h t=>iJ G bo cb B y Q h rb (by omega) t)
 have bc:=aa (fun Q h t=>iJ F ao ca A x Q h ra (by omega) t)
 have a6:=aa (fun Q h h' e=>xU F G ao bo ca cb A B x y l Q h h' ra rb bx a9 e)
 have I:=aa (fun Q u v (h1:eD (af F A) x l=0) (h2:eD (af G B) y l=0) (Y:aw 0 Q u (up (af F A) x l)) (M:aw 0 Q v (up (af G B) y l))=>El Y M (kA h1) (kA h2))
 rw[←uH a7]at I
 have Z:=aa (fun(X:z.natAbs<dy) e' Q u B' (he:e'=l) (Y:aw B' Q u z) (t:b7 Q)=>show Calls Tryz.prog 229 #[u,.int .i64 e'] Q fun r bj=>∃v,r=.returned (.tuple #[v,.int .i64 (cP z l)])∧aG bj v (dM z l) (dX z l)∧Below Q.heap.size Q bj by
  subst he
  refine jf _ Y X ?_ t
  have:-16384≤e'∧e'≤16384:=by
   rw[←hl];unfold bO
   split
   ·omega
   ·split<;>omega
  omega)
 have aj:=aa (fun h:z.natAbs<dy=>And.intro (fj z h) (fk z h))
 have ak:=aa (fun h:¬z.natAbs<dy=>(show bI z=2 by unfold bI;rw[if_neg h]))
 clear hl hz ta tb ra rb zx zy a7
 obtain⟨bz,bE⟩:=bx
 obtain⟨b0,b3⟩:=a9
 generalize r7 (af F A) x (af G B) y=er at*
 generalize r8 (af F A) x (af G B) y=am at*
 generalize r9 (af F A) x (af G B) y=ax at*
 generalize eD (af F A) x l=ea at*
 generalize eD (af G B) y l=eb at*
 generalize up (af F A) x l=za at*
 generalize up (af G B) y l=zb at*
 have bn:Below w.heap.size w (((w.alloc (.cells #[.bool F,.slice ao A.length ca,.int .i64 x] 47)).alloc (.cells #[.bool G,.slice bo B.length cb,.int .i64 y] 47)).alloc (.cells #[.bool false,.slice none 0 0,.int .i64 0] 47)):=
  (((Below.refl _ _).alloc (Nat.le_refl _) _).alloc (by simp) _).alloc (by simp;omega) _
 have O:az (((w.alloc (.cells #[.bool F,.slice ao A.length ca,.int .i64 x] 47)).alloc (.cells #[.bool G,.slice bo B.length cb,.int .i64 y] 47)).alloc (.cells #[.bool false,.slice none 0 0,.int .i64 0] 47)) w.heap.size (.bool F) (.slice ao A.length ca) (.int .i64 x):=((az.new _ _ _ _).old _).old _
 have K:az (((w.alloc (.cells #[.bool F,.slice ao A.length ca,.int .i64 x] 47)).alloc (.cells #[.bool G,.slice bo B.length cb,.int .i64 y] 47)).alloc (.cells #[.bool false,.slice none 0 0,.int .i64 0] 47)) (w.heap.size+1) (.bool G) (.slice bo B.length cb) (.int .i64 y):=by
  have:=(az.new (w.alloc (.cells #[.bool F,.slice ao A.length ca,.int .i64 x] 47)) (.bool G) (.slice bo B.length cb) (.int .i64 y)).old (.cells #[.bool false,.slice none 0 0,.int .i64 0] 47)
  simpa using this
 have f:az (((w.alloc (.cells #[.bool F,.slice ao A.length ca,.int .i64 x] 47)).alloc (.cells #[.bool G,.slice bo B.length cb,.int .i64 y] 47)).alloc (.cells #[.bool false,.slice none 0 0,.int .i64 0] 47)) (w.heap.size+1+1) (.bool false) (.slice none 0 0) (.int .i64 0):=by
  have:=az.new ((w.alloc (.cells #[.bool F,.slice ao A.length ca,.int .i64 x] 47)).alloc (.cells #[.bool G,.slice bo B.length cb,.int .i64 y] 47)) (.bool false) (.slice none 0 0) (.int .i64 0)
  simpa using this
 have B0:=aa bn;have X0:=aa O;have X1:=aa K;have X2:=aa f
 clear bn O K f
 go_enter Tryz.func276,Tryz.ntmps276
 go_wp2_with fail
 refine(de F ao ca A.length _).mono ?_
 by_cases V:A.length=0
 ·rw[decide_eq_true V]
  rintro r w1 ⟨rfl,d⟩
  obtain⟨rfl,rfl,rfl⟩:=uH ba V
  have K:=(uH X1).all d;have f:=(uH X2).all d
  have U:=(uH B0).trans (d.mono (uH B0).size)
  have q0:=K.c0;have q1:=K.c1;have q2:=K.c2
  have m:=aa f;have D:=aa U
  clear V ba bb HL HW bc a6 I Z aj ak d K f U X0 X1 X2 B0
  go_wp2_with fail
  refine(uH bm _ (hB.below (uH D)) (hT.all (uH D))).mono ?_
  rintro r w2 ⟨v,rfl,M,d⟩
  obtain⟨n3,a3,c3,L3,rfl,i3⟩:=M.num
  have f:=(uH m).all d
  have b2:=(uH D).trans (d.mono (uH D).size)
  have y0:=f.c0;have y1:=f.c1;have y2:=f.c2;have f0:=f.free 0;have f1:=f.free 1;have f2:=f.free 2
  have X3:=aa f;have B2:=aa b2;have IV:=aa M
  clear f b2 d M i3
  go_wp2
  refine bodyPost_ret (v:=.tuple #[.agg #[.bool n3,.slice a3 L3.length c3,.int .i64 (dX (af G B) y)],.int .i64 (cP (af G B) y)]) (by simp[results,Tryz.results276,go_sem,y0,y1,y2]) rfl ⟨⟨_,rfl,(uH IV).put3 (uH X3) _ _ _⟩,aD (uH B2) (by omega) _ _ _⟩
 ·rw[decide_eq_false V]
  rintro r w1 ⟨rfl,d⟩
  have O:=(uH X0).all d;have K:=(uH X1).all d;have f:=(uH X2).all d
  have U:=(uH B0).trans (d.mono (uH B0).size)
  have q0:=K.c0;have q1:=K.c1;have q2:=K.c2
  have L:=aa O;have N:=aa K;have m:=aa f;have D:=aa U
  have aI:=aa (uH bb V);have be:=aa (uH HL V)
  clear V ba bb HL bm d O K f U X0 X1 X2 B0
  go_wp2_with fail
  refine(de G bo cb B.length _).mono ?_
  by_cases V:B.length=0
  ·rw[decide_eq_true V]
   rintro r w2 ⟨rfl,d⟩
   obtain⟨rfl,rfl,rfl⟩:=uH aI V
   have O:=(uH L).all d;have f:=(uH m).all d
   have U:=(uH D).trans (d.mono (uH D).size)
   clear q0 q1 q2 L N m D
   have q0:=O.c0;have q1:=O.c1;have q2:=O.c2
   have m:=aa f;have D:=aa U
   clear V aI be HW a6 I Z aj ak d O f U
   go_wp2_with fail
   refine(uH bc _ (hA.below (uH D)) (hT.all (uH D))).mono ?_
   rintro r w4 ⟨v,rfl,M,d⟩
   obtain⟨n3,a3,c3,L3,rfl,i3⟩:=M.num
   have f:=(uH m).all d
   have b2:=(uH D).trans (d.mono (uH D).size)
   have y0:=f.c0;have y1:=f.c1;have y2:=f.c2;have f0:=f.free 0;have f1:=f.free 1;have f2:=f.free 2
   have X3:=aa f;have B2:=aa b2;have IV:=aa M
   clear f b2 d M i3
   go_wp2
   refine bodyPost_ret (v:=.tuple #[.agg #[.bool n3,.slice a3 L3.length c3,.int .i64 (dX (af F A) x)],.int .i64 (cP (af F A) x)]) (by simp[results,Tryz.results276,go_sem,y0,y1,y2]) rfl ⟨⟨_,rfl,(uH IV).put3 (uH X3) _ _ _⟩,aD (uH B2) (by omega) _ _ _⟩
  ·rw[decide_eq_false V]
   rintro r w2 ⟨rfl,d⟩
   have O:=(uH L).all d;have K:=(uH N).all d;have f:=(uH m).all d
   have U:=(uH D).trans (d.mono (uH D).size)
   have bq:=uH be V
   clear q0 q1 q2 L N m D
   have p0:=O.c0;have p1:=O.c1;have p2:=O.c2
   have q0:=K.c0;have q1:=K.c1;have q2:=K.c2
   have L:=aa O;have N:=aa K;have m:=aa f;have D:=aa U;have br:=aa bq
   clear V aI be bc d O K f U bq
   go_wp2_with fail
   refine(uH a6 _ (hA.below (uH D)) (hB.below (uH D)) (uH br)).mono ?_
   rintro r w3 ⟨⟨n1,a1,l1,c1,n2,a2,l2,c2,ae,rfl,g1,g2⟩,d⟩
   have O:=(uH L).all d;have K:=(uH N).all d;have f:=(uH m).all d
   have U:=(uH D).trans (d.mono (uH D).size)
   have G1:=aa g1;have G2:=aa g2
   clear p0 p1 p2 q0 q1 q2 L N m D a6 d g1 g2
   --the two boxes of what align answered
   have bA:Below w3.heap.size w3 ((w3.alloc (.cells #[.bool n1,.slice a1 l1 c1] 45)).alloc (.cells #[.bool n2,.slice a2 l2 c2] 45)):=((Below.refl _ _).alloc (Nat.le_refl _) _).alloc (by simp) _
   have L:=aa (O.all bA);have N:=aa (K.all bA);have m:=aa (f.all bA);have D:=aa (U.trans (bA.mono U.size));have BA:=aa bA
   clear O K f U bA
   rcases uH HW with⟨e1,e2,X,rfl,rfl,rfl⟩|⟨e1,e2,X,rfl,rfl,rfl⟩|⟨bw,rfl,rfl,rfl⟩
   ·obtain⟨rfl,Y,M⟩:=uH G1 e1 e2
    obtain⟨a5,bv⟩:=uH aj X
    have H:=aa (fun Q u v Y M=>uH I Q u v e1 e2 Y M)
    rw[a5,bv]at H
    have bt:=aa (uH Z X)
    have IU:=aa (Y.below (uH BA));have a0:=aa (M.below (uH BA))
    clear HW I Z aj ak G1 G2 e1 e2 X a5 bv Y M
    go_wp2_with fail
    refine(uH H _ _ _ (uH IU) (uH a0)).mono ?_
    rintro r w5 ⟨u,rfl,⟨n4,a4,c4,L4,rfl,i4⟩,d⟩
    have O:=((uH L).all d).old (.cells #[.bool n4,.slice a4 L4.length c4] 45)
    have K:=((uH N).all d).old (.cells #[.bool n4,.slice a4 L4.length c4] 45)
    have f:=((uH m).all d).old (.cells #[.bool n4,.slice a4 L4.length c4] 45)
    have U:=((uH D).trans (d.mono (uH D).size)).alloc ((uH D).trans (d.mono (uH D).size)).size (.cells #[.bool n4,.slice a4 L4.length c4] 45)
    have iz:aw 0 (w5.alloc (.cells #[.bool n4,.slice a4 L4.length c4] 45)) (.agg #[.bool n4,.slice a4 L4.length c4]) z:=aw.mono (aw.below ⟨n4,a4,c4,L4,rfl,i4⟩ ((Below.refl _ _).alloc (Nat.le_refl _) _)) (Nat.zero_le _)
    clear L N m D d i4 H IU a0 BA
    have p2:=O.c2;have q2:=K.c2
    have m:=aa f;have D:=aa U;have IZ:=aa iz
    clear O K f U iz
    rcases(show x<y∨x=y∨y<x by omega)with bi|bi|bi
    all_goals
     first|subst bi|skip
     go_wp2_with fail
     refine(uH bt _ _ _ _ (by have:=uH br;omega) (uH IZ) (hT.all (uH D))).mono ?_
     rintro r w4 ⟨v,rfl,M,d⟩
     obtain⟨n3,a3,c3,L3,rfl,i3⟩:=M.num
     have f:=(uH m).all d
     have b2:=(uH D).trans (d.mono (uH D).size)
     have y0:=f.c0;have y1:=f.c1;have y2:=f.c2;have f0:=f.free 0;have f1:=f.free 1;have f2:=f.free 2
     have X3:=aa f;have B2:=aa b2;have IV:=aa M
     clear f b2 d M i3
     go_wp2
     refine bodyPost_ret (v:=.tuple #[.agg #[.bool n3,.slice a3 L3.length c3,.int .i64 (dX z l)],.int .i64 (cP z l)]) (by simp[results,Tryz.results276,go_sem,y0,y1,y2]) rfl ⟨⟨_,rfl,(uH IV).put3 (uH X3) _ _ _⟩,aD (uH B2) (by omega) _ _ _⟩
   ·obtain⟨rfl,Y,M⟩:=uH G1 e1 e2
    have a5:=uH ak X
    have H:=aa (fun Q u v Y M=>uH I Q u v e1 e2 Y M)
    rw[a5]at H
    have IU:=aa (Y.below (uH BA));have a0:=aa (M.below (uH BA))
    clear HW I Z aj ak G1 G2 e1 e2 X a5 Y M
    go_wp2_with fail
    refine(uH H _ _ _ (uH IU) (uH a0)).mono ?_
    rintro r w5 ⟨u,rfl,⟨n4,a4,c4,L4,rfl,i4⟩,d⟩
    have f:=((uH m).all d).old (.cells #[.bool n4,.slice a4 L4.length c4] 45)
    have U:=((uH D).trans (d.mono (uH D).size)).alloc ((uH D).trans (d.mono (uH D).size)).size (.cells #[.bool n4,.slice a4 L4.length c4] 45)
    have y0:=f.c0;have y1:=f.c1;have y2:=f.c2;have f0:=f.free 0;have f1:=f.free 1;have f2:=f.free 2
    have B2:=aa U
    clear L N m D d i4 H IU a0 BA f U
    go_wp2
    refine bodyPost_ret (v:=.tuple #[.agg #[.bool false,.slice none 0 0,.int .i64 0],.int .i64 (2)]) (by simp[results,Tryz.results276,go_sem,y0,y1,y2]) rfl ⟨⟨_,rfl,aG.zero _ _ _⟩,aD (uH B2) (by omega) _ _ _⟩
   ·have ha:=uH G2 bw
    subst ha
    have f:=uH m
    have y0:=f.c0;have y1:=f.c1;have y2:=f.c2;have f0:=f.free 0;have f1:=f.free 1;have f2:=f.free 2
    have B2:=D
    clear HW I Z aj ak G1 G2 bw f L N m BA D
    go_wp2
    refine bodyPost_ret (v:=.tuple #[.agg #[.bool false,.slice none 0 0,.int .i64 0],.int .i64 (2)]) (by simp[results,Tryz.results276,go_sem,y0,y1,y2]) rfl ⟨⟨_,rfl,aG.zero _ _ _⟩,aD (uH B2) (by omega) _ _ _⟩
theorem bT{neg:Bool}{L:List Nat}{e:Int}(h:kn neg L e=true):av neg L=true∧L.length≤512∧-16384≤e∧e≤16384∧(L.length=0→e=0):=by
 unfold kn at h
 rw[Bool.and_eq_true]at h
 obtain⟨l,d⟩:=h
 refine⟨l,(ay l).1,?_⟩
 by_cases f:L.length=0
 ·rw[if_pos f]at d
  have:=of_decide_eq_true d
  omega
 ·rw[if_neg f,Bool.and_eq_true]at d
  have:=of_decide_eq_true d.2
  omega
end Go.Proofs.YtlnphkioddknfaaGreatDoor
