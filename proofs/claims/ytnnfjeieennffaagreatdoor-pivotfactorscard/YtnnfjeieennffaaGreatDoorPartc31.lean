/- Part 31 of the texts. -/
import Derived.Test.YtnnfjeieennffaaGreatDoorPartc30
set_option maxHeartbeats 4000000
set_option maxRecDepth 20000
namespace Go.Proofs.YtnnfjeieennffaaGreatDoor
open Go.RowKit
def gw(ε:Rat):Nat→Rat
 |0=>1
 |k+1=>(1+2*ε)*gw ε k
def bk(ε:Rat):Nat→Rat
 |0=>0
 |k+1=>3+(1+2*ε)*(1+2*ε)*bk ε k
def er(ε δ:Rat):Nat→Rat
 |0=>0
 |k+1=>gw ε k+er ε δ k*(1+2*ε+δ)
def fc(xs:List Nat)(i:Nat):Rat:=fQ (xs.getD i 0)
attribute [local go_sem ↓] Go.wp_at_zero Go.wp_at_succ
theorem pp(A:Option Addr)(c:Nat)(I:List Int)(w:World)(D:ad w A c I)(N:I.length≤35184372088830):
  Calls Tryz.prog 125 #[.slice A I.length c] w fun e w'=>e=.returned (.int .u64 (jp I I.length:Nat))∧Below w.heap.size w w':=by
 have F:=aa D
 obtain⟨n,d⟩:∃n,I.length=n:=⟨_,rfl⟩
 rw[d]at N⊢
 have G:=aa d
 clear D d
 go_enter Tryz.func125,Tryz.ntmps125
 go_wp2_with fail
 go_loopw[3,4] (fun t i wr=>∃k:Nat,k≤n∧i=.int .i64 k∧t=.int .u64 (jp I k:Nat)∧Hid (Below w.heap.size w wr)) (fun _ i _=>n-(intOf i).toNat)
 case atStart=>exact⟨0,Nat.zero_le _,rfl,rfl,Below.refl _ _⟩
 case round=>
  obtain⟨k,Y,rfl,rfl,h⟩:=hrel
  by_cases l:k<n
  ·have O:(k:Int)<(n:Int):=by omega
   obtain⟨b,X,z,Z,L⟩:=((uH F).below h.out).ne (by rw[uH G];omega)
   have Q:=L k (by rw[uH G];exact l)
   have H:=aa (fun w'=>yn (aL I k) w' ((uH F).lt k))
   have K:=aa (fun w'=>yO (jp I k) (fR (aL I k)) w' (ot I k) (by have:=jF (aL I k);omega))
   have U:Hid (jp I (k+1)=mx (jp I k) (fR (aL I k))):=rfl
   subst z
   clear L
   generalize mx (jp I k) (fR (aL I k))=o at*
   generalize fR (aL I k)=r at*
   generalize aL I k=x at*
   generalize jp I k=tv at*
   go_wp2_with fail
   refine(uH H _).mono ?_
   rintro e M ⟨rfl,rfl⟩
   go_wp2_with fail
   refine(uH K _).mono ?_
   rintro e M ⟨rfl,f⟩
   have V:Hid (Below w.heap.size w M):=h.out.trans (f.mono h.out.size)
   clear f H K
   go_wp2_with fail
   go_round
   case rel=>exact⟨k+1,by omega,by go_num,by rw[U.out],V⟩
   case measure=>simp[intOf];omega
  ·have m:k=n:=by omega
   subst m
   go_wp2_with fail
   exact bodyPost_ret (v:=.int .u64 (jp I k:Nat)) (by simp[results,Tryz.results125,go_sem]) rfl ⟨rfl,h.out⟩
theorem tr(I:List Int):∀(m k:Nat),k≤m→gA I m=true→gA I k=true:=by
 intro m
 induction m with
 |zero=>intro k f _;rw[show k=0 by omega];rfl
 |succ m ih=>
  intro k f h
  have d:(gA I m&&ap (aL I m))=true:=h
  rw[Bool.and_eq_true]at d
  by_cases e:k=m+1
  ·subst e;exact h
  ·exact ih k (by omega) d.1
theorem Ce(I:List Int)(n k:Nat)(f:k<n)(h:ap (aL I k)=false):gA I n=false:=by
 cases e:gA I n
 ·rfl
 ·have d:(gA I k&&ap (aL I k))=true:=tr I n (k+1) (by omega) e
  rw[h,Bool.and_false]at d
  cases d
theorem kL(G:Option Addr)(c:Nat)(I:List Int)(w:World)(H:ad w G c I)(U:I.length≤35184372088830):
  Calls Tryz.prog 34 #[.slice G I.length c] w fun e w'=>e=.returned (.bool (gA I I.length))∧Below w.heap.size w w':=by
 have K:=aa H
 obtain⟨n,d⟩:∃n,I.length=n:=⟨_,rfl⟩
 rw[d]at U⊢
 have L:=aa d
 clear H d
 obtain⟨v,D⟩:∃v,gA I n=v:=⟨_,rfl⟩
 rw[D]
 have M:=aa D
 clear D
 go_enter Tryz.func34,Tryz.ntmps34
 go_wp2_with fail
 go_loopw[3] (fun i wr=>∃k:Nat,k≤n∧i=.int .i64 k∧Hid (gA I k=true)∧Hid (Below w.heap.size w wr)) (fun i _=>n-(intOf i).toNat)
 case atStart=>exact⟨0,Nat.zero_le _,rfl,rfl,Below.refl _ _⟩
 case round=>
  obtain⟨k,hk,rfl,O,m⟩:=hrel
  by_cases l:k<n
  ·have V:(k:Int)<(n:Int):=by omega
   obtain⟨b,Z,F,hb,Q⟩:=((uH K).below m.out).ne (by rw[uH L];omega)
   have X:=Q k (by rw[uH L];exact l)
   have f:=aa (fun w'=>cr (aL I k) w' ((uH K).lt k))
   have N:Hid (gA I (k+1)=(gA I k&&ap (aL I k))):=rfl
   have Y:=aa (fun h=>Ce I n k l h)
   subst F
   clear Q
   generalize aL I k=x at*
   cases hf:ap x
   ·have t:=aa ((uH M).symm.trans (uH Y hf))
    rw[hf]at f
    have z:=uH t
    subst z
    go_wp2_with fail
    refine(uH f _).mono ?_
    rintro e w2 ⟨rfl,rfl⟩
    clear f
    go_wp2_with fail
    exact bodyPost_ret (v:=.bool false) (by simp[results,Tryz.results34,go_sem]) rfl ⟨rfl,m.out⟩
   ·rw[hf]at f N
    go_wp2_with fail
    refine(uH f _).mono ?_
    rintro e w2 ⟨rfl,rfl⟩
    clear f
    go_wp2_with fail
    go_round
    case rel=>exact⟨k+1,by omega,by go_num,by unfold Hid;rw[N.out,O.out];rfl,m⟩
    case measure=>simp[intOf];omega
  ·have A:k=n:=by omega
   subst A
   have t:=(uH M).symm.trans O.out
   subst t
   go_wp2_with fail
   exact bodyPost_ret (v:=.bool true) (by simp[results,Tryz.results34,go_sem]) rfl ⟨rfl,m.out⟩
theorem oy(z:Option Addr)(n c m:Nat)(f:Bool)(w:World)(F:m=0∨(m≠0∧f=false))
  (A:Calls Tryz.prog 125 #[.slice z n c] w fun e d=>e=.returned (.int .u64 (m:Nat))∧Below w.heap.size w d)
  (D:∀w',Calls Tryz.prog 66 #[.int .u64 m] w' fun e d=>e=.returned (.bool f)∧w'=d):
  Calls Tryz.prog 79 #[.slice z n c] w fun e w'=>e=.returned (.int .u64 (m:Nat))∧Below w.heap.size w w':=by
 have l:=aa A;have t:=aa D
 clear A D
 rcases F with rfl|⟨H,rfl⟩
 ·go_enter Tryz.func79,Tryz.ntmps79
  go_wp2_with fail
  refine Calls.mono (uH l) ?_
  rintro e G ⟨rfl,h⟩
  clear l t
  go_wp2
  go_ret
  exact⟨rfl,h⟩
 ·have K:((m:Int)==0)=false:=by rw[beq_eq_false_iff_ne];omega
  clear H
  go_enter Tryz.func79,Tryz.ntmps79
  go_wp2_with fail
  refine Calls.mono (uH l) ?_
  rintro e G ⟨rfl,h⟩
  clear l
  go_wp2_with fail
  refine(uH t _).mono ?_
  rintro e L ⟨rfl,rfl⟩
  clear t
  go_wp2
  go_ret
  exact⟨rfl,h⟩
theorem tt(N:Option Addr)(c m:Nat)(k:Int)(I:List Int)(w:World)(Z:ad w N c I)(hn:I.length≤35184372088830)(h0:m≠0)(O:-5000≤k∧k≤5000)
  (C1:Calls Tryz.prog 125 #[.slice N I.length c] w fun e d=>e=.returned (.int .u64 (m:Nat))∧Below w.heap.size w d)
  (C2:∀w',Calls Tryz.prog 66 #[.int .u64 m] w' fun e d=>e=.returned (.bool true)∧w'=d)
  (C3:∀w',Calls Tryz.prog 29 #[.int .u64 m] w' fun e d=>e=.returned (.int .i64 k)∧Below w'.heap.size w' d):
  Calls Tryz.prog 79 #[.slice N I.length c] w fun e w'=>e=.returned (.int .u64 (xV (sV (jH (tL k I) (tL k I) I.length)) k:Nat))∧Below w.heap.size w w':=by
 have HI:=aa Z
 have Q:=aa C1;have K2:=aa C2;have K3:=aa C3
 have g0:((m:Int)==0)=false:=by rw[beq_eq_false_iff_ne];omega
 have hw:IntKind.i64.wrap (-k)= -k:=by simp only[IntKind.wrap_i64];omega
 have ae:(0:Int)-k= -k:=by omega
 have HK:=aa O
 have U:=aa (fun w'=>vt (jH (tL k I) (tL k I) I.length) w' (iF _ _ _))
 have V:=aa (fun w'=>mf (sV (jH (tL k I) (tL k I) I.length)) k w' (wM _ (iF _ _ _)) O)
 have HD:Hid (jH (tL k I) (tL k I) 0=0):=rfl
 have HS:=aa (fun j (hj:j<I.length)=>show jH (tL k I) (tL k I) (j+1)=aV (jH (tL k I) (tL k I) j) (mV (xV (aL I j) (-k)) (xV (aL I j) (-k))) by
  show aV (jH (tL k I) (tL k I) j) (mV (aL (tL k I) j) (aL (tL k I) j))=_
  rw[show aL (tL k I) j=xV (aL I j) (-k)from BK _ _ j hj])
 have HL:=aa (fun j=>iF (tL k I) (tL k I) j)
 generalize jH (tL k I) (tL k I)=F at*
 obtain⟨n,A⟩:∃n,I.length=n:=⟨_,rfl⟩
 rw[A]at hn Q HS U V⊢
 have HN:=aa A
 clear Z A C1 C2 C3 h0 O
 generalize xV (sV (F n)) k=rr at*
 generalize sV (F n)=ss at*
 go_enter Tryz.func79,Tryz.ntmps79
 go_wp2_with fail
 refine Calls.mono (uH Q) ?_
 rintro e w1 ⟨rfl,K⟩
 have B:=aa K
 clear Q K
 go_wp2_with fail
 refine(uH K2 _).mono ?_
 rintro e w2 ⟨rfl,rfl⟩
 clear K2
 go_wp2_with fail
 refine(uH K3 _).mono ?_
 rintro e w2 ⟨rfl,L⟩
 have B2:=aa ((uH B).trans (L.mono (uH B).size))
 clear K3 L B
 go_wp2_with fail
 go_loopw[5,6] (fun t i wr=>∃j:Nat,j≤n∧i=.int .i64 j∧t=.int .u64 (F j:Nat)∧Hid (Below w.heap.size w wr)) (fun _ i _=>n-(intOf i).toNat)
 case atStart=>exact⟨0,Nat.zero_le _,rfl,by rw[uH HD];rfl,B2⟩
 case round=>
  clear B2
  obtain⟨j,hj,rfl,rfl,D⟩:=hrel
  by_cases G:j<n
  ·have aj:(j:Int)<(n:Int):=by omega
   obtain⟨b,ax,Y,hb,hc⟩:=((uH HI).below D.out).ne (by rw[uH HN];omega)
   have am:=hc j (by rw[uH HN];exact G)
   have l:=(uH HI).lt j
   have D1:=aa (fun w'=>mf (aL I j) (-k) w' l (by have:=uH HK;omega))
   have D2:=aa (fun w'=>jo (xV (aL I j) (-k)) (xV (aL I j) (-k)) w' (pZ _ _ l) (pZ _ _ l))
   have D3:=aa (fun w'=>qe (F j) (mV (xV (aL I j) (-k)) (xV (aL I j) (-k))) w' (uH HL j) (iZ _ _))
   have eV:=aa (uH HS j G)
   subst Y
   clear hc l
   generalize aV (F j) (mV (xV (aL I j) (-k)) (xV (aL I j) (-k)))=o at*
   generalize mV (xV (aL I j) (-k)) (xV (aL I j) (-k))=p at*
   generalize xV (aL I j) (-k)=t at*
   generalize aL I j=x at*
   go_wp2_with fail
   refine(uH D1 _).mono ?_
   rintro e w3 ⟨rfl,f⟩
   have z:=aa (D.out.trans (f.mono D.out.size))
   clear f D1 D
   go_wp2_with fail
   refine(uH D2 _).mono ?_
   rintro e w4 ⟨rfl,h⟩
   have H:=aa ((uH z).trans (h.mono (uH z).size))
   clear h D2 z
   go_wp2_with fail
   refine(uH D3 _).mono ?_
   rintro e w5 ⟨rfl,M⟩
   have B5:=aa ((uH H).trans (M.mono (uH H).size))
   clear M D3 H
   go_wp2_with fail
   go_round
   case rel=>exact⟨j+1,by omega,by go_num,by rw[uH eV],B5⟩
   case measure=>simp[intOf];omega
  ·have X:j=n:=by omega
   subst X
   go_wp2_with fail
   refine(uH U _).mono ?_
   rintro e w3 ⟨rfl,f⟩
   have z:=aa (D.out.trans (f.mono D.out.size))
   clear f U D
   go_wp2_with fail
   refine(uH V _).mono ?_
   rintro e w4 ⟨rfl,h⟩
   have H:=aa ((uH z).trans (h.mono (uH z).size))
   clear h V z
   go_wp2
   exact bodyPost_ret (v:=.int .u64 (rr:Nat)) (by simp[results,Tryz.results79,go_sem]) rfl ⟨rfl,uH H⟩
theorem jY(d:Option Addr)(c:Nat)(I:List Int)(w:World)(t:ad w d c I)(z:I.length≤35184372088830):
  Calls Tryz.prog 79 #[.slice d I.length c] w fun e w'=>e=.returned (.int .u64 (Gg I:Nat))∧Below w.heap.size w w':=by
 have l:=pp d c I w t z
 have m:=ot I I.length
 have f:=fun w'=>cr (jp I I.length) w' m
 unfold Gg
 by_cases h:jp I I.length=0
 ·rw[if_pos (.inl h)]
  exact oy d _ c _ _ w (.inl h) l f
 cases hf:ap (jp I I.length)
 ·rw[hf]at f
  rw[if_pos (.inr rfl)]
  exact oy d _ c _ _ w (.inr ⟨h,rfl⟩) l f
 ·rw[hf]at f
  rw[if_neg (fun e=>e.elim h (fun e=>by cases e))]
  have A:=ou _ m
  exact tt d c _ _ I w t z h (by omega) l f (fun w'=>yk _ w' m)
def JM(I:List Int):Nat→Int
 |0=>0
 |k+1=>JM I k+fZ (aL I k)*fZ (aL I k)
end Go.Proofs.YtnnfjeieennffaaGreatDoor
