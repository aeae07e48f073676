/- Part 33 of the texts. -/
import Derived.Test.YtlnphkioddknfaaGreatDoorParty32
import Derived.DeepKeys4
set_option maxHeartbeats 4000000
set_option maxRecDepth 20000
namespace Go.Proofs.YtlnphkioddknfaaGreatDoor
open Go.RowKit
structure Nm where
 neg:Bool
 ao:Option Addr
 cap:Nat
 L:List Nat
structure Rw where
 ao:Option Addr
 cap:Nat
 R:List Nm
def Nm.nil:Nm:=⟨false,none,0,[]⟩
def Rw.nil:Rw:=⟨none,0,[]⟩
def JK(R:List Nm)(k:Nat):Nm:=R[k]?.getD Nm.nil
def JL(M:List Rw)(i:Nat):Rw:=M[i]?.getD Rw.nil
end Go.Proofs.YtlnphkioddknfaaGreatDoor
namespace Go.Proofs.YtlnphkioddknfaaGreatDoor
def FS(a:Nat→Nat→Int)(t:Nat→Int):Nat→Nat→Int
 |0=>fun _=>0
 |k+1=>fun c=>1*FS a t k c+t k*a k c
def Gu:Nat→Nat
 |0=>1
 |n+1=>(n+1)*Gu n
def JQ:Nat:=80
def JR:Nat:=4294967296^JQ
def NB(k:Nat):Nat:=Gu k*JR^k
open Go.RowKit
attribute [local go_sem ↓] Go.wp_at_zero Go.wp_at_succ
def gG(r c:Int)(I:List Int):Int:=if i9 r c I.length=true then(if fu I I.length=true then 0 else 4)else 1
theorem iU(r c:Int)(ao:Option Addr)(cap:Nat)(I:List Int)(w:World)(Z:ac w ao cap I)(hn:I.length≤35184372088830):
  Calls Tryz.prog 56 #[.agg #[.int .i64 r,.int .i64 c,.slice ao I.length cap]] w fun e D=>e=.returned (.int .i64 (gG r c I))∧Below w.heap.size w D:=by
 have l:=aa (fun D=>kh r c ao I.length cap D hn)
 have b0:=ab w (.cells #[.int .i64 r,.int .i64 c,.slice ao I.length cap] 24)
 have y:=aa b0;have O:=aa (aq.new w (.int .i64 r) (.int .i64 c) (.slice ao I.length cap));have HI:=aa Z
 clear b0 Z
 cases ho:i9 r c I.length
 ·rw[ho]at l
  have e:gG r c I=1:=by unfold gG;rw[ho];rfl
  rw[e]
  rw[if_neg (by decide)]at l
  clear e ho
  go_enter Tryz.func56,Tryz.ntmps56
  go_wp2_with fail
  refine(uH l _).mono ?_
  rintro e Y ⟨rfl,d⟩
  clear l
  go_wp2
  go_ret
  exact⟨rfl,(uH y).trans (d.mono (uH y).size)⟩
 ·rw[ho]at l
  rw[if_pos rfl]at l
  have e:gG r c I=if fu I I.length=true then 0 else 4:=by unfold gG;rw[ho];rfl
  rw[e]
  clear e ho
  obtain⟨L,m⟩:∃L:Int,(if fu I I.length=true then 0 else 4)=L:=⟨_,rfl⟩
  rw[m]
  obtain⟨n,t⟩:∃n,I.length=n:=⟨_,rfl⟩
  have HN:=aa t
  rw[t]at l y O hn m⊢
  have FE:=aa m
  clear t m
  go_enter Tryz.func56,Tryz.ntmps56
  go_wp2_with fail
  refine(uH l _).mono ?_
  rintro e Y ⟨rfl,d⟩
  have M:=aa ((uH y).trans (d.mono (uH y).size));have X1:=aa ((uH O).all d)
  clear l y O d
  have N:=(uH X1).c2
  go_wp2_with fail
  go_loopw[13] (fun i wr=>∃k:Nat,k≤n∧i=.int .i64 k∧Hid (Below Y.heap.size Y wr)∧Hid (fu I k=true)) (fun i _=>n-(intOf i).toNat)
  case atStart=>exact⟨0,Nat.zero_le _,rfl,Below.refl _ _,rfl⟩
  case round=>
   clear N
   obtain⟨k,hk,rfl,K,hF⟩:=hrel
   have N:=((uH X1).all (uH K)).c2
   by_cases Q:k<n
   ·have ae:(k:Int)<(n:Int):=by omega
    have U:=aa ((uH M).trans ((uH K).mono (uH M).size))
    obtain⟨b,aj,X,hb,hc⟩:=((uH HI).below (uH U)).ne (by rw[uH HN];omega)
    have F:=hc k (by rw[uH HN];exact Q)
    have G:=(uH HI).lt k
    have z:=aa (fun D=>d7 (aM I k) D G)
    have A:=aa (show fu I (k+1)=(fu I k&&aC (aM I k))from rfl)
    subst X
    clear hc G hb
    cases hf:aC (aM I k)
    ·rw[hf]at z A
     have e:fu I n=false:=by
      cases h:fu I n
      ·rfl
      ·have:=tg I n (k+1) (by omega) h
       rw[uH A,Bool.and_false]at this
       cases this
     have E4:=aa (show(4:Int)=L from by rw[←uH FE,if_neg (by rw[e];decide)])
     clear e A hf
     generalize aM I k=x at*
     go_wp2_with fail
     refine(uH z _).mono ?_
     rintro e w3 ⟨rfl,f⟩
     have H:=aa ((uH U).trans (f.mono (uH U).size))
     clear z f F N
     go_wp2
     go_ret
     exact⟨aQ (uH E4),uH H⟩
    ·rw[hf]at z A
     rw[uH hF,Bool.true_and]at A
     clear hf
     generalize aM I k=x at*
     go_wp2_with fail
     refine(uH z _).mono ?_
     rintro e w3 ⟨rfl,f⟩
     have H:=aa ((uH K).trans (f.mono (uH K).size))
     clear z f F N
     go_wp2
     go_round
     case rel=>exact⟨k+1,by omega,by go_num,H,A⟩
     case measure=>simp[intOf];omega
   ·have V:k=n:=by omega
    subst V
    have E0:=aa (show(0:Int)=L from by rw[←uH FE,if_pos (uH hF)])
    have H:=aa ((uH M).trans ((uH K).mono (uH M).size))
    go_wp2
    go_ret
    exact⟨aQ (uH E0),uH H⟩
end Go.Proofs.YtlnphkioddknfaaGreatDoor
namespace Go.Proofs.YtlnphkioddknfaaGreatDoor
def jN(xs:List Nat):Bool:=xs.all (fun x=>decide (fK x=0))
def mI:List Nat→Bool
 | []=>false
 |x::xs=>if fK x=0 then mI xs else fS x
def gO(a:Nat)(xs:List Nat):Nat:=if mI (a::xs)=true then pP (a::xs)else fN (pP (a::xs))
def ki(a:Nat)(xs:List Nat):Nat:=aV a (fN (gO a xs))
def DP:List Nat→Nat
 | []=>0
 |a::xs=>if jN xs=true then a else gO a xs
def mJ:List Nat→Nat
 | []=>0
 |a::xs=>if jN xs=true then 0 else dV (aV (gO a xs) (fN a)) (gO a xs)
def kp:List Nat→List Nat
 | []=>[]
 |a::xs=>4607182418800017408::xs.map (fun x=>if jN xs=true then 0 else dV x (ki a xs))
def Da:List Nat→Bool
 | []=>true
 |a::xs=>jN xs||(aC (gO a xs)&&aC (ki a xs))
theorem cR(d:List Nat):aU (ar d)=d:=by
 unfold aU ar
 rw[List.map_map]
 exact List.map_id'' (fun x=>by simp) d
theorem oo(d:List Nat):pP d<18446744073709551616:=by
 have:=Ih (ar d)
 rwa[mE,cR]at this
theorem gC(a:Nat)(d:List Nat):gO a d<18446744073709551616:=by
 unfold gO
 split
 ·exact oo _
 ·exact jR _ (oo _)
theorem oq(a:Nat)(d:List Nat)(f:a<18446744073709551616):ki a d<18446744073709551616:=kG _ _ f (jR _ (gC _ _))
theorem Db(d:List Nat)(h:∀x∈d,x<18446744073709551616):DP d<18446744073709551616:=by
 match d with
 | []=>decide
 |a::d=>
  show(if jN d=true then a else gO a d)<_
  split
  ·exact h a List.mem_cons_self
  ·exact gC _ _
theorem qZ(d:List Nat):mJ d<18446744073709551616:=by
 match d with
 | []=>decide
 |a::d=>
  show(if jN d=true then 0 else dV (aV (gO a d) (fN a)) (gO a d))<_
  split
  ·decide
  ·exact nA _ _
theorem q8(d:List Nat):(kp d).length=d.length:=by
 match d with
 | []=>rfl
 |a::d=>simp[kp]
theorem Dc{d:List Nat}(h:jN d=true):∀x∈d,fK x=0:=fun x f=>of_decide_eq_true (List.all_eq_true.1 h x f)
end Go.Proofs.YtlnphkioddknfaaGreatDoor
