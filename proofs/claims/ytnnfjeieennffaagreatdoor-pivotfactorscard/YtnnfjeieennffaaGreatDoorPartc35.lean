/- Part 35 of the texts. -/
import Derived.Test.YtnnfjeieennffaaGreatDoorPartc34
import Derived.DeepKeys4
set_option maxHeartbeats 4000000
set_option maxRecDepth 20000
namespace Go.Proofs.YtnnfjeieennffaaGreatDoor
def JV:Nat:=80
def JW:Nat:=4294967296^JV
def NB(k:Nat):Nat:=Gi k*JW^k
open Go.RowKit
attribute [local go_sem ↓] Go.wp_at_zero Go.wp_at_succ
def mP(r c:Int)(I:List Int):Int:=if lH r c I.length=true then(if gA I I.length=true then 0 else 4)else 1
theorem oD(r c:Int)(G:Option Addr)(d:Nat)(I:List Int)(w:World)(hI:ad w G d I)(hn:I.length≤35184372088830):
  Calls Tryz.prog 30 #[.agg #[.int .i64 r,.int .i64 c,.slice G I.length d]] w fun e w'=>e=.returned (.int .i64 (mP r c I))∧Below w.heap.size w w':=by
 have m:=aa (fun w'=>jX r c G I.length d w' hn)
 have b0:=ac w (.cells #[.int .i64 r,.int .i64 c,.slice G I.length d] 24)
 have A:=aa b0;have U:=aa (aw.new w (.int .i64 r) (.int .i64 c) (.slice G I.length d));have HI:=aa hI
 clear b0 hI
 cases ho:lH r c I.length
 ·rw[ho]at m
  have e:mP r c I=1:=by unfold mP;rw[ho];rfl
  rw[e]
  rw[if_neg (by decide)]at m
  clear e ho
  go_enter Tryz.func30,Tryz.ntmps30
  go_wp2_with fail
  refine(uH m _).mono ?_
  rintro e w1 ⟨rfl,f⟩
  clear m
  go_wp2
  go_ret
  exact⟨rfl,(uH A).trans (f.mono (uH A).size)⟩
 ·rw[ho]at m
  rw[if_pos rfl]at m
  have e:mP r c I=if gA I I.length=true then 0 else 4:=by unfold mP;rw[ho];rfl
  rw[e]
  clear e ho
  obtain⟨N,t⟩:∃N:Int,(if gA I I.length=true then 0 else 4)=N:=⟨_,rfl⟩
  rw[t]
  obtain⟨n,z⟩:∃n,I.length=n:=⟨_,rfl⟩
  have HN:=aa z
  rw[z]at m A U hn t⊢
  have FE:=aa t
  clear z t
  go_enter Tryz.func30,Tryz.ntmps30
  go_wp2_with fail
  refine(uH m _).mono ?_
  rintro e w1 ⟨rfl,f⟩
  have O:=aa ((uH A).trans (f.mono (uH A).size));have X1:=aa ((uH U).all f)
  clear m A U f
  have Q:=(uH X1).c2
  go_wp2_with fail
  go_loopw[13] (fun i wr=>∃k:Nat,k≤n∧i=.int .i64 k∧Hid (Below w1.heap.size w1 wr)∧Hid (gA I k=true)) (fun i _=>n-(intOf i).toNat)
  case atStart=>exact⟨0,Nat.zero_le _,rfl,Below.refl _ _,rfl⟩
  case round=>
   clear Q
   obtain⟨k,hk,rfl,M,hF⟩:=hrel
   have Q:=((uH X1).all (uH M)).c2
   by_cases V:k<n
   ·have ae:(k:Int)<(n:Int):=by omega
    have X:=aa ((uH O).trans ((uH M).mono (uH O).size))
    obtain⟨b,aj,Z,hb,hc⟩:=((uH HI).below (uH X)).ne (by rw[uH HN];omega)
    have H:=hc k (by rw[uH HN];exact V)
    have K:=(uH HI).lt k
    have D:=aa (fun w'=>d7 (aL I k) w' K)
    have F:=aa (show gA I (k+1)=(gA I k&&ap (aL I k))from rfl)
    subst Z
    clear hc K hb
    cases hf:ap (aL I k)
    ·rw[hf]at D F
     have e:gA I n=false:=by
      cases h:gA I n
      ·rfl
      ·have:=tr I n (k+1) (by omega) h
       rw[uH F,Bool.and_false]at this
       cases this
     have E4:=aa (show(4:Int)=N from by rw[←uH FE,if_neg (by rw[e];decide)])
     clear e F hf
     generalize aL I k=x at*
     go_wp2_with fail
     refine(uH D _).mono ?_
     rintro e w3 ⟨rfl,l⟩
     have L:=aa ((uH X).trans (l.mono (uH X).size))
     clear D l H Q
     go_wp2
     go_ret
     exact⟨aM (uH E4),uH L⟩
    ·rw[hf]at D F
     rw[uH hF,Bool.true_and]at F
     clear hf
     generalize aL I k=x at*
     go_wp2_with fail
     refine(uH D _).mono ?_
     rintro e w3 ⟨rfl,l⟩
     have L:=aa ((uH M).trans (l.mono (uH M).size))
     clear D l H Q
     go_wp2
     go_round
     case rel=>exact⟨k+1,by omega,by go_num,L,F⟩
     case measure=>simp[intOf];omega
   ·have Y:k=n:=by omega
    subst Y
    have E0:=aa (show(0:Int)=N from by rw[←uH FE,if_pos (uH hF)])
    have L:=aa ((uH O).trans ((uH M).mono (uH O).size))
    go_wp2
    go_ret
    exact⟨aM (uH E0),uH L⟩
def jx(x:Int):Value:=.int .i64 x
theorem wW:(Tryz.prog.info? 3).map (fun i=>(i.zero,i.size,i.bytes))=some (some (.int .i64 0),1,8):=by kernel_rfl
theorem tw{w:World}{f n:Nat}{v:Value}{I:List Int}(h:w.ownsRow f 3 1 v n (I.map jx))(z:∀x∈I,-9223372036854775808≤x∧x≤9223372036854775807):∃m d,v=.slice m I.length d∧bH w m d I:=by
 have D:I.length=n:=by have:=h.1;simpa using this
 rcases h.2 with⟨l,H⟩|⟨g,d,F,l,K,t,L,M,N,G⟩
 ·have:I= []:=List.length_eq_zero_iff.1 (by omega)
  subst this
  exact⟨none,0,l,⟨by simp,by simp,.inl rfl⟩⟩
 ·refine⟨some ⟨g,0,none⟩,d,by rw[D];exact l,⟨by omega,z,.inr ⟨g,0,rfl,(Array.getElem?_eq_some_iff.1 t).1,fun i A=>?_⟩⟩⟩
  have q:(I.map jx)[i]? =some (.int .i64 (I[i]?.getD 0)):=by
   rw[List.getElem?_map,List.getElem?_eq_getElem A];rfl
  rw[←G,List.getElem?_take,if_pos (by omega)]at q
  rw[cell_of_row w g _ _ _ _ t,Nat.zero_add]
  simpa using q
def lK(n:Nat):List Int:=(List.range n).map (fun i:Nat=>(i:Int))
theorem tC(n:Nat):lK (n+1)=lK n++[(n:Int)]:=by simp[lK,List.range_succ]
theorem pq(n:Nat):(lK n).length=n:=by simp[lK]
end Go.Proofs.YtnnfjeieennffaaGreatDoor
namespace Go.Proofs.YtnnfjeieennffaaGreatDoor
open Go.RowKit
theorem bH.nil(w:World)(f:Option Addr)(d:Nat):bH w f d []:=⟨by simp,by simp,.inl rfl⟩
end Go.Proofs.YtnnfjeieennffaaGreatDoor
namespace Go.Proofs.YtnnfjeieennffaaGreatDoor
def jy(xs:List Nat):Bool:=xs.all (fun x=>decide (fK x=0))
def mQ:List Nat→Bool
 | []=>false
 |x::xs=>if fK x=0 then mQ xs else fS x
def gK(a:Nat)(xs:List Nat):Nat:=if mQ (a::xs)=true then jn (a::xs)else fN (jn (a::xs))
def jZ(a:Nat)(xs:List Nat):Nat:=aV a (fN (gK a xs))
def Cp:List Nat→Nat
 | []=>0
 |a::xs=>if jy xs=true then a else gK a xs
def mq:List Nat→Nat
 | []=>0
 |a::xs=>if jy xs=true then 0 else dV (aV (gK a xs) (fN a)) (gK a xs)
def jI:List Nat→List Nat
 | []=>[]
 |a::xs=>4607182418800017408::xs.map (fun x=>if jy xs=true then 0 else dV x (jZ a xs))
def yV:List Nat→Bool
 | []=>true
 |a::xs=>jy xs||(ap (gK a xs)&&ap (jZ a xs))
theorem cE(d:List Nat):aT (az d)=d:=by
 unfold aT az
 rw[List.map_map]
 exact List.map_id'' (fun x=>by simp) d
theorem lL(d:List Nat):jn d<18446744073709551616:=by
 have:=BS (az d)
 rwa[iJ,cE]at this
theorem gF(a:Nat)(d:List Nat):gK a d<18446744073709551616:=by
 unfold gK
 split
 ·exact lL _
 ·exact kh _ (lL _)
theorem oF(a:Nat)(d:List Nat)(f:a<18446744073709551616):jZ a d<18446744073709551616:=nI _ _ f (kh _ (gF _ _))
theorem Cq(d:List Nat)(h:∀x∈d,x<18446744073709551616):Cp d<18446744073709551616:=by
 match d with
 | []=>decide
 |a::d=>
  show(if jy d=true then a else gK a d)<_
  split
  ·exact h a List.mem_cons_self
  ·exact gF _ _
theorem rf(d:List Nat):mq d<18446744073709551616:=by
 match d with
 | []=>decide
 |a::d=>
  show(if jy d=true then 0 else dV (aV (gK a d) (fN a)) (gK a d))<_
  split
  ·decide
  ·exact wE _ _
theorem mR(d:List Nat):(jI d).length=d.length:=by
 match d with
 | []=>rfl
 |a::d=>simp[jI]
theorem Cr{d:List Nat}(h:jy d=true):∀x∈d,fK x=0:=fun x f=>of_decide_eq_true (List.all_eq_true.1 h x f)
end Go.Proofs.YtnnfjeieennffaaGreatDoor
