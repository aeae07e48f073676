/- Part 46 of the texts. -/
import Derived.Test.YtlnphkioddknfaaGreatDoorParty44
set_option maxHeartbeats 16000000
set_option maxRecDepth 20000
namespace Go.Proofs.YtlnphkioddknfaaGreatDoor
open Go.RowKit
attribute [local go_sem ↓] Go.wp_at_zero Go.wp_at_succ
theorem wx(r c n cap m s:Nat)(ao:Option Addr)(D A G:Nat→Nat)(O:Nat→Int)(o:Bool)(w:World)(hr:r≤6)(_hc:c≤6)(hm:min r c=m)(I:G 0=0)
  (C1:∀d k,Below w.heap.size w d→k<m→Calls Tryz.prog 42 #[.agg #[.int .i64 r,.int .i64 c,.slice ao n cap],.int .i64 (k:Nat),.int .i64 (k:Nat)] d fun e y=>e=.returned (.int .u64 (D k:Nat))∧Below d.heap.size d y)
  (C2:∀d k,k<m→Calls Tryz.prog 67 #[.int .u64 (D k:Nat)] d fun e y=>e=.returned (.int .u64 (A k:Nat))∧Below d.heap.size d y)
  (C3:∀d k,k<m→Calls Tryz.prog 66 #[.int .u64 (G k:Nat),.int .u64 (A k:Nat)] d fun e y=>e=.returned (.int .u64 (G (k+1):Nat))∧Below d.heap.size d y)
  (C4:∀d,Calls Tryz.prog 69 #[.int .u64 (G m:Nat),.int .i64 (-40)] d fun e y=>e=.returned (.int .u64 (s:Nat))∧Below d.heap.size d y)
  (C5:∀d k,k<m→Calls Tryz.prog 68 #[.int .u64 s,.int .u64 (A k:Nat)] d fun e y=>(∃b:Bool,e=.returned (.tuple #[.int .i64 (O k),.bool b]))∧Below d.heap.size d y)
  (X:∀k,k<m→0≤O k→o=true) (hn:(∀k,k<m→O k<0)→o=false):
  Calls Tryz.prog 20 #[.agg #[.int .i64 r,.int .i64 c,.slice ao n cap]] w fun e d=>e=.returned (.bool o)∧Below w.heap.size w d:=by
 have HB:=aa (ab w (.cells #[.int .i64 r,.int .i64 c,.slice ao n cap] 24))
 have HX:=aa (aq.new w (.int .i64 r) (.int .i64 c) (.slice ao n cap))
 have K1:=aa C1;have K2:=aa C2;have K3:=aa C3;have K4:=aa C4;have K5:=aa C5;have HY:=aa X;have HN:=aa hn
 have U:=aa hm
 have G0:=aa I
 have H:((G 0:Nat):Int)=0:=by rw[I];rfl
 clear C1 C2 C3 C4 C5 X hn hm I
 go_enter Tryz.func20,Tryz.ntmps20
 go_wp2_with fail
 go_loopw[3,4] (fun g a wr=>∃k:Nat,k≤m∧g=.int .u64 (G k:Nat)∧a=.int .i64 k∧Hid (aq wr w.heap.size (.int .i64 r) (.int .i64 c) (.slice ao n cap))∧Hid (Below w.heap.size w wr)) (fun _ a _=>m-(intOf a).toNat)
 case atStart=>exact⟨0,Nat.zero_le _,by rw[H],rfl,HX,HB⟩
 case round=>
  clear HX HB H
  obtain⟨k,hk,rfl,rfl,l,t⟩:=hrel
  by_cases h:k<m
  ·have ae:(k:Int)<(r:Int):=by have:=uH U;omega
   have aj:(k:Int)<(c:Int):=by have:=uH U;omega
   have Z:=aa (fun d z=>uH K1 d k z h);have D2:=aa (fun d=>uH K2 d k h);have D3:=aa (fun d=>uH K3 d k h)
   generalize D k=dk at*
   generalize A k=ak at*
   generalize a2:G k=gk at*
   generalize V:G (k+1)=g1 at*
   have am:=aa V
   clear a2 V
   have ax:IntKind.i64.wrap ((k:Int)+1)=(k:Int)+1:=aP _ (by omega)
   have K:=(uH l).c0;have L:=(uH l).c1;have y2:=(uH l).c2
   go_wp2_with fail
   clear K L y2
   refine(uH Z _ (uH t)).mono ?_
   rintro e w1 ⟨rfl,z⟩
   replace l:=aa ((uH l).all z)
   replace t:=aa ((uH t).trans (z.mono (uH t).size))
   clear z Z
   go_wp2_with fail
   refine(uH D2 _).mono ?_
   rintro e w2 ⟨rfl,z⟩
   replace l:=aa ((uH l).all z)
   replace t:=aa ((uH t).trans (z.mono (uH t).size))
   clear z D2
   go_wp2_with fail
   refine(uH D3 _).mono ?_
   rintro e w3 ⟨rfl,z⟩
   replace l:=aa ((uH l).all z)
   replace t:=aa ((uH t).trans (z.mono (uH t).size))
   clear z D3
   go_wp2_with fail
   go_round
   case rel=>exact⟨k+1,by omega,by rw[uH am],by go_num,l,t⟩
   case measure=>first|(simp[intOf];done)|(simp[intOf];omega)
  ·have F:k=m:=by omega
   rw[F]
   have M:(¬(m:Int)<(r:Int))∨((m:Int)<(r:Int)∧¬(m:Int)<(c:Int)):=by have:=uH U;omega
   clear h hk F
   generalize a4:G m=gm at*
   have K:=(uH l).c0;have L:=(uH l).c1
   rcases M with M|⟨M,a3⟩
   all_goals
    go_wp2_with fail
    clear K L
    go_loopw[5] (fun a wr=>∃k:Nat,k≤m∧a=.int .i64 k∧Hid (∀j,j<k→O j<0)∧Hid (aq wr w.heap.size (.int .i64 r) (.int .i64 c) (.slice ao n cap))∧Hid (Below w.heap.size w wr)) (fun a _=>m-(intOf a).toNat)
    case atStart=>exact⟨0,Nat.zero_le _,rfl,fun j hj=>absurd hj (Nat.not_lt_zero j),l,t⟩
    case round=>
     clear l t
     obtain⟨k,hk,rfl,hF,l,t⟩:=hrel
     by_cases h:k<m
     ·have ae:(k:Int)<(r:Int):=by have:=uH U;omega
      have aj:(k:Int)<(c:Int):=by have:=uH U;omega
      have Z:=aa (fun d (z:Below wr.heap.size wr d)=>uH K1 d k ((uH t).trans (z.mono (uH t).size)) h)
      have D2:=aa (fun d (_:Below wr.heap.size wr d)=>uH K2 d k h)
      have D4:=aa (fun d (_:Below wr.heap.size wr d)=>uH K4 d)
      have D5:=aa (fun d (_:Below wr.heap.size wr d)=>uH K5 d k h)
      have YY:=aa (uH HY k h)
      have GF:=aa (fun(e:O k<0)=>(show∀j,j<k+1→O j<0 from fun j hj=>by
       rcases Nat.lt_or_ge j k with g|g
       ·exact uH hF j g
       ·rw[show j=k by omega];exact e))
      generalize D k=dk at*
      generalize A k=ak at*
      generalize O k=ok at*
      have ax:IntKind.i64.wrap ((k:Int)+1)=(k:Int)+1:=aP _ (by omega)
      have K:=(uH l).c0;have L:=(uH l).c1;have y2:=(uH l).c2
      have HK:=aa (fun d (Y:Below wr.heap.size wr d)=>(show Below wr.heap.size wr d∧d.cell? ⟨w.heap.size,0,none⟩=some (.int .i64 (r:Nat))∧d.cell? ⟨w.heap.size,1,none⟩=some (.int .i64 (c:Nat))∧d.cell? ⟨w.heap.size,2,none⟩=some (.slice ao n cap)from⟨Y,ah K Y,ah L Y,ah y2 Y⟩))
      clear y2
      go_wp2_with fail
      clear K L
      go_region_held3(fun d=>Below wr.heap.size wr d∧d.cell? ⟨w.heap.size,0,none⟩=some (.int .i64 (r:Nat))∧d.cell? ⟨w.heap.size,1,none⟩=some (.int .i64 (c:Nat))∧d.cell? ⟨w.heap.size,2,none⟩=some (.slice ao n cap))
       (first|exact uH HK _ (Below.refl _ _).drew|exact uH HK _ (by assumption)|fail "KK")
       (first|(go_at_call 42;with_reducible refine Calls.mono (uH Z _ (And.left (by assumption))) ?_;rintro e Q ⟨rfl,f⟩;have N:Below wr.heap.size wr Q:=Below.trans (And.left (by assumption)) (f.mono (Below.size (And.left (by assumption))));clear f)|(go_at_call 67;with_reducible refine Calls.mono (uH D2 _ (And.left (by assumption))) ?_;rintro e Q ⟨rfl,f⟩;have N:Below wr.heap.size wr Q:=Below.trans (And.left (by assumption)) (f.mono (Below.size (And.left (by assumption))));clear f)|(go_at_call 69;with_reducible refine Calls.mono (uH D4 _ (And.left (by assumption))) ?_;rintro e Q ⟨rfl,f⟩;have N:Below wr.heap.size wr Q:=Below.trans (And.left (by assumption)) (f.mono (Below.size (And.left (by assumption))));clear f)|(go_at_call 68;with_reducible refine Calls.mono (uH D5 _ (And.left (by assumption))) ?_;rintro e Q ⟨⟨b,rfl⟩,f⟩;have N:Below wr.heap.size wr Q:=Below.trans (And.left (by assumption)) (f.mono (Below.size (And.left (by assumption))));clear f)|fail "NO ARM")
      all_goals
       by_cases aI:0≤ok
       ·have X:=aa (uH YY aI)
        go_wp2_with fail
        exact bodyPost_ret (v:=.bool true) (by simp[results,Tryz.results20,go_sem]) rfl ⟨by rw[uH X],(uH t).trans (Below.mono (And.left (by assumption)) (uH t).size)⟩
       ·have a0:=aa (uH GF (by omega))
        go_wp2_with fail
        go_round
        case rel=>exact⟨k+1,by omega,by go_num,a0,aa ((uH l).all (And.left (by assumption))),aa ((uH t).trans (Below.mono (And.left (by assumption)) (uH t).size))⟩
        case measure=>first|(simp[intOf];done)|(simp[intOf];omega)
     ·have F:k=m:=by omega
      have a1:=aa (uH HN (fun j hj=>uH hF j (by omega)))
      have K:=(uH l).c0;have L:=(uH l).c1
      rw[F]
      clear h hk F
      go_wp2_with fail
      exact bodyPost_ret (v:=.bool false) (by simp[results,Tryz.results20,go_sem]) rfl ⟨by rw[uH a1],uH t⟩
theorem uq(r c cap:Nat)(ao:Option Addr)(S:List Nat)(w:World)(h:Mx w ao cap r c S):
  Calls Tryz.prog 20 #[.agg #[.int .i64 r,.int .i64 c,.slice ao S.length cap]] w fun e d=>e=.returned (.bool (DB r c S))∧Below w.heap.size w d:=by
 have D:=mM r c S
 have F:∀k,bB c S k k<18446744073709551616:=fun k=>h.el_lt k k
 have A:∀a,fR a<18446744073709551616:=fun a=>by unfold fR;omega
 have l:∀m:List Nat,jl 0 m<18446744073709551616:=fun m=>by
  have e:=jJ (ar m)
  rw[cR]at e
  rw[←e]
  exact kg _ _
 have G:∀k,k<min r c→(gc r c S).take (k+1)=(gc r c S).take k++[bB c S k k]:=fun k f=>by
  rw[List.take_add_one]
  congr 1
  unfold gc
  rw[List.getElem?_map,List.getElem?_range f]
  rfl
 have H:(gc r c S).take (min r c)=gc r c S:=List.take_of_length_le (by rw[D];exact Nat.le_refl _)
 refine wx r c S.length cap (min r c) (xV (jl 0 (gc r c S)) (-40)) ao (fun k=>bB c S k k) (fun k=>fR (bB c S k k)) (fun k=>jl 0 ((gc r c S).take k)) (fun k=>cO (xV (jl 0 (gc r c S)) (-40)) (fR (bB c S k k))) (DB r c S) w h.2.2.1 h.2.2.2 rfl rfl (fun d k t f=>fW r c cap k k ao S d (h.below t) (by omega) (by omega)) (fun d k f=>(pQ _ d (F k)).mono ?_) (fun d k f=>?_) (fun d=>?_) (fun d k f=>(nO _ _ d (nM _ _ (l _)) (A _)).mono ?_) (fun k f z=>?_) (fun z=>?_)
 ·rintro e y ⟨rfl,rfl⟩
  exact⟨rfl,Below.refl _ _⟩
 ·have:=pX (jl 0 ((gc r c S).take k)) (fR (bB c S k k)) d (l _) (A _)
  rwa[←ti,←G k f]at this
 ·have:=jn (jl 0 (gc r c S)) (-40) d (l _) (by omega)
  show Calls _ _ #[.int .u64 (jl 0 ((gc r c S).take (min r c)):Nat),_] _ _
  rwa[H]
 ·rintro e y ⟨rfl,t⟩
  exact⟨⟨_,rfl⟩,t⟩
 ·unfold DB
  rw[List.any_eq_true]
  refine⟨bB c S k k,List.mem_map.2 ⟨k,List.mem_range.2 f,rfl⟩,?_⟩
  unfold Js
  rw[decide_eq_false (by omega)]
  rfl
 ·unfold DB
  rw[List.any_eq_false]
  intro x I
  obtain⟨k,f,rfl⟩:=List.mem_map.1 I
  have:=z k (List.mem_range.1 f)
  unfold Js
  rw[decide_eq_true (by omega)]
  decide
structure jV (wr:World) (H g:Nat) (p q:Nat) (so:Option Addr) (sd:Nat) (S:List Nat):Prop where
 box:aq wr g (.int .i64 p) (.int .i64 q) (.slice so S.length sd)
 bits:ac wr so sd (ar S)
 new:bH H so (ar S)
theorem jV.all{wr d:World}{H g p q:Nat}{f:Option Addr}{l:Nat}{S:List Nat}(h:jV wr H g p q f l S)(m:Below wr.heap.size wr d):jV d H g p q f l S:=⟨h.box.all m,h.bits.below m,h.new⟩
theorem jV.put{wr:World}{H g p q:Nat}{d:Option Addr}{f:Nat}{S:List Nat}(h:jV wr H g p q d f S){b k:Nat}{l:Int}(m:wr.cell? ⟨b,k,none⟩=some (.int .u64 l))(t:b<H)(z:Int):jV (wr.setCell ⟨b,k,none⟩ (.int .u64 z)) H g p q d f S:=
 ⟨h.box.other (p:=⟨b,k,none⟩) (h.box.away m) _,h.bits.far h.new t k _,h.new⟩
def ur(w':World)(ok:Bool)(r k c:Nat)(Q R:List Nat)(e:Ending):Prop:=
 (ok=true∧∃qo qc ro rc,e=.returned (.agg #[.int .i64 r,.int .i64 k,.slice qo Q.length qc,.int .i64 k,.int .i64 c,.slice ro R.length rc,.bool true])∧ac w' qo qc (ar Q)∧ac w' ro rc (ar R))∨
 (ok=false∧e=.returned (.agg #[.int .i64 0,.int .i64 0,.slice none 0 0,.int .i64 0,.int .i64 0,.slice none 0 0,.bool false]))
structure oK (w wr:World) (g:Nat) (r c n cap:Nat) (ao:Option Addr) (x0 x1:Int) (x2:Value) (x3 x4:Int) (x5:Value) (ok:Bool):Prop where
 bel:Below w.heap.size w wr
 a:aq wr w.heap.size (.int .i64 r) (.int .i64 c) (.slice ao n cap)
 res:cg wr (w.heap.size+1) (.int .i64 0) (.int .i64 0) (.slice none 0 0) (.int .i64 0) (.int .i64 0) (.slice none 0 0) (.bool false)
 t:cg wr g (.int .i64 x0) (.int .i64 x1) x2 (.int .i64 x3) (.int .i64 x4) x5 (.bool ok)
theorem oK.all{w wr f:World}{g r c n cap:Nat}{ao:Option Addr}{l m:Int}{y:Value}{z A:Int}{D:Value}{F:Bool}(h:oK w wr g r c n cap ao l m y z A D F)(d:Below wr.heap.size wr f):oK w f g r c n cap ao l m y z A D F:=
 ⟨h.bel.trans (d.mono h.bel.size),h.a.all d,h.res.all d,h.t.all d⟩
theorem wy(w:World)(r c n cap:Nat)(ao:Option Addr):Below w.heap.size w ((w.alloc (.cells #[.int .i64 r,.int .i64 c,.slice ao n cap] 24)).alloc (.cells #[.int .i64 0,.int .i64 0,.slice none 0 0,.int .i64 0,.int .i64 0,.slice none 0 0,.bool false] 89))∧aq ((w.alloc (.cells #[.int .i64 r,.int .i64 c,.slice ao n cap] 24)).alloc (.cells #[.int .i64 0,.int .i64 0,.slice none 0 0,.int .i64 0,.int .i64 0,.slice none 0 0,.bool false] 89)) w.heap.size (.int .i64 r) (.int .i64 c) (.slice ao n cap)∧cg ((w.alloc (.cells #[.int .i64 r,.int .i64 c,.slice ao n cap] 24)).alloc (.cells #[.int .i64 0,.int .i64 0,.slice none 0 0,.int .i64 0,.int .i64 0,.slice none 0 0,.bool false] 89)) (w.heap.size+1) (.int .i64 0) (.int .i64 0) (.slice none 0 0) (.int .i64 0) (.int .i64 0) (.slice none 0 0) (.bool false):=by
 have d:=ab w (.cells #[.int .i64 r,.int .i64 c,.slice ao n cap] 24)
 have m:=ad w (.cells #[.int .i64 r,.int .i64 c,.slice ao n cap] 24)
 have t:=aq.new w (.int .i64 r) (.int .i64 c) (.slice ao n cap)
 generalize w.alloc (.cells #[.int .i64 r,.int .i64 c,.slice ao n cap] 24)=l at*
 have f:=ab l (.cells #[.int .i64 0,.int .i64 0,.slice none 0 0,.int .i64 0,.int .i64 0,.slice none 0 0,.bool false] 89)
 have h:=cg.new l (.int .i64 0) (.int .i64 0) (.slice none 0 0) (.int .i64 0) (.int .i64 0) (.slice none 0 0) (.bool false)
 rw[m]at h
 exact⟨d.trans (f.mono d.size),t.all f,h⟩
theorem oK.held{w wr:World}{g r c n cap:Nat}{ao:Option Addr}{d f:Int}{l:Value}{m y:Int}{z:Value}{A:Bool}(h:oK w wr g r c n cap ao d f l m y z A):(wr.cell? ⟨w.heap.size,0,none⟩=some (.int .i64 (r:Nat))∧wr.cell? ⟨w.heap.size,1,none⟩=some (.int .i64 (c:Nat)))∧(wr.cell? ⟨g,0,none⟩=some (.int .i64 d)∧wr.cell? ⟨g,1,none⟩=some (.int .i64 f)∧wr.cell? ⟨g,2,none⟩=some l∧wr.cell? ⟨g,3,none⟩=some (.int .i64 m)∧wr.cell? ⟨g,4,none⟩=some (.int .i64 y)∧wr.cell? ⟨g,5,none⟩=some z):=⟨⟨h.a.c0,h.a.c1⟩,h.t.c0,h.t.c1,h.t.c2,h.t.c3,h.t.c4,h.t.c5⟩
theorem oK.put{w wr:World}{g r c n cap:Nat}{ao:Option Addr}{l m:Int}{y:Value}{z D:Int}{F:Value}{G:Bool}(h:oK w wr g r c n cap ao l m y z D F G)(H:w.heap.size+1<g)(u0 u1 u2 u3 u4 u5 u6:Value):((((((((wr.setCell ⟨w.heap.size+1,0,none⟩ u0).setCell ⟨w.heap.size+1,1,none⟩ u1).setCell ⟨w.heap.size+1,2,none⟩ u2).setCell ⟨w.heap.size+1,3,none⟩ u3).setCell ⟨w.heap.size+1,4,none⟩ u4).setCell ⟨w.heap.size+1,5,none⟩ u5).setCell ⟨w.heap.size+1,6,none⟩ u6).cell? ⟨w.heap.size,0,none⟩=some (.int .i64 (r:Nat))∧(((((((wr.setCell ⟨w.heap.size+1,0,none⟩ u0).setCell ⟨w.heap.size+1,1,none⟩ u1).setCell ⟨w.heap.size+1,2,none⟩ u2).setCell ⟨w.heap.size+1,3,none⟩ u3).setCell ⟨w.heap.size+1,4,none⟩ u4).setCell ⟨w.heap.size+1,5,none⟩ u5).setCell ⟨w.heap.size+1,6,none⟩ u6).cell? ⟨w.heap.size,1,none⟩=some (.int .i64 (c:Nat)))∧((((((((wr.setCell ⟨w.heap.size+1,0,none⟩ u0).setCell ⟨w.heap.size+1,1,none⟩ u1).setCell ⟨w.heap.size+1,2,none⟩ u2).setCell ⟨w.heap.size+1,3,none⟩ u3).setCell ⟨w.heap.size+1,4,none⟩ u4).setCell ⟨w.heap.size+1,5,none⟩ u5).setCell ⟨w.heap.size+1,6,none⟩ u6).cell? ⟨g,0,none⟩=some (.int .i64 l)∧(((((((wr.setCell ⟨w.heap.size+1,0,none⟩ u0).setCell ⟨w.heap.size+1,1,none⟩ u1).setCell ⟨w.heap.size+1,2,none⟩ u2).setCell ⟨w.heap.size+1,3,none⟩ u3).setCell ⟨w.heap.size+1,4,none⟩ u4).setCell ⟨w.heap.size+1,5,none⟩ u5).setCell ⟨w.heap.size+1,6,none⟩ u6).cell? ⟨g,1,none⟩=some (.int .i64 m)∧(((((((wr.setCell ⟨w.heap.size+1,0,none⟩ u0).setCell ⟨w.heap.size+1,1,none⟩ u1).setCell ⟨w.heap.size+1,2,none⟩ u2).setCell ⟨w.heap.size+1,3,none⟩ u3).setCell ⟨w.heap.size+1,4,none⟩ u4).setCell ⟨w.heap.size+1,5,none⟩ u5).setCell ⟨w.heap.size+1,6,none⟩ u6).cell? ⟨g,2,none⟩=some y∧(((((((wr.setCell ⟨w.heap.size+1,0,none⟩ u0).setCell ⟨w.heap.size+1,1,none⟩ u1).setCell ⟨w.heap.size+1,2,none⟩ u2).setCell ⟨w.heap.size+1,3,none⟩ u3).setCell ⟨w.heap.size+1,4,none⟩ u4).setCell ⟨w.heap.size+1,5,none⟩ u5).setCell ⟨w.heap.size+1,6,none⟩ u6).cell? ⟨g,3,none⟩=some (.int .i64 z)∧(((((((wr.setCell ⟨w.heap.size+1,0,none⟩ u0).setCell ⟨w.heap.size+1,1,none⟩ u1).setCell ⟨w.heap.size+1,2,none⟩ u2).setCell ⟨w.heap.size+1,3,none⟩ u3).setCell ⟨w.heap.size+1,4,none⟩ u4).setCell ⟨w.heap.size+1,5,none⟩ u5).setCell ⟨w.heap.size+1,6,none⟩ u6).cell? ⟨g,4,none⟩=some (.int .i64 D)∧(((((((wr.setCell ⟨w.heap.size+1,0,none⟩ u0).setCell ⟨w.heap.size+1,1,none⟩ u1).setCell ⟨w.heap.size+1,2,none⟩ u2).setCell ⟨w.heap.size+1,3,none⟩ u3).setCell ⟨w.heap.size+1,4,none⟩ u4).setCell ⟨w.heap.size+1,5,none⟩ u5).setCell ⟨w.heap.size+1,6,none⟩ u6).cell? ⟨g,5,none⟩=some F):=by
 have d:w.heap.size≠w.heap.size+1:=by omega
 have f:g≠w.heap.size+1:=by omega
 have A:=(((((((h.a.other (p:=⟨w.heap.size+1,0,none⟩) d u0).other (p:=⟨w.heap.size+1,1,none⟩) d u1).other (p:=⟨w.heap.size+1,2,none⟩) d u2).other (p:=⟨w.heap.size+1,3,none⟩) d u3).other (p:=⟨w.heap.size+1,4,none⟩) d u4).other (p:=⟨w.heap.size+1,5,none⟩) d u5).other (p:=⟨w.heap.size+1,6,none⟩) d u6)
 have T:=(((((((h.t.other (p:=⟨w.heap.size+1,0,none⟩) f u0).other (p:=⟨w.heap.size+1,1,none⟩) f u1).other (p:=⟨w.heap.size+1,2,none⟩) f u2).other (p:=⟨w.heap.size+1,3,none⟩) f u3).other (p:=⟨w.heap.size+1,4,none⟩) f u4).other (p:=⟨w.heap.size+1,5,none⟩) f u5).other (p:=⟨w.heap.size+1,6,none⟩) f u6)
 exact⟨⟨A.c0,A.c1⟩,T.c0,T.c1,T.c2,T.c3,T.c4,T.c5⟩
theorem DN(r c n nq k cap:Nat)(ao:Option Addr)(Q R V X:List Nat)(ok:Bool)(w:World)(hk:k=min r c)(hr:r≤6)(hc:c≤6)
  (C1:∀A,Below w.heap.size w A→Calls Tryz.prog 99 #[.agg #[.int .i64 r,.int .i64 c,.slice ao n cap]] A fun e M=>vL M ok r c nq n Q R e∧Below A.heap.size A M)
  (C2:∀A Z qc,ac A Z qc (ar Q)→Calls Tryz.prog 128 #[.agg #[.int .i64 r,.int .i64 r,.slice Z nq qc],.int .i64 0,.int .i64 0,.int .i64 r,.int .i64 k] A fun e M=>∃po pc,e=.returned (.agg #[.int .i64 r,.int .i64 k,.slice po V.length pc])∧ac M po pc (ar V)∧Below A.heap.size A M)
  (C3:∀A ro rc,ac A ro rc (ar R)→Calls Tryz.prog 128 #[.agg #[.int .i64 r,.int .i64 c,.slice ro n rc],.int .i64 0,.int .i64 0,.int .i64 k,.int .i64 c] A fun e M=>∃po pc,e=.returned (.agg #[.int .i64 k,.int .i64 c,.slice po X.length pc])∧ac M po pc (ar X)∧Below A.heap.size A M):
  Calls Tryz.prog 74 #[.agg #[.int .i64 r,.int .i64 c,.slice ao n cap]] w fun e A=>ur A ok r k c V X e∧Below w.heap.size w A:=by
 obtain⟨hB,hA,hX⟩:=wy w r c n cap ao
 have HB:=aa hB;have HA:=aa hA;have HX:=aa hX
 have K1:=aa C1;have K2:=aa C2;have K3:=aa C3
 clear hB hA hX C1 C2 C3
 go_enter Tryz.func74,Tryz.ntmps74
 go_wp2_with fail
 refine(uH K1 _ (uH HB)).mono ?_
 rintro e w1 ⟨ax,H⟩
 have ae:=(uH HB).trans (H.mono (uH HB).size)
 have am:=(uH HA).all H
 have aj:=(uH HX).all H
 clear K1 HB HA HX H
 rcases ax with⟨rfl,Z,qc,ro,rc,rfl,bq,br⟩|⟨rfl,rfl⟩
 ·have ba:=ab w1 (.cells #[.int .i64 r,.int .i64 r,.slice Z nq qc,.int .i64 r,.int .i64 c,.slice ro n rc,.bool true] 89)
  have z:=aa (show oK w (w1.alloc (.cells #[.int .i64 r,.int .i64 r,.slice Z nq qc,.int .i64 r,.int .i64 c,.slice ro n rc,.bool true] 89)) w1.heap.size r c n cap ao r r (.slice Z nq qc) r c (.slice ro n rc) true from⟨ae.trans (ba.mono ae.size),am.all ba,aj.all ba,cg.new w1 _ _ _ _ _ _ _⟩)
  have O:=aa (bq.below ba);have U:=aa (br.below ba)
  have HG:=aa (show w.heap.size+1<w1.heap.size from aj.lt)
  clear ba ae am aj bq br
  have t6:=(uH z).t.c6
  have a0:=(uH z).a.c0;have a1:=(uH z).a.c1
  rcases(show((r:Int)≤(c:Int)∧k=r)∨((c:Int)<(r:Int)∧k=c) by omega)with⟨a2,rfl⟩|⟨a2,rfl⟩
  ·clear hk
   go_wp2_with fail
   clear t6 a0 a1
   generalize w1.heap.size=g at*
   refine au (fun W=>oK w W g k c n cap ao k k (.slice Z nq qc) k c (.slice ro n rc) true∧ac W Z qc (ar Q)∧ac W ro rc (ar R)) ⟨uH z,uH O,uH U⟩ ?_
   clear z O U
   rintro W ⟨st,bq,br⟩
   have hd:=(Below.refl W.heap.size W).drew
   have z:=aa (st.all hd);have O:=aa (bq.below hd);have U:=aa (br.below hd)
   clear st bq br hd
   refine wp_region_held_drew (S:=(fun A=>(A.cell? ⟨w.heap.size,0,none⟩=some (.int .i64 (k:Nat))∧A.cell? ⟨w.heap.size,1,none⟩=some (.int .i64 (c:Nat)))∧(A.cell? ⟨g,0,none⟩=some (.int .i64 (k:Nat))∧A.cell? ⟨g,1,none⟩=some (.int .i64 (k:Nat))∧A.cell? ⟨g,2,none⟩=some (.slice Z nq qc)∧A.cell? ⟨g,3,none⟩=some (.int .i64 (k:Nat))∧A.cell? ⟨g,4,none⟩=some (.int .i64 (c:Nat))∧A.cell? ⟨g,5,none⟩=some (.slice ro n rc)))) (by kernel_rfl) ?_ (fun y=>?_)
   ·exact(uH z).held
   refine wpAnyH_take (i:=0) (oi:={dst:=some 16,op:=Op.fieldAddr 89 (Operand.tmp 3) 0,type:=0,pos:= "ref.go:59",after:=#[],guard:=none}) (v:=(Value.pointer (some ⟨g,0,none⟩))) rfl (by kernel_rfl) (by kernel_rfl) (by kernel_rfl) (fun _ _ _ h=>h) (Or.inl ⟨by rfl,?_⟩) (by assumption) ?_
   ·(intro w d;(try dsimp only at d);go_simp)
   simp only[Act.put,List.setIfInBounds_toArray,List.set_cons_zero,List.set_cons_succ]
   refine wpAnyH_take (i:=1) (oi:={dst:=some 17,op:=Op.load 24 (Operand.tmp 16),type:=24,pos:= "ref.go:59",after:=#[{on:=0,ground:=Ground.data}],guard:=none}) (v:=(Value.agg #[.int .i64 (k:Nat),.int .i64 (k:Nat),.slice Z nq qc])) rfl (by kernel_rfl) (by kernel_rfl) (by kernel_rfl) (fun _ _ _ h=>h) (Or.inl ⟨by rfl,?_⟩) (by assumption) ?_
   ·(intro w d;(try dsimp only at d);go_simp)
   simp only[Act.put,List.setIfInBounds_toArray,List.set_cons_zero,List.set_cons_succ]
   refine wpAnyH_take (i:=2) (oi:={dst:=some 18,op:=Op.fieldAddr 24 (Operand.tmp 1) 0,type:=0,pos:= "ref.go:59",after:=#[],guard:=none}) (v:=(Value.pointer (some ⟨w.heap.size,0,none⟩))) rfl (by kernel_rfl) (by kernel_rfl) (by kernel_rfl) (fun _ _ _ h=>h) (Or.inl ⟨by rfl,?_⟩) (by assumption) ?_
   ·(intro w d;(try dsimp only at d);go_simp)
   simp only[Act.put,List.setIfInBounds_toArray,List.set_cons_zero,List.set_cons_succ]
   refine wpAnyH_take (i:=3) (oi:={dst:=some 19,op:=Op.load 3 (Operand.tmp 18),type:=3,pos:= "ref.go:59",after:=#[{on:=2,ground:=Ground.data}],guard:=none}) (v:=(Value.int .i64 (k:Nat))) rfl (by kernel_rfl) (by kernel_rfl) (by kernel_rfl) (fun _ _ _ h=>h) (Or.inl ⟨by rfl,?_⟩) (by assumption) ?_
   ·(intro w d;(try dsimp only at d);go_simp)
   simp only[Act.put,List.setIfInBounds_toArray,List.set_cons_zero,List.set_cons_succ]
   refine wpAnyH_take (i:=4) (oi:={dst:=some 20,op:=Op.move (Operand.tmp 4),type:=3,pos:= "ref.go:59",after:=#[],guard:=none}) (v:=(Value.int .i64 (k:Nat))) rfl (by kernel_rfl) (by kernel_rfl) (by kernel_rfl) (fun _ _ _ h=>h) (Or.inl ⟨by rfl,?_⟩) (by assumption) ?_
   ·(intro w d;(try dsimp only at d);go_simp)
   simp only[Act.put,List.setIfInBounds_toArray,List.set_cons_zero,List.set_cons_succ]
   refine wpAnyH_take (i:=6) (oi:={dst:=some 22,op:=Op.fieldAddr 89 (Operand.tmp 3) 1,type:=0,pos:= "ref.go:59",after:=#[],guard:=none}) (v:=(Value.pointer (some ⟨g,3,none⟩))) rfl (by kernel_rfl) (by kernel_rfl) (by kernel_rfl) (fun _ _ _ h=>h) (Or.inl ⟨by rfl,?_⟩) (by assumption) ?_
   ·(intro w d;(try dsimp only at d);go_simp)
   simp only[Act.put,List.setIfInBounds_toArray,List.set_cons_zero,List.set_cons_succ]
   refine wpAnyH_take (i:=7) (oi:={dst:=some 23,op:=Op.load 24 (Operand.tmp 22),type:=24,pos:= "ref.go:59",after:=#[{on:=6,ground:=Ground.data}],guard:=none}) (v:=(Value.agg #[.int .i64 (k:Nat),.int .i64 (c:Nat),.slice ro n rc])) rfl (by kernel_rfl) (by kernel_rfl) (by kernel_rfl) (fun _ _ _ h=>h) (Or.inl ⟨by rfl,?_⟩) (by assumption) ?_
   ·(intro w d;(try dsimp only at d);go_simp)
   simp only[Act.put,List.setIfInBounds_toArray,List.set_cons_zero,List.set_cons_succ]
   refine wpAnyH_take (i:=8) (oi:={dst:=some 24,op:=Op.move (Operand.tmp 4),type:=3,pos:= "ref.go:59",after:=#[],guard:=none}) (v:=(Value.int .i64 (k:Nat))) rfl (by kernel_rfl) (by kernel_rfl) (by kernel_rfl) (fun _ _ _ h=>h) (Or.inl ⟨by rfl,?_⟩) (by assumption) ?_
   ·(intro w d;(try dsimp only at d);go_simp)
   simp only[Act.put,List.setIfInBounds_toArray,List.set_cons_zero,List.set_cons_succ]
   refine wpAnyH_take (i:=9) (oi:={dst:=some 25,op:=Op.fieldAddr 24 (Operand.tmp 1) 1,type:=0,pos:= "ref.go:59",after:=#[],guard:=none}) (v:=(Value.pointer (some ⟨w.heap.size,1,none⟩))) rfl (by kernel_rfl) (by kernel_rfl) (by kernel_rfl) (fun _ _ _ h=>h) (Or.inl ⟨by rfl,?_⟩) (by assumption) ?_
   ·(intro w d;(try dsimp only at d);go_simp)
   simp only[Act.put,List.setIfInBounds_toArray,List.set_cons_zero,List.set_cons_succ]
   refine wpAnyH_take (i:=10) (oi:={dst:=some 26,op:=Op.load 3 (Operand.tmp 25),type:=3,pos:= "ref.go:59",after:=#[{on:=9,ground:=Ground.data}],guard:=none}) (v:=(Value.int .i64 (c:Nat))) rfl (by kernel_rfl) (by kernel_rfl) (by kernel_rfl) (fun _ _ _ h=>h) (Or.inl ⟨by rfl,?_⟩) (by assumption) ?_
   ·(intro w d;(try dsimp only at d);go_simp)
   simp only[Act.put,List.setIfInBounds_toArray,List.set_cons_zero,List.set_cons_succ]
   refine wpAnyH_ready (rs:=[5]) (by kernel_rfl) (by simp) ?_
   refine AllReadyH.cons (o:={dst:=some 21,op:=Op.call {callee:=Callee.value (Operand.func 128),args:=#[Operand.tmp 17,Operand.const (Value.int IntKind.i64 0),Operand.const (Value.int IntKind.i64 0),Operand.tmp 19,Operand.tmp 20],argTypes:=#[24,3,3,3,3]},type:=24,pos:= "ref.go:59",after:=#[{on:=1,ground:=Ground.data},{on:=3,ground:=Ground.data},{on:=4,ground:=Ground.data}],guard:=none}) rfl (fun K I=>?_) AllReadyH.nil
   go_simp
   refine(uH K2 _ _ _ (uH O)).mono ?_
   rintro e w5 ⟨D,F,rfl,hq,H⟩
   have L:=aa hq
   replace z:=aa ((uH z).all H)
   replace O:=aa ((uH O).below H)
   replace U:=aa ((uH U).below H)
   clear H hq
   go_wp2_with fail
   refine I.out _ _ ?_ (fun y=>?_)
   ·exact(uH z).held
   clear I K
   refine wpAnyH_ready (rs:=[11]) (by kernel_rfl) (by simp) ?_
   refine AllReadyH.cons (o:={dst:=some 27,op:=Op.call {callee:=Callee.value (Operand.func 128),args:=#[Operand.tmp 23,Operand.const (Value.int IntKind.i64 0),Operand.const (Value.int IntKind.i64 0),Operand.tmp 24,Operand.tmp 26],argTypes:=#[24,3,3,3,3]},type:=24,pos:= "ref.go:59",after:=#[{on:=7,ground:=Ground.data},{on:=8,ground:=Ground.data},{on:=10,ground:=Ground.data},{on:=5,ground:=Ground.chain}],guard:=none}) rfl (fun K I=>?_) AllReadyH.nil
   go_simp
   refine(uH K3 _ _ _ (uH U)).mono ?_
   rintro e aI ⟨l,m,rfl,hq,H⟩
   have N:=aa hq
   replace L:=aa ((uH L).below H)
   replace z:=aa ((uH z).all H)
   replace O:=aa ((uH O).below H)
   replace U:=aa ((uH U).below H)
   clear H hq
   have f:=(uH z).res
   have r0:=f.c0;have r1:=f.c1;have r2:=f.c2;have r3:=f.c3;have r4:=f.c4;have r5:=f.c5;have r6:=f.c6
   have f0:=f.free 0;have f1:=f.free 1;have f2:=f.free 2;have f3:=f.free 3;have f4:=f.free 4;have f5:=f.free 5;have f6:=f.free 6
   have G:=f.put (.int .i64 (k:Nat)) (.int .i64 (k:Nat)) (.slice D V.length F) (.int .i64 (k:Nat)) (.int .i64 (c:Nat)) (.slice l X.length m) (.bool true)
   have z0:=G.c0;have z1:=G.c1;have z2:=G.c2;have z3:=G.c3;have z4:=G.c4;have z5:=G.c5;have z6:=G.c6
   have BP:=aa (dj (uH z).bel (g:=w.heap.size+1) (by omega) (.int .i64 (k:Nat)) (.int .i64 (k:Nat)) (.slice D V.length F) (.int .i64 (k:Nat)) (.int .i64 (c:Nat)) (.slice l X.length m) (.bool true))
   have PQ:=aa (ga (uH L) f (.int .i64 (k:Nat)) (.int .i64 (k:Nat)) (.slice D V.length F) (.int .i64 (k:Nat)) (.int .i64 (c:Nat)) (.slice l X.length m) (.bool true))
   have PR:=aa (ga (uH N) f (.int .i64 (k:Nat)) (.int .i64 (k:Nat)) (.slice D V.length F) (.int .i64 (k:Nat)) (.int .i64 (c:Nat)) (.slice l X.length m) (.bool true))
   have Y:=aa (uH z).held
   have ak:=aa ((uH z).put (uH HG) (.int .i64 (k:Nat)) (.int .i64 (k:Nat)) (.slice D V.length F) (.int .i64 (k:Nat)) (.int .i64 (c:Nat)) (.slice l X.length m) (.bool true))
   clear f G z L N
   go_wp2_with fail
   refine I.out _ _ ?_ (fun y=>?_)
   ·exact uH Y
   clear I K
   refine wpAnyH_ready (rs:=[12]) (by kernel_rfl) (by simp) ?_
   refine AllReadyH.cons (o:={dst:=some 28,op:=Op.build 89 #[(0,Operand.tmp 21),(1,Operand.tmp 27),(2,Operand.const (Value.bool true))],type:=89,pos:= "ref.go:59",after:=#[{on:=5,ground:=Ground.data},{on:=11,ground:=Ground.data}],guard:=none}) rfl (fun K I=>?_) AllReadyH.nil
   go_simp
   refine I.out _ _ ?_ (fun y=>?_)
   ·exact uH Y
   clear I K
   refine wpAnyH_ready (rs:=[13]) (by kernel_rfl) (by simp) ?_
   refine AllReadyH.cons (o:={dst:=none,op:=Op.store 89 (Operand.tmp 2) (Operand.tmp 28),type:=0,pos:= "ref.go:59",after:=#[{on:=12,ground:=Ground.data},{on:=11,ground:=Ground.chain},{on:=0,ground:=Ground.phase},{on:=1,ground:=Ground.phase},{on:=2,ground:=Ground.phase},{on:=3,ground:=Ground.phase},{on:=4,ground:=Ground.phase},{on:=5,ground:=Ground.phase},{on:=6,ground:=Ground.phase},{on:=7,ground:=Ground.phase},{on:=8,ground:=Ground.phase},{on:=9,ground:=Ground.phase},{on:=10,ground:=Ground.phase},{on:=11,ground:=Ground.phase},{on:=12,ground:=Ground.phase}],guard:=none}) rfl (fun K I=>?_) AllReadyH.nil
   go_simp
   refine I.out _ _ ?_ (fun y=>?_)
   ·exact uH ak
   clear I K
   refine wpAnyH_done (by kernel_rfl) ?_ _
   clear r0 r1 r2 r3 r4 r5 r6 f0 f1 f2 f3 f4 f5 f6 Y ak
   go_wp2_with fail
   exact bodyPost_ret (v:=.agg #[.int .i64 (k:Nat),.int .i64 (k:Nat),.slice D V.length F,.int .i64 (k:Nat),.int .i64 (c:Nat),.slice l X.length m,.bool true]) (by simp[results,Tryz.results74,go_sem,z0,z1,z2,z3,z4,z5,z6]) rfl ⟨.inl ⟨rfl,D,F,l,m,rfl,uH PQ,uH PR⟩,uH BP⟩
  ·clear hk
   go_wp2_with fail
   clear t6 a0 a1
   generalize w1.heap.size=g at*
   refine au (fun W=>oK w W g r k n cap ao r r (.slice Z nq qc) r k (.slice ro n rc) true∧ac W Z qc (ar Q)∧ac W ro rc (ar R)) ⟨uH z,uH O,uH U⟩ ?_
   clear z O U
   rintro W ⟨st,bq,br⟩
   have hd:=(Below.refl W.heap.size W).drew
   have z:=aa (st.all hd);have O:=aa (bq.below hd);have U:=aa (br.below hd)
   clear st bq br hd
   refine wp_region_held_drew (S:=(fun A=>(A.cell? ⟨w.heap.size,0,none⟩=some (.int .i64 (r:Nat))∧A.cell? ⟨w.heap.size,1,none⟩=some (.int .i64 (k:Nat)))∧(A.cell? ⟨g,0,none⟩=some (.int .i64 (r:Nat))∧A.cell? ⟨g,1,none⟩=some (.int .i64 (r:Nat))∧A.cell? ⟨g,2,none⟩=some (.slice Z nq qc)∧A.cell? ⟨g,3,none⟩=some (.int .i64 (r:Nat))∧A.cell? ⟨g,4,none⟩=some (.int .i64 (k:Nat))∧A.cell? ⟨g,5,none⟩=some (.slice ro n rc)))) (by kernel_rfl) ?_ (fun y=>?_)
   ·exact(uH z).held
   refine wpAnyH_take (i:=0) (oi:={dst:=some 16,op:=Op.fieldAddr 89 (Operand.tmp 3) 0,type:=0,pos:= "ref.go:59",after:=#[],guard:=none}) (v:=(Value.pointer (some ⟨g,0,none⟩))) rfl (by kernel_rfl) (by kernel_rfl) (by kernel_rfl) (fun _ _ _ h=>h) (Or.inl ⟨by rfl,?_⟩) (by assumption) ?_
   ·(intro w d;(try dsimp only at d);go_simp)
   simp only[Act.put,List.setIfInBounds_toArray,List.set_cons_zero,List.set_cons_succ]
   refine wpAnyH_take (i:=1) (oi:={dst:=some 17,op:=Op.load 24 (Operand.tmp 16),type:=24,pos:= "ref.go:59",after:=#[{on:=0,ground:=Ground.data}],guard:=none}) (v:=(Value.agg #[.int .i64 (r:Nat),.int .i64 (r:Nat),.slice Z nq qc])) rfl (by kernel_rfl) (by kernel_rfl) (by kernel_rfl) (fun _ _ _ h=>h) (Or.inl ⟨by rfl,?_⟩) (by assumption) ?_
   ·(intro w d;(try dsimp only at d);go_simp)
   simp only[Act.put,List.setIfInBounds_toArray,List.set_cons_zero,List.set_cons_succ]
   refine wpAnyH_take (i:=2) (oi:={dst:=some 18,op:=Op.fieldAddr 24 (Operand.tmp 1) 0,type:=0,pos:= "ref.go:59",after:=#[],guard:=none}) (v:=(Value.pointer (some ⟨w.heap.size,0,none⟩))) rfl (by kernel_rfl) (by kernel_rfl) (by kernel_rfl) (fun _ _ _ h=>h) (Or.inl ⟨by rfl,?_⟩) (by assumption) ?_
   ·(intro w d;(try dsimp only at d);go_simp)
   simp only[Act.put,List.setIfInBounds_toArray,List.set_cons_zero,List.set_cons_succ]
   refine wpAnyH_take (i:=3) (oi:={dst:=some 19,op:=Op.load 3 (Operand.tmp 18),type:=3,pos:= "ref.go:59",after:=#[{on:=2,ground:=Ground.data}],guard:=none}) (v:=(Value.int .i64 (r:Nat))) rfl (by kernel_rfl) (by kernel_rfl) (by kernel_rfl) (fun _ _ _ h=>h) (Or.inl ⟨by rfl,?_⟩) (by assumption) ?_
   ·(intro w d;(try dsimp only at d);go_simp)
   simp only[Act.put,List.setIfInBounds_toArray,List.set_cons_zero,List.set_cons_succ]
   refine wpAnyH_take (i:=4) (oi:={dst:=some 20,op:=Op.move (Operand.tmp 4),type:=3,pos:= "ref.go:59",after:=#[],guard:=none}) (v:=(Value.int .i64 (k:Nat))) rfl (by kernel_rfl) (by kernel_rfl) (by kernel_rfl) (fun _ _ _ h=>h) (Or.inl ⟨by rfl,?_⟩) (by assumption) ?_
   ·(intro w d;(try dsimp only at d);go_simp)
   simp only[Act.put,List.setIfInBounds_toArray,List.set_cons_zero,List.set_cons_succ]
   refine wpAnyH_take (i:=6) (oi:={dst:=some 22,op:=Op.fieldAddr 89 (Operand.tmp 3) 1,type:=0,pos:= "ref.go:59",after:=#[],guard:=none}) (v:=(Value.pointer (some ⟨g,3,none⟩))) rfl (by kernel_rfl) (by kernel_rfl) (by kernel_rfl) (fun _ _ _ h=>h) (Or.inl ⟨by rfl,?_⟩) (by assumption) ?_
   ·(intro w d;(try dsimp only at d);go_simp)
   simp only[Act.put,List.setIfInBounds_toArray,List.set_cons_zero,List.set_cons_succ]
   refine wpAnyH_take (i:=7) (oi:={dst:=some 23,op:=Op.load 24 (Operand.tmp 22),type:=24,pos:= "ref.go:59",after:=#[{on:=6,ground:=Ground.data}],guard:=none}) (v:=(Value.agg #[.int .i64 (r:Nat),.int .i64 (k:Nat),.slice ro n rc])) rfl (by kernel_rfl) (by kernel_rfl) (by kernel_rfl) (fun _ _ _ h=>h) (Or.inl ⟨by rfl,?_⟩) (by assumption) ?_
   ·(intro w d;(try dsimp only at d);go_simp)
   simp only[Act.put,List.setIfInBounds_toArray,List.set_cons_zero,List.set_cons_succ]
   refine wpAnyH_take (i:=8) (oi:={dst:=some 24,op:=Op.move (Operand.tmp 4),type:=3,pos:= "ref.go:59",after:=#[],guard:=none}) (v:=(Value.int .i64 (k:Nat))) rfl (by kernel_rfl) (by kernel_rfl) (by kernel_rfl) (fun _ _ _ h=>h) (Or.inl ⟨by rfl,?_⟩) (by assumption) ?_
   ·(intro w d;(try dsimp only at d);go_simp)
   simp only[Act.put,List.setIfInBounds_toArray,List.set_cons_zero,List.set_cons_succ]
   refine wpAnyH_take (i:=9) (oi:={dst:=some 25,op:=Op.fieldAddr 24 (Operand.tmp 1) 1,type:=0,pos:= "ref.go:59",after:=#[],guard:=none}) (v:=(Value.pointer (some ⟨w.heap.size,1,none⟩))) rfl (by kernel_rfl) (by kernel_rfl) (by kernel_rfl) (fun _ _ _ h=>h) (Or.inl ⟨by rfl,?_⟩) (by assumption) ?_
   ·(intro w d;(try dsimp only at d);go_simp)
   simp only[Act.put,List.setIfInBounds_toArray,List.set_cons_zero,List.set_cons_succ]
   refine wpAnyH_take (i:=10) (oi:={dst:=some 26,op:=Op.load 3 (Operand.tmp 25),type:=3,pos:= "ref.go:59",after:=#[{on:=9,ground:=Ground.data}],guard:=none}) (v:=(Value.int .i64 (k:Nat))) rfl (by kernel_rfl) (by kernel_rfl) (by kernel_rfl) (fun _ _ _ h=>h) (Or.inl ⟨by rfl,?_⟩) (by assumption) ?_
   ·(intro w d;(try dsimp only at d);go_simp)
   simp only[Act.put,List.setIfInBounds_toArray,List.set_cons_zero,List.set_cons_succ]
   refine wpAnyH_ready (rs:=[5]) (by kernel_rfl) (by simp) ?_
   refine AllReadyH.cons (o:={dst:=some 21,op:=Op.call {callee:=Callee.value (Operand.func 128),args:=#[Operand.tmp 17,Operand.const (Value.int IntKind.i64 0),Operand.const (Value.int IntKind.i64 0),Operand.tmp 19,Operand.tmp 20],argTypes:=#[24,3,3,3,3]},type:=24,pos:= "ref.go:59",after:=#[{on:=1,ground:=Ground.data},{on:=3,ground:=Ground.data},{on:=4,ground:=Ground.data}],guard:=none}) rfl (fun K I=>?_) AllReadyH.nil
   go_simp
   refine(uH K2 _ _ _ (uH O)).mono ?_
   rintro e w5 ⟨D,F,rfl,hq,H⟩
   have L:=aa hq
   replace z:=aa ((uH z).all H)
   replace O:=aa ((uH O).below H)
   replace U:=aa ((uH U).below H)
   clear H hq
   go_wp2_with fail
   refine I.out _ _ ?_ (fun y=>?_)
   ·exact(uH z).held
   clear I K
   refine wpAnyH_ready (rs:=[11]) (by kernel_rfl) (by simp) ?_
   refine AllReadyH.cons (o:={dst:=some 27,op:=Op.call {callee:=Callee.value (Operand.func 128),args:=#[Operand.tmp 23,Operand.const (Value.int IntKind.i64 0),Operand.const (Value.int IntKind.i64 0),Operand.tmp 24,Operand.tmp 26],argTypes:=#[24,3,3,3,3]},type:=24,pos:= "ref.go:59",after:=#[{on:=7,ground:=Ground.data},{on:=8,ground:=Ground.data},{on:=10,ground:=Ground.data},{on:=5,ground:=Ground.chain}],guard:=none}) rfl (fun K I=>?_) AllReadyH.nil
   go_simp
   refine(uH K3 _ _ _ (uH U)).mono ?_
   rintro e aI ⟨l,m,rfl,hq,H⟩
   have N:=aa hq
   replace L:=aa ((uH L).below H)
   replace z:=aa ((uH z).all H)
   replace O:=aa ((uH O).below H)
   replace U:=aa ((uH U).below H)
   clear H hq
   have f:=(uH z).res
   have r0:=f.c0;have r1:=f.c1;have r2:=f.c2;have r3:=f.c3;have r4:=f.c4;have r5:=f.c5;have r6:=f.c6
   have f0:=f.free 0;have f1:=f.free 1;have f2:=f.free 2;have f3:=f.free 3;have f4:=f.free 4;have f5:=f.free 5;have f6:=f.free 6
   have G:=f.put (.int .i64 (r:Nat)) (.int .i64 (k:Nat)) (.slice D V.length F) (.int .i64 (k:Nat)) (.int .i64 (k:Nat)) (.slice l X.length m) (.bool true)
   have z0:=G.c0;have z1:=G.c1;have z2:=G.c2;have z3:=G.c3;have z4:=G.c4;have z5:=G.c5;have z6:=G.c6
   have BP:=aa (dj (uH z).bel (g:=w.heap.size+1) (by omega) (.int .i64 (r:Nat)) (.int .i64 (k:Nat)) (.slice D V.length F) (.int .i64 (k:Nat)) (.int .i64 (k:Nat)) (.slice l X.length m) (.bool true))
   have PQ:=aa (ga (uH L) f (.int .i64 (r:Nat)) (.int .i64 (k:Nat)) (.slice D V.length F) (.int .i64 (k:Nat)) (.int .i64 (k:Nat)) (.slice l X.length m) (.bool true))
   have PR:=aa (ga (uH N) f (.int .i64 (r:Nat)) (.int .i64 (k:Nat)) (.slice D V.length F) (.int .i64 (k:Nat)) (.int .i64 (k:Nat)) (.slice l X.length m) (.bool true))
   have Y:=aa (uH z).held
   have ak:=aa ((uH z).put (uH HG) (.int .i64 (r:Nat)) (.int .i64 (k:Nat)) (.slice D V.length F) (.int .i64 (k:Nat)) (.int .i64 (k:Nat)) (.slice l X.length m) (.bool true))
   clear f G z L N
   go_wp2_with fail
   refine I.out _ _ ?_ (fun y=>?_)
   ·exact uH Y
   clear I K
   refine wpAnyH_ready (rs:=[12]) (by kernel_rfl) (by simp) ?_
   refine AllReadyH.cons (o:={dst:=some 28,op:=Op.build 89 #[(0,Operand.tmp 21),(1,Operand.tmp 27),(2,Operand.const (Value.bool true))],type:=89,pos:= "ref.go:59",after:=#[{on:=5,ground:=Ground.data},{on:=11,ground:=Ground.data}],guard:=none}) rfl (fun K I=>?_) AllReadyH.nil
   go_simp
   refine I.out _ _ ?_ (fun y=>?_)
   ·exact uH Y
   clear I K
   refine wpAnyH_ready (rs:=[13]) (by kernel_rfl) (by simp) ?_
   refine AllReadyH.cons (o:={dst:=none,op:=Op.store 89 (Operand.tmp 2) (Operand.tmp 28),type:=0,pos:= "ref.go:59",after:=#[{on:=12,ground:=Ground.data},{on:=11,ground:=Ground.chain},{on:=0,ground:=Ground.phase},{on:=1,ground:=Ground.phase},{on:=2,ground:=Ground.phase},{on:=3,ground:=Ground.phase},{on:=4,ground:=Ground.phase},{on:=5,ground:=Ground.phase},{on:=6,ground:=Ground.phase},{on:=7,ground:=Ground.phase},{on:=8,ground:=Ground.phase},{on:=9,ground:=Ground.phase},{on:=10,ground:=Ground.phase},{on:=11,ground:=Ground.phase},{on:=12,ground:=Ground.phase}],guard:=none}) rfl (fun K I=>?_) AllReadyH.nil
   go_simp
   refine I.out _ _ ?_ (fun y=>?_)
   ·exact uH ak
   clear I K
   refine wpAnyH_done (by kernel_rfl) ?_ _
   clear r0 r1 r2 r3 r4 r5 r6 f0 f1 f2 f3 f4 f5 f6 Y ak
   go_wp2_with fail
   exact bodyPost_ret (v:=.agg #[.int .i64 (r:Nat),.int .i64 (k:Nat),.slice D V.length F,.int .i64 (k:Nat),.int .i64 (k:Nat),.slice l X.length m,.bool true]) (by simp[results,Tryz.results74,go_sem,z0,z1,z2,z3,z4,z5,z6]) rfl ⟨.inl ⟨rfl,D,F,l,m,rfl,uH PQ,uH PR⟩,uH BP⟩
 ·have ba:=ab w1 (.cells #[.int .i64 0,.int .i64 0,.slice none 0 0,.int .i64 0,.int .i64 0,.slice none 0 0,.bool false] 89)
  have z:=aa (show oK w (w1.alloc (.cells #[.int .i64 0,.int .i64 0,.slice none 0 0,.int .i64 0,.int .i64 0,.slice none 0 0,.bool false] 89)) w1.heap.size r c n cap ao 0 0 (.slice none 0 0) 0 0 (.slice none 0 0) false from⟨ae.trans (ba.mono ae.size),am.all ba,aj.all ba,cg.new w1 _ _ _ _ _ _ _⟩)
  clear ba ae am aj
  have X2:=(uH z).t
  have t0:=X2.c0;have t1:=X2.c1;have t2:=X2.c2;have t3:=X2.c3;have t4:=X2.c4;have t5:=X2.c5;have t6:=X2.c6
  have f:=(uH z).res
  have r0:=f.c0;have r1:=f.c1;have r2:=f.c2;have r3:=f.c3;have r4:=f.c4;have r5:=f.c5;have r6:=f.c6
  have f0:=f.free 0;have f1:=f.free 1;have f2:=f.free 2;have f3:=f.free 3;have f4:=f.free 4;have f5:=f.free 5;have f6:=f.free 6
  have G:=f.put (.int .i64 0) (.int .i64 0) (.slice none 0 0) (.int .i64 0) (.int .i64 0) (.slice none 0 0) (.bool false)
  have z0:=G.c0;have z1:=G.c1;have z2:=G.c2;have z3:=G.c3;have z4:=G.c4;have z5:=G.c5;have z6:=G.c6
  have BP:=aa (dj (uH z).bel (g:=w.heap.size+1) (by omega) (.int .i64 0) (.int .i64 0) (.slice none 0 0) (.int .i64 0) (.int .i64 0) (.slice none 0 0) (.bool false))
  clear f X2 G z
  go_wp2_with fail
  exact bodyPost_ret (v:=.agg #[.int .i64 0,.int .i64 0,.slice none 0 0,.int .i64 0,.int .i64 0,.slice none 0 0,.bool false]) (by simp[results,Tryz.results74,go_sem,z0,z1,z2,z3,z4,z5,z6]) rfl ⟨.inr ⟨rfl,rfl⟩,uH BP⟩
def JD(r c:Nat)(S:List Nat):List Nat:=qX r (g6 r c S) 0 0 r (min r c)
def JE(r c:Nat)(S:List Nat):List Nat:=qX c (iC r c S) 0 0 (min r c) c
theorem us(r c cap:Nat)(ao:Option Addr)(S:List Nat)(w:World)(h:Mx w ao cap r c S):
  Calls Tryz.prog 74 #[.agg #[.int .i64 r,.int .i64 c,.slice ao S.length cap]] w fun e d=>ur d (iX r c S) r (min r c) c (JD r c S) (JE r c S) e∧Below w.heap.size w d:=by
 have A:=h.2.1
 have m:=h.2.2.1
 have D:=h.2.2.2
 have F:(g6 r c S).length=r*r:=cS _ _ _ _ _
 have G:(iC r c S).length=r*c:=dP r c S A _
 refine DN r c S.length (r*r) (min r c) cap ao (g6 r c S) (iC r c S) (JD r c S) (JE r c S) (iX r c S) w rfl m D (fun d l=>ph r c cap ao S d (h.below l)) (fun d H I K=>?_) (fun d L M N=>?_)
 ·have:=p7 r r I 0 0 r (min r c) H (g6 r c S) d ⟨K,F,m,m⟩ (by omega) (by omega)
  rw[F]at this
  refine this.mono ?_
  rintro e t ⟨v,rfl,⟨y,z,rfl,_,l⟩,f⟩
  exact⟨y,z,rfl,l,f⟩
 ·have:=p7 r c M 0 0 (min r c) c L (iC r c S) d ⟨N,G,m,D⟩ (by omega) (by omega)
  rw[G,←A]at this
  refine this.mono ?_
  rintro e t ⟨v,rfl,⟨y,z,rfl,_,l⟩,f⟩
  exact⟨y,z,rfl,l,f⟩
theorem JA(r c:Nat)(S:List Nat)(k j:Nat)(h:j<r):(FX r c S k).getD j 0=bB c S j k:=by simp[FX,gY,List.getD_eq_getElem?_getD,h]
theorem IK(c q:Nat)(S T:List Nat)(i k:Nat):iZ (ar (p5 c S i)) (ar (FX c q T k)) c=zQ c (fun j=>bB c S i j) (fun j=>bB q T j k):=by
 rw[xi]
 refine pY c (fun j d=>?_) (fun j d=>?_)
 ·rw[di,vB c S i j d]
 ·rw[di,JA c q T k j d]
theorem wz(r c q cap d:Nat)(ao O:Option Addr)(S T:List Nat)(w:World)(h:Mx w ao cap r c S)(h2:Mx w O d c q T):
  Calls Tryz.prog 36 #[.agg #[.int .i64 r,.int .i64 c,.slice ao S.length cap],.agg #[.int .i64 c,.int .i64 q,.slice O T.length d]] w fun e F=>∃v,e=.returned v∧aS 0 F r q (FH r c q S T) v∧Below w.heap.size w F:=by
 have HH:=aa h;have HG:=aa h2
 have a2:=h.2.2.1;have bn:=h.2.2.2;have a3:=h2.2.2.2
 have K1:=aa (fun F=>gA r q F a2 a3)
 have KB:=aa (qY w (.int .i64 r) (.int .i64 c) (.slice ao S.length cap) (.int .i64 c) (.int .i64 q) (.slice O T.length d) (.int .i64 0) (.int .i64 0) (.slice none 0 0))
 have SZ:=aa (show(((w.alloc (.cells #[.int .i64 r,.int .i64 c,.slice ao S.length cap] 24)).alloc (.cells #[.int .i64 c,.int .i64 q,.slice O T.length d] 24)).alloc (.cells #[.int .i64 0,.int .i64 0,.slice none 0 0] 24)).heap.size=w.heap.size+1+1+1 by simp)
 obtain⟨l,hl⟩:∃l,S.length=l:=⟨_,rfl⟩
 obtain⟨m,hm⟩:∃m,T.length=m:=⟨_,rfl⟩
 rw[hl,hm]at KB SZ
 rw[hl,hm]
 have a7:=aa hl;have a9:=aa hm
 obtain⟨f,hf⟩:∃f:Nat→Nat→Nat,f=fun i k=>zQ c (fun j=>bB c S i j) (fun j=>bB q T j k):=⟨_,rfl⟩
 have a4:FH r c q S T=bW r q f:=by rw[hf];rfl
 rw[a4]
 have HF:=aa (show∀i k,iZ (ar (p5 c S i)) (ar (FX c q T k)) c=f i k from fun i k=>by rw[IK,hf])
 clear h h2 hl hm a4 hf
 go_enter Tryz.func36,Tryz.ntmps36
 go_wp2_with fail
 refine(uH K1 _).mono ?_
 rintro e N ⟨v,rfl,⟨mo,mc,rfl,nw,qs⟩,aj⟩
 rw[uH SZ]at aj
 obtain⟨B0,A0,A1,X0⟩:=uH KB N aj
 have ba:=ab N (.cells #[.int .i64 r,.int .i64 q,.slice mo (List.replicate (r*q) 0).length mc] 24)
 have z3:=aj.size
 have L0:=aa (show iA w (N.alloc (.cells #[.int .i64 r,.int .i64 q,.slice mo (bW r q (jM f 0 0)).length mc] 24)) N.heap.size (w.heap.size+1+1) r q mo mc (bW r q (jM f 0 0))from by
  rw[oh]
  exact⟨B0.trans (ba.mono B0.size),aq.new N _ _ _,X0.all ba,qs.below ba,by have:=X0.lt;omega,B0.size⟩)
 have HA:=aa (show aq (N.alloc (.cells #[.int .i64 r,.int .i64 q,.slice mo (bW r q (jM f 0 0)).length mc] 24)) w.heap.size (.int .i64 r) (.int .i64 c) (.slice ao l cap)from by rw[oh];exact A0.all ba)
 have a5:=aa (show aq (N.alloc (.cells #[.int .i64 r,.int .i64 q,.slice mo (bW r q (jM f 0 0)).length mc] 24)) (w.heap.size+1) (.int .i64 c) (.int .i64 q) (.slice O m d)from by rw[oh];exact A1.all ba)
 have NE:=aa (show w.heap.size≠N.heap.size from by have:=A0.lt;omega);have am:=aa (show w.heap.size+1≠N.heap.size from by have:=A1.lt;omega)
 rw[←oh r q f]
 clear K1 KB SZ aj B0 A0 A1 X0 ba nw qs z3
 have V:=(uH HA).c0;have X:=(uH HA).c1;have Y:=(uH HA).c2
 go_wp2_with fail
 generalize N.heap.size=g at*
 go_loopw[6] (fun i wr=>∃(j:Nat) (G:Option Addr) (H:Nat),j≤r∧i=.int .i64 j∧Hid (iA w wr g (w.heap.size+1+1) r q G H (bW r q (jM f j 0)))∧Hid (aq wr w.heap.size (.int .i64 r) (.int .i64 c) (.slice ao l cap))∧Hid (aq wr (w.heap.size+1) (.int .i64 c) (.int .i64 q) (.slice O m d))) (fun i _=>r-(intOf i).toNat)
 case atStart=>exact⟨0,mo,mc,Nat.zero_le _,rfl,L0,HA,a5⟩
 case round=>
  clear L0 HA a5 V X Y
  obtain⟨j,G,H,hj,rfl,z,D,t⟩:=hrel
  have V:=(uH D).c0;have X:=(uH D).c1;have Y:=(uH D).c2
  have v0:=(uH t).c0;have v1:=(uH t).c1;have v2:=(uH t).c2
  by_cases ax:j<r
  ·have bq:(j:Int)<(r:Int):=by omega
   go_wp2_with fail
   go_loopw[7] (fun i wr=>∃(k:Nat) (G:Option Addr) (H:Nat),k≤q∧i=.int .i64 k∧Hid (iA w wr g (w.heap.size+1+1) r q G H (bW r q (jM f j k)))∧Hid (aq wr w.heap.size (.int .i64 r) (.int .i64 c) (.slice ao l cap))∧Hid (aq wr (w.heap.size+1) (.int .i64 c) (.int .i64 q) (.slice O m d))) (fun i _=>q-(intOf i).toNat)
   case atStart=>exact⟨0,G,H,Nat.zero_le _,rfl,z,D,t⟩
   case round=>
    clear z D t V X Y v0 v1 v2 G H
    obtain⟨k,G,H,hk,rfl,z,D,t⟩:=hrel
    have V:=(uH D).c0;have X:=(uH D).c1;have Y:=(uH D).c2
    have v0:=(uH t).c0;have v1:=(uH t).c1;have v2:=(uH t).c2
    by_cases aI:k<q
    ·have br:(k:Int)<(q:Int):=by omega
     have K:=(uH z).box.c0;have L:=(uH z).box.c1;have M:=(uH z).box.c2
     have C1:=aa (fun F (x:Mx F ao cap r c S)=>CJ r c cap j ao S F x ax)
     have C2:=aa (fun F (x:Mx F O d c q T)=>Dh c q d k O T F x aI)
     have C3:=aa (fun F uo ud vo vd (x:ac F uo ud (ar (p5 c S j))) (y:ac F vo vd (ar (FX c q T k)))=>p9 uo vo ud vd _ _ F x y (by rw[al,al,iS,FX,dw]) (by rw[al,iS];omega))
     rw[al,al,iS,show(FX c q T k).length=c from dw _ _,uH HF j k]at C3
     have C4:=aa (fun F G H (x:Mx F G H r q (bW r q (jM f j k)))=>ef r q H j k (f j k) G (bW r q (jM f j k)) F x ax aI (by rw[←uH HF j k];exact gX _ _ _))
     rw[tl r q f ax aI]at C4
     rw[uH a7]at C1
     rw[uH a9]at C2
     have Z:=aa ((uH HH).below (uH z).bel);have ae:=aa ((uH HG).below (uH z).bel)
     have HP:=aa (show(bW r q (jM f j k)).length=r*q from bg _ _ _)
     generalize f j k=x at*
     generalize bW r q (jM f j k)=U at*
     generalize a6:bW r q (jM f j (k+1))=T2 at*
     have bb:=aa a6
     clear a6
     generalize ar (p5 c S j)=RW at*
     generalize ar (FX c q T k)=CL at*
     go_wp2_with fail
     go_region_with (first|(go_at_call 79;refine(uH C1 _ (by exact uH Z)).mono ?_;rintro e w4 ⟨uo,ud,rfl,qu,I⟩;(first|(have A:=Below.trans ((Below.refl _ _).drew) I)|(have A:=I));replace z:=aa ((uH z).all A);replace D:=aa ((uH D).all A);replace t:=aa ((uH t).all A);(first|(replace ae:=aa ((uH ae).below A))|skip);(first|(replace HV:=aa ((uH HV).below A))|skip);have HU:=aa qu;clear Z V X Y v0 v1 v2 K L M;have V:=(uH D).c0;have X:=(uH D).c1;have Y:=(uH D).c2;have v0:=(uH t).c0;have v1:=(uH t).c1;have v2:=(uH t).c2;have K:=(uH z).box.c0;have L:=(uH z).box.c1;have M:=(uH z).box.c2;clear I A qu C1)|(go_at_call 80;refine(uH C2 _ (by exact uH ae)).mono ?_;rintro e w5 ⟨vo,vd,rfl,qv,I⟩;(first|(have A:=Below.trans ((Below.refl _ _).drew) I)|(have A:=I));replace z:=aa ((uH z).all A);replace D:=aa ((uH D).all A);replace t:=aa ((uH t).all A);(first|(replace Z:=aa ((uH Z).below A))|skip);(first|(replace HU:=aa ((uH HU).below A))|skip);have HV:=aa qv;clear ae V X Y v0 v1 v2 K L M;have V:=(uH D).c0;have X:=(uH D).c1;have Y:=(uH D).c2;have v0:=(uH t).c0;have v1:=(uH t).c1;have v2:=(uH t).c2;have K:=(uH z).box.c0;have L:=(uH z).box.c1;have M:=(uH z).box.c2;clear I A qv C2)|(go_at_call 92;refine(uH C3 _ _ _ _ _ (uH HU) (uH HV)).mono ?_;rintro e w6 ⟨rfl,A⟩;replace z:=aa ((uH z).all A);replace D:=aa ((uH D).all A);replace t:=aa ((uH t).all A);clear V X Y v0 v1 v2 K L M;have K:=(uH z).box.c0;have L:=(uH z).box.c1;have M:=(uH z).box.c2;clear A HU HV)|(go_at_call 51;refine(uH C4 _ _ _ ⟨(uH z).bits,uH HP,a2,a3⟩).mono ?_;rintro e w7 ⟨v,rfl,⟨a0,a1,rfl,_,q5⟩,ak⟩;clear K L M;have L5:=(uH z).all ak;have A5:=(uH D).all ak;have A6:=(uH t).all ak;have K:=L5.box.c0;have L:=L5.box.c1;have M:=L5.box.c2;have f0:=L5.box.free 0;have f1:=L5.box.free 1;have f2:=L5.box.free 2;have L6:=aa (L5.put q5);have bc:=aa (((A5.other (p:=⟨g,0,none⟩) (uH NE) (.int .i64 r)).other (p:=⟨g,1,none⟩) (uH NE) (.int .i64 q)).other (p:=⟨g,2,none⟩) (uH NE) (.slice a0 T2.length a1));have be:=aa (((A6.other (p:=⟨g,0,none⟩) (uH am) (.int .i64 r)).other (p:=⟨g,1,none⟩) (uH am) (.int .i64 q)).other (p:=⟨g,2,none⟩) (uH am) (.slice a0 T2.length a1));clear ak L5 A5 A6 q5 z D t)|fail "NO ARM")
     all_goals
      clear C3 C4 K L M f0 f1 f2
      go_wp2_with fail
      go_round
      case rel=>exact⟨k+1,a0,a1,by omega,by go_num,by rw[uH bb];exact L6,bc,be⟩
      case measure=>simp[intOf];omega
    ·have bi:q=k:=by omega
     subst bi
     have bj:=aa (show iA w _ g (w.heap.size+1+1) r q G H (bW r q (jM f (j+1) 0))from by rw[←xg r q f j];exact uH z)
     clear z
     go_wp2_with fail
     go_round
     case rel=>exact⟨j+1,G,H,by omega,by go_num,bj,D,t⟩
     case measure=>simp[intOf];omega
  ·have bm:r=j:=by omega
   subst bm
   rw[xh]at z
   have K:=(uH z).box.c0;have L:=(uH z).box.c1;have M:=(uH z).box.c2
   have r0:=(uH z).res.c0;have r1:=(uH z).res.c1;have r2:=(uH z).res.c2
   have f0:=(uH z).res.free 0;have f1:=(uH z).res.free 1;have f2:=(uH z).res.free 2
   have XP:=(uH z).res.put (.int .i64 r) (.int .i64 q) (.slice G (bW r q f).length H)
   have z0:=XP.c0;have z1:=XP.c1;have z2:=XP.c2
   have Q:=aa (ac.putM (uH z).bits (uH z).res (.int .i64 r) (.int .i64 q) (.slice G (bW r q f).length H))
   have BP:=aa (ai (uH z).bel (b:=w.heap.size+1+1) (by omega) (.int .i64 r) (.int .i64 q) (.slice G (bW r q f).length H))
   clear XP z
   go_wp2
   exact bodyPost_ret (v:=.agg #[.int .i64 r,.int .i64 q,.slice G (bW r q f).length H]) (by simp[results,Tryz.results36,go_sem,z0,z1,z2]) rfl ⟨_,rfl,aS.any (uH Q),uH BP⟩
end Go.Proofs.YtlnphkioddknfaaGreatDoor
