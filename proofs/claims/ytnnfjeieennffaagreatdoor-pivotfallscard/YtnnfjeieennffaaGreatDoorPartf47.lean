/- Part 47 of the texts. -/
import Derived.Test.YtnnfjeieennffaaGreatDoorPartf46
import Derived.Test.YtnnfjeieennffaaGreatDoorPartf33
import Derived.Test.YtnnfjeieennffaaGreatDoorPartf38
import Derived.Test.YtnnfjeieennffaaGreatDoorPartf32
import Derived.Test.YtnnfjeieennffaaGreatDoorPartf45
namespace Go.Proofs.YtnnfjeieennffaaGreatDoor
open Go.RowKit
def Small (Z:Rat) (xs:List Nat):Prop:=∀ x ∈ xs,x < 18446744073709551616∧fFin x = true∧ab (fQ x)≤Z
theorem Small.mono {Z Y:Rat} {xs:List Nat} (h:Small Z xs) (hz:Z≤Y):Small Y xs:=fun x hx=>⟨(h x hx).1,(h x hx).2.1,Rat.le_trans (h x hx).2.2 hz⟩
theorem Small.drop {Z:Rat} {xs:List Nat} (h:Small Z xs) (k:Nat):Small Z (xs.drop k):=fun x hx=>h x (List.mem_of_mem_drop hx)
theorem p2_two (e:Int):p2 (e+e) = p2 e * p2 e:=p2_add e e
theorem p2_upW (e:Int) (k:Nat):p2 (e+k) = ((2 ^ k:Nat):Rat) * p2 e:=by rw [p2_add,p2_nat,Rat.mul_comm]
theorem nr_nought {xs:List Nat} (h0:bgF 0 xs = 0):nrV xs = 0:=by unfold nrV;rw [if_pos (.inl h0)];exact h0
theorem sum_nought {xs:List Nat} (h:∀ x ∈ xs,fQ x = 0):sumQ xs = 0:=by
 induction xs with
 | nil=>rfl
 | cons x xs ih =>
  show fQ x * fQ x+sumQ xs = 0
  rw [h x List.mem_cons_self,ih (fun y hy=>h y (List.mem_cons_of_mem _ hy))]
  grind
theorem nr_sq (xs:List Nat) (hl:xs.length≤6) (hx:Small (p2 300) xs) :
  fFin (nrV xs) = true∧0≤fQ (nrV xs)∧9007199254740992 * ab (fQ (nrV xs) * fQ (nrV xs) - sumQ xs)≤135 * sumQ xs+p2 (-1700)∧∀ x ∈ xs,1000 * ab (fQ x)≤1001 * fQ (nrV xs):=by
 have P0:=p2_pos (-1700)
 have hl64:xs.length≤64:=by omega
 by_cases h0:bgF 0 xs = 0
 ·have e:=nr_nought h0
  have z:=bg_0 xs (fun x h=>(hx x h).2.1) h0
  rw [e,fQ_0,sum_nought z]
  refine ⟨by decide,Rat.le_refl,?_,fun x h=>?_⟩
  ·have:(0:Rat) * 0 - 0 = 0:=by grind
   rw [this]
   unfold ab
   grind
  ·rw [z x h]
   unfold ab
   grind
 ·obtain ⟨k,ek⟩:∃ k,eX (bgF 0 xs) = k:=⟨_,rfl⟩
  have hT:TopV (k.natAbs+1) xs:=⟨fun x h=>⟨(hx x h).1,(hx x h).2.1⟩,.inr ⟨by rw [ek];omega,by rw [ek];omega⟩⟩
  obtain ⟨b1,b2,b3,b4,b5,b6,b7,b8,y,hy,b9,b10⟩:=top_big _ xs hT h0
  have hM:=eX_top _ (by omega) b2 b3
  rw [ek,ab_pos (fQ_pos _ b4)] at hM
  have hy2:=(hx y hy).2.2
  rw [b9] at hy2
  have k1:k≤300:=p2_lt_of (Rat.le_trans hM.1 hy2)
  obtain ⟨nf,up⟩:=topn_above _ xs hl64 hT h0 (by rw [ek];omega)
  have ge:=norm_geA _ xs hl64 hT h0 (by rw [ek];omega)
  rw [ek] at up
  have pk:=p2_pos k
  have hμ:0 < fQ (nrV xs):=by grind
  refine ⟨nf,Rat.le_of_lt hμ,?_,fun x h=>by have:=b7 x h;grind⟩
  rcases Int.lt_or_le k (-899) with g | g
  ·-- tiny
   rw [ab_pos (Rat.le_of_lt hμ)] at up
   have hk:=p2_mono (show k≤-900 by omega)
   have q1:p2 (-1074)≤p2 (-900):=p2_mono (by decide)
   have e1:p2 (-1700) = 1267650600228229401496703205376 * (p2 (-900) * p2 (-900)):=by
    rw [← p2_two,show (-1700:Int) = (-900+-900)+((100:Nat):Int) by rfl,p2_upW]
    rfl
   have Q0:=p2_pos (-900)
   have hν:fQ (nrV xs)≤18 * p2 (-900):=by grind
   have hS:sumQ xs≤6 * (2 * p2 (-900) * (2 * p2 (-900))):=by
    have h1:=sum_len (2 * p2 (-900)) xs (fun x h=>by have:=b7 x h;rw [p2_succ] at hM;grind)
    have hl2:(xs.length:Rat)≤6:=Rat.natCast_le_natCast.2 hl
    have:=Rat.mul_nonneg (show 0≤6 - (xs.length:Rat) by grind) (sq_nonneg (2 * p2 (-900)))
    grind
   have S0:=sumQ_nonneg xs
   have hνν:fQ (nrV xs) * fQ (nrV xs)≤324 * (p2 (-900) * p2 (-900)):=by
    have:=Rat.mul_nonneg (show 0≤18 * p2 (-900) - fQ (nrV xs) by grind) (show 0≤18 * p2 (-900)+fQ (nrV xs) by grind)
    grind
   have N0:=sq_nonneg (fQ (nrV xs))
   have R0:=sq_nonneg (p2 (-900))
   rw [e1]
   have e2:6 * (2 * p2 (-900) * (2 * p2 (-900))) = 24 * (p2 (-900) * p2 (-900)):=by grind
   rw [e2] at hS
   generalize fQ (nrV xs) * fQ (nrV xs) = NN at *
   generalize p2 (-900) * p2 (-900) = RR at *
   generalize sumQ xs = SS at *
   have:=ab_le (x:=NN - SS) (y:=348 * RR) (by grind) (by grind)
   grind
  ·have hT9:TopV 900 xs:=⟨hT.1,.inr ⟨by rw [ek];omega,by rw [ek];omega⟩⟩
   obtain ⟨_,_,_,n4⟩:=top_right2 900 (by decide) xs hl64 hT9 h0
   grind
theorem mr_crude (X:List Nat) (hl:X.length≤6) (hX:Small (p2 300) X) :
  mrK X = true∧fFin (mrT X) = true∧1000 * ab (fQ (mrT X))≤2001∧(∀ v ∈ mrV X,fFin v = true∧1000 * ab (fQ v)≤1001)∧(X ≠ []→(fQ (mrB X) * fQ (mrB X) = fQ (nrV X) * fQ (nrV X) ∨ fQ (mrB X) * fQ (mrB X) = sumQ X))∧fFin (mrB X) = true:=by
 match X,hl,hX with
 | [],_,_=>exact ⟨rfl,by decide,by rw [show mrT [] = 0 from rfl,fQ_0];unfold ab;grind,(fun v hv=>by cases hv),fun h=>absurd rfl h,by decide⟩
 | a :: xs,hl,hX =>
  obtain ⟨nf,n0,n1,n2⟩:=nr_sq (a :: xs) hl hX
  cases hn:ngt xs with
  | true =>
   have e1:mrT (a :: xs) = 0:=if_pos hn
   have e2:mrB (a :: xs) = a:=if_pos hn
   have e3:mrK (a :: xs) = true:=by show (ngt xs || _) = true;rw [hn];rfl
   rw [e1,e2,e3]
   refine ⟨rfl,by decide,by rw [fQ_0];unfold ab;grind,fun v hv=>?_,fun _=>.inr ?_,(hX a List.mem_cons_self).2.1⟩
   ·rcases List.mem_cons.1 hv with rfl | hv
    ·rw [fQ_one];exact ⟨by decide,by unfold ab;grind⟩
    ·obtain ⟨x,_,rfl⟩:=List.mem_map.1 hv
     rw [if_pos hn,fQ_0]
     exact ⟨by decide,by unfold ab;grind⟩
   ·show _ = fQ a * fQ a+sumQ xs
    rw [ngt_sum hn];grind
  | false =>
   have h0:bgF 0 (a :: xs) ≠ 0:=by
    intro e
    have k:=bg_0 (a :: xs) (fun x h=>(hX x h).2.1) e
    have:ngt xs = true:=List.all_eq_true.2 (fun x hx=>decide_eq_true (fK_0_of (hX x (List.mem_cons_of_mem _ hx)).1 (hX x (List.mem_cons_of_mem _ hx)).2.1 (k x (List.mem_cons_of_mem _ hx))))
    rw [this] at hn
    cases hn
   have nl:=nrV_lt (a :: xs)
   obtain ⟨s1,s2⟩:=ld_sign a xs
   have key:fFin (hmB a xs) = true∧((fQ (hmB a xs) = fQ (nrV (a :: xs))∧fQ a≤0) ∨ (fQ (hmB a xs) = -fQ (nrV (a :: xs))∧0≤fQ a)):=by
    unfold hmB
    by_cases e:ldS (a :: xs) = true
    ·rw [if_pos e];exact ⟨nf,.inl ⟨rfl,s1 e⟩⟩
    ·rw [if_neg e]
     exact ⟨(fFin_fN _ nl).trans nf,.inr ⟨fQ_fN _ nl,s2 (by simpa using e)⟩⟩
   obtain ⟨k1,k3⟩:=key
   obtain ⟨c1,c2,c3,c4,_⟩:=house_crudeW a (hmB a xs) (hmD a xs) (dV (aV (hmB a xs) (fN a)) (hmB a xs)) xs (xs.map (fun x=>dV x (hmD a xs))) (by omega) hX h0 (hmB_lt a xs) k1 k3 rfl rfl rfl
   have hn':¬ ngt xs = true:=by rw [hn];decide
   have e1:mrT (a :: xs) = dV (aV (hmB a xs) (fN a)) (hmB a xs):=if_neg hn'
   have e2:mrB (a :: xs) = hmB a xs:=if_neg hn'
   have e3:mrK (a :: xs) = true:=by show (ngt xs || (fFin (hmB a xs) && fFin (hmD a xs))) = true;rw [k1,c1,Bool.and_self,Bool.or_true]
   rw [e1,e2,e3]
   refine ⟨rfl,c2,c3,fun v hv=>?_,fun _=>.inl ?_,k1⟩
   ·rcases List.mem_cons.1 hv with rfl | hv
    ·rw [fQ_one];exact ⟨by decide,by unfold ab;grind⟩
    ·obtain ⟨x,hx,rfl⟩:=List.mem_map.1 hv
     rw [if_neg hn']
     exact c4 _ (List.mem_map.2 ⟨x,hx,rfl⟩)
   ·rcases k3 with ⟨e,_⟩ | ⟨e,_⟩ <;> rw [e] <;> grind
theorem mr_near (X:List Nat) (hl:X.length≤6) (hX:Small (p2 290) X) (hν:p2 (-290)≤fQ (nrV X)) :
  Mir X.length (vl 0 (mrV X)) (fQ (mrT X)) (1 / 8796093022208) ∨ fQ (mrT X) = 0:=by
 match X,hl,hX,hν with
 | [],_,_,_=>exact .inr fQ_0
 | a :: xs,hl,hX,hν =>
  cases hn:ngt xs with
  | true=>exact .inr (by rw [show mrT (a :: xs) = 0 from if_pos hn,fQ_0])
  | false =>
   left
   have hX3:Small (p2 300) (a :: xs):=hX.mono (p2_mono (by decide))
   have h0:bgF 0 (a :: xs) ≠ 0:=by
    intro e
    rw [nr_nought e,fQ_0] at hν
    have:=p2_pos (-290)
    grind
   obtain ⟨k,ek⟩:∃ k,eX (bgF 0 (a :: xs)) = k:=⟨_,rfl⟩
   have hT:TopV (k.natAbs+1) (a :: xs):=⟨fun x h=>⟨(hX x h).1,(hX x h).2.1⟩,.inr ⟨by rw [ek];omega,by rw [ek];omega⟩⟩
   obtain ⟨b1,b2,b3,b4,b5,b6,b7,b8,y,hy,b9,b10⟩:=top_big _ (a :: xs) hT h0
   have hM:=eX_top _ (by omega) b2 b3
   rw [ek,ab_pos (fQ_pos _ b4)] at hM
   have hy2:=(hX y hy).2.2
   rw [b9] at hy2
   have k1:k≤290:=p2_lt_of (Rat.le_trans hM.1 hy2)
   obtain ⟨nf,up⟩:=topn_above _ (a :: xs) (by omega) hT h0 (by rw [ek];omega)
   rw [ek] at up
   have hk2:-296≤k:=by
    rcases Int.lt_or_le k (-296) with g | g
    ·exfalso
     have q1:=p2_mono (show k≤-297 by omega)
     have q2:p2 (-290) = 128 * p2 (-297):=by rw [show (-290:Int) = -297+((7:Nat):Int) by rfl,p2_upW];rfl
     have q3:=p2_mono (show (-1074:Int)≤-297 by decide)
     have q4:=p2_pos (-297)
     have l:=le_ab (fQ (nrV (a :: xs)))
     grind
    ·exact g
   have hT3:TopV 300 (a :: xs):=⟨hT.1,.inr ⟨by rw [ek];omega,by rw [ek];omega⟩⟩
   have nl:=nrV_lt (a :: xs)
   obtain ⟨s1,s2⟩:=ld_sign a xs
   have pν:=p2_pos (-290)
   have nk:fK (nrV (a :: xs)) ≠ 0:=fun e=>by rw [fQ_nought _ e] at hν;grind
   have key:fFin (hmB a xs) = true∧fK (hmB a xs) ≠ 0∧((fQ (hmB a xs) = fQ (nrV (a :: xs))∧fQ a≤0) ∨ (fQ (hmB a xs) = -fQ (nrV (a :: xs))∧0≤fQ a)):=by
    unfold hmB
    by_cases e:ldS (a :: xs) = true
    ·rw [if_pos e];exact ⟨nf,nk,.inl ⟨rfl,s1 e⟩⟩
    ·rw [if_neg e]
     exact ⟨(fFin_fN _ nl).trans nf,fun g=>nk ((fK_fN _ nl).symm.trans g),.inr ⟨fQ_fN _ nl,s2 (by simpa using e)⟩⟩
   obtain ⟨q1,q2,q3⟩:=key
   obtain ⟨f1,f2,f3,f4,f5,f6,_⟩:=house_factsMW a (hmB a xs) (hmD a xs) (dV (aV (hmB a xs) (fN a)) (hmB a xs)) xs (xs.map (fun x=>dV x (hmD a xs))) (by omega) hT3 h0 (hmB_lt a xs) q1 q2 q3 rfl rfl rfl
   have hn':¬ ngt xs = true:=by rw [hn];decide
   have e1:mrT (a :: xs) = dV (aV (hmB a xs) (fN a)) (hmB a xs):=if_neg hn'
   have e2:mrV (a :: xs) = 4607182418800017408 :: xs.map (fun x=>dV x (hmD a xs)):=by
    show 4607182418800017408 :: xs.map (fun x=>if ngt xs = true then 0 else dV x (hmD a xs)) = _
    congr 1
    exact List.map_congr_left (fun x _=>if_neg hn')
   rw [e1,e2]
   exact mir_of 0 _ _ _ (by simp) f6 (by grind)
theorem pv_step (X y:List Nat) (hl:X.length≤6) (hy:y.length = X.length) (hX:Small (p2 290) X) (hY:Small (p2 290) y) (hle:fQ (nrV y)≤fQ (nrV X)) :
  (∀ Z,Small Z y→6 * Z≤p2 900→1267650600228229401496703205376 * p2 (-1075)≤Z→Small (24 * Z) (apV (mV (mrT X) (dtV 0 (mrV X) y)) (mrV X) y)) ∧
  (p2 (-290)≤fQ (nrV X)→274877906944 * sumQ (apV (mV (mrT X) (dtV 0 (mrV X) y)) (mrV X) y)≤274877906945 * (fQ (nrV X) * fQ (nrV X))) ∧
  (fQ (nrV X) < p2 (-290)→∀ u ∈ apV (mV (mrT X) (dtV 0 (mrV X) y)) (mrV X) y,ab (fQ u)≤p2 (-285)):=by
 have hX3:Small (p2 300) X:=hX.mono (p2_mono (by decide))
 have hY3:Small (p2 300) y:=hY.mono (p2_mono (by decide))
 obtain ⟨c1,c2,c3,c4,c5,c6⟩:=mr_crude X hl hX3
 obtain ⟨x1,x2,x3,x4⟩:=nr_sq X hl hX3
 obtain ⟨y1,y2,y3,y4⟩:=nr_sq y (by omega) hY3
 have lv:(mrV X).length = y.length:=by rw [mrV_len,hy]
 have hu:∀ u ∈ apV (mV (mrT X) (dtV 0 (mrV X) y)) (mrV X) y,u < 18446744073709551616:=by
  intro u hu
  obtain ⟨i,hi,rfl⟩:=List.getElem_of_mem hu
  have:=apV_at (mV (mrT X) (dtV 0 (mrV X) y)) (mrV X) y i lv (by rw [apV_len _ _ _ lv] at hi;exact hi)
  rw [List.getD_eq_getElem?_getD,List.getElem?_eq_getElem hi] at this
  simp only [Option.getD_some] at this
  rw [this]
  refine aV_lt _ _ ?_ (fN_lt _ (mV_lt _ _))
  rw [List.getD_eq_getElem?_getD,List.getElem?_eq_getElem (by rw [apV_len _ _ _ lv,lv] at hi;exact hi)]
  exact (hY _ (List.getElem_mem _)).1
 have crude:∀ Z,(∀ x ∈ y,fFin x = true∧ab (fQ x)≤Z)→6 * Z≤p2 900→1267650600228229401496703205376 * p2 (-1075)≤Z→∀ u ∈ apV (mV (mrT X) (dtV 0 (mrV X) y)) (mrV X) y,fFin u = true∧ab (fQ u)≤24 * Z:=fun Z hZ h2 h3=>col_crude (mrT X) Z (mrV X) y (by omega) lv c2 c3 c4 hZ h2 h3
 refine ⟨fun Z hZ h2 h3 u hum=>⟨hu u hum,crude Z (fun x hx=>⟨(hZ x hx).2.1,(hZ x hx).2.2⟩) h2 h3 u hum⟩,fun hν=>?_,fun hν u hum=>?_⟩
 ·obtain ⟨ν,hνe⟩:∃ ν,fQ (nrV X) = ν:=⟨_,rfl⟩
  rw [hνe] at hν hle x2 ⊢
  have p0:=p2_pos (-290)
  have ν0:0 < ν:=by grind
  -- the other column's square
  have hνν:p2 (-580)≤ν * ν:=by
   rw [show (-580:Int) = -290+-290 by rfl,p2_two]
   have:=Rat.mul_nonneg (show 0≤ν - p2 (-290) by grind) (show 0≤ν+p2 (-290) by grind)
   grind
  have ht:1267650600228229401496703205376 * p2 (-1700)≤p2 (-580):=by
   have e:p2 (-1600) = 1267650600228229401496703205376 * p2 (-1700):=by rw [show (-1600:Int) = -1700+((100:Nat):Int) by rfl,p2_upW];rfl
   rw [← e]
   exact p2_mono (by decide)
  have hnn:fQ (nrV y) * fQ (nrV y)≤ν * ν:=by
   have:=Rat.mul_nonneg (show 0≤ν - fQ (nrV y) by grind) (show 0≤ν+fQ (nrV y) by grind)
   grind
  have S0:=sumQ_nonneg y
  have hS:9007199254740992 * sumQ y≤9007199254741140 * (ν * ν):=by
   have l:=le_ab (fQ (nrV y) * fQ (nrV y) - sumQ y)
   have p1:=p2_pos (-1700)
   generalize fQ (nrV y) * fQ (nrV y) = NN at *
   generalize ν * ν = VV at *
   generalize sumQ y = SS at *
   generalize ab (NN - SS) = z at *
   grind
  -- a bound of its size
  obtain ⟨A,hA⟩:∃ A,A = (1+80 / 9007199254740992) * ν:=⟨_,rfl⟩
  have hB:Bd y.length (fc y) A:=by
   refine ⟨by grind,?_⟩
   rw [sum_fc]
   have e:A * A = (1+80 / 9007199254740992) * (1+80 / 9007199254740992) * (ν * ν):=by rw [hA];grind
   rw [e]
   generalize ν * ν = VV at *
   grind
  have hs1:s1Q y≤3 * ν:=by
   have:=s1_bd y 0 (by omega) A hB
   rw [List.drop_zero] at this
   grind
  have hν9:3 * ν≤p2 900:=by
   have h2:ν≤p2 308:=by
    have hw:ν * ν≤p2 308 * p2 308:=by
     have l:=le_ab (fQ (nrV X) * fQ (nrV X) - sumQ X)
     have hs:=sum_len (p2 300) X (fun x hx=>(hX3 x hx).2.2)
     have hl2:(X.length:Rat)≤6:=Rat.natCast_le_natCast.2 hl
     have m:=Rat.mul_nonneg (show 0≤6 - (X.length:Rat) by grind) (sq_nonneg (p2 300))
     have e:p2 308 * p2 308 = 65536 * (p2 300 * p2 300):=by rw [show (308:Int) = 300+((8:Nat):Int) by rfl,p2_upW];have:((2 ^ 8:Nat):Rat) = 256:=rfl;rw [this];grind
     have p1:p2 (-1700)≤p2 300 * p2 300:=by rw [← p2_two];exact p2_mono (by decide)
     have X0:=sumQ_nonneg X
     rw [hνe] at l x3
     rw [e]
     generalize ν * ν = VV at *
     generalize p2 300 * p2 300 = PP at *
     generalize sumQ X = SX at *
     generalize ab (VV - SX) = z at *
     grind
    exact le_of_sq (Rat.le_of_lt (p2_pos _)) hw
   have h3:=p2_mono (show (308+1+1:Int)≤900 by decide)
   simp only [p2_succ] at h3
   have:=p2_pos 308
   grind
  have hη:1267650600228229401496703205376 * p2 (-1075)≤3 * ν:=by
   have:=eta_p2 (-290) (by decide)
   grind
  have st:=col_step 0 (mrT X) (3 * ν) (mrV X) y (by omega) (by omega) c2 c3 c4 (fun x hx=>(hY x hx).2.1) (by rw [List.drop_zero];exact hs1) hν9 hη
  rw [List.take_zero,List.nil_append,List.drop_zero] at st
  have hm:Bd y.length (mir y.length (vl 0 (mrV X)) (fQ (mrT X)) (fc y)) ((1+2 * (1 / 8796093022208)) * A):=by
   rcases mr_near X hl hX (by rw [hνe];exact hν) with hM | h0
   ·rw [← hy] at hM
    exact hM.bd hB
   ·refine (hB.congr (fun i hi=>?_)).mono (by have:=hB.1;grind)
    unfold mir
    rw [h0]
    grind
  have sum:=(Bd.add st hm).congr (y:=fc (apV (mV (mrT X) (dtV 0 (mrV X) y)) (mrV X) y)) (fun i hi=>by grind)
  have key:=sum.2
  have la:(apV (mV (mrT X) (dtV 0 (mrV X) y)) (mrV X) y).length = y.length:=by rw [apV_len _ _ _ lv,lv]
  rw [← la,sum_fc] at key
  have e:(115 / 9007199254740992 * (3 * ν)+(1+2 * (1 / 8796093022208)) * A)≤(1+3000 / 9007199254740992) * ν:=by rw [hA];grind
  have e0:0≤115 / 9007199254740992 * (3 * ν)+(1+2 * (1 / 8796093022208)) * A:=by have:=hB.1;grind
  have m:=Rat.mul_nonneg (show 0≤(1+3000 / 9007199254740992) * ν - (115 / 9007199254740992 * (3 * ν)+(1+2 * (1 / 8796093022208)) * A) by grind) (show 0≤(1+3000 / 9007199254740992) * ν+(115 / 9007199254740992 * (3 * ν)+(1+2 * (1 / 8796093022208)) * A) by grind)
  have e3:(1+3000 / 9007199254740992) * ν * ((1+3000 / 9007199254740992) * ν) = (1+3000 / 9007199254740992) * (1+3000 / 9007199254740992) * (ν * ν):=by grind
  generalize 115 / 9007199254740992 * (3 * ν)+(1+2 * (1 / 8796093022208)) * A = B at *
  generalize sumQ (apV (mV (mrT X) (dtV 0 (mrV X) y)) (mrV X) y) = US at *
  have e4:US≤(1+3000 / 9007199254740992) * (1+3000 / 9007199254740992) * (ν * ν):=by grind
  have VV0:=sq_nonneg ν
  clear m e3 key e e0
  generalize ν * ν = VV at *
  grind
 ·have q0:=p2_pos (-290)
  have e1:p2 (-285) = 32 * p2 (-290):=by rw [show (-285:Int) = -290+((5:Nat):Int) by rfl,p2_upW];rfl
  have h:=crude (1001 / 1000 * p2 (-290)) (fun x hx=>⟨(hY x hx).2.1,by have:=y4 x hx;grind⟩) (by
   have:=p2_mono (show (-290+1+1+1:Int)≤900 by decide)
   simp only [p2_succ] at this
   grind) (by have:=eta_p2 (-290) (by decide);grind) u hum
  rw [e1]
  grind
end Go.Proofs.YtnnfjeieennffaaGreatDoor
namespace Go.Proofs.YtnnfjeieennffaaGreatDoor
open Go.RowKit
theorem sum_drop:∀ (zs:List Nat) (j:Nat),sumQ (zs.drop j)≤sumQ zs:=by
 intro zs
 induction zs with
 | nil=>intro j;rw [List.drop_nil];exact Rat.le_refl
 | cons z zs ih =>
  intro j
  cases j with
  | zero=>exact Rat.le_refl
  | succ j =>
   have i:=ih j
   have e:sumQ (z :: zs) = fQ z * fQ z+sumQ zs:=rfl
   have q:=sq_nonneg (fQ z)
   rw [List.drop_succ_cons,e]
   grind
end Go.Proofs.YtnnfjeieennffaaGreatDoor
namespace Go.Proofs.YtnnfjeieennffaaGreatDoor
open Go.RowKit
def Elt (Z:Rat) (r c:Nat) (S:List Nat):Prop:=∀ p q,p < r→q < c→elM c S p q < 18446744073709551616∧fFin (elM c S p q) = true∧ab (fQ (elM c S p q))≤Z
theorem Elt.mono {Z Y:Rat} {r c:Nat} {S:List Nat} (h:Elt Z r c S) (hz:Z≤Y):Elt Y r c S:=fun p q hp hq=>⟨(h p q hp hq).1,(h p q hp hq).2.1,Rat.le_trans (h p q hp hq).2.2 hz⟩
theorem Elt.col {Z:Rat} {r c:Nat} {S:List Nat} (h:Elt Z r c S) {i n q:Nat} (hi:i+n≤r) (hq:q < c):Small Z (colL c S i n q):=by
 intro x hx
 obtain ⟨j,hj,rfl⟩:=List.mem_map.1 hx
 have:=List.mem_range.1 hj
 exact h (i+j) q (by omega) hq
theorem Elt.fins {Z:Rat} {r c:Nat} {S:List Nat} (h:Elt Z r c S) (hl:S.length = r * c):finL S = true:=by
 rw [finL_all]
 intro k hk
 rw [hl] at hk
 obtain ⟨h1,h2,h3⟩:=place_in hk
 have:=(h (k / c) (k % c) h1 h2).2.1
 unfold elM at this
 rwa [h3] at this
theorem Elt.ap {Z:Rat} {r c:Nat} {S:List Nat} (h:Elt Z r c S) (i k:Nat) (vs:List Nat) (tau:Nat) (h6:vs.length≤6) (hi:i+vs.length≤r) (ft:fFin tau = true) (ht:1000 * ab (fQ tau)≤2001) (hv:∀ v ∈ vs,fFin v = true∧1000 * ab (fQ v)≤1001) (hZ:6 * Z≤p2 900) (hη:1267650600228229401496703205376 * p2 (-1075)≤Z):Elt (24 * Z) r c (apM r c S i k vs tau):=by
 intro p q hp hq
 have Z0:0≤Z:=by have:=p2_pos (-1075);grind
 rw [el_ap r c S i k vs tau hp hq]
 split
 ·rename_i g
  have hc:=h.col (n:=vs.length) hi hq
  have hj:p - i < vs.length:=by omega
  have hcr:=col_crude tau Z vs (colL c S i vs.length q) h6 (colL_len _ _ _ _ _).symm ft ht hv (fun y hy=>⟨(hc y hy).2.1,(hc y hy).2.2⟩) hZ hη
  have hmem:(apL c S i q vs tau).getD (p - i) 0 ∈ apL c S i q vs tau:=by
   rw [List.getD_eq_getElem?_getD,List.getElem?_eq_getElem (by rw [apL_len];exact hj)]
   exact List.getElem_mem _
  have:=hcr _ hmem
  refine ⟨?_,this.1,this.2⟩
  rw [apL_at c S i q vs tau hj]
  exact aV_lt _ _ (h (i+(p - i)) q (by omega) hq).1 (fN_lt _ (mV_lt _ _))
 ·have:=h p q hp hq
  exact ⟨this.1,this.2.1,by grind⟩
theorem Elt.sw {Z:Rat} {r c:Nat} {S:List Nat} (h:Elt Z r c S) {j a:Nat} (hj:j < c) (ha:a < c):Elt Z r c (swM r c S j a):=by
 intro p q hp hq
 rw [el_sw r c S hj ha hp hq]
 refine h p _ hp ?_
 unfold swI
 repeat' split
 all_goals omega
theorem Elt.cl {Z:Rat} {r c:Nat} {S:List Nat} (h:Elt Z r c S) (j:Nat) (b:Nat) (Z0:0≤Z) (hb:b < 18446744073709551616∧fFin b = true∧ab (fQ b)≤Z):Elt Z r c (clM r c S j b):=by
 intro p q hp hq
 rw [el_cl r c S j b hp hq]
 repeat' split
 ·exact hb
 ·rw [fQ_0];exact ⟨by decide,by decide,by unfold ab;grind⟩
 ·exact h p q hp hq
theorem mrB_size (X:List Nat) (Z:Rat) (hl:X.length≤6) (hX:Small Z X) (hZ:Z≤p2 290) (hη:p2 (-800)≤Z):mrB X < 18446744073709551616∧fFin (mrB X) = true∧ab (fQ (mrB X))≤24 * Z:=by
 have hX3:Small (p2 300) X:=hX.mono (Rat.le_trans hZ (p2_mono (by decide)))
 obtain ⟨c1,c2,c3,c4,c5,c6⟩:=mr_crude X hl hX3
 obtain ⟨x1,x2,x3,x4⟩:=nr_sq X hl hX3
 have p0:=p2_pos (-800)
 have Z0:0 < Z:=by grind
 refine ⟨mrB_lt X (fun x hx=>(hX x hx).1),c6,?_⟩
 by_cases hn:X = []
 ·rw [hn]
  show ab (fQ 0)≤_
  rw [fQ_0];unfold ab;grind
 have S0:=sumQ_nonneg X
 have hS:sumQ X≤6 * (Z * Z):=by
  have h1:=sum_len Z X (fun x h=>(hX x h).2.2)
  have hl2:(X.length:Rat)≤6:=Rat.natCast_le_natCast.2 hl
  have:=Rat.mul_nonneg (show 0≤6 - (X.length:Rat) by grind) (sq_nonneg Z)
  grind
 have hZZ:p2 (-1700)≤Z * Z:=by
  have q0:=p2_pos (-800)
  have h1:=Rat.mul_nonneg (show 0≤Z - p2 (-800) by grind) (show 0≤Z+p2 (-800) by grind)
  have h2:p2 (-1600) = p2 (-800) * p2 (-800):=by rw [← p2_two];rfl
  have h3:=p2_mono (show (-1700:Int)≤-1600 by decide)
  grind
 have l:=le_ab (fQ (nrV X) * fQ (nrV X) - sumQ X)
 have key:fQ (mrB X) * fQ (mrB X)≤24 * Z * (24 * Z):=by
  have e:24 * Z * (24 * Z) = 576 * (Z * Z):=by grind
  rw [e]
  rcases c5 hn with g | g
  ·rw [g]
   generalize fQ (nrV X) * fQ (nrV X) = NN at *
   generalize Z * Z = ZZ at *
   generalize sumQ X = SS at *
   generalize ab (NN - SS) = z at *
   grind
  ·rw [g]
   generalize Z * Z = ZZ at *
   grind
 refine le_of_sq (by grind) ?_
 rw [show ab (fQ (mrB X)) * ab (fQ (mrB X)) = fQ (mrB X) * fQ (mrB X) by rw [← ab_mul];exact ab_pos (sq_nonneg _)]
 exact key
theorem Elt.step {Z:Rat} {r c:Nat} {S:List Nat} (h:Elt Z r c S) {j:Nat} (r6:r≤6) (hjr:j < r) (hjc:j < c) (hZ:Z≤p2 290) (hη:p2 (-800)≤Z) :
  pvF r c S j = true∧pvO r c S j = true∧Elt (24 * Z) r c (pvS r c S j):=by
 have p0:=p2_pos (-800)
 have Z0:0 < Z:=by grind
 have hη2:1267650600228229401496703205376 * p2 (-1075)≤Z:=Rat.le_trans (eta_p2 (-800) (by decide)) hη
 have hZ9:6 * Z≤p2 900:=by
  have:=p2_mono (show (290+1+1+1:Int)≤900 by decide)
  simp only [p2_succ] at this
  have:=p2_pos 290
  grind
 have hA:=pvA_lt r c S hjc
 have hN:∀ k,j≤k→k < c→fFin (pvN r c S j k) = true:=fun k _ hk =>
  (nr_sq _ (by rw [colL_len];omega) ((h.col (i:=j) (n:=r - j) (by omega) hk).mono (Rat.le_trans hZ (p2_mono (by decide))))).1
 have hF:∀ t,j+t≤c→gtK r c S j t = true:=by
  intro t
  induction t with
  | zero=>intro _;rfl
  | succ t ih =>
   intro ht
   show (gtK r c S j t && fFin (pvN r c S j (j+t))) = true
   rw [ih (by omega),hN (j+t) (by omega) (by omega)]
   rfl
 have hW:Elt Z r c (pvW r c S j):=h.sw hjc hA
 have hX:Small Z (qxL r c (pvW r c S j) j):=hW.col (by omega) hjc
 have lX:(qxL r c (pvW r c S j) j).length = r - j:=colL_len _ _ _ _ _
 obtain ⟨c1,c2,c3,c4,c5,c6⟩:=mr_crude (qxL r c (pvW r c S j) j) (by omega) (hX.mono (Rat.le_trans hZ (p2_mono (by decide))))
 have hF1:pvF r c S j = true:=hF (c - j) (by omega)
 refine ⟨hF1,?_,?_⟩
 ·unfold pvO
  rw [hF1,c1,Bool.or_true]
  rfl
 ·unfold pvS
  split
  ·have hap:=hW.ap j j (mrV (qxL r c (pvW r c S j) j)) (mrT (qxL r c (pvW r c S j) j)) (by rw [mrV_len,lX];omega) (by rw [mrV_len,lX];omega) c2 c3 c4 hZ9 hη2
   exact hap.cl j _ (by grind) (mrB_size _ Z (by omega) hX hZ hη)
  ·exact hW.mono (by grind)
theorem Elt.all {r c:Nat} {S:List Nat} (h:Elt (p2 200) r c S) (r6:r≤6):∀ j,j≤min c r→Elt (p2 (200+5 * j)) r c (pvR r c S j)∧∀ t,t < j→pvO r c (pvR r c S t) t = true:=by
 intro j
 induction j with
 | zero=>intro _;exact ⟨h,fun t ht=>absurd ht (Nat.not_lt_zero t)⟩
 | succ j ih =>
  intro hj
  obtain ⟨i1,i2⟩:=ih (by omega)
  obtain ⟨s1,s2,s3⟩:=i1.step r6 (show j < r by omega) (by omega) (p2_mono (by omega)) (p2_mono (by omega))
  refine ⟨s3.mono ?_,fun t ht=>?_⟩
  ·have e:p2 (200+5 * ((j+1:Nat):Int)) = 32 * p2 (200+5 * (j:Int)):=by
    rw [show (200+5 * ((j+1:Nat):Int)) = 200+5 * (j:Int)+((5:Nat):Int) by omega,p2_upW]
    rfl
   rw [e]
   have:=p2_pos (200+5 * (j:Int))
   grind
  ·by_cases g:t = j
   ·rw [g];exact s2
   ·exact i2 t (by omega)
theorem Elt.eye (r:Nat):Elt (p2 0) r r (eyM r):=by
 intro p q hp hq
 rw [show elM r (eyM r) p q = if q = p then 4607182418800017408 else 0 from el_mk r r _ hp hq,p2_0]
 split
 ·rw [fQ_one];exact ⟨by decide,by decide,by unfold ab;grind⟩
 ·rw [fQ_0];exact ⟨by decide,by decide,by unfold ab;grind⟩
theorem tame_ends {r c:Nat} {S:List Nat} (h:Elt (p2 200) r c S) (hl:S.length = r * c) (r6:r≤6):pfK r c S = true:=by
 have hA:=h.all r6
 have hK:pvK r c S (min c r) = true:=(pvK_all16 r c S _).2 (hA (min c r) (Nat.le_refl _)).2
 have hR:finL (pfR r c S) = true:=(hA (min c r) (Nat.le_refl _)).1.fins (pvR_len r c S hl _)
 have hQ:∀ t,t≤qrN r c→Elt (p2 (5 * t)) r r (upQ r (pvX r c S) (qrN r c) t):=by
  intro t
  induction t with
  | zero=>intro _;exact Elt.eye r
  | succ t ih =>
   intro ht
   have i:=ih (by omega)
   have hj2:=(qrN_lt r c (qrN r c - 1 - t)).1 (by omega)
   obtain ⟨j,hj⟩:∃ j,qrN r c - 1 - t = j:=⟨_,rfl⟩
   rw [hj] at hj2
   have hjA:=(hA j (by omega)).1
   have hX:Small (p2 300) (pvX r c S j):=((hjA.sw (j:=j) (a:=pvA r c (pvR r c S j) j) (by omega) (pvA_lt r c _ (by omega))).col (i:=j) (n:=r - j) (by omega) (by omega)).mono (p2_mono (by omega))
   obtain ⟨c1,c2,c3,c4,c5,c6⟩:=mr_crude (pvX r c S j) (by rw [pvX_len];omega) hX
   show Elt _ r r (apM r r (upQ r (pvX r c S) (qrN r c) t) (qrN r c - 1 - t) 0 (mrV (pvX r c S (qrN r c - 1 - t))) (mrT (pvX r c S (qrN r c - 1 - t))))
   rw [hj]
   have q6:qrN r c≤6:=by unfold qrN;omega
   have hZ9:6 * p2 (5 * (t:Int))≤p2 900:=by
    have h1:=p2_mono (show (5 * (t:Int)+1+1+1:Int)≤900 by omega)
    simp only [p2_succ] at h1
    have:=p2_pos (5 * (t:Int))
    grind
   refine (i.ap j 0 _ _ (by rw [mrV_len,pvX_len];omega) (by rw [mrV_len,pvX_len];omega) c2 c3 c4 hZ9 (eta_p2 _ (by omega))).mono ?_
   have e:p2 (5 * ((t+1:Nat):Int)) = 32 * p2 (5 * (t:Int)):=by
    rw [show (5 * ((t+1:Nat):Int)) = 5 * (t:Int)+((5:Nat):Int) by omega,p2_upW]
    rfl
   rw [e]
   have:=p2_pos (5 * (t:Int))
   grind
 have hq:finL (pfQ r c S) = true:=(hQ (qrN r c) (Nat.le_refl _)).fins (upQ_len _ _ _ _)
 unfold pfK
 rw [hK,hq,hR]
 rfl
end Go.Proofs.YtnnfjeieennffaaGreatDoor
namespace Go.Proofs.YtnnfjeieennffaaGreatDoor
open Go.RowKit
theorem fQ_leZ {a b:Nat} (h:fZ a≤fZ b):fQ a≤fQ b:=by
 unfold fQ
 have h1:(fZ a:Rat)≤(fZ b:Rat):=Rat.intCast_le_intCast.2 h
 exact Rat.mul_le_mul_of_nonneg_right h1 (Rat.le_of_lt (p2_pos _))
theorem gt_max (r c:Nat) (S:List Nat) (j:Nat):∀ t,gtK r c S j t = true→∀ k,j≤k→k < j+t→fZ (pvN r c S j k)≤fZ (pvN r c S j (gtA r c S j t)):=by
 intro t
 induction t with
 | zero=>intro _ k h1 h2;omega
 | succ t ih =>
  intro hk k h1 h2
  have hk':(gtK r c S j t && fFin (pvN r c S j (j+t))) = true:=hk
  rw [Bool.and_eq_true] at hk'
  show _≤fZ (pvN r c S j (if cO (pvN r c S j (gtA r c S j t)) (pvN r c S j (j+t)) < 0 then j+t else gtA r c S j t))
  rcases Nat.eq_zero_or_pos t with e | e
  ·subst e
   obtain rfl:k = j:=by omega
   have eA:gtA r c S k 0 = k:=rfl
   rw [eA]
   split <;> exact Int.le_refl _
  ·have hg:=gtK_at r c S j t hk'.1 (gtA r c S j t) (gtA_ge r c S j t) (gtA_lt r c S j t e)
   have hc:=cO_eq hg hk'.2
   by_cases g:k = j+t
   ·subst g
    split
    ·exact Int.le_refl _
    ·rename_i q
     have:¬ fZ (pvN r c S j (gtA r c S j t)) < fZ (pvN r c S j (j+t)):=fun z=>q (hc.2 z)
     omega
   ·have i:=ih hk'.1 k h1 (by omega)
    split
    ·rename_i q
     have:=hc.1 q
     omega
    ·exact i
theorem col_next (r c:Nat) (W:List Nat) {j k:Nat} (hj:j+1 < r) (hjk:j < k) (hk:k < c) :
  colL c (qrS r c W j) (j+1) (r - (j+1)) k = (apL c W j k (mrV (qxL r c W j)) (mrT (qxL r c W j))).drop 1:=by
 have lX:(qxL r c W j).length = r - j:=colL_len _ _ _ _ _
 have lV:(mrV (qxL r c W j)).length = r - j:=by rw [mrV_len,lX]
 refine List.ext_getElem (by rw [colL_len,List.length_drop,apL_len,lV];omega) (fun i h1 h2=>?_)
 have h3:i < r - (j+1):=by rw [colL_len] at h1;exact h1
 have a1:=colL_at c (qrS r c W j) (j+1) (r - (j+1)) k h3
 rw [List.getD_eq_getElem?_getD,List.getElem?_eq_getElem h1] at a1
 simp only [Option.getD_some] at a1
 have h4:1+i < (apL c W j k (mrV (qxL r c W j)) (mrT (qxL r c W j))).length:=by rw [apL_len,lV];omega
 rw [a1,List.getElem_drop]
 unfold qrS
 rw [el_cl r c _ j _ (by omega) hk,if_neg (fun e=>by omega),el_ap r c W j j _ _ (by omega) hk,if_pos ⟨by omega,by omega,by rw [lV];omega⟩,show j+1+i - j = 1+i by omega,List.getD_eq_getElem?_getD,List.getElem?_eq_getElem h4]
 rfl
theorem swI_ge {j a q:Nat} (hja:j≤a) (hq:j≤q):j≤swI j a q:=by
 unfold swI
 repeat' split
 all_goals omega
theorem swI_lt {j a q c:Nat} (hj:j < c) (ha:a < c) (hq:q < c):swI j a q < c:=by
 unfold swI
 repeat' split
 all_goals omega
theorem colW_any (r c:Nat) (S:List Nat) {j a k:Nat} (hj:j < c) (ha:a < c) (hk:k < c) (hjr:j≤r):colL c (swM r c S j a) j (r - j) k = colL c S j (r - j) (swI j a k):=by
 unfold colL
 refine List.map_congr_left (fun p hp=>?_)
 have:=List.mem_range.1 hp
 exact el_sw r c S hj ha (by omega) hk
theorem fall_step {r c:Nat} {T:List Nat} (h:Elt (p2 290) r c T) {j k:Nat} (r6:r≤6) (hjr:j+1 < r) (hjk:j < k) (hk:k < c) :
  137438953472 * (fQ (pvN r c (pvS r c T j) (j+1) k) * fQ (pvN r c (pvS r c T j) (j+1) k))≤137438953473 * (fQ (pvN r c T j (pvA r c T j)) * fQ (pvN r c T j (pvA r c T j)))+p2 (-520):=by
 have hjc:j < c:=by omega
 have hA:=pvA_lt r c T hjc
 have hG:=pvA_ge r c T j
 have hF:=(h.step r6 (show j < r by omega) hjc Rat.le_refl (p2_mono (by decide))).1
 have hW:Elt (p2 290) r c (pvW r c T j):=h.sw hjc hA
 have eX:=colW r c T (show j < r by omega) hjc
 have lX:(qxL r c (pvW r c T j) j).length = r - j:=colL_len _ _ _ _ _
 have lV:(mrV (qxL r c (pvW r c T j) j)).length = r - j:=by rw [mrV_len,lX]
 have eS:pvS r c T j = qrS r c (pvW r c T j) j:=by unfold pvS;rw [if_pos hjr]
 have eN:pvN r c (pvS r c T j) (j+1) k = nrV ((apL c (pvW r c T j) j k (mrV (qxL r c (pvW r c T j) j)) (mrT (qxL r c (pvW r c T j) j))).drop 1):=by
  unfold pvN
  rw [eS,col_next r c _ hjr hjk hk]
 have eν:fQ (pvN r c T j (pvA r c T j)) = fQ (nrV (qxL r c (pvW r c T j) j)):=by rw [eX];rfl
 have ey:colL c (pvW r c T j) j (r - j) k = colL c T j (r - j) (swI j (pvA r c T j) k):=colW_any r c T hjc hA hk (by omega)
 have hle:fQ (nrV (colL c (pvW r c T j) j (r - j) k))≤fQ (nrV (qxL r c (pvW r c T j) j)):=by
  rw [ey,eX]
  refine fQ_leZ (gt_max r c T j (c - j) hF _ (swI_ge hG (by omega)) ?_)
  have:=swI_lt hjc hA hk
  omega
 have hXs:Small (p2 290) (qxL r c (pvW r c T j) j):=hW.col (by omega) hjc
 have hYs:Small (p2 290) (colL c (pvW r c T j) j (r - j) k):=hW.col (by omega) hk
 obtain ⟨s1,s2,s3⟩:=pv_step _ _ (by rw [lX];omega) (by rw [colL_len,lX]) hXs hYs hle
 have lus:(apV (mV (mrT (qxL r c (pvW r c T j) j)) (dtV 0 (mrV (qxL r c (pvW r c T j) j)) (colL c (pvW r c T j) j (r - j) k))) (mrV (qxL r c (pvW r c T j) j)) (colL c (pvW r c T j) j (r - j) k)).length≤6:=by rw [apV_len _ _ _ (by rw [lV,colL_len]),lV];omega
 rw [eN,eν]
 unfold apL
 rw [lV]
 generalize apV (mV (mrT (qxL r c (pvW r c T j) j)) (dtV 0 (mrV (qxL r c (pvW r c T j) j)) (colL c (pvW r c T j) j (r - j) k))) (mrV (qxL r c (pvW r c T j) j)) (colL c (pvW r c T j) j (r - j) k) = us at *
 have hZ:=s1 (p2 290) hYs (by
  have:=p2_mono (show (290+1+1+1:Int)≤900 by decide)
  simp only [p2_succ] at this
  have:=p2_pos 290
  grind) (eta_p2 290 (by decide))
 have hZ3:Small (p2 300) us:=hZ.mono (by
  have e:p2 300 = 1024 * p2 290:=by rw [show (300:Int) = 290+((10:Nat):Int) by rfl,p2_upW];rfl
  have:=p2_pos 290
  rw [e];grind)
 obtain ⟨n1,n2,n3,n4⟩:=nr_sq (us.drop 1) (by rw [List.length_drop];omega) (hZ3.drop 1)
 have sd:=sum_drop us 1
 have S0:=sumQ_nonneg (us.drop 1)
 have l:=le_ab (fQ (nrV (us.drop 1)) * fQ (nrV (us.drop 1)) - sumQ (us.drop 1))
 have t1:=p2_mono (show (-1700:Int)≤-520 by decide)
 have t0:=p2_pos (-1700)
 have V0:=sq_nonneg (fQ (nrV (qxL r c (pvW r c T j) j)))
 by_cases hν:p2 (-290)≤fQ (nrV (qxL r c (pvW r c T j) j))
 ·have g:=s2 hν
  clear s1 s2 s3 hle hZ hZ3 n4
  generalize fQ (nrV (qxL r c (pvW r c T j) j)) * fQ (nrV (qxL r c (pvW r c T j) j)) = VV at *
  generalize fQ (nrV (us.drop 1)) * fQ (nrV (us.drop 1)) = NN at *
  generalize sumQ (us.drop 1) = S1 at *
  generalize sumQ us = SS at *
  generalize ab (NN - S1) = z at *
  grind
 ·have g:=s3 (by grind)
  have hS:sumQ us≤6 * (p2 (-285) * p2 (-285)):=by
   have h1:=sum_len (p2 (-285)) us g
   have hl2:(us.length:Rat)≤6:=Rat.natCast_le_natCast.2 lus
   have:=Rat.mul_nonneg (show 0≤6 - (us.length:Rat) by grind) (sq_nonneg (p2 (-285)))
   grind
  have e:p2 (-520) = 1125899906842624 * (p2 (-285) * p2 (-285)):=by rw [← p2_two,show (-520:Int) = (-285+-285)+((50:Nat):Int) by rfl,p2_upW];rfl
  have t2:1125899906842624 * p2 (-1700)≤p2 (-520):=by
   have e2:p2 (-1650) = 1125899906842624 * p2 (-1700):=by rw [show (-1650:Int) = -1700+((50:Nat):Int) by rfl,p2_upW];rfl
   rw [← e2]
   exact p2_mono (by decide)
  have PP0:=sq_nonneg (p2 (-285))
  rw [e] at t2 ⊢
  clear s1 s2 s3 hle hZ hZ3 n4 t1 g
  generalize fQ (nrV (qxL r c (pvW r c T j) j)) * fQ (nrV (qxL r c (pvW r c T j) j)) = VV at *
  generalize fQ (nrV (us.drop 1)) * fQ (nrV (us.drop 1)) = NN at *
  generalize p2 (-285) * p2 (-285) = PP at *
  generalize sumQ (us.drop 1) = S1 at *
  generalize sumQ us = SS at *
  generalize ab (NN - S1) = z at *
  grind
theorem diag_sq {r c:Nat} {T:List Nat} (h:Elt (p2 290) r c T) {j:Nat} (r6:r≤6) (hjr:j < r) (hjc:j < c) :
  9007199254740992 * ab (fQ (elM c (pvS r c T j) j j) * fQ (elM c (pvS r c T j) j j) - fQ (pvN r c T j (pvA r c T j)) * fQ (pvN r c T j (pvA r c T j)))≤136 * (fQ (pvN r c T j (pvA r c T j)) * fQ (pvN r c T j (pvA r c T j)))+p2 (-520):=by
 have hA:=pvA_lt r c T hjc
 have hW:Elt (p2 290) r c (pvW r c T j):=h.sw hjc hA
 have eX:=colW r c T hjr hjc
 have lX:(qxL r c (pvW r c T j) j).length = r - j:=colL_len _ _ _ _ _
 have hXs:Small (p2 300) (qxL r c (pvW r c T j) j):=(hW.col (i:=j) (n:=r - j) (by omega) hjc).mono (p2_mono (by decide))
 have eν:fQ (pvN r c T j (pvA r c T j)) = fQ (nrV (qxL r c (pvW r c T j) j)):=by rw [eX];rfl
 obtain ⟨x1,x2,x3,x4⟩:=nr_sq _ (by rw [lX];omega) hXs
 have key:fQ (elM c (pvS r c T j) j j) * fQ (elM c (pvS r c T j) j j) = fQ (nrV (qxL r c (pvW r c T j) j)) * fQ (nrV (qxL r c (pvW r c T j) j)) ∨ fQ (elM c (pvS r c T j) j j) * fQ (elM c (pvS r c T j) j j) = sumQ (qxL r c (pvW r c T j) j):=by
  unfold pvS
  by_cases g:j+1 < r
  ·rw [if_pos g]
   have e:elM c (qrS r c (pvW r c T j) j) j j = mrB (qxL r c (pvW r c T j) j):=by
    unfold qrS
    rw [el_cl r c _ j _ hjr hjc,if_pos ⟨rfl,Nat.le_refl _,hjr⟩,if_pos rfl]
   rw [e]
   exact (mr_crude _ (by rw [lX];omega) hXs).2.2.2.2.1 (fun e=>by rw [e] at lX;simp at lX;omega)
  ·rw [if_neg g]
   right
   have e:qxL r c (pvW r c T j) j = [elM c (pvW r c T j) j j]:=by
    unfold qxL colL
    rw [show r - j = 1 by omega]
    rfl
   rw [e]
   show _ = fQ _ * fQ _+0
   grind
 rw [eν]
 have t1:=p2_mono (show (-1700+1:Int)≤-520 by decide)
 rw [p2_succ] at t1
 have t0:=p2_pos (-1700)
 have V0:=sq_nonneg (fQ (nrV (qxL r c (pvW r c T j) j)))
 have S0:=sumQ_nonneg (qxL r c (pvW r c T j) j)
 have l:=le_ab (fQ (nrV (qxL r c (pvW r c T j) j)) * fQ (nrV (qxL r c (pvW r c T j) j)) - sumQ (qxL r c (pvW r c T j) j))
 rcases key with e | e
 ·rw [e]
  generalize fQ (nrV (qxL r c (pvW r c T j) j)) * fQ (nrV (qxL r c (pvW r c T j) j)) = VV at *
  have:VV - VV = 0:=by grind
  rw [this]
  unfold ab
  grind
 ·rw [e]
  rw [ab_sub (sumQ (qxL r c (pvW r c T j) j))]
  generalize fQ (nrV (qxL r c (pvW r c T j) j)) * fQ (nrV (qxL r c (pvW r c T j) j)) = VV at *
  generalize sumQ (qxL r c (pvW r c T j) j) = SS at *
  generalize ab (VV - SS) = z at *
  grind
theorem diag_stay (r c:Nat) (S:List Nat) {j:Nat}:∀ t,j < t→t≤min c r→elM c (pvR r c S t) j j = elM c (pvR r c S (j+1)) j j:=by
 intro t
 induction t with
 | zero=>intro h _;omega
 | succ t ih =>
  intro h1 h2
  by_cases g:t = j
  ·rw [g]
  ·rw [← ih (by omega) (by omega)]
   have hG:=pvA_ge r c (pvR r c S t) t
   have hA:=pvA_lt r c (pvR r c S t) (show t < c by omega)
   have hw:elM c (pvW r c (pvR r c S t) t) j j = elM c (pvR r c S t) j j:=by
    unfold pvW
    rw [el_sw r c _ (show t < c by omega) hA (show j < r by omega) (show j < c by omega)]
    unfold swI
    rw [if_neg (by omega),if_neg (by omega)]
   show elM c (pvS r c (pvR r c S t) t) j j = _
   unfold pvS
   split
   ·unfold qrS
    rw [el_cl r c _ t _ (show j < r by omega) (show j < c by omega),if_neg (fun e=>by omega),el_ap r c _ t t _ _ (show j < r by omega) (show j < c by omega),if_neg (fun e=>by omega)]
    exact hw
   ·exact hw
theorem Elt.ap0 {r c:Nat} {S:List Nat} (h:Elt 0 r c S) (i k:Nat) (vs:List Nat) (tau:Nat) (hi:i+vs.length≤r) (ft:fFin tau = true) (hv:∀ v ∈ vs,fFin v = true):Elt 0 r c (apM r c S i k vs tau):=by
 intro p q hp hq
 rw [el_ap r c S i k vs tau hp hq]
 split
 ·rename_i g
  have hc:=h.col (n:=vs.length) hi hq
  have lc:vs.length = (colL c S i vs.length q).length:=(colL_len _ _ _ _ _).symm
  have hz:∀ y ∈ colL c S i vs.length q,fFin y = true∧fQ y = 0:=fun y hy=>⟨(hc y hy).2.1,by have:=(hc y hy).2.2;have:=le_ab (fQ y);grind⟩
  have hj:p - i < vs.length:=by omega
  obtain ⟨d1,d2⟩:=dot_noughts vs (colL c S i vs.length q) 0 (by decide) fQ_0 hv hz
  obtain ⟨m1,m2⟩:=mul_noughts tau _ ft d1 (by rw [d2];grind)
  have hls:=ap_noughts _ m1 m2 vs (colL c S i vs.length q) lc hv hz 0 Rat.le_refl
  obtain ⟨l1,l2⟩:=less_at _ _ _ _ _ hls
  have e:=l2 (p - i) (by rw [← lc];exact hj)
  have hmem:(apL c S i q vs tau).getD (p - i) 0 ∈ apL c S i q vs tau:=by
   rw [List.getD_eq_getElem?_getD,List.getElem?_eq_getElem (by rw [apL_len];exact hj)]
   exact List.getElem_mem _
  have ff:=fins_of _ _ _ _ _ hls _ hmem
  refine ⟨?_,ff,?_⟩
  ·rw [apL_at c S i q vs tau hj]
   exact aV_lt _ _ (h (i+(p - i)) q (by omega) hq).1 (fN_lt _ (mV_lt _ _))
  ·have hy0:fc (colL c S i vs.length q) (p - i) = 0:=by
    unfold fc
    rw [List.getD_eq_getElem?_getD,List.getElem?_eq_getElem (by rw [← lc];exact hj)]
    exact (hz _ (List.getElem_mem _)).2
   rw [hy0] at e
   show ab (fc (apV (mV tau (dtV 0 vs (colL c S i vs.length q))) vs (colL c S i vs.length q)) (p - i))≤0
   generalize fc (apV (mV tau (dtV 0 vs (colL c S i vs.length q))) vs (colL c S i vs.length q)) (p - i) = x at *
   have:x - (0 - 0 * fc vs (p - i)) = x:=by grind
   rw [this] at e
   grind
 ·exact h p q hp hq
theorem Elt.step0 {r c:Nat} {S:List Nat} (h:Elt 0 r c S) {j:Nat} (r6:r≤6) (hjr:j < r) (hjc:j < c):Elt 0 r c (pvS r c S j):=by
 have hA:=pvA_lt r c S hjc
 have hW:Elt 0 r c (pvW r c S j):=h.sw hjc hA
 have hX:Small 0 (qxL r c (pvW r c S j) j):=hW.col (by omega) hjc
 have lX:(qxL r c (pvW r c S j) j).length = r - j:=colL_len _ _ _ _ _
 have hX3:Small (p2 300) (qxL r c (pvW r c S j) j):=hX.mono (Rat.le_of_lt (p2_pos _))
 have hz:∀ x ∈ qxL r c (pvW r c S j) j,fQ x = 0:=fun x hx=>by have:=(hX x hx).2.2;have:=le_ab (fQ x);grind
 obtain ⟨c1,c2,c3,c4,c5,c6⟩:=mr_crude (qxL r c (pvW r c S j) j) (by omega) hX3
 unfold pvS
 split
 ·refine (hW.ap0 j j _ _ (by rw [mrV_len,lX];omega) c2 (fun v hv=>(c4 v hv).1)).cl j _ Rat.le_refl ⟨mrB_lt _ (fun x hx=>(hX x hx).1),c6,?_⟩
  have hs:=sum_nought hz
  obtain ⟨x1,x2,x3,x4⟩:=nr_sq _ (by rw [lX];omega) hX3
  have e0:fQ (nrV (qxL r c (pvW r c S j) j)) = 0:=by
   have hb:bgF 0 (qxL r c (pvW r c S j) j) = 0:=by
    obtain ⟨g1,g2,g3,g4⟩:=bgF_fin (qxL r c (pvW r c S j) j) 0 (by decide) (fun x hx=>(hX x hx).2.1)
    rcases g4 with e | ⟨x,hx,e⟩
    ·exact e
    ·have:=fK_0_of (hX x hx).1 (hX x hx).2.1 (hz x hx)
     rw [← e]
     exact (fK_zero x).1 this
   rw [nr_nought hb,fQ_0]
  have sq:fQ (mrB (qxL r c (pvW r c S j) j)) * fQ (mrB (qxL r c (pvW r c S j) j)) = 0:=by
   rcases c5 (fun e=>by rw [e] at lX;simp at lX;omega) with e | e
   ·rw [e,e0];grind
   ·rw [e,hs]
  have z:fQ (mrB (qxL r c (pvW r c S j) j)) = 0:=by
   rcases Rat.le_total (a:=fQ (mrB (qxL r c (pvW r c S j) j))) (b:=0) with g | g
   ·have:=le_of_sq (x:=-fQ (mrB (qxL r c (pvW r c S j) j))) (y:=0) Rat.le_refl (by grind)
    grind
   ·have:=le_of_sq (x:=fQ (mrB (qxL r c (pvW r c S j) j))) (y:=0) Rat.le_refl (by grind)
    grind
  rw [z];unfold ab;grind
 ·exact hW
def TameE (r c:Nat) (S:List Nat):Prop:=Elt (p2 200) r c S∧∀ p q,p < r→q < c→fQ (elM c S p q) = 0 ∨ p2 (-200)≤ab (fQ (elM c S p q))
theorem falls {r c:Nat} {S:List Nat} (h:TameE r c S) (r6:r≤6) {j:Nat} (hj:j+1 < r) (hjc:j+1 < c) :
  1073741824 * (fQ (elM c (pfR r c S) (j+1) (j+1)) * fQ (elM c (pfR r c S) (j+1) (j+1)))≤1073741824 * (fQ (elM c (pfR r c S) j j) * fQ (elM c (pfR r c S) j j))+fQ (elM c (pfR r c S) 0 0) * fQ (elM c (pfR r c S) 0 0):=by
 have hD:∀ i,i < min c r→elM c (pfR r c S) i i = elM c (pvS r c (pvR r c S i) i) i i:=fun i hi=>diag_stay r c S (min c r) hi (Nat.le_refl _)
 rw [hD (j+1) (by omega),hD j (by omega),hD 0 (by omega)]
 by_cases hz:∀ p q,p < r→q < c→fQ (elM c S p q) = 0
 ·have h0:∀ i,i≤min c r→Elt 0 r c (pvR r c S i):=by
   intro i
   induction i with
   | zero=>intro _ p q hp hq;exact ⟨(h.1 p q hp hq).1,(h.1 p q hp hq).2.1,by rw [show elM c (pvR r c S 0) p q = elM c S p q from rfl,hz p q hp hq];unfold ab;grind⟩
   | succ i ih=>intro hi;exact (ih (by omega)).step0 r6 (by omega) (by omega)
  have z:∀ i,i < min c r→fQ (elM c (pvS r c (pvR r c S i) i) i i) = 0:=fun i hi=>by
   have:=((h0 (i+1) (by omega)) i i (by omega) (by omega)).2.2
   have l:=le_ab (fQ (elM c (pvR r c S (i+1)) i i))
   show fQ (elM c (pvR r c S (i+1)) i i) = 0
   grind
  rw [z (j+1) (by omega),z j (by omega),z 0 (by omega)]
  grind
 ·obtain ⟨p,q,hp,hq,hne⟩:∃ p q,p < r∧q < c∧fQ (elM c S p q) ≠ 0:=by
   apply Classical.byContradiction
   intro hn
   exact hz (fun p q hp hq=>Classical.byContradiction (fun e=>hn ⟨p,q,hp,hq,e⟩))
  have hlow:=(h.2 p q hp hq).resolve_left hne
  have hE:∀ i,i≤min c r→Elt (p2 290) r c (pvR r c S i):=fun i hi=>(h.1.all r6 i hi).1.mono (p2_mono (by omega))
  obtain ⟨V,hV⟩:∃ V:Nat→Rat,V = fun i=>fQ (pvN r c (pvR r c S i) i (pvA r c (pvR r c S i) i)) * fQ (pvN r c (pvR r c S i) i (pvA r c (pvR r c S i) i)):=⟨_,rfl⟩
  have V0:∀ i,0≤V i:=fun i=>by rw [hV];exact sq_nonneg _
  have next:∀ i,i+1 < r→i+1 < c→137438953472 * V (i+1)≤137438953473 * V i+p2 (-520):=fun i hi hic=>by
   have hA:=pvA_lt r c (pvR r c S (i+1)) hic
   have hG:=pvA_ge r c (pvR r c S (i+1)) (i+1)
   have:=fall_step (hE i (by omega)) (j:=i) (k:=pvA r c (pvR r c S (i+1)) (i+1)) r6 hi (by omega) hA
   rw [hV]
   exact this
  have dg:∀ i,i < min c r→9007199254740992 * ab (fQ (elM c (pvS r c (pvR r c S i) i) i i) * fQ (elM c (pvS r c (pvR r c S i) i) i i) - V i)≤136 * V i+p2 (-520):=fun i hi=>by
   rw [hV]
   exact diag_sq (hE i (by omega)) r6 (by omega) (by omega)
  -- the first norm
  have low:p2 (-402)≤V 0:=by
   have hN:=nr_sq (colL c S 0 (r - 0) q) (by rw [colL_len];omega) ((h.1.col (i:=0) (n:=r - 0) (by omega) hq).mono (p2_mono (by decide)))
   have hm:elM c S p q ∈ colL c S 0 (r - 0) q:=List.mem_map.2 ⟨p,List.mem_range.2 (by omega),by rw [Nat.zero_add]⟩
   have h1:=hN.2.2.2 _ hm
   have hF:=((hE 0 (by omega)).step r6 (show 0 < r by omega) (show 0 < c by omega) Rat.le_refl (p2_mono (by decide))).1
   have h2:=fQ_leZ (gt_max r c S 0 (c - 0) hF q (Nat.zero_le _) (by omega))
   have h3:fQ (nrV (colL c S 0 (r - 0) q))≤fQ (pvN r c (pvR r c S 0) 0 (pvA r c (pvR r c S 0) 0)):=h2
   have e:p2 (-200) * p2 (-200) = 4 * p2 (-402):=by rw [← p2_two,show (-200+-200:Int) = -402+((2:Nat):Int) by rfl,p2_upW];rfl
   have q0:=p2_pos (-200)
   rw [hV]
   show p2 (-402)≤fQ (pvN r c (pvR r c S 0) 0 (pvA r c (pvR r c S 0) 0)) * fQ (pvN r c (pvR r c S 0) 0 (pvA r c (pvR r c S 0) 0))
   generalize fQ (pvN r c (pvR r c S 0) 0 (pvA r c (pvR r c S 0) 0)) = ν at *
   have h4:p2 (-200)≤2 * ν:=by grind
   have m:=Rat.mul_nonneg (show 0≤2 * ν - p2 (-200) by grind) (show 0≤2 * ν+p2 (-200) by grind)
   grind
  have tiny:1125899906842624 * p2 (-520)≤p2 (-402):=by
   have e2:p2 (-470) = 1125899906842624 * p2 (-520):=by rw [show (-470:Int) = -520+((50:Nat):Int) by rfl,p2_upW];rfl
   rw [← e2]
   exact p2_mono (by decide)
  have P0:=p2_pos (-520)
  have chain:∀ i,i < min c r→1000000 * V i≤(1000000+(i:Rat)) * V 0:=by
   intro i
   induction i with
   | zero=>intro _;have:((0:Nat):Rat) = 0:=rfl;rw [this];grind
   | succ i ih =>
    intro hi
    have i1:=ih (by omega)
    have n1:=next i (by omega) (by omega)
    have e:((i+1:Nat):Rat) = (i:Rat)+1:=by rw [Rat.natCast_add];rfl
    rw [e]
    have i0:(i:Rat)≤6:=Rat.natCast_le_natCast.2 (show i≤6 by omega)
    have i00:(0:Rat)≤(i:Rat):=Rat.natCast_le_natCast.2 (Nat.zero_le i)
    have m:=Rat.mul_nonneg (show 0≤6 - (i:Rat) by grind) (V0 0)
    have v0:=V0 0
    have e1:(1000000+(i:Rat)) * V 0 = 1000000 * V 0+(i:Rat) * V 0:=by grind
    have e2:(1000000+((i:Rat)+1)) * V 0 = 1000001 * V 0+(i:Rat) * V 0:=by grind
    have e3:(6 - (i:Rat)) * V 0 = 6 * V 0 - (i:Rat) * V 0:=by grind
    rw [e1] at i1
    rw [e2]
    rw [e3] at m
    generalize (i:Rat) * V 0 = IV at *
    clear e1 e2 e3 e ih next dg hV hD hE
    generalize V (i+1) = A at *
    generalize V i = B at *
    generalize V 0 = C at *
    grind
  have b:1000 * V j≤1001 * V 0:=by
   have:=chain j (by omega)
   have i0:(j:Rat)≤6:=Rat.natCast_le_natCast.2 (show j≤6 by omega)
   have m:=Rat.mul_nonneg (show 0≤6 - (j:Rat) by grind) (V0 0)
   have v0:=V0 0
   generalize V 0 = C at *
   grind
  have n1:=next j hj hjc
  have d0:=dg 0 (by omega)
  have d1:=dg j (by omega)
  have d2:=dg (j+1) (by omega)
  have v0:=V0 0;have v1:=V0 j;have v2:=V0 (j+1)
  clear chain next dg hV hD hE
  generalize fQ (elM c (pvS r c (pvR r c S 0) 0) 0 0) * fQ (elM c (pvS r c (pvR r c S 0) 0) 0 0) = D0 at *
  generalize fQ (elM c (pvS r c (pvR r c S j) j) j j) * fQ (elM c (pvS r c (pvR r c S j) j) j j) = D1 at *
  generalize fQ (elM c (pvS r c (pvR r c S (j+1)) (j+1)) (j+1) (j+1)) * fQ (elM c (pvS r c (pvR r c S (j+1)) (j+1)) (j+1) (j+1)) = D2 at *
  have l0:=le_ab (D0 - V 0);have l1:=le_ab (D1 - V j);have l2:=le_ab (D2 - V (j+1))
  generalize ab (D0 - V 0) = z0 at *
  generalize ab (D1 - V j) = z1 at *
  generalize ab (D2 - V (j+1)) = z2 at *
  generalize V 0 = A at *
  generalize V j = B at *
  generalize V (j+1) = C at *
  clear hz hne hlow h V0
  grind
end Go.Proofs.YtnnfjeieennffaaGreatDoor
namespace Go.Proofs.YtnnfjeieennffaaGreatDoor
open Go.RowKit
theorem tame16 {x:Nat} (hx:x < 18446744073709551616) (h:tmB 200 x = true):x < 18446744073709551616∧fFin x = true∧ab (fQ x)≤p2 200∧(fQ x = 0 ∨ p2 (-200)≤ab (fQ x)):=by
 unfold tmB at h
 rw [Bool.and_eq_true,Bool.or_eq_true,decide_eq_true_eq,decide_eq_true_eq] at h
 obtain ⟨hf,h2⟩:=h
 by_cases h0:fK x = 0
 ·rw [fQ_nought x h0]
  refine ⟨hx,hf,?_,.inl rfl⟩
  have:=p2_pos 200
  unfold ab;grind
 ·obtain ⟨g1,g2⟩:=h2.resolve_left h0
  obtain ⟨t1,t2⟩:=eX_top x hx hf h0
  refine ⟨hx,hf,?_,.inr (Rat.le_trans (p2_mono g1) t1)⟩
  exact Rat.le_trans (Rat.le_of_lt t2) (p2_mono (by omega))
theorem prod_lt16 {x y:Int} {m n V:Nat} (h:m+n≤V) (hx:x.natAbs < 2 ^ m) (hy:y.natAbs < 2 ^ n):(x * y).natAbs < 2 ^ V:=by
 refine Nat.lt_of_lt_of_le ?_ (Nat.pow_le_pow_right (by decide) h)
 rw [Int.natAbs_mul,Nat.pow_add]
 exact Nat.mul_lt_mul'' hx hy
theorem up_lt16 {x:Int} {m k V:Nat} (h:m+k≤V) (hx:x.natAbs < 2 ^ m):(x * 2 ^ k).natAbs < 2 ^ V:=by
 refine Nat.lt_of_lt_of_le ?_ (Nat.pow_le_pow_right (by decide) h)
 rw [Int.natAbs_mul,Nat.pow_add]
 have e:((2:Int) ^ k).natAbs = 2 ^ k:=by rw [Int.natAbs_pow];rfl
 rw [e]
 exact Nat.mul_lt_mul_of_pos_right hx (Nat.pow_pos (by decide))
theorem add_lt16 {x y:Int} {m V:Nat} (h:m+1≤V) (hx:x.natAbs < 2 ^ m) (hy:y.natAbs < 2 ^ m):(x+y).natAbs < 2 ^ V:=by
 refine Nat.lt_of_lt_of_le ?_ (Nat.pow_le_pow_right (by decide) h)
 rw [Nat.pow_succ]
 omega
theorem le_lt16 {x:Int} {m V:Nat} (h:m≤V) (hx:x.natAbs < 2 ^ m):x.natAbs < 2 ^ V:=Nat.lt_of_lt_of_le hx (Nat.pow_le_pow_right (by decide) h)
theorem cmp_le16 {x y:Int} (h:x≤y):cmpI x y≤0:=by
 unfold cmpI
 repeat' split
 all_goals omega
theorem falls_int {a b d:Nat} (h:1073741824 * (fQ a * fQ a)≤1073741824 * (fQ b * fQ b)+fQ d * fQ d):fZ a * fZ a * 2 ^ 30≤fZ b * fZ b * 2 ^ 30+fZ d * fZ d:=by
 unfold fQ at h
 have hp:=Rat.mul_pos (p2_pos (-1074)) (p2_pos (-1074))
 have e1:∀ z:Int,(z:Rat) * p2 (-1074) * ((z:Rat) * p2 (-1074)) = ((z * z:Int):Rat) * (p2 (-1074) * p2 (-1074)):=fun z=>by rw [Rat.intCast_mul];grind
 rw [e1,e1,e1] at h
 have e2:(2:Int) ^ 30 = 1073741824:=rfl
 rw [e2]
 generalize fZ a * fZ a = A at *
 generalize fZ b * fZ b = B at *
 generalize fZ d * fZ d = C at *
 rcases Int.lt_or_le (B * 1073741824+C) (A * 1073741824) with g | g
 ·exfalso
  have g2:((B * 1073741824+C:Int):Rat) < ((A * 1073741824:Int):Rat):=Rat.intCast_lt_intCast.2 g
  rw [Rat.intCast_add,Rat.intCast_mul,Rat.intCast_mul] at g2
  have c1:((1073741824:Int):Rat) = 1073741824:=rfl
  rw [c1] at g2
  have m:=Rat.mul_pos (show 0 < (A:Rat) * 1073741824 - ((B:Rat) * 1073741824+(C:Rat)) by grind) hp
  generalize p2 (-1074) * p2 (-1074) = P at *
  grind
 ·exact g
theorem pivotFalls_walk (r c:Int) (ao:Option Addr) (cap:Nat) (I:List Int) (w:World) (hI:BitsAt w ao cap I) (hl:I.length≤17592186043904) (_hr:-9223372036854775808≤r∧r≤9223372036854775807) (_hc:-9223372036854775808≤c∧c≤9223372036854775807) (hT:Tab w) :
  Calls Tryz.prog 6 #[.agg #[.int .i64 r,.int .i64 c,.slice ao I.length cap]] w fun e w'=>e = .returned (.bool true)∧Below w.heap.size w w':=by
 have C1:=fun w' (hb:Below w.heap.size w w')=>r11tame_any r c ao cap I 200 w' (hI.below hb) (by omega) (by omega)
 have CA:=pivot_awake_any w hT
 cases ht:(okB r c I.length && tmK 200 I I.length)
 ·rw [ht] at C1
  exact pivotFalls_no r c ao I.length cap w C1 CA
 ·rw [ht] at C1
  rw [Bool.and_eq_true] at ht
  obtain ⟨p,q,rfl,rfl,hM,hS⟩:=Mx.of hI ht.1
  have hlen:(natL I).length = I.length:=natL_len I
  have r6:=hM.2.2.1;have c6:=hM.2.2.2
  have hE:∀ i k,i < p→k < q→tmB 200 (elM q (natL I) i k) = true:=fun i k hi hk=>by
   have hb:=tmK_at 200 I I.length (i * q+k) (by rw [← hlen,hM.2.1];exact place_lt hi hk) ht.2
   rw [← hS,mxL_at] at hb
   exact hb
  have hTE:TameE p q (natL I):=⟨fun i k hi hk=>by
   obtain ⟨a,b,d,_⟩:=tame16 (hM.el_lt i k) (hE i k hi hk)
   exact ⟨a,b,d⟩,fun i k hi hk=>(tame16 (hM.el_lt i k) (hE i k hi hk)).2.2.2⟩
  have hfin:finL (natL I) = true:=hTE.1.fins hM.2.1
  have hK:=tame_ends hTE.1 hM.2.1 r6
  have hR:=(hTE.1.all r6 (min q p) (Nat.le_refl _)).1
  have lr:(pfR p q (natL I)).length = I.length:=(pvR_len p q (natL I) hM.2.1 _).trans (hM.2.1.symm.trans hlen)
  have lr2:(pfR p q (natL I)).length = p * q:=pvR_len p q (natL I) hM.2.1 _
  have lq:(pfQ p q (natL I)).length = p * p:=upQ_len _ _ _ _
  have fR2:finL (pfR p q (natL I)) = true:=hR.fins lr2
  have hel:∀ i,i < p→i < q→fFin (elM q (pfR p q (natL I)) i i) = true:=fun i h1 h2=>(hR i i h1 h2).2.1
  have hfz:∀ i,i < p→i < q→(fZ (elM q (pfR p q (natL I)) i i) * fZ (elM q (pfR p q (natL I)) i i)).natAbs < 2 ^ 4196:=fun i h1 h2=>prod_lt16 (m:=2098) (n:=2098) (V:=4196) (by decide) (fZ_lt _ (hel i h1 h2)) (fZ_lt _ (hel i h1 h2))
  have hup:∀ i,i < p→i < q→(fZ (elM q (pfR p q (natL I)) i i) * fZ (elM q (pfR p q (natL I)) i i) * 2 ^ 30).natAbs < 2 ^ 4300:=fun i h1 h2=>up_lt16 (m:=4196) (k:=30) (V:=4300) (by decide) (hfz i h1 h2)
  refine pivotFalls_ok p q I.length (p * p) cap ao (pfR p q (natL I)) (fun k=>fZ (elM q (pfR p q (natL I)) k k) * fZ (elM q (pfR p q (natL I)) k k)) (fun j=>cmpI (fZ (elM q (pfR p q (natL I)) j j) * fZ (elM q (pfR p q (natL I)) j j) * 2 ^ 30) (fZ (elM q (pfR p q (natL I)) (j - 1) (j - 1)) * fZ (elM q (pfR p q (natL I)) (j - 1) (j - 1)) * 2 ^ 30+fZ (elM q (pfR p q (natL I)) 0 0) * fZ (elM q (pfR p q (natL I)) 0 0))) w r6 c6 (fun j h1 h2 h3=>?_) C1 (fun w' hb=>?_) (fun w' ro rc hx=>?_) (fun w' ro rc k hx h1 h2=>?_) (fun w' v h1 h2 h=>?_) (fun w' j v u h1 h2 h3 hv hu=>?_) (fun w' j v u h1 h2 h3 hv hu=>?_) CA
  ·obtain ⟨i,rfl⟩:∃ i,j = i+1:=⟨j - 1,by omega⟩
   rw [Nat.add_sub_cancel]
   exact cmp_le16 (falls_int (falls hTE r6 h2 h3))
  ·have:=pFactor_yes p q cap ao (natL I) w' (hM.below hb) hfin hK (hT.all hb)
   rw [hlen] at this
   refine this.mono ?_
   rintro e w'' ⟨v,u,lo,lc,rfl,⟨qo,qc,rfl,_,_⟩,⟨ro,rc,rfl,_,hx⟩,_,_,hb2⟩
   exact ⟨qo,qc,ro,rc,lo,lc,by rw [lq,lr],hx,hb2⟩
  ·have hX:Mx w' ro rc p q (pfR p q (natL I)):=⟨hx,lr2,r6,c6⟩
   have:=r11check_any (p:Int) (q:Int) ro rc (mxL (pfR p q (natL I))) w' hx (by rw [mxL_len];have:=hX.small;omega)
   have hck:ckE (p:Int) (q:Int) (mxL (pfR p q (natL I))) = 0:=by
    unfold ckE
    rw [mxL_len,mx_ok hX]
    have:fnK (mxL (pfR p q (natL I))) (pfR p q (natL I)).length = true:=fR2
    rw [this]
    rfl
   rw [hck,mxL_len,lr] at this
   exact this
  ·have:=square16_any p q rc k ro (pfR p q (natL I)) w' ⟨hx,lr2,r6,c6⟩ h1 h2 (hel k h1 h2)
   rw [lr] at this
   exact this
  ·exact rscaleL (-30) h (W:=4196) ⟨hfz 0 h1 h2,by decide,by decide,by decide⟩ (by decide)
  ·have h5:=hv.lower 30
   rw [show (-2148:Int) - ((30:Nat):Int) = -2178 by decide] at h5
   exact raddL h5 hu (W:=4300) ⟨hup (j - 1) (by omega) (by omega),by decide,by decide,by decide⟩ ⟨le_lt16 (m:=4196) (V:=4300) (by decide) (hfz 0 (by omega) (by omega)),by decide,by decide,by decide⟩
  ·have h5:=hv.lower 30
   rw [show (-2148:Int) - ((30:Nat):Int) = -2178 by decide] at h5
   exact rcmpN h5 hu (W:=4301) ⟨le_lt16 (m:=4300) (V:=4301) (by decide) (hup j h2 h3),by decide,by decide,by decide⟩ ⟨add_lt16 (m:=4300) (V:=4301) (by decide) (hup (j - 1) (by omega) (by omega)) (le_lt16 (m:=4196) (V:=4300) (by decide) (hfz 0 (by omega) (by omega))),by decide,by decide,by decide⟩
end Go.Proofs.YtnnfjeieennffaaGreatDoor
