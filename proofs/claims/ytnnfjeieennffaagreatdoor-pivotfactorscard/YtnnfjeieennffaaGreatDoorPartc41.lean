/- Part 41 of the texts. -/
import Derived.Test.YtnnfjeieennffaaGreatDoorPartc39
import Derived.Test.YtnnfjeieennffaaGreatDoorPartc40
set_option maxHeartbeats 32000000
set_option maxRecDepth 20000
namespace Go.Proofs.YtnnfjeieennffaaGreatDoor
open Go.RowKit
attribute [local go_sem ↓] Go.wp_at_zero Go.wp_at_succ
def JE(a b:Nat):Bool:=decide (cO a b<0)
theorem tQ(a b:Nat)(w:World)(f:a<18446744073709551616)(d:b<18446744073709551616):
  Calls Tryz.prog 47 #[.int .u64 a,.int .u64 b] w fun e w'=>e=.returned (.bool (JE a b))∧Below w.heap.size w w':=by
 have K:=aa (fun w'=>nU a b w' f d)
 unfold JE
 generalize cO a b=o at*
 generalize cB a b=t at*
 clear f d
 go_enter Tryz.func47,Tryz.ntmps47
 go_wp2_with fail
 refine(uH K _).mono ?_
 rintro e l ⟨rfl,d⟩
 have h:=aa d
 clear d K
 go_wp2
 go_ret
 exact⟨by first|rfl|simp,uH h⟩
theorem rp(r c n H j m:Nat)(Y:Option Addr)(X:Nat→List Int)(N A:Nat→Nat)(f M:Nat→Bool)(ls:Nat→Nat→Bool)(w:World)(hc:c≤6)(hj:j<c)
  (Z:A 0=j) (hA:∀t,A (t+1)=if ls (A t) (j+t)=true then j+t else A t) (ae:∀t,j+t≤c→A t<c) (aj:M 0=true) (hK:∀t,M (t+1)=(M t&&f (j+t))) (am:∀t,j+t<c→f (j+t)=false→M (c-j)=false) (O:Int) (ax:M (c-j)=true→O=(A (c-j):Int)) (aI:M (c-j)=false→O= -1)
  (C1:∀w' k,Below w.heap.size w w'→k<c→Calls Tryz.prog 39 #[.agg #[.int .i64 r,.int .i64 c,.slice Y n H],.int .i64 (k:Nat),.int .i64 j] w' fun e F=>∃Q d,e=.returned (.slice Q m d)∧ad F Q d (X k)∧Below w'.heap.size w' F)
  (C2:∀w' k Q d,k<c→ad w' Q d (X k)→Calls Tryz.prog 79 #[.slice Q m d] w' fun e F=>e=.returned (.int .u64 (N k:Nat))∧Below w'.heap.size w' F)
  (C3:∀w' k,k<c→Calls Tryz.prog 66 #[.int .u64 (N k:Nat)] w' fun e F=>e=.returned (.bool (f k))∧w'=F)
  (C4:∀w' k l,k<c→l<c→Calls Tryz.prog 47 #[.int .u64 (N k:Nat),.int .u64 (N l:Nat)] w' fun e F=>e=.returned (.bool (ls k l))∧Below w'.heap.size w' F):
  Calls Tryz.prog 36 #[.agg #[.int .i64 r,.int .i64 c,.slice Y n H],.int .i64 j] w fun e w'=>e=.returned (.int .i64 O)∧Below w.heap.size w w':=by
 have a1:=aa ax;have a2:=aa aI
 clear ax aI
 have K1:=aa C1;have K2:=aa C2;have K3:=aa C3;have K4:=aa C4
 have HA:=aa hA;have a3:=aa ae;have HK:=aa hK;have a4:=aa am
 have B0:=aa (ac w (.cells #[.int .i64 r,.int .i64 c,.slice Y n H] 24))
 have X0:=aa (aw.new w (.int .i64 r) (.int .i64 c) (.slice Y n H))
 have A0:=aa Z;have K0:=aa aj
 clear C1 C2 C3 C4 hA ae hK am Z aj
 go_enter Tryz.func36,Tryz.ntmps36
 go_wp2_with fail
 go_loopw[5,6] (fun a k wr=>∃t:Nat,j+t≤c∧a=.int .i64 (A t:Nat)∧k=.int .i64 (j+t:Nat)∧Hid (M t=true)∧Hid (aw wr w.heap.size (.int .i64 r) (.int .i64 c) (.slice Y n H))∧Hid (Below w.heap.size w wr)) (fun _ k _=>c-(intOf k).toNat)
 case atStart=>exact⟨0,by omega,by rw[uH A0],rfl,K0,X0,B0⟩
 case round=>
  clear B0 X0 A0 K0
  obtain⟨t,ht,rfl,rfl,hF,D,h⟩:=hrel
  obtain⟨k,hk⟩:∃k,j+t=k:=⟨_,rfl⟩
  have G:=aa (uH HA t);have L:=aa (uH HK t);have U:=aa (uH a4 t)
  rw[hk]at G L U ht
  rw[hk]
  have V:=uH a3 t (by omega)
  have a6:=aa (show A (t+1)=A (t+1)from rfl)
  have y0:=(uH D).c0;have y1:=(uH D).c1;have y2:=(uH D).c2
  by_cases K:k<c
  ·have a7:(k:Int)<(c:Int):=by omega
   have a9:IntKind.i64.wrap ((k:Int)+1)=(k:Int)+1:=aR _ (by omega)
   generalize A t=a at*
   go_wp2_with fail
   clear y0 y1 y2
   refine(uH K1 _ k (uH h) K).mono ?_
   rintro e w1 ⟨Q,d,rfl,hx,z⟩
   replace D:=aa ((uH D).all z)
   replace h:=aa ((uH h).trans (z.mono (uH h).size))
   have HX:=aa hx
   clear z hx
   go_wp2_with fail
   refine(uH K2 _ k _ _ K (uH HX)).mono ?_
   rintro e w2 ⟨rfl,z⟩
   replace D:=aa ((uH D).all z)
   replace h:=aa ((uH h).trans (z.mono (uH h).size))
   clear z HX
   go_wp2_with fail
   refine(uH K3 _ k K).mono ?_
   rintro e w3 ⟨rfl,rfl⟩
   cases hf:f k with
   |false=>
    have hz:=aa (uH a2 (uH U K hf))
    clear U G L
    go_wp2_with fail
    go_ret
    exact⟨by rw[uH hz];rfl,uH h⟩
   |true=>
    rw[hf]at L
    have y0:=(uH D).c0;have y1:=(uH D).c1;have y2:=(uH D).c2
    go_wp2_with fail
    clear y0 y1 y2
    refine(uH K1 _ a (uH h) V).mono ?_
    rintro e w4 ⟨Q,d,rfl,hx,z⟩
    replace D:=aa ((uH D).all z)
    replace h:=aa ((uH h).trans (z.mono (uH h).size))
    have HX:=aa hx
    clear z hx
    go_wp2_with fail
    refine(uH K2 _ a _ _ V (uH HX)).mono ?_
    rintro e w5 ⟨rfl,z⟩
    replace D:=aa ((uH D).all z)
    replace h:=aa ((uH h).trans (z.mono (uH h).size))
    clear z HX
    go_wp2_with fail
    refine(uH K4 _ a k V K).mono ?_
    rintro e w6 ⟨rfl,z⟩
    replace D:=aa ((uH D).all z)
    replace h:=aa ((uH h).trans (z.mono (uH h).size))
    clear z
    have a0:=aa (show M (t+1)=true from by rw[uH L,uH hF];rfl)
    cases hl:ls a k with
    |false=>
     rw[hl,if_neg (by decide)]at G
     go_wp2_with fail
     go_round
     case rel=>exact⟨t+1,by omega,by rw[uH G],by first|go_num|(simp;omega),a0,D,h⟩
     case measure=>simp[intOf];omega
    |true=>
     rw[hl,if_pos (Eq.refl true)]at G
     go_wp2_with fail
     go_round
     case rel=>exact⟨t+1,by omega,by rw[uH G],by first|go_num|(simp;omega),a0,D,h⟩
     case measure=>simp[intOf];omega
  ·have a5:t=c-j:=by omega
   subst a5
   have ba:¬(k:Int)<(c:Int):=by omega
   go_wp2_with fail
   go_ret
   exact⟨by rw[uH a1 (uH hF)];rfl,uH h⟩
def bJ(base:Nat)(w:World)(v:Value)(L:List Nat):Prop:=w.ownsRow base 3 1 v L.length ((az L).map jx)
theorem tR(n:Nat)(w:World)(hn:n≤1000):
  Calls Tryz.prog 35 #[.int .i64 (n:Int)] w fun e w'=>∃M m,e=.returned (.slice M n m)∧bJ w.heap.size w' (.slice M n m) (List.range n)∧Below w.heap.size w w':=by
 obtain⟨i0,F,G,H,K⟩:=info_parts wW
 go_enter Tryz.func35,Tryz.ntmps35
 go_wp2_with fail
 go_loopw[3,4] (fun v i wr=>∃k:Nat,k≤n∧i=.int .i64 k∧wr.ownsRow w.heap.size 3 1 v k ((lK k).map jx)∧Below w.heap.size w wr) (fun _ i _=>n-(intOf i).toNat)
 case atStart=>
  refine⟨0,Nat.zero_le _,rfl,?_,(Below.refl _ _).alloc (Nat.le_refl _) _⟩
  exact World.ownsRow_made w #[] 0 (Nat.le_refl _) (by simp[maxLen]) (by simp)
 case round=>
  obtain⟨k,hk,rfl,d,f⟩:=hrel
  by_cases X:k<n
  ·have Y:(k:Int)<(n:Int):=by omega
   have t:=f.size
   go_wp2_with(at_builtin;refine wpList_append_own _ rfl _ _ 26 rfl w.heap.size 3 i0 (.int .i64 0) 1 8 Tryz.underlying26 F G H K rfl (by decide) _ _ _ rfl (d.alloc _) ⟨wr.heap.size,0,none⟩ 1 1 [.int .i64 (k:Int)] rfl rfl (cell_one_new _ _ _) (fun u L=>by simp at L;subst L;rfl) (by unfold maxLen;omega) (by omega) (by simp;omega) ?_;intro v' w1 h l _;have z:Below w.heap.size w w1:=((f.alloc t _).grown l (by simp;omega) (fun g U=>(d.lt g U).1));have A:=aa h;clear h l)
   have Z:=uH A
   go_roundw
   case rel=>exact⟨k+1,by omega,by go_num,by rw[tC,List.map_append];exact Z,z⟩
   case measure=>simp[intOf];omega
  ·have D:n=k:=by omega
   subst D
   obtain⟨N,O,Q,q1⟩:=tw d (fun x V=>by
    obtain⟨i,F,rfl⟩:=List.mem_map.1 V
    have:=List.mem_range.1 F
    omega)
   rw[pq]at Q
   subst Q
   have Q1:=aa (show bJ w.heap.size wr (.slice N n O) (List.range n)from by unfold bJ;rw[List.length_range];exact d)
   clear q1 d
   go_wp2_with fail
   go_ret
   exact⟨N,O,rfl,uH Q1,f⟩
theorem tT(r c n A j b:Nat)(ao:Option Addr)(m:Nat→List Nat)(Q:List Nat)(w:World)(hr:r≤6)(hj:j<r)(h0:ad w ao A (az Q))(l0:Q.length=n)(lJ:∀i,(m i).length=n)
  (A1:∀w' D F,ad w' D F (az Q)→Calls Tryz.prog 52 #[.agg #[.int .i64 r,.int .i64 c,.slice D n F],.int .i64 j,.int .i64 j,.int .u64 b] w' fun e l=>∃d f,e=.returned (.agg #[.int .i64 r,.int .i64 c,.slice d n f])∧bD w'.heap.size d (az (m (j+1)))∧ad l d f (az (m (j+1)))∧Below w'.heap.size w' l)
  (A2:∀w' i D F,j<i→i<r→ad w' D F (az (m i))→Calls Tryz.prog 52 #[.agg #[.int .i64 r,.int .i64 c,.slice D n F],.int .i64 (i:Nat),.int .i64 j,.int .u64 0] w' fun e l=>∃d f,e=.returned (.agg #[.int .i64 r,.int .i64 c,.slice d n f])∧bD w'.heap.size d (az (m (i+1)))∧ad l d f (az (m (i+1)))∧Below w'.heap.size w' l):
  Calls Tryz.prog 40 #[.agg #[.int .i64 r,.int .i64 c,.slice ao n A],.int .i64 j,.int .u64 b] w fun e w'=>∃d f,e=.returned (.agg #[.int .i64 r,.int .i64 c,.slice d n f])∧bD w.heap.size d (az (m r))∧ad w' d f (az (m r))∧Below w.heap.size w w':=by
 have G:=aa (pw.start w r c n A ao Q h0 l0)
 have K1:=aa A1;have K2:=aa A2;have LJ:=aa lJ
 clear A1 A2 lJ h0 l0
 have H:=(uH G).1.c0;have K:=(uH G).1.c1;have L:=(uH G).1.c2
 go_enter Tryz.func40,Tryz.ntmps40
 go_wp2_with fail
 clear H K L
 refine(uH K1 _ _ _ (uH G).2.2.1).mono ?_
 rintro e w1 ⟨d,f,rfl,M,N,O⟩
 have U:=aa (bD.least M (uH G).2.2.2.2.size)
 have h:=(uH G).all O
 have H:=h.1.c0;have K:=h.1.c1;have L:=h.1.c2
 have V:=h.1.free 0;have X:=h.1.free 1;have Y:=h.1.free 2
 have Z:=aa (h.put N (uH LJ (j+1)))
 clear h M N O G K1
 go_wp2_with fail
 clear H K L V X Y
 go_loopw[7] (fun a wr=>∃(i:Nat) (d:Option Addr) (f:Nat),j<i∧i≤r∧a=.int .i64 i∧Hid (bD w.heap.size d (az (m i)))∧Hid (pw w wr r c n (m i) d f)) (fun a _=>r-(intOf a).toNat)
 case atStart=>exact⟨j+1,d,f,by omega,by omega,by go_num,U,Z⟩
 case round=>
  clear Z U
  obtain⟨i,d,f,am,aI,rfl,hN,t⟩:=hrel
  have H:=(uH t).1.c0;have K:=(uH t).1.c1;have L:=(uH t).1.c2
  by_cases ae:i<r
  ·have ax:(i:Int)<(r:Int):=by omega
   go_wp2_with fail
   clear H K L
   refine(uH K2 _ i _ _ am ae (uH t).2.2.1).mono ?_
   rintro e w2 ⟨D,F,rfl,M,N,O⟩
   have U:=aa (bD.least M (uH t).2.2.2.2.size)
   have h:=(uH t).all O
   have H:=h.1.c0;have K:=h.1.c1;have L:=h.1.c2
   have V:=h.1.free 0;have X:=h.1.free 1;have Y:=h.1.free 2
   have Z:=aa (h.put N (uH LJ (i+1)))
   clear h M N O t hN
   go_wp2_with fail
   clear H K L V X Y
   go_round
   case rel=>exact⟨i+1,D,F,by omega,by omega,by go_num,U,Z⟩
   case measure=>simp[intOf];omega
  ·have aj:i=r:=by omega
   subst aj
   obtain⟨h1,z,h3,h4,h5⟩:=uH t
   have r0:=z.c0;have r1:=z.c1;have r2:=z.c2
   have V:=z.free 0;have X:=z.free 1;have Y:=z.free 2
   have XP:=z.put (.int .i64 i) (.int .i64 c) (.slice d n f)
   have z0:=XP.c0;have z1:=XP.c1;have z2:=XP.c2
   have QP:=aa (h3.putM z (.int .i64 i) (.int .i64 c) (.slice d n f))
   have BP:=aa (aA h5 (b:=w.heap.size+1) (by omega) (.int .i64 i) (.int .i64 c) (.slice d n f))
   clear XP h1 z h3 h4 h5 t
   go_wp2_with fail
   exact bodyPost_ret (v:=.agg #[.int .i64 i,.int .i64 c,.slice d n f]) (by simp[results,Tryz.results40,go_sem,z0,z1,z2]) rfl ⟨d,f,rfl,uH hN,uH QP,uH BP⟩
theorem rq(r c d j b:Nat)(G:Option Addr)(S:List Nat)(w:World)(h:Mx w G d r c S)(H:j<r)(F:j<c)(t:b<18446744073709551616):
  Calls Tryz.prog 40 #[.agg #[.int .i64 r,.int .i64 c,.slice G S.length d],.int .i64 j,.int .u64 b] w fun e w'=>∃f l,e=.returned (.agg #[.int .i64 r,.int .i64 c,.slice f S.length l])∧bD w.heap.size f (az (Gl r c S j b))∧ad w' f l (az (Gl r c S j b))∧Below w.heap.size w w':=by
 have m:=h.2.1
 refine tT r c S.length d j b G (fun i=>Dx r c S j b i) S w h.2.2.1 H h.1 rfl (fun i=>by rw[iK,m]) (fun w' K L M=>?_) (fun w' i K L N z M=>?_)
 ·refine(ic r c L j j b K S w' ⟨M,m,h.2.2⟩ H F t).mono ?_
  rintro e O ⟨v,rfl,⟨f,l,rfl,A,D⟩,t⟩
  rw[qk r c S b m H F]at A D⊢
  exact⟨f,l,by rw[iK,m],A,D,t⟩
 ·have:=ic r c L i j 0 K _ w' ⟨M,iK _ _ _ _ _ _,h.2.2⟩ z F (by decide)
  rw[iK,←m]at this
  refine this.mono ?_
  rintro e O ⟨v,rfl,⟨f,l,rfl,A,D⟩,t⟩
  rw[wZ r c S b N z F]at A D⊢
  exact⟨f,l,by rw[iK,m],A,D,t⟩
theorem tU(r c:Nat)(S:List Nat)(j:Nat):∀n t,t<n→ap (eJ r c S j (j+t))=false→rH r c S j n=false
 |0,t,h,_=>absurd h (Nat.not_lt_zero t)
 |n+1,t,h,hf=>by
  show(rH r c S j n&&ap (eJ r c S j (j+n)))=false
  rcases Nat.lt_or_ge t n with g|g
  ·rw[tU r c S j n t g hf];rfl
  ·rw[show n=t by omega,hf,Bool.and_false]
theorem py(r c f j:Nat)(m:Option Addr)(S:List Nat)(w:World)(h:Mx w m f r c S)(F:j<c)(H:j≤r):
  Calls Tryz.prog 36 #[.agg #[.int .i64 r,.int .i64 c,.slice m S.length f],.int .i64 j] w fun e w'=>e=.returned (.int .i64 (if vL r c S j=true then(oI r c S j:Int)else-1))∧Below w.heap.size w w':=by
 have D:∀k,eJ r c S j k<18446744073709551616:=fun k=>by
  unfold eJ
  have:=BS (az (dg c S j (r-j) k))
  rw[iJ,cE]at this
  exact this
 refine rp r c S.length f j (r-j) m (fun k=>az (dg c S j (r-j) k)) (eJ r c S j) (oT r c S j) (fun k=>ap (eJ r c S j k)) (rH r c S j) (fun k l=>JE (eJ r c S j k) (eJ r c S j l)) w h.2.2.2 F rfl (fun t=>?_) (fun t G=>?_) rfl (fun t=>rfl) (fun t G K=>tU r c S j (c-j) t (by omega) K) _ (fun h=>if_pos h) (fun h=>if_neg (fun q=>by have:rH r c S j (c-j)=true:=q;rw[h]at this;cases this)) (fun w' k A z=>lN r c f k j m S w' (h.below A) z H) (fun w' k L d z A=>?_) (fun w' k z=>cr _ w' (D k)) (fun w' k l z N=>tQ _ _ w' (D k) (D l))
 ·show(if cO _ _<0 then _ else _)=_
  unfold JE
  by_cases g:cO (eJ r c S j (oT r c S j t)) (eJ r c S j (j+t))<0
  ·rw[if_pos g,if_pos (decide_eq_true g)]
  ·rw[if_neg g,if_neg (by rw[decide_eq_false g];decide)]
 ·rcases Nat.eq_zero_or_pos t with rfl|M
  ·exact F
  ·exact Nat.lt_of_lt_of_le (vK r c S j t M) G
 ·have:=jY L d (az (dg c S j (r-j) k)) w' A (by rw[al,bh];have:=h.2.2.1;omega)
  rw[iJ,cE,al,bh]at this
  exact this
theorem bJ.at{d:Nat}{w:World}{m:Option Addr}{n f:Nat}{S:List Nat}(h:bJ d w (.slice m n f) S){j:Nat}(z:j<S.length):
  ∃g,m=some ⟨g,0,none⟩∧d≤g∧g<w.heap.size∧w.cell? ⟨g,j,none⟩=some (.int .i64 (S.getD j 0:Nat))∧w.frozen? ⟨g,j,none⟩=false∧
   ∀x:Nat,bJ d (w.setCell ⟨g,j,none⟩ (.int .i64 (x:Nat))) (.slice m n f) (S.set j x):=by
 obtain⟨N,H⟩:=h
 rcases H with⟨_,O⟩|⟨g,A,t,D,F,l,K,L,M,G⟩
 ·omega
 ·simp only[Value.slice.injEq]at D
  obtain⟨rfl,rfl,rfl⟩:=D
  have q:((az S).map jx)[j]? =some (.int .i64 ((S[j]:Nat):Int)):=by
   rw[List.getElem?_map,show(az S)[j]? =some ((S[j]:Nat):Int)from by unfold az;rw[List.getElem?_map,List.getElem?_eq_getElem z];rfl];rfl
  rw[←G,List.getElem?_take,if_pos (by omega)]at q
  refine⟨g,rfl,F,(Array.getElem?_eq_some_iff.1 l).1,?_,frozen_of_row w g j _ _ l,fun x=>⟨by simp[az],.inr ⟨g,f,t.setIfInBounds j (.int .i64 (x:Nat)),?_,F,heap_setCell_same w g j _ _ _ l,by simpa using K,L,by simpa using M,?_⟩⟩⟩
  ·rw[cell_of_row w g j _ _ _ l]
   have e:S.getD j 0=S[j]:=by rw[List.getD_eq_getElem?_getD,List.getElem?_eq_getElem z];rfl
   rw[e]
   simpa using q
  ·simp
  ·rw[Array.toList_setIfInBounds,List.take_set,List.length_set,G]
   unfold az
   rw[List.map_set,List.map_set]
   rfl
theorem mU(L:List Nat){k:Nat}(d:k<L.length):(az L)[k]?.getD 0=((L.getD k 0:Nat):Int):=by
 unfold az
 rw[List.getElem?_map,List.getElem?_eq_getElem d,List.getD_eq_getElem?_getD,List.getElem?_eq_getElem d]
 rfl
theorem bJ.ints{d:Nat}{w:World}{v:Value}{L:List Nat}(h:bJ d w v L)(m:∀x∈L,x≤1000000):∃l f,v=.slice l L.length f∧bH w l f (az L):=by
 have:=tw (I:=az L) (n:=L.length) h (fun x t=>by
  obtain⟨y,z,rfl⟩:=List.mem_map.1 t
  have:=m y z
  omega)
 rw[al]at this
 exact this
theorem bJ.below{d:Nat}{w w':World}{v:Value}{L:List Nat}(h:bJ d w v L)(f:Below w.heap.size w w'):bJ d w' v L:=
 h.kept (w':=w') (row:=none) ⟨f.os,f.tape,f.output,f.size,fun k l _=>f.block k l⟩ (by first|(cases hv:Value.ownBlock _<;>simp)|simp)
theorem bJ.slice{d:Nat}{w:World}{v:Value}{L:List Nat}(h:bJ d w v L)(z:0<L.length):∃g f,v=.slice (some ⟨g,0,none⟩) L.length f∧d≤g:=by
 rcases h.2 with⟨_,e⟩|⟨g,f,l,m,t,_⟩
 ·omega
 ·exact⟨g,f,m,t⟩
theorem zg(w:World)(d:Nat)(H:TypeId)(K:Option Addr)(c:Nat)(L:List Nat)(g:Nat)(h:bH w K c (az L))(hl:L.length≤1000000)(M:0<L.length)(z:w.ownsRow d 3 1 (.slice (some ⟨g,0,none⟩) 0 0) 0 [])(l:d≤w.heap.size):
  ∃N A w',(Builtin.append_ #[26,26] H #[.slice (some ⟨g,0,none⟩) 0 0,.slice K L.length c]).run Tryz.prog w=.ok (.slice N L.length A) w'∧bJ d w' (.slice N L.length A) L∧w.grownBy w' (some g):=by
 obtain⟨V,X,D,F,G⟩:=info_parts wW
 obtain⟨b,f,rfl,hb,U⟩:=h.ne (by rw[al];exact M)
 rw[al]at U
 have m:∀j u,((az L).map jx)[j]? =some u→w.cell? ((⟨b,f,none⟩:Addr).add j)=some u:=by
  intro j u t
  rw[List.getElem?_map]at t
  have O:j<L.length:=by
   rcases Nat.lt_or_ge j L.length with e|e
   ·exact e
   ·rw[List.getElem?_eq_none (by rw[al];exact e)]at t;cases t
  rw[show(⟨b,f,none⟩:Addr).add j=⟨b,f+j,none⟩ by simp[Addr.add],U j O,←t]
  rw[List.getElem?_eq_getElem (by rw[al];exact O)]
  rfl
 obtain⟨Y,w',Z,e2,e3,e4,e5⟩:=run_append_own_at (P:=Tryz.prog) w d 26 H 3 V (.int .i64 0) 1 8 Tryz.underlying26 X D F G rfl (by decide) _ 0 [] z ⟨b,f,none⟩ L.length c ((az L).map jx) (by rw[List.length_map,al,Nat.mul_one]) m (fun u t=>by
  obtain⟨x,_,rfl⟩:=List.mem_map.1 t
  rfl) (by unfold maxLen;omega) (by omega) l
 have Q:bJ d w' Y L:=by
  unfold bJ
  simpa using e2
 obtain⟨g2,A,rfl,_⟩:=Q.slice M
 exact⟨_,A,w',Z,Q,e3⟩
theorem kR(i k f:Nat)(G:Option Addr)(L:List Nat)(w:World)(h:bH w G f (az L))(H:i<L.length)(K:k<L.length)(hl:L.length≤1000000):
  Calls Tryz.prog 37 #[.slice G L.length f,.int .i64 i,.int .i64 k] w fun e w'=>∃M N,e=.returned (.slice M L.length N)∧bJ w.heap.size w' (.slice M L.length N) (oJ L i k)∧Below w.heap.size w w':=by
 have O:=ac w (.cells #[] 3)
 obtain⟨M,N,Y,m,t,Z⟩:=zg (w.alloc (.cells #[] 3)) w.heap.size 26 G f L w.heap.size (h.below O) hl (by omega) (World.ownsRow_made w #[] 0 (Nat.le_refl _) (by simp[maxLen]) (by simp)) (by simp)
 have D:Below w.heap.size w Y:=O.grown Z (by simp) (fun g A=>by cases A;exact Nat.le_refl _)
 obtain⟨b,V,rfl,ax,F⟩:=h.ne (by rw[al];omega)
 rw[al]at F
 have Q:=F k K
 have U:=F i H
 rw[mU L K]at Q
 rw[mU L H]at U
 obtain⟨g,e1,A,aI,cx,fx,z⟩:=t.at H
 subst e1
 have X:=z (L.getD k 0)
 obtain⟨g',e2,_,_,a0,a1,d⟩:=X.at (j:=k) (by rw[List.length_set];exact K)
 simp only[Option.some.injEq,Addr.mk.injEq]at e2
 obtain⟨rfl,_⟩:=e2
 have O3:=aa (show bJ w.heap.size _ _ (oJ L i k)from d (L.getD i 0))
 have y1:=ai Q D
 have y2:(Y.setCell ⟨g,i,none⟩ (.int .i64 (L.getD k 0:Nat))).cell? ⟨b,V+i,none⟩=some (.int .i64 (L.getD i 0:Nat)):=by
  rw[ah _ _ _ _ (show b≠g by omega)]
  exact ai U D
 have BP:=aa ((D.setCell (p:=⟨g,i,none⟩) A (.int .i64 (L.getD k 0:Nat))).setCell (p:=⟨g,k,none⟩) A (.int .i64 (L.getD i 0:Nat)))
 have l:=aa m
 have aj:(i:Int)<(L.length:Int):=by omega
 have am:(k:Int)<(L.length:Int):=by omega
 generalize (L.set i (L.getD k 0)).getD k 0=ae at*
 generalize hn:L.length=n at*
 clear m t Z D F Q U z X d O h hn
 generalize L.getD k 0=x at*
 generalize L.getD i 0=y at*
 go_enter Tryz.func37,Tryz.ntmps37
 go_wp2_with(at_builtin;refine aW _ rfl _ _ 26 rfl _ _ _ _ rfl rfl (uH l) ?_;clear l)
 go_ret
 exact⟨_,_,rfl,uH O3,uH BP⟩
theorem tW(r c t d pc:Nat)(G po:Option Addr)(S L:List Nat)(w:World)(h:Mx w G t r c S)(bn:d≤6)(aI:∀y,y<d→L.getD y 0<c)(hP:∀k,k<d→∃pb K,po=some ⟨pb,K,none⟩∧w.cell? ⟨pb,K+k,none⟩=some (.int .i64 (L.getD k 0:Nat))):
  Calls Tryz.prog 19 #[.agg #[.int .i64 r,.int .i64 c,.slice G S.length t],.slice po d pc] w fun e w'=>∃v,e=.returned v∧bS 0 w' r d (fu r d (fun x y=>gJ c S x (L.getD y 0))) v∧Below w.heap.size w w':=by
 have HH:=aa h
 have a6:=aa aI;have a7:=aa hP
 clear aI hP
 have bo:=h.2.2.1;have bp:=h.2.2.2
 have K1:=aa (fun w'=>oB r d w' (by omega) (by omega))
 have b0:=ac w (.cells #[.int .i64 r,.int .i64 c,.slice G S.length t] 24)
 have b1:=ac (w.alloc (.cells #[.int .i64 r,.int .i64 c,.slice G S.length t] 24)) (.cells #[.int .i64 0,.int .i64 0,.slice none 0 0] 24)
 have s0:=an w (.cells #[.int .i64 r,.int .i64 c,.slice G S.length t] 24)
 have s1:=an (w.alloc (.cells #[.int .i64 r,.int .i64 c,.slice G S.length t] 24)) (.cells #[.int .i64 0,.int .i64 0,.slice none 0 0] 24)
 have X0:=aw.new w (.int .i64 r) (.int .i64 c) (.slice G S.length t)
 have X1:=aw.new (w.alloc (.cells #[.int .i64 r,.int .i64 c,.slice G S.length t] 24)) (.int .i64 0) (.int .i64 0) (.slice none 0 0)
 have Z:=aa (X0.all b1)
 rw[s0]at X1
 have ae:=aa X1
 have M:=aa (b0.trans (b1.mono b0.size))
 have N:=aa (s1.trans (by rw[s0]))
 have HL:=aa h.2.1
 obtain⟨l,hl⟩:∃l,S.length=l:=⟨_,rfl⟩
 rw[hl]at Z ae M N
 rw[hl]
 have a9:=aa hl
 obtain⟨f,hf⟩:∃f:Nat→Nat→Nat,f=(fun x y=>gJ c S x (L.getD y 0)):=⟨_,rfl⟩
 rw[←hf]
 have HF:=aa hf
 clear b0 b1 s0 s1 X0 X1 h hl hf
 go_enter Tryz.func19,Tryz.ntmps19
 go_wp2_with fail
 refine(uH K1 _).mono ?_
 rintro e w1 ⟨v,rfl,⟨mo,mc,rfl,nw,qs⟩,H⟩
 have ba:=ac w1 (.cells #[.int .i64 r,.int .i64 d,.slice mo (List.replicate (r*d) 0).length mc] 24)
 have BB:=(uH M).trans (H.mono (uH M).size)
 have L0:=aa (show mz w (w1.alloc (.cells #[.int .i64 r,.int .i64 d,.slice mo (fu r d (pm f 0 0)).length mc] 24)) w1.heap.size (w.heap.size+1) r d mo mc (fu r d (pm f 0 0))from by
  rw[BV]
  exact⟨BB.trans (ba.mono BB.size),aw.new w1 _ _ _,((uH ae).all H).all ba,qs.below ba,by have:=H.size;rw[uH N]at this;omega,BB.size⟩)
 have A0:=aa (show aw (w1.alloc (.cells #[.int .i64 r,.int .i64 d,.slice mo (fu r d (pm f 0 0)).length mc] 24)) w.heap.size (.int .i64 r) (.int .i64 c) (.slice G l t)from by
  rw[BV]
  exact((uH Z).all H).all ba)
 have NE:=aa (show w.heap.size≠w1.heap.size from by have:=H.size;rw[uH N]at this;omega)
 rw[←BV r d f]
 clear K1 H ba BB nw qs M Z ae N
 have U:=(uH A0).c0;have V:=(uH A0).c1;have X:=(uH A0).c2
 go_wp2_with fail
 generalize w1.heap.size=g at*
 go_loopw[6] (fun i wr=>∃(j:Nat) (A:Option Addr) (D:Nat),j≤r∧i=.int .i64 j∧Hid (mz w wr g (w.heap.size+1) r d A D (fu r d (pm f j 0)))∧Hid (aw wr w.heap.size (.int .i64 r) (.int .i64 c) (.slice G l t))) (fun i _=>r-(intOf i).toNat)
 case atStart=>exact⟨0,mo,mc,Nat.zero_le _,rfl,L0,A0⟩
 case round=>
  clear L0 A0 U V X
  obtain⟨j,A,D,hj,rfl,z,F⟩:=hrel
  by_cases bb:j<r
  ·have bq:(j:Int)<(r:Int):=by omega
   have U:=(uH F).c0;have V:=(uH F).c1;have X:=(uH F).c2
   go_wp2_with fail
   go_loopw[7] (fun i wr=>∃(k:Nat) (A:Option Addr) (D:Nat),k≤d∧i=.int .i64 k∧Hid (mz w wr g (w.heap.size+1) r d A D (fu r d (pm f j k)))∧Hid (aw wr w.heap.size (.int .i64 r) (.int .i64 c) (.slice G l t))) (fun i _=>d-(intOf i).toNat)
   case atStart=>exact⟨0,A,D,Nat.zero_le _,rfl,z,F⟩
   case round=>
    clear z F U V X A D
    obtain⟨k,A,D,hk,rfl,z,F⟩:=hrel
    have U:=(uH F).c0;have V:=(uH F).c1;have X:=(uH F).c2
    by_cases aj:k<d
    ·have bt:(k:Int)<(d:Int):=by omega
     have y0:=(uH z).box.c0;have y1:=(uH z).box.c1;have y2:=(uH z).box.c2
     have C1:=aa (fun w' (m:Mx w' G t r c S)=>wV r c t j (L.getD k 0) G S w' m (by omega) (uH a6 k aj))
     have C2:=aa (fun w' A D (m:Mx w' A D r d (fu r d (pm f j k)))=>ic r d D j k (f j k) A (fu r d (pm f j k)) w' m (by omega) (by omega) (by rw[uH HF];exact(uH HH).el_lt _ _))
     rw[Ca r d f bb aj]at C2
     rw[uH a9,show gJ c S j (L.getD k 0)=f j k from by rw[uH HF]]at C1
     have HM:=aa ((uH HH).below (uH z).bel)
     have HP:=aa (show(fu r d (pm f j k)).length=r*d from cT _ _ _)
     generalize f j k=x at*
     generalize fu r d (pm f j k)=T at*
     generalize a5:fu r d (pm f j (k+1))=T2 at*
     have bc:=aa a5
     clear a5
     obtain⟨pb,K,bm,a1⟩:=uH a7 k aj
     have cp:=ai a1 (uH z).bel
     subst bm
     clear a1
     generalize L.getD k 0=lk at*
     go_wp2_with fail
     go_region_with (first|(go_at_call 50;refine(uH C1 _ (by exact uH HM)).mono ?_;rintro e w4 ⟨rfl,a2⟩;have O:Below wr.heap.size wr w4:=((Below.refl wr.heap.size wr).drew).trans a2;clear a2 U V X y0 y1 y2;replace cp:=ai cp O;have L4:=(uH z).all O;have A4:=(uH F).all O;have U:=A4.c0;have V:=A4.c1;have X:=A4.c2;have y0:=L4.box.c0;have y1:=L4.box.c1;have y2:=L4.box.c2;have am:=aa L4;have a0:=aa A4;clear O L4 A4)|(go_at_call 52;refine(uH C2 _ _ _ ⟨(uH am).bits,uH HP,by omega,by omega⟩).mono ?_;rintro e w5 ⟨v,rfl,⟨a3,a4,rfl,_,q5⟩,ax⟩;clear U V X y0 y1 y2;have Y:=(uH am).all ax;have A5:=(uH a0).all ax;have y0:=Y.box.c0;have y1:=Y.box.c1;have y2:=Y.box.c2;have f0:=Y.box.free 0;have f1:=Y.box.free 1;have f2:=Y.box.free 2;have L6:=aa (Y.put q5);have A6:=aa (((A5.other (p:=⟨g,0,none⟩) (uH NE) (.int .i64 r)).other (p:=⟨g,1,none⟩) (uH NE) (.int .i64 d)).other (p:=⟨g,2,none⟩) (uH NE) (.slice a3 T2.length a4));clear ax Y A5 q5 am a0)|fail "NO ARM")
     all_goals
      clear z F HM C1 C2 y0 y1 y2 f0 f1 f2
      go_wp2_with fail
      go_round
      case rel=>exact⟨k+1,a3,a4,by omega,by go_num,by rw[uH bc];exact L6,A6⟩
      case measure=>simp[intOf];omega
    ·have be:d=k:=by omega
     subst be
     have bi:=aa (show mz w _ g (w.heap.size+1) r d A D (fu r d (pm f (j+1) 0))from by rw[←Fn r d f j];exact uH z)
     clear z
     go_wp2_with fail
     go_round
     case rel=>exact⟨j+1,A,D,by omega,by go_num,bi,F⟩
     case measure=>simp[intOf];omega
  ·have bj:r=j:=by omega
   subst bj
   rw[Fo]at z
   have U:=(uH F).c0;have V:=(uH F).c1;have X:=(uH F).c2
   have y0:=(uH z).box.c0;have y1:=(uH z).box.c1;have y2:=(uH z).box.c2
   have r0:=(uH z).res.c0;have r1:=(uH z).res.c1;have r2:=(uH z).res.c2
   have f0:=(uH z).res.free 0;have f1:=(uH z).res.free 1;have f2:=(uH z).res.free 2
   have XP:=(uH z).res.put (.int .i64 r) (.int .i64 d) (.slice A (fu r d f).length D)
   have z0:=XP.c0;have z1:=XP.c1;have z2:=XP.c2
   have Q:=aa (ad.putM (uH z).bits (uH z).res (.int .i64 r) (.int .i64 d) (.slice A (fu r d f).length D))
   have BP:=aa (aA (uH z).bel (b:=w.heap.size+1) (by omega) (.int .i64 r) (.int .i64 d) (.slice A (fu r d f).length D))
   clear XP z
   go_wp2
   exact bodyPost_ret (v:=.agg #[.int .i64 r,.int .i64 d,.slice A (fu r d f).length D]) (by simp[results,Tryz.results19,go_sem,z0,z1,z2]) rfl ⟨_,rfl,bS.any (uH Q),uH BP⟩
theorem rt(r c d l:Nat)(m t:Option Addr)(S L:List Nat)(w:World)(h:Mx w m d r c S)(D:bH w t l (az L))(F:L.length≤6)(G:∀y,y<L.length→L.getD y 0<c):
  Calls Tryz.prog 19 #[.agg #[.int .i64 r,.int .i64 c,.slice m S.length d],.slice t L.length l] w fun e w'=>∃v,e=.returned v∧bS 0 w' r L.length (Is r c S L) v∧Below w.heap.size w w':=by
 refine tW r c d L.length l m t S L w h F G (fun k A=>?_)
 obtain⟨b,z,e,_,f⟩:=D.ne (by rw[al];omega)
 have:=f k (by rw[al];exact A)
 rw[mU L A]at this
 exact⟨b,z,e,this⟩
def bM(w:World)(g:Nat)(L:List Nat):Prop:=w.heap[g]? =some (.cells ((az L).map jx).toArray 3 (0,0))
theorem bM.cell{w:World}{g:Nat}{L:List Nat}(h:bM w g L)(j:Nat)(d:j<L.length):w.cell? ⟨g,j,none⟩=some (.int .i64 ((L[j]?.getD 0:Nat):Int)):=by
 rw[cell_of_row w g j _ _ _ h]
 simp[jx,az,d]
theorem bM.free{w:World}{g:Nat}{L:List Nat}(h:bM w g L)(j:Nat):w.frozen? ⟨g,j,none⟩=false:=frozen_of_row w g j _ _ h
theorem bM.set{w:World}{g:Nat}{L:List Nat}(h:bM w g L)(j x:Nat):bM (w.setCell ⟨g,j,none⟩ (.int .i64 (x:Int))) g (L.set j x):=by
 unfold bM
 rw[heap_setCell_same w g j _ _ _ h]
 simp[jx,az,List.map_set]
theorem bM.lt{w:World}{g:Nat}{L:List Nat}(h:bM w g L):g<w.heap.size:=(Array.getElem?_eq_some_iff.1 h).1
theorem bM.below{w w':World}{g:Nat}{L:List Nat}(h:bM w g L){B:Nat}(d:Below B w w')(f:g<B):bM w' g L:=by
 unfold bM;rw[d.block g f];exact h
theorem bM.all{w w':World}{g:Nat}{L:List Nat}(h:bM w g L)(d:Below w.heap.size w w'):bM w' g L:=h.below d h.lt
theorem bM.other{w:World}{g:Nat}{L:List Nat}(h:bM w g L){p:Addr}(d:g≠p.block)(u:Value):bM (w.setCell p u) g L:=(Below.heap_setCell w p u g d).trans h
theorem bM.three{w:World}{b g:Nat}{L:List Nat}(h:bM w b L)(d:b≠g)(u u' u'':Value):bM (((w.setCell ⟨g,0,none⟩ u).setCell ⟨g,1,none⟩ u').setCell ⟨g,2,none⟩ u'') b L:=
 ((h.other (p:=⟨g,0,none⟩) d _).other (p:=⟨g,1,none⟩) d _).other (p:=⟨g,2,none⟩) d _
theorem bM.grown{w w':World}{g:Nat}{L:List Nat}(h:bM w g L){o:Option Nat}(d:w.grownBy w' o)(f:o≠some g):bM w' g L:=(d.block g h.lt f.symm).trans h
theorem bg.other16{w:World}{g:Nat}{L:List Nat}(h:bg w g L){p:Addr}(d:g≠p.block)(u:Value):bg (w.setCell p u) g L:=(Below.heap_setCell w p u g d).trans h
theorem tX(n:Nat):madeCells #[Value.int .i64 0] n=((az (List.replicate n 0)).map jx).toArray:=by
 apply Array.ext'
 refine List.ext_getElem (by simp[madeCells,az]) fun i d f=>?_
 simp[madeCells,Nat.mod_one,az,jx]
theorem bM.made(w:World)(n:Nat):bM (w.alloc (.cells (madeCells #[.int .i64 0] n) 3)) w.heap.size (List.replicate n 0):=by
 unfold bM
 rw[heap_alloc_new w _,tX]
theorem bM.ints{w:World}{g:Nat}{L:List Nat}(h:bM w g L)(f:∀x∈L,x≤1000000):bH w (some ⟨g,0,none⟩) L.length (az L):=by
 refine⟨by rw[al];exact Nat.le_refl _,fun x l=>?_,.inr ⟨g,0,rfl,h.lt,fun i d=>?_⟩⟩
 ·obtain⟨y,m,rfl⟩:=List.mem_map.1 l
  have:=f y m
  omega
 ·rw[al]at d
  rw[Nat.zero_add,h.cell i d,mU L d,List.getD_eq_getElem?_getD]
theorem zh(W:World)(g n f:Nat)(D:Option Addr)(S:List Nat)(h:bM W g (List.replicate n 0))(H:bH W D f (az S))(F:S.length=n):
  ∃w',(∀m,(Builtin.copy_ #[26,26] m #[.slice (some ⟨g,0,none⟩) n n,.slice D n f]).run Tryz.prog W=.ok (.int .i64 (n:Int)) w')∧bM w' g S∧Below g W w':=by
 rcases Nat.eq_zero_or_pos n with e|e
 ·subst e
  obtain rfl:S= []:=List.eq_nil_of_length_eq_zero F
  exact⟨W,fun m=>run_copy_none W _ _ m 3 _ _ 0 0 0 f Tryz.underlying26 (by kernel_rfl) rfl,h,Below.refl _ _⟩
 ·obtain⟨b,l,rfl,M,L⟩:=H.ne (by rw[al];omega)
  have z:∀j v,((az S).map jx)[j]? =some v→W.cell? ((⟨b,l,none⟩:Addr).add j)=some v:=by
   intro j u t
   rw[List.getElem?_map]at t
   have G:j<S.length:=by
    rcases Nat.lt_or_ge j S.length with e|e
    ·exact e
    ·rw[List.getElem?_eq_none (by rw[al];exact e)]at t;cases t
   rw[show(⟨b,l,none⟩:Addr).add j=⟨b,l+j,none⟩ by simp[Addr.add],L j (by rw[al];exact G),←t]
   rw[List.getElem?_eq_getElem (by rw[al];exact G)]
   rfl
  have d:((az S).map jx).length=n:=by rw[List.length_map,al,F]
  have A:=fun m=>run_copy_row Tryz.prog W 26 26 m 3 g 0 n n ⟨b,l,none⟩ n f ((az (List.replicate n 0)).map jx).toArray 3 ((az S).map jx) Tryz.underlying26 (by kernel_rfl) h (by rw[d];exact(Nat.min_self n).symm) z (by rw[d];simp[az]) (fun v K=>by obtain⟨x,_,rfl⟩:=List.mem_map.1 K;rfl)
  refine⟨_,fun m=>(A m).trans (by rw[d];rfl),?_,below_setRow (Below.refl _ _) (Nat.le_refl _) _⟩
  unfold bM
  rw[setRow_heap W g _ _ 3 _ h]
  congr 3
  simp[az]
theorem tY(n:Nat)(w:World)(G:n≤1000):
  Calls Tryz.prog 70 #[.int .i64 n] w fun e w'=>∃g,e=.returned (.slice (some ⟨g,0,none⟩) n n)∧w.heap.size≤g∧bM w' g (List.range n)∧Below w.heap.size w w':=by
 have f:=run_make_row' (P:=Tryz.prog) 26 3 (.int .i64 0) 8 Tryz.underlying26 (by kernel_rfl) rfl .i64 .i64 n (by omega) (by omega)
 have h:=aa (bM.made w n)
 rw[show List.replicate n 0=vv id n 0 from(Gf id n).symm]at h
 have z:=aa (ac w (.cells (madeCells #[.int .i64 0] n) 3))
 go_enter Tryz.func70,Tryz.ntmps70
 go_wp2_with fail
 clear f
 go_loopw[9] (fun a wr=>∃j:Nat,j≤n∧a=.int .i64 j∧Hid (bM wr w.heap.size (vv id n j))∧Hid (Below w.heap.size w wr)) (fun a _=>n-(intOf a).toNat)
 case atStart=>exact⟨0,Nat.zero_le _,rfl,h,z⟩
 case round=>
  clear h z
  obtain⟨j,L,rfl,d,t⟩:=hrel
  by_cases l:j<n
  ·have D:(j:Int)<(n:Int):=by omega
   have H:=(uH d).cell j (by rw[wS];exact l)
   have K:=(uH d).free j
   have A:=aa ((uH d).set j j)
   rw[show(vv id n j).set j j=vv id n (j+1)from wT id n j]at A
   have F:=aa ((uH t).setCell (p:=⟨w.heap.size,j,none⟩) (Nat.le_refl _) (.int .i64 (j:Int)))
   clear d t
   go_wp2_with fail
   go_round
   case rel=>exact⟨j+1,by omega,by go_num,A,F⟩
   case measure=>first|(simp[intOf];done)|(simp[intOf];omega)
  ·have m:j=n:=by omega
   subst m
   rw[show vv id j j=List.range j from by rw[tl,List.map_id]]at d
   go_wp2_with fail
   go_ret
   exact⟨_,rfl,Nat.le_refl _,uH d,uH t⟩
theorem It(n c m j k h:Nat)(H:Option Addr)(d:Nat→List Nat)(P:Nat→Nat)(w:World)(am:n≤1000)(hc:c≤1000)(hj:j<c)(hk:k<c)(f:ad w H h (az (d 0)))(K:∀i,(d i).length=n)
  (hP:P 0=0∧P m=n∧∀i,i<m→P i+c=P (i+1)∧P (i+1)≤n∧((d i).set (P i+j) ((d i)[P i+k]?.getD 0)).set (P i+k) ((d i)[P i+j]?.getD 0)=d (i+1)):
  Calls Tryz.prog 72 #[.slice H n h,.int .i64 c,.int .i64 j,.int .i64 k] w fun e w'=>∃g,e=.returned (.slice (some ⟨g,0,none⟩) n n)∧w.heap.size≤g∧bg w' g (d m)∧Below w.heap.size w w':=by
 have L:=run_make_row' (P:=Tryz.prog) 22 31 (.int .u64 0) 8 Tryz.underlying22 (by kernel_rfl) rfl .i64 .i64 n (by omega) (by omega)
 have M:=ac w (.cells (madeCells #[.int .u64 0] n) 31)
 obtain⟨w5,ae,l,t⟩:=tJ _ w.heap.size n h H (d 0) (bg.made w n) (f.below M) (K 0)
 have S0:=aa l
 have B0:=aa (M.trans t)
 obtain⟨z,A,D⟩:=hP
 have HP:=aa D;have N:=aa K;have O:=aa z;have Q:=aa A
 clear D K f l t M z A
 go_enter Tryz.func72,Tryz.ntmps72
 go_wp2_with fail
 clear L ae
 go_loopw[10] (fun a wr=>∃i:Nat,i≤m∧a=.int .i64 (P i:Nat)∧Hid (bg wr w.heap.size (d i))∧Hid (Below w.heap.size w wr)) (fun a _=>n-(intOf a).toNat)
 case atStart=>exact⟨0,Nat.zero_le _,by rw[uH O];rfl,S0,B0⟩
 case round=>
  clear S0 B0
  obtain⟨i,hi,rfl,f,hB⟩:=hrel
  by_cases U:i<m
  ·obtain⟨e1,e2,e3⟩:=uH HP i U
   generalize aj:P i=p at*
   generalize F:P (i+1)=p2 at*
   have ax:(p:Int)<(n:Int):=by omega
   have a1:(p:Int)+(j:Int)<(n:Int):=by omega
   have a2:(p:Int)+(k:Int)<(n:Int):=by omega
   have w1:IntKind.i64.wrap ((p:Int)+(j:Int))=(p:Int)+(j:Int):=aR _ (by omega)
   have w2:IntKind.i64.wrap ((p:Int)+(k:Int))=(p:Int)+(k:Int):=aR _ (by omega)
   have w3:IntKind.i64.wrap ((p:Int)+(c:Int))=(p2:Int):=(aR _ (by omega)).trans (by omega)
   have w4:(p:Int)+(c:Int)=(p2:Int):=by omega
   obtain⟨x,hx⟩:∃x,p+j=x:=⟨_,rfl⟩
   obtain⟨y,hy⟩:∃y,p+k=y:=⟨_,rfl⟩
   have x1:(p:Int)+(j:Int)=(x:Int):=by omega
   have y1:(p:Int)+(k:Int)=(y:Int):=by omega
   rw[hx,hy]at e3
   rw[x1]at a1 w1
   rw[y1]at a2 w2
   have d1:=(uH f).cell x (by rw[uH N];omega)
   have d2:=(uH f).cell y (by rw[uH N];omega)
   have f1:=(uH f).free x
   have f2:=(uH f).free y
   generalize hu:((d i)[x]?.getD 0)=u at*
   generalize hv:((d i)[y]?.getD 0)=v at*
   have G:=(uH f).set x v
   have f3:=G.free y
   have d3:=G.cell y (by rw[List.length_set,uH N];omega)
   generalize (((d i).set x v)[y]?.getD 0)=u3 at d3
   have T2:=aa (G.set y u)
   rw[e3]at T2
   have B1:=aa (((uH hB).setCell (p:=⟨w.heap.size,x,none⟩) (Nat.le_refl _) (.int .u64 (v:Int))).setCell (p:=⟨w.heap.size,y,none⟩) (Nat.le_refl _) (.int .u64 (u:Int)))
   have V:=aa e1;have X:=aa e2;have Y:=aa F
   clear f hB G e1 e2 e3 hx hy aj F hu hv
   go_wp2_with fail
   go_region_with (fail "NO ARM")
   all_goals
    go_wp2_with fail
    go_round
    case rel=>exact⟨i+1,by omega,by rw[uH Y],T2,aa ((uH B1).drew)⟩
    case measure=>have:=uH V;have:=uH X;first|(simp[intOf];done)|(simp[intOf];omega)
  ·have Z:i=m:=by omega
   subst Z
   rw[uH Q]
   go_wp2_with fail
   go_ret
   exact⟨_,rfl,Nat.le_refl _,uH f,uH hB⟩
theorem Iu(n c m j k h:Nat)(H:Option Addr)(d:Nat→List Nat)(P:Nat→Nat)(w:World)(am:n≤1000)(hc:c≤1000)(hj:j<c)(hk:k<c)(f:bH w H h (az (d 0)))(K:∀i,(d i).length=n)
  (hP:P 0=0∧P m=n∧∀i,i<m→P i+c=P (i+1)∧P (i+1)≤n∧((d i).set (P i+j) ((d i)[P i+k]?.getD 0)).set (P i+k) ((d i)[P i+j]?.getD 0)=d (i+1)):
  Calls Tryz.prog 73 #[.slice H n h,.int .i64 c,.int .i64 j,.int .i64 k] w fun e w'=>∃g,e=.returned (.slice (some ⟨g,0,none⟩) n n)∧w.heap.size≤g∧bM w' g (d m)∧Below w.heap.size w w':=by
 have L:=run_make_row' (P:=Tryz.prog) 26 3 (.int .i64 0) 8 Tryz.underlying26 (by kernel_rfl) rfl .i64 .i64 n (by omega) (by omega)
 have M:=ac w (.cells (madeCells #[.int .i64 0] n) 3)
 obtain⟨w5,ae,l,t⟩:=zh _ w.heap.size n h H (d 0) (bM.made w n) (f.below M) (K 0)
 have S0:=aa l
 have B0:=aa (M.trans t)
 obtain⟨z,A,D⟩:=hP
 have HP:=aa D;have N:=aa K;have O:=aa z;have Q:=aa A
 clear D K f l t M z A
 go_enter Tryz.func73,Tryz.ntmps73
 go_wp2_with fail
 clear L ae
 go_loopw[10] (fun a wr=>∃i:Nat,i≤m∧a=.int .i64 (P i:Nat)∧Hid (bM wr w.heap.size (d i))∧Hid (Below w.heap.size w wr)) (fun a _=>n-(intOf a).toNat)
 case atStart=>exact⟨0,Nat.zero_le _,by rw[uH O];rfl,S0,B0⟩
 case round=>
  clear S0 B0
  obtain⟨i,hi,rfl,f,hB⟩:=hrel
  by_cases U:i<m
  ·obtain⟨e1,e2,e3⟩:=uH HP i U
   generalize aj:P i=p at*
   generalize F:P (i+1)=p2 at*
   have ax:(p:Int)<(n:Int):=by omega
   have a1:(p:Int)+(j:Int)<(n:Int):=by omega
   have a2:(p:Int)+(k:Int)<(n:Int):=by omega
   have w1:IntKind.i64.wrap ((p:Int)+(j:Int))=(p:Int)+(j:Int):=aR _ (by omega)
   have w2:IntKind.i64.wrap ((p:Int)+(k:Int))=(p:Int)+(k:Int):=aR _ (by omega)
   have w3:IntKind.i64.wrap ((p:Int)+(c:Int))=(p2:Int):=(aR _ (by omega)).trans (by omega)
   have w4:(p:Int)+(c:Int)=(p2:Int):=by omega
   obtain⟨x,hx⟩:∃x,p+j=x:=⟨_,rfl⟩
   obtain⟨y,hy⟩:∃y,p+k=y:=⟨_,rfl⟩
   have x1:(p:Int)+(j:Int)=(x:Int):=by omega
   have y1:(p:Int)+(k:Int)=(y:Int):=by omega
   rw[hx,hy]at e3
   rw[x1]at a1 w1
   rw[y1]at a2 w2
   have d1:=(uH f).cell x (by rw[uH N];omega)
   have d2:=(uH f).cell y (by rw[uH N];omega)
   have f1:=(uH f).free x
   have f2:=(uH f).free y
   generalize hu:((d i)[x]?.getD 0)=u at*
   generalize hv:((d i)[y]?.getD 0)=v at*
   have G:=(uH f).set x v
   have f3:=G.free y
   have d3:=G.cell y (by rw[List.length_set,uH N];omega)
   generalize (((d i).set x v)[y]?.getD 0)=u3 at d3
   have T2:=aa (G.set y u)
   rw[e3]at T2
   have B1:=aa (((uH hB).setCell (p:=⟨w.heap.size,x,none⟩) (Nat.le_refl _) (.int .i64 (v:Int))).setCell (p:=⟨w.heap.size,y,none⟩) (Nat.le_refl _) (.int .i64 (u:Int)))
   have V:=aa e1;have X:=aa e2;have Y:=aa F
   clear f hB G e1 e2 e3 hx hy aj F hu hv
   go_wp2_with fail
   go_region_with (fail "NO ARM")
   all_goals
    go_wp2_with fail
    go_round
    case rel=>exact⟨i+1,by omega,by rw[uH Y],T2,aa ((uH B1).drew)⟩
    case measure=>have:=uH V;have:=uH X;first|(simp[intOf];done)|(simp[intOf];omega)
  ·have Z:i=m:=by omega
   subst Z
   rw[uH Q]
   go_wp2_with fail
   go_ret
   exact⟨_,rfl,Nat.le_refl _,uH f,uH hB⟩
theorem Da(a b:Nat):cO a b= -1∨cO a b=0∨cO a b=1:=by
 unfold cO bs
 repeat' split
 all_goals simp
theorem zi(a b:Nat)(w:World)(f:a<18446744073709551616)(h:b<18446744073709551616):
  Calls Tryz.prog 44 #[.int .u64 a,.int .u64 b] w fun r w'=>r=.returned (.bool (decide (cO a b<0)))∧Below w.heap.size w w':=by
 have C:=fun w'=>nL a b w' f h
 have l:cB a b=false→cO a b=0:=by
  unfold cB cO
  split
  ·intro _;rfl
  ·intro e;cases e
 cases hc:cB a b
 ·have d:=l hc
  rw[d,hc]at C
  rw[d]
  exact mK a b 0 false false false w (.inl ⟨rfl,rfl,rfl,rfl⟩) C
 ·rw[hc]at C
  rcases Da a b with e|e|e
  ·rw[e]at C⊢
   exact mK a b (-1) true true false w (.inr (.inl ⟨rfl,rfl,rfl,rfl⟩)) C
  ·rw[e]at C⊢
   exact mK a b 0 true false true w (.inr (.inr (.inl ⟨rfl,rfl,rfl,rfl⟩))) C
  ·rw[e]at C⊢
   exact mK a b 1 true false false w (.inr (.inr (.inr ⟨rfl,rfl,rfl,rfl⟩))) C
theorem tZ(k n b m h m' d f H:Nat)(o:Bool)(w:World)(M:H≤d)(N:H≤f)(G:d≠f)(O:bM w d [b])(Q:bg w f [m])(ho:(o=true∧h=k∧m'=n)∨(o=false∧h=b∧m'=m))
  (C1:∀w',Calls Tryz.prog 44 #[.int .u64 m,.int .u64 n] w' fun e U=>e=.returned (.bool o)∧Below w'.heap.size w' U):
  Calls Tryz.prog 142 #[.int .i64 k,.int .u64 n,.pointer (some ⟨f,0,none⟩),.pointer (some ⟨d,0,none⟩)] w fun e w'=>e=.returned (.int .i64 h)∧bM w' d [h]∧bg w' f [m']∧Below H w w':=by
 have K:=aa C1
 have c1:w.cell? ⟨f,0,none⟩=some (.int .u64 (m:Nat)):=by simpa using Q.cell 0 (by simp)
 have ae:=O.lt
 have A:=aa O;have D:=aa Q
 clear C1 O Q
 rcases ho with⟨rfl,rfl,rfl⟩|⟨rfl,rfl,rfl⟩
 ·go_enter Tryz.func142,Tryz.ntmps142
  go_wp2_with fail
  refine(uH K _).mono ?_
  rintro e z ⟨rfl,l⟩
  have t:=(uH A).below l (uH A).lt
  have F:=(uH D).below l (uH D).lt
  have c2:z.cell? ⟨f,0,none⟩=some (.int .u64 (m:Nat)):=by simpa using F.cell 0 (by simp)
  have c3:z.cell? ⟨d,0,none⟩=some (.int .i64 (b:Nat)):=by simpa using t.cell 0 (by simp)
  have f1:=t.free 0
  have B2:=t.set 0 h
  have L:=F.other16 (p:=⟨d,0,none⟩) (by exact fun e=>G e.symm) (.int .i64 (h:Int))
  have c4:(z.setCell ⟨d,0,none⟩ (.int .i64 (h:Int))).cell? ⟨f,0,none⟩=some (.int .u64 (m:Nat)):=by simpa using L.cell 0 (by simp)
  have f2:=L.free 0
  have M3:=L.set 0 m'
  have V:=B2.other (p:=⟨f,0,none⟩) (by exact G) (.int .u64 (m':Int))
  have c5:((z.setCell ⟨d,0,none⟩ (.int .i64 (h:Int))).setCell ⟨f,0,none⟩ (.int .u64 (m':Int))).cell? ⟨d,0,none⟩=some (.int .i64 (h:Nat)):=by simpa using V.cell 0 (by simp)
  have BW:Below H w ((z.setCell ⟨d,0,none⟩ (.int .i64 (h:Int))).setCell ⟨f,0,none⟩ (.int .u64 (m':Int))):=((l.mono (show H≤w.heap.size by omega)).setCell (p:=⟨d,0,none⟩) M _).setCell (p:=⟨f,0,none⟩) N _
  have X:=aa V;have Y:=aa M3;have Z:=aa BW
  clear t F B2 L M3 V BW l K c1 A D
  go_wp2_with fail
  go_ret
  exact⟨rfl,by simpa using uH X,by simpa using uH Y,uH Z⟩
 ·go_enter Tryz.func142,Tryz.ntmps142
  go_wp2_with fail
  refine(uH K _).mono ?_
  rintro e z ⟨rfl,l⟩
  have t:=(uH A).below l (uH A).lt
  have F:=(uH D).below l (uH D).lt
  have c3:z.cell? ⟨d,0,none⟩=some (.int .i64 (h:Nat)):=by simpa using t.cell 0 (by simp)
  have X:=aa t;have Y:=aa F;have Z:=aa (l.mono (show H≤w.heap.size by omega))
  clear t F l K c1 A D
  go_wp2_with fail
  go_ret
  exact⟨rfl,uH X,uH Y,uH Z⟩
theorem vQ(j:Nat)(w:World):
  Calls Tryz.prog 119 #[.int .i64 j] w fun e w'=>∃d f,e=.returned (.func (.func 142) #[] #[.pointer (some ⟨f,0,none⟩),.pointer (some ⟨d,0,none⟩)])∧w.heap.size≤d∧w.heap.size≤f∧d≠f∧bM w' d [j]∧bg w' f [0]∧Below w.heap.size w w':=by
 have h:bM (w.alloc (.cells #[.int .i64 (j:Int)] 3)) w.heap.size [j]:=heap_alloc_new w _
 have l:=ac w (.cells #[.int .i64 (j:Int)] 3)
 have t:=an w (.cells #[.int .i64 (j:Int)] 3)
 have z:bg ((w.alloc (.cells #[.int .i64 (j:Int)] 3)).alloc (.cells #[.int .u64 0] 31)) (w.heap.size+1) [0]:=by
  have:=heap_alloc_new (w.alloc (.cells #[.int .i64 (j:Int)] 3)) (.cells #[.int .u64 0] 31)
  rw[t]at this
  exact this
 have m:=ac (w.alloc (.cells #[.int .i64 (j:Int)] 3)) (.cells #[.int .u64 0] 31)
 have A:=aa (h.below m h.lt)
 have D:=aa z
 have F:=aa (l.trans (m.mono l.size))
 clear h l t z m
 go_enter Tryz.func119,Tryz.ntmps119
 go_wp2_with fail
 go_ret
 exact⟨_,_,rfl,Nat.le_refl _,Nat.le_add_right _ _,by omega,uH A,uH D,uH F⟩
structure zj (w wr:World) (r c n cap gb gm b m:Nat) (ro:Option Addr):Prop where
 bel:Below w.heap.size w wr
 a:aw wr w.heap.size (.int .i64 r) (.int .i64 c) (.slice ro n cap)
 hb:bM wr gb [b]
 hm:bg wr gm [m]
 lb:w.heap.size+1≤gb
 lm:w.heap.size+1≤gm
 ne:gb≠gm
theorem zj.all{w wr w':World}{r c n d h l b m:Nat}{z:Option Addr}(t:zj w wr r c n d h l b m z)(f:Below wr.heap.size wr w'):zj w w' r c n d h l b m z:=
 ⟨t.bel.trans (f.mono t.bel.size),t.a.all f,t.hb.below f t.hb.lt,t.hm.below f t.hm.lt,t.lb,t.lm,t.ne⟩
theorem t4(r c n l j L z:Nat)(H:Option Addr)(S:List Nat)(X:Nat→List Nat)(N B M:Nat→Nat)(f F:Nat→Bool)(w:World)(hr:r≤6)(hc:c≤6)(hj:j<r)(hL:r-j=L)(hz:j+z=c)(m:ad w H l (az S))(ae:B 0=j∧M 0=0)(aj:F 0=true)
  (am:∀t,t<z→F (t+1)=(F t&&f (j+t))∧M t<18446744073709551616∧N (j+t)<18446744073709551616∧((cO (M t) (N (j+t))<0∧B (t+1)=j+t∧M (t+1)=N (j+t))∨(¬cO (M t) (N (j+t))<0∧B (t+1)=B t∧M (t+1)=M t))) (ao:∀t,t<z→F (t+1)=false→F z=false)
  (C1:∀w' k,j≤k→k<c→ad w' H l (az S)→Calls Tryz.prog 69 #[.agg #[.int .i64 r,.int .i64 c,.slice H n l],.int .i64 (j:Nat),.int .i64 (k:Nat),.int .i64 (L:Nat),.int .i64 1] w' fun e G=>∃K d,e=.returned (.tuple #[.agg #[.int .i64 (L:Nat),.int .i64 1,.slice K L d],.int .i64 0])∧ad G K d (az (X k))∧Below w'.heap.size w' G)
  (C2:∀w' k K d,j≤k→k<c→Below w.heap.size w w'→ad w' K d (az (X k))→Calls Tryz.prog 120 #[.slice K L d] w' fun e G=>e=.returned (.tuple #[.int .u64 (N k:Nat),.int .i64 0])∧Below w'.heap.size w' G)
  (C3:∀w' k,j≤k→k<c→Calls Tryz.prog 68 #[.int .u64 (N k:Nat)] w' fun e G=>e=.returned (.bool (f k))∧Below w'.heap.size w' G):
  Calls Tryz.prog 71 #[.agg #[.int .i64 r,.int .i64 c,.slice H n l],.int .i64 (j:Nat)] w fun e w'=>((F z=true∧e=.returned (.tuple #[.int .i64 (B z:Nat),.int .i64 0]))∨(F z=false∧e=.returned (.tuple #[.int .i64 0,.int .i64 2])))∧Below w.heap.size w w':=by
 have b0:=ac w (.cells #[.int .i64 r,.int .i64 c,.slice H n l] 24)
 have s0:=an w (.cells #[.int .i64 r,.int .i64 c,.slice H n l] 24)
 have HX:=aa (aw.new w (.int .i64 r) (.int .i64 c) (.slice H n l))
 have HB:=aa b0
 have HS:=aa m
 have K0:=aa (vQ j (w.alloc (.cells #[.int .i64 r,.int .i64 c,.slice H n l] 24)))
 rw[s0]at K0
 have K1:=aa C1;have K2:=aa C2;have K3:=aa C3;have a0:=aa am;have a1:=aa ao;have Q:=aa ae;have ax:=aa aj
 have eL:IntKind.i64.wrap ((r:Int)-(j:Int))=(L:Int):=(aR _ (by omega)).trans (by omega)
 have a5:(r:Int)-(j:Int)=(L:Int):=by omega
 clear b0 s0 m C1 C2 C3 am ao ae aj hL
 go_enter Tryz.func71,Tryz.ntmps71
 go_wp2_with fail
 refine(uH K0).mono ?_
 rintro e w1 ⟨Y,Z,rfl,lb,lm,a4,h1,h2,D⟩
 have b1:Below w.heap.size w w1:=(uH HB).trans (D.mono (Nat.le_succ _))
 have ST:Hid (zj w w1 r c n l Y Z (B 0) (M 0) H):=aa (by
  have e:=uH Q
  rw[e.1,e.2]
  have O:=(uH HX).lt
  exact⟨b1,(uH HX).below D (Nat.lt_succ_self _),h1,h2,lb,lm,a4⟩)
 clear K0 HB HX D h1 h2 b1
 go_wp2_with fail
 go_loopw[6,8] (fun p a wr=>∃t:Nat,t≤z∧p=.int .i64 (B t:Nat)∧a=.int .i64 ((j+t:Nat):Int)∧Hid (F t=true)∧Hid (zj w wr r c n l Y Z (B t) (M t) H)) (fun _ a _=>c-(intOf a).toNat)
 case atStart=>exact⟨0,Nat.zero_le _,by rw[(uH Q).1],by first|rfl|simp,ax,ST⟩
 case round=>
  clear ST Q ax
  obtain⟨t,bb,rfl,rfl,hF,m⟩:=hrel
  obtain⟨k,hk⟩:∃k,j+t=k:=⟨_,rfl⟩
  have U:=aa (fun h=>uH a0 t h)
  have V:=aa (fun h=>uH a1 t h)
  rw[hk]at U⊢
  have y0:=(uH m).a.c0;have y1:=(uH m).a.c1;have y2:=(uH m).a.c2
  by_cases O:k<c
  ·have a6:(k:Int)<(c:Int):=by omega
   obtain⟨q1,q2,q3,q4⟩:=uH U (by omega)
   have G1:=aa (uH K1 wr k (by omega) O ((uH HS).below (uH m).bel))
   have G2:=aa (fun w' K d=>uH K2 w' k K d (by omega) O)
   have G3:=aa (fun w'=>uH K3 w' k (by omega) O)
   have G4:=aa (fun w'=>zi (M t) (N k) w' q2 q3)
   have a7:IntKind.i64.wrap ((k:Int)+1)=(k:Int)+1:=aR _ (by omega)
   have QF:=aa q1;have Q4:=aa q4
   clear q1 q2 q3 q4 U
   go_wp2_with fail
   clear y0 y1 y2
   refine(uH G1).mono ?_
   rintro e w2 ⟨K,d,rfl,hx,D⟩
   have ba:=ac w2 (.cells #[.int .i64 (L:Int),.int .i64 1,.slice K L d] 24)
   have CB:=aw.new w2 (.int .i64 (L:Int)) (.int .i64 1) (.slice K L d)
   replace m:=aa (((uH m).all D).all ba)
   have HX:=aa (hx.below ba)
   have y2:=CB.c2
   clear D hx ba G1 CB
   go_wp2_with fail
   clear y2
   refine(uH G2 _ K d (uH m).bel (uH HX)).mono ?_
   rintro e w3 ⟨rfl,D⟩
   replace m:=aa ((uH m).all D)
   clear D HX G2
   go_wp2_with fail
   refine(uH G3 _).mono ?_
   rintro e w4 ⟨rfl,D⟩
   replace m:=aa ((uH m).all D)
   clear D G3
   cases hf:f k with
   |false=>
    have a2:Hid (F z=false):=aa (uH V (by omega) (by rw[uH QF,hf,Bool.and_false]))
    have BW:=aa (uH m).bel
    clear m Q4 G4 QF V
    go_wp2_with fail
    exact bodyPost_ret (v:=.tuple #[.int .i64 0,.int .i64 2]) (by simp[results,Tryz.results71,go_sem]) rfl ⟨.inr ⟨uH a2,rfl⟩,uH BW⟩
   |true=>
    have aI:Hid (F (t+1)=true):=aa (by rw[uH QF,hf,uH hF];rfl)
    clear QF V
    have A:=uH m
    have JU:=Nat.lt_of_lt_of_le (Nat.lt_succ_self w.heap.size) A.lb
    have G5:Hid (Calls Tryz.prog 142 #[.int .i64 k,.int .u64 (N k:Nat),.pointer (some ⟨Z,0,none⟩),.pointer (some ⟨Y,0,none⟩)] w4 fun e w'=>e=.returned (.int .i64 (B (t+1):Nat))∧bM w' Y [B (t+1)]∧bg w' Z [M (t+1)]∧Below (w.heap.size+1) w4 w'):=aa (by
     rcases uH Q4 with⟨g,e1,e2⟩|⟨g,e1,e2⟩
     ·have:=tZ k (N k) (B t) (M t) (B (t+1)) (M (t+1)) Y Z (w.heap.size+1) true w4 A.lb A.lm A.ne A.hb A.hm (.inl ⟨rfl,by rw[e1],e2⟩) (fun w'=>by have:=uH G4 w';rwa[decide_eq_true (show cO (M t) (N k)<0 by omega)]at this)
      exact this
     ·have:=tZ k (N k) (B t) (M t) (B (t+1)) (M (t+1)) Y Z (w.heap.size+1) false w4 A.lb A.lm A.ne A.hb A.hm (.inr ⟨rfl,e1,e2⟩) (fun w'=>by have:=uH G4 w';rwa[decide_eq_false (show¬cO (M t) (N k)<0 by omega)]at this)
      exact this)
    clear A Q4 G4
    go_wp2_with fail
    refine(uH G5).mono ?_
    rintro e w5 ⟨rfl,h1,h2,D⟩
    have A:=uH m
    have S5:Hid (zj w w5 r c n l Y Z (B (t+1)) (M (t+1)) H):=aa ⟨A.bel.trans (D.mono (Nat.le_succ _)),A.a.below D (Nat.lt_succ_self _),h1,h2,A.lb,A.lm,A.ne⟩
    clear A m h1 h2 D G5
    go_wp2_with fail
    go_round
    case rel=>exact⟨t+1,by omega,rfl,by first|go_num|(simp;omega),aI,S5⟩
    case measure=>first|(simp[intOf];done)|(simp[intOf];omega)
  ·have a3:t=z:=by omega
   subst a3
   have a9:¬(k:Int)<(c:Int):=by omega
   have BW:=aa (uH m).bel
   clear m
   go_wp2_with fail
   exact bodyPost_ret (v:=.tuple #[.int .i64 (B t:Nat),.int .i64 0]) (by simp[results,Tryz.results71,go_sem]) rfl ⟨.inl ⟨uH hF,rfl⟩,uH BW⟩
theorem pz{P:Program}(w:World){f:Array Oper}{o:Oper}{a:Act}{K:Act→World→Prop}{Q:Exit→Act→World→Prop}{E:Prop}(m:o.guard=none)(s x:Operand)(t:TypeId)
  (D:o.op=.call {callee:=.builtin .append,args:=#[s,x],argTypes:=#[t,t]}) (z A:Value) (F:Value→World→Prop) (G:a.eval s=z) (H:a.eval x=A)
  (L:∃d w',(Builtin.append_ #[t,t] o.type #[z,A]).run P w=.ok d w'∧F d w') (h:∀d w',F d w'→K (a.put o.dst d) w'):
  if Region.wanted o (yielded f a.tmps)=true then Oper.wp P o a w K Q else E:=by
 have M:Region.wanted o (yielded f a.tmps)=true:=by simp[Region.wanted,m]
 rw[if_pos M]
 obtain⟨d,w',l,hF⟩:=L
 unfold Oper.wp execOp
 simp only[D,resolve,invoke,builtin,Sem.run_bind,Sem.run_pure,Result.andThen_ok,List.map_toArray,List.map_cons,List.map_nil,G,H,l]
 exact h d w' hF
theorem ql{w:World}{m:Option Addr}{c:Nat}{I:List Int}(h:ad w m c I){g:Nat}{x y:Int}{a:Option Addr}{n d:Nat}(z:aw w g (.int .i64 x) (.int .i64 y) (.slice a n d)):ie (some g) m I:=by
 rcases h.2.2 with D|⟨b,f,F,H,G⟩
 ·exact .inl D
 ·by_cases t:I= []
  ·exact .inl t
  ·have A:0<I.length:=List.length_pos_iff.2 t
   refine .inr ⟨b,f,F,fun e=>?_⟩
   cases e
   have l:=G 0 A
   rw[cell_of_row w g (f+0) _ _ _ z]at l
   rcases(show f=0∨f=1∨f=2∨3≤f by omega)with e|e|e|e
   ·subst e;simp at l
   ·subst e;simp at l
   ·subst e;simp at l
   ·rw[Array.getElem?_eq_none (by simp;omega)]at l;simp at l
theorem xk{x:Mr}{g:Option Nat}(h:ie g x.ao (az x.V)):yU g x:=by
 rcases h with e|e
 ·exact .inl (by cases hV:x.V with
   |nil=>rfl
   |cons y ys=>rw[hV]at e;cases e)
 ·exact .inr e
theorem bI.apartM{d:Nat}{w:World}{v:Value}{R:List Mr}(h:bI d w v R){g:Nat}{x y z:Value}(f:aw w g x y z):v.ownBlock≠some g:=by
 intro e
 rcases h.1.2 with⟨l,_⟩|⟨k,m,t,A,F,D,rest⟩
 ·rw[l]at e;simp[Value.ownBlock]at e
 ·rw[A]at e
  simp[Value.ownBlock]at e
  subst e
  have e:=D.symm.trans f
  simp at e
theorem bI.putOne{f:Nat}{w:World}{v:Value}{R:List Mr}(h:bI f w v R){g:Nat}{x y:Int}{o:Option Addr}{n d:Nat}(l:aw w g (.int .i64 x) (.int .i64 y) (.slice o n d))(j:Nat)(u:Value):bI f (w.setCell ⟨g,j,none⟩ u) v R:=
 h.grown (h.apartM l) (fun z m=>xk (ql (h.2 z m).1 l)) (fv w g j u)
theorem aw.putc16{w:World}{b:Nat}{x y z:Value}(h:aw w b x y z)(u:Value):aw (w.setCell ⟨b,2,none⟩ u) b x y u:=by
 have d:=heap_setCell_same w b 2 _ _ u h
 unfold aw
 rw[d]
 simp
theorem eI{w:World}{b g j:Nat}{u u' u'' v:Value}(d:b≠g)(h:w.cell? ⟨b,j,none⟩=some v):(((w.setCell ⟨g,0,none⟩ u).setCell ⟨g,1,none⟩ u').setCell ⟨g,2,none⟩ u'').cell? ⟨b,j,none⟩=some v:=by
 rw[ah _ _ _ _ d,ah _ _ _ _ d,ah _ _ _ _ d]
 exact h
structure j0 (w wr:World) (h r c n cap:Nat) (ao:Option Addr) (S:List Nat) (ro:Option Addr) (rc:Nat) (v:Value) (R:List Mr) (pg:Nat) (L:List Nat):Prop where
 st:vI w wr h r c n cap ao S ro rc v R
 pl:bM wr pg L
 hp:w.heap.size+1+1≤pg
 ph:pg≠h
 pv:v.ownBlock≠some pg
theorem j0.all{w wr w':World}{h r c n d:Nat}{f:Option Addr}{S:List Nat}{l:Option Addr}{m:Nat}{v:Value}{R:List Mr}{z:Nat}{L:List Nat}(t:j0 w wr h r c n d f S l m v R z L)(A:Below wr.heap.size wr w'):j0 w w' h r c n d f S l m v R z L:=
 ⟨t.st.all A,t.pl.below A t.pl.lt,t.hp,t.ph,t.pv⟩
theorem j0.changed{w wr w':World}{h r c n m:Nat}{z:Option Addr}{S U:List Nat}{H:Option Addr}{K:Nat}{v:Value}{R:List Mr}{M:Nat}{L A:List Nat}(t:j0 w wr h r c n m z S H K v R M L)(N:Below wr.heap.size wr w'){g p2:Nat}(hg:wr.heap.size≤g)(O:bg w' g U)(Q:∀x∈U,x<18446744073709551616)(D:U.length=n)(V:wr.heap.size≤p2)(X:bM w' p2 A):
  j0 w (w'.setCell ⟨h,2,none⟩ (.slice (some ⟨g,0,none⟩) n n)) h r c n m z U (some ⟨g,0,none⟩) n v R p2 A:=by
 have f:=t.st.all N
 have Z:=t.st.rb.lt
 have hh:=t.st.hh
 have n0:w.heap.size≠h:=by omega
 have n1:w.heap.size+1≠h:=by omega
 have ng:g≠h:=by omega
 have F:p2≠h:=by omega
 have d:=O.bits Q
 rw[D]at d
 have G:∀k,v.ownBlock=some k→k<wr.heap.size:=fun k Y=>(t.st.l.lt k Y).2
 have q:ad w' (some ⟨g,0,none⟩) n (az U):=d
 refine⟨⟨f.bel.setCell (p:=⟨h,2,none⟩) (by show w.heap.size≤h;omega) _,hh,f.a.other (p:=⟨h,2,none⟩) n0 _,f.res.other (p:=⟨h,2,none⟩) n1 _,f.rb.putc16 _,dO q (ql q f.rb) (fv _ _ _ _),.inr ⟨g,0,rfl,by omega⟩,D,f.l.putOne f.rb _ _,.inr ⟨g,0,rfl,fun e=>?_⟩⟩,X.other (p:=⟨h,2,none⟩) F _,by omega,F,fun e=>?_⟩
 ·have:=G g e.symm;omega
 ·have:=G p2 e;omega
theorem j0.push{w wr:World}{h r c n f:Nat}{Q:Option Addr}{S U:List Nat}{X:Option Addr}{Y:Nat}{v:Value}{R:List Mr}{Z:Nat}{L:List Nat}(t:j0 w wr h r c n f Q S X Y v R Z L)(x:Mr)(hx:ad wr x.ao x.cap (az x.V))(ha:ie v.ownBlock x.ao (az x.V))(hl:R.length≤1000000){g nb M:Nat}(m:bg wr g U)(A:v.ownBlock≠some g)(ae:w.heap.size+1+1≤g)(hf:∀x∈U,x<18446744073709551616)(D:U.length=n){y1 y2 y3 y4 y5:Value}(hN:aw wr nb y1 y2 y3)(hM:dh wr M y4 y5)(N:v.ownBlock≠some M)(ty:TypeId):
  ∃H w',(Builtin.append_ #[64,64] ty #[v,.slice (some ⟨wr.heap.size,0,none⟩) 1 1]).run Tryz.prog (wr.alloc (.cells #[.slice x.ao x.V.length x.cap,.int .u64 (x.tau:Nat)] 105))=.ok H w'∧aw w' h (.int .i64 r) (.int .i64 c) (.slice X n Y)∧j0 w (((w'.setCell ⟨h,0,none⟩ (.int .i64 r)).setCell ⟨h,1,none⟩ (.int .i64 c)).setCell ⟨h,2,none⟩ (.slice (some ⟨g,0,none⟩) n n)) h r c n f Q U (some ⟨g,0,none⟩) n H (R++[x]) Z L∧aw w' nb y1 y2 y3∧dh w' M y4 y5:=by
 have aj:=t.st.rb.lt
 have hh:=t.st.hh
 have hv:=t.st.l.apartM t.st.rb
 obtain⟨H,w',e1,e2,O,G,e5⟩:=t.st.l.push x hx (xk ha) hl (by omega) ty
 have F:=ac wr (.cells #[.slice x.ao x.V.length x.cap,.int .u64 (x.tau:Nat)] 105)
 have t1:=t.all F
 have K:=t1.st.rb.grown G hv
 have G1:bg w' g U:=(G.block g (m.below F m.lt).lt (fun e=>A e.symm)).trans (m.below F m.lt)
 have n0:w.heap.size≠h:=by omega
 have n1:w.heap.size+1≠h:=by omega
 have d:=G1.bits hf
 rw[D]at d
 have q:ad w' (some ⟨g,0,none⟩) n (az U):=d
 have am:=t.pl.lt
 have ax:=m.lt
 refine⟨H,w',e1,K,⟨⟨aA (t.st.bel.trans (O.mono (by omega))) (by omega) _ _ _,hh,(t.st.a.below O (by omega)).three14 n0 _ _ _,(t.st.res.below O (by omega)).three14 n1 _ _ _,K.put _ _ _,q.putM K _ _ _,.inr ⟨g,0,rfl,by omega⟩,D,e2.putQ K _ _ _,.inr ⟨g,0,rfl,fun e=>?_⟩⟩,(t1.pl.grown G t.pv).three t.ph _ _ _,t.hp,t.ph,fun e=>?_⟩,(hN.all F).grown G (t.st.l.apartM hN),(hM.all F).grown G N⟩
 ·rcases e5 with z|z
  ·rw[z]at e;exact A e.symm
  ·rw[z]at e;cases e;omega
 ·rcases e5 with z|z
  ·rw[z]at e;exact t.pv e
  ·rw[z]at e;cases e;omega
def Db(w w':World)(ok:Bool)(r c n K:Nat)(S P:List Nat)(V:Nat→List Nat)(tau:Nat→Nat)(e:Ending):Prop:=
 (ok=true∧∃ro rc pg v R,e=.returned (.tuple #[.agg #[.int .i64 r,.int .i64 c,.slice ro n rc],.slice (some ⟨pg,0,none⟩) c c,v,.int .i64 0])∧bD w.heap.size ro (az S)∧ad w' ro rc (az S)∧w.heap.size≤pg∧bM w' pg P∧bI (w.heap.size+1+1) w' v R∧R.length=K∧∀k,k<K→(bO R k).V=V k∧(bO R k).tau=tau k)∨
 (ok=false∧e=.returned (.tuple #[.agg #[.int .i64 0,.int .i64 0,.slice none 0 0],.slice none 0 0,.slice none 0 0,.int .i64 2]))
theorem FJ(r c n U m K:Nat)(ao:Option Addr)(RJ W V PL:Nat→List Nat)(A bn:Nat→Nat)(gk o:Nat→Bool)(ok:Bool)(w:World)(hr:r≤6)(hc:c≤6)(hm:(m:Int)=min (c:Int) (r:Int))(hK:∀j:Nat,j<K↔(j<m∧j+1<r))(b9:K≤m)
  (lR:∀j,(RJ j).length=n) (lW:∀j,(W j).length=n) (lV:∀j,(V j).length=r-j) (ca:∀j,j<m→∀x∈W j,x<18446744073709551616) (hf:∀j,j<m→∀x∈RJ (j+1),x<18446744073709551616)
  (D:∀j,j<m→¬j+1<r→RJ (j+1)=W j) (cb:PL 0=List.range c)
  (cc:ok=true↔∀j,j<m→gk j=true∧(j+1<r→o j=true))
  (C1:∀w',Below w.heap.size w w'→Calls Tryz.prog 69 #[.agg #[.int .i64 r,.int .i64 c,.slice ao n U],.int .i64 0,.int .i64 0,.int .i64 r,.int .i64 c] w' fun e M=>∃po pc,e=.returned (.tuple #[.agg #[.int .i64 r,.int .i64 c,.slice po n pc],.int .i64 0])∧bD w'.heap.size po (az (RJ 0))∧ad M po pc (az (RJ 0))∧Below w'.heap.size w' M)
  (C2:∀w' j po pc,j<m→Below w.heap.size w w'→ad w' po pc (az (RJ j))→Calls Tryz.prog 71 #[.agg #[.int .i64 r,.int .i64 c,.slice po n pc],.int .i64 (j:Nat)] w' fun e M=>((gk j=true∧e=.returned (.tuple #[.int .i64 (A j:Nat),.int .i64 0]))∨(gk j=false∧e=.returned (.tuple #[.int .i64 0,.int .i64 2])))∧Below w'.heap.size w' M)
  (C3:∀w' j po pc,j<m→ad w' po pc (az (RJ j))→Calls Tryz.prog 72 #[.slice po n pc,.int .i64 c,.int .i64 (j:Nat),.int .i64 (A j:Nat)] w' fun e M=>∃g,e=.returned (.slice (some ⟨g,0,none⟩) n n)∧w'.heap.size≤g∧bg M g (W j)∧Below w'.heap.size w' M)
  (C4:∀w' j pg,j<m→bM w' pg (PL j)→Calls Tryz.prog 73 #[.slice (some ⟨pg,0,none⟩) c c,.int .i64 c,.int .i64 (j:Nat),.int .i64 (A j:Nat)] w' fun e M=>∃g,e=.returned (.slice (some ⟨g,0,none⟩) c c)∧w'.heap.size≤g∧bM M g (PL (j+1))∧Below w'.heap.size w' M)
  (C5:∀w' j g,j<m→j+1<r→Below w.heap.size w w'→ad w' (some ⟨g,0,none⟩) n (az (W j))→Calls Tryz.prog 74 #[.agg #[.int .i64 r,.int .i64 c,.slice (some ⟨g,0,none⟩) n n],.int .i64 (j:Nat)] w' fun e M=>Cz w' M (o j) r c n (r-j) (RJ (j+1)) (V j) (bn j) e∧Below w'.heap.size w' M):
  Calls Tryz.prog 31 #[.agg #[.int .i64 r,.int .i64 c,.slice ao n U]] w fun e w'=>Db w w' ok r c n K (RJ m) (PL m) V bn e∧Below w.heap.size w w':=by
 have ce:∀(W:World) ts t,(Builtin.min_ ts t #[.int .i64 (c:Int),.int .i64 (r:Int)]).run Tryz.prog W=.ok (.int .i64 (m:Int)) W:=fun W ts t=>by rw[hm];exact sR _ W ts t _ _
 have eb:m≤6:=by omega
 have ec:m≤r:=by omega
 have dd:=aa hK;have LR:=aa lR;have LW:=aa lW;have LV:=aa lV;have HF:=aa hf;have dm:=aa ca;have bE:=aa D;have bo:=aa cc;have cf:=aa b9
 have K1:=aa (C1 ((w.alloc (.cells #[.int .i64 r,.int .i64 c,.slice ao n U] 24)).alloc (.cells #[.int .i64 0,.int .i64 0,.slice none 0 0] 24)) (by
  have b1:=ac w (.cells #[.int .i64 r,.int .i64 c,.slice ao n U] 24)
  have b2:=ac (w.alloc (.cells #[.int .i64 r,.int .i64 c,.slice ao n U] 24)) (.cells #[.int .i64 0,.int .i64 0,.slice none 0 0] 24)
  exact b1.trans (b2.mono b1.size)))
 simp only[an]at K1
 have KB:=aa (lI w (.int .i64 r) (.int .i64 c) (.slice ao n U) (.int .i64 0) (.int .i64 0) (.slice none 0 0))
 have KI:=aa (fun w'=>tY c w' (by omega))
 rw[←cb]at KI
 have K2:=aa C2;have K3:=aa C3;have K4:=aa C4;have K5:=aa C5
 clear hm hK lR lW lV hf ca D cc C1 C2 C3 C4 C5 cb b9
 go_enter Tryz.func31,Tryz.ntmps31
 go_wp2_with fail
 refine(uH K1).mono ?_
 rintro e w1 ⟨po,pc,rfl,hn,hq,c5⟩
 obtain⟨hB,hA,hX⟩:=uH KB w1 c5
 have ST:=aa (vI.start hB hA hX hq (hn.least (by omega)) (uH LR 0))
 have y1:=(uH ST).a.c1
 clear K1 KB c5 hB hA hX hn hq
 go_wp2_with fail
 clear y1
 refine(uH KI _).mono ?_
 rintro e w2 ⟨pg,rfl,hg,G,Z⟩
 have SP:Hid (j0 w w2 w1.heap.size r c n U ao (RJ 0) po pc (.slice none 0 0) [] pg (PL 0)):=aa (by
  have x:=(uH ST).rb.lt
  have hh:=(uH ST).hh
  exact⟨(uH ST).all Z,G,by omega,by omega,by simp[Value.ownBlock]⟩)
 have y0:=(uH SP).st.a.c0;have y1:=(uH SP).st.a.c1
 clear KI hg G Z ST
 generalize w1.heap.size=h at*
 go_wp2_with fail
 clear y0 y1 ce
 go_loopw[8,9,32] (fun pv v a wr=>∃(j:Nat) (ro:Option Addr) (rc:Nat) (R:List Mr) (pg:Nat),j≤K∧pv=.slice (some ⟨pg,0,none⟩) c c∧a=.int .i64 j∧Hid (R.length=j)∧Hid (∀k,k<j→(bO R k).V=V k∧(bO R k).tau=bn k)∧Hid (∀k,k<j→gk k=true∧(k+1<r→o k=true))∧Hid (j0 w wr h r c n U ao (RJ j) ro rc v R pg (PL j))) (fun _ _ a _=>m-(intOf a).toNat)
 case atStart=>exact⟨0,po,pc,[],pg,Nat.zero_le _,rfl,rfl,rfl,fun k Y=>absurd Y (Nat.not_lt_zero k),fun k Y=>absurd Y (Nat.not_lt_zero k),SP⟩
 case round=>
  clear SP
  obtain⟨j,ro,rc,R,pg,ej,rfl,rfl,ae,bi,hO,N⟩:=hrel
  by_cases X:j<m
  ·have ds:(j:Int)<(m:Int):=by omega
   have ed:j<r:=by omega
   have G2:=aa (fun w' po pc=>uH K2 w' j po pc X)
   have G3:=aa (fun w' po pc=>uH K3 w' j po pc X)
   have G4:=aa (fun w' pg=>uH K4 w' j pg X)
   have G5:=aa (fun w' g=>uH K5 w' j g X)
   have ci:=aa (uH LV j);have dv:=aa (uH LW j);have dx:=aa (uH LR (j+1));have dA:=aa (uH HF j X);have cj:=aa (uH dm j X);have dB:=aa (uH bE j X)
   have ck:=aa (uH dd j)
   have q0:=(uH N).st.rb.c0;have q1:=(uH N).st.rb.c1;have q2:=(uH N).st.rb.c2
   go_wp2_with fail
   clear q0 q1 q2
   refine(uH G2 _ ro rc (uH N).st.bel (uH N).st.bits).mono ?_
   rintro e w3 ⟨d0,Z⟩
   replace N:=aa ((uH N).all Z)
   clear Z G2
   rcases d0 with⟨bx,rfl⟩|⟨bx,rfl⟩
   ·generalize d2:A j=ka at*
    have cl:=aa bx
    generalize d3:bn j=tj at*
    generalize d4:V j=vj at*
    generalize ek:W j=wj at*
    generalize d5:RJ (j+1)=nj at*
    generalize el:RJ j=rj at*
    generalize ea:PL (j+1)=pj at*
    generalize em:PL j=pl at*
    have cm:=aa d5;have cp:=aa ea
    clear bx d2
    go_wp2_with fail
    replace N:=aa ((uH N).all (Below.refl w3.heap.size w3).drew)
    refine wp_region_held_drew (S:=fun w'=>w'.cell? ⟨w.heap.size,1,none⟩=some (.int .i64 (c:Nat))) (by kernel_rfl) ?_ (fun F=>?_)
    ·exact(uH N).st.a.c1
    refine wpAnyH_take (i:=0) (oi:={dst:=some 45,op:=Op.fieldAddr 24 (Operand.tmp 6) 2,type:=0,pos:= "greatest.go:22",after:=#[],guard:=none}) (v:=Value.pointer (some ⟨h,2,none⟩)) rfl (by kernel_rfl) (by kernel_rfl) (by kernel_rfl) (fun _ _ _ h=>h) (Or.inl ⟨by rfl,?_⟩) (by assumption) ?_
    ·(intro w f;(try dsimp only at f);go_simp)
    simp only[Act.put,List.setIfInBounds_toArray,List.set_cons_zero,List.set_cons_succ]
    refine wpAnyH_take (i:=2) (oi:={dst:=some 47,op:=Op.fieldAddr 24 (Operand.tmp 1) 1,type:=0,pos:= "greatest.go:22",after:=#[],guard:=none}) (v:=Value.pointer (some ⟨w.heap.size,1,none⟩)) rfl (by kernel_rfl) (by kernel_rfl) (by kernel_rfl) (fun _ _ _ h=>h) (Or.inl ⟨by rfl,?_⟩) (by assumption) ?_
    ·(intro w f;(try dsimp only at f);go_simp)
    simp only[Act.put,List.setIfInBounds_toArray,List.set_cons_zero,List.set_cons_succ]
    refine wpAnyH_take (i:=3) (oi:={dst:=some 48,op:=Op.load 3 (Operand.tmp 47),type:=3,pos:= "greatest.go:22",after:=#[{on:=2,ground:=Ground.data}],guard:=none}) (v:=Value.int .i64 (c:Nat)) rfl (by kernel_rfl) (by kernel_rfl) (by kernel_rfl) (fun _ _ _ h=>h) (Or.inl ⟨by rfl,?_⟩) (by assumption) ?_
    ·(intro w f;(try dsimp only at f);go_simp)
    simp only[Act.put,List.setIfInBounds_toArray,List.set_cons_zero,List.set_cons_succ]
    refine wpAnyH_take (i:=4) (oi:={dst:=some 49,op:=Op.move (Operand.tmp 10),type:=3,pos:= "greatest.go:22",after:=#[],guard:=none}) (v:=Value.int .i64 (j:Nat)) rfl (by kernel_rfl) (by kernel_rfl) (by kernel_rfl) (fun _ _ _ h=>h) (Or.inl ⟨by rfl,?_⟩) (by assumption) ?_
    ·(intro w f;(try dsimp only at f);go_simp)
    simp only[Act.put,List.setIfInBounds_toArray,List.set_cons_zero,List.set_cons_succ]
    refine wpAnyH_take (i:=5) (oi:={dst:=some 50,op:=Op.move (Operand.tmp 11),type:=3,pos:= "greatest.go:22",after:=#[],guard:=none}) (v:=Value.int .i64 (ka:Nat)) rfl (by kernel_rfl) (by kernel_rfl) (by kernel_rfl) (fun _ _ _ h=>h) (Or.inl ⟨by rfl,?_⟩) (by assumption) ?_
    ·(intro w f;(try dsimp only at f);go_simp)
    simp only[Act.put,List.setIfInBounds_toArray,List.set_cons_zero,List.set_cons_succ]
    refine wpAnyH_take (i:=7) (oi:={dst:=some 52,op:=Op.move (Operand.tmp 8),type:=26,pos:= "greatest.go:22",after:=#[],guard:=none}) (v:=Value.slice (some ⟨pg,0,none⟩) c c) rfl (by kernel_rfl) (by kernel_rfl) (by kernel_rfl) (fun _ _ _ h=>h) (Or.inl ⟨by rfl,?_⟩) (by assumption) ?_
    ·(intro w f;(try dsimp only at f);go_simp)
    simp only[Act.put,List.setIfInBounds_toArray,List.set_cons_zero,List.set_cons_succ]
    refine wpAnyH_take (i:=8) (oi:={dst:=some 53,op:=Op.fieldAddr 24 (Operand.tmp 1) 1,type:=0,pos:= "greatest.go:22",after:=#[],guard:=none}) (v:=Value.pointer (some ⟨w.heap.size,1,none⟩)) rfl (by kernel_rfl) (by kernel_rfl) (by kernel_rfl) (fun _ _ _ h=>h) (Or.inl ⟨by rfl,?_⟩) (by assumption) ?_
    ·(intro w f;(try dsimp only at f);go_simp)
    simp only[Act.put,List.setIfInBounds_toArray,List.set_cons_zero,List.set_cons_succ]
    refine wpAnyH_take (i:=9) (oi:={dst:=some 54,op:=Op.load 3 (Operand.tmp 53),type:=3,pos:= "greatest.go:22",after:=#[{on:=8,ground:=Ground.data}],guard:=none}) (v:=Value.int .i64 (c:Nat)) rfl (by kernel_rfl) (by kernel_rfl) (by kernel_rfl) (fun _ _ _ h=>h) (Or.inl ⟨by rfl,?_⟩) (by assumption) ?_
    ·(intro w f;(try dsimp only at f);go_simp)
    simp only[Act.put,List.setIfInBounds_toArray,List.set_cons_zero,List.set_cons_succ]
    refine wpAnyH_take (i:=10) (oi:={dst:=some 55,op:=Op.move (Operand.tmp 10),type:=3,pos:= "greatest.go:22",after:=#[],guard:=none}) (v:=Value.int .i64 (j:Nat)) rfl (by kernel_rfl) (by kernel_rfl) (by kernel_rfl) (fun _ _ _ h=>h) (Or.inl ⟨by rfl,?_⟩) (by assumption) ?_
    ·(intro w f;(try dsimp only at f);go_simp)
    simp only[Act.put,List.setIfInBounds_toArray,List.set_cons_zero,List.set_cons_succ]
    refine wpAnyH_take (i:=11) (oi:={dst:=some 56,op:=Op.move (Operand.tmp 11),type:=3,pos:= "greatest.go:22",after:=#[],guard:=none}) (v:=Value.int .i64 (ka:Nat)) rfl (by kernel_rfl) (by kernel_rfl) (by kernel_rfl) (fun _ _ _ h=>h) (Or.inl ⟨by rfl,?_⟩) (by assumption) ?_
    ·(intro w f;(try dsimp only at f);go_simp)
    simp only[Act.put,List.setIfInBounds_toArray,List.set_cons_zero,List.set_cons_succ]
    refine wpAnyH_ready (rs:=[1]) (by kernel_rfl) (by simp) ?_
    refine AllReadyH.cons (o:={dst:=some 46,op:=Op.load 22 (Operand.tmp 45),type:=22,pos:= "greatest.go:22",after:=#[{on:=0,ground:=Ground.data}],guard:=none}) rfl (fun K0 z=>?_) AllReadyH.nil
    have q2:=(uH N).st.rb.c2
    go_simp
    clear q2
    refine z.out _ _ ?_ (fun F=>?_)
    ·exact(uH N).st.a.c1
    clear z K0
    refine wpAnyH_ready (rs:=[6]) (by kernel_rfl) (by simp) ?_
    refine AllReadyH.cons (o:={dst:=some 51,op:=Op.call {callee:=Callee.value (Operand.func 72),args:=#[Operand.tmp 46,Operand.tmp 48,Operand.tmp 49,Operand.tmp 50],argTypes:=#[22,3,3,3]},type:=22,pos:= "greatest.go:22",after:=#[{on:=1,ground:=Ground.data},{on:=3,ground:=Ground.data},{on:=4,ground:=Ground.data},{on:=5,ground:=Ground.data}],guard:=none}) rfl (fun K0 z=>?_) AllReadyH.nil
    go_simp
    refine(uH G3 _ ro rc (uH N).st.bits).mono ?_
    rintro e w3 ⟨g,rfl,hg,G,Z⟩
    have S3:=aa ((uH N).all Z)
    have HW:=aa Z
    have HG:=aa hg;have a0:=aa G
    clear Z hg G G3
    go_wp2_with fail
    refine z.out _ _ ?_ (fun F=>?_)
    ·exact(uH S3).st.a.c1
    clear z K0
    refine wpAnyH_take (i:=13) (oi:={dst:=some 58,op:=Op.fieldAddr 24 (Operand.tmp 6) 2,type:=0,pos:= "greatest.go:22",after:=#[{on:=0,ground:=Ground.phase},{on:=1,ground:=Ground.phase},{on:=2,ground:=Ground.phase},{on:=3,ground:=Ground.phase},{on:=4,ground:=Ground.phase},{on:=5,ground:=Ground.phase},{on:=6,ground:=Ground.phase},{on:=7,ground:=Ground.textOnly Departure.lateStores},{on:=8,ground:=Ground.textOnly Departure.lateStores},{on:=9,ground:=Ground.textOnly Departure.lateStores},{on:=10,ground:=Ground.textOnly Departure.lateStores},{on:=11,ground:=Ground.textOnly Departure.lateStores},{on:=12,ground:=Ground.textOnly Departure.lateStoresUnsure}],guard:=none}) (v:=Value.pointer (some ⟨h,2,none⟩)) rfl (by kernel_rfl) (by kernel_rfl) (by kernel_rfl) (fun _ _ _ h=>h) (Or.inl ⟨by rfl,?_⟩) (by assumption) ?_
    ·(intro w f;(try dsimp only at f);go_simp)
    simp only[Act.put,List.setIfInBounds_toArray,List.set_cons_zero,List.set_cons_succ]
    refine wpAnyH_ready (rs:=[12]) (by kernel_rfl) (by simp) ?_
    refine AllReadyH.cons (o:={dst:=some 57,op:=Op.call {callee:=Callee.value (Operand.func 73),args:=#[Operand.tmp 52,Operand.tmp 54,Operand.tmp 55,Operand.tmp 56],argTypes:=#[26,3,3,3]},type:=26,pos:= "greatest.go:22",after:=#[{on:=7,ground:=Ground.data},{on:=9,ground:=Ground.data},{on:=10,ground:=Ground.data},{on:=11,ground:=Ground.data},{on:=6,ground:=Ground.chain}],guard:=none}) rfl (fun K0 z=>?_) AllReadyH.nil
    go_simp
    refine(uH G4 _ pg (uH S3).pl).mono ?_
    rintro e w4 ⟨p2,rfl,c6,bj,Z⟩
    have bp:=aa ((uH HW).trans (Z.mono (uH HW).size))
    have cs:=aa (show _≤p2 from Nat.le_trans (uH HW).size c6)
    have ct:=aa bj
    have a6:=aa ((uH a0).below Z (uH a0).lt)
    have T4:=(uH N).changed (uH bp) (uH HG) (uH a6) (uH cj) (uH dv) (uH cs) (uH ct)
    have X4:=((uH N).all (uH bp)).st.rb
    have X5:=((uH N).all (uH bp)).st.a
    have O:=aa T4
    have RB:=aa X4;have AB:=aa X5
    clear T4 X4 X5 Z c6 bj S3 HW a0 cs ct a6 bp HG N G4
    go_wp2_with fail
    refine z.out _ _ ?_ (fun F=>?_)
    ·exact(uH AB).c1
    clear z K0
    refine wpAnyH_ready (rs:=[14]) (by kernel_rfl) (by simp) ?_
    refine AllReadyH.cons (o:={dst:=none,op:=Op.store 22 (Operand.tmp 58) (Operand.tmp 51),type:=0,pos:= "greatest.go:22",after:=#[{on:=13,ground:=Ground.data},{on:=6,ground:=Ground.data},{on:=12,ground:=Ground.chain},{on:=0,ground:=Ground.phase},{on:=1,ground:=Ground.phase},{on:=2,ground:=Ground.phase},{on:=3,ground:=Ground.phase},{on:=4,ground:=Ground.phase},{on:=5,ground:=Ground.phase},{on:=6,ground:=Ground.phase},{on:=7,ground:=Ground.textOnly Departure.lateStores},{on:=8,ground:=Ground.textOnly Departure.lateStores},{on:=9,ground:=Ground.textOnly Departure.lateStores},{on:=10,ground:=Ground.textOnly Departure.lateStores},{on:=11,ground:=Ground.textOnly Departure.lateStores},{on:=12,ground:=Ground.textOnly Departure.lateStoresUnsure}],guard:=none}) rfl (fun K0 z=>?_) AllReadyH.nil
    have q2:=(uH RB).c2;have f2:=(uH RB).free 2
    go_simp
    clear q2 f2 RB AB
    refine z.out _ _ ?_ (fun F=>?_)
    ·exact(uH O).st.a.c1
    clear z K0
    refine wpAnyH_take (i:=15) (oi:={dst:=some 8,op:=Op.assign (Operand.tmp 57),type:=26,pos:= "greatest.go:22",after:=#[{on:=12,ground:=Ground.data},{on:=14,ground:=Ground.chain},{on:=0,ground:=Ground.phase},{on:=1,ground:=Ground.phase},{on:=2,ground:=Ground.phase},{on:=3,ground:=Ground.phase},{on:=4,ground:=Ground.phase},{on:=5,ground:=Ground.phase},{on:=6,ground:=Ground.phase},{on:=7,ground:=Ground.phase},{on:=8,ground:=Ground.phase},{on:=9,ground:=Ground.phase},{on:=10,ground:=Ground.phase},{on:=11,ground:=Ground.phase},{on:=12,ground:=Ground.phase},{on:=13,ground:=Ground.phase},{on:=14,ground:=Ground.phase}],guard:=none}) (v:=Value.slice (some ⟨p2,0,none⟩) c c) rfl (by kernel_rfl) (by kernel_rfl) (by kernel_rfl) (fun _ _ _ h=>h) (Or.inl ⟨by rfl,?_⟩) (by assumption) ?_
    ·(intro w f;(try dsimp only at f);go_simp)
    simp only[Act.put,List.setIfInBounds_toArray,List.set_cons_zero,List.set_cons_succ]
    refine wpAnyH_done (by kernel_rfl) ?_ _
    by_cases D:j+1<r
    ·have e1:((j:Int)==(r:Int)-1)=false:=by rw[beq_eq_false_iff_ne];omega
     have e2:¬((j:Int)=(r:Int)-1):=by omega
     have e3:IntKind.i64.wrap ((r:Int)-1)=(r:Int)-1:=aR _ (by omega)
     obtain⟨L,hL⟩:∃L,r-j=L:=⟨_,rfl⟩
     rw[hL]at G5 ci
     have y0:=(uH O).st.a.c0
     have q0:=(uH O).st.rb.c0;have q1:=(uH O).st.rb.c1;have q2:=(uH O).st.rb.c2
     clear hL
     go_wp2_with fail
     clear y0 q0 q1 q2 e1 e2 e3
     refine(uH G5 _ g D (uH O).st.bel (uH O).st.bits).mono ?_
     rintro e H ⟨c7,Z⟩
     have ax:=aa (fun k Y=>((uH O).st.l.lt k Y).2)
     have cv:=aa (show w.heap.size+1+1≤_ from Nat.le_trans (uH O).st.hh (Nat.le_of_lt (uH O).st.rb.lt))
     have cx:=aa Z.size
     have b0:=aa (uH O).st.rb.lt
     replace O:=aa ((uH O).all Z)
     clear Z G5
     rcases c7 with⟨ho,Q,vo,vc,rfl,db,G,hn,hv,d1⟩|⟨ho,rfl⟩
     ·have aj:=ac H (.cells #[.int .i64 r,.int .i64 c,.slice (some ⟨Q,0,none⟩) n n] 24)
      have cy:=an H (.cells #[.int .i64 r,.int .i64 c,.slice (some ⟨Q,0,none⟩) n n] 24)
      have cz:=aw.new H (.int .i64 r) (.int .i64 c) (.slice (some ⟨Q,0,none⟩) n n)
      have am:=ac (H.alloc (.cells #[.int .i64 r,.int .i64 c,.slice (some ⟨Q,0,none⟩) n n] 24)) (.cells #[.slice vo L vc,.int .u64 (tj:Nat)] 105)
      have b3:=dh.new (H.alloc (.cells #[.int .i64 r,.int .i64 c,.slice (some ⟨Q,0,none⟩) n n] 24)) (.slice vo L vc) (.int .u64 (tj:Nat))
      rw[cy]at b3
      have cA:=aa (show j0 _ _ _ _ _ _ _ _ _ _ _ _ _ _ _∧aw _ _ _ _ _∧dh _ _ _ _∧bg _ _ _∧ad _ _ _ _ from⟨((uH O).all aj).all am,cz.all am,b3,(G.below aj G.lt).below am (G.below aj G.lt).lt,(hv.below aj).below am⟩)
      have HO:=aa ho
      have b4:=aa db;have HN:=aa hn
      have bq:=aa (show _≤H.heap.size from uH cx)
      clear aj cy cz am b3 G hv db hn d1 ho O
      go_wp2_with fail
      refine aq (fun W=>j0 w W h r c n U ao wj (some ⟨g,0,none⟩) n u9 R p2 pj∧aw W H.heap.size (.int .i64 r) (.int .i64 c) (.slice (some ⟨Q,0,none⟩) n n)∧dh W (H.heap.size+1) (.slice vo L vc) (.int .u64 (tj:Nat))∧bg W Q nj∧ad W vo vc (az vj)) (uH cA) ?_
      clear cA
      rintro W6 ⟨p6,n6,m6,bm,v6⟩
      have a7:∀q,(∀k,u9.ownBlock=some k→k<q)→u9.ownBlock≠some q:=fun q hq e=>Nat.lt_irrefl q (hq q e)
      have hd:=(Below.refl W6.heap.size W6).drew
      have aI:=j0.push (p6.all hd) ⟨vo,vc,vj,tj,0⟩ (v6.below hd) (ie.new (uH HN) (fun k Y=>uH ax k Y)) (by rw[uH ae];omega) (bm.below hd bm.lt) (a7 _ (fun k Y=>Nat.lt_of_lt_of_le (uH ax k Y) (uH b4))) (Nat.le_trans (uH cv) (uH b4)) (uH dA) (uH dx) (n6.all hd) (m6.all hd) (a7 _ (fun k Y=>Nat.lt_of_lt_of_le (uH ax k Y) (Nat.le_trans (uH bq) (Nat.le_succ _)))) 64
      dsimp only at aI
      rw[uH ci]at aI
      obtain⟨v9,w9,a1,a2,a3,a4,a5⟩:=aI
      have aI:=aa (show∃v' w',_=_∧(aw w' h (.int .i64 r) (.int .i64 c) (.slice (some ⟨g,0,none⟩) n n)∧j0 w (((w'.setCell ⟨h,0,none⟩ (.int .i64 r)).setCell ⟨h,1,none⟩ (.int .i64 c)).setCell ⟨h,2,none⟩ (.slice (some ⟨Q,0,none⟩) n n)) h r c n U ao nj (some ⟨Q,0,none⟩) n v' (R++[⟨vo,vc,vj,tj,0⟩]) p2 pj∧(w'.cell? ⟨H.heap.size,0,none⟩=some (.int .i64 (r:Nat))∧w'.cell? ⟨H.heap.size,1,none⟩=some (.int .i64 (c:Nat))∧w'.cell? ⟨H.heap.size,2,none⟩=some (.slice (some ⟨Q,0,none⟩) n n))∧w'.cell? ⟨H.heap.size+1,0,none⟩=some (.slice vo L vc)∧w'.cell? ⟨H.heap.size+1,1,none⟩=some (.int .u64 (tj:Nat)))from⟨v9,w9,a1,a2,a3,⟨a4.c0,a4.c1,a4.c2⟩,a5.c0,a5.c1⟩)
      clear a1 a2 a3 a4 a5
      have bz:=aa (fun W' (Z:Below W6.drew.heap.size W6.drew W')=>(show(W'.cell? ⟨H.heap.size,0,none⟩=some (.int .i64 (r:Nat))∧W'.cell? ⟨H.heap.size,1,none⟩=some (.int .i64 (c:Nat))∧W'.cell? ⟨H.heap.size,2,none⟩=some (.slice (some ⟨Q,0,none⟩) n n))∧W'.cell? ⟨H.heap.size+1,0,none⟩=some (.slice vo L vc)∧W'.cell? ⟨H.heap.size+1,1,none⟩=some (.int .u64 (tj:Nat))from
       have x:=(n6.all hd).all Z;have y:=(m6.all hd).all Z;⟨⟨x.c0,x.c1,x.c2⟩,y.c0,y.c1⟩))
      have bt:H.heap.size≠h:=fun e=>by have:=uH b0;have:=uH bq;omega
      have b5:H.heap.size+1≠h:=fun e=>by have:=uH b0;have:=uH bq;omega
      have a9:=aa (fun(W':World) (k:(W'.cell? ⟨H.heap.size,0,none⟩=some (.int .i64 (r:Nat))∧W'.cell? ⟨H.heap.size,1,none⟩=some (.int .i64 (c:Nat))∧W'.cell? ⟨H.heap.size,2,none⟩=some (.slice (some ⟨Q,0,none⟩) n n))∧W'.cell? ⟨H.heap.size+1,0,none⟩=some (.slice vo L vc)∧W'.cell? ⟨H.heap.size+1,1,none⟩=some (.int .u64 (tj:Nat)))=>(show((((W'.setCell ⟨h,0,none⟩ (.int .i64 r)).setCell ⟨h,1,none⟩ (.int .i64 c)).setCell ⟨h,2,none⟩ (.slice (some ⟨Q,0,none⟩) n n)).cell? ⟨H.heap.size,0,none⟩=some (.int .i64 (r:Nat))∧(((W'.setCell ⟨h,0,none⟩ (.int .i64 r)).setCell ⟨h,1,none⟩ (.int .i64 c)).setCell ⟨h,2,none⟩ (.slice (some ⟨Q,0,none⟩) n n)).cell? ⟨H.heap.size,1,none⟩=some (.int .i64 (c:Nat))∧(((W'.setCell ⟨h,0,none⟩ (.int .i64 r)).setCell ⟨h,1,none⟩ (.int .i64 c)).setCell ⟨h,2,none⟩ (.slice (some ⟨Q,0,none⟩) n n)).cell? ⟨H.heap.size,2,none⟩=some (.slice (some ⟨Q,0,none⟩) n n))∧(((W'.setCell ⟨h,0,none⟩ (.int .i64 r)).setCell ⟨h,1,none⟩ (.int .i64 c)).setCell ⟨h,2,none⟩ (.slice (some ⟨Q,0,none⟩) n n)).cell? ⟨H.heap.size+1,0,none⟩=some (.slice vo L vc)∧(((W'.setCell ⟨h,0,none⟩ (.int .i64 r)).setCell ⟨h,1,none⟩ (.int .i64 c)).setCell ⟨h,2,none⟩ (.slice (some ⟨Q,0,none⟩) n n)).cell? ⟨H.heap.size+1,1,none⟩=some (.int .u64 (tj:Nat))from
       ⟨⟨eI (u:=.int .i64 r) (u':=.int .i64 c) (u'':=.slice (some ⟨Q,0,none⟩) n n) bt k.1.1,eI bt k.1.2.1,eI bt k.1.2.2⟩,eI b5 k.2.1,eI b5 k.2.2⟩))
      have NB:=aa (n6.all hd);have MB:=aa (m6.all hd)
      generalize H.heap.size=nb at*
      clear p6 n6 m6 bm v6 hd bt b5 a7 b0 bq b4 ax cv cx HN
      refine wp_region_held_drew (S:=fun w'=>(w'.cell? ⟨nb,0,none⟩=some (.int .i64 (r:Nat))∧w'.cell? ⟨nb,1,none⟩=some (.int .i64 (c:Nat))∧w'.cell? ⟨nb,2,none⟩=some (.slice (some ⟨Q,0,none⟩) n n))∧w'.cell? ⟨nb+1,0,none⟩=some (.slice vo L vc)∧w'.cell? ⟨nb+1,1,none⟩=some (.int .u64 (tj:Nat))) (by kernel_rfl) ?_ (fun F=>?_)
      ·exact⟨⟨(uH NB).c0,(uH NB).c1,(uH NB).c2⟩,(uH MB).c0,(uH MB).c1⟩
      refine wpAnyH_take (i:=0) (oi:={dst:=some 75,op:=Op.load 24 (Operand.tmp 13),type:=24,pos:= "greatest.go:30",after:=#[],guard:=none}) (v:=Value.agg #[.int .i64 r,.int .i64 c,.slice (some ⟨Q,0,none⟩) n n]) rfl (by kernel_rfl) (by kernel_rfl) (by kernel_rfl) (fun _ _ _ h=>h) (Or.inl ⟨by rfl,?_⟩) (by assumption) ?_
      ·(intro w f;(try dsimp only at f);go_simp)
      simp only[Act.put,List.setIfInBounds_toArray,List.set_cons_zero,List.set_cons_succ]
      refine wpAnyH_take (i:=1) (oi:={dst:=some 76,op:=Op.move (Operand.tmp 9),type:=64,pos:= "greatest.go:30",after:=#[],guard:=none}) (v:=u9) rfl (by kernel_rfl) (by kernel_rfl) (by kernel_rfl) (fun _ _ _ h=>h) (Or.inl ⟨by rfl,?_⟩) (by assumption) ?_
      ·(intro w f;(try dsimp only at f);go_simp)
      simp only[Act.put,List.setIfInBounds_toArray,List.set_cons_zero,List.set_cons_succ]
      refine wpAnyH_take (i:=2) (oi:={dst:=some 77,op:=Op.load 105 (Operand.tmp 14),type:=105,pos:= "greatest.go:30",after:=#[],guard:=none}) (v:=Value.agg #[.slice vo L vc,.int .u64 (tj:Nat)]) rfl (by kernel_rfl) (by kernel_rfl) (by kernel_rfl) (fun _ _ _ h=>h) (Or.inl ⟨by rfl,?_⟩) (by assumption) ?_
      ·(intro w f;(try dsimp only at f);go_simp)
      simp only[Act.put,List.setIfInBounds_toArray,List.set_cons_zero,List.set_cons_succ]
      refine wpAnyH_ready (rs:=[3]) (by kernel_rfl) (by simp) ?_
      refine AllReadyH.cons (o:={dst:=some 78,op:=Op.buildSlice 64 1 #[(0,Operand.tmp 77)],type:=64,pos:= "greatest.go:30",after:=#[{on:=2,ground:=Ground.data}],guard:=none}) rfl (fun K0 z=>?_) AllReadyH.nil
      go_simp
      refine z.out _ _ ?_ (fun F=>?_)
      ·exact uH bz _ (ac _ _)
      clear z K0
      refine wpAnyH_ready (rs:=[4]) (by kernel_rfl) (by simp) ?_
      refine AllReadyH.cons (o:={dst:=some 79,op:=Op.call {callee:=Callee.builtin Builtin.append,args:=#[Operand.tmp 76,Operand.tmp 78],argTypes:=#[64,64]},type:=64,pos:= "greatest.go:30",after:=#[{on:=1,ground:=Ground.data},{on:=3,ground:=Ground.data}],guard:=none}) rfl (fun K0 z=>?_) AllReadyH.nil
      refine pz _ (by rfl) _ _ 64 (by rfl) _ _ _ (by rfl) (by rfl) (uH aI) ?_
      clear aI
      rintro v9 w9 ⟨c9,da,b8⟩
      have BX:=aa c9;have P9:=aa da
      clear c9 da
      refine z.out _ _ ?_ (fun F=>?_)
      ·exact b8
      have c3:=aa b8
      clear z K0 b8
      refine wpAnyH_ready (rs:=[5]) (by kernel_rfl) (by simp) ?_
      refine AllReadyH.cons (o:={dst:=none,op:=Op.store 24 (Operand.tmp 6) (Operand.tmp 75),type:=0,pos:= "greatest.go:30",after:=#[{on:=0,ground:=Ground.data},{on:=4,ground:=Ground.chain},{on:=0,ground:=Ground.phase},{on:=1,ground:=Ground.textOnly Departure.lateStores},{on:=2,ground:=Ground.textOnly Departure.lateStores},{on:=3,ground:=Ground.textOnly Departure.lateStores},{on:=4,ground:=Ground.textOnly Departure.lateStoresUnsure}],guard:=none}) rfl (fun K0 z=>?_) AllReadyH.nil
      have q0:=(uH BX).c0;have q1:=(uH BX).c1;have q2:=(uH BX).c2
      have f0:=(uH BX).free 0;have f1:=(uH BX).free 1;have f2:=(uH BX).free 2
      go_simp
      clear q0 q1 q2 f0 f1 f2
      refine z.out _ _ ?_ (fun F=>?_)
      ·exact uH a9 _ (uH c3)
      clear z K0
      refine wpAnyH_take (i:=6) (oi:={dst:=some 9,op:=Op.assign (Operand.tmp 79),type:=64,pos:= "greatest.go:30",after:=#[{on:=4,ground:=Ground.data},{on:=5,ground:=Ground.chain},{on:=0,ground:=Ground.phase},{on:=1,ground:=Ground.phase},{on:=2,ground:=Ground.phase},{on:=3,ground:=Ground.phase},{on:=4,ground:=Ground.phase},{on:=5,ground:=Ground.phase}],guard:=none}) (v:=v9) rfl (by kernel_rfl) (by kernel_rfl) (by kernel_rfl) (fun _ _ _ h=>h) (Or.inl ⟨by rfl,?_⟩) (by assumption) ?_
      ·(intro w f;(try dsimp only at f);go_simp)
      simp only[Act.put,List.setIfInBounds_toArray,List.set_cons_zero,List.set_cons_succ]
      refine wpAnyH_done (by kernel_rfl) ?_ _
      clear bz a9 BX c3 NB MB
      go_wp2_with fail
      go_round
      case rel=>
       refine⟨j+1,some ⟨Q,0,none⟩,n,R++[⟨vo,vc,vj,tj,0⟩],p2,by have:=(uH ck).2 ⟨X,D⟩;omega,rfl,by go_num,?_,?_,?_,by rw[uH cm,uH cp];exact P9⟩
       ·show(R++[_]).length=j+1
        rw[List.length_append,uH ae];rfl
       ·show∀k,k<j+1→_
        intro k Y
        rw[vJ R _ k (by rw[uH ae];exact Y)]
        by_cases g:k<R.length
        ·rw[if_pos g];exact uH bi k (by rw[←uH ae];exact g)
        ·rw[if_neg g,show k=j by have:=uH ae;omega,d4,d3];exact⟨rfl,rfl⟩
       ·show∀k,k<j+1→_
        intro k Y
        by_cases g:k<j
        ·exact uH hO k g
        ·rw[show k=j by omega];exact⟨uH cl,fun _=>uH HO⟩
      case measure=>first|(simp[intOf];done)|(simp[intOf];omega)
     ·have b6:Hid (ok=false):=aa (by
       cases Y:ok with
       |false=>rfl
       |true=>exact absurd (((uH bo).1 Y j X).2 D) (by rw[ho];decide))
      have aj:=ac H (.cells #[.int .i64 0,.int .i64 0,.slice none 0 0] 24)
      have am:=ac (H.alloc (.cells #[.int .i64 0,.int .i64 0,.slice none 0 0] 24)) (.cells #[.slice none 0 0,.int .u64 0] 105)
      replace O:=aa (((uH O).all aj).all am)
      clear aj am ho
      have d:=(uH O).st
      have s0:=d.res.c0;have s1:=d.res.c1;have s2:=d.res.c2
      have f0:=d.res.free 0;have f1:=d.res.free 1;have f2:=d.res.free 2
      have XP:=d.res.put (.int .i64 0) (.int .i64 0) (.slice none 0 0)
      have z0:=XP.c0;have z1:=XP.c1;have z2:=XP.c2
      have BP:=aa (aA d.bel (b:=w.heap.size+1) (by omega) (.int .i64 0) (.int .i64 0) (.slice none 0 0))
      clear XP d O
      go_wp2_with fail
      exact bodyPost_ret (v:=.tuple #[.agg #[.int .i64 0,.int .i64 0,.slice none 0 0],.slice none 0 0,.slice none 0 0,.int .i64 2]) (by simp[results,Tryz.results31,go_sem,z0,z1,z2]) rfl ⟨.inr ⟨uH b6,rfl⟩,uH BP⟩
    ·have ba:m=j+1:=by omega
     have c4:j=K:=by
      rcases Nat.lt_or_ge j K with q|q
      ·exact absurd ((uH ck).1 q).2 D
      ·omega
     have e1:((j:Int)==(r:Int)-1)=true:=by rw[beq_iff_eq];omega
     have e2:(j:Int)=(r:Int)-1:=by omega
     have e3:IntKind.i64.wrap ((r:Int)-1)=(j:Int):=(aR _ (by omega)).trans (by omega)
     have e4:(r:Int)-1=(j:Int):=by omega
     have bv:Hid (RJ m=wj):=aa (by rw[ba,uH cm];exact uH dB D)
     have bA:Hid (PL m=pj):=aa (by rw[ba];exact uH cp)
     have bb:Hid (ok=true):=aa ((uH bo).2 (fun k Y=>by
      by_cases g:k<j
      ·exact uH hO k g
      ·rw[show k=j by omega];exact⟨uH cl,fun q=>absurd q D⟩))
     rw[c4]at ae bi
     have y0:=(uH O).st.a.c0
     clear ba c4 e2 G5
     have d:=uH O
     have q0:=d.st.rb.c0;have q1:=d.st.rb.c1;have q2:=d.st.rb.c2
     have s0:=d.st.res.c0;have s1:=d.st.res.c1;have s2:=d.st.res.c2
     have f0:=d.st.res.free 0;have f1:=d.st.res.free 1;have f2:=d.st.res.free 2
     have XP:=d.st.res.put (.int .i64 r) (.int .i64 c) (.slice (some ⟨g,0,none⟩) n n)
     have z0:=XP.c0;have z1:=XP.c1;have z2:=XP.c2
     have BP:=aa (aA d.st.bel (b:=w.heap.size+1) (by omega) (.int .i64 r) (.int .i64 c) (.slice (some ⟨g,0,none⟩) n n))
     have QB:=aa (d.st.bits.putM d.st.res (.int .i64 r) (.int .i64 c) (.slice (some ⟨g,0,none⟩) n n))
     have QL:=aa (d.st.l.putQ d.st.res (.int .i64 r) (.int .i64 c) (.slice (some ⟨g,0,none⟩) n n))
     have b7:=aa d.hp
     have QP:=aa (((d.pl.other (p:=⟨w.heap.size+1,0,none⟩) (by have:=d.hp;show p2≠w.heap.size+1;omega) (.int .i64 r)).other (p:=⟨w.heap.size+1,1,none⟩) (by have:=d.hp;show p2≠w.heap.size+1;omega) (.int .i64 c)).other (p:=⟨w.heap.size+1,2,none⟩) (by have:=d.hp;show p2≠w.heap.size+1;omega) (.slice (some ⟨g,0,none⟩) n n))
     have HN:=aa d.st.new
     clear XP d O
     go_wp2_with fail
     exact bodyPost_ret (v:=.tuple #[.agg #[.int .i64 r,.int .i64 c,.slice (some ⟨g,0,none⟩) n n],.slice (some ⟨p2,0,none⟩) c c,_,.int .i64 0]) (by simp[results,Tryz.results31,go_sem,z0,z1,z2]) rfl ⟨.inl ⟨uH bb,_,_,_,_,R,rfl,by first|exact uH HN|(rw[uH bv];exact uH HN),by first|exact uH QB|(rw[uH bv];exact uH QB),by have:=uH b7;omega,by first|exact uH QP|(rw[uH bA];exact uH QP),uH QL,uH ae,uH bi⟩,uH BP⟩
   ·have b6:Hid (ok=false):=aa (by
     cases Y:ok with
     |false=>rfl
     |true=>exact absurd ((uH bo).1 Y j X).1 (by rw[bx];decide))
    clear G3 G4 G5
    have d:=(uH N).st
    have s0:=d.res.c0;have s1:=d.res.c1;have s2:=d.res.c2
    have f0:=d.res.free 0;have f1:=d.res.free 1;have f2:=d.res.free 2
    have XP:=d.res.put (.int .i64 0) (.int .i64 0) (.slice none 0 0)
    have z0:=XP.c0;have z1:=XP.c1;have z2:=XP.c2
    have BP:=aa (aA d.bel (b:=w.heap.size+1) (by omega) (.int .i64 0) (.int .i64 0) (.slice none 0 0))
    clear XP d N
    go_wp2_with fail
    exact bodyPost_ret (v:=.tuple #[.agg #[.int .i64 0,.int .i64 0,.slice none 0 0],.slice none 0 0,.slice none 0 0,.int .i64 2]) (by simp[results,Tryz.results31,go_sem,z0,z1,z2]) rfl ⟨.inr ⟨uH b6,rfl⟩,uH BP⟩
  ·have bc:j=K:=by have:=uH cf;omega
   have be:K=m:=by have:=uH cf;omega
   have ds:¬((j:Int)<(m:Int)):=by omega
   have bb:Hid (ok=true):=aa ((uH bo).2 (fun k Y=>uH hO k (by omega)))
   rw[show RJ j=RJ m by rw[bc,be],show PL j=PL m by rw[bc,be]]at N
   rw[bc]at ae bi
   have ee:=aa bc
   clear bc be
   have d:=uH N
   have q0:=d.st.rb.c0;have q1:=d.st.rb.c1;have q2:=d.st.rb.c2
   have s0:=d.st.res.c0;have s1:=d.st.res.c1;have s2:=d.st.res.c2
   have f0:=d.st.res.free 0;have f1:=d.st.res.free 1;have f2:=d.st.res.free 2
   have XP:=d.st.res.put (.int .i64 r) (.int .i64 c) (.slice ro n rc)
   have z0:=XP.c0;have z1:=XP.c1;have z2:=XP.c2
   have BP:=aa (aA d.st.bel (b:=w.heap.size+1) (by omega) (.int .i64 r) (.int .i64 c) (.slice ro n rc))
   have QB:=aa (d.st.bits.putM d.st.res (.int .i64 r) (.int .i64 c) (.slice ro n rc))
   have QL:=aa (d.st.l.putQ d.st.res (.int .i64 r) (.int .i64 c) (.slice ro n rc))
   have b7:=aa d.hp
   have QP:=aa (((d.pl.other (p:=⟨w.heap.size+1,0,none⟩) (by have:=d.hp;show pg≠w.heap.size+1;omega) (.int .i64 r)).other (p:=⟨w.heap.size+1,1,none⟩) (by have:=d.hp;show pg≠w.heap.size+1;omega) (.int .i64 c)).other (p:=⟨w.heap.size+1,2,none⟩) (by have:=d.hp;show pg≠w.heap.size+1;omega) (.slice ro n rc))
   have HN:=aa d.st.new
   clear XP d N
   go_wp2_with fail
   exact bodyPost_ret (v:=.tuple #[.agg #[.int .i64 r,.int .i64 c,.slice ro n rc],.slice (some ⟨pg,0,none⟩) c c,_,.int .i64 0]) (by simp[results,Tryz.results31,go_sem,z0,z1,z2]) rfl ⟨.inl ⟨uH bb,_,_,_,_,R,rfl,by first|exact uH HN|(rw[uH bv];exact uH HN),by first|exact uH QB|(rw[uH bv];exact uH QB),by have:=uH b7;omega,by first|exact uH QP|(rw[uH bA];exact uH QP),uH QL,uH ae,uH bi⟩,uH BP⟩
end Go.Proofs.YtnnfjeieennffaaGreatDoor
