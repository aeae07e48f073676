/- Part 49 of the texts. -/
import Derived.Test.YtmpkkhackbpflaaGreatDoorPartg48
set_option maxHeartbeats 4000000
set_option maxRecDepth 20000
namespace Go.Proofs.YtmpkkhackbpflaaGreatDoor
open Go.RowKit
theorem gy:bS 0 [4607182418800017408]=4607182418800017408∧bS 0 [4613937818241073152]=4613937818241073152∧ah 4607182418800017408=true∧ah 4613937818241073152=true∧eX 4607182418800017408=0∧eX 4613937818241073152=1∧oK 0 0 [4607182418800017408]=mV 4607182418800017408 4607182418800017408∧oK 1 0 [4613937818241073152]=mV 4609434218613702656 4609434218613702656∧fR 4607182418800017408=4607182418800017408∧fR 4609434218613702656=4609434218613702656∧xV 4607182418800017408 0=4607182418800017408∧xV 4609434218613702656 1=4613937818241073152∧(600≤fP 4607182418800017408∧fP 4607182418800017408≤1400)∧(600≤fP 4609434218613702656∧fP 4609434218613702656≤1400)∧cO 4607182418800017408 4613937818241073152<0∧¬cO 4607182418800017408 4607182418800017408<0:=by decide+kernel
theorem Mh:aX [4607182418800017408]=4607182418800017408:=by
 obtain⟨l,_,t,_,z,_,D,_,F,_,h,_,d,_⟩:=gy
 unfold aX
 rw[l,if_neg (by rw[t];decide),z,D,vL _ d.1 d.2,F,h]
theorem Fh:aX [4613937818241073152]=4613937818241073152:=by
 obtain⟨_,t,_,z,_,D,_,F,_,h,_,l,_,d,_⟩:=gy
 unfold aX
 rw[t,if_neg (by rw[z];decide),D,F,vL _ d.1 d.2,h,l]
theorem Fi:eK 1 2 [4607182418800017408,4613937818241073152] 0 0=4607182418800017408:=Mh
theorem JB:eK 1 2 [4607182418800017408,4613937818241073152] 0 1=4613937818241073152:=Fh
theorem wx(r c:Nat)(S:List Nat)(j t:Nat):ot r c S j (t+1)=if cO (eK r c S j (ot r c S j t)) (eK r c S j (j+t))<0 then j+t else ot r c S j t:=rfl
theorem Fj(r c:Nat)(S:List Nat)(j:Nat):ot r c S j 0=j:=rfl
theorem wy(r c:Nat)(S:List Nat)(j t:Nat):tW r c S j (t+1)=(tW r c S j t&&ah (eK r c S j (j+t))):=rfl
theorem Fk(r c:Nat)(S:List Nat)(j:Nat):tW r c S j 0=true:=rfl
theorem NJ:jB 1 2 [4607182418800017408,4613937818241073152] 0=1:=by
 obtain⟨_,_,_,_,_,_,_,_,_,_,_,_,_,_,d,h⟩:=gy
 unfold jB
 rw[show 2-0=1+1 from rfl,wx,wx 1 2 _ 0 0,Fj,Nat.add_zero,Fi,if_neg h,Fi,Nat.zero_add,JB,if_pos d]
theorem NM:Cg 1 2 [4607182418800017408,4613937818241073152] 0=true:=by
 unfold Cg
 rw[show 2-0=1+1 from rfl,wy,wy 1 2 _ 0 0,Fk,Nat.add_zero,Nat.zero_add,Fi,JB,gy.2.2.1,gy.2.2.2.1]
 rfl
theorem IB(r c:Nat)(S:List Nat)(h:r≤1):dN r c S 1=BJ r c S 0 (jB r c S 0):=by
 show mX r c S 0=_
 unfold mX
 rw[if_neg (by omega)]
 rfl
theorem IC(r c:Nat)(S:List Nat):Iw r c S 1=wL (List.range c) 0 (jB r c S 0):=rfl
theorem NK:jD 1 2 [4607182418800017408,4613937818241073152]= [4613937818241073152,4607182418800017408]:=by
 unfold jD
 rw[show min 2 1=1 from rfl,IB 1 2 _ (by decide),NJ]
 rfl
theorem NP:LU 1 2 [4607182418800017408,4613937818241073152]= [1,0]:=by
 unfold LU
 rw[show min 2 1=1 from rfl,IC,NJ]
 rfl
theorem ID(r c:Nat)(S:List Nat)(h:r≤1):Ix r c S 1=Cg r c S 0:=by
 show(true&&(Cg r c S 0&&(decide (r≤0+1)||_)))=_
 rw[decide_eq_true (show r≤0+1 by omega),Bool.true_or,Bool.and_true,Bool.true_and]
theorem IE(r c:Nat)(S:List Nat)(h:jA r c=0):Ci r c S=Ju r:=by
 unfold Ci
 rw[h]
 rfl
theorem NQ:Jx 1 2 [4607182418800017408,4613937818241073152]=true:=by
 have d:(eM (Ju 1)&&eM [4613937818241073152,4607182418800017408])=true:=by decide+kernel
 unfold Jx
 rw[show min 2 1=1 from rfl,ID 1 2 _ (by decide),NM,NK,IE 1 2 _ rfl,d]
 rfl
def Mi(w:World)(er:Int)(e:Ending)(w':World):Prop:=∃v u lo lc,e=.returned (.tuple #[v,u,.slice lo 0 lc,.int .i64 er])∧dc w.heap.size w' 0 0 [] v∧dc w.heap.size w' 0 0 [] u∧Below w.heap.size w w'
def yD(w:World)(r c:Nat)(S:List Nat)(e:Ending)(w':World):Prop:=∃v u lo lc,e=.returned (.tuple #[v,u,.slice lo c lc,.int .i64 0])∧dc w.heap.size w' r r (Ci r c S) v∧dc w.heap.size w' r c (jD r c S) u∧dJ w.heap.size lo (bs (LU r c S))∧iI w' lo lc (bs (LU r c S))∧Below w.heap.size w w'
theorem wz(w:World)
  (J:∀d h l (r c:Nat) S,Below w.heap.size w d→Mx d h l r c S→eM S=true→Jx r c S=true→Calls Tryz.prog 11 #[.agg #[.int .i64 r,.int .i64 c,.slice h S.length l]] d (yD d r c S)):
  ∀d,Below w.heap.size w d→Calls Tryz.prog 15 #[] d fun e t=>e=.returned (.bool true)∧Below d.heap.size d t:=by
 intro d G
 refine yC d (fun F h z L=>?_)
 have M:Mx F h 2 1 2 [4607182418800017408,4613937818241073152]:=⟨L,rfl,by decide,by decide⟩
 have N:eM [4607182418800017408,4613937818241073152]=true:=by
  show((true&&ah 4607182418800017408)&&ah 4613937818241073152)=true
  rw[gy.2.2.1,gy.2.2.2.1]
  rfl
 refine(J F h 2 1 2 _ (G.trans (z.mono G.size)) M N NQ).mono ?_
 rintro e X ⟨v,u,lo,O,rfl,⟨Q,T,rfl,_,_⟩,⟨U,V,rfl,_,H⟩,_,I,D⟩
 rw[NK]at H⊢
 rw[NP]at I
 exact⟨_,_,Q,_,T,U,V,lo,O,rfl,H,I,D⟩
attribute [local go_sem ↓] Go.wp_at_zero Go.wp_at_succ
theorem yF(ao:Option Addr)(c:Nat)(I:List Int)(w:World)(hI:ak w ao c I)(hn:I.length≤64):
  Calls Tryz.prog 215 #[.slice ao I.length c] w fun e F=>e=.returned (.bool (rW (co I)))∧Below w.heap.size w F:=by
 have U:=ac hI
 obtain⟨L,l⟩:∃L:Nat→Bool,L=fun j=>rW ((co I).drop j):=⟨_,rfl⟩
 have L0:rW (co I)=L 0:=by rw[l];rfl
 have LE:∀j,I.length≤j→L j=false:=fun j G=>by
  rw[l]
  show rW ((co I).drop j)=false
  rw[List.drop_eq_nil_of_le (by rw[gZ];exact G)]
  rfl
 have LS:∀j,j<I.length→L j=if fK (bN I j)=0 then L (j+1)else fS (bN I j):=fun j G=>by
  rw[l]
  show rW ((co I).drop j)=_
  rw[EZ (co I) (by rw[gZ];exact G),EY I j G]
 rw[L0]
 obtain⟨v,Y⟩:∃v,L 0=v:=⟨_,rfl⟩
 have HE:=ac LE;have HS:=ac LS
 obtain⟨n,D⟩:∃n,I.length=n:=⟨_,rfl⟩
 rw[D]at hn HE HS⊢
 rw[Y]
 have HN:=ac D
 have HV:=ac Y
 clear hI l L0 LE LS D Y
 go_enter Tryz.func215,Tryz.ntmps215
 go_wp2_with fail
 go_loopw[7] (fun i wr=>∃j:Nat,j≤n∧i=.int .i64 j∧Hid (L j=v)∧Hid (Below w.heap.size w wr)) (fun i _=>n-(intOf i).toNat)
 case atStart=>exact⟨0,Nat.zero_le _,rfl,HV,Below.refl _ _⟩
 case round=>
  obtain⟨j,G,rfl,l,t⟩:=hrel
  by_cases H:j<n
  ·have V:(j:Int)<(n:Int):=by omega
   obtain⟨b,ad,Z,hb,hc⟩:=((uH U).below t.out).ne (by rw[uH HN];omega)
   have h:=ac (hc j (by rw[uH HN];exact H))
   have J:=ac (fun F=>dj (bN I j) F ((uH U).lt j))
   have O:=ac (fun F=>fh (bN I j) F ((uH U).lt j))
   have Q:=ac (uH HS j H)
   subst Z
   clear hc
   by_cases M:fK (bN I j)=0
   ·have T:=ac (show L (j+1)=v from by have:=uH Q;rw[uH l,if_pos M]at this;exact this.symm)
    rw[M]at J
    clear Q M O
    generalize bN I j=x at*
    have z:=uH h
    go_wp2_with fail
    refine(uH J _).mono ?_
    rintro e w2 ⟨rfl,d⟩
    have N:Hid (Below w.heap.size w w2):=t.out.trans (d.mono t.out.size)
    clear J d h z t
    go_wp2_with fail
    go_round
    case rel=>exact⟨j+1,by omega,by go_num,T,N⟩
    case measure=>simp[intOf];omega
   ·have T:fS (bN I j)=v:=by have:=uH Q;rw[uH l,if_neg M]at this;exact this.symm
    have aa:(fK (bN I j)==0)=false:=by rw[beq_eq_false_iff_ne];exact M
    rw[T]at O
    clear Q T
    generalize fK (bN I j)=kd at*
    generalize bN I j=x at*
    have z:=uH h
    go_wp2_with fail
    refine(uH J _).mono ?_
    rintro e w2 ⟨rfl,d⟩
    have N:Hid (Below w.heap.size w w2):=t.out.trans (d.mono t.out.size)
    clear J d h z t
    go_wp2_with fail
    refine(uH O _).mono ?_
    rintro e w3 ⟨rfl,d⟩
    have B3:Hid (Below w.heap.size w w3):=N.out.trans (d.mono N.out.size)
    clear O d N
    go_wp2_with fail
    exact bodyPost_ret (v:=.bool v) (by simp[results,Tryz.results215,go_sem]) rfl ⟨rfl,B3.out⟩
  ·have X:v=false:=by have:=uH HE j (by omega);rw[uH l]at this;exact this
   subst X
   have V:(n:Int)≤(j:Int):=by omega
   go_wp2_with fail
   exact bodyPost_ret (v:=.bool false) (by simp[results,Tryz.results215,go_sem]) rfl ⟨rfl,t.out⟩
theorem Fl(H:Option Addr)(n c m o:Nat)(s:Bool)(w:World)(h:(s=true∧o=m)∨(s=false∧o=fN m))(L:m<18446744073709551616)
  (M:Calls Tryz.prog 156 #[.slice H n c] w fun e D=>e=.returned (.tuple #[.int .u64 (m:Nat),.int .i64 0])∧Below w.heap.size w D)
  (N:∀z,Below w.heap.size w z→Calls Tryz.prog 215 #[.slice H n c] z fun e D=>e=.returned (.bool s)∧Below z.heap.size z D):
  Calls Tryz.prog 189 #[.slice H n c] w fun e z=>e=.returned (.int .u64 (o:Nat))∧Below w.heap.size w z:=by
 have F:=ac M;have G:=ac N
 have I:=ac (fun z=>ig m z L)
 clear M N L
 rcases h with⟨rfl,rfl⟩|⟨rfl,rfl⟩
 ·clear I
  go_enter Tryz.func189,Tryz.ntmps189
  go_wp2_with fail
  refine Calls.mono (uH F) ?_
  rintro e O ⟨rfl,d⟩
  have t:=ac d
  clear F d
  go_wp2_with fail
  refine(uH G _ (uH t)).mono ?_
  rintro e Q ⟨rfl,l⟩
  have J:=ac ((uH t).trans (l.mono (uH t).size))
  clear G l t
  go_wp2
  go_ret
  exact⟨rfl,uH J⟩
 ·generalize fN m=o at*
  go_enter Tryz.func189,Tryz.ntmps189
  go_wp2_with fail
  refine Calls.mono (uH F) ?_
  rintro e O ⟨rfl,d⟩
  have t:=ac d
  clear F d
  go_wp2_with fail
  refine(uH G _ (uH t)).mono ?_
  rintro e Q ⟨rfl,l⟩
  have J:=ac ((uH t).trans (l.mono (uH t).size))
  clear G l t
  go_wp2_with fail
  refine(uH I _).mono ?_
  rintro e T ⟨rfl,rfl⟩
  clear I
  go_wp2
  go_ret
  exact⟨rfl,uH J⟩
theorem se(d:Option Addr)(c:Nat)(I:List Int)(w:World)(l:ak w d c I)(t:I.length≤64)(D:c8 w):
  Calls Tryz.prog 189 #[.slice d I.length c] w fun e h=>e=.returned (.int .u64 ((if rW (co I)=true then aX (co I)else fN (aX (co I)):Nat):Nat))∧Below w.heap.size w h:=by
 have z:=vS d c I w l t D
 rw[tw]at z
 refine Fl d I.length c (aX (co I)) _ (rW (co I)) w ?_ (lu _) z (fun h F=>yF d c I h (l.below F) t)
 cases rW (co I)
 ·exact .inr ⟨rfl,if_neg (by decide)⟩
 ·exact .inl ⟨rfl,if_pos rfl⟩
theorem qm(x:Nat)(w:World):
  Calls Tryz.prog 188 #[.int .u64 x] w fun e d=>e=.returned (.int .u64 (0:Nat))∧Below w.heap.size w d:=by
 go_enter Tryz.func188,Tryz.ntmps188
 go_wp2
 go_ret
 exact⟨rfl,Below.refl _ _⟩
theorem yG(x d g:Nat)(w:World)(l:x<18446744073709551616)(t:d<18446744073709551616)(F:w.cell? ⟨g,0,none⟩=some (.int .u64 (d:Nat)))(z:c8 w):
  Calls Tryz.prog 190 #[.int .u64 x,.pointer (some ⟨g,0,none⟩)] w fun e D=>e=.returned (.int .u64 (dV x d:Nat))∧Below w.heap.size w D:=by
 have K:=ac (vX x d w l t z)
 generalize dV x d=o at*
 clear l t z
 go_enter Tryz.func190,Tryz.ntmps190
 go_wp2_with fail
 refine Calls.mono (uH K) ?_
 rintro e G ⟨rfl,h⟩
 clear K
 go_wp2
 go_ret
 exact⟨rfl,h⟩
def IF(f:Nat→Nat)(k:Nat):List Nat:=4607182418800017408::q8 f k
theorem Ad(f:Nat→Nat)(k:Nat):(IF f k).length=k+1:=by
 show(q8 f k).length+1=_
 rw[oP]
theorem Fm(f:Nat→Nat)(k:Nat):IF f (k+1)=IF f k++[f k]:=by
 show 4607182418800017408::q8 f (k+1)=(4607182418800017408::q8 f k)++[f k]
 rw[vU]
 rfl
theorem lF(fn:Nat)(F:Array Value)(ao:Option Addr)(c:Nat)(J:List Int)(f:Nat→Nat)(w:World)
  (aD:∀G w,(callFunc fn G).run Tryz.prog w=.ok (.enter fn G) w) (hJ:ak w ao c J) (hn:J.length≤64) (hf:∀k,k<J.length→f k<18446744073709551616)
  (t:∀D k,Below w.heap.size w D→k<J.length→Calls Tryz.prog fn (#[.int .u64 (bN J k:Nat)]++F) D fun e ae=>e=.returned (.int .u64 (f k:Nat))∧Below D.heap.size D ae):
  Calls Tryz.prog 187 #[.slice ao J.length c,.func (.func fn) #[] F] w fun e D=>∃bo d,e=.returned (.slice bo (J.length+1:Nat) d)∧dJ w.heap.size bo (bs (IF f J.length))∧ak D bo d (bs (IF f J.length))∧Below w.heap.size w D:=by
 obtain⟨i0,ap,aq,ax,ay⟩:=info_parts qe
 have HS:=ac t;have HF:=ac hf;have HJ:=ac hJ
 obtain⟨n,U⟩:∃n,J.length=n:=⟨_,rfl⟩
 rw[U]at hn HS HF⊢
 have HN:=ac U
 obtain⟨m,hm⟩:∃m,n+1=m:=⟨_,rfl⟩
 have aI:(1:Int)+(n:Int)=(m:Int):=by omega
 obtain⟨w1,aa,I,ad⟩:=run_make_own (P:=Tryz.prog) w w.heap.size 23 28 i0 (.int .u64 0) 1 Tryz.underlying23 ap aq ax .i64 .i64 m (by rw[ay];omega) (by unfold maxLen;omega) (by simp)
 have B1:Below w.heap.size w w1:=(Below.refl w.heap.size w).grown ad (by simp) (fun g hg=>by cases hg)
 have O1:gL w.heap.size w1 (.slice (some ⟨w.heap.size,0,none⟩) 0 m) []:=⟨by simpa using I,by intro x hx;cases hx⟩
 generalize Value.slice (some ⟨w.heap.size,0,none⟩) 0 m=v1 at aa O1
 obtain⟨v2,w2,L,l,M,_,_⟩:=O1.push 4607182418800017408 (by decide) (by simp) B1.size 23
 have z:=ac (show(Builtin.append_ #[23,23] 23 #[v1,.slice (some ⟨w1.heap.size,0,none⟩) 1 1]).run Tryz.prog (w1.alloc (.cells #[.int .u64 4607182418800017408] 28))=.ok v2 w2 from L)
 have O2:=ac (show gL w.heap.size w2 v2 (IF f 0)from l)
 have X:=ac (B1.trans M)
 clear I ad O1 B1 L l M t hf hJ U
 go_enter Tryz.func187,Tryz.ntmps187
 go_wp2_with(at_builtin;refine fU _ rfl _ _ 23 rfl _ _ _ _ rfl rfl (uH z) ?_;clear z)
 clear aa
 go_loopw[5,17] (fun v i wr=>∃k:Nat,k≤n∧i=.int .i64 k∧Hid (gL w.heap.size wr v (IF f k))∧Hid (Below w.heap.size w wr)) (fun _ i _=>n-(intOf i).toNat)
 case atStart=>exact⟨0,Nat.zero_le _,rfl,O2,X⟩
 case round=>
  clear O2 X
  obtain⟨k,hk,rfl,hO,Y⟩:=hrel
  by_cases T:k<n
  ·have a0:(k:Int)<(n:Int):=by omega
   obtain⟨b,a1,az,hb,hc⟩:=((uH HJ).below Y.out).ne (by rw[uH HN];omega)
   have ai:=hc k (by rw[uH HN];exact T)
   have C:=ac (fun D h=>uH HS D k h T)
   have ho:=ac (uH HF k T)
   have eo:=ac (show f k=f k from rfl)
   have H:=ac (show(IF f k).length≤1000000 from by rw[Ad];omega)
   subst az
   clear hc
   obtain⟨o,eo⟩:∃o,f k=o:=⟨_,rfl⟩
   rw[eo]at C ho
   have eV:=ac eo
   clear eo
   generalize bN J k=x at*
   go_wp2_with fail
   refine(uH C _ Y.out).mono ?_
   rintro e w2 ⟨rfl,V⟩
   have l:=(uH hO).below V
   have X:=Y.out.trans (V.mono Y.out.size)
   obtain⟨v3,w3,N,O,Q,_,_⟩:=l.push o (uH ho) (uH H) X.size 23
   have z:=ac N
   have O3:=ac (show gL w.heap.size w3 v3 (IF f (k+1))from by
    rw[Fm,uH eV];exact O)
   have B3:=ac (X.trans Q)
   clear V C hO Y l X N O Q ho eV H ai
   go_wp2_with(at_builtin;refine fU _ rfl _ _ 23 rfl _ _ _ _ rfl rfl (uH z) ?_;clear z)
   go_round
   case rel=>exact⟨k+1,by omega,by go_num,O3,B3⟩
   case measure=>simp[intOf];omega
  ·have am:k=n:=by omega
   subst am
   obtain⟨b1,d1,e1,q1⟩:=(uH hO).bits
   rw[Ad,hm]at e1
   subst e1
   have Z:=ac (uH hO).newB
   have Q1:=ac q1
   clear q1 hO
   go_wp2_with fail
   exact bodyPost_ret (v:=.slice b1 m d1) (by simp[results,Tryz.results187,go_sem]) rfl ⟨b1,d1,by rw[hm],uH Z,uH Q1,Y.out⟩
theorem BQ(t:Option Addr)(n c:Nat)(w:World)(H:1≤n)(I:n≤64)
  (z:Calls Tryz.prog 44 #[.slice t n c] w fun e d=>e=.returned (.bool false)∧Below w.heap.size w d):
  Calls Tryz.prog 157 #[.slice t n c] w fun e F=>e=.returned (.tuple #[.slice none 0 0,.int .u64 0,.int .u64 0,.int .i64 4])∧Below w.heap.size w F:=by
 have D:=ac z
 have G:(n:Int)≤64:=by omega
 have h:¬(n:Int)=0:=by omega
 have J:((n:Int)==0)=false:=by rw[beq_eq_false_iff_ne];exact h
 clear z
 go_enter Tryz.func157,Tryz.ntmps157
 go_wp2_with fail
 refine Calls.mono (uH D) ?_
 rintro e L ⟨rfl,l⟩
 clear D
 go_wp2
 exact bodyPost_ret (v:=.tuple #[.slice none 0 0,.int .u64 0,.int .u64 0,.int .i64 4]) (by simp[results,Tryz.results157,go_sem]) rfl ⟨rfl,l⟩
theorem BR(w:World)(d:Nat):(w.alloc (.cells #[.int .u64 (d:Nat)] 28)).cell? ⟨w.heap.size,0,none⟩=some (.int .u64 (d:Nat)):=by
 rw[cell_of_row _ w.heap.size 0 _ _ _ (heap_alloc_new w (.cells #[.int .u64 (d:Nat)] 28))]
 rfl
theorem sf(w:World)(h d:Nat)(l:h<18446744073709551616)(F:d<18446744073709551616):
  ak ((w.alloc (.cells #[.int .u64 (d:Nat)] 28)).alloc (.cells #[.int .u64 (h:Nat),.int .u64 (d:Nat)] 28)) (some ⟨w.heap.size+1,0,none⟩) 2 [(h:Int),(d:Int)]∧Below w.heap.size w ((w.alloc (.cells #[.int .u64 (d:Nat)] 28)).alloc (.cells #[.int .u64 (h:Nat),.int .u64 (d:Nat)] 28))∧((w.alloc (.cells #[.int .u64 (d:Nat)] 28)).alloc (.cells #[.int .u64 (h:Nat),.int .u64 (d:Nat)] 28)).cell? ⟨w.heap.size,0,none⟩=some (.int .u64 (d:Nat)):=by
 have t:=ww (w.alloc (.cells #[.int .u64 (d:Nat)] 28)) h d l F
 rw[aH]at t
 have z:=ag w (.cells #[.int .u64 (d:Nat)] 28)
 have D:=ag (w.alloc (.cells #[.int .u64 (d:Nat)] 28)) (.cells #[.int .u64 (h:Nat),.int .u64 (d:Nat)] 28)
 exact⟨t,z.trans (D.mono z.size),av (BR w d) D⟩
theorem wA(b l c a:Nat)(w:World)(hc:1≤c)
  (J:w.cell? ⟨b,l,none⟩=some (.int .u64 (a:Nat)))
  (L:Calls Tryz.prog 44 #[.slice (some ⟨b,l,none⟩) 1 c] w fun e d=>e=.returned (.bool true)∧Below w.heap.size w d)
  (M:∀h,Below w.heap.size w h→Calls Tryz.prog 67 #[.slice (some ⟨b,l,none⟩) 0 0] h fun e d=>e=.returned (.int .u64 (0:Nat))∧Below h.heap.size h d)
  (S:List Nat)
  (N:∀h,Below w.heap.size w h→Calls Tryz.prog 187 #[.slice (some ⟨b,l,none⟩) 0 0,.func (.func 188) #[] #[]] h fun e d=>∃t z,e=.returned (.slice t 1 z)∧dJ h.heap.size t (bs S)∧ak d t z (bs S)∧Below h.heap.size h d):
  Calls Tryz.prog 157 #[.slice (some ⟨b,l,none⟩) 1 c] w fun e h=>∃t z,e=.returned (.tuple #[.slice t 1 z,.int .u64 0,.int .u64 (a:Nat),.int .i64 0])∧dJ w.heap.size t (bs S)∧ak h t z (bs S)∧Below w.heap.size w h:=by
 have O:=ac L;have Q:=ac M;have T:=ac N
 have Y:(1:Int)≤(c:Int):=by omega
 clear L M N
 go_enter Tryz.func157,Tryz.ntmps157
 go_wp2_with fail
 refine Calls.mono (uH O) ?_
 rintro e w1 ⟨rfl,D⟩
 have Z:=av J D
 have U:=ac D
 clear O J D
 go_wp2_with fail
 go_quiet (fail)
 clear Z
 go_wp2_with fail
 have I:=ac (below_drewN (uH U) nq)
 clear U
 refine(uH Q _ (uH I)).mono ?_
 rintro e w2 ⟨rfl,G⟩
 have F:=ac ((uH I).trans (G.mono (uH I).size))
 clear Q I G
 go_wp2_with fail
 refine(uH T _ (uH F)).mono ?_
 rintro e w3 ⟨t,z,rfl,V,X,H⟩
 have B4:=ac ((uH F).trans (H.mono (uH F).size))
 have HN:=ac (dJ.least V (uH F).size)
 have HS:=ac X
 clear T F H V X
 go_wp2
 exact bodyPost_ret (v:=.tuple #[.slice t 1 z,.int .u64 0,.int .u64 (a:Nat),.int .i64 0]) (by simp[results,Tryz.results157,go_sem]) rfl ⟨t,z,rfl,uH HN,uH HS,uH B4⟩
theorem yH(b l n c a:Nat)(w:World)(h1:2≤n)(h2:n≤64)(hc:n≤c)
  (L:w.cell? ⟨b,l,none⟩=some (.int .u64 (a:Nat)))
  (M:Calls Tryz.prog 44 #[.slice (some ⟨b,l,none⟩) n c] w fun e d=>e=.returned (.bool true)∧Below w.heap.size w d)
  (N:∀h,Below w.heap.size w h→Calls Tryz.prog 67 #[.slice (some ⟨b,l+1,none⟩) (n-1) (n-1)] h fun e d=>e=.returned (.int .u64 (0:Nat))∧Below h.heap.size h d)
  (S:List Nat)
  (O:∀h,Below w.heap.size w h→Calls Tryz.prog 187 #[.slice (some ⟨b,l+1,none⟩) (n-1) (n-1),.func (.func 188) #[] #[]] h fun e d=>∃t z,e=.returned (.slice t n z)∧dJ h.heap.size t (bs S)∧ak d t z (bs S)∧Below h.heap.size h d):
  Calls Tryz.prog 157 #[.slice (some ⟨b,l,none⟩) n c] w fun e h=>∃t z,e=.returned (.tuple #[.slice t n z,.int .u64 0,.int .u64 (a:Nat),.int .i64 0])∧dJ w.heap.size t (bs S)∧ak h t z (bs S)∧Below w.heap.size w h:=by
 have Q:=ac M;have T:=ac N;have U:=ac O
 have Z:(n:Int)≤64:=by omega
 have aa:(2:Int)≤(n:Int):=by omega
 have ad:(n:Int)≤(c:Int):=by omega
 have J:¬(n:Int)=0:=by omega
 have e0:((n:Int)==0)=false:=by rw[beq_eq_false_iff_ne];exact J
 have e1:decide ((64:Int)<(n:Int))=false:=decide_eq_false (by omega)
 clear M N O
 go_enter Tryz.func157,Tryz.ntmps157
 go_wp2_with fail
 refine Calls.mono (uH Q) ?_
 rintro e w1 ⟨rfl,D⟩
 have c0:=av L D
 have V:=ac D
 clear Q L D
 go_wp2_with fail
 go_quiet (fail)
 clear c0
 go_wp2_with fail
 have I:=ac (below_drewN (uH V) nq)
 clear V
 refine(uH T _ (uH I)).mono ?_
 rintro e w2 ⟨rfl,G⟩
 have F:=ac ((uH I).trans (G.mono (uH I).size))
 clear T I G
 go_wp2_with fail
 refine(uH U _ (uH F)).mono ?_
 rintro e w3 ⟨t,z,rfl,X,Y,H⟩
 have B4:=ac ((uH F).trans (H.mono (uH F).size))
 have HN:=ac (dJ.least X (uH F).size)
 have HS:=ac Y
 clear U F H X Y
 go_wp2
 exact bodyPost_ret (v:=.tuple #[.slice t n z,.int .u64 0,.int .u64 (a:Nat),.int .i64 0]) (by simp[results,Tryz.results157,go_sem]) rfl ⟨t,z,rfl,uH HN,uH HS,uH B4⟩
theorem wB(b D n c a m G d:Nat)(w:World)(h1:2≤n)(h2:n≤64)(hc:n≤c)(hm:¬m=0)(H:G<18446744073709551616)(T:d<18446744073709551616)
  (U:w.cell? ⟨b,D,none⟩=some (.int .u64 (a:Nat)))
  (V:Calls Tryz.prog 44 #[.slice (some ⟨b,D,none⟩) n c] w fun e t=>e=.returned (.bool true)∧Below w.heap.size w t)
  (X:∀l,Below w.heap.size w l→Calls Tryz.prog 67 #[.slice (some ⟨b,D+1,none⟩) (n-1) (n-1)] l fun e t=>e=.returned (.int .u64 (m:Nat))∧Below l.heap.size l t)
  (Y:∀l,Below w.heap.size w l→Calls Tryz.prog 189 #[.slice (some ⟨b,D,none⟩) n c] l fun e t=>e=.returned (.int .u64 (G:Nat))∧Below l.heap.size l t)
  (Z:∀l,Below w.heap.size w l→Calls Tryz.prog 168 #[.int .u64 a,.int .u64 G] l fun e t=>e=.returned (.int .u64 (d:Nat))∧Below l.heap.size l t)
  (C6:∀l ao,Below w.heap.size w l→ak l ao 2 [(G:Int),(d:Int)]→Calls Tryz.prog 44 #[.slice ao 2 2] l fun e t=>e=.returned (.bool false)∧Below l.heap.size l t):
  Calls Tryz.prog 157 #[.slice (some ⟨b,D,none⟩) n c] w fun e l=>e=.returned (.tuple #[.slice none 0 0,.int .u64 0,.int .u64 0,.int .i64 2])∧Below w.heap.size w l:=by
 have K1:=ac V;have K2:=ac X;have K4:=ac Y;have K5:=ac Z;have K6:=ac C6
 have aa:(n:Int)≤64:=by omega
 have ad:(2:Int)≤(n:Int):=by omega
 have ae:(n:Int)≤(c:Int):=by omega
 have O:¬(n:Int)=0:=by omega
 have e0:((n:Int)==0)=false:=by rw[beq_eq_false_iff_ne];exact O
 have e1:decide ((64:Int)<(n:Int))=false:=decide_eq_false (by omega)
 have em:((m:Int)==0)=false:=by rw[beq_eq_false_iff_ne];omega
 have I:=ac H;have HD:=ac T
 clear H T
 clear V X Y Z C6
 go_enter Tryz.func157,Tryz.ntmps157
 go_wp2_with fail
 refine Calls.mono (uH K1) ?_
 rintro e w1 ⟨rfl,z⟩
 have c0:=av U z
 have B1:=ac z
 clear K1 U z
 go_wp2_with fail
 go_quiet (fail)
 clear c0
 go_wp2_with fail
 have J:=ac (below_drewN (uH B1) nq)
 clear B1
 refine(uH K2 _ (uH J)).mono ?_
 rintro e w2 ⟨rfl,F⟩
 have L:=ac ((uH J).trans (F.mono (uH J).size))
 clear K2 J F
 go_wp2_with fail
 refine(uH K4 _ (uH L)).mono ?_
 rintro e w3 ⟨rfl,h⟩
 have M:=ac ((uH L).trans (h.mono (uH L).size))
 clear K4 L h
 go_wp2_with fail
 refine(uH K5 _ (uH M)).mono ?_
 rintro e w4 ⟨rfl,h⟩
 have Q:=ac ((uH M).trans (h.mono (uH M).size))
 clear K5 M h
 go_wp2_with fail
 obtain⟨z,F,h⟩:=sf w4 G d (uH I) (uH HD)
 have N:=ac ((uH Q).trans (F.mono (uH Q).size))
 have CB:=ac h
 refine(uH K6 _ _ (uH N) z).mono ?_
 clear z F h
 rintro e w5 ⟨rfl,h⟩
 have B7:=ac ((uH N).trans (h.mono (uH N).size))
 have CD:=ac (av (uH CB) h)
 clear K6 Q N CB h I HD
 go_wp2
 exact bodyPost_ret (v:=.tuple #[.slice none 0 0,.int .u64 0,.int .u64 0,.int .i64 2]) (by simp[results,Tryz.results157,go_sem]) rfl ⟨rfl,uH B7⟩
theorem Fn(b D n c a m I d u t:Nat)(w:World)(h1:2≤n)(h2:n≤64)(hc:n≤c)(hm:¬m=0)(L:I<18446744073709551616)(hd:d<18446744073709551616)
  (hx:w.cell? ⟨b,D,none⟩=some (.int .u64 (a:Nat)))
  (C1:Calls Tryz.prog 44 #[.slice (some ⟨b,D,none⟩) n c] w fun e z=>e=.returned (.bool true)∧Below w.heap.size w z)
  (C2:∀l,Below w.heap.size w l→Calls Tryz.prog 67 #[.slice (some ⟨b,D+1,none⟩) (n-1) (n-1)] l fun e z=>e=.returned (.int .u64 (m:Nat))∧Below l.heap.size l z)
  (C4:∀l,Below w.heap.size w l→Calls Tryz.prog 189 #[.slice (some ⟨b,D,none⟩) n c] l fun e z=>e=.returned (.int .u64 (I:Nat))∧Below l.heap.size l z)
  (C5:∀l,Below w.heap.size w l→Calls Tryz.prog 168 #[.int .u64 a,.int .u64 I] l fun e z=>e=.returned (.int .u64 (d:Nat))∧Below l.heap.size l z)
  (C6:∀l ao,Below w.heap.size w l→ak l ao 2 [(I:Int),(d:Int)]→Calls Tryz.prog 44 #[.slice ao 2 2] l fun e z=>e=.returned (.bool true)∧Below l.heap.size l z)
  (S:List Nat)
  (C7:∀l g,Below w.heap.size w l→l.cell? ⟨g,0,none⟩=some (.int .u64 (d:Nat))→Calls Tryz.prog 187 #[.slice (some ⟨b,D+1,none⟩) (n-1) (n-1),.func (.func 190) #[] #[.pointer (some ⟨g,0,none⟩)]] l fun e z=>∃H J,e=.returned (.slice H n J)∧dJ l.heap.size H (bs S)∧ak z H J (bs S)∧Below l.heap.size l z)
  (C8:∀l,Below w.heap.size w l→Calls Tryz.prog 168 #[.int .u64 I,.int .u64 a] l fun e z=>e=.returned (.int .u64 (u:Nat))∧Below l.heap.size l z)
  (C9:∀l,Below w.heap.size w l→Calls Tryz.prog 170 #[.int .u64 u,.int .u64 I] l fun e z=>e=.returned (.int .u64 (t:Nat))∧Below l.heap.size l z):
  Calls Tryz.prog 157 #[.slice (some ⟨b,D,none⟩) n c] w fun e l=>∃H J,e=.returned (.tuple #[.slice H n J,.int .u64 (t:Nat),.int .u64 (I:Nat),.int .i64 0])∧dJ w.heap.size H (bs S)∧ak l H J (bs S)∧Below w.heap.size w l:=by
 have K1:=ac C1;have K2:=ac C2;have K4:=ac C4;have K5:=ac C5;have K6:=ac C6;have K7:=ac C7;have K8:=ac C8;have K9:=ac C9
 have aa:(n:Int)≤64:=by omega
 have ad:(2:Int)≤(n:Int):=by omega
 have ae:(n:Int)≤(c:Int):=by omega
 have Z:¬(n:Int)=0:=by omega
 have e0:((n:Int)==0)=false:=by rw[beq_eq_false_iff_ne];exact Z
 have e1:decide ((64:Int)<(n:Int))=false:=decide_eq_false (by omega)
 have em:((m:Int)==0)=false:=by rw[beq_eq_false_iff_ne];omega
 have M:=ac L;have HD:=ac hd
 clear L hd
 clear C1 C2 C4 C5 C6 C7 C8 C9
 go_enter Tryz.func157,Tryz.ntmps157
 go_wp2_with fail
 refine Calls.mono (uH K1) ?_
 rintro e w1 ⟨rfl,F⟩
 have c0:=av hx F
 have B1:=ac F
 clear K1 hx F
 go_wp2_with fail
 go_quiet (fail)
 clear c0
 go_wp2_with fail
 have Q:=ac (below_drewN (uH B1) nq)
 clear B1
 refine(uH K2 _ (uH Q)).mono ?_
 rintro e w2 ⟨rfl,G⟩
 have T:=ac ((uH Q).trans (G.mono (uH Q).size))
 clear K2 Q G
 go_wp2_with fail
 refine(uH K4 _ (uH T)).mono ?_
 rintro e w3 ⟨rfl,h⟩
 have U:=ac ((uH T).trans (h.mono (uH T).size))
 clear K4 T h
 go_wp2_with fail
 refine(uH K5 _ (uH U)).mono ?_
 rintro e w4 ⟨rfl,h⟩
 have B5:=ac ((uH U).trans (h.mono (uH U).size))
 clear K5 U h
 go_wp2_with fail
 obtain⟨F,G,h⟩:=sf w4 I d (uH M) (uH HD)
 have V:=ac ((uH B5).trans (G.mono (uH B5).size))
 have CB:=ac h
 refine(uH K6 _ _ (uH V) F).mono ?_
 clear F G h
 rintro e w5 ⟨rfl,h⟩
 have N:=ac ((uH V).trans (h.mono (uH V).size))
 have CD:=ac (av (uH CB) h)
 clear K6 B5 V CB h M HD
 go_wp2_with fail
 refine(uH K7 _ _ (uH N) (uH CD)).mono ?_
 rintro e w6 ⟨H,J,rfl,hn,hs,h⟩
 have X:=ac ((uH N).trans (h.mono (uH N).size))
 have HN:=ac (dJ.least hn (uH N).size)
 have O:=ac hs
 clear K7 N h hn hs CD
 go_wp2_with fail
 refine(uH K8 _ (uH X)).mono ?_
 rintro e w7 ⟨rfl,h⟩
 have Y:=ac ((uH X).trans (h.mono (uH X).size))
 replace O:=ac ((uH O).below h)
 clear K8 X h
 go_wp2_with fail
 refine(uH K9 _ (uH Y)).mono ?_
 rintro e w8 ⟨rfl,h⟩
 have BA:=ac ((uH Y).trans (h.mono (uH Y).size))
 replace O:=ac ((uH O).below h)
 clear K9 Y h
 go_wp2
 exact bodyPost_ret (v:=.tuple #[.slice H n J,.int .u64 (t:Nat),.int .u64 (I:Nat),.int .i64 0]) (by simp[results,Tryz.results157,go_sem]) rfl ⟨H,J,rfl,uH HN,uH O,uH BA⟩
end Go.Proofs.YtmpkkhackbpflaaGreatDoor
namespace Go.Proofs.YtmpkkhackbpflaaGreatDoor
open Go.RowKit
theorem yI{l:List Nat}(h:∀x∈l,ah x=true):bS 0 l=0↔kP l=true:=by
 obtain⟨F,G,z,d⟩:=mu l 0 (by decide) h
 constructor
 ·intro H
  exact List.all_eq_true.2 (fun x t=>decide_eq_true ((cP x).2 (by have:=z x t;omega)))
 ·intro D
  rcases d with d|⟨x,t,d⟩
  ·exact d
  ·rw[←d]
   exact(cP x).1 (vW D x t)
theorem qp(I:List Int)(k:Nat):co (I.drop k)=(co I).drop k:=by
 unfold co
 rw[List.map_drop]
theorem nQ{w:World}{b d c:Nat}{I:List Int}(h:ak w (some ⟨b,d,none⟩) c I)(J:2≤I.length):ak w (some ⟨b,d+1,none⟩) (I.length-1) (I.drop 1):=by
 obtain⟨L,t,e,G,H⟩:=h.ne (by omega)
 simp only[Option.some.injEq,Addr.mk.injEq]at e
 obtain⟨rfl,rfl,_⟩:=e
 refine⟨by rw[List.length_drop];omega,fun x z=>h.2.1 x (List.mem_of_mem_drop z),.inr ⟨b,d+1,rfl,G,fun i D=>?_⟩⟩
 have l:1+i<I.length:=by rw[List.length_drop]at D;omega
 have F:=H (1+i) l
 rw[List.getElem?_drop,show d+1+i=d+(1+i) by omega,F,(h.wf (1+i)).1]
theorem Fo(I:List Int)(j:Nat):bN (I.drop 1) j=bN I (j+1):=by
 unfold bN
 rw[List.getElem?_drop,Nat.add_comm 1 j]
theorem qr{I:List Int}(h:je I I.length=true):∀x∈(co I).drop 1,ah x=true:=fun x d=>H6 I (fun x=>ah x=true) ((oS _).1 h) x (List.mem_of_mem_drop d)
theorem yJ(J:Option Addr)(c:Nat)(I:List Int)(w:World)(F:ak w J c I)(Y:1≤I.length)(T:I.length≤64)(L:je I I.length=true)(U:kP ((co I).drop 1)=true):
  Calls Tryz.prog 157 #[.slice J I.length c] w fun e d=>∃H M,e=.returned (.tuple #[.slice H I.length M,.int .u64 0,.int .u64 (bN I 0:Nat),.int .i64 0])∧dJ w.heap.size H (bs (Jz (fun _=>0) I.length))∧ak d H M (bs (Jz (fun _=>0) I.length))∧Below w.heap.size w d:=by
 obtain⟨b,D,rfl,Z,X⟩:=F.ne (by omega)
 have N:=X 0 (by omega)
 have G:=du _ c I w F (by omega)
 rw[L]at G
 have Q:∀l w,(callFunc 188 l).run Tryz.prog w=.ok (.enter 188 l) w:=fun _ _=>by kernel_rfl
 have z:=F.1
 rcases Nat.lt_or_ge 1 I.length with g|g
 ·have R:=fun d (h:Below w.heap.size w d)=>nQ (F.below h) g
  have e:((I.drop 1).length:Nat)=I.length-1:=by rw[List.length_drop]
  refine yH b D I.length c (bN I 0) w g T z N G (fun d h=>?_) (Jz (fun _=>0) I.length) (fun d h=>?_)
  ·have B:=fO _ _ (I.drop 1) d (R d h) (by omega)
   rw[oO,qp,(yI (qr L)).2 U,e]at B
   exact B
  ·have O:=lF 188 #[] _ _ (I.drop 1) (fun _=>0) d Q (R d h) (by omega) (fun _ _=>by show 0<18446744073709551616;decide) (fun t k _ _=>qm _ t)
   rw[e,show I.length-1+1=I.length by omega]at O
   exact O
 ·have V:I.length=1:=by omega
  rw[V]at z G⊢
  refine wA b D c (bN I 0) w z N G (fun d h=>fO _ _ [] d (ak.nilAt _ _ _) (by simp)) (Jz (fun _=>0) 1) (fun d h=>?_)
  exact lF 188 #[] _ _ [] (fun _=>0) d Q (ak.nilAt _ _ _) (by simp) (fun _ _=>by show 0<18446744073709551616;decide) (fun t k _ _=>qm _ t)
theorem Ae{I:List Int}(d:kP ((co I).drop 1)=false):2≤I.length:=by
 rcases Nat.lt_or_ge I.length 2 with g|g
 ·rw[List.drop_eq_nil_of_le (by rw[gZ];omega)]at d
  cases d
 ·exact g
theorem Fp(t:Option Addr)(c:Nat)(I:List Int)(w:World)(l:ak w t c I)(z:I.length≤64)(H:je I I.length=true)(D:kP ((co I).drop 1)=false)(N:(ah (da (bN I 0) ((co I).drop 1))&&ah (gS (bN I 0) ((co I).drop 1)))=false)(J:c8 w):
  Calls Tryz.prog 157 #[.slice t I.length c] w fun e d=>e=.returned (.tuple #[.slice none 0 0,.int .u64 0,.int .u64 0,.int .i64 2])∧Below w.heap.size w d:=by
 have g:=Ae D
 obtain⟨b,G,rfl,V,U⟩:=l.ne (by omega)
 have Q:=U 0 (by omega)
 have L:=du _ c I w l (by omega)
 rw[H]at L
 have R:=fun d (h:Below w.heap.size w d)=>nQ (l.below h) g
 have e:((I.drop 1).length:Nat)=I.length-1:=by rw[List.length_drop]
 have M:=l.lt 0
 have T:(if rW (co I)=true then aX (co I)else fN (aX (co I)))=da (bN I 0) ((co I).drop 1):=by
  unfold da
  rw[←mO (by omega)]
 refine wB b G I.length c (bN I 0) (bS 0 ((co I).drop 1)) (da (bN I 0) ((co I).drop 1)) (gS (bN I 0) ((co I).drop 1)) w g z l.1 (fun O=>by rw[(yI (qr H)).1 O]at D;cases D) (gT _ _) (yg _ _ M) Q L (fun d h=>?_) (fun d h=>?_) (fun d h=>mJ _ _ d M (gT _ _) (J.all h)) (fun d t h z=>?_)
 ·have B:=fO _ _ (I.drop 1) d (R d h) (by omega)
  rw[oO,qp,e]at B
  exact B
 ·have B:=se _ c I d (l.below h) z (J.all h)
  rw[T]at B
  exact B
 ·have F:=du t 2 _ d z (by simp)
  rw[show je [((da (bN I 0) ((co I).drop 1):Nat):Int),((gS (bN I 0) ((co I).drop 1):Nat):Int)] [((da (bN I 0) ((co I).drop 1):Nat):Int),((gS (bN I 0) ((co I).drop 1):Nat):Int)].length=false from(show je [((da (bN I 0) ((co I).drop 1):Nat):Int),((gS (bN I 0) ((co I).drop 1):Nat):Int)] 2=_ from by show((true&&ah (da (bN I 0) ((co I).drop 1)))&&ah (gS (bN I 0) ((co I).drop 1)))=_;rw[Bool.true_and,N])]at F
  exact F
theorem BS(G:Option Addr)(c:Nat)(I:List Int)(w:World)(t:ak w G c I)(H:I.length≤64)(T:je I I.length=true)(J:kP ((co I).drop 1)=false)(Y:(ah (da (bN I 0) ((co I).drop 1))&&ah (gS (bN I 0) ((co I).drop 1)))=true)(z:c8 w):
  Calls Tryz.prog 157 #[.slice G I.length c] w fun e d=>∃N V,e=.returned (.tuple #[.slice N I.length V,.int .u64 (dV (aV (da (bN I 0) ((co I).drop 1)) (fN (bN I 0))) (da (bN I 0) ((co I).drop 1)):Nat),.int .u64 (da (bN I 0) ((co I).drop 1):Nat),.int .i64 0])∧dJ w.heap.size N (bs (Jz (fun j=>dV (bN I (j+1)) (gS (bN I 0) ((co I).drop 1))) I.length))∧ak d N V (bs (Jz (fun j=>dV (bN I (j+1)) (gS (bN I 0) ((co I).drop 1))) I.length))∧Below w.heap.size w d:=by
 have g:=Ae J
 obtain⟨b,Q,rfl,M,hc⟩:=t.ne (by omega)
 have c0:=hc 0 (by omega)
 have X:=du _ c I w t (by omega)
 rw[T]at X
 have R:=fun d (h:Below w.heap.size w d)=>nQ (t.below h) g
 have e:((I.drop 1).length:Nat)=I.length-1:=by rw[List.length_drop]
 have D:=t.lt 0
 have eB:(if rW (co I)=true then aX (co I)else fN (aX (co I)))=da (bN I 0) ((co I).drop 1):=by
  unfold da
  rw[←mO (by omega)]
 have cf:∀l w,(callFunc 190 l).run Tryz.prog w=.ok (.enter 190 l) w:=fun _ _=>by kernel_rfl
 refine Fn b Q I.length c (bN I 0) (bS 0 ((co I).drop 1)) (da (bN I 0) ((co I).drop 1)) (gS (bN I 0) ((co I).drop 1)) (aV (da (bN I 0) ((co I).drop 1)) (fN (bN I 0))) _ w g H t.1 (fun Z=>by rw[(yI (qr T)).1 Z]at J;cases J) (gT _ _) (yg _ _ D) c0 X (fun d h=>?_) (fun d h=>?_) (fun d h=>mJ _ _ d D (gT _ _) (z.all h)) (fun d G h H=>?_) (Jz (fun j=>dV (bN I (j+1)) (gS (bN I 0) ((co I).drop 1))) I.length) (fun d U h hg=>?_) (fun d h=>mJ _ _ d (gT _ _) D (z.all h)) (fun d h=>vX _ _ d (jT _ _ (gT _ _) (jF _ D)) (gT _ _) (z.all h))
 ·have B:=fO _ _ (I.drop 1) d (R d h) (by omega)
  rw[oO,qp,e]at B
  exact B
 ·have B:=se _ c I d (t.below h) H (z.all h)
  rw[eB]at B
  exact B
 ·have F:=du G 2 _ d H (by simp)
  rw[show je [((da (bN I 0) ((co I).drop 1):Nat):Int),((gS (bN I 0) ((co I).drop 1):Nat):Int)] [((da (bN I 0) ((co I).drop 1):Nat):Int),((gS (bN I 0) ((co I).drop 1):Nat):Int)].length=true from(show je [((da (bN I 0) ((co I).drop 1):Nat):Int),((gS (bN I 0) ((co I).drop 1):Nat):Int)] 2=_ from by show((true&&ah (da (bN I 0) ((co I).drop 1)))&&ah (gS (bN I 0) ((co I).drop 1)))=_;rw[Bool.true_and,Y])]at F
  exact F
 ·have O:=lF 190 #[.pointer (some ⟨U,0,none⟩)] _ _ (I.drop 1) (fun j=>dV (bN I (j+1)) (gS (bN I 0) ((co I).drop 1))) d cf (R d h) (by omega) (fun _ _=>Jl _ _) (fun L k M aa=>by
   rw[Fo]
   exact yG _ _ U L (t.lt _) (yg _ _ D) (av hg M) ((z.all h).all M))
  rw[e,show I.length-1+1=I.length by omega]at O
  exact O
theorem Fq(h:Option Addr)(c:Nat)(I:List Int)(w:World)(z:ak w h c I)(l:1≤I.length)(D:I.length≤64)(F:je I I.length=true)(G:EU (co I)=true)(N:c8 w):
  Calls Tryz.prog 157 #[.slice h I.length c] w fun e d=>∃t H,e=.returned (.tuple #[.slice t I.length H,.int .u64 (dr (co I):Nat),.int .u64 (gv (co I):Nat),.int .i64 0])∧dJ w.heap.size t (bs (cu (co I)))∧ak d t H (bs (cu (co I)))∧Below w.heap.size w d:=by
 obtain⟨J,L,M⟩:=wh l
 cases hn:kP ((co I).drop 1)
 ·rw[hn,Bool.false_or]at M
  rw[M]at G
  rw[J,L,hn,if_neg (by decide),if_neg (by decide),Fd l (fun x=>dV x (gS (bN I 0) ((co I).drop 1))) (fun x=>by rw[hn,if_neg (by decide)])]
  exact BS h c I w z D F hn G N
 ·rw[J,L,hn,if_pos rfl,if_pos rfl,Fd l (fun _=>0) (fun x=>by rw[hn,if_pos rfl])]
  exact yJ h c I w z l D F hn
theorem yK(h:Option Addr)(c:Nat)(I:List Int)(w:World)(z:ak w h c I)(D:1≤I.length)(F:I.length≤64)(G:je I I.length=true)(H:EU (co I)=false)(J:c8 w):
  Calls Tryz.prog 157 #[.slice h I.length c] w fun e l=>∃L M,e=.returned (.tuple #[.slice L 0 M,.int .u64 0,.int .u64 0,.int .i64 2])∧Below w.heap.size w l:=by
 obtain⟨_,_,t⟩:=wh D
 rw[H]at t
 have d:=t.symm
 rw[Bool.or_eq_false_iff]at d
 refine(Fp h c I w z F G d.1 d.2 J).mono ?_
 rintro e O ⟨rfl,N⟩
 exact⟨_,_,rfl,N⟩
theorem BT(d:Option Addr)(c:Nat)(I:List Int)(w:World)(t:ak w d c I)(z:1≤I.length)(D:I.length≤64)(F:je I I.length=false):
  Calls Tryz.prog 157 #[.slice d I.length c] w fun e h=>∃G H,e=.returned (.tuple #[.slice G 0 H,.int .u64 0,.int .u64 0,.int .i64 4])∧Below w.heap.size w h:=by
 have l:=du d c I w t (by omega)
 rw[F]at l
 refine(BQ d I.length c w z D l).mono ?_
 rintro e L ⟨rfl,J⟩
 exact⟨_,_,rfl,J⟩
attribute [local go_sem ↓] Go.wp_at_zero Go.wp_at_succ
theorem yL(t x y p o k n m c d M z N:Nat)(F G H I:Nat)(w:World)(hk:k<n)(hm:k<m)
  (O:w.cell? ⟨M,0,none⟩=some (.slice (some ⟨F,G,none⟩) n c)) (Q:w.cell? ⟨z,0,none⟩=some (.slice (some ⟨H,I,none⟩) m d)) (T:w.cell? ⟨N,0,none⟩=some (.int .u64 (t:Nat)))
  (U:w.cell? ⟨F,G+k,none⟩=some (.int .u64 (x:Nat))) (V:w.cell? ⟨H,I+k,none⟩=some (.int .u64 (y:Nat)))
  (X:∀l,Below w.heap.size w l→Calls Tryz.prog 169 #[.int .u64 t,.int .u64 y] l fun r D=>r=.returned (.int .u64 (p:Nat))∧Below l.heap.size l D)
  (Y:∀l,Below w.heap.size w l→Calls Tryz.prog 168 #[.int .u64 x,.int .u64 p] l fun r D=>r=.returned (.int .u64 (o:Nat))∧Below l.heap.size l D):
  Calls Tryz.prog 216 #[.int .i64 k,.pointer (some ⟨M,0,none⟩),.pointer (some ⟨N,0,none⟩),.pointer (some ⟨z,0,none⟩)] w fun e l=>e=.returned (.int .u64 (o:Nat))∧Below w.heap.size w l:=by
 have K1:=ac X;have K2:=ac Y
 have aa:(k:Int)<(n:Int):=by omega
 have ad:(k:Int)<(m:Int):=by omega
 have Z:=ac (fun l (h:Below w.heap.size w l)=>(show Below w.heap.size w l∧l.cell? ⟨M,0,none⟩=some (.slice (some ⟨F,G,none⟩) n c)∧l.cell? ⟨z,0,none⟩=some (.slice (some ⟨H,I,none⟩) m d)∧l.cell? ⟨F,G+k,none⟩=some (.int .u64 (x:Nat))∧l.cell? ⟨H,I+k,none⟩=some (.int .u64 (y:Nat))∧l.cell? ⟨N,0,none⟩=some (.int .u64 (t:Nat))from
  ⟨h,av O h,av Q h,av U h,av V h,av T h⟩))
 clear X Y O Q U V T
 go_enter Tryz.func216,Tryz.ntmps216
 go_wp2_with fail
 go_region_held3(fun l=>Below w.heap.size w l∧l.cell? ⟨M,0,none⟩=some (.slice (some ⟨F,G,none⟩) n c)∧l.cell? ⟨z,0,none⟩=some (.slice (some ⟨H,I,none⟩) m d)∧l.cell? ⟨F,G+k,none⟩=some (.int .u64 (x:Nat))∧l.cell? ⟨H,I+k,none⟩=some (.int .u64 (y:Nat))∧l.cell? ⟨N,0,none⟩=some (.int .u64 (t:Nat)))
  (first|exact uH Z _ (Below.refl _ _).drew|exact uH Z _ (by assumption)|fail "KK")
  (first|(go_at_call 169;refine(uH K1 _ (And.left (by assumption))).mono ?_;rintro e w1 ⟨rfl,J⟩;have ae:Below w.heap.size w w1:=Below.trans (And.left (by assumption)) (J.mono (Below.size (And.left (by assumption))));clear J)|(go_at_call 168;refine(uH K2 _ (And.left (by assumption))).mono ?_;rintro e w2 ⟨rfl,L⟩;have ai:Below w.heap.size w w2:=Below.trans (And.left (by assumption)) (L.mono (Below.size (And.left (by assumption))));clear L)|fail "NO ARM")
 go_wp2
 go_ret
 exact⟨rfl,And.left (by assumption)⟩
structure Mj (w:World) (v:Value) (H:Nat) (xo vo:Option Addr) (n xc m vc t:Nat):Prop where
 ex:∃bx bt bv,v=.func (.func 216) #[] #[.pointer (some ⟨bx,0,none⟩),.pointer (some ⟨bt,0,none⟩),.pointer (some ⟨bv,0,none⟩)]∧H≤bx∧H≤bt∧H≤bv∧w.cell? ⟨bx,0,none⟩=some (.slice xo n xc)∧w.cell? ⟨bt,0,none⟩=some (.int .u64 (t:Nat))∧w.cell? ⟨bv,0,none⟩=some (.slice vo m vc)
theorem BU(D J:Option Addr)(n F m L M d t:Nat)(w:World)
  (U:∀z,Below w.heap.size w z→Calls Tryz.prog 177 #[.slice J m L,.slice D n F] z fun e G=>e=.returned (.tuple #[.int .u64 (d:Nat),.int .i64 0])∧Below z.heap.size z G)
  (V:∀z,Below w.heap.size w z→Calls Tryz.prog 169 #[.int .u64 M,.int .u64 d] z fun e G=>e=.returned (.int .u64 (t:Nat))∧Below z.heap.size z G):
  Calls Tryz.prog 191 #[.slice D n F,.slice J m L,.int .u64 M] w fun e z=>∃v,e=.returned v∧Mj z v w.heap.size D J n F m L t∧Below w.heap.size w z:=by
 have X:=ac U;have Y:=ac V
 clear U V
 have O:=ag w (.cells #[.slice D n F] 23)
 have Z:=ei w (.slice D n F) 23
 have s1:=aH w (.cells #[.slice D n F] 23)
 have Q:=ag (w.alloc (.cells #[.slice D n F] 23)) (.cells #[.slice J m L] 23)
 have T:=ei (w.alloc (.cells #[.slice D n F] 23)) (.slice J m L) 23
 have y1:=av Z Q
 rw[s1]at T
 have l:=ac (show Below w.heap.size w ((w.alloc (.cells #[.slice D n F] 23)).alloc (.cells #[.slice J m L] 23))from O.trans (Q.mono O.size))
 have H:=ac y1;have I:=ac T
 clear O Z s1 Q T y1
 go_enter Tryz.func191,Tryz.ntmps191
 go_wp2_with fail
 refine(uH X _ (uH l)).mono ?_
 rintro e w1 ⟨rfl,h⟩
 replace H:=ac (av (uH H) h)
 replace I:=ac (av (uH I) h)
 replace l:=ac ((uH l).trans (h.mono (uH l).size))
 clear h X
 go_wp2_with fail
 refine(uH Y _ (uH l)).mono ?_
 rintro e w2 ⟨rfl,h⟩
 replace H:=ac (av (uH H) h)
 replace I:=ac (av (uH I) h)
 replace l:=ac ((uH l).trans (h.mono (uH l).size))
 clear h Y
 have N:=ag w2 (.cells #[.int .u64 (t:Nat)] 28)
 have x3:=ac (ei w2 (.int .u64 (t:Nat)) 28)
 replace H:=ac (av (uH H) N)
 replace I:=ac (av (uH I) N)
 have HS:=ac (uH l).size
 replace l:=ac ((uH l).trans (N.mono (uH l).size))
 clear N
 go_wp2
 go_ret
 exact⟨_,rfl,⟨_,_,_,rfl,Nat.le_refl _,uH HS,Nat.le_succ _,uH H,uH x3,uH I⟩,uH l⟩
theorem yM(z F:Option Addr)(G H l:Nat)(h d:List Nat)(w:World)(M:ak w z G (bs h))(N:ak w F H (bs d))(I:h.length=d.length)(O:d.length≤64)(Q:l<18446744073709551616)(L:c8 w):
  Calls Tryz.prog 191 #[.slice z h.length G,.slice F d.length H,.int .u64 l] w fun e t=>∃v,e=.returned v∧Mj t v w.heap.size z F h.length G d.length H (mV l (eh 0 d h))∧Below w.heap.size w t:=by
 refine BU z F h.length G d.length H l (eh 0 d h) _ w (fun t J=>?_) (fun t J=>?_)
 ·have D:=Ez F z H G (bs d) (bs h) t (N.below J) (M.below J) (L.all J)
  have g:Ms (bs d) (bs h)=true:=decide_eq_true ⟨by rw[aM];exact O,by rw[aM,aM,I]⟩
  rw[if_pos g,if_pos g,zX (bs d) (bs h) (bs d).length (Nat.le_refl _) (by rw[aM,aM,I];exact Nat.le_refl _),g6,g6,aM,aM,List.take_of_length_le (Nat.le_refl _),List.take_of_length_le (by rw[I];exact Nat.le_refl _)]at D
  exact D
 ·refine pZ l (eh 0 d h) t Q ?_ (L.all J)
  have:=p8 (bs d) (bs h) (bs d).length
  rwa[zX (bs d) (bs h) (bs d).length (Nat.le_refl _) (by rw[aM,aM,I];exact Nat.le_refl _),g6,g6,aM,List.take_of_length_le (Nat.le_refl _),List.take_of_length_le (by rw[I];exact Nat.le_refl _)]at this
structure mP (w wr:World) (r c n cap:Nat) (ao:Option Addr) (S:List Nat):Prop where
 bel:Below w.heap.size w wr
 m:aT wr w.heap.size (.int .i64 r) (.int .i64 c) (.slice ao n cap)
 res:aT wr (w.heap.size+1) (.int .i64 0) (.int .i64 0) (.slice none 0 0)
 row:bI wr (w.heap.size+1+1) S
theorem mP.all{w wr t:World}{r c n d:Nat}{z:Option Addr}{S:List Nat}(h:mP w wr r c n d z S)(l:Below wr.heap.size wr t):mP w t r c n d z S:=
 ⟨h.bel.trans (l.mono h.bel.size),h.m.all l,h.res.all l,h.row.below l h.row.lt⟩
theorem mP.set{w wr:World}{r c n d:Nat}{l:Option Addr}{S:List Nat}(h:mP w wr r c n d l S)(p x:Nat):mP w (wr.setCell ⟨w.heap.size+1+1,p,none⟩ (.int .u64 (x:Int))) r c n d l (S.set p x):=
 ⟨h.bel.setCell (p:=⟨w.heap.size+1+1,p,none⟩) (by show w.heap.size≤w.heap.size+1+1;omega) _,h.m.other (p:=⟨w.heap.size+1+1,p,none⟩) (by show w.heap.size≠w.heap.size+1+1;omega) _,h.res.other (p:=⟨w.heap.size+1+1,p,none⟩) (by show w.heap.size+1≠w.heap.size+1+1;omega) _,h.row.set p x⟩
theorem mP.start(w:World)(r c n d:Nat)(h:Option Addr):
  mP w (((w.alloc (.cells #[.int .i64 r,.int .i64 c,.slice h n d] 25)).alloc (.cells #[.int .i64 0,.int .i64 0,.slice none 0 0] 25)).alloc (.cells (madeCells #[.int .u64 0] n) 28)) r c n d h (List.replicate n 0):=by
 have z:=ag w (.cells #[.int .i64 r,.int .i64 c,.slice h n d] 25)
 have L:=aH w (.cells #[.int .i64 r,.int .i64 c,.slice h n d] 25)
 have M:=aT.new w (.int .i64 r) (.int .i64 c) (.slice h n d)
 generalize w.alloc (.cells #[.int .i64 r,.int .i64 c,.slice h n d] 25)=l at*
 have D:=ag l (.cells #[.int .i64 0,.int .i64 0,.slice none 0 0] 25)
 have F:=aH l (.cells #[.int .i64 0,.int .i64 0,.slice none 0 0] 25)
 have G:=aT.new l (.int .i64 0) (.int .i64 0) (.slice none 0 0)
 generalize l.alloc (.cells #[.int .i64 0,.int .i64 0,.slice none 0 0] 25)=J at*
 have t:=ag J (.cells (madeCells #[.int .u64 0] n) 28)
 have H:=bI.made J n
 rw[L]at G F
 rw[F]at H
 have I:=z.trans (D.mono z.size)
 exact⟨I.trans (t.mono I.size),(M.all D).all t,G.all t,H⟩
theorem mP.copied{w wr l:World}{r c n d:Nat}{z:Option Addr}{S T:List Nat}(h:mP w wr r c n d z S)(t:Below (w.heap.size+1+1) wr l)(D:bI l (w.heap.size+1+1) T):mP w l r c n d z T:=
 ⟨h.bel.trans (t.mono (by omega)),h.m.below t (by omega),h.res.below t (by omega),D⟩
structure tK (w wr:World) (r c n cap:Nat) (ao:Option Addr) (S:List Nat) (bx bt bv:Nat) (po vo:Option Addr) (L pc vc t:Nat) (X:List Int):Prop where
 st:mP w wr r c n cap ao S
 lx:w.heap.size+1+1+1≤bx
 lt:w.heap.size+1+1+1≤bt
 lv:w.heap.size+1+1+1≤bv
 cx:wr.cell? ⟨bx,0,none⟩=some (.slice po L pc)
 ct:wr.cell? ⟨bt,0,none⟩=some (.int .u64 (t:Nat))
 cv:wr.cell? ⟨bv,0,none⟩=some (.slice vo L vc)
 x:ak wr po pc X
 nx:dJ (w.heap.size+1+1+1) po X
theorem tK.all{w wr z:World}{r c n d:Nat}{D:Option Addr}{S:List Nat}{F G H:Nat}{I J:Option Addr}{L M N t:Nat}{X:List Int}(h:tK w wr r c n d D S F G H I J L M N t X)(l:Below wr.heap.size wr z):tK w z r c n d D S F G H I J L M N t X:=
 ⟨h.st.all l,h.lx,h.lt,h.lv,av h.cx l,av h.ct l,av h.cv l,h.x.below l,h.nx⟩
theorem tK.set{w wr:World}{r c n d:Nat}{F:Option Addr}{S:List Nat}{l z D:Nat}{G H:Option Addr}{L I J t:Nat}{X:List Int}(h:tK w wr r c n d F S l z D G H L I J t X)(p x:Nat):tK w (wr.setCell ⟨w.heap.size+1+1,p,none⟩ (.int .u64 (x:Int))) r c n d F (S.set p x) l z D G H L I J t X:=by
 have M:=h.lx;have N:=h.lt;have O:=h.lv
 refine⟨h.st.set p x,M,N,O,?_,?_,?_,h.x.far h.nx (by omega) p _,h.nx⟩
 ·rw[an _ _ _ _ (show l≠w.heap.size+1+1 by omega)];exact h.cx
 ·rw[an _ _ _ _ (show z≠w.heap.size+1+1 by omega)];exact h.ct
 ·rw[an _ _ _ _ (show D≠w.heap.size+1+1 by omega)];exact h.cv
end Go.Proofs.YtmpkkhackbpflaaGreatDoor
