/- Part 31 of the texts. -/
import Derived.Test.YtcbcmlaogehimaaGreatDoorPartu30
import Derived.Deep.CutRange
set_option maxHeartbeats 16000000
set_option maxRecDepth 20000
namespace Go.Proofs.YtcbcmlaogehimaaGreatDoor
open Go.RowKit
def KK:Nat->Nat
 |0=>2098
 |c+1=>2*KK c+1
attribute [local go_sem ↓] Go.wp_at_zero Go.wp_at_succ
def MR(g:Nat->Nat)(j:Nat):H3:=4607182418800017408::kX g (j-1)
end Go.Proofs.YtcbcmlaogehimaaGreatDoor
namespace Go.Proofs.YtcbcmlaogehimaaGreatDoor
open Go.RowKit
theorem oq{I:List Int}(h:1<=I.length):cK I=bg I 0::(cK I).drop 1:=by
 have l:0<(cK I).length:=by rw[iS];omega
 have:=List.drop_eq_getElem_cons l;rw[List.drop_zero]at this;rw[this]
 congr 1
 have e:=rK I 0 (by omega);rw[List.getElem?_eq_getElem l]at e;exact Option.some.inj e
theorem DL(I:List Int){j:Nat}(h:j+1<I.length):((cK I).drop 1).getD j 0=bg I (j+1):=by
 rw[List.getD_eq_getElem?_getD,List.getElem?_drop,Nat.add_comm 1 j,rK I (j+1) h];rfl
theorem Hd{I:List Int}(h:1<=I.length)(k:Nat->Nat)(l:∀x,(if mf ((cK I).drop 1)=true then 0 else dV x (mw (bg I 0) ((cK I).drop 1)))=k x):kt (cK I)=MR (fun j=>k (bg I (j+1))) I.length:=by
 have D:((cK I).drop 1).length=I.length-1:=by rw[List.length_drop,iS]
 rw[oq h];show 4607182418800017408::((cK I).drop 1).map (fun x=>if mf ((cK I).drop 1)=true then 0 else dV x (mw (bg I 0) ((cK I).drop 1)))=4607182418800017408::kX (fun j=>k (bg I (j+1))) (I.length-1)
 congr 1
 rw[List.map_congr_left (g:=k) (fun x _=>l x),zX ((cK I).drop 1),List.map_map,D];unfold kX;refine List.map_congr_left (fun j t=>?_);show k (((cK I).drop 1).getD j 0)=_;rw[DL I (by have:=List.mem_range.1 t;omega)]
theorem xD{I:List Int}(h:1<=I.length):mX (cK I)=(if mf ((cK I).drop 1)=true then bg I 0 else g9 (bg I 0) ((cK I).drop 1))/\kA (cK I)=(if mf ((cK I).drop 1)=true then 0 else dV (aV (g9 (bg I 0) ((cK I).drop 1)) (fN (bg I 0))) (g9 (bg I 0) ((cK I).drop 1)))/\GX (cK I)=(mf ((cK I).drop 1)||(ah (g9 (bg I 0) ((cK I).drop 1))&&ah (mw (bg I 0) ((cK I).drop 1)))):=by
 have e:=oq h;refine⟨?_,?_,?_⟩
 ·conv=>lhs;rw[e]
  rfl
 ·conv=>lhs;rw[e]
  rfl
 ·conv=>lhs;rw[e]
  rfl
theorem Lw(r c:Nat)(S:H3):∀K,Lr r c S K=true↔∀j,j<K->cF (ei r c S j)=true/\GX (ei r c S j)=true:=by
 intro K
 induction K with
 |zero=>exact⟨fun _ j h=>absurd h (Nat.not_lt_zero j),fun _=>rfl⟩
 |succ K ih=>
  show(Lr r c S K&&(cF (ei r c S K)&&GX (ei r c S K)))=true↔_;rw[Bool.and_eq_true,Bool.and_eq_true,ih]
  constructor
  ·rintro⟨t,D⟩ j l
   by_cases g:j<K
   ·exact t j g
   ·rw[show j=K by omega];exact D
  ·intro h
   exact⟨fun j l=>h j (by omega),h K (by omega)⟩
theorem u6{S:H3}(h:∀x∈S,x<18446744073709551616)(c p q:Nat):a8 c S p q<18446744073709551616:=by
 unfold a8;rw[List.getD_eq_getElem?_getD]
 cases e:S[p*c+q]? with
 |none=>decide
 |some x=>exact h x (List.mem_of_getElem? e)
theorem Lx{S:H3}(h:∀x∈S,x<18446744073709551616)(c i n q:Nat):∀x∈bH c S i n q,x<18446744073709551616:=by
 intro x l;obtain⟨j,_,rfl⟩:=List.mem_map.1 l;exact u6 h c _ _
theorem OV{r c:Nat}{S:H3}(l:∀x∈S,x<18446744073709551616)(i k:Nat)(t:H3)(h:Nat):∀x∈rR r c S i k t h,x<18446744073709551616:=by
 intro x D;unfold rR kZ at D;obtain⟨p,_,rfl⟩:=List.mem_map.1 D;show(if _ then _ else _)<_
 split
 ·exact G9 c S i _ t h (by omega) (fun p q=>u6 l c p q)
 ·exact u6 l c _ _
theorem OX{r c:Nat}{S:H3}(l:∀x∈S,x<18446744073709551616)(j b:Nat)(t:b<18446744073709551616):∀x∈MO r c S j b,x<18446744073709551616:=by
 intro x h;unfold MO II kZ at h;obtain⟨p,_,rfl⟩:=List.mem_map.1 h;show(if _ then(if _ then _ else _)else _)<_
 split
 ·split
  ·exact t
  ·decide
 ·exact u6 l c _ _
theorem Ae{r c:Nat}{S:H3}(h:∀x∈S,x<18446744073709551616):∀j,∀x∈kB r c S j,x<18446744073709551616
 |0=>h
 |j+1=>OX (OV (Ae h j) _ _ _ _) _ _ (GZ _ (Lx (Ae h j) _ _ _ _))
attribute [local go_sem ↓] Go.wp_at_zero Go.wp_at_succ
theorem Af(ao:GY)(c:Nat)(I:List Int)(w:World)(hI:ag w ao c I)(hn:I.length<=64):
  BS 279 #[.slice ao I.length c] w (.bool (uX (cK I))):=by
 have HI:=ac hI;obtain⟨L,t⟩:∃L:Nat->Bool,L=fun j=>uX ((cK I).drop j):=⟨_,rfl⟩
 have L0:uX (cK I)=L 0:=by rw[t];rfl
 have LE:∀j,I.length<=j->L j=false:=fun j J=>by
  rw[t];show uX ((cK I).drop j)=false;rw[List.drop_eq_nil_of_le (by rw[iS];exact J)];rfl
 have LS:∀j,j<I.length->L j=if fK (bg I j)=0 then L (j+1)else fS (bg I j):=fun j J=>by
  rw[t];show uX ((cK I).drop j)=_;rw[G7 (cK I) (by rw[iS];exact J),G6 I j J]
 rw[L0];obtain⟨v,hv⟩:∃v,L 0=v:=⟨_,rfl⟩;have HE:=ac LE;have HS:=ac LS;obtain⟨n,G⟩:∃n,I.length=n:=⟨_,rfl⟩;rw[G]at hn HE HS⊢;rw[hv];have HN:=ac G;have HV:=ac hv;clear hI t L0 LE LS G hv
 go_enter Tryz.func279,Tryz.ntmps279
 go_wp2_with fail
 go_loopw[7] (fun i wr=>∃j:Nat,j<=n/\i=.int .i64 j/\Hid (L j=v)/\Hid (H8 w wr)) (fun i _=>n-(intOf i).toNat)
 case atStart=>exact⟨0,Nat.zero_le _,rfl,HV,Below.refl _ _⟩
 case round=>
  obtain⟨j,J,rfl,t,D⟩:=hrel
  by_cases K:j<n
  ·have aa:(j:Int)<(n:Int):=by omega
   obtain⟨b,ax,am,hb,hc⟩:=((uH HI).below D.out).ne (by rw[uH HN];omega);have l:=ac (hc j (by rw[uH HN];exact K));have M:=ac (fun H=>dp (bg I j) H ((uH HI).lt j));have Q:=ac (fun H=>gD (bg I j) H ((uH HI).lt j));have U:=ac (uH HS j K);subst am;clear hc
   by_cases N:fK (bg I j)=0
   ·have Z:=ac (show L (j+1)=v from by have:=uH U;rw[uH t,if_pos N]at this;exact this.symm)
    rw[N]at M;clear U N Q;generalize bg I j=x at*;have F:=uH l;go_wp2_with fail;refine(uH M _).mono ?_;rintro e w2 ⟨rfl,h⟩;have O:Hid (H8 w w2):=D.out.trans (h.mono D.out.size);clear M h l F D;go_wp2_with fail
    go_round
    case rel=>exact⟨j+1,by omega,by go_num,Z,O⟩
    case measure=>simp[intOf];omega
   ·have Z:fS (bg I j)=v:=by have:=uH U;rw[uH t,if_neg N]at this;exact this.symm
    have ap:(fK (bg I j)==0)=false:=by rw[beq_eq_false_iff_ne];exact N
    rw[Z]at Q;clear U Z;generalize fK (bg I j)=kd at*;generalize bg I j=x at*;have F:=uH l;go_wp2_with fail;refine(uH M _).mono ?_;rintro e w2 ⟨rfl,h⟩;have O:Hid (H8 w w2):=D.out.trans (h.mono D.out.size);clear M h l F D;go_wp2_with fail;refine(uH Q _).mono ?_;rintro e w3 ⟨rfl,h⟩;have B3:Hid (H8 w w3):=O.out.trans (h.mono O.out.size);clear Q h O;go_wp2_with fail;exact bodyPost_ret (v:=.bool v) (by simp[results,Tryz.results279,go_sem]) rfl ⟨rfl,B3.out⟩
  ·have ae:v=false:=by have:=uH HE j (by omega);rw[uH t]at this;exact this
   subst ae;have aa:(n:Int)<=(j:Int):=by omega
   go_wp2_with fail;exact bodyPost_ret (v:=.bool false) (by simp[results,Tryz.results279,go_sem]) rfl ⟨rfl,D.out⟩
theorem He(ao:GY)(n c m o:Nat)(s:Bool)(w:World)(h:(s=true/\o=m)\/(s=false/\o=fN m))(L:m<18446744073709551616)
  (M:BS 210 #[.slice ao n c] w (.tuple #[CI (m:Nat),C0 0]))
  (N:∀F,H8 w F->BS 279 #[.slice ao n c] F (.bool s)):
  BS 257 #[.slice ao n c] w (CI (o:Nat)):=by
 have H:=ac M;have I:=ac N;have J:=ac (fun F=>iZ m F L);clear M N L;rcases h with⟨rfl,rfl⟩|⟨rfl,rfl⟩
 ·clear J
  go_enter Tryz.func257,Tryz.ntmps257
  go_wp2_with fail;refine Calls.mono (uH H) ?_;rintro e O ⟨rfl,l⟩;have D:=ac l;clear H l;go_wp2_with fail;refine(uH I _ (uH D)).mono ?_;rintro e Q ⟨rfl,t⟩;have K:=ac ((uH D).trans (t.mono (uH D).size));clear I t D
  go_wp2
  go_ret
  exact⟨rfl,uH K⟩
 ·generalize fN m=o at*
  go_enter Tryz.func257,Tryz.ntmps257
  go_wp2_with fail;refine Calls.mono (uH H) ?_;rintro e O ⟨rfl,l⟩;have D:=ac l;clear H l;go_wp2_with fail;refine(uH I _ (uH D)).mono ?_;rintro e Q ⟨rfl,t⟩;have K:=ac ((uH D).trans (t.mono (uH D).size));clear I t D;go_wp2_with fail;refine(uH J _).mono ?_;rintro e U ⟨rfl,rfl⟩;clear J
  go_wp2
  go_ret
  exact⟨rfl,uH K⟩
theorem t8(ao:GY)(c:Nat)(I:List Int)(w:World)(l:ag w ao c I)(t:I.length<=64)(F:cX w):
  BS 257 #[.slice ao I.length c] w (CI ((if uX (cK I)=true then bM (cK I)else fN (bM (cK I)):Nat):Nat)):=by
 have D:=Gv ao c I w l t F;rw[Bp]at D;refine He ao I.length c (bM (cK I)) _ (uX (cK I)) w ?_ (rP _) D (fun h G=>Af ao c I h (l.below G) t)
 cases uX (cK I)
 ·exact .inr ⟨rfl,if_neg (by decide)⟩
 ·exact .inl ⟨rfl,if_pos rfl⟩
theorem rY(x:Nat)(w:World):
  BS 256 #[CI x] w (CI (0:Nat)):=by
 go_enter Tryz.func256,Tryz.ntmps256
 go_wp2
 go_ret
 exact⟨rfl,Below.refl _ _⟩
theorem Ag(x d g:Nat)(w:World)(l:x<18446744073709551616)(t:d<18446744073709551616)(G:w.cell? ⟨g,0,none⟩=some (CI (d:Nat)))(D:cX w):
  BS 258 #[CI x,.pointer (some ⟨g,0,none⟩)] w (CI (dV x d:Nat)):=by
 have K:=ac (rV x d w l t D);generalize dV x d=o at*;clear l t D
 go_enter Tryz.func258,Tryz.ntmps258
 go_wp2_with fail;refine Calls.mono (uH K) ?_;rintro e H ⟨rfl,h⟩;clear K
 go_wp2
 go_ret
 exact⟨rfl,h⟩
def Ly(f:Nat->Nat)(k:Nat):H3:=4607182418800017408::kX f k
theorem BL(f:Nat->Nat)(k:Nat):(Ly f k).length=k+1:=by
 show(kX f k).length+1=_;rw[iT]
theorem Hf(f:Nat->Nat)(k:Nat):Ly f (k+1)=Ly f k++[f k]:=by
 show 4607182418800017408::kX f (k+1)=(4607182418800017408::kX f k)++[f k];rw[oh];rfl
theorem mZ(fn:Nat)(G:Array Value)(ao:GY)(c:Nat)(J:List Int)(f:Nat->Nat)(w:World)
  (a5:∀args w,(callFunc fn args).run Tryz.prog w=.ok (.enter fn args) w) (hJ:ag w ao c J) (hn:J.length<=64) (hf:∀k,k<J.length->f k<18446744073709551616)
  (t:∀F k,H8 w F->k<J.length->GF fn (#[CI (bg J k:Nat)]++G) F fun e ap=>e=.returned (CI (f k:Nat))/\H8 F ap):
  GF 255 #[.slice ao J.length c,.func (.func fn) #[] G] w fun e F=>∃bo d,e=.returned (.slice bo (J.length+1:Nat) d)/\dw w.heap.size bo (aX (Ly f J.length))/\ag F bo d (aX (Ly f J.length))/\H8 w F:=by
 obtain⟨i0,a0,a1,a2,a3⟩:=info_parts og;have HS:=ac t;have HF:=ac hf;have HJ:=ac hJ;obtain⟨n,U⟩:∃n,J.length=n:=⟨_,rfl⟩;rw[U]at hn HS HF⊢;have HN:=ac U;obtain⟨m,hm⟩:∃m,n+1=m:=⟨_,rfl⟩;have a6:(1:Int)+(n:Int)=(m:Int):=by omega
 obtain⟨w1,ae,I,am⟩:=run_make_own (P:=Tryz.prog) w w.heap.size 22 69 i0 (CI 0) 1 Tryz.underlying22 a0 a1 a2 .i64 .i64 m (by rw[a3];omega) (by unfold maxLen;omega) (by simp);have B1:H8 w w1:=(Below.refl w.heap.size w).grown am (by simp) (fun g hg=>by cases hg);have O1:cT w.heap.size w1 (.slice (some ⟨w.heap.size,0,none⟩) 0 m) []:=⟨by simpa using I,by intro x hx;cases hx⟩;generalize Value.slice (some ⟨w.heap.size,0,none⟩) 0 m=v1 at ae O1;obtain⟨v2,w2,K,l,L,_,_⟩:=O1.push 4607182418800017408 (by decide) (by simp) B1.size 22;have D:=ac (show(Builtin.append_ #[22,22] 22 #[v1,.slice (some ⟨w1.heap.size,0,none⟩) 1 1]).run Tryz.prog (w1.alloc (.cells #[CI 4607182418800017408] 69))=.ok v2 w2 from K);have O2:=ac (show cT w.heap.size w2 v2 (Ly f 0)from l);have B2:=ac (B1.trans L);clear I am O1 B1 K l L t hf hJ U
 go_enter Tryz.func255,Tryz.ntmps255
 go_wp2_with(at_builtin;refine du _ rfl _ _ 22 rfl _ _ _ _ rfl rfl (uH D) ?_;clear D)
 clear ae
 go_loopw[5,17] (fun v i wr=>∃k:Nat,k<=n/\i=.int .i64 k/\Hid (cT w.heap.size wr v (Ly f k))/\Hid (H8 w wr)) (fun _ i _=>n-(intOf i).toNat)
 case atStart=>exact⟨0,Nat.zero_le _,rfl,O2,B2⟩
 case round=>
  clear O2 B2;obtain⟨k,hk,rfl,hO,hB⟩:=hrel
  by_cases Q:k<n
  ·have a7:(k:Int)<(n:Int):=by omega
   obtain⟨b,a9,a4,hb,hc⟩:=((uH HJ).below hB.out).ne (by rw[uH HN];omega);have ax:=hc k (by rw[uH HN];exact Q);have C:=ac (fun F h=>uH HS F k h Q);have ho:=ac (uH HF k Q);have eo:=ac (show f k=f k from rfl);have H:=ac (show(Ly f k).length<=1000000 from by rw[BL];omega);subst a4;clear hc;obtain⟨o,eo⟩:∃o,f k=o:=⟨_,rfl⟩;rw[eo]at C ho;have eV:=ac eo;clear eo;generalize bg J k=x at*;go_wp2_with fail;refine(uH C _ hB.out).mono ?_;rintro e w2 ⟨rfl,Z⟩;have l:=(uH hO).below Z;have B2:=hB.out.trans (Z.mono hB.out.size);obtain⟨v3,w3,M,N,O,_,_⟩:=l.push o (uH ho) (uH H) B2.size 22;have D:=ac M;have O3:=ac (show cT w.heap.size w3 v3 (Ly f (k+1))from by
    rw[Hf,uH eV];exact N)
   have B3:=ac (B2.trans O);clear Z C hO hB l B2 M N O ho eV H ax
   go_wp2_with(at_builtin;refine du _ rfl _ _ 22 rfl _ _ _ _ rfl rfl (uH D) ?_;clear D)
   go_round
   case rel=>exact⟨k+1,by omega,by go_num,O3,B3⟩
   case measure=>simp[intOf];omega
  ·have aI:k=n:=by omega
   subst aI;obtain⟨b1,d1,e1,q1⟩:=(uH hO).bits;rw[BL,hm]at e1;subst e1;have aa:=ac (uH hO).newB;have Q1:=ac q1;clear q1 hO;go_wp2_with fail;exact bodyPost_ret (v:=.slice b1 m d1) (by simp[results,Tryz.results255,go_sem]) rfl ⟨b1,d1,by rw[hm],uH aa,uH Q1,hB.out⟩
def DM(w wr:World)(na nb:Bool)(ao bo:GY)(ka kb ca cb:Nat)(x y:Int):Prop:=
 ar wr w.heap.size (.bool na) (.slice ao ka ca) (C0 x)/\ar wr (w.heap.size+1) (.bool nb) (.slice bo kb cb) (C0 y)/\H8 w wr
theorem DM.all{w wr t:World}{D F:Bool}{ao G:GY}{H I J K:Nat}{x y:Int}(h:DM w wr D F ao G H I J K x y)(l:H8 wr t):DM w t D F ao G H I J K x y:=⟨h.1.all l,h.2.1.all l,h.2.2.trans (l.mono h.2.2.size)⟩
theorem DM.start(w:World)(h D:Bool)(ao F:GY)(l G t H:Nat)(x y:Int):DM w ((w.alloc (.cells #[.bool h,.slice ao l t,C0 x] 35)).alloc (.cells #[.bool D,.slice F G H,C0 y] 35)) h D ao F l G t H x y:=by
 have I:=ad w (.cells #[.bool h,.slice ao l t,C0 x] 35);have M:=an w (.cells #[.bool h,.slice ao l t,C0 x] 35);have N:=ar.new w (.bool h) (.slice ao l t) (C0 x);generalize w.alloc (.cells #[.bool h,.slice ao l t,C0 x] 35)=L at*;have J:=ad L (.cells #[.bool D,.slice F G H,C0 y] 35);have K:=ar.new L (.bool D) (.slice F G H) (C0 y);rw[M]at K;exact⟨N.all J,K,I.trans (J.mono I.size)⟩
def mn(w wr:World)(lo s:Int):Prop:=ar wr w.heap.size (.bool false) (.slice none 0 0) (C0 0)/\jl wr (w.heap.size+1) lo s/\H8 w wr
theorem mn.all{w wr t:World}{lo s:Int}(h:mn w wr lo s)(l:H8 wr t):mn w t lo s:=⟨h.1.all l,h.2.1.all l,h.2.2.trans (l.mono h.2.2.size)⟩
theorem mn.start(w:World)(lo:Int):mn w ((w.alloc (.cells #[.bool false,.slice none 0 0,C0 0] 35)).alloc (.cells #[.bool false,.slice none 0 0,C0 0] 35)) lo 0:=by
 have h:=ad w (.cells #[.bool false,.slice none 0 0,C0 0] 35);have F:=an w (.cells #[.bool false,.slice none 0 0,C0 0] 35);have G:=ar.new w (.bool false) (.slice none 0 0) (C0 0);generalize w.alloc (.cells #[.bool false,.slice none 0 0,C0 0] 35)=D at*;have l:=ad D (.cells #[.bool false,.slice none 0 0,C0 0] 35);have t:=jl.new D lo;rw[F]at t;exact⟨G.all l,t,h.trans (l.mono h.size)⟩
theorem mn.put{w wr:World}{lo s t:Int}(h:mn w wr lo s){n:Bool}{a:GY}{l c:Nat}{X:Int}(G:aN wr (.agg #[.bool n,.slice a l c,C0 X]) lo t):
  mn w (((wr.setCell ⟨w.heap.size+1,0,none⟩ (.bool n)).setCell ⟨w.heap.size+1,1,none⟩ (.slice a l c)).setCell ⟨w.heap.size+1,2,none⟩ (C0 X)) lo t:=by
 obtain⟨H,⟨J,K,L,M,N,F,_⟩,I⟩:=h;have D:w.heap.size≠w.heap.size+1:=by omega
 exact⟨((H.other (p:=⟨w.heap.size+1,0,none⟩) D _).other (p:=⟨w.heap.size+1,1,none⟩) D _).other (p:=⟨w.heap.size+1,2,none⟩) D _,⟨n,a,l,c,X,F.put _ _ _,aH.put3 G F _ _ _⟩,aJ I (by omega) _ _ _⟩
theorem Lz(ao bo:GY)(c d n:Nat)(I J:List Int)(lo lo2:Int)(fa fb sm:Nat->Int)(w:World)(hI:ag w ao c I)(hJ:ag w bo d J)(hi:I.length=n)(hj:J.length=n)(hn:n<=8)(h0:sm 0=0)
  (C1:∀t k,k<n->GF 60 #[CI (bg I k:Nat)] t fun r F=>∃u,r=.returned u/\aN F u lo (fa k)/\H8 t F)
  (C2:∀t k,k<n->GF 60 #[CI (bg J k:Nat)] t fun r F=>∃u,r=.returned u/\aN F u lo (fb k)/\H8 t F)
  (C3:∀t k v u,k<n->aN t v lo (fa k)->aN t u lo (fb k)->GF 18 #[v,u] t fun r F=>∃q,r=.returned q/\aN F q lo2 (fa k*fb k)/\H8 t F)
  (C4:∀t k v u,k<n->aN t v lo2 (sm k)->aN t u lo2 (fa k*fb k)->GF 19 #[v,u] t fun r F=>∃q,r=.returned q/\aN F q lo2 (sm (k+1))/\H8 t F):
  GF 31 #[.slice ao n c,.slice bo n d] w fun e t=>∃v,e=.returned v/\aN t v lo2 (sm n)/\H8 w t:=by
 have K1:=ac C1;have K2:=ac C2;have K3:=ac C3;have K4:=ac C4;have HI:=ac hI;have HJ:=ac hJ;have LI:=ac hi;have LJ:=ac hj;have ST:=ac (show mn w _ lo2 (sm 0)from by rw[h0];exact mn.start w lo2);clear C1 C2 C3 C4 hI hJ hi hj h0
 go_enter Tryz.func31,Tryz.ntmps31
 go_wp2_with fail
 go_loopw[6] (fun i wr=>∃k:Nat,k<=n/\i=.int .i64 k/\Hid (mn w wr lo2 (sm k))) (fun i _=>n-(intOf i).toNat)
 case atStart=>exact⟨0,Nat.zero_le _,rfl,ST⟩
 case round=>
  clear ST;obtain⟨k,hk,rfl,hS⟩:=hrel
  by_cases H:k<n
  ·have am:(k:Int)<(n:Int):=by omega
   have W1:=ac (fun t=>uH K1 t k H);have W2:=ac (fun t=>uH K2 t k H);have W3:=ac (fun t v u=>uH K3 t k v u H);have W4:=ac (fun t v u=>uH K4 t k v u H);obtain⟨b1,o1,rfl,p1,q1⟩:=(uH HI).ne (by rw[uH LI];omega);obtain⟨b2,o2,rfl,p2,q2⟩:=(uH HJ).ne (by rw[uH LJ];omega);have L:=q1 k (by rw[uH LI];exact H);have M:=q2 k (by rw[uH LJ];exact H);generalize bg I k=x at*;generalize bg J k=y at*;have KX:=ac L;have KY:=ac M;have P1:=ac p1;have P2:=ac p2;clear q1 q2 L M p1 p2;go_wp2_with fail;refine aB (fun W=>mn w W lo2 (sm k)) (uH hS) ?_;clear hS;rintro W0 hS;have D0:=(Below.refl W0.heap.size W0).drew;have G:=ac (hS.all D0);obtain⟨nn,aa,ll,cc,X,K,ix⟩:=(uH G).2.1;have N:=K.c0;have O:=K.c1;have Q:=K.c2;have U:=K.free 0;have Z:=K.free 1;have f2:=K.free 2;have D:=ac K;have IX:=ac ix;have HK:=ac (show∀t (h:H8 w t),t.cell? ⟨b1,o1+k,none⟩=some (CI (x:Nat))/\t.cell? ⟨b2,o2+k,none⟩=some (CI (y:Nat))from fun t h=>
    ⟨(h.cell (p:=⟨b1,o1+k,none⟩) (uH P1)).trans (uH KX),(h.cell (p:=⟨b2,o2+k,none⟩) (uH P2)).trans (uH KY)⟩)
   clear hS D0 K ix KX KY P1 P2;obtain⟨L,M⟩:=uH HK _ (uH G).2.2
   go_region_with (first
     |(go_at_call_of 60 x;refine(uH W1 _).mono ?_;rintro e w4 ⟨q,rfl,hq,l⟩;replace G:=ac ((uH G).all l);(first|(replace QY:=ac ((uH QY).below l))|skip);have QX:=ac hq;clear N O Q U Z f2 L M;replace D:=ac ((uH D).all l);replace IX:=ac ((uH IX).below l);obtain⟨L,M⟩:=uH HK _ (uH G).2.2;have N:=(uH D).c0;have O:=(uH D).c1;have Q:=(uH D).c2;have U:=(uH D).free 0;have Z:=(uH D).free 1;have f2:=(uH D).free 2;clear hq l)
     |(go_at_call_of 60 y;refine(uH W2 _).mono ?_;rintro e w4 ⟨q,rfl,hq,l⟩;replace G:=ac ((uH G).all l);(first|(replace QX:=ac ((uH QX).below l))|skip);have QY:=ac hq;clear N O Q U Z f2 L M;replace D:=ac ((uH D).all l);replace IX:=ac ((uH IX).below l);obtain⟨L,M⟩:=uH HK _ (uH G).2.2;have N:=(uH D).c0;have O:=(uH D).c1;have Q:=(uH D).c2;have U:=(uH D).free 0;have Z:=(uH D).free 1;have f2:=(uH D).free 2;clear hq l)
     |(go_at_call 18;refine(uH W3 _ _ _ (uH QX) (uH QY)).mono ?_;rintro e w4 ⟨q,rfl,hq,l⟩;replace G:=ac ((uH G).all l);have QP:=ac hq;clear N O Q U Z f2 L M;replace D:=ac ((uH D).all l);replace IX:=ac ((uH IX).below l);obtain⟨L,M⟩:=uH HK _ (uH G).2.2;have N:=(uH D).c0;have O:=(uH D).c1;have Q:=(uH D).c2;have U:=(uH D).free 0;have Z:=(uH D).free 1;have f2:=(uH D).free 2;clear hq l)
     |(go_at_call 19;refine(uH W4 _ _ _ (uH IX) (uH QP)).mono ?_;rintro e w4 ⟨q,rfl,⟨n5,a5,c5,L5,rfl,i5⟩,l⟩;replace G:=ac ((uH G).all l);have QS:=ac (show aN w4 (.agg #[.bool n5,.slice a5 L5.length c5,C0 (oE (sm (k+1)) lo2)]) lo2 (sm (k+1))from⟨n5,a5,c5,L5,rfl,i5⟩);clear N O Q U Z f2 L M;replace D:=ac ((uH D).all l);obtain⟨L,M⟩:=uH HK _ (uH G).2.2;have N:=(uH D).c0;have O:=(uH D).c1;have Q:=(uH D).c2;have U:=(uH D).free 0;have Z:=(uH D).free 1;have f2:=(uH D).free 2;have SF:=ac ((uH G).put (uH QS));clear i5 l)
     |fail "NO ARM")
   all_goals
    go_wp2_with fail
    go_round
    case rel=>exact⟨k+1,by omega,by go_num,SF⟩
    case measure=>simp[intOf];omega
  ·have ae:k=n:=by omega
   subst ae;obtain⟨h1,⟨nn,aa,ll,cc,X,K,ix⟩,h3⟩:=uH hS;have N:=K.c0;have O:=K.c1;have Q:=K.c2;have r0:=h1.c0;have r1:=h1.c1;have r2:=h1.c2;have U:=h1.free 0;have Z:=h1.free 1;have f2:=h1.free 2;have xe:=h1.put (.bool nn) (.slice aa ll cc) (C0 X);have e0:=xe.c0;have e1:=xe.c1;have e2:=xe.c2;have HS:=ac (aH.put3 ix h1 (.bool nn) (.slice aa ll cc) (C0 X));have BE:=ac (aJ h3 (Nat.le_refl _) (.bool nn) (.slice aa ll cc) (C0 X));clear xe h1 K ix h3 hS;go_wp2_with fail;exact bodyPost_ret (v:=.agg #[.bool nn,.slice aa ll cc,C0 X]) (by simp[results,Tryz.results31,go_sem,e0,e1,e2]) rfl ⟨_,rfl,uH HS,uH BE⟩
end Go.Proofs.YtcbcmlaogehimaaGreatDoor
