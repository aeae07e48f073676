/- Part 7 of the texts. -/
import Derived.Test.YtmpkkhackbpflaaGreatDoorPartg06
set_option maxHeartbeats 1000000
namespace Go.Proofs.YtmpkkhackbpflaaGreatDoor
open Go.RowKit
theorem gQ(l:Option Addr)(d:Nat)(L:List Nat)(i:Int)(k x:Nat)(w:World)(h:af w l d L)(t:L.length≤35184372088830)(z:i=(k:Int))(D:Hid (L[k]?.getD 0=x)):
  Calls Tryz.prog 183 #[.slice l L.length d,.int .i64 i] w fun e F=>e=.returned (.int .u64 (x:Int))∧w=F:=by
 have:=Cw l d L i k w h t z
 rwa[D.out]at this
theorem Cx(F G:Option Addr)(H I:Nat)(A B:List Nat)(w:World)(U:af w F H A)(V:af w G I B)(la:A.length≤35184372088830)(lb:B.length≤35184372088830):
  Calls Tryz.prog 146 #[.slice F A.length H,.slice G B.length I] w fun e L=>e=.returned (.int .i64 (cU (val A) (val B)))∧w=L:=by
 obtain⟨n,hn⟩:∃n,n=max A.length B.length:=⟨_,rfl⟩
 have J:∀t:Nat,(∀i:Nat,t<i→A[i]?.getD 0=B[i]?.getD 0)→(A[t]?.getD 0<B[t]?.getD 0→(-1:Int)=cU (val A) (val B))∧(B[t]?.getD 0<A[t]?.getD 0→(1:Int)=cU (val A) (val B)):=by
  intro t h1
  constructor
  ·intro h2
   have:=j7 A B U.2.1 t h1 h2
   rw[jg (by omega)]
  ·intro h2
   have:=j7 B A V.2.1 t (fun i hi=>(h1 i hi).symm) h2
   rw[lL (by omega)]
 have X:(∀i:Nat,A[i]?.getD 0=B[i]?.getD 0)→(0:Int)=cU (val A) (val B):=by
  intro h
  have:=j6 A B h
  simp[this,cU]
 have Y:∀i:Nat,n≤i→A[i]?.getD 0=B[i]?.getD 0:=fun i hi=>by
  rw[List.getElem?_eq_none (by omega),List.getElem?_eq_none (by omega)]
 have HT:=ac J
 have HQ:=ac X
 have HA:=ac Y
 have HN:=ac hn
 have n3:n≤35184372088830:=by omega
 clear J X Y
 generalize cU (val A) (val B)=s at*
 rcases(show(A.length<B.length∧n=B.length)∨(¬A.length<B.length∧n=A.length) by omega)with⟨hm,e⟩|⟨hm,e⟩
 all_goals
  have HE:=ac e
  clear hn e
  go_enter Tryz.func146,Tryz.ntmps146
  go_wp2
  go_loop [5] (fun i=>∃m:Nat,m≤n+1∧i=.int .i64 ((m:Int)-1)∧Hid (∀j,m≤j→A[j]?.getD 0=B[j]?.getD 0)) (fun i=>(intOf i+1).toNat)
  case atStart=>exact⟨n+1,by omega,dg (by have:=uH HE;omega),fun j hj=>uH HA j (by omega)⟩
  case round=>
   obtain⟨m,aa,rfl,Z⟩:=hrel
   clear HA HN HE
   by_cases h0:m=0
   ·subst h0
    have M:=ac (uH HQ (fun i=>Z.out i (by omega)))
    clear HT HQ
    go_wp2
    go_ret
    exact⟨bj (uH M),rfl⟩
   ·obtain⟨Q,l⟩:∃x,A[m-1]?.getD 0=x:=⟨_,rfl⟩
    obtain⟨T,z⟩:∃x,B[m-1]?.getD 0=x:=⟨_,rfl⟩
    have ba:Q<4294967296:=by rw[←l];exact U.lt _
    have bb:T<4294967296:=by rw[←z];exact V.lt _
    have hT:=uH HT (m-1) (fun i hi=>Z.out i (by omega))
    rw[l,z]at hT
    have d:=ac hT
    have D:Hid (Q=T→∀j,m-1≤j→A[j]?.getD 0=B[j]?.getD 0):=fun e j hj=>by
     by_cases h:m≤j
     ·exact Z.out j h
     ·rw[show j=m-1 by omega,l,z];exact e
    have N:=ac l
    have O:=ac z
    clear hT l z Z HT HQ
    rcases Nat.lt_trichotomy Q T with h|h|h
    ·have M:=ac ((uH d).1 h)
     clear d D
     go_wp2_with(first|(go_at_call_of 183 (Value.slice F A.length H);refine(gQ F H A _ (m-1) Q _ U la (by omega) N).mono ?_;rintro e L ⟨rfl,rfl⟩)|(go_at_call_of 183 (Value.slice G B.length I);refine(gQ G I B _ (m-1) T _ V lb (by omega) O).mono ?_;rintro e L ⟨rfl,rfl⟩))
     go_ret
     exact⟨bj (uH M),rfl⟩
    ·have M:=ac (uH D h)
     clear d D
     go_wp2_with(first|(go_at_call_of 183 (Value.slice F A.length H);refine(gQ F H A _ (m-1) Q _ U la (by omega) N).mono ?_;rintro e L ⟨rfl,rfl⟩)|(go_at_call_of 183 (Value.slice G B.length I);refine(gQ G I B _ (m-1) T _ V lb (by omega) O).mono ?_;rintro e L ⟨rfl,rfl⟩))
     go_round
     case rel=>exact⟨m-1,by omega,dg (by omega),uH M⟩
     case measure=>simp[intOf];omega
    ·have M:=ac ((uH d).2 h)
     clear d D
     go_wp2_with(first|(go_at_call_of 183 (Value.slice F A.length H);refine(gQ F H A _ (m-1) Q _ U la (by omega) N).mono ?_;rintro e L ⟨rfl,rfl⟩)|(go_at_call_of 183 (Value.slice G B.length I);refine(gQ G I B _ (m-1) T _ V lb (by omega) O).mono ?_;rintro e L ⟨rfl,rfl⟩))
     go_ret
     exact⟨bj (uH M),rfl⟩
def aP(M B:Nat)(w:World)(v:Value)(x:Int):Prop:=
 ∃neg ao cap L,v=.agg #[.bool neg,.slice ao L.length cap]∧af w ao cap L∧bB B ao L∧bZ L∧neg=decide (x<0)∧val L=x.natAbs∧L.length≤M
theorem aP.num{M B:Nat}{w:World}{v:Value}{x:Int}(h:aP M B w v x)(I:M≤35184372088832):ar B w v x:=by
 obtain⟨neg,l,d,L,t,z,D,F,G,H,J⟩:=h
 exact⟨neg,l,d,L,t,z,D,F,G,H,by omega⟩
theorem aP.below{M B:Nat}{w l:World}{v:Value}{x:Int}(h:aP M B w v x)(t:Below w.heap.size w l):aP M B l v x:=by
 obtain⟨neg,z,d,L,D,F,G⟩:=h
 exact⟨neg,z,d,L,D,F.below t,G⟩
theorem aP.more{M l B:Nat}{w:World}{v:Value}{x:Int}(h:aP M B w v x)(J:M≤l):aP l B w v x:=by
 obtain⟨neg,t,d,L,z,D,F,G,H,I,N⟩:=h
 exact⟨neg,t,d,L,z,D,F,G,H,I,by omega⟩
theorem aP.zero(M B:Nat)(w:World)(h:Option Addr)(d:Nat):aP M B w (.agg #[.bool false,.slice h 0 d]) 0:=
 ⟨false,h,d,[],rfl,af.nil _ _ _,.inl rfl,.inl rfl,rfl,rfl,by simp⟩
theorem ie{n:Bool}{L:List Nat}{x:Int}(h:n=decide (x<0))(l:val L=x.natAbs):aj n L=x:=by
 unfold aj
 rw[h]
 by_cases d:x<0
 ·simp[d];omega
 ·simp[d];omega
theorem aP.stored{M B t:Nat}{w:World}{n:Bool}{l:Option Addr}{d:Nat}{L:List Nat}{x:Int}(h:af w l d L∧bB B l L∧bZ L∧n=decide (x<0)∧val L=x.natAbs∧L.length≤M){p q:Addr}(z:p.block<B)(D:q.block<B)(F:t≤B)(u u':Value):
  aP M t ((w.setCell p u).setCell q u') (.agg #[.bool n,.slice l L.length d]) x:=
 ⟨n,l,d,L,rfl,(h.1.store h.2.1 z u).store h.2.1 D u',h.2.1.mono F,h.2.2⟩
theorem dI(B:Nat)(neg:Bool)(J:Option Addr)(d:Nat)(L:List Nat)(w:World)(h:af w J d L)(hn:bB B J L)(hl:L.length≤35184372088832):
  Calls Tryz.prog 141 #[.bool neg,.slice J L.length d] w fun e F=>∃v,e=.returned v∧aP L.length B F v (aj neg L)∧Below w.heap.size w F:=by
 have G:∀(k:Nat) (F:World),af F J d L→k≤L.length→val (L.take k)=val L→0<k→L[k-1]?.getD 0≠0→aP L.length B F (.agg #[.bool neg,.slice J k d]) (aj neg L):=by
  intro k F U Y z h0 I
  have l:(L.take k).length=k:=by rw[List.length_take,Nat.min_eq_left Y]
  have hC:bZ (L.take k):=by
   right
   rw[l,List.getElem?_take,if_pos (by omega)]
   exact I
  have h1:L.take k≠ []:=by intro e;rw[e]at l;simp at l;omega
  have V:val (L.take k)≠0:=fun e=>h1 ((aS _ hC).1 e)
  refine⟨neg,J,d,L.take k,by rw[l],U.take k,hn.take k,hC,?_,by rw[bh];exact z,by omega⟩
  rw[z]at V
  unfold aj;cases neg<;>simp<;>omega
 have t:val (L.take 0)=val L→aj neg L=0:=by
  intro z
  rw[←oU (neg:=neg) z];exact iN neg
 have Q:=ac G
 have T:=ac t
 clear G t hn
 have aa:=h.1
 have H:=ac h
 go_enter Tryz.func141,Tryz.ntmps141
 go_wp2
 go_loop [5] (fun i=>∃k:Nat,k≤L.length∧i=.int .i64 k∧Hid (val (L.take k)=val L)) (fun i=>(intOf i).toNat)
 case atStart=>exact⟨L.length,Nat.le_refl _,rfl,by unfold Hid;simp⟩
 case round=>
  obtain⟨k,Y,rfl,z⟩:=hrel
  by_cases h0:k=0
  ·subst h0
   have M:=ac (uH T z.out)
   clear Q T z h
   go_wp2
   refine bodyPost_ret (v:=.agg #[.bool false,.slice none 0 0]) (by simp[results,Tryz.results141,go_sem]) rfl ⟨.agg #[.bool false,.slice none 0 0],rfl,?_,(Below.refl _ _).alloc (Nat.le_refl _) _⟩
   rw[uH M];exact aP.zero _ _ _ _ _
  ·obtain⟨b,D,O,hb,Z⟩:=h.ne (by omega)
   have N:=Z (k-1) (by omega)
   have X:(w.alloc (.cells #[.bool false,.slice none 0 0] 55)).cell? ⟨b,D+(k-1),none⟩=some (.int .u32 ((L[k-1]?.getD 0:Nat):Int)):=by
    rw[((Below.refl _ w).alloc (Nat.le_refl _) _).cell (p:=⟨b,D+(k-1),none⟩) hb];exact N
   have ad:((k:Int)==0)=false:=by simp;omega
   have ae:(0:Int)<(k:Int):=by omega
   by_cases I:L[k-1]?.getD 0=0
   ·have M:Hid (val (L.take (k-1))=val L):=by unfold Hid;rw[kI L k I];exact z.out
    rw[I]at N X
    clear Q T z h I Z
    subst O
    go_wp2
    go_round
    case rel=>exact⟨k-1,by omega,dg (by omega),M⟩
    case measure=>simp[intOf];omega
   ·have M:=ac (fun F U=>uH Q k F U Y z.out (by omega) I)
    have ai:(((L[k-1]?.getD 0:Nat):Int)==0)=false:=by simp;omega
    clear Q T z h Z
    generalize L[k-1]?.getD 0=x at*
    clear I
    subst O
    go_wp2
    refine bodyPost_ret (v:=.agg #[.bool neg,.slice (some ⟨b,D,none⟩) k d]) (by simp[results,Tryz.results141,go_sem]) rfl ⟨.agg #[.bool neg,.slice (some ⟨b,D,none⟩) k d],rfl,?_,(Below.refl _ _).alloc (Nat.le_refl _) _⟩
    exact uH M _ ((uH H).below ((Below.refl _ _).alloc (Nat.le_refl _) _))
theorem iQ{w:World}{l:Nat}{v:Value}{n:Nat}{S:List Nat}(h:w.ownsRow l 147 1 v n (S.map d6))(G:bM S):
  ∃D d,v=.slice D S.length d∧af w D d S∧bB l D S∧S.length=n:=by
 have F:S.length=n:=by have:=h.1;simpa using this
 rcases h.2 with⟨z,M⟩|⟨g,d,I,z,J,L,N,O,Q,T⟩
 ·have:S= []:=List.length_eq_zero_iff.1 (by omega)
  subst this
  exact⟨none,0,z,af.nil _ _ _,.inl rfl,F⟩
 ·refine⟨some ⟨g,0,none⟩,d,by rw[F];exact z,⟨by omega,G,.inr ⟨g,0,rfl,(Array.getElem?_eq_some_iff.1 L).1,fun i H=>?_⟩⟩,.inr ⟨g,0,rfl,J⟩,F⟩
  have t:=h
  rw[z]at t
  rw[Nat.zero_add,t.cellAt i (by omega)]
  simp[d6,H]
theorem lP{w:World}{l:Nat}{v:Value}{n:Nat}{S:List Nat}{x:Nat}{d:Int}(h:w.ownsRow l 147 1 v (n+1) (S.map d6++[.int .u32 d]))(t:d=(x:Int)):w.ownsRow l 147 1 v (n+1) ((S++[x]).map d6):=by
 subst t
 simpa[d6]using h
theorem oZ(ao bo:Option Addr)(ca cb:Nat)(A B:List Nat)(w:World)(hA:af w ao ca A)(hB:af w bo cb B)(la:A.length≤35184372088830)(lb:B.length≤35184372088830):
  Calls Tryz.prog 144 #[.slice ao A.length ca,.slice bo B.length cb] w fun e w'=>∃z l U,e=.returned (.slice z U.length l)∧af w' z l U∧bB w.heap.size z U∧U.length=max A.length B.length+1∧val U=val A+val B∧Below w.heap.size w w':=by
 obtain⟨i0,hi,aD,aI,a0⟩:=info_parts Tryz.info147
 obtain⟨n,O⟩:∃n,n=max A.length B.length:=⟨_,rfl⟩
 have n1:A.length≤n:=by omega
 have n2:B.length≤n:=by omega
 have n3:n≤35184372088830:=by omega
 have HN:=ac O
 have V:∀(S:List Nat) (c x y:Nat),A[S.length]?.getD 0=x→B[S.length]?.getD 0=y→val S+4294967296^S.length*c=val (A.take S.length)+val (B.take S.length)→val (S++[(x+y+c)%4294967296])+4294967296^(S.length+1)*((x+y+c)/4294967296)=val (A.take (S.length+1))+val (B.take (S.length+1)):=fun S c x y=>An A B S c x y
 have X:∀(S:List Nat) (c:Nat),S.length=n+1→val S+4294967296^S.length*c=val (A.take S.length)+val (B.take S.length)→val S=val A+val B:=by
  intro S c hl h
  refine yV A B S (n+1) c hA.2.1 hB.2.1 (by omega) (by omega) hl ?_
  rw[←hl,List.take_length];exact h
 have M:=ac V
 have N:=ac X
 clear V X
 rcases(show(A.length<B.length∧n=B.length)∨(¬A.length<B.length∧n=A.length) by omega)with⟨hm,e⟩|⟨hm,e⟩
 all_goals
  have HE:=ac e
  have n4:(n:Int)≤35184372088830:=by omega
  clear O e
  go_enter Tryz.func144,Tryz.ntmps144
  go_wp2
  go_loopw[5,6,7] (fun v c i wr=>∃(S:List Nat) (y:Nat),S.length≤n+1∧i=.int .i64 (S.length:Nat)∧c=.int .u64 y∧y≤1∧wr.ownsRow w.heap.size 147 1 v S.length (S.map d6)∧bM S∧Below w.heap.size w wr∧Hid (val S+4294967296^S.length*y=val (A.take S.length)+val (B.take S.length)))
   (fun _ _ i _=>n+1-(intOf i).toNat)
  case atStart=>
   refine⟨[],0,by simp,rfl,rfl,by omega,?_,by intro x hx;simp at hx,(Below.refl _ _).alloc (Nat.le_refl _) _,by unfold Hid;simp[val]⟩
   exact World.ownsRow_made w #[] 0 (Nat.le_refl _) (by simp[maxLen]) (by simp)
  case round=>
   obtain⟨S,y,hk,rfl,rfl,hy,t,hf,d,hv⟩:=hrel
   have O:=uH HE
   by_cases Y:S.length≤n
   ·obtain⟨J,G⟩:∃x,A[S.length]?.getD 0=x:=⟨_,rfl⟩
    obtain⟨L,H⟩:∃x,B[S.length]?.getD 0=x:=⟨_,rfl⟩
    have ba:J<4294967296:=by rw[←G];exact hA.lt _
    have bb:L<4294967296:=by rw[←H];exact hB.lt _
    have cA:=hA.below d
    have cB:=hB.below d
    have ad:=ac (uH M S y J L G H hv.out)
    have ae:=ac G
    have ai:=ac H
    have am:=d.size
    have HF:=ac hf
    clear G H hv M N hf
    generalize aa:S.length=k at*
    have ap:=ac aa
    clear aa
    have Q:(k:Int)≤(n:Int):=by omega
    rw[O]at Q
    clear O
    go_wp2_with(first|(go_at_call_of 183 (Value.slice ao A.length ca);refine(gQ ao ca A _ k J _ cA la rfl ae).mono ?_;rintro e w' ⟨rfl,rfl⟩)|(go_at_call_of 183 (Value.slice bo B.length cb);refine(gQ bo cb B _ k L _ cB lb rfl ai).mono ?_;rintro e w' ⟨rfl,rfl⟩)|(at_builtin;refine wpList_append_own _ rfl _ _ 53 rfl w.heap.size 147 i0 (.int .u32 0) 1 4 Tryz.underlying53 hi aD aI a0 rfl (by decide) _ _ _ rfl (t.alloc _) ⟨wr.heap.size,0,none⟩ 1 1 [.int .u32 (((J:Int)+(L:Int)+(y:Int))%4294967296)] rfl rfl (cell_one_new _ _ _) (fun u hu=>by simp at hu;subst hu;rfl) (by unfold maxLen;omega) (by omega) (by simp;omega) ?_;intro v' w1 D F _;have aq:Below w.heap.size w w1:=((d.alloc am _).grown F (by simp;omega) (fun g hg=>(t.lt g hg).1));have ax:=ac (lP (x:=(J+L+y)%4294967296) D (by omega));clear D F))
    have ay:=uH ad
    have T:(S++[(J+L+y)%4294967296]).length=k+1:=by simp[uH ap]
    go_roundw
    case rel=>exact⟨S++[(J+L+y)%4294967296],(J+L+y)/4294967296,by omega,by rw[T];go_num,dg (by omega),by omega,by rw[T];exact uH ax,(uH HF).snoc (by omega),aq,by rw[T];exact ay⟩
    case measure=>simp[intOf];omega
   ·have I:=uH N S y (by omega) hv.out
    have Z:=ac I
    obtain⟨z,l,e1,e2,e3,e4⟩:=iQ t hf
    have E2:=ac e2
    have E3:=ac e3
    have Q:¬((S.length:Nat):Int)≤(n:Int):=by omega
    rw[O]at Q
    have HK:=ac hk
    have az:=ac Y
    subst e1
    clear I hv M t O e2 e3 e4 N hk Y
    go_wp2
    go_ret
    have hN:=uH HN
    have h1:=uH HK
    have h2:=uH az
    exact⟨z,l,S,rfl,uH E2,uH E3,by omega,uH Z,d⟩
theorem rp(ao bo:Option Addr)(ca cb:Nat)(A B:List Nat)(w:World)(hA:af w ao ca A)(hB:af w bo cb B)(la:A.length≤35184372088830)(lb:B.length≤35184372088830)(M:val B≤val A):
  Calls Tryz.prog 147 #[.slice ao A.length ca,.slice bo B.length cb] w fun e w'=>∃D l V,e=.returned (.slice D V.length l)∧af w' D l V∧bB w.heap.size D V∧V.length=A.length∧val V=val A-val B∧Below w.heap.size w w':=by
 obtain⟨i0,hi,az,aD,aI⟩:=info_parts Tryz.info147
 have X:∀(S:List Nat) (c x y t c':Nat),A[S.length]?.getD 0=x→B[S.length]?.getD 0=y→t+y+c=x+4294967296*c'→val S+val (B.take S.length)=val (A.take S.length)+4294967296^S.length*c→val (S++[t])+val (B.take (S.length+1))=val (A.take (S.length+1))+4294967296^(S.length+1)*c':=fun S c x y t c'=>wR A B S c x y t c'
 have Y:∀(S:List Nat) (c:Nat),bM S→S.length=A.length→val S+val (B.take S.length)=val (A.take S.length)+4294967296^S.length*c→val S=val A-val B:=by
  intro S c f hl h
  refine yW A B S A.length c f hl rfl M (yX A B hA.2.1 M) ?_
  rw[←hl,List.take_length];exact h
 have O:=ac X
 have Q:=ac Y
 clear X Y M
 go_enter Tryz.func147,Tryz.ntmps147
 go_wp2
 go_loopw[5,6,7] (fun v c i wr=>∃(S:List Nat) (y:Nat),S.length≤A.length∧i=.int .i64 (S.length:Nat)∧c=.int .u64 y∧y≤1∧wr.ownsRow w.heap.size 147 1 v S.length (S.map d6)∧bM S∧Below w.heap.size w wr∧Hid (val S+val (B.take S.length)=val (A.take S.length)+4294967296^S.length*y))
  (fun _ _ i _=>A.length-(intOf i).toNat)
 case atStart=>
  refine⟨[],0,by simp,rfl,rfl,by omega,?_,by intro x hx;simp at hx,(Below.refl _ _).alloc (Nat.le_refl _) _,by unfold Hid;simp[val]⟩
  exact World.ownsRow_made w #[] 0 (Nat.le_refl _) (by simp[maxLen]) (by simp)
 case round=>
  obtain⟨S,y,hk,rfl,rfl,hy,z,hf,d,M⟩:=hrel
  by_cases a0:S.length<A.length
  ·obtain⟨H,J⟩:∃x,A[S.length]?.getD 0=x:=⟨_,rfl⟩
   obtain⟨I,L⟩:∃x,B[S.length]?.getD 0=x:=⟨_,rfl⟩
   have ba:H<4294967296:=by rw[←J];exact hA.lt _
   have bb:I<4294967296:=by rw[←L];exact hB.lt _
   have cA:=hA.below d
   have cB:=hB.below d
   have ae:=ac (uH O S y H I ((4294967296+H-I-y)%4294967296) (1-(4294967296+H-I-y)/4294967296) J L (by omega) M.out)
   have ai:=ac J
   have am:=ac L
   have ap:=d.size
   have HF:=ac hf
   clear J L M O Q hf
   generalize ad:S.length=k at*
   have T:=ac ad
   clear ad
   go_wp2_with(first|(go_at_call_of 183 (Value.slice ao A.length ca);refine(gQ ao ca A _ k H _ cA la rfl ai).mono ?_;rintro e w' ⟨rfl,rfl⟩)|(go_at_call_of 183 (Value.slice bo B.length cb);refine(gQ bo cb B _ k I _ cB lb rfl am).mono ?_;rintro e w' ⟨rfl,rfl⟩)|(at_builtin;refine wpList_append_own _ rfl _ _ 53 rfl w.heap.size 147 i0 (.int .u32 0) 1 4 Tryz.underlying53 hi az aD aI rfl (by decide) _ _ _ rfl (z.alloc _) ⟨wr.heap.size,0,none⟩ 1 1 [.int .u32 ((4294967296+(H:Int)-(I:Int)-(y:Int))%4294967296)] rfl rfl (cell_one_new _ _ _) (fun u hu=>by simp at hu;subst hu;rfl) (by unfold maxLen;omega) (by omega) (by simp;omega) ?_;intro v' w1 F G _;have aq:Below w.heap.size w w1:=((d.alloc ap _).grown G (by simp;omega) (fun g hg=>(z.lt g hg).1));have ax:=ac (lP (x:=(4294967296+H-I-y)%4294967296) F (by omega));clear F G))
   have ay:=uH ae
   have U:(S++[(4294967296+H-I-y)%4294967296]).length=k+1:=by simp[uH T]
   go_roundw
   case rel=>exact⟨S++[(4294967296+H-I-y)%4294967296],1-(4294967296+H-I-y)/4294967296,by omega,by rw[U];go_num,dg (by omega),by omega,by rw[U];exact uH ax,(uH HF).snoc (by omega),aq,by rw[U];exact ay⟩
   case measure=>simp[intOf];omega
  ·have N:=uH Q S y hf (by omega) M.out
   have Z:=ac N
   obtain⟨D,l,e1,e2,e3,e4⟩:=iQ z hf
   have E2:=ac e2
   have E3:=ac e3
   have aa:S.length=A.length:=by omega
   have T:=ac aa
   subst e1
   clear N M O z e2 e3 e4 Q aa
   go_wp2
   go_ret
   exact⟨D,l,S,rfl,uH E2,uH E3,uH T,uH Z,d⟩
attribute [local go_sem ↓] Go.wp_at_zero Go.wp_at_succ
theorem t7(d:Bool)(F G:Option Addr)(H I:Nat)(A B:List Nat)(w:World)(hA:af w F H A)(hB:af w G I B)(la:A.length≤35184372088830)(lb:B.length≤35184372088830):
  Calls Tryz.prog 92 #[.agg #[.bool d,.slice F A.length H],.agg #[.bool d,.slice G B.length I]] w fun e l=>∃v,e=.returned v∧aP (max A.length B.length+1) w.heap.size l v (aj d A+aj d B)∧Below w.heap.size w l:=by
 have J:∀L:List Nat,val L=val A+val B→aj d L=aj d A+aj d B:=by
  intro L h;unfold aj;cases d<;>simp[h]<;>omega
 have HS:=ac J
 clear J
 generalize aj d A+aj d B=z at*
 go_enter Tryz.func92,Tryz.ntmps92
 go_wp2
 refine aG (fun W=>Below w.heap.size w W∧W.heap.size=w.heap.size+3∧aC W w.heap.size (.bool d) (.slice F A.length H)∧aC W (w.heap.size+1) (.bool d) (.slice G B.length I)∧aC W (w.heap.size+2) (.bool false) (.slice none 0 0)) ?_ ?_
 ·refine⟨((((Below.refl _ _).alloc (Nat.le_refl _) _).alloc (by simp) _).alloc (by simp;omega) _),by simp,((aC.new _ _ _).old _).old _,?_,?_⟩
  ·have:=(aC.new (w.alloc (.cells #[.bool d,.slice F A.length H] 55)) (.bool d) (.slice G B.length I)).old (.cells #[.bool false,.slice none 0 0] 55)
   simpa using this
  ·have:=aC.new ((w.alloc (.cells #[.bool d,.slice F A.length H] 55)).alloc (.cells #[.bool d,.slice G B.length I] 55)) (.bool false) (.slice none 0 0)
   simpa using this
 rintro Q ⟨t,T,Y,x1,x2⟩
 have hK:∀l,Below (w.heap.size+2) Q l→Below (w.heap.size+2) Q l∧l.cell? ⟨w.heap.size,0,none⟩=some (.bool d)∧l.cell? ⟨w.heap.size,1,none⟩=some (.slice F A.length H)∧l.cell? ⟨w.heap.size+1,1,none⟩=some (.slice G B.length I):=fun l h=>
  ⟨h,(Y.below h (by omega)).c0,(Y.below h (by omega)).c1,(x1.below h (by omega)).c1⟩
 have U:=ac hK
 have HA:=ac (hA.below t)
 have HB:=ac (hB.below t)
 have X2:=ac x2
 have V:=ac t
 clear hK hA hB Y x1 x2 t
 go_region_held3(fun l=>Below (w.heap.size+2) Q l∧l.cell? ⟨w.heap.size,0,none⟩=some (.bool d)∧l.cell? ⟨w.heap.size,1,none⟩=some (.slice F A.length H)∧l.cell? ⟨w.heap.size+1,1,none⟩=some (.slice G B.length I))
  (first|exact uH U _ (Below.refl _ _).drew|exact uH U _ (by assumption)|exact uH U _ ((N.setCell (by simp) _).setCell (by simp) _))
  (first|(go_at_call 144;refine(oZ F G H I A B _ ((uH HA).below ((Below.refl _ _).drew)) ((uH HB).below ((Below.refl _ _).drew)) la lb).mono ?_;rintro e w1 ⟨ad,aa,Z,rfl,g1,g2,g3,g4,D⟩;have X:Below (w.heap.size+2) Q w1:=((Below.refl _ _).drew).trans (D.mono (by simp[T]));have X3:=ac ((uH X2).drew.below D (by simp[T]));have G1:=ac g1;have G2:=ac g2;have G4:=ac g4;have L4:Z.length≤35184372088832:=(by omega);have L5:Z.length≤max A.length B.length+1:=(by omega);have s1:=D.size;clear g1 g2 g4 g3 D)|(go_at_call 141;refine(dI _ d _ _ _ _ (uH G1) (uH G2) L4).mono ?_;rintro e w2 ⟨v,rfl,⟨n2,a2,c2,L2,rfl,i1⟩,M⟩;have N:Below (w.heap.size+2) Q w2:=X.trans (M.mono (by simp at s1;omega));have O:=(uH X3).below M (by simp at s1;omega);have y0:=O.c0;have y1:=O.c1;have f0:=O.free 0;have f1:=O.free 1;have I1:=ac i1;clear i1 M O))
 have hz:=uH HS Z (uH G4)
 have HI:=ac (hz▸uH I1)
 clear hz
 go_wp2
 refine bodyPost_ret (v:=.agg #[.bool n2,.slice a2 L2.length c2]) (by simp[results,Tryz.results92,go_sem,y0,y1]) rfl ⟨.agg #[.bool n2,.slice a2 L2.length c2],rfl,?_,?_⟩
 ·exact(aP.stored (uH HI) (by simp;omega) (by simp;omega) (by simp;omega) _ _).more (by have:=L5;omega)
 ·exact(((uH V).trans (N.mono (by omega))).setCell (by simp;omega) _).setCell (by simp;omega) _
theorem t8(D F:Bool)(G H:Option Addr)(I J:Nat)(A B:List Nat)(w:World)(hA:af w G I A)(hB:af w H J B)(la:A.length≤35184372088830)(lb:B.length≤35184372088830)(hn:D≠F):
  Calls Tryz.prog 92 #[.agg #[.bool D,.slice G A.length I],.agg #[.bool F,.slice H B.length J]] w fun e d=>∃v,e=.returned v∧aP (max A.length B.length+1) w.heap.size d v (aj D A+aj F B)∧Below w.heap.size w d:=by
 have U:(∀L:List Nat,val L=val B-val A→val A<val B→aj F L=aj D A+aj F B)∧(∀L:List Nat,val L=val A-val B→val B≤val A→aj D L=aj D A+aj F B):=by
  constructor<;>intro L h h'<;>unfold aj<;>cases D<;>cases F<;>simp at hn<;>simp[h]<;>omega
 have HS:=ac U
 clear U
 generalize aj D A+aj F B=z at*
 have ai:(D==F)=false:=by simpa using hn
 clear hn
 go_enter Tryz.func92,Tryz.ntmps92
 go_wp2_with fail
 refine(Cx G H I J A B _ (hA.below ?_) (hB.below ?_) (by omega) (by omega)).mono ?_
 ·exact(((Below.refl _ _).alloc (Nat.le_refl _) _).alloc (by simp) _).alloc (by simp;omega) _
 ·exact(((Below.refl _ _).alloc (Nat.le_refl _) _).alloc (by simp) _).alloc (by simp;omega) _
 rintro e d ⟨rfl,rfl⟩
 by_cases hv:val A<val B
 ·rw[jg (by omega)]
  have V:=ac (fun L h=>(uH HS).1 L h hv)
  clear HS
  go_wp2
  refine aG (fun W=>Below w.heap.size w W∧W.heap.size=w.heap.size+3∧aC W w.heap.size (.bool D) (.slice G A.length I)∧aC W (w.heap.size+1) (.bool F) (.slice H B.length J)∧aC W (w.heap.size+2) (.bool false) (.slice none 0 0)) ?_ ?_
  ·refine⟨((((Below.refl _ _).alloc (Nat.le_refl _) _).alloc (by simp) _).alloc (by simp;omega) _),by simp,(((aC.new _ _ _).old _).old _),?_,?_⟩
   ·have:=((aC.new (w.alloc (.cells #[.bool D,.slice G A.length I] 55)) (.bool F) (.slice H B.length J)).old (.cells #[.bool false,.slice none 0 0] 55))
    simpa using this
   ·have:=(aC.new ((w.alloc (.cells #[.bool D,.slice G A.length I] 55)).alloc (.cells #[.bool F,.slice H B.length J] 55)) (.bool false) (.slice none 0 0))
    simpa using this
  rintro Q ⟨l,T,x0,x1,x2⟩
  have hK:∀d,Below (w.heap.size+2) Q d→Below (w.heap.size+2) Q d∧d.cell? ⟨w.heap.size+1,0,none⟩=some (.bool F)∧d.cell? ⟨w.heap.size,1,none⟩=some (.slice G A.length I)∧d.cell? ⟨w.heap.size+1,1,none⟩=some (.slice H B.length J):=fun d h=>
   ⟨h,(x1.below h (by omega)).c0,(x0.below h (by omega)).c1,(x1.below h (by omega)).c1⟩
  have X:=ac hK
  have HA:=ac (hA.below l)
  have HB:=ac (hB.below l)
  have X2:=ac x2
  have Y:=ac l
  have Z:val A≤val B:=by omega
  clear hK hA hB x0 x1 x2 l
  go_region_held3(fun d=>Below (w.heap.size+2) Q d∧d.cell? ⟨w.heap.size+1,0,none⟩=some (.bool F)∧d.cell? ⟨w.heap.size,1,none⟩=some (.slice G A.length I)∧d.cell? ⟨w.heap.size+1,1,none⟩=some (.slice H B.length J))
   (first|exact uH X _ (Below.refl _ _).drew|exact uH X _ (by assumption)|exact uH X _ ((N.setCell (by simp) _).setCell (by simp) _))
   (first|(go_at_call 147;refine(rp H G J I B A _ ((uH HB).below ((Below.refl _ _).drew)) ((uH HA).below ((Below.refl _ _).drew)) lb la Z).mono ?_;rintro e w1 ⟨ae,ad,L',rfl,g1,g2,g3,g4,t⟩;have aa:Below (w.heap.size+2) Q w1:=((Below.refl _ _).drew).trans (t.mono (by simp[T]));have X3:=ac ((uH X2).drew.below t (by simp[T]));have G1:=ac g1;have G2:=ac g2;have G4:=ac g4;have L4:L'.length≤35184372088832:=(by omega);have L5:L'.length≤max A.length B.length+1:=(by omega);have s1:=t.size;clear g1 g2 g4 g3 t)|(go_at_call 141;refine(dI _ F _ _ _ _ (uH G1) (uH G2) L4).mono ?_;rintro e w2 ⟨v,rfl,⟨n2,a2,c2,L2,rfl,i1⟩,M⟩;have N:Below (w.heap.size+2) Q w2:=aa.trans (M.mono (by simp at s1;omega));have O:=(uH X3).below M (by simp at s1;omega);have y0:=O.c0;have y1:=O.c1;have f0:=O.free 0;have f1:=O.free 1;have I1:=ac i1;clear i1 M O))
  have hz:=uH V L' (uH G4)
  have HI:=ac (hz▸uH I1)
  clear hz
  go_wp2
  refine bodyPost_ret (v:=.agg #[.bool n2,.slice a2 L2.length c2]) (by simp[results,Tryz.results92,go_sem,y0,y1]) rfl ⟨.agg #[.bool n2,.slice a2 L2.length c2],rfl,?_,?_⟩
  ·exact(aP.stored (uH HI) (by simp;omega) (by simp;omega) (by simp;omega) _ _).more (by have:=L5;omega)
  ·exact(((uH Y).trans (N.mono (by omega))).setCell (by simp;omega) _).setCell (by simp;omega) _
 ·have am:¬cU (val A) (val B)<0:=by unfold cU;rw[if_neg (by omega)];split<;>omega
  generalize cU (val A) (val B)=cm at*
  have V:=ac (fun L h=>(uH HS).2 L h (by omega))
  clear HS
  go_wp2
  refine aG (fun W=>Below w.heap.size w W∧W.heap.size=w.heap.size+3∧aC W w.heap.size (.bool D) (.slice G A.length I)∧aC W (w.heap.size+1) (.bool F) (.slice H B.length J)∧aC W (w.heap.size+2) (.bool false) (.slice none 0 0)) ?_ ?_
  ·refine⟨((((Below.refl _ _).alloc (Nat.le_refl _) _).alloc (by simp) _).alloc (by simp;omega) _),by simp,(((aC.new _ _ _).old _).old _),?_,?_⟩
   ·have:=((aC.new (w.alloc (.cells #[.bool D,.slice G A.length I] 55)) (.bool F) (.slice H B.length J)).old (.cells #[.bool false,.slice none 0 0] 55))
    simpa using this
   ·have:=(aC.new ((w.alloc (.cells #[.bool D,.slice G A.length I] 55)).alloc (.cells #[.bool F,.slice H B.length J] 55)) (.bool false) (.slice none 0 0))
    simpa using this
  rintro Q ⟨l,T,x0,x1,x2⟩
  have hK:∀d,Below (w.heap.size+2) Q d→Below (w.heap.size+2) Q d∧d.cell? ⟨w.heap.size,0,none⟩=some (.bool D)∧d.cell? ⟨w.heap.size,1,none⟩=some (.slice G A.length I)∧d.cell? ⟨w.heap.size+1,1,none⟩=some (.slice H B.length J):=fun d h=>
   ⟨h,(x0.below h (by omega)).c0,(x0.below h (by omega)).c1,(x1.below h (by omega)).c1⟩
  have X:=ac hK
  have HA:=ac (hA.below l)
  have HB:=ac (hB.below l)
  have X2:=ac x2
  have Y:=ac l
  have Z:val B≤val A:=by omega
  clear hK hA hB x0 x1 x2 l
  go_region_held3(fun d=>Below (w.heap.size+2) Q d∧d.cell? ⟨w.heap.size,0,none⟩=some (.bool D)∧d.cell? ⟨w.heap.size,1,none⟩=some (.slice G A.length I)∧d.cell? ⟨w.heap.size+1,1,none⟩=some (.slice H B.length J))
   (first|exact uH X _ (Below.refl _ _).drew|exact uH X _ (by assumption)|exact uH X _ ((N.setCell (by simp) _).setCell (by simp) _))
   (first|(go_at_call 147;refine(rp G H I J A B _ ((uH HA).below ((Below.refl _ _).drew)) ((uH HB).below ((Below.refl _ _).drew)) la lb Z).mono ?_;rintro e w1 ⟨ae,ad,L',rfl,g1,g2,g3,g4,t⟩;have aa:Below (w.heap.size+2) Q w1:=((Below.refl _ _).drew).trans (t.mono (by simp[T]));have X3:=ac ((uH X2).drew.below t (by simp[T]));have G1:=ac g1;have G2:=ac g2;have G4:=ac g4;have L4:L'.length≤35184372088832:=(by omega);have L5:L'.length≤max A.length B.length+1:=(by omega);have s1:=t.size;clear g1 g2 g4 g3 t)|(go_at_call 141;refine(dI _ D _ _ _ _ (uH G1) (uH G2) L4).mono ?_;rintro e w2 ⟨v,rfl,⟨n2,a2,c2,L2,rfl,i1⟩,M⟩;have N:Below (w.heap.size+2) Q w2:=aa.trans (M.mono (by simp at s1;omega));have O:=(uH X3).below M (by simp at s1;omega);have y0:=O.c0;have y1:=O.c1;have f0:=O.free 0;have f1:=O.free 1;have I1:=ac i1;clear i1 M O))
  have hz:=uH V L' (uH G4)
  have HI:=ac (hz▸uH I1)
  clear hz
  go_wp2
  refine bodyPost_ret (v:=.agg #[.bool n2,.slice a2 L2.length c2]) (by simp[results,Tryz.results92,go_sem,y0,y1]) rfl ⟨.agg #[.bool n2,.slice a2 L2.length c2],rfl,?_,?_⟩
  ·exact(aP.stored (uH HI) (by simp;omega) (by simp;omega) (by simp;omega) _ _).more (by have:=L5;omega)
  ·exact(((uH Y).trans (N.mono (by omega))).setCell (by simp;omega) _).setCell (by simp;omega) _
theorem wT(d h:Bool)(l t:Option Addr)(z D:Nat)(A B:List Nat)(w:World)(F:af w l z A)(G:af w t D B)(H:A.length≤35184372088830)(I:B.length≤35184372088830):
  Calls Tryz.prog 92 #[.agg #[.bool d,.slice l A.length z],.agg #[.bool h,.slice t B.length D]] w fun e J=>∃v,e=.returned v∧aP (max A.length B.length+1) w.heap.size J v (aj d A+aj h B)∧Below w.heap.size w J:=by
 by_cases L:d=h
 ·subst L;exact t7 d l t z D A B w F G H I
 ·exact t8 d h l t z D A B w F G H I L
end Go.Proofs.YtmpkkhackbpflaaGreatDoor
namespace Go.Proofs.YtmpkkhackbpflaaGreatDoor
theorem FY(s y p:Nat)(d:s<2^p)(l:y%2^p=0):s|||y=s+y:=by
 have h:=Nat.two_pow_add_eq_or_of_lt d (y/2^p)
 have e:2^p*(y/2^p)=y:=by have:=Nat.div_add_mod y (2^p);omega
 rw[e]at h
 rw[Nat.or_comm,←h];omega
theorem Cy(x p:Nat)(d:p≤32):(x*2^p)%4294967296%2^p=0:=by
 have e:(4294967296:Nat)=2^p*2^(32-p):=by rw[←Nat.pow_add,show p+(32-p)=32 by omega]
 rw[e,Nat.mod_mul_right_mod]
 exact Nat.mul_mod_left _ _
theorem Ap(x p:Nat)(d:x<4294967296)(_hp:p≤31):(x*2^p)/4294967296<2^p:=by
 rw[Nat.div_lt_iff_lt_mul (by decide),Nat.mul_comm]
 exact Nat.mul_lt_mul_of_pos_left d (Nat.pow_pos (by decide))
theorem sD(x p:Nat)(l:x<4294967296)(d:p≤31):x*2^p<9223372036854775808:=by
 have h:2^p≤2^31:=Nat.pow_le_pow_right (by decide) d
 have t:=Nat.mul_le_mul (show x≤4294967295 by omega) h
 omega
theorem FZ(A S:List Nat)(i l p x s:Nat)(d:i+l+1<S.length)(z:A[i]?.getD 0=x)(D:S[i+l]?.getD 0=s)(F:S[i+l+1]?.getD 0=0)(h:val S=4294967296^l*2^p*val (A.take i)):
  val ((S.set (i+l) (s+(x*2^p)%4294967296)).set (i+l+1) ((x*2^p)/4294967296))=4294967296^l*2^p*val (A.take (i+1)):=by
 have G:=lO S (i+l) (s+(x*2^p)%4294967296) (by omega)
 have t:=lO (S.set (i+l) (s+(x*2^p)%4294967296)) (i+l+1) ((x*2^p)/4294967296) (by simpa using d)
 rw[gG _ _ _ _ (by omega),F,Nat.mul_zero]at t
 rw[D,Nat.mul_add]at G
 have e:=jK (4294967296^(i+l)) 4294967296 (x*2^p)
 rw[Nat.pow_succ]at t
 rw[aR A i,z,Nat.mul_add]
 have H:4294967296^l*2^p*(4294967296^i*x)=4294967296^(i+l)*(x*2^p):=by
  rw[Nat.pow_add]
  rw[Nat.mul_assoc,Nat.mul_comm (4294967296^i) (4294967296^l),Nat.mul_assoc]
  congr 1
  rw[Nat.mul_comm (2^p),Nat.mul_assoc]
 rw[H]
 omega
theorem t9(L:List Nat)(h:bM L)(k:Nat):val (L.drop k)=val L/4294967296^k:=by
 have d:=iM L k
 have l:=iy L h k
 rw[d,Nat.add_comm,Nat.mul_comm,Nat.add_comm]
 rw[Nat.add_mul_div_right _ _ (Nat.pow_pos (by decide)),Nat.div_eq_of_lt l,Nat.zero_add]
theorem sE(D:List Nat):val D=D[0]?.getD 0+4294967296*(D[1]?.getD 0)+4294967296*4294967296*val (D.drop 2):=by
 match D with
 | []=>simp[val]
 | [x]=>simp[val]
 |x::y::r=>simp only[val,List.getElem?_cons_zero,List.getElem?_cons_succ,Option.getD_some,List.drop_succ_cons,List.drop_zero];rw[Nat.mul_add,←Nat.mul_assoc];omega
theorem F0(d h r p:Nat)(l:p≤31):((d+4294967296*h+4294967296*4294967296*r)/2^p)%4294967296=((d+4294967296*h)/2^p)%4294967296:=by
 have e:(4294967296*4294967296*r:Nat)=2^p*(2^(32-p)*(4294967296*r)):=by
  rw[←Nat.mul_assoc (2^p),←Nat.pow_add,show p+(32-p)=32 by omega]
  rw[Nat.mul_assoc]
 rw[e,Nat.add_mul_div_left _ _ (Nat.pow_pos (by decide)),←Nat.mul_assoc,Nat.mul_comm (2^(32-p)),Nat.mul_assoc,Nat.add_mul_mod_self_left]
theorem rq(A S:List Nat)(z:bM A)(k l p d t:Nat)(D:p≤31)(F:k<S.length)(G:A[k+l]?.getD 0=d)(H:A[k+l+1]?.getD 0=t)(h:val (S.take k)=(val A/(4294967296^l*2^p))%4294967296^k):
  val ((S.set k (((d+4294967296*t)/2^p)%4294967296)).take (k+1))=(val A/(4294967296^l*2^p))%4294967296^(k+1):=by
 rw[jf S k _ F,h,Nat.pow_succ,Nat.mod_mul]
 congr 2
 have I:val A/(4294967296^l*2^p)/4294967296^k=val (A.drop (k+l))/2^p:=by
  rw[t9 A z,Nat.div_div_eq_div_mul,Nat.div_div_eq_div_mul,Nat.pow_add]
  congr 1
  rw[Nat.mul_comm (4294967296^k),Nat.mul_assoc,Nat.mul_assoc,Nat.mul_comm (2^p)]
 rw[I,sE (A.drop (k+l)),List.getElem?_drop,List.getElem?_drop,Nat.add_zero,G,H,F0 _ _ _ _ D]
theorem ud(A S:List Nat)(d:bM A)(l p:Nat)(t:S.length=A.length-l)(h:val (S.take S.length)=(val A/(4294967296^l*2^p))%4294967296^S.length):val S=val A/(4294967296^l*2^p):=by
 rw[List.take_length]at h
 rw[h]
 apply Nat.mod_eq_of_lt
 have z:=eW A d
 have D:val A/(4294967296^l*2^p)≤val A/4294967296^l:=by
  rw[←Nat.div_div_eq_div_mul];exact Nat.div_le_self _ _
 refine Nat.lt_of_le_of_lt D ?_
 rw[Nat.div_lt_iff_lt_mul (Nat.pow_pos (by decide)),←Nat.pow_add,t]
 exact Nat.lt_of_lt_of_le z (Nat.pow_le_pow_right (by decide) (by omega))
theorem kT(l p:Nat):4294967296^l*2^p=2^(32*l+p):=by
 rw[Nat.pow_add,Nat.pow_mul]
end Go.Proofs.YtmpkkhackbpflaaGreatDoor
