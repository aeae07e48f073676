/- Part 5 of the texts. -/
import Derived.Test.YtnnfjeieennffaaGreatDoorPartc04
set_option maxHeartbeats 400000
set_option maxRecDepth 20000
namespace Go.Proofs.YtnnfjeieennffaaGreatDoor
open Go.RowKit
theorem ah(w:World)(a p:Addr)(u:Value)(h:a.block≠p.block):(w.setCell p u).cell? a=w.cell? a:=
 World.cell?_of_block (Below.heap_setCell w p u a.block h)
theorem ag.store{w:World}{l:Option Addr}{f B:Nat}{L:List Nat}(h:ag w l f L)(D:bG B l L){p:Addr}(M:p.block<B)(u:Value):ag (w.setCell p u) l f L:=by
 refine⟨h.1,h.2.1,?_⟩
 rcases h.2.2 with m|⟨b,t,z,G,H⟩
 ·exact .inl m
 ·rcases D with m|⟨N,A,d,K⟩
  ·exact .inl m
  ·rw[z]at d
   simp only[Option.some.injEq,Addr.mk.injEq]at d
   obtain⟨rfl,rfl,_⟩:=d
   refine .inr ⟨b,t,z,by simpa[World.setCell]using G,fun i F=>?_⟩
   rw[ah w _ p u (by simp;omega)]
   exact H i F
theorem au.stored{B l:Nat}{w:World}{n:Bool}{f:Option Addr}{d:Nat}{L:List Nat}{x:Int}(h:ag w f d L∧bG B f L∧bN L∧n=decide (x<0)∧ak L=x.natAbs∧L.length≤35184372088832){p q:Addr}(m:p.block<B)(t:q.block<B)(z:l≤B)(u u':Value):
  au l ((w.setCell p u).setCell q u') (.agg #[.bool n,.slice f L.length d]) x:=
 ⟨n,f,d,L,rfl,(h.1.store h.2.1 m u).store h.2.1 t u',h.2.1.mono z,h.2.2⟩
theorem Tryz.info124:(Tryz.prog.info? 124).map (fun i=>(i.zero,i.size,i.bytes))=some (some (.int .u32 0),1,4):=by kernel_rfl
theorem cQ{k:IntKind}{a b:Int}(h:a=b):Value.int k a=.int k b:=by rw[h]
theorem gU(f:Option Addr)(d:Nat)(L:List Nat)(i:Int)(k x:Nat)(w:World)(h:ag w f d L)(l:L.length≤35184372088830)(m:i=(k:Int))(t:Hid (L[k]?.getD 0=x)):
  Calls Tryz.prog 217 #[.slice f L.length d,.int .i64 i] w fun e w'=>e=.returned (.int .u64 (x:Int))∧w=w':=by
 have:=uu f d L i k w h l m
 rwa[t.out]at this
theorem qw(X Y:Option Addr)(Z cb:Nat)(A B:List Nat)(w:World)(hA:ag w X Z A)(hB:ag w Y cb B)(la:A.length≤35184372088830)(lb:B.length≤35184372088830):
  Calls Tryz.prog 228 #[.slice X A.length Z,.slice Y B.length cb] w fun e w'=>∃L z N,e=.returned (.slice L N.length z)∧ag w' L z N∧bG w.heap.size L N∧N.length=max A.length B.length+1∧ak N=ak A+ak B∧Below w.heap.size w w':=by
 obtain⟨i0,hi,a1,a2,a3⟩:=info_parts Tryz.info124
 obtain⟨n,hn⟩:∃n,n=max A.length B.length+1:=⟨_,rfl⟩
 have n1:A.length+1≤n:=by omega
 have n2:B.length+1≤n:=by omega
 have n3:n≤35184372088831:=by omega
 have HN:=aa hn
 clear hn
 go_enter Tryz.func228,Tryz.ntmps228
 go_wp2_with(at_make;have hn:=uH HN;refine wpList_make_full _ rfl _ _ 48 rfl w.heap.size 124 i0 (.int .u32 0) 1 Tryz.underlying48 hi a1 a2 .i64 .i64 _ _ n rfl rfl (by omega) (by omega) (by rw[a3];omega) (by unfold maxLen;omega) (Nat.le_refl _) ?_;clear hn;intro w1 K f)
 all_goals
  have D:=bP.made K
  have ae:Below w.heap.size w w1:=(Below.refl _ _).grown f (Nat.le_refl _) (fun k h=>by simp at h)
  have a4:w.heap.size<w1.heap.size:=D.lt
  clear K f
  go_wp2
  go_loopw[6,17] (fun c i wr=>∃(k:Nat) (S:List Nat) (y:Nat),k≤n∧i=.int .i64 k∧c=.int .u64 y∧y≤1∧bP wr w.heap.size S∧S.length=n∧bd S∧Below w.heap.size w wr∧Hid (ak (S.take k)+4294967296^k*y=ak (A.take k)+ak (B.take k)))
   (fun _ i _=>n-(intOf i).toNat)
  case atStart=>exact⟨0,List.replicate n 0,0,Nat.zero_le _,rfl,rfl,by omega,D,by simp,bd.zeros _,ae,by unfold Hid;simp[ak]⟩
  case round=>
   obtain⟨k,S,y,hk,rfl,rfl,hy,M,l,hf,d,V⟩:=hrel
   by_cases a5:k<n
   ·obtain⟨G,m⟩:∃x,A[k]?.getD 0=x:=⟨_,rfl⟩
    obtain⟨H,t⟩:∃x,B[k]?.getD 0=x:=⟨_,rfl⟩
    have ba:G<4294967296:=by rw[←m];exact hA.lt k
    have bb:H<4294967296:=by rw[←t];exact hB.lt k
    have cA:=hA.below d
    have cB:=hB.below d
    have O:=zB A B S k y G H (by omega) m t V.out
    have aj:=aa O
    have am:=aa m
    have ax:=aa t
    have aI:=M.cell k (by omega)
    have a0:=M.free k
    have HR:=aa M
    clear O m t V M
    generalize hS:S[k]?.getD 0=sk at*
    clear hS
    go_wp2_with(first|(go_at_call_of 217 (Value.slice X A.length Z);refine(gU X Z A _ k G _ cA la rfl am).mono ?_;rintro e w' ⟨rfl,rfl⟩)|(go_at_call_of 217 (Value.slice Y B.length cb);refine(gU Y cb B _ k H _ cB lb rfl ax).mono ?_;rintro e w' ⟨rfl,rfl⟩))
    have ec:(((y+(G+H))%4294967296:Nat):Int)=((y:Int)+((G:Int)+(H:Int)))%4294967296:=by omega
    have Q:=(uH HR).set k ((y+(G+H))%4294967296)
    rw[ec]at Q
    go_roundw
    case rel=>exact⟨k+1,S.set k ((y+(G+H))%4294967296),(y+(G+H))/4294967296,by omega,by go_num,cQ (by omega),by omega,Q,by simpa using l,hf.set _ _ (by omega),d.setCell (by simp) _,aj⟩
    case measure=>simp[intOf];omega
   ·have F:=wo A B S n y hA.2.1 hB.2.1 n1 n2 l (by rw[show n=k by omega];exact V.out)
    have U:=aa F
    have HR:=aa M
    have HV:=aa V
    clear F M V
    go_wp2
    go_ret
    have hN:=uH HN
    refine⟨some ⟨w.heap.size,0,none⟩,n,S,by rw[l];rfl,(uH HR).limbs hf n (by omega),.inr ⟨_,_,rfl,Nat.le_refl _⟩,by rw[l];exact hN,uH U,d⟩
theorem fw(f:Option Addr)(d:Nat)(L:List Nat)(i:Int)(k x:Nat)(w:World)(h:ag w f d L)(l:L.length≤35184372088830)(m:i=(k:Int))(t:Hid (L[k]?.getD 0=x)):
  Calls Tryz.prog 137 #[.slice f L.length d,.int .i64 i] w fun e w'=>e=.returned (.int .u64 (x:Int))∧w=w':=by
 have:=zN f d L i k w h l m
 rwa[t.out]at this
theorem zO(D F:Option Addr)(G H:Nat)(A B:List Nat)(w:World)(U:ag w D G A)(V:ag w F H B)(la:A.length≤35184372088830)(lb:B.length≤35184372088830):
  Calls Tryz.prog 99 #[.slice D A.length G,.slice F B.length H] w fun e w'=>e=.returned (.int .i64 (bs (ak A) (ak B)))∧w=w':=by
 obtain⟨n,hn⟩:∃n,n=max A.length B.length:=⟨_,rfl⟩
 have K:∀t:Nat,(∀i:Nat,t<i→A[i]?.getD 0=B[i]?.getD 0)→(A[t]?.getD 0<B[t]?.getD 0→(-1:Int)=bs (ak A) (ak B))∧(B[t]?.getD 0<A[t]?.getD 0→(1:Int)=bs (ak A) (ak B)):=by
  intro t h1
  constructor
  ·intro h2
   have:=jf A B U.2.1 t h1 h2
   rw[dz (by omega)]
  ·intro h2
   have:=jf B A V.2.1 t (fun i hi=>(h1 i hi).symm) h2
   rw[ew (by omega)]
 have X:(∀i:Nat,A[i]?.getD 0=B[i]?.getD 0)→(0:Int)=bs (ak A) (ak B):=by
  intro h
  have:=je A B h
  simp[this,bs]
 have Y:∀i:Nat,n≤i→A[i]?.getD 0=B[i]?.getD 0:=fun i hi=>by
  rw[List.getElem?_eq_none (by omega),List.getElem?_eq_none (by omega)]
 have HT:=aa K
 have HQ:=aa X
 have HA:=aa Y
 have HN:=aa hn
 have n3:n≤35184372088830:=by omega
 clear K X Y
 generalize bs (ak A) (ak B)=s at*
 rcases(show(A.length<B.length∧n=B.length)∨(¬A.length<B.length∧n=A.length) by omega)with⟨hm,e⟩|⟨hm,e⟩
 all_goals
  have HE:=aa e
  clear hn e
  go_enter Tryz.func99,Tryz.ntmps99
  go_wp2
  go_loop [5] (fun i=>∃m:Nat,m≤n+1∧i=.int .i64 ((m:Int)-1)∧Hid (∀j,m≤j→A[j]?.getD 0=B[j]?.getD 0)) (fun i=>(intOf i+1).toNat)
  case atStart=>exact⟨n+1,by omega,cQ (by have:=uH HE;omega),fun j hj=>uH HA j (by omega)⟩
  case round=>
   obtain⟨m,ae,rfl,Z⟩:=hrel
   clear HA HN HE
   by_cases h0:m=0
   ·subst h0
    have L:=aa (uH HQ (fun i=>Z.out i (by omega)))
    clear HT HQ
    go_wp2
    go_ret
    exact⟨aM (uH L),rfl⟩
   ·obtain⟨O,f⟩:∃x,A[m-1]?.getD 0=x:=⟨_,rfl⟩
    obtain⟨Q,l⟩:∃x,B[m-1]?.getD 0=x:=⟨_,rfl⟩
    have ba:O<4294967296:=by rw[←f];exact U.lt _
    have bb:Q<4294967296:=by rw[←l];exact V.lt _
    have hT:=uH HT (m-1) (fun i hi=>Z.out i (by omega))
    rw[f,l]at hT
    have d:=aa hT
    have z:Hid (O=Q→∀j,m-1≤j→A[j]?.getD 0=B[j]?.getD 0):=fun e j hj=>by
     by_cases h:m≤j
     ·exact Z.out j h
     ·rw[show j=m-1 by omega,f,l];exact e
    have M:=aa f
    have N:=aa l
    clear hT f l Z HT HQ
    rcases Nat.lt_trichotomy O Q with h|h|h
    ·have L:=aa ((uH d).1 h)
     clear d z
     go_wp2_with(first|(go_at_call_of 137 (Value.slice D A.length G);refine(fw D G A _ (m-1) O _ U la (by omega) M).mono ?_;rintro e w' ⟨rfl,rfl⟩)|(go_at_call_of 137 (Value.slice F B.length H);refine(fw F H B _ (m-1) Q _ V lb (by omega) N).mono ?_;rintro e w' ⟨rfl,rfl⟩))
     go_ret
     exact⟨aM (uH L),rfl⟩
    ·have L:=aa (uH z h)
     clear d z
     go_wp2_with(first|(go_at_call_of 137 (Value.slice D A.length G);refine(fw D G A _ (m-1) O _ U la (by omega) M).mono ?_;rintro e w' ⟨rfl,rfl⟩)|(go_at_call_of 137 (Value.slice F B.length H);refine(fw F H B _ (m-1) Q _ V lb (by omega) N).mono ?_;rintro e w' ⟨rfl,rfl⟩))
     go_round
     case rel=>exact⟨m-1,by omega,cQ (by omega),uH L⟩
     case measure=>simp[intOf];omega
    ·have L:=aa ((uH d).2 h)
     clear d z
     go_wp2_with(first|(go_at_call_of 137 (Value.slice D A.length G);refine(fw D G A _ (m-1) O _ U la (by omega) M).mono ?_;rintro e w' ⟨rfl,rfl⟩)|(go_at_call_of 137 (Value.slice F B.length H);refine(fw F H B _ (m-1) Q _ V lb (by omega) N).mono ?_;rintro e w' ⟨rfl,rfl⟩))
     go_ret
     exact⟨aM (uH L),rfl⟩
def aE(M B:Nat)(w:World)(v:Value)(x:Int):Prop:=
 ∃neg ao cap L,v=.agg #[.bool neg,.slice ao L.length cap]∧ag w ao cap L∧bG B ao L∧bN L∧neg=decide (x<0)∧ak L=x.natAbs∧L.length≤M
theorem aE.below{M B:Nat}{w w':World}{v:Value}{x:Int}(h:aE M B w v x)(f:Below w.heap.size w w'):aE M B w' v x:=by
 obtain⟨neg,l,d,L,m,t,z⟩:=h
 exact⟨neg,l,d,L,m,t.below f,z⟩
theorem aE.more{M f B:Nat}{w:World}{v:Value}{x:Int}(h:aE M B w v x)(G:M≤f):aE f B w v x:=by
 obtain⟨neg,l,d,L,m,t,z,A,D,F,H⟩:=h
 exact⟨neg,l,d,L,m,t,z,A,D,F,by omega⟩
theorem aE.zero(M B:Nat)(w:World)(f:Option Addr)(d:Nat):aE M B w (.agg #[.bool false,.slice f 0 d]) 0:=
 ⟨false,f,d,[],rfl,ag.nil _ _ _,.inl rfl,.inl rfl,rfl,rfl,by simp⟩
theorem jP{n:Bool}{L:List Nat}{x:Int}(h:n=decide (x<0))(f:ak L=x.natAbs):af n L=x:=by
 unfold af
 rw[h]
 by_cases d:x<0
 ·simp[d];omega
 ·simp[d];omega
theorem aE.stored{M B l:Nat}{w:World}{n:Bool}{f:Option Addr}{d:Nat}{L:List Nat}{x:Int}(h:ag w f d L∧bG B f L∧bN L∧n=decide (x<0)∧ak L=x.natAbs∧L.length≤M){p q:Addr}(m:p.block<B)(t:q.block<B)(z:l≤B)(u u':Value):
  aE M l ((w.setCell p u).setCell q u') (.agg #[.bool n,.slice f L.length d]) x:=
 ⟨n,f,d,L,rfl,(h.1.store h.2.1 m u).store h.2.1 t u',h.2.1.mono z,h.2.2⟩
theorem di(B:Nat)(neg:Bool)(D:Option Addr)(d:Nat)(L:List Nat)(w:World)(h:ag w D d L)(Y:bG B D L)(hl:L.length≤35184372088832):
  Calls Tryz.prog 95 #[.bool neg,.slice D L.length d] w fun e w'=>∃v,e=.returned v∧aE L.length B w' v (af neg L)∧Below w.heap.size w w':=by
 have z:∀(k:Nat) (w':World),ag w' D d L→k≤L.length→ak (L.take k)=ak L→0<k→L[k-1]?.getD 0≠0→aE L.length B w' (.agg #[.bool neg,.slice D k d]) (af neg L):=by
  intro k w' O V m h0 A
  have f:(L.take k).length=k:=by rw[List.length_take,Nat.min_eq_left V]
  have Z:bN (L.take k):=by
   right
   rw[f,List.getElem?_take,if_pos (by omega)]
   exact A
  have h1:L.take k≠ []:=by intro e;rw[e]at f;simp at f;omega
  have Q:ak (L.take k)≠0:=fun e=>h1 ((aK _ Z).1 e)
  refine⟨neg,D,d,L.take k,by rw[f],O.take k,Y.take k,Z,?_,by rw[aP];exact m,by omega⟩
  rw[m]at Q
  unfold af;cases neg<;>simp<;>omega
 have l:ak (L.take 0)=ak L→af neg L=0:=by
  intro m
  rw[←mX (neg:=neg) m];exact gT neg
 have M:=aa z
 have N:=aa l
 clear z l Y
 have ae:=h.1
 have H:=aa h
 go_enter Tryz.func95,Tryz.ntmps95
 go_wp2
 go_loop [5] (fun i=>∃k:Nat,k≤L.length∧i=.int .i64 k∧Hid (ak (L.take k)=ak L)) (fun i=>(intOf i).toNat)
 case atStart=>exact⟨L.length,Nat.le_refl _,rfl,by unfold Hid;simp⟩
 case round=>
  obtain⟨k,V,rfl,m⟩:=hrel
  by_cases h0:k=0
  ·subst h0
   have F:=aa (uH N m.out)
   clear M N m h
   go_wp2
   refine bodyPost_ret (v:=.agg #[.bool false,.slice none 0 0]) (by simp[results,Tryz.results95,go_sem]) rfl ⟨.agg #[.bool false,.slice none 0 0],rfl,?_,(Below.refl _ _).alloc (Nat.le_refl _) _⟩
   rw[uH F];exact aE.zero _ _ _ _ _
  ·obtain⟨b,t,K,hb,X⟩:=h.ne (by omega)
   have G:=X (k-1) (by omega)
   have U:(w.alloc (.cells #[.bool false,.slice none 0 0] 50)).cell? ⟨b,t+(k-1),none⟩=some (.int .u32 ((L[k-1]?.getD 0:Nat):Int)):=by
    rw[((Below.refl _ w).alloc (Nat.le_refl _) _).cell (p:=⟨b,t+(k-1),none⟩) hb];exact G
   have aj:((k:Int)==0)=false:=by simp;omega
   have am:(0:Int)<(k:Int):=by omega
   by_cases A:L[k-1]?.getD 0=0
   ·have F:Hid (ak (L.take (k-1))=ak L):=by unfold Hid;rw[jB L k A];exact m.out
    rw[A]at G U
    clear M N m h A X
    subst K
    go_wp2
    go_round
    case rel=>exact⟨k-1,by omega,cQ (by omega),F⟩
    case measure=>simp[intOf];omega
   ·have F:=aa (fun w' O=>uH M k w' O V m.out (by omega) A)
    have ax:(((L[k-1]?.getD 0:Nat):Int)==0)=false:=by simp;omega
    clear M N m h X
    generalize L[k-1]?.getD 0=x at*
    clear A
    subst K
    go_wp2
    refine bodyPost_ret (v:=.agg #[.bool neg,.slice (some ⟨b,t,none⟩) k d]) (by simp[results,Tryz.results95,go_sem]) rfl ⟨.agg #[.bool neg,.slice (some ⟨b,t,none⟩) k d],rfl,?_,(Below.refl _ _).alloc (Nat.le_refl _) _⟩
    exact uH F _ ((uH H).below ((Below.refl _ _).alloc (Nat.le_refl _) _))
theorem k6{w:World}{f:Nat}{v:Value}{n:Nat}{S:List Nat}(h:w.ownsRow f 124 1 v n (S.map eP))(A:bd S):
  ∃t d,v=.slice t S.length d∧ag w t d S∧bG f t S∧S.length=n:=by
 have z:S.length=n:=by have:=h.1;simpa using this
 rcases h.2 with⟨m,K⟩|⟨g,d,F,m,G,H,L,M,N,O⟩
 ·have:S= []:=List.length_eq_zero_iff.1 (by omega)
  subst this
  exact⟨none,0,m,ag.nil _ _ _,.inl rfl,z⟩
 ·refine⟨some ⟨g,0,none⟩,d,by rw[z];exact m,⟨by omega,A,.inr ⟨g,0,rfl,(Array.getElem?_eq_some_iff.1 H).1,fun i D=>?_⟩⟩,.inr ⟨g,0,rfl,G⟩,z⟩
  have l:=h
  rw[m]at l
  rw[Nat.zero_add,l.cellAt i (by omega)]
  simp[eP,D]
theorem rP{w:World}{f:Nat}{v:Value}{n:Nat}{S:List Nat}{x:Nat}{d:Int}(h:w.ownsRow f 124 1 v (n+1) (S.map eP++[.int .u32 d]))(l:d=(x:Int)):w.ownsRow f 124 1 v (n+1) ((S++[x]).map eP):=by
 subst l
 simpa[eP]using h
theorem rQ(ao bo:Option Addr)(ca cb:Nat)(A B:List Nat)(w:World)(hA:ag w ao ca A)(hB:ag w bo cb B)(la:A.length≤35184372088830)(lb:B.length≤35184372088830):
  Calls Tryz.prog 98 #[.slice ao A.length ca,.slice bo B.length cb] w fun e w'=>∃m f U,e=.returned (.slice m U.length f)∧ag w' m f U∧bG w.heap.size m U∧U.length=max A.length B.length+1∧ak U=ak A+ak B∧Below w.heap.size w w':=by
 obtain⟨i0,hi,a5,a6,a7⟩:=info_parts Tryz.info124
 obtain⟨n,N⟩:∃n,n=max A.length B.length:=⟨_,rfl⟩
 have n1:A.length≤n:=by omega
 have n2:B.length≤n:=by omega
 have n3:n≤35184372088830:=by omega
 have HN:=aa N
 have V:∀(S:List Nat) (c x y:Nat),A[S.length]?.getD 0=x→B[S.length]?.getD 0=y→ak S+4294967296^S.length*c=ak (A.take S.length)+ak (B.take S.length)→ak (S++[(x+y+c)%4294967296])+4294967296^(S.length+1)*((x+y+c)/4294967296)=ak (A.take (S.length+1))+ak (B.take (S.length+1)):=fun S c x y=>xr A B S c x y
 have X:∀(S:List Nat) (c:Nat),S.length=n+1→ak S+4294967296^S.length*c=ak (A.take S.length)+ak (B.take S.length)→ak S=ak A+ak B:=by
  intro S c hl h
  refine wo A B S (n+1) c hA.2.1 hB.2.1 (by omega) (by omega) hl ?_
  rw[←hl,List.take_length];exact h
 have L:=aa V
 have M:=aa X
 clear V X
 rcases(show(A.length<B.length∧n=B.length)∨(¬A.length<B.length∧n=A.length) by omega)with⟨hm,e⟩|⟨hm,e⟩
 all_goals
  have HE:=aa e
  have n4:(n:Int)≤35184372088830:=by omega
  clear N e
  go_enter Tryz.func98,Tryz.ntmps98
  go_wp2
  go_loopw[5,6,7] (fun v c i wr=>∃(S:List Nat) (y:Nat),S.length≤n+1∧i=.int .i64 (S.length:Nat)∧c=.int .u64 y∧y≤1∧wr.ownsRow w.heap.size 124 1 v S.length (S.map eP)∧bd S∧Below w.heap.size w wr∧Hid (ak S+4294967296^S.length*y=ak (A.take S.length)+ak (B.take S.length)))
   (fun _ _ i _=>n+1-(intOf i).toNat)
  case atStart=>
   refine⟨[],0,by simp,rfl,rfl,by omega,?_,by intro x hx;simp at hx,(Below.refl _ _).alloc (Nat.le_refl _) _,by unfold Hid;simp[ak]⟩
   exact World.ownsRow_made w #[] 0 (Nat.le_refl _) (by simp[maxLen]) (by simp)
  case round=>
   obtain⟨S,y,hk,rfl,rfl,hy,l,hf,d,hv⟩:=hrel
   have N:=uH HE
   by_cases Y:S.length≤n
   ·obtain⟨H,D⟩:∃x,A[S.length]?.getD 0=x:=⟨_,rfl⟩
    obtain⟨K,F⟩:∃x,B[S.length]?.getD 0=x:=⟨_,rfl⟩
    have ba:H<4294967296:=by rw[←D];exact hA.lt _
    have bb:K<4294967296:=by rw[←F];exact hB.lt _
    have cA:=hA.below d
    have cB:=hB.below d
    have aj:=aa (uH L S y H K D F hv.out)
    have am:=aa D
    have ax:=aa F
    have aI:=d.size
    have HF:=aa hf
    clear D F hv L M hf
    generalize ae:S.length=k at*
    have a0:=aa ae
    clear ae
    have O:(k:Int)≤(n:Int):=by omega
    rw[N]at O
    clear N
    go_wp2_with(first|(go_at_call_of 137 (Value.slice ao A.length ca);refine(fw ao ca A _ k H _ cA la rfl am).mono ?_;rintro e w' ⟨rfl,rfl⟩)|(go_at_call_of 137 (Value.slice bo B.length cb);refine(fw bo cb B _ k K _ cB lb rfl ax).mono ?_;rintro e w' ⟨rfl,rfl⟩)|(at_builtin;refine wpList_append_own _ rfl _ _ 48 rfl w.heap.size 124 i0 (.int .u32 0) 1 4 Tryz.underlying48 hi a5 a6 a7 rfl (by decide) _ _ _ rfl (l.alloc _) ⟨wr.heap.size,0,none⟩ 1 1 [.int .u32 (((H:Int)+(K:Int)+(y:Int))%4294967296)] rfl rfl (cell_one_new _ _ _) (fun u hu=>by simp at hu;subst hu;rfl) (by unfold maxLen;omega) (by omega) (by simp;omega) ?_;intro v' w1 t z _;have a1:Below w.heap.size w w1:=((d.alloc aI _).grown z (by simp;omega) (fun g hg=>(l.lt g hg).1));have a2:=aa (rP (x:=(H+K+y)%4294967296) t (by omega));clear t z))
    have a3:=uH aj
    have Q:(S++[(H+K+y)%4294967296]).length=k+1:=by simp[uH a0]
    go_roundw
    case rel=>exact⟨S++[(H+K+y)%4294967296],(H+K+y)/4294967296,by omega,by rw[Q];go_num,cQ (by omega),by omega,by rw[Q];exact uH a2,(uH HF).snoc (by omega),a1,by rw[Q];exact a3⟩
    case measure=>simp[intOf];omega
   ·have G:=uH M S y (by omega) hv.out
    have Z:=aa G
    obtain⟨m,f,e1,e2,e3,e4⟩:=k6 l hf
    have E2:=aa e2
    have E3:=aa e3
    have O:¬((S.length:Nat):Int)≤(n:Int):=by omega
    rw[N]at O
    have HK:=aa hk
    have a4:=aa Y
    subst e1
    clear G hv L l N e2 e3 e4 M hk Y
    go_wp2
    go_ret
    have hN:=uH HN
    have h1:=uH HK
    have h2:=uH a4
    exact⟨m,f,S,rfl,uH E2,uH E3,by omega,uH Z,d⟩
theorem pG(ao bo:Option Addr)(ca cb:Nat)(A B:List Nat)(w:World)(hA:ag w ao ca A)(hB:ag w bo cb B)(la:A.length≤35184372088830)(lb:B.length≤35184372088830)(M:ak B≤ak A):
  Calls Tryz.prog 100 #[.slice ao A.length ca,.slice bo B.length cb] w fun e w'=>∃z l X,e=.returned (.slice z X.length l)∧ag w' z l X∧bG w.heap.size z X∧X.length=A.length∧ak X=ak A-ak B∧Below w.heap.size w w':=by
 obtain⟨i0,hi,a5,a6,a7⟩:=info_parts Tryz.info124
 have Y:∀(S:List Nat) (c x y t c':Nat),A[S.length]?.getD 0=x→B[S.length]?.getD 0=y→t+y+c=x+4294967296*c'→ak S+ak (B.take S.length)=ak (A.take S.length)+4294967296^S.length*c→ak (S++[t])+ak (B.take (S.length+1))=ak (A.take (S.length+1))+4294967296^(S.length+1)*c':=fun S c x y t c'=>uv A B S c x y t c'
 have Z:∀(S:List Nat) (c:Nat),bd S→S.length=A.length→ak S+ak (B.take S.length)=ak (A.take S.length)+4294967296^S.length*c→ak S=ak A-ak B:=by
  intro S c f hl h
  refine ws A B S A.length c f hl rfl M (wt A B hA.2.1 M) ?_
  rw[←hl,List.take_length];exact h
 have O:=aa Y
 have Q:=aa Z
 clear Y Z M
 go_enter Tryz.func100,Tryz.ntmps100
 go_wp2
 go_loopw[5,6,7] (fun v c i wr=>∃(S:List Nat) (y:Nat),S.length≤A.length∧i=.int .i64 (S.length:Nat)∧c=.int .u64 y∧y≤1∧wr.ownsRow w.heap.size 124 1 v S.length (S.map eP)∧bd S∧Below w.heap.size w wr∧Hid (ak S+ak (B.take S.length)=ak (A.take S.length)+4294967296^S.length*y))
  (fun _ _ i _=>A.length-(intOf i).toNat)
 case atStart=>
  refine⟨[],0,by simp,rfl,rfl,by omega,?_,by intro x hx;simp at hx,(Below.refl _ _).alloc (Nat.le_refl _) _,by unfold Hid;simp[ak]⟩
  exact World.ownsRow_made w #[] 0 (Nat.le_refl _) (by simp[maxLen]) (by simp)
 case round=>
  obtain⟨S,y,hk,rfl,rfl,hy,m,hf,d,M⟩:=hrel
  by_cases a9:S.length<A.length
  ·obtain⟨G,K⟩:∃x,A[S.length]?.getD 0=x:=⟨_,rfl⟩
   obtain⟨H,L⟩:∃x,B[S.length]?.getD 0=x:=⟨_,rfl⟩
   have ba:G<4294967296:=by rw[←K];exact hA.lt _
   have bb:H<4294967296:=by rw[←L];exact hB.lt _
   have cA:=hA.below d
   have cB:=hB.below d
   have ax:=aa (uH O S y G H ((4294967296+G-H-y)%4294967296) (1-(4294967296+G-H-y)/4294967296) K L (by omega) M.out)
   have aI:=aa K
   have a0:=aa L
   have a1:=d.size
   have HF:=aa hf
   clear K L M O Q hf
   generalize am:S.length=k at*
   have U:=aa am
   clear am
   go_wp2_with(first|(go_at_call_of 137 (Value.slice ao A.length ca);refine(fw ao ca A _ k G _ cA la rfl aI).mono ?_;rintro e w' ⟨rfl,rfl⟩)|(go_at_call_of 137 (Value.slice bo B.length cb);refine(fw bo cb B _ k H _ cB lb rfl a0).mono ?_;rintro e w' ⟨rfl,rfl⟩)|(at_builtin;refine wpList_append_own _ rfl _ _ 48 rfl w.heap.size 124 i0 (.int .u32 0) 1 4 Tryz.underlying48 hi a5 a6 a7 rfl (by decide) _ _ _ rfl (m.alloc _) ⟨wr.heap.size,0,none⟩ 1 1 [.int .u32 ((4294967296+(G:Int)-(H:Int)-(y:Int))%4294967296)] rfl rfl (cell_one_new _ _ _) (fun u hu=>by simp at hu;subst hu;rfl) (by unfold maxLen;omega) (by omega) (by simp;omega) ?_;intro v' w1 D F _;have a2:Below w.heap.size w w1:=((d.alloc a1 _).grown F (by simp;omega) (fun g hg=>(m.lt g hg).1));have a3:=aa (rP (x:=(4294967296+G-H-y)%4294967296) D (by omega));clear D F))
   have a4:=uH ax
   have V:(S++[(4294967296+G-H-y)%4294967296]).length=k+1:=by simp[uH U]
   go_roundw
   case rel=>exact⟨S++[(4294967296+G-H-y)%4294967296],1-(4294967296+G-H-y)/4294967296,by omega,by rw[V];go_num,cQ (by omega),by omega,by rw[V];exact uH a3,(uH HF).snoc (by omega),a2,by rw[V];exact a4⟩
   case measure=>simp[intOf];omega
  ·have N:=uH Q S y hf (by omega) M.out
   have ae:=aa N
   obtain⟨z,l,e1,e2,e3,e4⟩:=k6 m hf
   have E2:=aa e2
   have E3:=aa e3
   have aj:S.length=A.length:=by omega
   have U:=aa aj
   subst e1
   clear N M O m e2 e3 e4 Q aj
   go_wp2
   go_ret
   exact⟨z,l,S,rfl,uH E2,uH E3,uH U,uH ae,d⟩
end Go.Proofs.YtnnfjeieennffaaGreatDoor
