/- Part 5 of the texts. -/
import Derived.Test.YtenpggicmfhhdaaGreatDoorParte04
set_option maxHeartbeats 400000
set_option maxRecDepth 20000
namespace Go.Proofs.YtenpggicmfhhdaaGreatDoor
open Go.RowKit
theorem ak(w:World)(a p:Addr)(u:Value)(h:a.block≠p.block):(w.setCell p u).cell? a=w.cell? a:=
 World.cell?_of_block (Below.heap_setCell w p u a.block h)
theorem af.store{w:World}{l:Option Addr}{f B:Nat}{L:List Nat}(h:af w l f L)(A:bI B l L){p:Addr}(I:p.block<B)(u:Value):af (w.setCell p u) l f L:=by
 refine⟨h.1,h.2.1,?_⟩
 rcases h.2.2 with m|⟨b,t,y,F,G⟩
 ·exact .inl m
 ·rcases A with m|⟨K,z,d,H⟩
  ·exact .inl m
  ·rw[y]at d
   simp only[Option.some.injEq,Addr.mk.injEq]at d
   obtain⟨rfl,rfl,_⟩:=d
   refine .inr ⟨b,t,y,by simpa[World.setCell]using F,fun i D=>?_⟩
   rw[ak w _ p u (by simp;omega)]
   exact G i D
theorem ay.stored{B l:Nat}{w:World}{n:Bool}{f:Option Addr}{d:Nat}{L:List Nat}{x:Int}(h:af w f d L∧bI B f L∧bM L∧n=decide (x<0)∧ah L=x.natAbs∧L.length≤35184372088832){p q:Addr}(m:p.block<B)(t:q.block<B)(y:l≤B)(u u':Value):
  ay l ((w.setCell p u).setCell q u') (.agg #[.bool n,.slice f L.length d]) x:=
 ⟨n,f,d,L,rfl,(h.1.store h.2.1 m u).store h.2.1 t u',h.2.1.mono y,h.2.2⟩
theorem Tryz.info139:(Tryz.prog.info? 139).map (fun i=>(i.zero,i.size,i.bytes))=some (some (.int .u32 0),1,4):=by kernel_rfl
theorem cH{k:IntKind}{a b:Int}(h:a=b):Value.int k a=.int k b:=by rw[h]
theorem gC(f:Option Addr)(d:Nat)(L:List Nat)(i:Int)(k x:Nat)(w:World)(h:af w f d L)(l:L.length≤35184372088830)(m:i=(k:Int))(t:Hid (L[k]?.getD 0=x)):
  Calls Tryz.prog 194 #[.slice f L.length d,.int .i64 i] w fun e y=>e=.returned (.int .u64 (x:Int))∧w=y:=by
 have:=sj f d L i k w h l m
 rwa[t.out]at this
theorem pk(U V:Option Addr)(X Y:Nat)(A B:List Nat)(w:World)(hA:af w U X A)(hB:af w V Y B)(la:A.length≤35184372088830)(lb:B.length≤35184372088830):
  Calls Tryz.prog 208 #[.slice U A.length X,.slice V B.length Y] w fun e Z=>∃K z M,e=.returned (.slice K M.length z)∧af Z K z M∧bI w.heap.size K M∧M.length=max A.length B.length+1∧ah M=ah A+ah B∧Below w.heap.size w Z:=by
 obtain⟨i0,hi,a0,a1,a2⟩:=info_parts Tryz.info139
 obtain⟨n,hn⟩:∃n,n=max A.length B.length+1:=⟨_,rfl⟩
 have n1:A.length+1≤n:=by omega
 have n2:B.length+1≤n:=by omega
 have n3:n≤35184372088831:=by omega
 have HN:=aa hn
 clear hn
 go_enter Tryz.func208,Tryz.ntmps208
 go_wp2_with(at_make;have hn:=uH HN;refine wpList_make_full _ rfl _ _ 106 rfl w.heap.size 139 i0 (.int .u32 0) 1 Tryz.underlying106 hi a0 a1 .i64 .i64 _ _ n rfl rfl (by omega) (by omega) (by rw[a2];omega) (by unfold maxLen;omega) (Nat.le_refl _) ?_;clear hn;intro w1 I f)
 all_goals
  have D:=bO.made I
  have ae:Below w.heap.size w w1:=(Below.refl _ _).grown f (Nat.le_refl _) (fun k h=>by simp at h)
  have a3:w.heap.size<w1.heap.size:=D.lt
  clear I f
  go_wp2
  go_loopw[6,17] (fun c i wr=>∃(k:Nat) (S:List Nat) (y:Nat),k≤n∧i=.int .i64 k∧c=.int .u64 y∧y≤1∧bO wr w.heap.size S∧S.length=n∧bd S∧Below w.heap.size w wr∧Hid (ah (S.take k)+4294967296^k*y=ah (A.take k)+ah (B.take k)))
   (fun _ i _=>n-(intOf i).toNat)
  case atStart=>exact⟨0,List.replicate n 0,0,Nat.zero_le _,rfl,rfl,by omega,D,by simp,bd.zeros _,ae,by unfold Hid;simp[ah]⟩
  case round=>
   obtain⟨k,S,y,hk,rfl,rfl,hy,L,l,hf,d,T⟩:=hrel
   by_cases a4:k<n
   ·obtain⟨G,m⟩:∃x,A[k]?.getD 0=x:=⟨_,rfl⟩
    obtain⟨H,t⟩:∃x,B[k]?.getD 0=x:=⟨_,rfl⟩
    have ba:G<4294967296:=by rw[←m];exact hA.lt k
    have bb:H<4294967296:=by rw[←t];exact hB.lt k
    have cA:=hA.below d
    have cB:=hB.below d
    have N:=xt A B S k y G H (by omega) m t T.out
    have aj:=aa N
    have am:=aa m
    have av:=aa t
    have ax:=L.cell k (by omega)
    have aI:=L.free k
    have HR:=aa L
    clear N m t T L
    generalize hS:S[k]?.getD 0=sk at*
    clear hS
    go_wp2_with(first|(go_at_call_of 194 (Value.slice U A.length X);refine(gC U X A _ k G _ cA la rfl am).mono ?_;rintro e Z ⟨rfl,rfl⟩)|(go_at_call_of 194 (Value.slice V B.length Y);refine(gC V Y B _ k H _ cB lb rfl av).mono ?_;rintro e Z ⟨rfl,rfl⟩))
    have ec:(((y+(G+H))%4294967296:Nat):Int)=((y:Int)+((G:Int)+(H:Int)))%4294967296:=by omega
    have O:=(uH HR).set k ((y+(G+H))%4294967296)
    rw[ec]at O
    go_roundw
    case rel=>exact⟨k+1,S.set k ((y+(G+H))%4294967296),(y+(G+H))/4294967296,by omega,by go_num,cH (by omega),by omega,O,by simpa using l,hf.set _ _ (by omega),d.setCell (by simp) _,aj⟩
    case measure=>simp[intOf];omega
   ·have F:=us A B S n y hA.2.1 hB.2.1 n1 n2 l (by rw[show n=k by omega];exact T.out)
    have Q:=aa F
    have HR:=aa L
    have HV:=aa T
    clear F L T
    go_wp2
    go_ret
    have hN:=uH HN
    refine⟨some ⟨w.heap.size,0,none⟩,n,S,by rw[l];rfl,(uH HR).limbs hf n (by omega),.inr ⟨_,_,rfl,Nat.le_refl _⟩,by rw[l];exact hN,uH Q,d⟩
theorem eZ(f:Option Addr)(d:Nat)(L:List Nat)(i:Int)(k x:Nat)(w:World)(h:af w f d L)(l:L.length≤35184372088830)(m:i=(k:Int))(t:Hid (L[k]?.getD 0=x)):
  Calls Tryz.prog 174 #[.slice f L.length d,.int .i64 i] w fun e y=>e=.returned (.int .u64 (x:Int))∧w=y:=by
 have:=xJ f d L i k w h l m
 rwa[t.out]at this
theorem xK(z D:Option Addr)(F G:Nat)(A B:List Nat)(w:World)(Q:af w z F A)(T:af w D G B)(Y:A.length≤35184372088830)(Z:B.length≤35184372088830):
  Calls Tryz.prog 205 #[.slice z A.length F,.slice D B.length G] w fun e I=>e=.returned (.int .i64 (bG (ah A) (ah B)))∧w=I:=by
 obtain⟨n,hn⟩:∃n,n=max A.length B.length:=⟨_,rfl⟩
 have H:∀t:Nat,(∀i:Nat,t<i→A[i]?.getD 0=B[i]?.getD 0)→(A[t]?.getD 0<B[t]?.getD 0→(-1:Int)=bG (ah A) (ah B))∧(B[t]?.getD 0<A[t]?.getD 0→(1:Int)=bG (ah A) (ah B)):=by
  intro t h1
  constructor
  ·intro h2
   have:=iS A B Q.2.1 t h1 h2
   rw[dc (by omega)]
  ·intro h2
   have:=iS B A T.2.1 t (fun i hi=>(h1 i hi).symm) h2
   rw[dU (by omega)]
 have U:(∀i:Nat,A[i]?.getD 0=B[i]?.getD 0)→(0:Int)=bG (ah A) (ah B):=by
  intro h
  have:=iR A B h
  simp[this,bG]
 have V:∀i:Nat,n≤i→A[i]?.getD 0=B[i]?.getD 0:=fun i hi=>by
  rw[List.getElem?_eq_none (by omega),List.getElem?_eq_none (by omega)]
 have HT:=aa H
 have HQ:=aa U
 have HA:=aa V
 have HN:=aa hn
 have n3:n≤35184372088830:=by omega
 clear H U V
 generalize bG (ah A) (ah B)=s at*
 rcases(show(A.length<B.length∧n=B.length)∨(¬A.length<B.length∧n=A.length) by omega)with⟨hm,e⟩|⟨hm,e⟩
 all_goals
  have HE:=aa e
  clear hn e
  go_enter Tryz.func205,Tryz.ntmps205
  go_wp2
  go_loop [5] (fun i=>∃m:Nat,m≤n+1∧i=.int .i64 ((m:Int)-1)∧Hid (∀j,m≤j→A[j]?.getD 0=B[j]?.getD 0)) (fun i=>(intOf i+1).toNat)
  case atStart=>exact⟨n+1,by omega,cH (by have:=uH HE;omega),fun j hj=>uH HA j (by omega)⟩
  case round=>
   obtain⟨m,ae,rfl,X⟩:=hrel
   clear HA HN HE
   by_cases h0:m=0
   ·subst h0
    have K:=aa (uH HQ (fun i=>X.out i (by omega)))
    clear HT HQ
    go_wp2
    go_ret
    exact⟨aQ (uH K),rfl⟩
   ·obtain⟨N,f⟩:∃x,A[m-1]?.getD 0=x:=⟨_,rfl⟩
    obtain⟨O,l⟩:∃x,B[m-1]?.getD 0=x:=⟨_,rfl⟩
    have ba:N<4294967296:=by rw[←f];exact Q.lt _
    have bb:O<4294967296:=by rw[←l];exact T.lt _
    have hT:=uH HT (m-1) (fun i hi=>X.out i (by omega))
    rw[f,l]at hT
    have d:=aa hT
    have y:Hid (N=O→∀j,m-1≤j→A[j]?.getD 0=B[j]?.getD 0):=fun e j hj=>by
     by_cases h:m≤j
     ·exact X.out j h
     ·rw[show j=m-1 by omega,f,l];exact e
    have L:=aa f
    have M:=aa l
    clear hT f l X HT HQ
    rcases Nat.lt_trichotomy N O with h|h|h
    ·have K:=aa ((uH d).1 h)
     clear d y
     go_wp2_with(first|(go_at_call_of 174 (Value.slice z A.length F);refine(eZ z F A _ (m-1) N _ Q Y (by omega) L).mono ?_;rintro e I ⟨rfl,rfl⟩)|(go_at_call_of 174 (Value.slice D B.length G);refine(eZ D G B _ (m-1) O _ T Z (by omega) M).mono ?_;rintro e I ⟨rfl,rfl⟩))
     go_ret
     exact⟨aQ (uH K),rfl⟩
    ·have K:=aa (uH y h)
     clear d y
     go_wp2_with(first|(go_at_call_of 174 (Value.slice z A.length F);refine(eZ z F A _ (m-1) N _ Q Y (by omega) L).mono ?_;rintro e I ⟨rfl,rfl⟩)|(go_at_call_of 174 (Value.slice D B.length G);refine(eZ D G B _ (m-1) O _ T Z (by omega) M).mono ?_;rintro e I ⟨rfl,rfl⟩))
     go_round
     case rel=>exact⟨m-1,by omega,cH (by omega),uH K⟩
     case measure=>simp[intOf];omega
    ·have K:=aa ((uH d).2 h)
     clear d y
     go_wp2_with(first|(go_at_call_of 174 (Value.slice z A.length F);refine(eZ z F A _ (m-1) N _ Q Y (by omega) L).mono ?_;rintro e I ⟨rfl,rfl⟩)|(go_at_call_of 174 (Value.slice D B.length G);refine(eZ D G B _ (m-1) O _ T Z (by omega) M).mono ?_;rintro e I ⟨rfl,rfl⟩))
     go_ret
     exact⟨aQ (uH K),rfl⟩
def aG(M B:Nat)(w:World)(v:Value)(x:Int):Prop:=
 ∃neg ao cap L,v=.agg #[.bool neg,.slice ao L.length cap]∧af w ao cap L∧bI B ao L∧bM L∧neg=decide (x<0)∧ah L=x.natAbs∧L.length≤M
theorem aG.below{M B:Nat}{w f:World}{v:Value}{x:Int}(h:aG M B w v x)(l:Below w.heap.size w f):aG M B f v x:=by
 obtain⟨neg,m,d,L,t,y,z⟩:=h
 exact⟨neg,m,d,L,t,y.below l,z⟩
theorem aG.more{M f B:Nat}{w:World}{v:Value}{x:Int}(h:aG M B w v x)(F:M≤f):aG f B w v x:=by
 obtain⟨neg,l,d,L,m,t,y,z,A,D,G⟩:=h
 exact⟨neg,l,d,L,m,t,y,z,A,D,by omega⟩
theorem aG.zero(M B:Nat)(w:World)(f:Option Addr)(d:Nat):aG M B w (.agg #[.bool false,.slice f 0 d]) 0:=
 ⟨false,f,d,[],rfl,af.nil _ _ _,.inl rfl,.inl rfl,rfl,rfl,by simp⟩
theorem jt{n:Bool}{L:List Nat}{x:Int}(h:n=decide (x<0))(f:ah L=x.natAbs):ad n L=x:=by
 unfold ad
 rw[h]
 by_cases d:x<0
 ·simp[d];omega
 ·simp[d];omega
theorem aG.stored{M B l:Nat}{w:World}{n:Bool}{f:Option Addr}{d:Nat}{L:List Nat}{x:Int}(h:af w f d L∧bI B f L∧bM L∧n=decide (x<0)∧ah L=x.natAbs∧L.length≤M){p q:Addr}(m:p.block<B)(t:q.block<B)(y:l≤B)(u u':Value):
  aG M l ((w.setCell p u).setCell q u') (.agg #[.bool n,.slice f L.length d]) x:=
 ⟨n,f,d,L,rfl,(h.1.store h.2.1 m u).store h.2.1 t u',h.2.1.mono y,h.2.2⟩
theorem cS(B:Nat)(neg:Bool)(D:Option Addr)(d:Nat)(L:List Nat)(w:World)(h:af w D d L)(V:bI B D L)(hl:L.length≤35184372088832):
  Calls Tryz.prog 145 #[.bool neg,.slice D L.length d] w fun e y=>∃v,e=.returned v∧aG L.length B y v (ad neg L)∧Below w.heap.size w y:=by
 have z:∀(k:Nat) (y:World),af y D d L→k≤L.length→ah (L.take k)=ah L→0<k→L[k-1]?.getD 0≠0→aG L.length B y (.agg #[.bool neg,.slice D k d]) (ad neg L):=by
  intro k y N T m Z A
  have f:(L.take k).length=k:=by rw[List.length_take,Nat.min_eq_left T]
  have X:bM (L.take k):=by
   right
   rw[f,List.getElem?_take,if_pos (by omega)]
   exact A
  have h1:L.take k≠ []:=by intro e;rw[e]at f;simp at f;omega
  have O:ah (L.take k)≠0:=fun e=>h1 ((aM _ X).1 e)
  refine⟨neg,D,d,L.take k,by rw[f],N.take k,V.take k,X,?_,by rw[aS];exact m,by omega⟩
  rw[m]at O
  unfold ad;cases neg<;>simp<;>omega
 have l:ah (L.take 0)=ah L→ad neg L=0:=by
  intro m
  rw[←lH (neg:=neg) m];exact gA neg
 have K:=aa z
 have M:=aa l
 clear z l V
 have Y:=h.1
 have H:=aa h
 go_enter Tryz.func145,Tryz.ntmps145
 go_wp2
 go_loop [5] (fun i=>∃k:Nat,k≤L.length∧i=.int .i64 k∧Hid (ah (L.take k)=ah L)) (fun i=>(intOf i).toNat)
 case atStart=>exact⟨L.length,Nat.le_refl _,rfl,by unfold Hid;simp⟩
 case round=>
  obtain⟨k,T,rfl,m⟩:=hrel
  by_cases Z:k=0
  ·subst Z
   have F:=aa (uH M m.out)
   clear K M m h
   go_wp2
   refine bodyPost_ret (v:=.agg #[.bool false,.slice none 0 0]) (by simp[results,Tryz.results145,go_sem]) rfl ⟨.agg #[.bool false,.slice none 0 0],rfl,?_,(Below.refl _ _).alloc (Nat.le_refl _) _⟩
   rw[uH F];exact aG.zero _ _ _ _ _
  ·obtain⟨b,t,I,hb,U⟩:=h.ne (by omega)
   have G:=U (k-1) (by omega)
   have Q:(w.alloc (.cells #[.bool false,.slice none 0 0] 108)).cell? ⟨b,t+(k-1),none⟩=some (.int .u32 ((L[k-1]?.getD 0:Nat):Int)):=by
    rw[((Below.refl _ w).alloc (Nat.le_refl _) _).cell (p:=⟨b,t+(k-1),none⟩) hb];exact G
   have ae:((k:Int)==0)=false:=by simp;omega
   have aj:(0:Int)<(k:Int):=by omega
   by_cases A:L[k-1]?.getD 0=0
   ·have F:Hid (ah (L.take (k-1))=ah L):=by unfold Hid;rw[jh L k A];exact m.out
    rw[A]at G Q
    clear K M m h A U
    subst I
    go_wp2
    go_round
    case rel=>exact⟨k-1,by omega,cH (by omega),F⟩
    case measure=>simp[intOf];omega
   ·have F:=aa (fun y N=>uH K k y N T m.out (by omega) A)
    have am:(((L[k-1]?.getD 0:Nat):Int)==0)=false:=by simp;omega
    clear K M m h U
    generalize L[k-1]?.getD 0=x at*
    clear A
    subst I
    go_wp2
    refine bodyPost_ret (v:=.agg #[.bool neg,.slice (some ⟨b,t,none⟩) k d]) (by simp[results,Tryz.results145,go_sem]) rfl ⟨.agg #[.bool neg,.slice (some ⟨b,t,none⟩) k d],rfl,?_,(Below.refl _ _).alloc (Nat.le_refl _) _⟩
    exact uH F _ ((uH H).below ((Below.refl _ _).alloc (Nat.le_refl _) _))
theorem kq{w:World}{f:Nat}{v:Value}{n:Nat}{S:List Nat}(h:w.ownsRow f 139 1 v n (S.map eh))(z:bd S):
  ∃t d,v=.slice t S.length d∧af w t d S∧bI f t S∧S.length=n:=by
 have y:S.length=n:=by have:=h.1;simpa using this
 rcases h.2 with⟨m,H⟩|⟨g,d,D,m,F,G,I,K,L,M⟩
 ·have:S= []:=List.length_eq_zero_iff.1 (by omega)
  subst this
  exact⟨none,0,m,af.nil _ _ _,.inl rfl,y⟩
 ·refine⟨some ⟨g,0,none⟩,d,by rw[y];exact m,⟨by omega,z,.inr ⟨g,0,rfl,(Array.getElem?_eq_some_iff.1 G).1,fun i A=>?_⟩⟩,.inr ⟨g,0,rfl,F⟩,y⟩
  have l:=h
  rw[m]at l
  rw[Nat.zero_add,l.cellAt i (by omega)]
  simp[eh,A]
theorem qt{w:World}{f:Nat}{v:Value}{n:Nat}{S:List Nat}{x:Nat}{d:Int}(h:w.ownsRow f 139 1 v (n+1) (S.map eh++[.int .u32 d]))(l:d=(x:Int)):w.ownsRow f 139 1 v (n+1) ((S++[x]).map eh):=by
 subst l
 simpa[eh]using h
theorem qu(Z bo:Option Addr)(ca cb:Nat)(A B:List Nat)(w:World)(hA:af w Z ca A)(hB:af w bo cb B)(la:A.length≤35184372088830)(lb:B.length≤35184372088830):
  Calls Tryz.prog 204 #[.slice Z A.length ca,.slice bo B.length cb] w fun e w'=>∃m f Q,e=.returned (.slice m Q.length f)∧af w' m f Q∧bI w.heap.size m Q∧Q.length=max A.length B.length+1∧ah Q=ah A+ah B∧Below w.heap.size w w':=by
 obtain⟨i0,hi,a3,a4,a5⟩:=info_parts Tryz.info139
 obtain⟨n,M⟩:∃n,n=max A.length B.length:=⟨_,rfl⟩
 have n1:A.length≤n:=by omega
 have n2:B.length≤n:=by omega
 have n3:n≤35184372088830:=by omega
 have HN:=aa M
 have T:∀(S:List Nat) (c x y:Nat),A[S.length]?.getD 0=x→B[S.length]?.getD 0=y→ah S+4294967296^S.length*c=ah (A.take S.length)+ah (B.take S.length)→ah (S++[(x+y+c)%4294967296])+4294967296^(S.length+1)*((x+y+c)/4294967296)=ah (A.take (S.length+1))+ah (B.take (S.length+1)):=fun S c x y=>vh A B S c x y
 have U:∀(S:List Nat) (c:Nat),S.length=n+1→ah S+4294967296^S.length*c=ah (A.take S.length)+ah (B.take S.length)→ah S=ah A+ah B:=by
  intro S c hl h
  refine us A B S (n+1) c hA.2.1 hB.2.1 (by omega) (by omega) hl ?_
  rw[←hl,List.take_length];exact h
 have K:=aa T
 have L:=aa U
 clear T U
 rcases(show(A.length<B.length∧n=B.length)∨(¬A.length<B.length∧n=A.length) by omega)with⟨hm,e⟩|⟨hm,e⟩
 all_goals
  have HE:=aa e
  have n4:(n:Int)≤35184372088830:=by omega
  clear M e
  go_enter Tryz.func204,Tryz.ntmps204
  go_wp2
  go_loopw[5,6,7] (fun v c i wr=>∃(S:List Nat) (y:Nat),S.length≤n+1∧i=.int .i64 (S.length:Nat)∧c=.int .u64 y∧y≤1∧wr.ownsRow w.heap.size 139 1 v S.length (S.map eh)∧bd S∧Below w.heap.size w wr∧Hid (ah S+4294967296^S.length*y=ah (A.take S.length)+ah (B.take S.length)))
   (fun _ _ i _=>n+1-(intOf i).toNat)
  case atStart=>
   refine⟨[],0,by simp,rfl,rfl,by omega,?_,by intro x hx;simp at hx,(Below.refl _ _).alloc (Nat.le_refl _) _,by unfold Hid;simp[ah]⟩
   exact World.ownsRow_made w #[] 0 (Nat.le_refl _) (by simp[maxLen]) (by simp)
  case round=>
   obtain⟨S,y,hk,rfl,rfl,hy,l,hf,d,hv⟩:=hrel
   have M:=uH HE
   by_cases V:S.length≤n
   ·obtain⟨H,D⟩:∃x,A[S.length]?.getD 0=x:=⟨_,rfl⟩
    obtain⟨I,F⟩:∃x,B[S.length]?.getD 0=x:=⟨_,rfl⟩
    have ba:H<4294967296:=by rw[←D];exact hA.lt _
    have bb:I<4294967296:=by rw[←F];exact hB.lt _
    have cA:=hA.below d
    have cB:=hB.below d
    have ae:=aa (uH K S y H I D F hv.out)
    have aj:=aa D
    have am:=aa F
    have av:=d.size
    have HF:=aa hf
    clear D F hv K L hf
    generalize Y:S.length=k at*
    have ax:=aa Y
    clear Y
    have N:(k:Int)≤(n:Int):=by omega
    rw[M]at N
    clear M
    go_wp2_with(first|(go_at_call_of 174 (Value.slice Z A.length ca);refine(eZ Z ca A _ k H _ cA la rfl aj).mono ?_;rintro e w' ⟨rfl,rfl⟩)|(go_at_call_of 174 (Value.slice bo B.length cb);refine(eZ bo cb B _ k I _ cB lb rfl am).mono ?_;rintro e w' ⟨rfl,rfl⟩)|(at_builtin;refine wpList_append_own _ rfl _ _ 106 rfl w.heap.size 139 i0 (.int .u32 0) 1 4 Tryz.underlying106 hi a3 a4 a5 rfl (by decide) _ _ _ rfl (l.alloc _) ⟨wr.heap.size,0,none⟩ 1 1 [.int .u32 (((H:Int)+(I:Int)+(y:Int))%4294967296)] rfl rfl (cell_one_new _ _ _) (fun u hu=>by simp at hu;subst hu;rfl) (by unfold maxLen;omega) (by omega) (by simp;omega) ?_;intro v' w1 t z _;have aI:Below w.heap.size w w1:=((d.alloc av _).grown z (by simp;omega) (fun g hg=>(l.lt g hg).1));have a0:=aa (qt (x:=(H+I+y)%4294967296) t (by omega));clear t z))
    have a1:=uH ae
    have O:(S++[(H+I+y)%4294967296]).length=k+1:=by simp[uH ax]
    go_roundw
    case rel=>exact⟨S++[(H+I+y)%4294967296],(H+I+y)/4294967296,by omega,by rw[O];go_num,cH (by omega),by omega,by rw[O];exact uH a0,(uH HF).snoc (by omega),aI,by rw[O];exact a1⟩
    case measure=>simp[intOf];omega
   ·have G:=uH L S y (by omega) hv.out
    have X:=aa G
    obtain⟨m,f,e1,e2,e3,e4⟩:=kq l hf
    have E2:=aa e2
    have E3:=aa e3
    have N:¬((S.length:Nat):Int)≤(n:Int):=by omega
    rw[M]at N
    have HK:=aa hk
    have a2:=aa V
    subst e1
    clear G hv K l M e2 e3 e4 L hk V
    go_wp2
    go_ret
    have hN:=uH HN
    have h1:=uH HK
    have h2:=uH a2
    exact⟨m,f,S,rfl,uH E2,uH E3,by omega,uH X,d⟩
theorem oA(ao bo:Option Addr)(ca cb:Nat)(A B:List Nat)(w:World)(hA:af w ao ca A)(hB:af w bo cb B)(la:A.length≤35184372088830)(lb:B.length≤35184372088830)(L:ah B≤ah A):
  Calls Tryz.prog 206 #[.slice ao A.length ca,.slice bo B.length cb] w fun e w'=>∃z l U,e=.returned (.slice z U.length l)∧af w' z l U∧bI w.heap.size z U∧U.length=A.length∧ah U=ah A-ah B∧Below w.heap.size w w':=by
 obtain⟨i0,hi,a2,a3,a4⟩:=info_parts Tryz.info139
 have V:∀(S:List Nat) (c x y t c':Nat),A[S.length]?.getD 0=x→B[S.length]?.getD 0=y→t+y+c=x+4294967296*c'→ah S+ah (B.take S.length)=ah (A.take S.length)+4294967296^S.length*c→ah (S++[t])+ah (B.take (S.length+1))=ah (A.take (S.length+1))+4294967296^(S.length+1)*c':=fun S c x y t c'=>sl A B S c x y t c'
 have X:∀(S:List Nat) (c:Nat),bd S→S.length=A.length→ah S+ah (B.take S.length)=ah (A.take S.length)+4294967296^S.length*c→ah S=ah A-ah B:=by
  intro S c f hl h
  refine ut A B S A.length c f hl rfl L (uu A B hA.2.1 L) ?_
  rw[←hl,List.take_length];exact h
 have N:=aa V
 have O:=aa X
 clear V X L
 go_enter Tryz.func206,Tryz.ntmps206
 go_wp2
 go_loopw[5,6,7] (fun v c i wr=>∃(S:List Nat) (y:Nat),S.length≤A.length∧i=.int .i64 (S.length:Nat)∧c=.int .u64 y∧y≤1∧wr.ownsRow w.heap.size 139 1 v S.length (S.map eh)∧bd S∧Below w.heap.size w wr∧Hid (ah S+ah (B.take S.length)=ah (A.take S.length)+4294967296^S.length*y))
  (fun _ _ i _=>A.length-(intOf i).toNat)
 case atStart=>
  refine⟨[],0,by simp,rfl,rfl,by omega,?_,by intro x hx;simp at hx,(Below.refl _ _).alloc (Nat.le_refl _) _,by unfold Hid;simp[ah]⟩
  exact World.ownsRow_made w #[] 0 (Nat.le_refl _) (by simp[maxLen]) (by simp)
 case round=>
  obtain⟨S,y,hk,rfl,rfl,hy,m,hf,d,L⟩:=hrel
  by_cases a5:S.length<A.length
  ·obtain⟨G,I⟩:∃x,A[S.length]?.getD 0=x:=⟨_,rfl⟩
   obtain⟨H,K⟩:∃x,B[S.length]?.getD 0=x:=⟨_,rfl⟩
   have ba:G<4294967296:=by rw[←I];exact hA.lt _
   have bb:H<4294967296:=by rw[←K];exact hB.lt _
   have cA:=hA.below d
   have cB:=hB.below d
   have aj:=aa (uH N S y G H ((4294967296+G-H-y)%4294967296) (1-(4294967296+G-H-y)/4294967296) I K (by omega) L.out)
   have am:=aa I
   have av:=aa K
   have ax:=d.size
   have HF:=aa hf
   clear I K L N O hf
   generalize ae:S.length=k at*
   have Q:=aa ae
   clear ae
   go_wp2_with(first|(go_at_call_of 174 (Value.slice ao A.length ca);refine(eZ ao ca A _ k G _ cA la rfl am).mono ?_;rintro e w' ⟨rfl,rfl⟩)|(go_at_call_of 174 (Value.slice bo B.length cb);refine(eZ bo cb B _ k H _ cB lb rfl av).mono ?_;rintro e w' ⟨rfl,rfl⟩)|(at_builtin;refine wpList_append_own _ rfl _ _ 106 rfl w.heap.size 139 i0 (.int .u32 0) 1 4 Tryz.underlying106 hi a2 a3 a4 rfl (by decide) _ _ _ rfl (m.alloc _) ⟨wr.heap.size,0,none⟩ 1 1 [.int .u32 ((4294967296+(G:Int)-(H:Int)-(y:Int))%4294967296)] rfl rfl (cell_one_new _ _ _) (fun u hu=>by simp at hu;subst hu;rfl) (by unfold maxLen;omega) (by omega) (by simp;omega) ?_;intro v' w1 D F _;have aI:Below w.heap.size w w1:=((d.alloc ax _).grown F (by simp;omega) (fun g hg=>(m.lt g hg).1));have a0:=aa (qt (x:=(4294967296+G-H-y)%4294967296) D (by omega));clear D F))
   have a1:=uH aj
   have T:(S++[(4294967296+G-H-y)%4294967296]).length=k+1:=by simp[uH Q]
   go_roundw
   case rel=>exact⟨S++[(4294967296+G-H-y)%4294967296],1-(4294967296+G-H-y)/4294967296,by omega,by rw[T];go_num,cH (by omega),by omega,by rw[T];exact uH a0,(uH HF).snoc (by omega),aI,by rw[T];exact a1⟩
   case measure=>simp[intOf];omega
  ·have M:=uH O S y hf (by omega) L.out
   have Y:=aa M
   obtain⟨z,l,e1,e2,e3,e4⟩:=kq m hf
   have E2:=aa e2
   have E3:=aa e3
   have Z:S.length=A.length:=by omega
   have Q:=aa Z
   subst e1
   clear M L N m e2 e3 e4 O Z
   go_wp2
   go_ret
   exact⟨z,l,S,rfl,uH E2,uH E3,uH Q,uH Y,d⟩
end Go.Proofs.YtenpggicmfhhdaaGreatDoor
