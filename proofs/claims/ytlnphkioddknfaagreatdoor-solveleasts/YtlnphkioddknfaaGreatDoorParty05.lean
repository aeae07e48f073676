/- Part 5 of the texts. -/
import Derived.Test.YtlnphkioddknfaaGreatDoorParty04
set_option maxHeartbeats 400000
set_option maxRecDepth 20000
namespace Go.Proofs.YtlnphkioddknfaaGreatDoor
open Go.RowKit
theorem ap(w:World)(a p:Addr)(u:Value)(h:a.block≠p.block):(w.setCell p u).cell? a=w.cell? a:=
 World.cell?_of_block (Below.heap_setCell w p u a.block h)
theorem ag.store{w:World}{ao:Option Addr}{cap B:Nat}{L:List Nat}(h:ag w ao cap L)(y:bN B ao L){p:Addr}(G:p.block<B)(u:Value):ag (w.setCell p u) ao cap L:=by
 refine⟨h.1,h.2.1,?_⟩
 rcases h.2.2 with f|⟨b,l,m,A,D⟩
 ·exact .inl f
 ·rcases y with f|⟨H,t,d,F⟩
  ·exact .inl f
  ·rw[m]at d
   simp only[Option.some.injEq,Addr.mk.injEq]at d
   obtain⟨rfl,rfl,_⟩:=d
   refine .inr ⟨b,l,m,by simpa[World.setCell]using A,fun i z=>?_⟩
   rw[ap w _ p u (by simp;omega)]
   exact D i z
theorem aw.stored{B d:Nat}{w:World}{n:Bool}{ao:Option Addr}{cap:Nat}{L:List Nat}{x:Int}(h:ag w ao cap L∧bN B ao L∧bP L∧n=decide (x<0)∧an L=x.natAbs∧L.length≤35184372088832){p q:Addr}(f:p.block<B)(l:q.block<B)(m:d≤B)(u u':Value):
  aw d ((w.setCell p u).setCell q u') (.agg #[.bool n,.slice ao L.length cap]) x:=
 ⟨n,ao,cap,L,rfl,(h.1.store h.2.1 f u).store h.2.1 l u',h.2.1.mono m,h.2.2⟩
theorem Tryz.info133:(Tryz.prog.info? 133).map (fun i=>(i.zero,i.size,i.bytes))=some (some (.int .u32 0),1,4):=by kernel_rfl
theorem cN{k:IntKind}{a b:Int}(h:a=b):Value.int k a=.int k b:=by rw[h]
theorem g9(ao:Option Addr)(cap:Nat)(L:List Nat)(i:Int)(k x:Nat)(w:World)(h:ag w ao cap L)(d:L.length≤35184372088830)(f:i=(k:Int))(l:Hid (L[k]?.getD 0=x)):
  Calls Tryz.prog 280 #[.slice ao L.length cap,.int .i64 i] w fun e m=>e=.returned (.int .u64 (x:Int))∧w=m:=by
 have:=uy ao cap L i k w h d f
 rwa[l.out]at this
theorem qt(ao V:Option Addr)(X Y:Nat)(A B:List Nat)(w:World)(hA:ag w ao X A)(hB:ag w V Y B)(la:A.length≤35184372088830)(lb:B.length≤35184372088830):
  Calls Tryz.prog 291 #[.slice ao A.length X,.slice V B.length Y] w fun e Z=>∃K z M,e=.returned (.slice K M.length z)∧ag Z K z M∧bN w.heap.size K M∧M.length=max A.length B.length+1∧an M=an A+an B∧Below w.heap.size w Z:=by
 obtain⟨i0,hi,a0,a1,a2⟩:=info_parts Tryz.info133
 obtain⟨n,hn⟩:∃n,n=max A.length B.length+1:=⟨_,rfl⟩
 have n1:A.length+1≤n:=by omega
 have n2:B.length+1≤n:=by omega
 have n3:n≤35184372088831:=by omega
 have HN:=aa hn
 clear hn
 go_enter Tryz.func291,Tryz.ntmps291
 go_wp2_with(at_make;have hn:=uH HN;refine wpList_make_full _ rfl _ _ 43 rfl w.heap.size 133 i0 (.int .u32 0) 1 Tryz.underlying43 hi a0 a1 .i64 .i64 _ _ n rfl rfl (by omega) (by omega) (by rw[a2];omega) (by unfold maxLen;omega) (Nat.le_refl _) ?_;clear hn;intro w1 I f)
 all_goals
  have D:=bR.made I
  have ae:Below w.heap.size w w1:=(Below.refl _ _).grown f (Nat.le_refl _) (fun k h=>by simp at h)
  have a3:w.heap.size<w1.heap.size:=D.lt
  clear I f
  go_wp2
  go_loopw[6,17] (fun c i wr=>∃(k:Nat) (S:List Nat) (y:Nat),k≤n∧i=.int .i64 k∧c=.int .u64 y∧y≤1∧bR wr w.heap.size S∧S.length=n∧bf S∧Below w.heap.size w wr∧Hid (an (S.take k)+4294967296^k*y=an (A.take k)+an (B.take k)))
   (fun _ i _=>n-(intOf i).toNat)
  case atStart=>exact⟨0,List.replicate n 0,0,Nat.zero_le _,rfl,rfl,by omega,D,by simp,bf.zeros _,ae,by unfold Hid;simp[an]⟩
  case round=>
   obtain⟨k,S,y,hk,rfl,rfl,hy,L,l,hf,d,U⟩:=hrel
   by_cases a4:k<n
   ·obtain⟨G,m⟩:∃x,A[k]?.getD 0=x:=⟨_,rfl⟩
    obtain⟨H,t⟩:∃x,B[k]?.getD 0=x:=⟨_,rfl⟩
    have ba:G<4294967296:=by rw[←m];exact hA.lt k
    have bb:H<4294967296:=by rw[←t];exact hB.lt k
    have cA:=hA.below d
    have cB:=hB.below d
    have N:=zW A B S k y G H (by omega) m t U.out
    have aj:=aa N
    have ak:=aa m
    have am:=aa t
    have ax:=L.cell k (by omega)
    have aI:=L.free k
    have HR:=aa L
    clear N m t U L
    generalize hS:S[k]?.getD 0=sk at*
    clear hS
    go_wp2_with(first|(go_at_call_of 280 (Value.slice ao A.length X);refine(g9 ao X A _ k G _ cA la rfl ak).mono ?_;rintro e Z ⟨rfl,rfl⟩)|(go_at_call_of 280 (Value.slice V B.length Y);refine(g9 V Y B _ k H _ cB lb rfl am).mono ?_;rintro e Z ⟨rfl,rfl⟩))
    have ec:(((y+(G+H))%4294967296:Nat):Int)=((y:Int)+((G:Int)+(H:Int)))%4294967296:=by omega
    have O:=(uH HR).set k ((y+(G+H))%4294967296)
    rw[ec]at O
    go_roundw
    case rel=>exact⟨k+1,S.set k ((y+(G+H))%4294967296),(y+(G+H))/4294967296,by omega,by go_num,cN (by omega),by omega,O,by simpa using l,hf.set _ _ (by omega),d.setCell (by simp) _,aj⟩
    case measure=>simp[intOf];omega
   ·have F:=wC A B S n y hA.2.1 hB.2.1 n1 n2 l (by rw[show n=k by omega];exact U.out)
    have Q:=aa F
    have HR:=aa L
    have HV:=aa U
    clear F L U
    go_wp2
    go_ret
    have hN:=uH HN
    refine⟨some ⟨w.heap.size,0,none⟩,n,S,by rw[l];rfl,(uH HR).limbs hf n (by omega),.inr ⟨_,_,rfl,Nat.le_refl _⟩,by rw[l];exact hN,uH Q,d⟩
theorem fw(ao:Option Addr)(cap:Nat)(L:List Nat)(i:Int)(k x:Nat)(w:World)(h:ag w ao cap L)(d:L.length≤35184372088830)(f:i=(k:Int))(l:Hid (L[k]?.getD 0=x)):
  Calls Tryz.prog 185 #[.slice ao L.length cap,.int .i64 i] w fun e m=>e=.returned (.int .u64 (x:Int))∧w=m:=by
 have:=Aj ao cap L i k w h d f
 rwa[l.out]at this
theorem Ak(ao z:Option Addr)(D F:Nat)(A B:List Nat)(w:World)(O:ag w ao D A)(Q:ag w z F B)(Y:A.length≤35184372088830)(Z:B.length≤35184372088830):
  Calls Tryz.prog 139 #[.slice ao A.length D,.slice z B.length F] w fun e H=>e=.returned (.int .i64 (bJ (an A) (an B)))∧w=H:=by
 obtain⟨n,hn⟩:∃n,n=max A.length B.length:=⟨_,rfl⟩
 have G:∀t:Nat,(∀i:Nat,t<i→A[i]?.getD 0=B[i]?.getD 0)→(A[t]?.getD 0<B[t]?.getD 0→(-1:Int)=bJ (an A) (an B))∧(B[t]?.getD 0<A[t]?.getD 0→(1:Int)=bJ (an A) (an B)):=by
  intro t h1
  constructor
  ·intro h2
   have:=jA A B O.2.1 t h1 h2
   rw[dq (by omega)]
  ·intro h2
   have:=jA B A Q.2.1 t (fun i hi=>(h1 i hi).symm) h2
   rw[ew (by omega)]
 have U:(∀i:Nat,A[i]?.getD 0=B[i]?.getD 0)→(0:Int)=bJ (an A) (an B):=by
  intro h
  have:=jz A B h
  simp[this,bJ]
 have V:∀i:Nat,n≤i→A[i]?.getD 0=B[i]?.getD 0:=fun i hi=>by
  rw[List.getElem?_eq_none (by omega),List.getElem?_eq_none (by omega)]
 have HT:=aa G
 have HQ:=aa U
 have HA:=aa V
 have HN:=aa hn
 have n3:n≤35184372088830:=by omega
 clear G U V
 generalize bJ (an A) (an B)=s at*
 rcases(show(A.length<B.length∧n=B.length)∨(¬A.length<B.length∧n=A.length) by omega)with⟨hm,e⟩|⟨hm,e⟩
 all_goals
  have HE:=aa e
  clear hn e
  go_enter Tryz.func139,Tryz.ntmps139
  go_wp2
  go_loop [5] (fun i=>∃m:Nat,m≤n+1∧i=.int .i64 ((m:Int)-1)∧Hid (∀j,m≤j→A[j]?.getD 0=B[j]?.getD 0)) (fun i=>(intOf i+1).toNat)
  case atStart=>exact⟨n+1,by omega,cN (by have:=uH HE;omega),fun j hj=>uH HA j (by omega)⟩
  case round=>
   obtain⟨m,ae,rfl,X⟩:=hrel
   clear HA HN HE
   by_cases h0:m=0
   ·subst h0
    have I:=aa (uH HQ (fun i=>X.out i (by omega)))
    clear HT HQ
    go_wp2
    go_ret
    exact⟨aQ (uH I),rfl⟩
   ·obtain⟨M,f⟩:∃x,A[m-1]?.getD 0=x:=⟨_,rfl⟩
    obtain⟨N,l⟩:∃x,B[m-1]?.getD 0=x:=⟨_,rfl⟩
    have ba:M<4294967296:=by rw[←f];exact O.lt _
    have bb:N<4294967296:=by rw[←l];exact Q.lt _
    have hT:=uH HT (m-1) (fun i hi=>X.out i (by omega))
    rw[f,l]at hT
    have d:=aa hT
    have y:Hid (M=N→∀j,m-1≤j→A[j]?.getD 0=B[j]?.getD 0):=fun e j hj=>by
     by_cases h:m≤j
     ·exact X.out j h
     ·rw[show j=m-1 by omega,f,l];exact e
    have K:=aa f
    have L:=aa l
    clear hT f l X HT HQ
    rcases Nat.lt_trichotomy M N with h|h|h
    ·have I:=aa ((uH d).1 h)
     clear d y
     go_wp2_with(first|(go_at_call_of 185 (Value.slice ao A.length D);refine(fw ao D A _ (m-1) M _ O Y (by omega) K).mono ?_;rintro e H ⟨rfl,rfl⟩)|(go_at_call_of 185 (Value.slice z B.length F);refine(fw z F B _ (m-1) N _ Q Z (by omega) L).mono ?_;rintro e H ⟨rfl,rfl⟩))
     go_ret
     exact⟨aQ (uH I),rfl⟩
    ·have I:=aa (uH y h)
     clear d y
     go_wp2_with(first|(go_at_call_of 185 (Value.slice ao A.length D);refine(fw ao D A _ (m-1) M _ O Y (by omega) K).mono ?_;rintro e H ⟨rfl,rfl⟩)|(go_at_call_of 185 (Value.slice z B.length F);refine(fw z F B _ (m-1) N _ Q Z (by omega) L).mono ?_;rintro e H ⟨rfl,rfl⟩))
     go_round
     case rel=>exact⟨m-1,by omega,cN (by omega),uH I⟩
     case measure=>simp[intOf];omega
    ·have I:=aa ((uH d).2 h)
     clear d y
     go_wp2_with(first|(go_at_call_of 185 (Value.slice ao A.length D);refine(fw ao D A _ (m-1) M _ O Y (by omega) K).mono ?_;rintro e H ⟨rfl,rfl⟩)|(go_at_call_of 185 (Value.slice z B.length F);refine(fw z F B _ (m-1) N _ Q Z (by omega) L).mono ?_;rintro e H ⟨rfl,rfl⟩))
     go_ret
     exact⟨aQ (uH I),rfl⟩
def aE(M B:Nat)(w:World)(v:Value)(x:Int):Prop:=
 ∃neg ao cap L,v=.agg #[.bool neg,.slice ao L.length cap]∧ag w ao cap L∧bN B ao L∧bP L∧neg=decide (x<0)∧an L=x.natAbs∧L.length≤M
theorem aE.below{M B:Nat}{w d:World}{v:Value}{x:Int}(h:aE M B w v x)(f:Below w.heap.size w d):aE M B d v x:=by
 obtain⟨neg,ao,cap,L,l,m,t⟩:=h
 exact⟨neg,ao,cap,L,l,m.below f,t⟩
theorem aE.more{M d B:Nat}{w:World}{v:Value}{x:Int}(h:aE M B w v x)(A:M≤d):aE d B w v x:=by
 obtain⟨neg,ao,cap,L,f,l,m,t,y,z,D⟩:=h
 exact⟨neg,ao,cap,L,f,l,m,t,y,z,by omega⟩
theorem aE.zero(M B:Nat)(w:World)(ao:Option Addr)(cap:Nat):aE M B w (.agg #[.bool false,.slice ao 0 cap]) 0:=
 ⟨false,ao,cap,[],rfl,ag.nil _ _ _,.inl rfl,.inl rfl,rfl,rfl,by simp⟩
theorem j4{n:Bool}{L:List Nat}{x:Int}(h:n=decide (x<0))(f:an L=x.natAbs):af n L=x:=by
 unfold af
 rw[h]
 by_cases d:x<0
 ·simp[d];omega
 ·simp[d];omega
theorem aE.stored{M B d:Nat}{w:World}{n:Bool}{ao:Option Addr}{cap:Nat}{L:List Nat}{x:Int}(h:ag w ao cap L∧bN B ao L∧bP L∧n=decide (x<0)∧an L=x.natAbs∧L.length≤M){p q:Addr}(f:p.block<B)(l:q.block<B)(m:d≤B)(u u':Value):
  aE M d ((w.setCell p u).setCell q u') (.agg #[.bool n,.slice ao L.length cap]) x:=
 ⟨n,ao,cap,L,rfl,(h.1.store h.2.1 f u).store h.2.1 l u',h.2.1.mono m,h.2.2⟩
theorem c8(B:Nat)(neg:Bool)(ao:Option Addr)(cap:Nat)(L:List Nat)(w:World)(h:ag w ao cap L)(U:bN B ao L)(hl:L.length≤35184372088832):
  Calls Tryz.prog 134 #[.bool neg,.slice ao L.length cap] w fun e t=>∃v,e=.returned v∧aE L.length B t v (af neg L)∧Below w.heap.size w t:=by
 have y:∀(k:Nat) (t:World),ag t ao cap L→k≤L.length→an (L.take k)=an L→0<k→L[k-1]?.getD 0≠0→aE L.length B t (.agg #[.bool neg,.slice ao k cap]) (af neg L):=by
  intro k t K O l Y z
  have d:(L.take k).length=k:=by rw[List.length_take,Nat.min_eq_left O]
  have V:bP (L.take k):=by
   right
   rw[d,List.getElem?_take,if_pos (by omega)]
   exact z
  have Z:L.take k≠ []:=by intro e;rw[e]at d;simp at d;omega
  have M:an (L.take k)≠0:=fun e=>Z ((aL _ V).1 e)
  refine⟨neg,ao,cap,L.take k,by rw[d],K.take k,U.take k,V,?_,by rw[aR];exact l,by omega⟩
  rw[l]at M
  unfold af;cases neg<;>simp<;>omega
 have f:an (L.take 0)=an L→af neg L=0:=by
  intro l
  rw[←mO (neg:=neg) l];exact g8 neg
 have G:=aa y
 have I:=aa f
 clear y f U
 have X:=h.1
 have H:=aa h
 go_enter Tryz.func134,Tryz.ntmps134
 go_wp2
 go_loop [5] (fun i=>∃k:Nat,k≤L.length∧i=.int .i64 k∧Hid (an (L.take k)=an L)) (fun i=>(intOf i).toNat)
 case atStart=>exact⟨L.length,Nat.le_refl _,rfl,by unfold Hid;simp⟩
 case round=>
  obtain⟨k,O,rfl,l⟩:=hrel
  by_cases Y:k=0
  ·subst Y
   have A:=aa (uH I l.out)
   clear G I l h
   go_wp2
   refine bodyPost_ret (v:=.agg #[.bool false,.slice none 0 0]) (by simp[results,Tryz.results134,go_sem]) rfl ⟨.agg #[.bool false,.slice none 0 0],rfl,?_,(Below.refl _ _).alloc (Nat.le_refl _) _⟩
   rw[uH A];exact aE.zero _ _ _ _ _
  ·obtain⟨b,m,F,hb,Q⟩:=h.ne (by omega)
   have D:=Q (k-1) (by omega)
   have N:(w.alloc (.cells #[.bool false,.slice none 0 0] 45)).cell? ⟨b,m+(k-1),none⟩=some (.int .u32 ((L[k-1]?.getD 0:Nat):Int)):=by
    rw[((Below.refl _ w).alloc (Nat.le_refl _) _).cell (p:=⟨b,m+(k-1),none⟩) hb];exact D
   have ae:((k:Int)==0)=false:=by simp;omega
   have aj:(0:Int)<(k:Int):=by omega
   by_cases z:L[k-1]?.getD 0=0
   ·have A:Hid (an (L.take (k-1))=an L):=by unfold Hid;rw[jP L k z];exact l.out
    rw[z]at D N
    clear G I l h z Q
    subst F
    go_wp2
    go_round
    case rel=>exact⟨k-1,by omega,cN (by omega),A⟩
    case measure=>simp[intOf];omega
   ·have A:=aa (fun t K=>uH G k t K O l.out (by omega) z)
    have ak:(((L[k-1]?.getD 0:Nat):Int)==0)=false:=by simp;omega
    clear G I l h Q
    generalize L[k-1]?.getD 0=x at*
    clear z
    subst F
    go_wp2
    refine bodyPost_ret (v:=.agg #[.bool neg,.slice (some ⟨b,m,none⟩) k cap]) (by simp[results,Tryz.results134,go_sem]) rfl ⟨.agg #[.bool neg,.slice (some ⟨b,m,none⟩) k cap],rfl,?_,(Below.refl _ _).alloc (Nat.le_refl _) _⟩
    exact uH A _ ((uH H).below ((Below.refl _ _).alloc (Nat.le_refl _) _))
theorem le{w:World}{d:Nat}{v:Value}{n:Nat}{S:List Nat}(h:w.ownsRow d 133 1 v n (S.map eH))(t:bf S):
  ∃ao cap,v=.slice ao S.length cap∧ag w ao cap S∧bN d ao S∧S.length=n:=by
 have m:S.length=n:=by have:=h.1;simpa using this
 rcases h.2 with⟨l,F⟩|⟨g,cap,z,l,A,D,G,H,I,K⟩
 ·have:S= []:=List.length_eq_zero_iff.1 (by omega)
  subst this
  exact⟨none,0,l,ag.nil _ _ _,.inl rfl,m⟩
 ·refine⟨some ⟨g,0,none⟩,cap,by rw[m];exact l,⟨by omega,t,.inr ⟨g,0,rfl,(Array.getElem?_eq_some_iff.1 D).1,fun i y=>?_⟩⟩,.inr ⟨g,0,rfl,A⟩,m⟩
  have f:=h
  rw[l]at f
  rw[Nat.zero_add,f.cellAt i (by omega)]
  simp[eH,y]
theorem rN{w:World}{f:Nat}{v:Value}{n:Nat}{S:List Nat}{x:Nat}{d:Int}(h:w.ownsRow f 133 1 v (n+1) (S.map eH++[.int .u32 d]))(l:d=(x:Int)):w.ownsRow f 133 1 v (n+1) ((S++[x]).map eH):=by
 subst l
 simpa[eH]using h
theorem rO(ao bo:Option Addr)(ca cb:Nat)(A B:List Nat)(w:World)(hA:ag w ao ca A)(hB:ag w bo cb B)(la:A.length≤35184372088830)(lb:B.length≤35184372088830):
  Calls Tryz.prog 137 #[.slice ao A.length ca,.slice bo B.length cb] w fun e w'=>∃m f Q,e=.returned (.slice m Q.length f)∧ag w' m f Q∧bN w.heap.size m Q∧Q.length=max A.length B.length+1∧an Q=an A+an B∧Below w.heap.size w w':=by
 obtain⟨i0,hi,a3,a4,a5⟩:=info_parts Tryz.info133
 obtain⟨n,M⟩:∃n,n=max A.length B.length:=⟨_,rfl⟩
 have n1:A.length≤n:=by omega
 have n2:B.length≤n:=by omega
 have n3:n≤35184372088830:=by omega
 have HN:=aa M
 have U:∀(S:List Nat) (c x y:Nat),A[S.length]?.getD 0=x→B[S.length]?.getD 0=y→an S+4294967296^S.length*c=an (A.take S.length)+an (B.take S.length)→an (S++[(x+y+c)%4294967296])+4294967296^(S.length+1)*((x+y+c)/4294967296)=an (A.take (S.length+1))+an (B.take (S.length+1)):=fun S c x y=>xD A B S c x y
 have V:∀(S:List Nat) (c:Nat),S.length=n+1→an S+4294967296^S.length*c=an (A.take S.length)+an (B.take S.length)→an S=an A+an B:=by
  intro S c hl h
  refine wC A B S (n+1) c hA.2.1 hB.2.1 (by omega) (by omega) hl ?_
  rw[←hl,List.take_length];exact h
 have K:=aa U
 have L:=aa V
 clear U V
 rcases(show(A.length<B.length∧n=B.length)∨(¬A.length<B.length∧n=A.length) by omega)with⟨hm,e⟩|⟨hm,e⟩
 all_goals
  have HE:=aa e
  have n4:(n:Int)≤35184372088830:=by omega
  clear M e
  go_enter Tryz.func137,Tryz.ntmps137
  go_wp2
  go_loopw[5,6,7] (fun v c i wr=>∃(S:List Nat) (y:Nat),S.length≤n+1∧i=.int .i64 (S.length:Nat)∧c=.int .u64 y∧y≤1∧wr.ownsRow w.heap.size 133 1 v S.length (S.map eH)∧bf S∧Below w.heap.size w wr∧Hid (an S+4294967296^S.length*y=an (A.take S.length)+an (B.take S.length)))
   (fun _ _ i _=>n+1-(intOf i).toNat)
  case atStart=>
   refine⟨[],0,by simp,rfl,rfl,by omega,?_,by intro x hx;simp at hx,(Below.refl _ _).alloc (Nat.le_refl _) _,by unfold Hid;simp[an]⟩
   exact World.ownsRow_made w #[] 0 (Nat.le_refl _) (by simp[maxLen]) (by simp)
  case round=>
   obtain⟨S,y,hk,rfl,rfl,hy,l,hf,d,hv⟩:=hrel
   have M:=uH HE
   by_cases X:S.length≤n
   ·obtain⟨H,D⟩:∃x,A[S.length]?.getD 0=x:=⟨_,rfl⟩
    obtain⟨I,F⟩:∃x,B[S.length]?.getD 0=x:=⟨_,rfl⟩
    have ba:H<4294967296:=by rw[←D];exact hA.lt _
    have bb:I<4294967296:=by rw[←F];exact hB.lt _
    have cA:=hA.below d
    have cB:=hB.below d
    have ae:=aa (uH K S y H I D F hv.out)
    have aj:=aa D
    have ak:=aa F
    have am:=d.size
    have HF:=aa hf
    clear D F hv K L hf
    generalize Z:S.length=k at*
    have ax:=aa Z
    clear Z
    have N:(k:Int)≤(n:Int):=by omega
    rw[M]at N
    clear M
    go_wp2_with(first|(go_at_call_of 185 (Value.slice ao A.length ca);refine(fw ao ca A _ k H _ cA la rfl aj).mono ?_;rintro e w' ⟨rfl,rfl⟩)|(go_at_call_of 185 (Value.slice bo B.length cb);refine(fw bo cb B _ k I _ cB lb rfl ak).mono ?_;rintro e w' ⟨rfl,rfl⟩)|(at_builtin;refine wpList_append_own _ rfl _ _ 43 rfl w.heap.size 133 i0 (.int .u32 0) 1 4 Tryz.underlying43 hi a3 a4 a5 rfl (by decide) _ _ _ rfl (l.alloc _) ⟨wr.heap.size,0,none⟩ 1 1 [.int .u32 (((H:Int)+(I:Int)+(y:Int))%4294967296)] rfl rfl (cell_one_new _ _ _) (fun u hu=>by simp at hu;subst hu;rfl) (by unfold maxLen;omega) (by omega) (by simp;omega) ?_;intro v' w1 t z _;have aI:Below w.heap.size w w1:=((d.alloc am _).grown z (by simp;omega) (fun g hg=>(l.lt g hg).1));have a0:=aa (rN (x:=(H+I+y)%4294967296) t (by omega));clear t z))
    have a1:=uH ae
    have O:(S++[(H+I+y)%4294967296]).length=k+1:=by simp[uH ax]
    go_roundw
    case rel=>exact⟨S++[(H+I+y)%4294967296],(H+I+y)/4294967296,by omega,by rw[O];go_num,cN (by omega),by omega,by rw[O];exact uH a0,(uH HF).snoc (by omega),aI,by rw[O];exact a1⟩
    case measure=>simp[intOf];omega
   ·have G:=uH L S y (by omega) hv.out
    have Y:=aa G
    obtain⟨m,f,e1,e2,e3,e4⟩:=le l hf
    have E2:=aa e2
    have E3:=aa e3
    have N:¬((S.length:Nat):Int)≤(n:Int):=by omega
    rw[M]at N
    have HK:=aa hk
    have a2:=aa X
    subst e1
    clear G hv K l M e2 e3 e4 L hk X
    go_wp2
    go_ret
    have hN:=uH HN
    have h1:=uH HK
    have h2:=uH a2
    exact⟨m,f,S,rfl,uH E2,uH E3,by omega,uH Y,d⟩
theorem pu(ao bo:Option Addr)(ca cb:Nat)(A B:List Nat)(w:World)(hA:ag w ao ca A)(hB:ag w bo cb B)(la:A.length≤35184372088830)(lb:B.length≤35184372088830)(L:an B≤an A):
  Calls Tryz.prog 140 #[.slice ao A.length ca,.slice bo B.length cb] w fun e w'=>∃z l V,e=.returned (.slice z V.length l)∧ag w' z l V∧bN w.heap.size z V∧V.length=A.length∧an V=an A-an B∧Below w.heap.size w w':=by
 obtain⟨i0,hi,a3,a4,a5⟩:=info_parts Tryz.info133
 have X:∀(S:List Nat) (c x y t c':Nat),A[S.length]?.getD 0=x→B[S.length]?.getD 0=y→t+y+c=x+4294967296*c'→an S+an (B.take S.length)=an (A.take S.length)+4294967296^S.length*c→an (S++[t])+an (B.take (S.length+1))=an (A.take (S.length+1))+4294967296^(S.length+1)*c':=fun S c x y t c'=>uz A B S c x y t c'
 have Y:∀(S:List Nat) (c:Nat),bf S→S.length=A.length→an S+an (B.take S.length)=an (A.take S.length)+4294967296^S.length*c→an S=an A-an B:=by
  intro S c f hl h
  refine wD A B S A.length c f hl rfl L (wE A B hA.2.1 L) ?_
  rw[←hl,List.take_length];exact h
 have N:=aa X
 have O:=aa Y
 clear X Y L
 go_enter Tryz.func140,Tryz.ntmps140
 go_wp2
 go_loopw[5,6,7] (fun v c i wr=>∃(S:List Nat) (y:Nat),S.length≤A.length∧i=.int .i64 (S.length:Nat)∧c=.int .u64 y∧y≤1∧wr.ownsRow w.heap.size 133 1 v S.length (S.map eH)∧bf S∧Below w.heap.size w wr∧Hid (an S+an (B.take S.length)=an (A.take S.length)+4294967296^S.length*y))
  (fun _ _ i _=>A.length-(intOf i).toNat)
 case atStart=>
  refine⟨[],0,by simp,rfl,rfl,by omega,?_,by intro x hx;simp at hx,(Below.refl _ _).alloc (Nat.le_refl _) _,by unfold Hid;simp[an]⟩
  exact World.ownsRow_made w #[] 0 (Nat.le_refl _) (by simp[maxLen]) (by simp)
 case round=>
  obtain⟨S,y,hk,rfl,rfl,hy,m,hf,d,L⟩:=hrel
  by_cases a6:S.length<A.length
  ·obtain⟨G,I⟩:∃x,A[S.length]?.getD 0=x:=⟨_,rfl⟩
   obtain⟨H,K⟩:∃x,B[S.length]?.getD 0=x:=⟨_,rfl⟩
   have ba:G<4294967296:=by rw[←I];exact hA.lt _
   have bb:H<4294967296:=by rw[←K];exact hB.lt _
   have cA:=hA.below d
   have cB:=hB.below d
   have ak:=aa (uH N S y G H ((4294967296+G-H-y)%4294967296) (1-(4294967296+G-H-y)/4294967296) I K (by omega) L.out)
   have am:=aa I
   have ax:=aa K
   have aI:=d.size
   have HF:=aa hf
   clear I K L N O hf
   generalize aj:S.length=k at*
   have Q:=aa aj
   clear aj
   go_wp2_with(first|(go_at_call_of 185 (Value.slice ao A.length ca);refine(fw ao ca A _ k G _ cA la rfl am).mono ?_;rintro e w' ⟨rfl,rfl⟩)|(go_at_call_of 185 (Value.slice bo B.length cb);refine(fw bo cb B _ k H _ cB lb rfl ax).mono ?_;rintro e w' ⟨rfl,rfl⟩)|(at_builtin;refine wpList_append_own _ rfl _ _ 43 rfl w.heap.size 133 i0 (.int .u32 0) 1 4 Tryz.underlying43 hi a3 a4 a5 rfl (by decide) _ _ _ rfl (m.alloc _) ⟨wr.heap.size,0,none⟩ 1 1 [.int .u32 ((4294967296+(G:Int)-(H:Int)-(y:Int))%4294967296)] rfl rfl (cell_one_new _ _ _) (fun u hu=>by simp at hu;subst hu;rfl) (by unfold maxLen;omega) (by omega) (by simp;omega) ?_;intro v' w1 D F _;have a0:Below w.heap.size w w1:=((d.alloc aI _).grown F (by simp;omega) (fun g hg=>(m.lt g hg).1));have a1:=aa (rN (x:=(4294967296+G-H-y)%4294967296) D (by omega));clear D F))
   have a2:=uH ak
   have U:(S++[(4294967296+G-H-y)%4294967296]).length=k+1:=by simp[uH Q]
   go_roundw
   case rel=>exact⟨S++[(4294967296+G-H-y)%4294967296],1-(4294967296+G-H-y)/4294967296,by omega,by rw[U];go_num,cN (by omega),by omega,by rw[U];exact uH a1,(uH HF).snoc (by omega),a0,by rw[U];exact a2⟩
   case measure=>simp[intOf];omega
  ·have M:=uH O S y hf (by omega) L.out
   have Z:=aa M
   obtain⟨z,l,e1,e2,e3,e4⟩:=le m hf
   have E2:=aa e2
   have E3:=aa e3
   have ae:S.length=A.length:=by omega
   have Q:=aa ae
   subst e1
   clear M L N m e2 e3 e4 O ae
   go_wp2
   go_ret
   exact⟨z,l,S,rfl,uH E2,uH E3,uH Q,uH Z,d⟩
end Go.Proofs.YtlnphkioddknfaaGreatDoor
