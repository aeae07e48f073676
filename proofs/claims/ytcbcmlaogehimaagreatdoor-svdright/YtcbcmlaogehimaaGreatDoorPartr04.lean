/- Part 4 of the texts. -/
import Derived.Test.YtcbcmlaogehimaaGreatDoorPartr03
set_option maxHeartbeats 1000000
set_option maxRecDepth 20000
namespace Go.Proofs.YtcbcmlaogehimaaGreatDoor
open Go.RowKit
theorem Tryz.info84:(Tryz.prog.info? 84).map (fun i=>(i.zero,i.size,i.bytes))=some (some (.int .u32 0),1,4):=by kernel_rfl
theorem cG{k:IntKind}{a b:Int}(h:a=b):Value.int k a=.int k b:=by rw[h]
theorem ib(u:Option Addr)(d:Nat)(L:List Nat)(i:Int)(k x:Nat)(w:World)(h:ag w u d L)(z:L.length≤35184372088830)(A:i=(k:Int))(D:Hid (L[k]?.getD 0=x)):
  Calls Tryz.prog 285 #[.slice u L.length d,.int .i64 i] w fun e F=>e=.returned (.int .u64 (x:Int))∧w=F:=by
 have:=uV u d L i k w h z A
 rwa[D.out]at this
theorem qB(ao bo:Option Addr)(ca cb:Nat)(A B:List Nat)(w:World)(hA:ag w ao ca A)(hB:ag w bo cb B)(la:A.length≤35184372088830)(lb:B.length≤35184372088830):
  Calls Tryz.prog 301 #[.slice ao A.length ca,.slice bo B.length cb] w fun e w'=>∃N G Q,e=.returned (.slice N Q.length G)∧ag w' N G Q∧bC w.heap.size N Q∧Q.length=max A.length B.length+1∧ai Q=ai A+ai B∧Below w.heap.size w w':=by
 obtain⟨i0,hi,ax,az,aI⟩:=info_parts Tryz.info84
 obtain⟨n,hn⟩:∃n,n=max A.length B.length+1:=⟨_,rfl⟩
 have n1:A.length+1≤n:=by omega
 have n2:B.length+1≤n:=by omega
 have n3:n≤35184372088831:=by omega
 have HN:=ac hn
 clear hn
 go_enter Tryz.func301,Tryz.ntmps301
 go_wp2_with(at_make;have hn:=uH HN;refine wpList_make_full _ rfl _ _ 31 rfl w.heap.size 84 i0 (.int .u32 0) 1 Tryz.underlying31 hi ax az .i64 .i64 _ _ n rfl rfl (by omega) (by omega) (by rw[aI];omega) (by unfold maxLen;omega) (Nat.le_refl _) ?_;clear hn;intro w1 L u)
 all_goals
  have H:=bS.made L
  have aa:Below w.heap.size w w1:=(Below.refl _ _).grown u (Nat.le_refl _) (fun k h=>by simp at h)
  have a0:w.heap.size<w1.heap.size:=H.lt
  clear L u
  go_wp2
  go_loopw[6,17] (fun c i wr=>∃(k:Nat) (S:List Nat) (y:Nat),k≤n∧i=.int .i64 k∧c=.int .u64 y∧y≤1∧bS wr w.heap.size S∧S.length=n∧bh S∧Below w.heap.size w wr∧Hid (ai (S.take k)+4294967296^k*y=ai (A.take k)+ai (B.take k)))
   (fun _ i _=>n-(intOf i).toNat)
  case atStart=>exact⟨0,List.replicate n 0,0,Nat.zero_le _,rfl,rfl,by omega,H,by simp,bh.zeros _,aa,by unfold Hid;simp[ai]⟩
  case round=>
   obtain⟨k,S,y,hk,rfl,rfl,hy,O,z,hf,d,Z⟩:=hrel
   by_cases a1:k<n
   ·obtain⟨J,D⟩:∃x,A[k]?.getD 0=x:=⟨_,rfl⟩
    obtain⟨K,F⟩:∃x,B[k]?.getD 0=x:=⟨_,rfl⟩
    have ba:J<4294967296:=by rw[←D];exact hA.lt k
    have bb:K<4294967296:=by rw[←F];exact hB.lt k
    have cA:=hA.below d
    have cB:=hB.below d
    have U:=zZ A B S k y J K (by omega) D F Z.out
    have ae:=ac U
    have ah:=ac D
    have am:=ac F
    have an:=O.cell k (by omega)
    have ar:=O.free k
    have HR:=ac O
    clear U D F Z O
    generalize hS:S[k]?.getD 0=sk at*
    clear hS
    go_wp2_with(first|(go_at_call_of 285 (Value.slice ao A.length ca);refine(ib ao ca A _ k J _ cA la rfl ah).mono ?_;rintro e w' ⟨rfl,rfl⟩)|(go_at_call_of 285 (Value.slice bo B.length cb);refine(ib bo cb B _ k K _ cB lb rfl am).mono ?_;rintro e w' ⟨rfl,rfl⟩))
    have ec:(((y+(J+K))%4294967296:Nat):Int)=((y:Int)+((J:Int)+(K:Int)))%4294967296:=by omega
    have X:=(uH HR).set k ((y+(J+K))%4294967296)
    rw[ec]at X
    go_roundw
    case rel=>exact⟨k+1,S.set k ((y+(J+K))%4294967296),(y+(J+K))/4294967296,by omega,by go_num,cG (by omega),by omega,X,by simpa using z,hf.set _ _ (by omega),d.setCell (by simp) _,ae⟩
    case measure=>simp[intOf];omega
   ·have I:=wO A B S n y hA.2.1 hB.2.1 n1 n2 z (by rw[show n=k by omega];exact Z.out)
    have Y:=ac I
    have HR:=ac O
    have HV:=ac Z
    clear I O Z
    go_wp2
    go_ret
    have hN:=uH HN
    refine⟨some ⟨w.heap.size,0,none⟩,n,S,by rw[z];rfl,(uH HR).limbs hf n (by omega),.inr ⟨_,_,rfl,Nat.le_refl _⟩,by rw[z];exact hN,uH Y,d⟩
theorem gi(u:Option Addr)(d:Nat)(L:List Nat)(i:Int)(k x:Nat)(w:World)(h:ag w u d L)(z:L.length≤35184372088830)(A:i=(k:Int))(D:Hid (L[k]?.getD 0=x)):
  Calls Tryz.prog 126 #[.slice u L.length d,.int .i64 i] w fun e F=>e=.returned (.int .u64 (x:Int))∧w=F:=by
 have:=Al u d L i k w h z A
 rwa[D.out]at this
theorem Am(F G:Option Addr)(H I:Nat)(A B:List Nat)(w:World)(X:ag w F H A)(Y:ag w G I B)(la:A.length≤35184372088830)(lb:B.length≤35184372088830):
  Calls Tryz.prog 109 #[.slice F A.length H,.slice G B.length I] w fun e K=>e=.returned (.int .i64 (bt (ai A) (ai B)))∧w=K:=by
 obtain⟨n,hn⟩:∃n,n=max A.length B.length:=⟨_,rfl⟩
 have J:∀t:Nat,(∀i:Nat,t<i→A[i]?.getD 0=B[i]?.getD 0)→(A[t]?.getD 0<B[t]?.getD 0→(-1:Int)=bt (ai A) (ai B))∧(B[t]?.getD 0<A[t]?.getD 0→(1:Int)=bt (ai A) (ai B)):=by
  intro t h1
  constructor
  ·intro h2
   have:=jv A B X.2.1 t h1 h2
   rw[dG (by omega)]
  ·intro h2
   have:=jv B A Y.2.1 t (fun i hi=>(h1 i hi).symm) h2
   rw[eL (by omega)]
 have Z:(∀i:Nat,A[i]?.getD 0=B[i]?.getD 0)→(0:Int)=bt (ai A) (ai B):=by
  intro h
  have:=ju A B h
  simp[this,bt]
 have aa:∀i:Nat,n≤i→A[i]?.getD 0=B[i]?.getD 0:=fun i hi=>by
  rw[List.getElem?_eq_none (by omega),List.getElem?_eq_none (by omega)]
 have HT:=ac J
 have HQ:=ac Z
 have HA:=ac aa
 have HN:=ac hn
 have n3:n≤35184372088830:=by omega
 clear J Z aa
 generalize bt (ai A) (ai B)=s at*
 rcases(show(A.length<B.length∧n=B.length)∨(¬A.length<B.length∧n=A.length) by omega)with⟨hm,e⟩|⟨hm,e⟩
 all_goals
  have HE:=ac e
  clear hn e
  go_enter Tryz.func109,Tryz.ntmps109
  go_wp2
  go_loop [5] (fun i=>∃m:Nat,m≤n+1∧i=.int .i64 ((m:Int)-1)∧Hid (∀j,m≤j→A[j]?.getD 0=B[j]?.getD 0)) (fun i=>(intOf i+1).toNat)
  case atStart=>exact⟨n+1,by omega,cG (by have:=uH HE;omega),fun j hj=>uH HA j (by omega)⟩
  case round=>
   obtain⟨m,ae,rfl,hq⟩:=hrel
   clear HA HN HE
   by_cases h0:m=0
   ·subst h0
    have L:=ac (uH HQ (fun i=>hq.out i (by omega)))
    clear HT HQ
    go_wp2
    go_ret
    exact⟨aU (uH L),rfl⟩
   ·obtain⟨Q,u⟩:∃x,A[m-1]?.getD 0=x:=⟨_,rfl⟩
    obtain⟨U,z⟩:∃x,B[m-1]?.getD 0=x:=⟨_,rfl⟩
    have ba:Q<4294967296:=by rw[←u];exact X.lt _
    have bb:U<4294967296:=by rw[←z];exact Y.lt _
    have hT:=uH HT (m-1) (fun i hi=>hq.out i (by omega))
    rw[u,z]at hT
    have d:=ac hT
    have D:Hid (Q=U→∀j,m-1≤j→A[j]?.getD 0=B[j]?.getD 0):=fun e j hj=>by
     by_cases h:m≤j
     ·exact hq.out j h
     ·rw[show j=m-1 by omega,u,z];exact e
    have N:=ac u
    have O:=ac z
    clear hT u z hq HT HQ
    rcases Nat.lt_trichotomy Q U with h|h|h
    ·have L:=ac ((uH d).1 h)
     clear d D
     go_wp2_with(first|(go_at_call_of 126 (Value.slice F A.length H);refine(gi F H A _ (m-1) Q _ X la (by omega) N).mono ?_;rintro e K ⟨rfl,rfl⟩)|(go_at_call_of 126 (Value.slice G B.length I);refine(gi G I B _ (m-1) U _ Y lb (by omega) O).mono ?_;rintro e K ⟨rfl,rfl⟩))
     go_ret
     exact⟨aU (uH L),rfl⟩
    ·have L:=ac (uH D h)
     clear d D
     go_wp2_with(first|(go_at_call_of 126 (Value.slice F A.length H);refine(gi F H A _ (m-1) Q _ X la (by omega) N).mono ?_;rintro e K ⟨rfl,rfl⟩)|(go_at_call_of 126 (Value.slice G B.length I);refine(gi G I B _ (m-1) U _ Y lb (by omega) O).mono ?_;rintro e K ⟨rfl,rfl⟩))
     go_round
     case rel=>exact⟨m-1,by omega,cG (by omega),uH L⟩
     case measure=>simp[intOf];omega
    ·have L:=ac ((uH d).2 h)
     clear d D
     go_wp2_with(first|(go_at_call_of 126 (Value.slice F A.length H);refine(gi F H A _ (m-1) Q _ X la (by omega) N).mono ?_;rintro e K ⟨rfl,rfl⟩)|(go_at_call_of 126 (Value.slice G B.length I);refine(gi G I B _ (m-1) U _ Y lb (by omega) O).mono ?_;rintro e K ⟨rfl,rfl⟩))
     go_ret
     exact⟨aU (uH L),rfl⟩
def aJ(M B:Nat)(w:World)(v:Value)(x:Int):Prop:=
 ∃neg ao cap L,v=.agg #[.bool neg,.slice ao L.length cap]∧ag w ao cap L∧bC B ao L∧bO L∧neg=decide (x<0)∧ai L=x.natAbs∧L.length≤M
theorem aJ.num{M B:Nat}{w:World}{v:Value}{x:Int}(h:aJ M B w v x)(I:M≤35184372088832):au B w v x:=by
 obtain⟨neg,u,d,L,z,A,D,F,G,H,J⟩:=h
 exact⟨neg,u,d,L,z,A,D,F,G,H,by omega⟩
theorem aJ.below{M B:Nat}{w u:World}{v:Value}{x:Int}(h:aJ M B w v x)(z:Below w.heap.size w u):aJ M B u v x:=by
 obtain⟨neg,A,d,L,D,F,G⟩:=h
 exact⟨neg,A,d,L,D,F.below z,G⟩
theorem aJ.more{M u B:Nat}{w:World}{v:Value}{x:Int}(h:aJ M B w v x)(J:M≤u):aJ u B w v x:=by
 obtain⟨neg,z,d,L,A,D,F,G,H,I,K⟩:=h
 exact⟨neg,z,d,L,A,D,F,G,H,I,by omega⟩
theorem aJ.zero(M B:Nat)(w:World)(h:Option Addr)(d:Nat):aJ M B w (.agg #[.bool false,.slice h 0 d]) 0:=
 ⟨false,h,d,[],rfl,ag.nil _ _ _,.inl rfl,.inl rfl,rfl,rfl,by simp⟩
theorem j0{n:Bool}{L:List Nat}{x:Int}(h:n=decide (x<0))(u:ai L=x.natAbs):af n L=x:=by
 unfold af
 rw[h]
 by_cases d:x<0
 ·simp[d];omega
 ·simp[d];omega
theorem aJ.stored{M B A:Nat}{w:World}{n:Bool}{z:Option Addr}{d:Nat}{L:List Nat}{x:Int}(h:ag w z d L∧bC B z L∧bO L∧n=decide (x<0)∧ai L=x.natAbs∧L.length≤M){p q:Addr}(F:p.block<B)(G:q.block<B)(H:A≤B)(u D:Value):
  aJ M A ((w.setCell p u).setCell q D) (.agg #[.bool n,.slice z L.length d]) x:=
 ⟨n,z,d,L,rfl,(h.1.store h.2.1 F u).store h.2.1 G D,h.2.1.mono H,h.2.2⟩
theorem cW(B:Nat)(neg:Bool)(J:Option Addr)(d:Nat)(L:List Nat)(w:World)(h:ag w J d L)(hn:bC B J L)(hl:L.length≤35184372088832):
  Calls Tryz.prog 65 #[.bool neg,.slice J L.length d] w fun e F=>∃v,e=.returned v∧aJ L.length B F v (af neg L)∧Below w.heap.size w F:=by
 have G:∀(k:Nat) (F:World),ag F J d L→k≤L.length→ai (L.take k)=ai L→0<k→L[k-1]?.getD 0≠0→aJ L.length B F (.agg #[.bool neg,.slice J k d]) (af neg L):=by
  intro k F X hk A h0 I
  have u:(L.take k).length=k:=by rw[List.length_take,Nat.min_eq_left hk]
  have hC:bO (L.take k):=by
   right
   rw[u,List.getElem?_take,if_pos (by omega)]
   exact I
  have h1:L.take k≠ []:=by intro e;rw[e]at u;simp at u;omega
  have Y:ai (L.take k)≠0:=fun e=>h1 ((aQ _ hC).1 e)
  refine⟨neg,J,d,L.take k,by rw[u],X.take k,hn.take k,hC,?_,by rw[aM];exact A,by omega⟩
  rw[A]at Y
  unfold af;cases neg<;>simp<;>omega
 have z:ai (L.take 0)=ai L→af neg L=0:=by
  intro A
  rw[←nA (neg:=neg) A];exact h9 neg
 have Q:=ac G
 have U:=ac z
 clear G z hn
 have aa:=h.1
 have H:=ac h
 go_enter Tryz.func65,Tryz.ntmps65
 go_wp2
 go_loop [5] (fun i=>∃k:Nat,k≤L.length∧i=.int .i64 k∧Hid (ai (L.take k)=ai L)) (fun i=>(intOf i).toNat)
 case atStart=>exact⟨L.length,Nat.le_refl _,rfl,by unfold Hid;simp⟩
 case round=>
  obtain⟨k,hk,rfl,A⟩:=hrel
  by_cases h0:k=0
  ·subst h0
   have K:=ac (uH U A.out)
   clear Q U A h
   go_wp2
   refine bodyPost_ret (v:=.agg #[.bool false,.slice none 0 0]) (by simp[results,Tryz.results65,go_sem]) rfl ⟨.agg #[.bool false,.slice none 0 0],rfl,?_,(Below.refl _ _).alloc (Nat.le_refl _) _⟩
   rw[uH K];exact aJ.zero _ _ _ _ _
  ·obtain⟨b,D,O,hb,hc⟩:=h.ne (by omega)
   have N:=hc (k-1) (by omega)
   have Z:(w.alloc (.cells #[.bool false,.slice none 0 0] 33)).cell? ⟨b,D+(k-1),none⟩=some (.int .u32 ((L[k-1]?.getD 0:Nat):Int)):=by
    rw[((Below.refl _ w).alloc (Nat.le_refl _) _).cell (p:=⟨b,D+(k-1),none⟩) hb];exact N
   have ae:((k:Int)==0)=false:=by simp;omega
   have ah:(0:Int)<(k:Int):=by omega
   by_cases I:L[k-1]?.getD 0=0
   ·have K:Hid (ai (L.take (k-1))=ai L):=by unfold Hid;rw[jO L k I];exact A.out
    rw[I]at N Z
    clear Q U A h I hc
    subst O
    go_wp2
    go_round
    case rel=>exact⟨k-1,by omega,cG (by omega),K⟩
    case measure=>simp[intOf];omega
   ·have K:=ac (fun F X=>uH Q k F X hk A.out (by omega) I)
    have am:(((L[k-1]?.getD 0:Nat):Int)==0)=false:=by simp;omega
    clear Q U A h hc
    generalize L[k-1]?.getD 0=x at*
    clear I
    subst O
    go_wp2
    refine bodyPost_ret (v:=.agg #[.bool neg,.slice (some ⟨b,D,none⟩) k d]) (by simp[results,Tryz.results65,go_sem]) rfl ⟨.agg #[.bool neg,.slice (some ⟨b,D,none⟩) k d],rfl,?_,(Below.refl _ _).alloc (Nat.le_refl _) _⟩
    exact uH K _ ((uH H).below ((Below.refl _ _).alloc (Nat.le_refl _) _))
theorem ic{w:World}{u:Nat}{v:Value}{n:Nat}{S:List Nat}(h:w.ownsRow u 84 1 v n (S.map dq))(G:bh S):
  ∃D d,v=.slice D S.length d∧ag w D d S∧bC u D S∧S.length=n:=by
 have F:S.length=n:=by have:=h.1;simpa using this
 rcases h.2 with⟨A,L⟩|⟨g,d,I,A,J,K,N,O,Q,U⟩
 ·have:S= []:=List.length_eq_zero_iff.1 (by omega)
  subst this
  exact⟨none,0,A,ag.nil _ _ _,.inl rfl,F⟩
 ·refine⟨some ⟨g,0,none⟩,d,by rw[F];exact A,⟨by omega,G,.inr ⟨g,0,rfl,(Array.getElem?_eq_some_iff.1 K).1,fun i H=>?_⟩⟩,.inr ⟨g,0,rfl,J⟩,F⟩
  have z:=h
  rw[A]at z
  rw[Nat.zero_add,z.cellAt i (by omega)]
  simp[dq,H]
theorem kA{w:World}{u:Nat}{v:Value}{n:Nat}{S:List Nat}{x:Nat}{d:Int}(h:w.ownsRow u 84 1 v (n+1) (S.map dq++[.int .u32 d]))(z:d=(x:Int)):w.ownsRow u 84 1 v (n+1) ((S++[x]).map dq):=by
 subst z
 simpa[dq]using h
theorem nF(ao bo:Option Addr)(ca cb:Nat)(A B:List Nat)(w:World)(hA:ag w ao ca A)(hB:ag w bo cb B)(la:A.length≤35184372088830)(lb:B.length≤35184372088830):
  Calls Tryz.prog 107 #[.slice ao A.length ca,.slice bo B.length cb] w fun e w'=>∃F z Z,e=.returned (.slice F Z.length z)∧ag w' F z Z∧bC w.heap.size F Z∧Z.length=max A.length B.length+1∧ai Z=ai A+ai B∧Below w.heap.size w w':=by
 obtain⟨i0,hi,a5,a6,a7⟩:=info_parts Tryz.info84
 obtain⟨n,U⟩:∃n,n=max A.length B.length:=⟨_,rfl⟩
 have n1:A.length≤n:=by omega
 have n2:B.length≤n:=by omega
 have n3:n≤35184372088830:=by omega
 have HN:=ac U
 have aa:∀(S:List Nat) (c x y:Nat),A[S.length]?.getD 0=x→B[S.length]?.getD 0=y→ai S+4294967296^S.length*c=ai (A.take S.length)+ai (B.take S.length)→ai (S++[(x+y+c)%4294967296])+4294967296^(S.length+1)*((x+y+c)/4294967296)=ai (A.take (S.length+1))+ai (B.take (S.length+1)):=fun S c x y=>yi A B S c x y
 have ae:∀(S:List Nat) (c:Nat),S.length=n+1→ai S+4294967296^S.length*c=ai (A.take S.length)+ai (B.take S.length)→ai S=ai A+ai B:=by
  intro S c hl h
  refine wO A B S (n+1) c hA.2.1 hB.2.1 (by omega) (by omega) hl ?_
  rw[←hl,List.take_length];exact h
 have O:=ac aa
 have Q:=ac ae
 clear aa ae
 rcases(show(A.length<B.length∧n=B.length)∨(¬A.length<B.length∧n=A.length) by omega)with⟨hm,e⟩|⟨hm,e⟩
 all_goals
  have HE:=ac e
  have n4:(n:Int)≤35184372088830:=by omega
  clear U e
  go_enter Tryz.func107,Tryz.ntmps107
  go_wp2
  go_loopw[5,6,7] (fun v c i wr=>∃(S:List Nat) (y:Nat),S.length≤n+1∧i=.int .i64 (S.length:Nat)∧c=.int .u64 y∧y≤1∧wr.ownsRow w.heap.size 84 1 v S.length (S.map dq)∧bh S∧Below w.heap.size w wr∧Hid (ai S+4294967296^S.length*y=ai (A.take S.length)+ai (B.take S.length)))
   (fun _ _ i _=>n+1-(intOf i).toNat)
  case atStart=>
   refine⟨[],0,by simp,rfl,rfl,by omega,?_,by intro x hx;simp at hx,(Below.refl _ _).alloc (Nat.le_refl _) _,by unfold Hid;simp[ai]⟩
   exact World.ownsRow_made w #[] 0 (Nat.le_refl _) (by simp[maxLen]) (by simp)
  case round=>
   obtain⟨S,y,hk,rfl,rfl,hy,D,hf,d,hv⟩:=hrel
   have U:=uH HE
   by_cases ah:S.length≤n
   ·obtain⟨L,I⟩:∃x,A[S.length]?.getD 0=x:=⟨_,rfl⟩
    obtain⟨N,J⟩:∃x,B[S.length]?.getD 0=x:=⟨_,rfl⟩
    have ba:L<4294967296:=by rw[←I];exact hA.lt _
    have bb:N<4294967296:=by rw[←J];exact hB.lt _
    have cA:=hA.below d
    have cB:=hB.below d
    have ar:=ac (uH O S y L N I J hv.out)
    have ax:=ac I
    have az:=ac J
    have aI:=d.size
    have HF:=ac hf
    clear I J hv O Q hf
    generalize an:S.length=k at*
    have a0:=ac an
    clear an
    have X:(k:Int)≤(n:Int):=by omega
    rw[U]at X
    clear U
    go_wp2_with(first|(go_at_call_of 126 (Value.slice ao A.length ca);refine(gi ao ca A _ k L _ cA la rfl ax).mono ?_;rintro e w' ⟨rfl,rfl⟩)|(go_at_call_of 126 (Value.slice bo B.length cb);refine(gi bo cb B _ k N _ cB lb rfl az).mono ?_;rintro e w' ⟨rfl,rfl⟩)|(at_builtin;refine wpList_append_own _ rfl _ _ 31 rfl w.heap.size 84 i0 (.int .u32 0) 1 4 Tryz.underlying31 hi a5 a6 a7 rfl (by decide) _ _ _ rfl (D.alloc _) ⟨wr.heap.size,0,none⟩ 1 1 [.int .u32 (((L:Int)+(N:Int)+(y:Int))%4294967296)] rfl rfl (cell_one_new _ _ _) (fun u hu=>by simp at hu;subst hu;rfl) (by unfold maxLen;omega) (by omega) (by simp;omega) ?_;intro v' w1 G H _;have a1:Below w.heap.size w w1:=((d.alloc aI _).grown H (by simp;omega) (fun g hg=>(D.lt g hg).1));have a2:=ac (kA (x:=(L+N+y)%4294967296) G (by omega));clear G H))
    have a3:=uH ar
    have Y:(S++[(L+N+y)%4294967296]).length=k+1:=by simp[uH a0]
    go_roundw
    case rel=>exact⟨S++[(L+N+y)%4294967296],(L+N+y)/4294967296,by omega,by rw[Y];go_num,cG (by omega),by omega,by rw[Y];exact uH a2,(uH HF).snoc (by omega),a1,by rw[Y];exact a3⟩
    case measure=>simp[intOf];omega
   ·have K:=uH Q S y (by omega) hv.out
    have am:=ac K
    obtain⟨F,z,e1,e2,e3,e4⟩:=ic D hf
    have E2:=ac e2
    have E3:=ac e3
    have X:¬((S.length:Nat):Int)≤(n:Int):=by omega
    rw[U]at X
    have HK:=ac hk
    have a4:=ac ah
    subst e1
    clear K hv O D U e2 e3 e4 Q hk ah
    go_wp2
    go_ret
    have hN:=uH HN
    have h1:=uH HK
    have h2:=uH a4
    exact⟨F,z,S,rfl,uH E2,uH E3,by omega,uH am,d⟩
theorem pZ(ao bo:Option Addr)(ca cb:Nat)(A B:List Nat)(w:World)(hA:ag w ao ca A)(hB:ag w bo cb B)(la:A.length≤35184372088830)(lb:B.length≤35184372088830)(N:ai B≤ai A):
  Calls Tryz.prog 110 #[.slice ao A.length ca,.slice bo B.length cb] w fun e w'=>∃F z Z,e=.returned (.slice F Z.length z)∧ag w' F z Z∧bC w.heap.size F Z∧Z.length=A.length∧ai Z=ai A-ai B∧Below w.heap.size w w':=by
 obtain⟨i0,hi,a3,a4,a5⟩:=info_parts Tryz.info84
 have aa:∀(S:List Nat) (c x y t c':Nat),A[S.length]?.getD 0=x→B[S.length]?.getD 0=y→t+y+c=x+4294967296*c'→ai S+ai (B.take S.length)=ai (A.take S.length)+4294967296^S.length*c→ai (S++[t])+ai (B.take (S.length+1))=ai (A.take (S.length+1))+4294967296^(S.length+1)*c':=fun S c x y t c'=>uW A B S c x y t c'
 have ae:∀(S:List Nat) (c:Nat),bh S→S.length=A.length→ai S+ai (B.take S.length)=ai (A.take S.length)+4294967296^S.length*c→ai S=ai A-ai B:=by
  intro S c f hl h
  refine wP A B S A.length c f hl rfl N (wQ A B hA.2.1 N) ?_
  rw[←hl,List.take_length];exact h
 have Q:=ac aa
 have U:=ac ae
 clear aa ae N
 go_enter Tryz.func110,Tryz.ntmps110
 go_wp2
 go_loopw[5,6,7] (fun v c i wr=>∃(S:List Nat) (y:Nat),S.length≤A.length∧i=.int .i64 (S.length:Nat)∧c=.int .u64 y∧y≤1∧wr.ownsRow w.heap.size 84 1 v S.length (S.map dq)∧bh S∧Below w.heap.size w wr∧Hid (ai S+ai (B.take S.length)=ai (A.take S.length)+4294967296^S.length*y))
  (fun _ _ i _=>A.length-(intOf i).toNat)
 case atStart=>
  refine⟨[],0,by simp,rfl,rfl,by omega,?_,by intro x hx;simp at hx,(Below.refl _ _).alloc (Nat.le_refl _) _,by unfold Hid;simp[ai]⟩
  exact World.ownsRow_made w #[] 0 (Nat.le_refl _) (by simp[maxLen]) (by simp)
 case round=>
  obtain⟨S,y,hk,rfl,rfl,hy,D,hf,d,N⟩:=hrel
  by_cases a6:S.length<A.length
  ·obtain⟨I,K⟩:∃x,A[S.length]?.getD 0=x:=⟨_,rfl⟩
   obtain⟨J,L⟩:∃x,B[S.length]?.getD 0=x:=⟨_,rfl⟩
   have ba:I<4294967296:=by rw[←K];exact hA.lt _
   have bb:J<4294967296:=by rw[←L];exact hB.lt _
   have cA:=hA.below d
   have cB:=hB.below d
   have ar:=ac (uH Q S y I J ((4294967296+I-J-y)%4294967296) (1-(4294967296+I-J-y)/4294967296) K L (by omega) N.out)
   have ax:=ac K
   have az:=ac L
   have aI:=d.size
   have HF:=ac hf
   clear K L N Q U hf
   generalize an:S.length=k at*
   have X:=ac an
   clear an
   go_wp2_with(first|(go_at_call_of 126 (Value.slice ao A.length ca);refine(gi ao ca A _ k I _ cA la rfl ax).mono ?_;rintro e w' ⟨rfl,rfl⟩)|(go_at_call_of 126 (Value.slice bo B.length cb);refine(gi bo cb B _ k J _ cB lb rfl az).mono ?_;rintro e w' ⟨rfl,rfl⟩)|(at_builtin;refine wpList_append_own _ rfl _ _ 31 rfl w.heap.size 84 i0 (.int .u32 0) 1 4 Tryz.underlying31 hi a3 a4 a5 rfl (by decide) _ _ _ rfl (D.alloc _) ⟨wr.heap.size,0,none⟩ 1 1 [.int .u32 ((4294967296+(I:Int)-(J:Int)-(y:Int))%4294967296)] rfl rfl (cell_one_new _ _ _) (fun u hu=>by simp at hu;subst hu;rfl) (by unfold maxLen;omega) (by omega) (by simp;omega) ?_;intro v' w1 G H _;have a0:Below w.heap.size w w1:=((d.alloc aI _).grown H (by simp;omega) (fun g hg=>(D.lt g hg).1));have a1:=ac (kA (x:=(4294967296+I-J-y)%4294967296) G (by omega));clear G H))
   have a2:=uH ar
   have Y:(S++[(4294967296+I-J-y)%4294967296]).length=k+1:=by simp[uH X]
   go_roundw
   case rel=>exact⟨S++[(4294967296+I-J-y)%4294967296],1-(4294967296+I-J-y)/4294967296,by omega,by rw[Y];go_num,cG (by omega),by omega,by rw[Y];exact uH a1,(uH HF).snoc (by omega),a0,by rw[Y];exact a2⟩
   case measure=>simp[intOf];omega
  ·have O:=uH U S y hf (by omega) N.out
   have ah:=ac O
   obtain⟨F,z,e1,e2,e3,e4⟩:=ic D hf
   have E2:=ac e2
   have E3:=ac e3
   have am:S.length=A.length:=by omega
   have X:=ac am
   subst e1
   clear O N Q D e2 e3 e4 U am
   go_wp2
   go_ret
   exact⟨F,z,S,rfl,uH E2,uH E3,uH X,uH ah,d⟩
theorem ym(x y c:Nat)(d:x<4294967296)(u:y<4294967296)(z:c≤1)(h:x<y):
  IntKind.u64.wrap (IntKind.u64.wrap ((x:Int)-(y:Int))-(c:Int))=18446744073709551616+(x:Int)-(y:Int)-(c:Int):=by
 simp only[IntKind.wrap,IntKind.signed,IntKind.bits]
 simp
 omega
theorem kB(ao bo:Option Addr)(ca cb:Nat)(A B:List Nat)(w:World)(hA:ag w ao ca A)(hB:ag w bo cb B)(la:A.length≤35184372088830)(lb:B.length≤35184372088830)(L:ai B≤ai A):
  Calls Tryz.prog 303 #[.slice ao A.length ca,.slice bo B.length cb] w fun e w'=>∃X N L',e=.returned (.slice X L'.length N)∧ag w' X N L'∧bC w.heap.size X L'∧L'.length=A.length∧ai L'=ai A-ai B∧Below w.heap.size w w':=by
 obtain⟨i0,hi,a3,a4,a5⟩:=info_parts Tryz.info84
 have hE:∀(S:List Nat) (k c:Nat),bh S→S.length=A.length→¬k<A.length→k≤A.length→ai (S.take k)+ai (B.take k)=ai (A.take k)+4294967296^k*c→ai S=ai A-ai B:=by
  intro S k c f hl h1 h2 h
  rw[show k=A.length by omega]at h
  exact wP A B S A.length c f hl rfl L (wQ A B hA.2.1 L) h
 have HE:=ac hE
 have F:=fun(S:List Nat) (k c t H:Nat) (hk:k<S.length)=>Ac A B S k c (A[k]?.getD 0) (B[k]?.getD 0) t H hk rfl rfl
 have ae:=ac F
 clear hE F L
 have ah:0<A.length→∃b Y,ao=some ⟨b,Y,none⟩:=fun h=>by obtain⟨b,Y,h1,_⟩:=hA.ne h;exact⟨b,Y,h1⟩
 have bd:=ac ah
 clear ah
 go_enter Tryz.func303,Tryz.ntmps303
 go_wp2_with(at_make;refine wpList_make_full _ rfl _ _ 31 rfl w.heap.size 84 i0 (.int .u32 0) 1 Tryz.underlying31 hi a3 a4 .i64 .i64 _ _ A.length rfl rfl rfl rfl (by rw[a5];omega) (by unfold maxLen;omega) (Nat.le_refl _) ?_;intro w1 U G)
 have O:=bS.made U
 have aI:Below w.heap.size w w1:=(Below.refl _ _).grown G (Nat.le_refl _) (fun k h=>by simp at h)
 have be:w.heap.size<w1.heap.size:=O.lt
 clear U G
 go_wp2
 go_loopw[6,14] (fun c i wr=>∃(k:Nat) (S:List Nat) (y:Nat),k≤A.length∧i=.int .i64 k∧c=.int .u64 y∧y≤1∧bS wr w.heap.size S∧S.length=A.length∧bh S∧Below w.heap.size w wr∧Hid (ai (S.take k)+ai (B.take k)=ai (A.take k)+4294967296^k*y))
  (fun _ i _=>A.length-(intOf i).toNat)
 case atStart=>exact⟨0,List.replicate A.length 0,0,Nat.zero_le _,rfl,rfl,by omega,O,by simp,bh.zeros _,aI,by unfold Hid;simp[ai]⟩
 case round=>
  obtain⟨k,S,y,hk,rfl,rfl,hy,hr,I,hf,u,L⟩:=hrel
  by_cases am:k<A.length
  ·obtain⟨D,J⟩:∃x,A[k]?.getD 0=x:=⟨_,rfl⟩
   obtain⟨z,K⟩:∃x,B[k]?.getD 0=x:=⟨_,rfl⟩
   have ba:D<4294967296:=by rw[←J];exact hA.lt k
   have bb:z<4294967296:=by rw[←K];exact hB.lt k
   have cA:=hA.below u
   have cB:=hB.below u
   have F:=fun(t H:Nat) (ht:t+z+y=D+4294967296*H)=>uH ae S k y t H (by omega) (by rw[J,K];exact ht) L.out
   have an:=ac F
   have Z:=ac K
   have a0:=hr.cell k (by omega)
   have a1:=hr.free k
   have HR:=ac hr
   obtain⟨b1,o1,a6,a9,az⟩:=cA.ne (by omega)
   have a2:=az k am
   rw[J]at a2
   clear F J K L hr az ae HE
   generalize hS:S[k]?.getD 0=sk at*
   clear hS
   subst a6
   have a7:(k:Int)<(A.length:Int):=by omega
   have ar:∀(nq t H:Nat) (d:Int),d=(t:Int)→t<4294967296→H≤1→t+z+y=D+4294967296*H→
     bS ((wr.drewN nq).setCell ⟨w.heap.size,k,none⟩ (.int .u32 d)) w.heap.size (S.set k t)∧(S.set k t).length=A.length∧bh (S.set k t)∧Below w.heap.size w ((wr.drewN nq).setCell ⟨w.heap.size,k,none⟩ (.int .u32 d))∧
     Hid (ai ((S.set k t).take (k+1))+ai (B.take (k+1))=ai (A.take (k+1))+4294967296^(k+1)*H):=by
    rintro nq t H d rfl ht hc he
    exact⟨((uH HR).drewN nq).set k t,by simpa using I,hf.set _ _ ht,(below_drewN u nq).setCell (by simp) _,uH an t H he⟩
   have aa:=ac ar
   clear ar an HR
   rcases(show z+y≤D∨D<z∨(D=z∧y=1) by omega)with h1|h1|⟨h1,h2⟩
   ·go_wp2
    go_quiet ((go_at_call 285;exact je (ib bo cb B _ k z _ (cB.below (below_drewN (Below.refl _ _) _)) lb rfl Z)))
    go_wp2
    have R:=uH aa nq (D-z-y) 0 ((D:Int)-z-y) (by omega) (by omega) (by omega) (by omega)
    go_roundw
    case rel=>exact⟨k+1,_,0,by omega,by go_num,cG (by omega),by omega,R⟩
    case measure=>simp[intOf];omega
   ·go_wp2
    go_quiet ((go_at_call 285;exact je (ib bo cb B _ k z _ (cB.below (below_drewN (Below.refl _ _) _)) lb rfl Z)))
    go_wp2
    have e:=ym D z y ba bb hy h1
    have R:=uH aa nq (4294967296+D-z-y) 1 (IntKind.u64.wrap (IntKind.u64.wrap ((D:Int)-z)-y)%4294967296) (by rw[e];omega) (by omega) (by omega) (by omega)
    go_roundw
    case rel=>exact⟨k+1,_,1,by omega,by go_num,cG (by rw[e];omega),by omega,R⟩
    case measure=>simp[intOf];omega
   ·subst h1;subst h2
    go_wp2
    go_quiet ((go_at_call 285;exact je (ib bo cb B _ k D _ (cB.below (below_drewN (Below.refl _ _) _)) lb rfl Z)))
    go_wp2
    have e:IntKind.u64.wrap (-1)=18446744073709551615:=by decide
    have R:=uH aa nq 4294967295 1 (IntKind.u64.wrap (-1)%4294967296) (by rw[e];rfl) (by omega) (by omega) (by omega)
    go_roundw
    case rel=>exact⟨k+1,_,1,by omega,by go_num,cG (by rw[e];rfl),by omega,R⟩
    case measure=>simp[intOf];omega
  ·have Q:=uH HE S k y hf I am hk L.out
   have ax:=ac Q
   have HR:=ac hr
   clear Q hr L
   go_wp2
   go_ret
   exact⟨some ⟨w.heap.size,0,none⟩,A.length,S,by rw[I];rfl,(uH HR).limbs hf _ (by omega),.inr ⟨_,_,rfl,Nat.le_refl _⟩,I,uH ax,u⟩
theorem jy(B:Nat)(neg:Bool)(I:Option Addr)(A:Nat)(L:List Nat)(w:World)(h:ag w I A L)(U:bC B I L)(hl:L.length≤35184372088832):
  Calls Tryz.prog 266 #[.bool neg,.slice I L.length A] w fun e N=>∃v,e=.returned (.tuple #[v,.int .i64 (bD (af neg L))])∧au B N v (dJ (af neg L))∧Below w.heap.size w N:=by
 have J:∀d:List Nat,bO d→bh d→ai d=ai L→(d= []→bD (af neg L)=0∧dJ (af neg L)=0)∧(512<d.length→bD (af neg L)=2∧dJ (af neg L)=0)∧(d.length≤512→bD (af neg L)=0∧dJ (af neg L)=af neg d):=by
  intro d c f K
  have X:=dr d f c
  refine⟨?_,?_,?_⟩
  ·rintro rfl
   have:ai L=0:=by rw[←K];rfl
   have J:0<dl:=Nat.pow_pos (by decide)
   have e:af neg L=0:=by unfold af;cases neg<;>simp[this]
   simp[bD,dJ,e,J]
  ·intro D
   have:¬ai d<dl:=fun h=>by have:=X.1 h;omega
   simp[bD,dJ,aM,←K,this]
  ·intro D
   have:=X.2 D
   rw[nA (neg:=neg) K]
   simp[bD,dJ,aM,←K,this]
 generalize bD (af neg L)=er at*
 generalize dJ (af neg L)=nu at*
 have Y:=ac J
 clear J
 have Z:=ac U
 clear U
 go_enter Tryz.func266,Tryz.ntmps266
 go_wp2_with fail
 refine(nD I A L _ (h.below ?_) hl).mono ?_
 ·exact(Below.refl _ _).alloc (Nat.le_refl _) _
 rintro e N ⟨v,rfl,⟨G,z,d,rfl,Q,h3,h4,D,h6⟩,rfl⟩
 have O:=D w h
 have H:=ac (uH Y d Q O.2.1 h3)
 have HA:=ac (h6 B (uH Z))
 have H1:=ac O
 have H2:=ac Q
 clear Y h3 D h6 O Q h Z
 by_cases F:d= []
 ·have u:=ac ((uH H).1 F)
  have hz:d.length=0:=by rw[F];rfl
  clear F
  go_wp2
  refine bodyPost_ret (v:=.tuple #[.agg #[.bool false,.slice none 0 0],.int .i64 0]) (by simp[results,Tryz.results266,go_sem]) rfl ⟨.agg #[.bool false,.slice none 0 0],?_,?_,(Below.refl _ _).alloc (Nat.le_refl _) _⟩
  ·rw[(uH u).1]
  ·rw[(uH u).2];exact au.zero _ _ _ _
 ·have hp:0<d.length:=List.length_pos_iff.2 F
  have aa:((d.length:Int)==0)=false:=by simp;exact F
  by_cases D:d.length≤512
  ·have u:=ac ((uH H).2.2 D)
   go_wp2
   refine bodyPost_ret (v:=.tuple #[.agg #[.bool neg,.slice G d.length z],.int .i64 0]) (by simp[results,Tryz.results266,go_sem]) rfl ⟨.agg #[.bool neg,.slice G d.length z],?_,?_,?_⟩
   ·rw[(uH u).1]
   ·rw[(uH u).2]
    exact au.mk ((uH H1).below ((Below.refl _ _).alloc (Nat.le_refl _) _)) (uH HA) (uH H2) F (by omega)
   ·exact(Below.refl _ _).alloc (Nat.le_refl _) _
  ·have u:=ac ((uH H).2.1 (by omega))
   go_wp2
   refine bodyPost_ret (v:=.tuple #[.agg #[.bool false,.slice none 0 0],.int .i64 2]) (by simp[results,Tryz.results266,go_sem]) rfl ⟨.agg #[.bool false,.slice none 0 0],?_,?_,(Below.refl _ _).alloc (Nat.le_refl _) _⟩
   ·rw[(uH u).1]
   ·rw[(uH u).2];exact au.zero _ _ _ _
attribute [local go_sem ↓] Go.wp_at_zero Go.wp_at_succ
theorem nG(d:Bool)(G H:Option Addr)(I J:Nat)(A B:List Nat)(w:World)(hA:ag w G I A)(hB:ag w H J B)(la:A.length≤35184372088830)(lb:B.length≤35184372088830):
  Calls Tryz.prog 300 #[.agg #[.bool d,.slice G A.length I],.agg #[.bool d,.slice H B.length J]] w fun e u=>∃v,e=.returned (.tuple #[v,.int .i64 (bD (af d A+af d B))])∧au w.heap.size u v (dJ (af d A+af d B))∧Below w.heap.size w u:=by
 have K:∀L:List Nat,ai L=ai A+ai B→af d L=af d A+af d B:=by
  intro L h;unfold af;cases d<;>simp[h]<;>omega
 have HS:=ac K
 clear K
 generalize af d A+af d B=z at*
 go_enter Tryz.func300,Tryz.ntmps300
 go_wp2
 refine al (fun W=>Below w.heap.size w W∧W.heap.size=w.heap.size+3∧aA W w.heap.size (.bool d) (.slice G A.length I)∧aA W (w.heap.size+1) (.bool d) (.slice H B.length J)∧aA W (w.heap.size+2) (.bool false) (.slice none 0 0)) ?_ ?_
 ·refine⟨((((Below.refl _ _).alloc (Nat.le_refl _) _).alloc (by simp) _).alloc (by simp;omega) _),by simp,((aA.new _ _ _).old _).old _,?_,?_⟩
  ·have:=(aA.new (w.alloc (.cells #[.bool d,.slice G A.length I] 33)) (.bool d) (.slice H B.length J)).old (.cells #[.bool false,.slice none 0 0] 33)
   simpa using this
  ·have:=aA.new ((w.alloc (.cells #[.bool d,.slice G A.length I] 33)).alloc (.cells #[.bool d,.slice H B.length J] 33)) (.bool false) (.slice none 0 0)
   simpa using this
 rintro U ⟨D,X,x0,x1,x2⟩
 have hK:∀u,Below (w.heap.size+2) U u→Below (w.heap.size+2) U u∧u.cell? ⟨w.heap.size,0,none⟩=some (.bool d)∧u.cell? ⟨w.heap.size,1,none⟩=some (.slice G A.length I)∧u.cell? ⟨w.heap.size+1,1,none⟩=some (.slice H B.length J):=fun u h=>
  ⟨h,(x0.below h (by omega)).c0,(x0.below h (by omega)).c1,(x1.below h (by omega)).c1⟩
 have Z:=ac hK
 have HA:=ac (hA.below D)
 have HB:=ac (hB.below D)
 have X2:=ac x2
 have aa:=ac D
 clear hK hA hB x0 x1 x2 D
 go_region_held3(fun u=>Below (w.heap.size+2) U u∧u.cell? ⟨w.heap.size,0,none⟩=some (.bool d)∧u.cell? ⟨w.heap.size,1,none⟩=some (.slice G A.length I)∧u.cell? ⟨w.heap.size+1,1,none⟩=some (.slice H B.length J))
  (first|exact uH Z _ (Below.refl _ _).drew|exact uH Z _ (by assumption)|exact uH Z _ ((O.setCell (by simp) _).setCell (by simp) _))
  (first|(go_at_call 301;refine(qB G H I J A B _ ((uH HA).below ((Below.refl _ _).drew)) ((uH HB).below ((Below.refl _ _).drew)) la lb).mono ?_;rintro e w1 ⟨am,ah,Y,rfl,g1,g2,g3,g4,F⟩;have ae:Below (w.heap.size+2) U w1:=((Below.refl _ _).drew).trans (F.mono (by simp[X]));have X3:=ac ((uH X2).drew.below F (by simp[X]));have G1:=ac g1;have G2:=ac g2;have G4:=ac g4;have L4:Y.length≤35184372088832:=(by omega);have s1:=F.size;clear g1 g2 g4 g3 F)|(go_at_call 266;refine(jy _ d _ _ _ _ (uH G1) (uH G2) L4).mono ?_;rintro e w2 ⟨v,rfl,⟨n2,a2,c2,L2,rfl,i1⟩,N⟩;have O:Below (w.heap.size+2) U w2:=ae.trans (N.mono (by simp at s1;omega));have Q:=(uH X3).below N (by simp at s1;omega);have y0:=Q.c0;have y1:=Q.c1;have f0:=Q.free 0;have f1:=Q.free 1;have I1:=ac i1;clear i1 N Q))
 have hz:=uH HS Y (uH G4)
 have HI:=ac (hz▸uH I1)
 have HE:=ac (show bD (af d Y)=bD z by rw[hz])
 clear hz
 go_wp2
 refine bodyPost_ret (v:=.tuple #[.agg #[.bool n2,.slice a2 L2.length c2],.int .i64 (bD (af d Y))]) (by simp[results,Tryz.results300,go_sem,y0,y1]) rfl ⟨.agg #[.bool n2,.slice a2 L2.length c2],?_,?_,?_⟩
 ·rw[uH HE]
 ·exact au.stored (uH HI) (by simp;omega) (by simp;omega) (by simp;omega) _ _
 ·exact(((uH aa).trans (O.mono (by omega))).setCell (by simp;omega) _).setCell (by simp;omega) _
end Go.Proofs.YtcbcmlaogehimaaGreatDoor
