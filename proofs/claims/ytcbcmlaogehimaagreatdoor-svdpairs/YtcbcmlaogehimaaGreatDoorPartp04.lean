/- Part 4 of the texts. -/
import Derived.Test.YtcbcmlaogehimaaGreatDoorPartp03
set_option maxHeartbeats 1000000
set_option maxRecDepth 20000
namespace Go.Proofs.YtcbcmlaogehimaaGreatDoor
open Go.RowKit
theorem Tryz.info84:(Tryz.prog.info? 84).map (fun i=>(i.zero,i.size,i.bytes))=some (some (.int .u32 0),1,4):=by kernel_rfl
theorem cL{k:IntKind}{a b:Int}(h:a=b):Value.int k a=.int k b:=by rw[h]
theorem ir(u:Option Addr)(d:Nat)(L:List Nat)(i:Int)(k x:Nat)(w:World)(h:ag w u d L)(z:L.length≤35184372088830)(A:i=(k:Int))(D:Hid (L[k]?.getD 0=x)):
  Calls Tryz.prog 285 #[.slice u L.length d,.int .i64 i] w fun e F=>e=.returned (.int .u64 (x:Int))∧w=F:=by
 have:=vV u d L i k w h z A
 rwa[D.out]at this
theorem rz(ao bo:Option Addr)(ca cb:Nat)(A B:List Nat)(w:World)(hA:ag w ao ca A)(hB:ag w bo cb B)(la:A.length≤35184372088830)(lb:B.length≤35184372088830):
  Calls Tryz.prog 301 #[.slice ao A.length ca,.slice bo B.length cb] w fun e w'=>∃O G U,e=.returned (.slice O U.length G)∧ag w' O G U∧bI w.heap.size O U∧U.length=max A.length B.length+1∧aj U=aj A+aj B∧Below w.heap.size w w':=by
 obtain⟨i0,hi,ax,az,aI⟩:=info_parts Tryz.info84
 obtain⟨n,hn⟩:∃n,n=max A.length B.length+1:=⟨_,rfl⟩
 have n1:A.length+1≤n:=by omega
 have n2:B.length+1≤n:=by omega
 have n3:n≤35184372088831:=by omega
 have HN:=ac hn
 clear hn
 go_enter Tryz.func301,Tryz.ntmps301
 go_wp2_with(at_make;have hn:=uH HN;refine wpList_make_full _ rfl _ _ 31 rfl w.heap.size 84 i0 (.int .u32 0) 1 Tryz.underlying31 hi ax az .i64 .i64 _ _ n rfl rfl (by omega) (by omega) (by rw[aI];omega) (by unfold maxLen;omega) (Nat.le_refl _) ?_;clear hn;intro w1 L u)
 all_goals
  have H:=bW.made L
  have aa:Below w.heap.size w w1:=(Below.refl _ _).grown u (Nat.le_refl _) (fun k h=>by simp at h)
  have a0:w.heap.size<w1.heap.size:=H.lt
  clear L u
  go_wp2
  go_loopw[6,17] (fun c i wr=>∃(k:Nat) (S:List Nat) (y:Nat),k≤n∧i=.int .i64 k∧c=.int .u64 y∧y≤1∧bW wr w.heap.size S∧S.length=n∧bm S∧Below w.heap.size w wr∧Hid (aj (S.take k)+4294967296^k*y=aj (A.take k)+aj (B.take k)))
   (fun _ i _=>n-(intOf i).toNat)
  case atStart=>exact⟨0,List.replicate n 0,0,Nat.zero_le _,rfl,rfl,by omega,H,by simp,bm.zeros _,aa,by unfold Hid;simp[aj]⟩
  case round=>
   obtain⟨k,S,y,hk,rfl,rfl,hy,Q,z,hf,d,hv⟩:=hrel
   by_cases a1:k<n
   ·obtain⟨J,D⟩:∃x,A[k]?.getD 0=x:=⟨_,rfl⟩
    obtain⟨K,F⟩:∃x,B[k]?.getD 0=x:=⟨_,rfl⟩
    have ba:J<4294967296:=by rw[←D];exact hA.lt k
    have bb:K<4294967296:=by rw[←F];exact hB.lt k
    have cA:=hA.below d
    have cB:=hB.below d
    have X:=Bv A B S k y J K (by omega) D F hv.out
    have ae:=ac X
    have ah:=ac D
    have am:=ac F
    have an:=Q.cell k (by omega)
    have ar:=Q.free k
    have HR:=ac Q
    clear X D F hv Q
    generalize hS:S[k]?.getD 0=sk at*
    clear hS
    go_wp2_with(first|(go_at_call_of 285 (Value.slice ao A.length ca);refine(ir ao ca A _ k J _ cA la rfl ah).mono ?_;rintro e w' ⟨rfl,rfl⟩)|(go_at_call_of 285 (Value.slice bo B.length cb);refine(ir bo cb B _ k K _ cB lb rfl am).mono ?_;rintro e w' ⟨rfl,rfl⟩))
    have ec:(((y+(J+K))%4294967296:Nat):Int)=((y:Int)+((J:Int)+(K:Int)))%4294967296:=by omega
    have Y:=(uH HR).set k ((y+(J+K))%4294967296)
    rw[ec]at Y
    go_roundw
    case rel=>exact⟨k+1,S.set k ((y+(J+K))%4294967296),(y+(J+K))/4294967296,by omega,by go_num,cL (by omega),by omega,Y,by simpa using z,hf.set _ _ (by omega),d.setCell (by simp) _,ae⟩
    case measure=>simp[intOf];omega
   ·have I:=yf A B S n y hA.2.1 hB.2.1 n1 n2 z (by rw[show n=k by omega];exact hv.out)
    have Z:=ac I
    have HR:=ac Q
    have HV:=ac hv
    clear I Q hv
    go_wp2
    go_ret
    have hN:=uH HN
    refine⟨some ⟨w.heap.size,0,none⟩,n,S,by rw[z];rfl,(uH HR).limbs hf n (by omega),.inr ⟨_,_,rfl,Nat.le_refl _⟩,by rw[z];exact hN,uH Z,d⟩
theorem gF(u:Option Addr)(d:Nat)(L:List Nat)(i:Int)(k x:Nat)(w:World)(h:ag w u d L)(z:L.length≤35184372088830)(A:i=(k:Int))(D:Hid (L[k]?.getD 0=x)):
  Calls Tryz.prog 126 #[.slice u L.length d,.int .i64 i] w fun e F=>e=.returned (.int .u64 (x:Int))∧w=F:=by
 have:=BN u d L i k w h z A
 rwa[D.out]at this
theorem BO(F G:Option Addr)(H I:Nat)(A B:List Nat)(w:World)(Y:ag w F H A)(Z:ag w G I B)(la:A.length≤35184372088830)(lb:B.length≤35184372088830):
  Calls Tryz.prog 109 #[.slice F A.length H,.slice G B.length I] w fun e K=>e=.returned (.int .i64 (bD (aj A) (aj B)))∧w=K:=by
 obtain⟨n,hn⟩:∃n,n=max A.length B.length:=⟨_,rfl⟩
 have J:∀t:Nat,(∀i:Nat,t<i→A[i]?.getD 0=B[i]?.getD 0)→(A[t]?.getD 0<B[t]?.getD 0→(-1:Int)=bD (aj A) (aj B))∧(B[t]?.getD 0<A[t]?.getD 0→(1:Int)=bD (aj A) (aj B)):=by
  intro t h1
  constructor
  ·intro h2
   have:=jM A B Y.2.1 t h1 h2
   rw[dL (by omega)]
  ·intro h2
   have:=jM B A Z.2.1 t (fun i hi=>(h1 i hi).symm) h2
   rw[e9 (by omega)]
 have aa:(∀i:Nat,A[i]?.getD 0=B[i]?.getD 0)→(0:Int)=bD (aj A) (aj B):=by
  intro h
  have:=jL A B h
  simp[this,bD]
 have ae:∀i:Nat,n≤i→A[i]?.getD 0=B[i]?.getD 0:=fun i hi=>by
  rw[List.getElem?_eq_none (by omega),List.getElem?_eq_none (by omega)]
 have HT:=ac J
 have HQ:=ac aa
 have HA:=ac ae
 have HN:=ac hn
 have n3:n≤35184372088830:=by omega
 clear J aa ae
 generalize bD (aj A) (aj B)=s at*
 rcases(show(A.length<B.length∧n=B.length)∨(¬A.length<B.length∧n=A.length) by omega)with⟨hm,e⟩|⟨hm,e⟩
 all_goals
  have HE:=ac e
  clear hn e
  go_enter Tryz.func109,Tryz.ntmps109
  go_wp2
  go_loop [5] (fun i=>∃m:Nat,m≤n+1∧i=.int .i64 ((m:Int)-1)∧Hid (∀j,m≤j→A[j]?.getD 0=B[j]?.getD 0)) (fun i=>(intOf i+1).toNat)
  case atStart=>exact⟨n+1,by omega,cL (by have:=uH HE;omega),fun j hj=>uH HA j (by omega)⟩
  case round=>
   obtain⟨m,ah,rfl,hq⟩:=hrel
   clear HA HN HE
   by_cases h0:m=0
   ·subst h0
    have L:=ac (uH HQ (fun i=>hq.out i (by omega)))
    clear HT HQ
    go_wp2
    go_ret
    exact⟨aW (uH L),rfl⟩
   ·obtain⟨U,u⟩:∃x,A[m-1]?.getD 0=x:=⟨_,rfl⟩
    obtain⟨X,z⟩:∃x,B[m-1]?.getD 0=x:=⟨_,rfl⟩
    have ba:U<4294967296:=by rw[←u];exact Y.lt _
    have bb:X<4294967296:=by rw[←z];exact Z.lt _
    have hT:=uH HT (m-1) (fun i hi=>hq.out i (by omega))
    rw[u,z]at hT
    have d:=ac hT
    have D:Hid (U=X→∀j,m-1≤j→A[j]?.getD 0=B[j]?.getD 0):=fun e j hj=>by
     by_cases h:m≤j
     ·exact hq.out j h
     ·rw[show j=m-1 by omega,u,z];exact e
    have O:=ac u
    have Q:=ac z
    clear hT u z hq HT HQ
    rcases Nat.lt_trichotomy U X with h|h|h
    ·have L:=ac ((uH d).1 h)
     clear d D
     go_wp2_with(first|(go_at_call_of 126 (Value.slice F A.length H);refine(gF F H A _ (m-1) U _ Y la (by omega) O).mono ?_;rintro e K ⟨rfl,rfl⟩)|(go_at_call_of 126 (Value.slice G B.length I);refine(gF G I B _ (m-1) X _ Z lb (by omega) Q).mono ?_;rintro e K ⟨rfl,rfl⟩))
     go_ret
     exact⟨aW (uH L),rfl⟩
    ·have L:=ac (uH D h)
     clear d D
     go_wp2_with(first|(go_at_call_of 126 (Value.slice F A.length H);refine(gF F H A _ (m-1) U _ Y la (by omega) O).mono ?_;rintro e K ⟨rfl,rfl⟩)|(go_at_call_of 126 (Value.slice G B.length I);refine(gF G I B _ (m-1) X _ Z lb (by omega) Q).mono ?_;rintro e K ⟨rfl,rfl⟩))
     go_round
     case rel=>exact⟨m-1,by omega,cL (by omega),uH L⟩
     case measure=>simp[intOf];omega
    ·have L:=ac ((uH d).2 h)
     clear d D
     go_wp2_with(first|(go_at_call_of 126 (Value.slice F A.length H);refine(gF F H A _ (m-1) U _ Y la (by omega) O).mono ?_;rintro e K ⟨rfl,rfl⟩)|(go_at_call_of 126 (Value.slice G B.length I);refine(gF G I B _ (m-1) X _ Z lb (by omega) Q).mono ?_;rintro e K ⟨rfl,rfl⟩))
     go_ret
     exact⟨aW (uH L),rfl⟩
def aJ(M B:Nat)(w:World)(v:Value)(x:Int):Prop:=
 ∃neg ao cap L,v=.agg #[.bool neg,.slice ao L.length cap]∧ag w ao cap L∧bI B ao L∧bT L∧neg=decide (x<0)∧aj L=x.natAbs∧L.length≤M
theorem aJ.num{M B:Nat}{w:World}{v:Value}{x:Int}(h:aJ M B w v x)(I:M≤35184372088832):au B w v x:=by
 obtain⟨neg,u,d,L,z,A,D,F,G,H,J⟩:=h
 exact⟨neg,u,d,L,z,A,D,F,G,H,by omega⟩
theorem aJ.below{M B:Nat}{w u:World}{v:Value}{x:Int}(h:aJ M B w v x)(z:Below w.heap.size w u):aJ M B u v x:=by
 obtain⟨neg,A,d,L,D,F,G⟩:=h
 exact⟨neg,A,d,L,D,F.below z,G⟩
theorem aJ.more{M u B:Nat}{w:World}{v:Value}{x:Int}(h:aJ M B w v x)(J:M≤u):aJ u B w v x:=by
 obtain⟨neg,z,d,L,A,D,F,G,H,I,K⟩:=h
 exact⟨neg,z,d,L,A,D,F,G,H,I,by omega⟩
theorem aJ.zero(M B:Nat)(w:World)(h:Option Addr)(d:Nat):aJ M B w (.agg #[.bool false,.slice h 0 d]) 0:=
 ⟨false,h,d,[],rfl,ag.nil _ _ _,.inl rfl,.inl rfl,rfl,rfl,by simp⟩
theorem kx{n:Bool}{L:List Nat}{x:Int}(h:n=decide (x<0))(u:aj L=x.natAbs):af n L=x:=by
 unfold af
 rw[h]
 by_cases d:x<0
 ·simp[d];omega
 ·simp[d];omega
theorem aJ.stored{M B A:Nat}{w:World}{n:Bool}{z:Option Addr}{d:Nat}{L:List Nat}{x:Int}(h:ag w z d L∧bI B z L∧bT L∧n=decide (x<0)∧aj L=x.natAbs∧L.length≤M){p q:Addr}(F:p.block<B)(G:q.block<B)(H:A≤B)(u D:Value):
  aJ M A ((w.setCell p u).setCell q D) (.agg #[.bool n,.slice z L.length d]) x:=
 ⟨n,z,d,L,rfl,(h.1.store h.2.1 F u).store h.2.1 G D,h.2.1.mono H,h.2.2⟩
theorem dc(B:Nat)(neg:Bool)(J:Option Addr)(d:Nat)(L:List Nat)(w:World)(h:ag w J d L)(hn:bI B J L)(hl:L.length≤35184372088832):
  Calls Tryz.prog 65 #[.bool neg,.slice J L.length d] w fun e F=>∃v,e=.returned v∧aJ L.length B F v (af neg L)∧Below w.heap.size w F:=by
 have G:∀(k:Nat) (F:World),ag F J d L→k≤L.length→aj (L.take k)=aj L→0<k→L[k-1]?.getD 0≠0→aJ L.length B F (.agg #[.bool neg,.slice J k d]) (af neg L):=by
  intro k F Y hk A h0 I
  have u:(L.take k).length=k:=by rw[List.length_take,Nat.min_eq_left hk]
  have hC:bT (L.take k):=by
   right
   rw[u,List.getElem?_take,if_pos (by omega)]
   exact I
  have h1:L.take k≠ []:=by intro e;rw[e]at u;simp at u;omega
  have Z:aj (L.take k)≠0:=fun e=>h1 ((aT _ hC).1 e)
  refine⟨neg,J,d,L.take k,by rw[u],Y.take k,hn.take k,hC,?_,by rw[aQ];exact A,by omega⟩
  rw[A]at Z
  unfold af;cases neg<;>simp<;>omega
 have z:aj (L.take 0)=aj L→af neg L=0:=by
  intro A
  rw[←oB (neg:=neg) A];exact ip neg
 have U:=ac G
 have X:=ac z
 clear G z hn
 have ae:=h.1
 have H:=ac h
 go_enter Tryz.func65,Tryz.ntmps65
 go_wp2
 go_loop [5] (fun i=>∃k:Nat,k≤L.length∧i=.int .i64 k∧Hid (aj (L.take k)=aj L)) (fun i=>(intOf i).toNat)
 case atStart=>exact⟨L.length,Nat.le_refl _,rfl,by unfold Hid;simp⟩
 case round=>
  obtain⟨k,hk,rfl,A⟩:=hrel
  by_cases h0:k=0
  ·subst h0
   have K:=ac (uH X A.out)
   clear U X A h
   go_wp2
   refine bodyPost_ret (v:=.agg #[.bool false,.slice none 0 0]) (by simp[results,Tryz.results65,go_sem]) rfl ⟨.agg #[.bool false,.slice none 0 0],rfl,?_,(Below.refl _ _).alloc (Nat.le_refl _) _⟩
   rw[uH K];exact aJ.zero _ _ _ _ _
  ·obtain⟨b,D,Q,hb,hc⟩:=h.ne (by omega)
   have O:=hc (k-1) (by omega)
   have aa:(w.alloc (.cells #[.bool false,.slice none 0 0] 33)).cell? ⟨b,D+(k-1),none⟩=some (.int .u32 ((L[k-1]?.getD 0:Nat):Int)):=by
    rw[((Below.refl _ w).alloc (Nat.le_refl _) _).cell (p:=⟨b,D+(k-1),none⟩) hb];exact O
   have ah:((k:Int)==0)=false:=by simp;omega
   have am:(0:Int)<(k:Int):=by omega
   by_cases I:L[k-1]?.getD 0=0
   ·have K:Hid (aj (L.take (k-1))=aj L):=by unfold Hid;rw[ke L k I];exact A.out
    rw[I]at O aa
    clear U X A h I hc
    subst Q
    go_wp2
    go_round
    case rel=>exact⟨k-1,by omega,cL (by omega),K⟩
    case measure=>simp[intOf];omega
   ·have K:=ac (fun F Y=>uH U k F Y hk A.out (by omega) I)
    have an:(((L[k-1]?.getD 0:Nat):Int)==0)=false:=by simp;omega
    clear U X A h hc
    generalize L[k-1]?.getD 0=x at*
    clear I
    subst Q
    go_wp2
    refine bodyPost_ret (v:=.agg #[.bool neg,.slice (some ⟨b,D,none⟩) k d]) (by simp[results,Tryz.results65,go_sem]) rfl ⟨.agg #[.bool neg,.slice (some ⟨b,D,none⟩) k d],rfl,?_,(Below.refl _ _).alloc (Nat.le_refl _) _⟩
    exact uH K _ ((uH H).below ((Below.refl _ _).alloc (Nat.le_refl _) _))
theorem iw{w:World}{u:Nat}{v:Value}{n:Nat}{S:List Nat}(h:w.ownsRow u 84 1 v n (S.map dz))(G:bm S):
  ∃D d,v=.slice D S.length d∧ag w D d S∧bI u D S∧S.length=n:=by
 have F:S.length=n:=by have:=h.1;simpa using this
 rcases h.2 with⟨A,L⟩|⟨g,d,I,A,J,K,O,Q,U,X⟩
 ·have:S= []:=List.length_eq_zero_iff.1 (by omega)
  subst this
  exact⟨none,0,A,ag.nil _ _ _,.inl rfl,F⟩
 ·refine⟨some ⟨g,0,none⟩,d,by rw[F];exact A,⟨by omega,G,.inr ⟨g,0,rfl,(Array.getElem?_eq_some_iff.1 K).1,fun i H=>?_⟩⟩,.inr ⟨g,0,rfl,J⟩,F⟩
  have z:=h
  rw[A]at z
  rw[Nat.zero_add,z.cellAt i (by omega)]
  simp[dz,H]
theorem kY{w:World}{u:Nat}{v:Value}{n:Nat}{S:List Nat}{x:Nat}{d:Int}(h:w.ownsRow u 84 1 v (n+1) (S.map dz++[.int .u32 d]))(z:d=(x:Int)):w.ownsRow u 84 1 v (n+1) ((S++[x]).map dz):=by
 subst z
 simpa[dz]using h
theorem oH(ao bo:Option Addr)(ca cb:Nat)(A B:List Nat)(w:World)(hA:ag w ao ca A)(hB:ag w bo cb B)(la:A.length≤35184372088830)(lb:B.length≤35184372088830):
  Calls Tryz.prog 107 #[.slice ao A.length ca,.slice bo B.length cb] w fun e w'=>∃F z L',e=.returned (.slice F L'.length z)∧ag w' F z L'∧bI w.heap.size F L'∧L'.length=max A.length B.length+1∧aj L'=aj A+aj B∧Below w.heap.size w w':=by
 obtain⟨i0,hi,a5,a6,a7⟩:=info_parts Tryz.info84
 obtain⟨n,X⟩:∃n,n=max A.length B.length:=⟨_,rfl⟩
 have n1:A.length≤n:=by omega
 have n2:B.length≤n:=by omega
 have n3:n≤35184372088830:=by omega
 have HN:=ac X
 have aa:∀(S:List Nat) (c x y:Nat),A[S.length]?.getD 0=x→B[S.length]?.getD 0=y→aj S+4294967296^S.length*c=aj (A.take S.length)+aj (B.take S.length)→aj (S++[(x+y+c)%4294967296])+4294967296^(S.length+1)*((x+y+c)/4294967296)=aj (A.take (S.length+1))+aj (B.take (S.length+1)):=fun S c x y=>zE A B S c x y
 have ae:∀(S:List Nat) (c:Nat),S.length=n+1→aj S+4294967296^S.length*c=aj (A.take S.length)+aj (B.take S.length)→aj S=aj A+aj B:=by
  intro S c hl h
  refine yf A B S (n+1) c hA.2.1 hB.2.1 (by omega) (by omega) hl ?_
  rw[←hl,List.take_length];exact h
 have Q:=ac aa
 have U:=ac ae
 clear aa ae
 rcases(show(A.length<B.length∧n=B.length)∨(¬A.length<B.length∧n=A.length) by omega)with⟨hm,e⟩|⟨hm,e⟩
 all_goals
  have HE:=ac e
  have n4:(n:Int)≤35184372088830:=by omega
  clear X e
  go_enter Tryz.func107,Tryz.ntmps107
  go_wp2
  go_loopw[5,6,7] (fun v c i wr=>∃(S:List Nat) (y:Nat),S.length≤n+1∧i=.int .i64 (S.length:Nat)∧c=.int .u64 y∧y≤1∧wr.ownsRow w.heap.size 84 1 v S.length (S.map dz)∧bm S∧Below w.heap.size w wr∧Hid (aj S+4294967296^S.length*y=aj (A.take S.length)+aj (B.take S.length)))
   (fun _ _ i _=>n+1-(intOf i).toNat)
  case atStart=>
   refine⟨[],0,by simp,rfl,rfl,by omega,?_,by intro x hx;simp at hx,(Below.refl _ _).alloc (Nat.le_refl _) _,by unfold Hid;simp[aj]⟩
   exact World.ownsRow_made w #[] 0 (Nat.le_refl _) (by simp[maxLen]) (by simp)
  case round=>
   obtain⟨S,y,hk,rfl,rfl,hy,D,hf,d,hv⟩:=hrel
   have X:=uH HE
   by_cases ah:S.length≤n
   ·obtain⟨L,I⟩:∃x,A[S.length]?.getD 0=x:=⟨_,rfl⟩
    obtain⟨O,J⟩:∃x,B[S.length]?.getD 0=x:=⟨_,rfl⟩
    have ba:L<4294967296:=by rw[←I];exact hA.lt _
    have bb:O<4294967296:=by rw[←J];exact hB.lt _
    have cA:=hA.below d
    have cB:=hB.below d
    have ar:=ac (uH Q S y L O I J hv.out)
    have ax:=ac I
    have az:=ac J
    have aI:=d.size
    have HF:=ac hf
    clear I J hv Q U hf
    generalize an:S.length=k at*
    have a0:=ac an
    clear an
    have Y:(k:Int)≤(n:Int):=by omega
    rw[X]at Y
    clear X
    go_wp2_with(first|(go_at_call_of 126 (Value.slice ao A.length ca);refine(gF ao ca A _ k L _ cA la rfl ax).mono ?_;rintro e w' ⟨rfl,rfl⟩)|(go_at_call_of 126 (Value.slice bo B.length cb);refine(gF bo cb B _ k O _ cB lb rfl az).mono ?_;rintro e w' ⟨rfl,rfl⟩)|(at_builtin;refine wpList_append_own _ rfl _ _ 31 rfl w.heap.size 84 i0 (.int .u32 0) 1 4 Tryz.underlying31 hi a5 a6 a7 rfl (by decide) _ _ _ rfl (D.alloc _) ⟨wr.heap.size,0,none⟩ 1 1 [.int .u32 (((L:Int)+(O:Int)+(y:Int))%4294967296)] rfl rfl (cell_one_new _ _ _) (fun u hu=>by simp at hu;subst hu;rfl) (by unfold maxLen;omega) (by omega) (by simp;omega) ?_;intro v' w1 G H _;have a1:Below w.heap.size w w1:=((d.alloc aI _).grown H (by simp;omega) (fun g hg=>(D.lt g hg).1));have a2:=ac (kY (x:=(L+O+y)%4294967296) G (by omega));clear G H))
    have a3:=uH ar
    have Z:(S++[(L+O+y)%4294967296]).length=k+1:=by simp[uH a0]
    go_roundw
    case rel=>exact⟨S++[(L+O+y)%4294967296],(L+O+y)/4294967296,by omega,by rw[Z];go_num,cL (by omega),by omega,by rw[Z];exact uH a2,(uH HF).snoc (by omega),a1,by rw[Z];exact a3⟩
    case measure=>simp[intOf];omega
   ·have K:=uH U S y (by omega) hv.out
    have am:=ac K
    obtain⟨F,z,e1,e2,e3,e4⟩:=iw D hf
    have E2:=ac e2
    have E3:=ac e3
    have Y:¬((S.length:Nat):Int)≤(n:Int):=by omega
    rw[X]at Y
    have HK:=ac hk
    have a4:=ac ah
    subst e1
    clear K hv Q D X e2 e3 e4 U hk ah
    go_wp2
    go_ret
    have hN:=uH HN
    have h1:=uH HK
    have h2:=uH a4
    exact⟨F,z,S,rfl,uH E2,uH E3,by omega,uH am,d⟩
theorem qH(ao bo:Option Addr)(ca cb:Nat)(A B:List Nat)(w:World)(hA:ag w ao ca A)(hB:ag w bo cb B)(la:A.length≤35184372088830)(lb:B.length≤35184372088830)(O:aj B≤aj A):
  Calls Tryz.prog 110 #[.slice ao A.length ca,.slice bo B.length cb] w fun e w'=>∃F z L',e=.returned (.slice F L'.length z)∧ag w' F z L'∧bI w.heap.size F L'∧L'.length=A.length∧aj L'=aj A-aj B∧Below w.heap.size w w':=by
 obtain⟨i0,hi,a3,a4,a5⟩:=info_parts Tryz.info84
 have aa:∀(S:List Nat) (c x y t c':Nat),A[S.length]?.getD 0=x→B[S.length]?.getD 0=y→t+y+c=x+4294967296*c'→aj S+aj (B.take S.length)=aj (A.take S.length)+4294967296^S.length*c→aj (S++[t])+aj (B.take (S.length+1))=aj (A.take (S.length+1))+4294967296^(S.length+1)*c':=fun S c x y t c'=>vW A B S c x y t c'
 have ae:∀(S:List Nat) (c:Nat),bm S→S.length=A.length→aj S+aj (B.take S.length)=aj (A.take S.length)+4294967296^S.length*c→aj S=aj A-aj B:=by
  intro S c f hl h
  refine yg A B S A.length c f hl rfl O (yh A B hA.2.1 O) ?_
  rw[←hl,List.take_length];exact h
 have U:=ac aa
 have X:=ac ae
 clear aa ae O
 go_enter Tryz.func110,Tryz.ntmps110
 go_wp2
 go_loopw[5,6,7] (fun v c i wr=>∃(S:List Nat) (y:Nat),S.length≤A.length∧i=.int .i64 (S.length:Nat)∧c=.int .u64 y∧y≤1∧wr.ownsRow w.heap.size 84 1 v S.length (S.map dz)∧bm S∧Below w.heap.size w wr∧Hid (aj S+aj (B.take S.length)=aj (A.take S.length)+4294967296^S.length*y))
  (fun _ _ i _=>A.length-(intOf i).toNat)
 case atStart=>
  refine⟨[],0,by simp,rfl,rfl,by omega,?_,by intro x hx;simp at hx,(Below.refl _ _).alloc (Nat.le_refl _) _,by unfold Hid;simp[aj]⟩
  exact World.ownsRow_made w #[] 0 (Nat.le_refl _) (by simp[maxLen]) (by simp)
 case round=>
  obtain⟨S,y,hk,rfl,rfl,hy,D,hf,d,O⟩:=hrel
  by_cases a6:S.length<A.length
  ·obtain⟨I,K⟩:∃x,A[S.length]?.getD 0=x:=⟨_,rfl⟩
   obtain⟨J,L⟩:∃x,B[S.length]?.getD 0=x:=⟨_,rfl⟩
   have ba:I<4294967296:=by rw[←K];exact hA.lt _
   have bb:J<4294967296:=by rw[←L];exact hB.lt _
   have cA:=hA.below d
   have cB:=hB.below d
   have ar:=ac (uH U S y I J ((4294967296+I-J-y)%4294967296) (1-(4294967296+I-J-y)/4294967296) K L (by omega) O.out)
   have ax:=ac K
   have az:=ac L
   have aI:=d.size
   have HF:=ac hf
   clear K L O U X hf
   generalize an:S.length=k at*
   have Y:=ac an
   clear an
   go_wp2_with(first|(go_at_call_of 126 (Value.slice ao A.length ca);refine(gF ao ca A _ k I _ cA la rfl ax).mono ?_;rintro e w' ⟨rfl,rfl⟩)|(go_at_call_of 126 (Value.slice bo B.length cb);refine(gF bo cb B _ k J _ cB lb rfl az).mono ?_;rintro e w' ⟨rfl,rfl⟩)|(at_builtin;refine wpList_append_own _ rfl _ _ 31 rfl w.heap.size 84 i0 (.int .u32 0) 1 4 Tryz.underlying31 hi a3 a4 a5 rfl (by decide) _ _ _ rfl (D.alloc _) ⟨wr.heap.size,0,none⟩ 1 1 [.int .u32 ((4294967296+(I:Int)-(J:Int)-(y:Int))%4294967296)] rfl rfl (cell_one_new _ _ _) (fun u hu=>by simp at hu;subst hu;rfl) (by unfold maxLen;omega) (by omega) (by simp;omega) ?_;intro v' w1 G H _;have a0:Below w.heap.size w w1:=((d.alloc aI _).grown H (by simp;omega) (fun g hg=>(D.lt g hg).1));have a1:=ac (kY (x:=(4294967296+I-J-y)%4294967296) G (by omega));clear G H))
   have a2:=uH ar
   have Z:(S++[(4294967296+I-J-y)%4294967296]).length=k+1:=by simp[uH Y]
   go_roundw
   case rel=>exact⟨S++[(4294967296+I-J-y)%4294967296],1-(4294967296+I-J-y)/4294967296,by omega,by rw[Z];go_num,cL (by omega),by omega,by rw[Z];exact uH a1,(uH HF).snoc (by omega),a0,by rw[Z];exact a2⟩
   case measure=>simp[intOf];omega
  ·have Q:=uH X S y hf (by omega) O.out
   have ah:=ac Q
   obtain⟨F,z,e1,e2,e3,e4⟩:=iw D hf
   have E2:=ac e2
   have E3:=ac e3
   have am:S.length=A.length:=by omega
   have Y:=ac am
   subst e1
   clear Q O U D e2 e3 e4 X am
   go_wp2
   go_ret
   exact⟨F,z,S,rfl,uH E2,uH E3,uH Y,uH ah,d⟩
theorem zI(x y c:Nat)(d:x<4294967296)(u:y<4294967296)(z:c≤1)(h:x<y):
  IntKind.u64.wrap (IntKind.u64.wrap ((x:Int)-(y:Int))-(c:Int))=18446744073709551616+(x:Int)-(y:Int)-(c:Int):=by
 simp only[IntKind.wrap,IntKind.signed,IntKind.bits]
 simp
 omega
theorem kZ(ao bo:Option Addr)(ca cb:Nat)(A B:List Nat)(w:World)(hA:ag w ao ca A)(hB:ag w bo cb B)(la:A.length≤35184372088830)(lb:B.length≤35184372088830)(L:aj B≤aj A):
  Calls Tryz.prog 303 #[.slice ao A.length ca,.slice bo B.length cb] w fun e w'=>∃Y O L',e=.returned (.slice Y L'.length O)∧ag w' Y O L'∧bI w.heap.size Y L'∧L'.length=A.length∧aj L'=aj A-aj B∧Below w.heap.size w w':=by
 obtain⟨i0,hi,a4,a5,a6⟩:=info_parts Tryz.info84
 have hE:∀(S:List Nat) (k c:Nat),bm S→S.length=A.length→¬k<A.length→k≤A.length→aj (S.take k)+aj (B.take k)=aj (A.take k)+4294967296^k*c→aj S=aj A-aj B:=by
  intro S k c f hl h1 h2 h
  rw[show k=A.length by omega]at h
  exact yg A B S A.length c f hl rfl L (yh A B hA.2.1 L) h
 have HE:=ac hE
 have F:=fun(S:List Nat) (k c t H:Nat) (hk:k<S.length)=>Bz A B S k c (A[k]?.getD 0) (B[k]?.getD 0) t H hk rfl rfl
 have ah:=ac F
 clear hE F L
 have am:0<A.length→∃b Z,ao=some ⟨b,Z,none⟩:=fun h=>by obtain⟨b,Z,h1,_⟩:=hA.ne h;exact⟨b,Z,h1⟩
 have be:=ac am
 clear am
 go_enter Tryz.func303,Tryz.ntmps303
 go_wp2_with(at_make;refine wpList_make_full _ rfl _ _ 31 rfl w.heap.size 84 i0 (.int .u32 0) 1 Tryz.underlying31 hi a4 a5 .i64 .i64 _ _ A.length rfl rfl rfl rfl (by rw[a6];omega) (by unfold maxLen;omega) (Nat.le_refl _) ?_;intro w1 X G)
 have Q:=bW.made X
 have a0:Below w.heap.size w w1:=(Below.refl _ _).grown G (Nat.le_refl _) (fun k h=>by simp at h)
 have bg:w.heap.size<w1.heap.size:=Q.lt
 clear X G
 go_wp2
 go_loopw[6,14] (fun c i wr=>∃(k:Nat) (S:List Nat) (y:Nat),k≤A.length∧i=.int .i64 k∧c=.int .u64 y∧y≤1∧bW wr w.heap.size S∧S.length=A.length∧bm S∧Below w.heap.size w wr∧Hid (aj (S.take k)+aj (B.take k)=aj (A.take k)+4294967296^k*y))
  (fun _ i _=>A.length-(intOf i).toNat)
 case atStart=>exact⟨0,List.replicate A.length 0,0,Nat.zero_le _,rfl,rfl,by omega,Q,by simp,bm.zeros _,a0,by unfold Hid;simp[aj]⟩
 case round=>
  obtain⟨k,S,y,hk,rfl,rfl,hy,hr,I,hf,u,L⟩:=hrel
  by_cases an:k<A.length
  ·obtain⟨D,J⟩:∃x,A[k]?.getD 0=x:=⟨_,rfl⟩
   obtain⟨z,K⟩:∃x,B[k]?.getD 0=x:=⟨_,rfl⟩
   have ba:D<4294967296:=by rw[←J];exact hA.lt k
   have bb:z<4294967296:=by rw[←K];exact hB.lt k
   have cA:=hA.below u
   have cB:=hB.below u
   have F:=fun(t H:Nat) (ht:t+z+y=D+4294967296*H)=>uH ah S k y t H (by omega) (by rw[J,K];exact ht) L.out
   have ar:=ac F
   have aa:=ac K
   have a1:=hr.cell k (by omega)
   have a2:=hr.free k
   have HR:=ac hr
   obtain⟨b1,o1,a7,bd,aI⟩:=cA.ne (by omega)
   have a3:=aI k an
   rw[J]at a3
   clear F J K L hr aI ah HE
   generalize hS:S[k]?.getD 0=sk at*
   clear hS
   subst a7
   have a9:(k:Int)<(A.length:Int):=by omega
   have ax:∀(nq t H:Nat) (d:Int),d=(t:Int)→t<4294967296→H≤1→t+z+y=D+4294967296*H→
     bW ((wr.drewN nq).setCell ⟨w.heap.size,k,none⟩ (.int .u32 d)) w.heap.size (S.set k t)∧(S.set k t).length=A.length∧bm (S.set k t)∧Below w.heap.size w ((wr.drewN nq).setCell ⟨w.heap.size,k,none⟩ (.int .u32 d))∧
     Hid (aj ((S.set k t).take (k+1))+aj (B.take (k+1))=aj (A.take (k+1))+4294967296^(k+1)*H):=by
    rintro nq t H d rfl ht hc he
    exact⟨((uH HR).drewN nq).set k t,by simpa using I,hf.set _ _ ht,(below_drewN u nq).setCell (by simp) _,uH ar t H he⟩
   have ae:=ac ax
   clear ax ar HR
   rcases(show z+y≤D∨D<z∨(D=z∧y=1) by omega)with h1|h1|⟨h1,h2⟩
   ·go_wp2
    go_quiet ((go_at_call 285;exact jr (ir bo cb B _ k z _ (cB.below (below_drewN (Below.refl _ _) _)) lb rfl aa)))
    go_wp2
    have R:=uH ae nq (D-z-y) 0 ((D:Int)-z-y) (by omega) (by omega) (by omega) (by omega)
    go_roundw
    case rel=>exact⟨k+1,_,0,by omega,by go_num,cL (by omega),by omega,R⟩
    case measure=>simp[intOf];omega
   ·go_wp2
    go_quiet ((go_at_call 285;exact jr (ir bo cb B _ k z _ (cB.below (below_drewN (Below.refl _ _) _)) lb rfl aa)))
    go_wp2
    have e:=zI D z y ba bb hy h1
    have R:=uH ae nq (4294967296+D-z-y) 1 (IntKind.u64.wrap (IntKind.u64.wrap ((D:Int)-z)-y)%4294967296) (by rw[e];omega) (by omega) (by omega) (by omega)
    go_roundw
    case rel=>exact⟨k+1,_,1,by omega,by go_num,cL (by rw[e];omega),by omega,R⟩
    case measure=>simp[intOf];omega
   ·subst h1;subst h2
    go_wp2
    go_quiet ((go_at_call 285;exact jr (ir bo cb B _ k D _ (cB.below (below_drewN (Below.refl _ _) _)) lb rfl aa)))
    go_wp2
    have e:IntKind.u64.wrap (-1)=18446744073709551615:=by decide
    have R:=uH ae nq 4294967295 1 (IntKind.u64.wrap (-1)%4294967296) (by rw[e];rfl) (by omega) (by omega) (by omega)
    go_roundw
    case rel=>exact⟨k+1,_,1,by omega,by go_num,cL (by rw[e];rfl),by omega,R⟩
    case measure=>simp[intOf];omega
  ·have U:=uH HE S k y hf I an hk L.out
   have az:=ac U
   have HR:=ac hr
   clear U hr L
   go_wp2
   go_ret
   exact⟨some ⟨w.heap.size,0,none⟩,A.length,S,by rw[I];rfl,(uH HR).limbs hf _ (by omega),.inr ⟨_,_,rfl,Nat.le_refl _⟩,I,uH az,u⟩
theorem jP(B:Nat)(neg:Bool)(I:Option Addr)(A:Nat)(L:List Nat)(w:World)(h:ag w I A L)(X:bI B I L)(hl:L.length≤35184372088832):
  Calls Tryz.prog 266 #[.bool neg,.slice I L.length A] w fun e O=>∃v,e=.returned (.tuple #[v,.int .i64 (bJ (af neg L))])∧au B O v (dP (af neg L))∧Below w.heap.size w O:=by
 have J:∀d:List Nat,bT d→bm d→aj d=aj L→(d= []→bJ (af neg L)=0∧dP (af neg L)=0)∧(512<d.length→bJ (af neg L)=2∧dP (af neg L)=0)∧(d.length≤512→bJ (af neg L)=0∧dP (af neg L)=af neg d):=by
  intro d c f K
  have Y:=dC d f c
  refine⟨?_,?_,?_⟩
  ·rintro rfl
   have:aj L=0:=by rw[←K];rfl
   have J:0<du:=Nat.pow_pos (by decide)
   have e:af neg L=0:=by unfold af;cases neg<;>simp[this]
   simp[bJ,dP,e,J]
  ·intro D
   have:¬aj d<du:=fun h=>by have:=Y.1 h;omega
   simp[bJ,dP,aQ,←K,this]
  ·intro D
   have:=Y.2 D
   rw[oB (neg:=neg) K]
   simp[bJ,dP,aQ,←K,this]
 generalize bJ (af neg L)=er at*
 generalize dP (af neg L)=nu at*
 have Z:=ac J
 clear J
 have HN:=ac X
 clear X
 go_enter Tryz.func266,Tryz.ntmps266
 go_wp2_with fail
 refine(oF I A L _ (h.below ?_) hl).mono ?_
 ·exact(Below.refl _ _).alloc (Nat.le_refl _) _
 rintro e O ⟨v,rfl,⟨G,z,d,rfl,U,h3,h4,D,h6⟩,rfl⟩
 have Q:=D w h
 have H:=ac (uH Z d U Q.2.1 h3)
 have HA:=ac (h6 B (uH HN))
 have H1:=ac Q
 have H2:=ac U
 clear Z h3 D h6 Q U h HN
 by_cases F:d= []
 ·have u:=ac ((uH H).1 F)
  have hz:d.length=0:=by rw[F];rfl
  clear F
  go_wp2
  refine bodyPost_ret (v:=.tuple #[.agg #[.bool false,.slice none 0 0],.int .i64 0]) (by simp[results,Tryz.results266,go_sem]) rfl ⟨.agg #[.bool false,.slice none 0 0],?_,?_,(Below.refl _ _).alloc (Nat.le_refl _) _⟩
  ·rw[(uH u).1]
  ·rw[(uH u).2];exact au.zero _ _ _ _
 ·have hp:0<d.length:=List.length_pos_iff.2 F
  have aa:((d.length:Int)==0)=false:=by simp;exact F
  by_cases D:d.length≤512
  ·have u:=ac ((uH H).2.2 D)
   go_wp2
   refine bodyPost_ret (v:=.tuple #[.agg #[.bool neg,.slice G d.length z],.int .i64 0]) (by simp[results,Tryz.results266,go_sem]) rfl ⟨.agg #[.bool neg,.slice G d.length z],?_,?_,?_⟩
   ·rw[(uH u).1]
   ·rw[(uH u).2]
    exact au.mk ((uH H1).below ((Below.refl _ _).alloc (Nat.le_refl _) _)) (uH HA) (uH H2) F (by omega)
   ·exact(Below.refl _ _).alloc (Nat.le_refl _) _
  ·have u:=ac ((uH H).2.1 (by omega))
   go_wp2
   refine bodyPost_ret (v:=.tuple #[.agg #[.bool false,.slice none 0 0],.int .i64 2]) (by simp[results,Tryz.results266,go_sem]) rfl ⟨.agg #[.bool false,.slice none 0 0],?_,?_,(Below.refl _ _).alloc (Nat.le_refl _) _⟩
   ·rw[(uH u).1]
   ·rw[(uH u).2];exact au.zero _ _ _ _
attribute [local go_sem ↓] Go.wp_at_zero Go.wp_at_succ
theorem oI(d:Bool)(G H:Option Addr)(I J:Nat)(A B:List Nat)(w:World)(hA:ag w G I A)(hB:ag w H J B)(la:A.length≤35184372088830)(lb:B.length≤35184372088830):
  Calls Tryz.prog 300 #[.agg #[.bool d,.slice G A.length I],.agg #[.bool d,.slice H B.length J]] w fun e u=>∃v,e=.returned (.tuple #[v,.int .i64 (bJ (af d A+af d B))])∧au w.heap.size u v (dP (af d A+af d B))∧Below w.heap.size w u:=by
 have K:∀L:List Nat,aj L=aj A+aj B→af d L=af d A+af d B:=by
  intro L h;unfold af;cases d<;>simp[h]<;>omega
 have HS:=ac K
 clear K
 generalize af d A+af d B=z at*
 go_enter Tryz.func300,Tryz.ntmps300
 go_wp2
 refine ap (fun W=>Below w.heap.size w W∧W.heap.size=w.heap.size+3∧aB W w.heap.size (.bool d) (.slice G A.length I)∧aB W (w.heap.size+1) (.bool d) (.slice H B.length J)∧aB W (w.heap.size+2) (.bool false) (.slice none 0 0)) ?_ ?_
 ·refine⟨((((Below.refl _ _).alloc (Nat.le_refl _) _).alloc (by simp) _).alloc (by simp;omega) _),by simp,((aB.new _ _ _).old _).old _,?_,?_⟩
  ·have:=(aB.new (w.alloc (.cells #[.bool d,.slice G A.length I] 33)) (.bool d) (.slice H B.length J)).old (.cells #[.bool false,.slice none 0 0] 33)
   simpa using this
  ·have:=aB.new ((w.alloc (.cells #[.bool d,.slice G A.length I] 33)).alloc (.cells #[.bool d,.slice H B.length J] 33)) (.bool false) (.slice none 0 0)
   simpa using this
 rintro X ⟨D,Y,x0,x1,x2⟩
 have hK:∀u,Below (w.heap.size+2) X u→Below (w.heap.size+2) X u∧u.cell? ⟨w.heap.size,0,none⟩=some (.bool d)∧u.cell? ⟨w.heap.size,1,none⟩=some (.slice G A.length I)∧u.cell? ⟨w.heap.size+1,1,none⟩=some (.slice H B.length J):=fun u h=>
  ⟨h,(x0.below h (by omega)).c0,(x0.below h (by omega)).c1,(x1.below h (by omega)).c1⟩
 have HK:=ac hK
 have HA:=ac (hA.below D)
 have HB:=ac (hB.below D)
 have X2:=ac x2
 have aa:=ac D
 clear hK hA hB x0 x1 x2 D
 go_region_held3(fun u=>Below (w.heap.size+2) X u∧u.cell? ⟨w.heap.size,0,none⟩=some (.bool d)∧u.cell? ⟨w.heap.size,1,none⟩=some (.slice G A.length I)∧u.cell? ⟨w.heap.size+1,1,none⟩=some (.slice H B.length J))
  (first|exact uH HK _ (Below.refl _ _).drew|exact uH HK _ (by assumption)|exact uH HK _ ((Q.setCell (by simp) _).setCell (by simp) _))
  (first|(go_at_call 301;refine(rz G H I J A B _ ((uH HA).below ((Below.refl _ _).drew)) ((uH HB).below ((Below.refl _ _).drew)) la lb).mono ?_;rintro e w1 ⟨am,ah,Z,rfl,g1,g2,g3,g4,F⟩;have ae:Below (w.heap.size+2) X w1:=((Below.refl _ _).drew).trans (F.mono (by simp[Y]));have X3:=ac ((uH X2).drew.below F (by simp[Y]));have G1:=ac g1;have G2:=ac g2;have G4:=ac g4;have L4:Z.length≤35184372088832:=(by omega);have s1:=F.size;clear g1 g2 g4 g3 F)|(go_at_call 266;refine(jP _ d _ _ _ _ (uH G1) (uH G2) L4).mono ?_;rintro e w2 ⟨v,rfl,⟨n2,a2,c2,L2,rfl,i1⟩,O⟩;have Q:Below (w.heap.size+2) X w2:=ae.trans (O.mono (by simp at s1;omega));have U:=(uH X3).below O (by simp at s1;omega);have y0:=U.c0;have y1:=U.c1;have f0:=U.free 0;have f1:=U.free 1;have I1:=ac i1;clear i1 O U))
 have hz:=uH HS Z (uH G4)
 have HI:=ac (hz▸uH I1)
 have HE:=ac (show bJ (af d Z)=bJ z by rw[hz])
 clear hz
 go_wp2
 refine bodyPost_ret (v:=.tuple #[.agg #[.bool n2,.slice a2 L2.length c2],.int .i64 (bJ (af d Z))]) (by simp[results,Tryz.results300,go_sem,y0,y1]) rfl ⟨.agg #[.bool n2,.slice a2 L2.length c2],?_,?_,?_⟩
 ·rw[uH HE]
 ·exact au.stored (uH HI) (by simp;omega) (by simp;omega) (by simp;omega) _ _
 ·exact(((uH aa).trans (Q.mono (by omega))).setCell (by simp;omega) _).setCell (by simp;omega) _
end Go.Proofs.YtcbcmlaogehimaaGreatDoor
