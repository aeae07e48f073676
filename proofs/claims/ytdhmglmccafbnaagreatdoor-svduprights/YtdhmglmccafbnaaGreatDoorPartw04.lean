/- Part 4 of the texts. -/
import Derived.Test.YtdhmglmccafbnaaGreatDoorPartw03
set_option maxHeartbeats 1000000
set_option maxRecDepth 20000
namespace Go.Proofs.YtdhmglmccafbnaaGreatDoor
open Go.RowKit
theorem Tryz.info122:(Tryz.prog.info? 122).map (fun i=>(i.zero,i.size,i.bytes))=some (some (.int .u32 0),1,4):=by kernel_rfl
theorem cJ{k:IntKind}{a b:Int}(h:a=b):Value.int k a=.int k b:=by rw[h]
theorem gJ(f:Option Addr)(d:Nat)(L:List Nat)(i:Int)(k x:Nat)(w:World)(h:ag w f d L)(l:L.length≤35184372088830)(u:i=(k:Int))(z:Hid (L[k]?.getD 0=x)):
  Calls Tryz.prog 303 #[.slice f L.length d,.int .i64 i] w fun e w'=>e=.returned (.int .u64 (x:Int))∧w=w':=by
 have:=tY f d L i k w h l u
 rwa[z.out]at this
theorem qj(X Y:Option Addr)(Z cb:Nat)(A B:List Nat)(w:World)(hA:ag w X Z A)(hB:ag w Y cb B)(la:A.length≤35184372088830)(lb:B.length≤35184372088830):
  Calls Tryz.prog 315 #[.slice X A.length Z,.slice Y B.length cb] w fun e w'=>∃L D N,e=.returned (.slice L N.length D)∧ag w' L D N∧bs w.heap.size L N∧N.length=max A.length B.length+1∧ai N=ai A+ai B∧Below w.heap.size w w':=by
 obtain⟨i0,hi,a1,a2,a3⟩:=info_parts Tryz.info122
 obtain⟨n,hn⟩:∃n,n=max A.length B.length+1:=⟨_,rfl⟩
 have n1:A.length+1≤n:=by omega
 have n2:B.length+1≤n:=by omega
 have n3:n≤35184372088831:=by omega
 have HN:=aa hn
 clear hn
 go_enter Tryz.func315,Tryz.ntmps315
 go_wp2_with(at_make;have hn:=uH HN;refine wpList_make_full _ rfl _ _ 37 rfl w.heap.size 122 i0 (.int .u32 0) 1 Tryz.underlying37 hi a1 a2 .i64 .i64 _ _ n rfl rfl (by omega) (by omega) (by rw[a3];omega) (by unfold maxLen;omega) (Nat.le_refl _) ?_;clear hn;intro w1 K f)
 all_goals
  have F:=bL.made K
  have ae:Below w.heap.size w w1:=(Below.refl _ _).grown f (Nat.le_refl _) (fun k h=>by simp at h)
  have a4:w.heap.size<w1.heap.size:=F.lt
  clear K f
  go_wp2
  go_loopw[6,17] (fun c i wr=>∃(k:Nat) (S:List Nat) (y:Nat),k≤n∧i=.int .i64 k∧c=.int .u64 y∧y≤1∧bL wr w.heap.size S∧S.length=n∧aX S∧Below w.heap.size w wr∧Hid (ai (S.take k)+4294967296^k*y=ai (A.take k)+ai (B.take k)))
   (fun _ i _=>n-(intOf i).toNat)
  case atStart=>exact⟨0,List.replicate n 0,0,Nat.zero_le _,rfl,rfl,by omega,F,by simp,aX.zeros _,ae,by unfold Hid;simp[ai]⟩
  case round=>
   obtain⟨k,S,y,hk,rfl,rfl,hy,M,l,hf,d,V⟩:=hrel
   by_cases a5:k<n
   ·obtain⟨H,u⟩:∃x,A[k]?.getD 0=x:=⟨_,rfl⟩
    obtain⟨J,z⟩:∃x,B[k]?.getD 0=x:=⟨_,rfl⟩
    have ba:H<4294967296:=by rw[←u];exact hA.lt k
    have bb:J<4294967296:=by rw[←z];exact hB.lt k
    have cA:=hA.below d
    have cB:=hB.below d
    have O:=yF A B S k y H J (by omega) u z V.out
    have am:=aa O
    have ap:=aa u
    have ax:=aa z
    have aI:=M.cell k (by omega)
    have a0:=M.free k
    have HR:=aa M
    clear O u z V M
    generalize hS:S[k]?.getD 0=sk at*
    clear hS
    go_wp2_with(first|(go_at_call_of 303 (Value.slice X A.length Z);refine(gJ X Z A _ k H _ cA la rfl ap).mono ?_;rintro e w' ⟨rfl,rfl⟩)|(go_at_call_of 303 (Value.slice Y B.length cb);refine(gJ Y cb B _ k J _ cB lb rfl ax).mono ?_;rintro e w' ⟨rfl,rfl⟩))
    have ec:(((y+(H+J))%4294967296:Nat):Int)=((y:Int)+((H:Int)+(J:Int)))%4294967296:=by omega
    have Q:=(uH HR).set k ((y+(H+J))%4294967296)
    rw[ec]at Q
    go_roundw
    case rel=>exact⟨k+1,S.set k ((y+(H+J))%4294967296),(y+(H+J))/4294967296,by omega,by go_num,cJ (by omega),by omega,Q,by simpa using l,hf.set _ _ (by omega),d.setCell (by simp) _,am⟩
    case measure=>simp[intOf];omega
   ·have G:=vv A B S n y hA.2.1 hB.2.1 n1 n2 l (by rw[show n=k by omega];exact V.out)
    have U:=aa G
    have HR:=aa M
    have HV:=aa V
    clear G M V
    go_wp2
    go_ret
    have hN:=uH HN
    refine⟨some ⟨w.heap.size,0,none⟩,n,S,by rw[l];rfl,(uH HR).limbs hf n (by omega),.inr ⟨_,_,rfl,Nat.le_refl _⟩,by rw[l];exact hN,uH U,d⟩
theorem fj(f:Option Addr)(d:Nat)(L:List Nat)(i:Int)(k x:Nat)(w:World)(h:ag w f d L)(l:L.length≤35184372088830)(u:i=(k:Int))(z:Hid (L[k]?.getD 0=x)):
  Calls Tryz.prog 169 #[.slice f L.length d,.int .i64 i] w fun e w'=>e=.returned (.int .u64 (x:Int))∧w=w':=by
 have:=yR f d L i k w h l u
 rwa[z.out]at this
theorem yS(z D:Option Addr)(F G:Nat)(A B:List Nat)(w:World)(O:ag w z F A)(Q:ag w D G B)(Y:A.length≤35184372088830)(Z:B.length≤35184372088830):
  Calls Tryz.prog 129 #[.slice z A.length F,.slice D B.length G] w fun e w'=>e=.returned (.int .i64 (bc (ai A) (ai B)))∧w=w':=by
 obtain⟨n,hn⟩:∃n,n=max A.length B.length:=⟨_,rfl⟩
 have H:∀t:Nat,(∀i:Nat,t<i→A[i]?.getD 0=B[i]?.getD 0)→(A[t]?.getD 0<B[t]?.getD 0→(-1:Int)=bc (ai A) (ai B))∧(B[t]?.getD 0<A[t]?.getD 0→(1:Int)=bc (ai A) (ai B)):=by
  intro t h1
  constructor
  ·intro h2
   have:=i9 A B O.2.1 t h1 h2
   rw[dl (by omega)]
  ·intro h2
   have:=i9 B A Q.2.1 t (fun i hi=>(h1 i hi).symm) h2
   rw[d9 (by omega)]
 have U:(∀i:Nat,A[i]?.getD 0=B[i]?.getD 0)→(0:Int)=bc (ai A) (ai B):=by
  intro h
  have:=i8 A B h
  simp[this,bc]
 have V:∀i:Nat,n≤i→A[i]?.getD 0=B[i]?.getD 0:=fun i hi=>by
  rw[List.getElem?_eq_none (by omega),List.getElem?_eq_none (by omega)]
 have HT:=aa H
 have HQ:=aa U
 have HA:=aa V
 have HN:=aa hn
 have n3:n≤35184372088830:=by omega
 clear H U V
 generalize bc (ai A) (ai B)=s at*
 rcases(show(A.length<B.length∧n=B.length)∨(¬A.length<B.length∧n=A.length) by omega)with⟨hm,e⟩|⟨hm,e⟩
 all_goals
  have HE:=aa e
  clear hn e
  go_enter Tryz.func129,Tryz.ntmps129
  go_wp2
  go_loop [5] (fun i=>∃m:Nat,m≤n+1∧i=.int .i64 ((m:Int)-1)∧Hid (∀j,m≤j→A[j]?.getD 0=B[j]?.getD 0)) (fun i=>(intOf i+1).toNat)
  case atStart=>exact⟨n+1,by omega,cJ (by have:=uH HE;omega),fun j hj=>uH HA j (by omega)⟩
  case round=>
   obtain⟨m,ae,rfl,X⟩:=hrel
   clear HA HN HE
   by_cases h0:m=0
   ·subst h0
    have J:=aa (uH HQ (fun i=>X.out i (by omega)))
    clear HT HQ
    go_wp2
    go_ret
    exact⟨aH (uH J),rfl⟩
   ·obtain⟨M,f⟩:∃x,A[m-1]?.getD 0=x:=⟨_,rfl⟩
    obtain⟨N,l⟩:∃x,B[m-1]?.getD 0=x:=⟨_,rfl⟩
    have ba:M<4294967296:=by rw[←f];exact O.lt _
    have bb:N<4294967296:=by rw[←l];exact Q.lt _
    have hT:=uH HT (m-1) (fun i hi=>X.out i (by omega))
    rw[f,l]at hT
    have d:=aa hT
    have u:Hid (M=N→∀j,m-1≤j→A[j]?.getD 0=B[j]?.getD 0):=fun e j hj=>by
     by_cases h:m≤j
     ·exact X.out j h
     ·rw[show j=m-1 by omega,f,l];exact e
    have K:=aa f
    have L:=aa l
    clear hT f l X HT HQ
    rcases Nat.lt_trichotomy M N with h|h|h
    ·have J:=aa ((uH d).1 h)
     clear d u
     go_wp2_with(first|(go_at_call_of 169 (Value.slice z A.length F);refine(fj z F A _ (m-1) M _ O Y (by omega) K).mono ?_;rintro e w' ⟨rfl,rfl⟩)|(go_at_call_of 169 (Value.slice D B.length G);refine(fj D G B _ (m-1) N _ Q Z (by omega) L).mono ?_;rintro e w' ⟨rfl,rfl⟩))
     go_ret
     exact⟨aH (uH J),rfl⟩
    ·have J:=aa (uH u h)
     clear d u
     go_wp2_with(first|(go_at_call_of 169 (Value.slice z A.length F);refine(fj z F A _ (m-1) M _ O Y (by omega) K).mono ?_;rintro e w' ⟨rfl,rfl⟩)|(go_at_call_of 169 (Value.slice D B.length G);refine(fj D G B _ (m-1) N _ Q Z (by omega) L).mono ?_;rintro e w' ⟨rfl,rfl⟩))
     go_round
     case rel=>exact⟨m-1,by omega,cJ (by omega),uH J⟩
     case measure=>simp[intOf];omega
    ·have J:=aa ((uH d).2 h)
     clear d u
     go_wp2_with(first|(go_at_call_of 169 (Value.slice z A.length F);refine(fj z F A _ (m-1) M _ O Y (by omega) K).mono ?_;rintro e w' ⟨rfl,rfl⟩)|(go_at_call_of 169 (Value.slice D B.length G);refine(fj D G B _ (m-1) N _ Q Z (by omega) L).mono ?_;rintro e w' ⟨rfl,rfl⟩))
     go_ret
     exact⟨aH (uH J),rfl⟩
def aB(M B:Nat)(w:World)(v:Value)(x:Int):Prop:=
 ∃neg ao cap L,v=.agg #[.bool neg,.slice ao L.length cap]∧ag w ao cap L∧bs B ao L∧bG L∧neg=decide (x<0)∧ai L=x.natAbs∧L.length≤M
theorem aB.below{M B:Nat}{w w':World}{v:Value}{x:Int}(h:aB M B w v x)(f:Below w.heap.size w w'):aB M B w' v x:=by
 obtain⟨neg,l,d,L,u,z,D⟩:=h
 exact⟨neg,l,d,L,u,z.below f,D⟩
theorem aB.more{M f B:Nat}{w:World}{v:Value}{x:Int}(h:aB M B w v x)(J:M≤f):aB f B w v x:=by
 obtain⟨neg,l,d,L,u,z,D,F,G,H,K⟩:=h
 exact⟨neg,l,d,L,u,z,D,F,G,H,by omega⟩
theorem aB.zero(M B:Nat)(w:World)(f:Option Addr)(d:Nat):aB M B w (.agg #[.bool false,.slice f 0 d]) 0:=
 ⟨false,f,d,[],rfl,ag.nil _ _ _,.inl rfl,.inl rfl,rfl,rfl,by simp⟩
theorem jB{n:Bool}{L:List Nat}{x:Int}(h:n=decide (x<0))(f:ai L=x.natAbs):ad n L=x:=by
 unfold ad
 rw[h]
 by_cases d:x<0
 ·simp[d];omega
 ·simp[d];omega
theorem aB.stored{M B l:Nat}{w:World}{n:Bool}{f:Option Addr}{d:Nat}{L:List Nat}{x:Int}(h:ag w f d L∧bs B f L∧bG L∧n=decide (x<0)∧ai L=x.natAbs∧L.length≤M){p q:Addr}(D:p.block<B)(F:q.block<B)(G:l≤B)(u z:Value):
  aB M l ((w.setCell p u).setCell q z) (.agg #[.bool n,.slice f L.length d]) x:=
 ⟨n,f,d,L,rfl,(h.1.store h.2.1 D u).store h.2.1 F z,h.2.1.mono G,h.2.2⟩
theorem c8(B:Nat)(neg:Bool)(G:Option Addr)(d:Nat)(L:List Nat)(w:World)(h:ag w G d L)(Z:bs B G L)(hl:L.length≤35184372088832):
  Calls Tryz.prog 101 #[.bool neg,.slice G L.length d] w fun e w'=>∃v,e=.returned v∧aB L.length B w' v (ad neg L)∧Below w.heap.size w w':=by
 have D:∀(k:Nat) (w':World),ag w' G d L→k≤L.length→ai (L.take k)=ai L→0<k→L[k-1]?.getD 0≠0→aB L.length B w' (.agg #[.bool neg,.slice G k d]) (ad neg L):=by
  intro k w' Q X u h0 F
  have f:(L.take k).length=k:=by rw[List.length_take,Nat.min_eq_left X]
  have hC:bG (L.take k):=by
   right
   rw[f,List.getElem?_take,if_pos (by omega)]
   exact F
  have h1:L.take k≠ []:=by intro e;rw[e]at f;simp at f;omega
  have U:ai (L.take k)≠0:=fun e=>h1 ((aG _ hC).1 e)
  refine⟨neg,G,d,L.take k,by rw[f],Q.take k,Z.take k,hC,?_,by rw[aM];exact u,by omega⟩
  rw[u]at U
  unfold ad;cases neg<;>simp<;>omega
 have l:ai (L.take 0)=ai L→ad neg L=0:=by
  intro u
  rw[←mP (neg:=neg) u];exact gG neg
 have N:=aa D
 have O:=aa l
 clear D l Z
 have ae:=h.1
 have H:=aa h
 go_enter Tryz.func101,Tryz.ntmps101
 go_wp2
 go_loop [5] (fun i=>∃k:Nat,k≤L.length∧i=.int .i64 k∧Hid (ai (L.take k)=ai L)) (fun i=>(intOf i).toNat)
 case atStart=>exact⟨L.length,Nat.le_refl _,rfl,by unfold Hid;simp⟩
 case round=>
  obtain⟨k,X,rfl,u⟩:=hrel
  by_cases h0:k=0
  ·subst h0
   have J:=aa (uH O u.out)
   clear N O u h
   go_wp2
   refine bodyPost_ret (v:=.agg #[.bool false,.slice none 0 0]) (by simp[results,Tryz.results101,go_sem]) rfl ⟨.agg #[.bool false,.slice none 0 0],rfl,?_,(Below.refl _ _).alloc (Nat.le_refl _) _⟩
   rw[uH J];exact aB.zero _ _ _ _ _
  ·obtain⟨b,z,M,hb,Y⟩:=h.ne (by omega)
   have K:=Y (k-1) (by omega)
   have V:(w.alloc (.cells #[.bool false,.slice none 0 0] 39)).cell? ⟨b,z+(k-1),none⟩=some (.int .u32 ((L[k-1]?.getD 0:Nat):Int)):=by
    rw[((Below.refl _ w).alloc (Nat.le_refl _) _).cell (p:=⟨b,z+(k-1),none⟩) hb];exact K
   have am:((k:Int)==0)=false:=by simp;omega
   have ap:(0:Int)<(k:Int):=by omega
   by_cases F:L[k-1]?.getD 0=0
   ·have J:Hid (ai (L.take (k-1))=ai L):=by unfold Hid;rw[jo L k F];exact u.out
    rw[F]at K V
    clear N O u h F Y
    subst M
    go_wp2
    go_round
    case rel=>exact⟨k-1,by omega,cJ (by omega),J⟩
    case measure=>simp[intOf];omega
   ·have J:=aa (fun w' Q=>uH N k w' Q X u.out (by omega) F)
    have ax:(((L[k-1]?.getD 0:Nat):Int)==0)=false:=by simp;omega
    clear N O u h Y
    generalize L[k-1]?.getD 0=x at*
    clear F
    subst M
    go_wp2
    refine bodyPost_ret (v:=.agg #[.bool neg,.slice (some ⟨b,z,none⟩) k d]) (by simp[results,Tryz.results101,go_sem]) rfl ⟨.agg #[.bool neg,.slice (some ⟨b,z,none⟩) k d],rfl,?_,(Below.refl _ _).alloc (Nat.le_refl _) _⟩
    exact uH J _ ((uH H).below ((Below.refl _ _).alloc (Nat.le_refl _) _))
theorem kR{w:World}{f:Nat}{v:Value}{n:Nat}{S:List Nat}(h:w.ownsRow f 122 1 v n (S.map ew))(F:aX S):
  ∃z d,v=.slice z S.length d∧ag w z d S∧bs f z S∧S.length=n:=by
 have D:S.length=n:=by have:=h.1;simpa using this
 rcases h.2 with⟨u,L⟩|⟨g,d,H,u,J,K,M,N,O,Q⟩
 ·have:S= []:=List.length_eq_zero_iff.1 (by omega)
  subst this
  exact⟨none,0,u,ag.nil _ _ _,.inl rfl,D⟩
 ·refine⟨some ⟨g,0,none⟩,d,by rw[D];exact u,⟨by omega,F,.inr ⟨g,0,rfl,(Array.getElem?_eq_some_iff.1 K).1,fun i G=>?_⟩⟩,.inr ⟨g,0,rfl,J⟩,D⟩
  have l:=h
  rw[u]at l
  rw[Nat.zero_add,l.cellAt i (by omega)]
  simp[ew,G]
theorem rG{w:World}{f:Nat}{v:Value}{n:Nat}{S:List Nat}{x:Nat}{d:Int}(h:w.ownsRow f 122 1 v (n+1) (S.map ew++[.int .u32 d]))(l:d=(x:Int)):w.ownsRow f 122 1 v (n+1) ((S++[x]).map ew):=by
 subst l
 simpa[ew]using h
theorem rH(ao bo:Option Addr)(ca cb:Nat)(A B:List Nat)(w:World)(hA:ag w ao ca A)(hB:ag w bo cb B)(la:A.length≤35184372088830)(lb:B.length≤35184372088830):
  Calls Tryz.prog 127 #[.slice ao A.length ca,.slice bo B.length cb] w fun e w'=>∃z f V,e=.returned (.slice z V.length f)∧ag w' z f V∧bs w.heap.size z V∧V.length=max A.length B.length+1∧ai V=ai A+ai B∧Below w.heap.size w w':=by
 obtain⟨i0,hi,a6,a7,a9⟩:=info_parts Tryz.info122
 obtain⟨n,O⟩:∃n,n=max A.length B.length:=⟨_,rfl⟩
 have n1:A.length≤n:=by omega
 have n2:B.length≤n:=by omega
 have n3:n≤35184372088830:=by omega
 have HN:=aa O
 have X:∀(S:List Nat) (c x y:Nat),A[S.length]?.getD 0=x→B[S.length]?.getD 0=y→ai S+4294967296^S.length*c=ai (A.take S.length)+ai (B.take S.length)→ai (S++[(x+y+c)%4294967296])+4294967296^(S.length+1)*((x+y+c)/4294967296)=ai (A.take (S.length+1))+ai (B.take (S.length+1)):=fun S c x y=>wD A B S c x y
 have Y:∀(S:List Nat) (c:Nat),S.length=n+1→ai S+4294967296^S.length*c=ai (A.take S.length)+ai (B.take S.length)→ai S=ai A+ai B:=by
  intro S c hl h
  refine vv A B S (n+1) c hA.2.1 hB.2.1 (by omega) (by omega) hl ?_
  rw[←hl,List.take_length];exact h
 have M:=aa X
 have N:=aa Y
 clear X Y
 rcases(show(A.length<B.length∧n=B.length)∨(¬A.length<B.length∧n=A.length) by omega)with⟨hm,e⟩|⟨hm,e⟩
 all_goals
  have HE:=aa e
  have n4:(n:Int)≤35184372088830:=by omega
  clear O e
  go_enter Tryz.func127,Tryz.ntmps127
  go_wp2
  go_loopw[5,6,7] (fun v c i wr=>∃(S:List Nat) (y:Nat),S.length≤n+1∧i=.int .i64 (S.length:Nat)∧c=.int .u64 y∧y≤1∧wr.ownsRow w.heap.size 122 1 v S.length (S.map ew)∧aX S∧Below w.heap.size w wr∧Hid (ai S+4294967296^S.length*y=ai (A.take S.length)+ai (B.take S.length)))
   (fun _ _ i _=>n+1-(intOf i).toNat)
  case atStart=>
   refine⟨[],0,by simp,rfl,rfl,by omega,?_,by intro x hx;simp at hx,(Below.refl _ _).alloc (Nat.le_refl _) _,by unfold Hid;simp[ai]⟩
   exact World.ownsRow_made w #[] 0 (Nat.le_refl _) (by simp[maxLen]) (by simp)
  case round=>
   obtain⟨S,y,hk,rfl,rfl,hy,l,hf,d,hv⟩:=hrel
   have O:=uH HE
   by_cases Z:S.length≤n
   ·obtain⟨K,G⟩:∃x,A[S.length]?.getD 0=x:=⟨_,rfl⟩
    obtain⟨L,H⟩:∃x,B[S.length]?.getD 0=x:=⟨_,rfl⟩
    have ba:K<4294967296:=by rw[←G];exact hA.lt _
    have bb:L<4294967296:=by rw[←H];exact hB.lt _
    have cA:=hA.below d
    have cB:=hB.below d
    have ap:=aa (uH M S y K L G H hv.out)
    have ax:=aa G
    have aI:=aa H
    have a0:=d.size
    have HF:=aa hf
    clear G H hv M N hf
    generalize am:S.length=k at*
    have a1:=aa am
    clear am
    have Q:(k:Int)≤(n:Int):=by omega
    rw[O]at Q
    clear O
    go_wp2_with(first|(go_at_call_of 169 (Value.slice ao A.length ca);refine(fj ao ca A _ k K _ cA la rfl ax).mono ?_;rintro e w' ⟨rfl,rfl⟩)|(go_at_call_of 169 (Value.slice bo B.length cb);refine(fj bo cb B _ k L _ cB lb rfl aI).mono ?_;rintro e w' ⟨rfl,rfl⟩)|(at_builtin;refine wpList_append_own _ rfl _ _ 37 rfl w.heap.size 122 i0 (.int .u32 0) 1 4 Tryz.underlying37 hi a6 a7 a9 rfl (by decide) _ _ _ rfl (l.alloc _) ⟨wr.heap.size,0,none⟩ 1 1 [.int .u32 (((K:Int)+(L:Int)+(y:Int))%4294967296)] rfl rfl (cell_one_new _ _ _) (fun u hu=>by simp at hu;subst hu;rfl) (by unfold maxLen;omega) (by omega) (by simp;omega) ?_;intro v' w1 D F _;have a2:Below w.heap.size w w1:=((d.alloc a0 _).grown F (by simp;omega) (fun g hg=>(l.lt g hg).1));have a3:=aa (rG (x:=(K+L+y)%4294967296) D (by omega));clear D F))
    have a4:=uH ap
    have U:(S++[(K+L+y)%4294967296]).length=k+1:=by simp[uH a1]
    go_roundw
    case rel=>exact⟨S++[(K+L+y)%4294967296],(K+L+y)/4294967296,by omega,by rw[U];go_num,cJ (by omega),by omega,by rw[U];exact uH a3,(uH HF).snoc (by omega),a2,by rw[U];exact a4⟩
    case measure=>simp[intOf];omega
   ·have J:=uH N S y (by omega) hv.out
    have ae:=aa J
    obtain⟨z,f,e1,e2,e3,e4⟩:=kR l hf
    have E2:=aa e2
    have E3:=aa e3
    have Q:¬((S.length:Nat):Int)≤(n:Int):=by omega
    rw[O]at Q
    have HK:=aa hk
    have a5:=aa Z
    subst e1
    clear J hv M l O e2 e3 e4 N hk Z
    go_wp2
    go_ret
    have hN:=uH HN
    have h1:=uH HK
    have h2:=uH a5
    exact⟨z,f,S,rfl,uH E2,uH E3,by omega,uH ae,d⟩
theorem pr(ao bo:Option Addr)(ca cb:Nat)(A B:List Nat)(w:World)(hA:ag w ao ca A)(hB:ag w bo cb B)(la:A.length≤35184372088830)(lb:B.length≤35184372088830)(M:ai B≤ai A):
  Calls Tryz.prog 130 #[.slice ao A.length ca,.slice bo B.length cb] w fun e w'=>∃D l X,e=.returned (.slice D X.length l)∧ag w' D l X∧bs w.heap.size D X∧X.length=A.length∧ai X=ai A-ai B∧Below w.heap.size w w':=by
 obtain⟨i0,hi,a5,a6,a7⟩:=info_parts Tryz.info122
 have Y:∀(S:List Nat) (c x y t c':Nat),A[S.length]?.getD 0=x→B[S.length]?.getD 0=y→t+y+c=x+4294967296*c'→ai S+ai (B.take S.length)=ai (A.take S.length)+4294967296^S.length*c→ai (S++[t])+ai (B.take (S.length+1))=ai (A.take (S.length+1))+4294967296^(S.length+1)*c':=fun S c x y t c'=>tZ A B S c x y t c'
 have Z:∀(S:List Nat) (c:Nat),aX S→S.length=A.length→ai S+ai (B.take S.length)=ai (A.take S.length)+4294967296^S.length*c→ai S=ai A-ai B:=by
  intro S c f hl h
  refine vw A B S A.length c f hl rfl M (vx A B hA.2.1 M) ?_
  rw[←hl,List.take_length];exact h
 have O:=aa Y
 have Q:=aa Z
 clear Y Z M
 go_enter Tryz.func130,Tryz.ntmps130
 go_wp2
 go_loopw[5,6,7] (fun v c i wr=>∃(S:List Nat) (y:Nat),S.length≤A.length∧i=.int .i64 (S.length:Nat)∧c=.int .u64 y∧y≤1∧wr.ownsRow w.heap.size 122 1 v S.length (S.map ew)∧aX S∧Below w.heap.size w wr∧Hid (ai S+ai (B.take S.length)=ai (A.take S.length)+4294967296^S.length*y))
  (fun _ _ i _=>A.length-(intOf i).toNat)
 case atStart=>
  refine⟨[],0,by simp,rfl,rfl,by omega,?_,by intro x hx;simp at hx,(Below.refl _ _).alloc (Nat.le_refl _) _,by unfold Hid;simp[ai]⟩
  exact World.ownsRow_made w #[] 0 (Nat.le_refl _) (by simp[maxLen]) (by simp)
 case round=>
  obtain⟨S,y,hk,rfl,rfl,hy,z,hf,d,M⟩:=hrel
  by_cases a9:S.length<A.length
  ·obtain⟨H,K⟩:∃x,A[S.length]?.getD 0=x:=⟨_,rfl⟩
   obtain⟨J,L⟩:∃x,B[S.length]?.getD 0=x:=⟨_,rfl⟩
   have ba:H<4294967296:=by rw[←K];exact hA.lt _
   have bb:J<4294967296:=by rw[←L];exact hB.lt _
   have cA:=hA.below d
   have cB:=hB.below d
   have ax:=aa (uH O S y H J ((4294967296+H-J-y)%4294967296) (1-(4294967296+H-J-y)/4294967296) K L (by omega) M.out)
   have aI:=aa K
   have a0:=aa L
   have a1:=d.size
   have HF:=aa hf
   clear K L M O Q hf
   generalize ap:S.length=k at*
   have U:=aa ap
   clear ap
   go_wp2_with(first|(go_at_call_of 169 (Value.slice ao A.length ca);refine(fj ao ca A _ k H _ cA la rfl aI).mono ?_;rintro e w' ⟨rfl,rfl⟩)|(go_at_call_of 169 (Value.slice bo B.length cb);refine(fj bo cb B _ k J _ cB lb rfl a0).mono ?_;rintro e w' ⟨rfl,rfl⟩)|(at_builtin;refine wpList_append_own _ rfl _ _ 37 rfl w.heap.size 122 i0 (.int .u32 0) 1 4 Tryz.underlying37 hi a5 a6 a7 rfl (by decide) _ _ _ rfl (z.alloc _) ⟨wr.heap.size,0,none⟩ 1 1 [.int .u32 ((4294967296+(H:Int)-(J:Int)-(y:Int))%4294967296)] rfl rfl (cell_one_new _ _ _) (fun u hu=>by simp at hu;subst hu;rfl) (by unfold maxLen;omega) (by omega) (by simp;omega) ?_;intro v' w1 F G _;have a2:Below w.heap.size w w1:=((d.alloc a1 _).grown G (by simp;omega) (fun g hg=>(z.lt g hg).1));have a3:=aa (rG (x:=(4294967296+H-J-y)%4294967296) F (by omega));clear F G))
   have a4:=uH ax
   have V:(S++[(4294967296+H-J-y)%4294967296]).length=k+1:=by simp[uH U]
   go_roundw
   case rel=>exact⟨S++[(4294967296+H-J-y)%4294967296],1-(4294967296+H-J-y)/4294967296,by omega,by rw[V];go_num,cJ (by omega),by omega,by rw[V];exact uH a3,(uH HF).snoc (by omega),a2,by rw[V];exact a4⟩
   case measure=>simp[intOf];omega
  ·have N:=uH Q S y hf (by omega) M.out
   have ae:=aa N
   obtain⟨D,l,e1,e2,e3,e4⟩:=kR z hf
   have E2:=aa e2
   have E3:=aa e3
   have am:S.length=A.length:=by omega
   have U:=aa am
   subst e1
   clear N M O z e2 e3 e4 Q am
   go_wp2
   go_ret
   exact⟨D,l,S,rfl,uH E2,uH E3,uH U,uH ae,d⟩
theorem wH(x y c:Nat)(d:x<4294967296)(f:y<4294967296)(l:c≤1)(h:x<y):
  IntKind.u64.wrap (IntKind.u64.wrap ((x:Int)-(y:Int))-(c:Int))=18446744073709551616+(x:Int)-(y:Int)-(c:Int):=by
 simp only[IntKind.wrap,IntKind.signed,IntKind.bits]
 simp
 omega
theorem jX(ao bo:Option Addr)(ca cb:Nat)(A B:List Nat)(w:World)(hA:ag w ao ca A)(hB:ag w bo cb B)(la:A.length≤35184372088830)(lb:B.length≤35184372088830)(L:ai B≤ai A):
  Calls Tryz.prog 317 #[.slice ao A.length ca,.slice bo B.length cb] w fun e w'=>∃U M L',e=.returned (.slice U L'.length M)∧ag w' U M L'∧bs w.heap.size U L'∧L'.length=A.length∧ai L'=ai A-ai B∧Below w.heap.size w w':=by
 obtain⟨i0,hi,a6,a7,a9⟩:=info_parts Tryz.info122
 have hE:∀(S:List Nat) (k c:Nat),aX S→S.length=A.length→¬k<A.length→k≤A.length→ai (S.take k)+ai (B.take k)=ai (A.take k)+4294967296^k*c→ai S=ai A-ai B:=by
  intro S k c f hl Z h2 h
  rw[show k=A.length by omega]at h
  exact vw A B S A.length c f hl rfl L (vx A B hA.2.1 L) h
 have HE:=aa hE
 have D:=fun(S:List Nat) (k c t G:Nat) (hk:k<S.length)=>yI A B S k c (A[k]?.getD 0) (B[k]?.getD 0) t G hk rfl rfl
 have ae:=aa D
 clear hE D L
 have am:0<A.length→∃b V,ao=some ⟨b,V,none⟩:=fun h=>by obtain⟨b,V,Z,_⟩:=hA.ne h;exact⟨b,V,Z⟩
 have bm:=aa am
 clear am
 go_enter Tryz.func317,Tryz.ntmps317
 go_wp2_with(at_make;refine wpList_make_full _ rfl _ _ 37 rfl w.heap.size 122 i0 (.int .u32 0) 1 Tryz.underlying37 hi a6 a7 .i64 .i64 _ _ A.length rfl rfl rfl rfl (by rw[a9];omega) (by unfold maxLen;omega) (Nat.le_refl _) ?_;intro w1 Q F)
 have N:=bL.made Q
 have a2:Below w.heap.size w w1:=(Below.refl _ _).grown F (Nat.le_refl _) (fun k h=>by simp at h)
 have bn:w.heap.size<w1.heap.size:=N.lt
 clear Q F
 go_wp2
 go_loopw[6,14] (fun c i wr=>∃(k:Nat) (S:List Nat) (y:Nat),k≤A.length∧i=.int .i64 k∧c=.int .u64 y∧y≤1∧bL wr w.heap.size S∧S.length=A.length∧aX S∧Below w.heap.size w wr∧Hid (ai (S.take k)+ai (B.take k)=ai (A.take k)+4294967296^k*y))
  (fun _ i _=>A.length-(intOf i).toNat)
 case atStart=>exact⟨0,List.replicate A.length 0,0,Nat.zero_le _,rfl,rfl,by omega,N,by simp,aX.zeros _,a2,by unfold Hid;simp[ai]⟩
 case round=>
  obtain⟨k,S,y,hk,rfl,rfl,hy,hr,H,hf,l,L⟩:=hrel
  by_cases ap:k<A.length
  ·obtain⟨z,J⟩:∃x,A[k]?.getD 0=x:=⟨_,rfl⟩
   obtain⟨u,K⟩:∃x,B[k]?.getD 0=x:=⟨_,rfl⟩
   have ba:z<4294967296:=by rw[←J];exact hA.lt k
   have bb:u<4294967296:=by rw[←K];exact hB.lt k
   have cA:=hA.below l
   have cB:=hB.below l
   have D:=fun(t G:Nat) (ht:t+u+y=z+4294967296*G)=>uH ae S k y t G (by omega) (by rw[J,K];exact ht) L.out
   have ax:=aa D
   have X:=aa K
   have a3:=hr.cell k (by omega)
   have a4:=hr.free k
   have HR:=aa hr
   obtain⟨b1,o1,be,bi,a1⟩:=cA.ne (by omega)
   have a5:=a1 k ap
   rw[J]at a5
   clear D J K L hr a1 ae HE
   generalize hS:S[k]?.getD 0=sk at*
   clear hS
   subst be
   have bg:(k:Int)<(A.length:Int):=by omega
   have aI:∀(nq t G:Nat) (d:Int),d=(t:Int)→t<4294967296→G≤1→t+u+y=z+4294967296*G→
     bL ((wr.drewN nq).setCell ⟨w.heap.size,k,none⟩ (.int .u32 d)) w.heap.size (S.set k t)∧(S.set k t).length=A.length∧aX (S.set k t)∧Below w.heap.size w ((wr.drewN nq).setCell ⟨w.heap.size,k,none⟩ (.int .u32 d))∧
     Hid (ai ((S.set k t).take (k+1))+ai (B.take (k+1))=ai (A.take (k+1))+4294967296^(k+1)*G):=by
    rintro nq t G d rfl ht hc he
    exact⟨((uH HR).drewN nq).set k t,by simpa using H,hf.set _ _ ht,(below_drewN l nq).setCell (by simp) _,uH ax t G he⟩
   have Y:=aa aI
   clear aI ax HR
   rcases(show u+y≤z∨z<u∨(z=u∧y=1) by omega)with Z|Z|⟨Z,h2⟩
   ·go_wp2
    go_quiet ((go_at_call 303;exact iH (gJ bo cb B _ k u _ (cB.below (below_drewN (Below.refl _ _) _)) lb rfl X)))
    go_wp2
    have R:=uH Y nq (z-u-y) 0 ((z:Int)-u-y) (by omega) (by omega) (by omega) (by omega)
    go_roundw
    case rel=>exact⟨k+1,_,0,by omega,by go_num,cJ (by omega),by omega,R⟩
    case measure=>simp[intOf];omega
   ·go_wp2
    go_quiet ((go_at_call 303;exact iH (gJ bo cb B _ k u _ (cB.below (below_drewN (Below.refl _ _) _)) lb rfl X)))
    go_wp2
    have e:=wH z u y ba bb hy Z
    have R:=uH Y nq (4294967296+z-u-y) 1 (IntKind.u64.wrap (IntKind.u64.wrap ((z:Int)-u)-y)%4294967296) (by rw[e];omega) (by omega) (by omega) (by omega)
    go_roundw
    case rel=>exact⟨k+1,_,1,by omega,by go_num,cJ (by rw[e];omega),by omega,R⟩
    case measure=>simp[intOf];omega
   ·subst Z;subst h2
    go_wp2
    go_quiet ((go_at_call 303;exact iH (gJ bo cb B _ k z _ (cB.below (below_drewN (Below.refl _ _) _)) lb rfl X)))
    go_wp2
    have e:IntKind.u64.wrap (-1)=18446744073709551615:=by decide
    have R:=uH Y nq 4294967295 1 (IntKind.u64.wrap (-1)%4294967296) (by rw[e];rfl) (by omega) (by omega) (by omega)
    go_roundw
    case rel=>exact⟨k+1,_,1,by omega,by go_num,cJ (by rw[e];rfl),by omega,R⟩
    case measure=>simp[intOf];omega
  ·have O:=uH HE S k y hf H ap hk L.out
   have a0:=aa O
   have HR:=aa hr
   clear O hr L
   go_wp2
   go_ret
   exact⟨some ⟨w.heap.size,0,none⟩,A.length,S,by rw[H];rfl,(uH HR).limbs hf _ (by omega),.inr ⟨_,_,rfl,Nat.le_refl _⟩,H,uH a0,l⟩
theorem jb(B:Nat)(neg:Bool)(J:Option Addr)(z:Nat)(L:List Nat)(w:World)(h:ag w J z L)(Q:bs B J L)(hl:L.length≤35184372088832):
  Calls Tryz.prog 288 #[.bool neg,.slice J L.length z] w fun e w'=>∃v,e=.returned (.tuple #[v,.int .i64 (bd (ad neg L))])∧an B w' v (du (ad neg L))∧Below w.heap.size w w':=by
 have K:∀d:List Nat,bG d→aX d→ai d=ai L→(d= []→bd (ad neg L)=0∧du (ad neg L)=0)∧(512<d.length→bd (ad neg L)=2∧du (ad neg L)=0)∧(d.length≤512→bd (ad neg L)=0∧du (ad neg L)=ad neg d):=by
  intro d c f M
  have U:=dJ d f c
  refine⟨?_,?_,?_⟩
  ·rintro rfl
   have:ai L=0:=by rw[←M];rfl
   have K:0<dt:=Nat.pow_pos (by decide)
   have e:ad neg L=0:=by unfold ad;cases neg<;>simp[this]
   simp[bd,du,e,K]
  ·intro D
   have:¬ai d<dt:=fun h=>by have:=U.1 h;omega
   simp[bd,du,aM,←M,this]
  ·intro D
   have:=U.2 D
   rw[mP (neg:=neg) M]
   simp[bd,du,aM,←M,this]
 generalize bd (ad neg L)=er at*
 generalize du (ad neg L)=nu at*
 have V:=aa K
 clear K
 have X:=aa Q
 clear Q
 go_enter Tryz.func288,Tryz.ntmps288
 go_wp2_with fail
 refine(mR J z L _ (h.below ?_) hl).mono ?_
 ·exact(Below.refl _ _).alloc (Nat.le_refl _) _
 rintro e w' ⟨v,rfl,⟨G,u,d,rfl,O,Y,h4,D,Z⟩,rfl⟩
 have N:=D w h
 have H:=aa (uH V d O N.2.1 Y)
 have HA:=aa (Z B (uH X))
 have H1:=aa N
 have H2:=aa O
 clear V Y D Z N O h X
 by_cases F:d= []
 ·have l:=aa ((uH H).1 F)
  have hz:d.length=0:=by rw[F];rfl
  clear F
  go_wp2
  refine bodyPost_ret (v:=.tuple #[.agg #[.bool false,.slice none 0 0],.int .i64 0]) (by simp[results,Tryz.results288,go_sem]) rfl ⟨.agg #[.bool false,.slice none 0 0],?_,?_,(Below.refl _ _).alloc (Nat.le_refl _) _⟩
  ·rw[(uH l).1]
  ·rw[(uH l).2];exact an.zero _ _ _ _
 ·have hp:0<d.length:=List.length_pos_iff.2 F
  have ae:((d.length:Int)==0)=false:=by simp;exact F
  by_cases D:d.length≤512
  ·have l:=aa ((uH H).2.2 D)
   go_wp2
   refine bodyPost_ret (v:=.tuple #[.agg #[.bool neg,.slice G d.length u],.int .i64 0]) (by simp[results,Tryz.results288,go_sem]) rfl ⟨.agg #[.bool neg,.slice G d.length u],?_,?_,?_⟩
   ·rw[(uH l).1]
   ·rw[(uH l).2]
    exact an.mk ((uH H1).below ((Below.refl _ _).alloc (Nat.le_refl _) _)) (uH HA) (uH H2) F (by omega)
   ·exact(Below.refl _ _).alloc (Nat.le_refl _) _
  ·have l:=aa ((uH H).2.1 (by omega))
   go_wp2
   refine bodyPost_ret (v:=.tuple #[.agg #[.bool false,.slice none 0 0],.int .i64 2]) (by simp[results,Tryz.results288,go_sem]) rfl ⟨.agg #[.bool false,.slice none 0 0],?_,?_,(Below.refl _ _).alloc (Nat.le_refl _) _⟩
   ·rw[(uH l).1]
   ·rw[(uH l).2];exact an.zero _ _ _ _
attribute [local go_sem ↓] Go.wp_at_zero Go.wp_at_succ
theorem mU(d:Bool)(u D:Option Addr)(F G:Nat)(A B:List Nat)(w:World)(hA:ag w u F A)(hB:ag w D G B)(la:A.length≤35184372088830)(lb:B.length≤35184372088830):
  Calls Tryz.prog 314 #[.agg #[.bool d,.slice u A.length F],.agg #[.bool d,.slice D B.length G]] w fun e w'=>∃v,e=.returned (.tuple #[v,.int .i64 (bd (ad d A+ad d B))])∧an w.heap.size w' v (du (ad d A+ad d B))∧Below w.heap.size w w':=by
 have H:∀L:List Nat,ai L=ai A+ai B→ad d L=ad d A+ad d B:=by
  intro L h;unfold ad;cases d<;>simp[h]<;>omega
 have HS:=aa H
 clear H
 generalize ad d A+ad d B=z at*
 go_enter Tryz.func314,Tryz.ntmps314
 go_wp2
 refine aj (fun W=>Below w.heap.size w W∧W.heap.size=w.heap.size+3∧az W w.heap.size (.bool d) (.slice u A.length F)∧az W (w.heap.size+1) (.bool d) (.slice D B.length G)∧az W (w.heap.size+2) (.bool false) (.slice none 0 0)) ?_ ?_
 ·refine⟨((((Below.refl _ _).alloc (Nat.le_refl _) _).alloc (by simp) _).alloc (by simp;omega) _),by simp,((az.new _ _ _).old _).old _,?_,?_⟩
  ·have:=(az.new (w.alloc (.cells #[.bool d,.slice u A.length F] 39)) (.bool d) (.slice D B.length G)).old (.cells #[.bool false,.slice none 0 0] 39)
   simpa using this
  ·have:=az.new ((w.alloc (.cells #[.bool d,.slice u A.length F] 39)).alloc (.cells #[.bool d,.slice D B.length G] 39)) (.bool false) (.slice none 0 0)
   simpa using this
 rintro N ⟨f,O,Z,x1,x2⟩
 have hK:∀w',Below (w.heap.size+2) N w'→Below (w.heap.size+2) N w'∧w'.cell? ⟨w.heap.size,0,none⟩=some (.bool d)∧w'.cell? ⟨w.heap.size,1,none⟩=some (.slice u A.length F)∧w'.cell? ⟨w.heap.size+1,1,none⟩=some (.slice D B.length G):=fun w' h=>
  ⟨h,(Z.below h (by omega)).c0,(Z.below h (by omega)).c1,(x1.below h (by omega)).c1⟩
 have U:=aa hK
 have HA:=aa (hA.below f)
 have HB:=aa (hB.below f)
 have X2:=aa x2
 have V:=aa f
 clear hK hA hB Z x1 x2 f
 go_region_held3(fun w'=>Below (w.heap.size+2) N w'∧w'.cell? ⟨w.heap.size,0,none⟩=some (.bool d)∧w'.cell? ⟨w.heap.size,1,none⟩=some (.slice u A.length F)∧w'.cell? ⟨w.heap.size+1,1,none⟩=some (.slice D B.length G))
  (first|exact uH U _ (Below.refl _ _).drew|exact uH U _ (by assumption)|exact uH U _ ((K.setCell (by simp) _).setCell (by simp) _))
  (first|(go_at_call 315;refine(qj u D F G A B _ ((uH HA).below ((Below.refl _ _).drew)) ((uH HB).below ((Below.refl _ _).drew)) la lb).mono ?_;rintro e w1 ⟨am,ae,Q,rfl,g1,g2,g3,g4,l⟩;have X:Below (w.heap.size+2) N w1:=((Below.refl _ _).drew).trans (l.mono (by simp[O]));have X3:=aa ((uH X2).drew.below l (by simp[O]));have G1:=aa g1;have G2:=aa g2;have G4:=aa g4;have L4:Q.length≤35184372088832:=(by omega);have s1:=l.size;clear g1 g2 g4 g3 l)|(go_at_call 288;refine(jb _ d _ _ _ _ (uH G1) (uH G2) L4).mono ?_;rintro e w2 ⟨v,rfl,⟨n2,a2,c2,L2,rfl,i1⟩,J⟩;have K:Below (w.heap.size+2) N w2:=X.trans (J.mono (by simp at s1;omega));have M:=(uH X3).below J (by simp at s1;omega);have y0:=M.c0;have y1:=M.c1;have f0:=M.free 0;have f1:=M.free 1;have I1:=aa i1;clear i1 J M))
 have Y:=uH HS Q (uH G4)
 have HI:=aa (Y▸uH I1)
 have HE:=aa (show bd (ad d Q)=bd z by rw[Y])
 clear Y
 go_wp2
 refine bodyPost_ret (v:=.tuple #[.agg #[.bool n2,.slice a2 L2.length c2],.int .i64 (bd (ad d Q))]) (by simp[results,Tryz.results314,go_sem,y0,y1]) rfl ⟨.agg #[.bool n2,.slice a2 L2.length c2],?_,?_,?_⟩
 ·rw[uH HE]
 ·exact an.stored (uH HI) (by simp;omega) (by simp;omega) (by simp;omega) _ _
 ·exact(((uH V).trans (K.mono (by omega))).setCell (by simp;omega) _).setCell (by simp;omega) _
end Go.Proofs.YtdhmglmccafbnaaGreatDoor
