/- Part 4 of the texts. -/
import Derived.Test.YtcbcmlaogehimaaGreatDoorPartu03
set_option maxHeartbeats 1000000
set_option maxRecDepth 20000
namespace Go.Proofs.YtcbcmlaogehimaaGreatDoor
open Go.RowKit
theorem Tryz.info84:(Tryz.prog.info? 84).map (fun i=>(i.zero,i.size,i.bytes))=some (some (.int .u32 0),1,4):=by kernel_rfl
theorem dG{k:IntKind}{a b:Int}(h:a=b):Value.int k a=.int k b:=by rw[h]
theorem jF(ao:GY)(cap:Nat)(L:H3)(i:Int)(k x:Nat)(w:World)(h:ai w ao cap L)(l:L.length<=35184372088830)(t:i=(k:Int))(D:Hid (L[k]?.getD 0=x)):
  GF 285 #[.slice ao L.length cap,C0 i] w fun e F=>e=.returned (CI (x:Int))/\w=F:=by
 have:=yB ao cap L i k w h l t
 rwa[D.out]at this
theorem ur(ao bo:GY)(ca cb:Nat)(A B:H3)(w:World)(hA:ai w ao ca A)(hB:ai w bo cb B)(la:A.length<=35184372088830)(lb:B.length<=35184372088830):
  GF 301 #[.slice ao A.length ca,.slice bo B.length cb] w fun e w'=>∃N H Q,e=.returned (.slice N Q.length H)/\ai w' N H Q/\cj w.heap.size N Q/\Q.length=max A.length B.length+1/\aj Q=aj A+aj B/\H8 w w':=by
 obtain⟨i0,hi,a1,a2,a3⟩:=info_parts Tryz.info84;obtain⟨n,hn⟩:∃n,n=max A.length B.length+1:=⟨_,rfl⟩;have n1:A.length+1<=n:=by omega
 have n2:B.length+1<=n:=by omega
 have n3:n<=35184372088831:=by omega
 have HN:=ac hn;clear hn
 go_enter Tryz.func301,Tryz.ntmps301
 go_wp2_with(at_make;have hn:=uH HN;refine wpList_make_full _ rfl _ _ 31 rfl w.heap.size 84 i0 (.int .u32 0) 1 Tryz.underlying31 hi a1 a2 .i64 .i64 _ _ n rfl rfl (by omega) (by omega) (by rw[a3];omega) (by unfold maxLen;omega) (Nat.le_refl _) ?_;clear hn;intro w1 M t)
 all_goals
  have I:=cP.made M;have ae:H8 w w1:=(Below.refl _ _).grown t (Nat.le_refl _) (fun k h=>by simp at h);have a4:w.heap.size<w1.heap.size:=I.lt;clear M t
  go_wp2
  go_loopw[6,17] (fun c i wr=>∃(k:Nat) (S:H3) (y:Nat),k<=n/\i=.int .i64 k/\c=.int .u64 y/\y<=1/\cP wr w.heap.size S/\S.length=n/\bQ S/\H8 w wr/\Hid (aj (S.take k)+4294967296^k*y=aj (A.take k)+aj (B.take k)))
   (fun _ i _=>n-(intOf i).toNat)
  case atStart=>exact⟨0,List.replicate n 0,0,Nat.zero_le _,rfl,rfl,by omega,I,by simp,bQ.zeros _,ae,by unfold Hid;simp[aj]⟩
  case round=>
   obtain⟨k,S,y,hk,rfl,rfl,hy,O,D,hf,l,hv⟩:=hrel
   by_cases a5:k<n
   ·obtain⟨K,F⟩:∃x,A[k]?.getD 0=x:=⟨_,rfl⟩
    obtain⟨L,G⟩:∃x,B[k]?.getD 0=x:=⟨_,rfl⟩;have ba:K<4294967296:=by rw[<-F];exact hA.lt k
    have bb:L<4294967296:=by rw[<-G];exact hB.lt k
    have cA:=hA.below l;have cB:=hB.below l;have U:=Ep A B S k y K L (by omega) F G hv.out;have am:=ac U;have ap:=ac F;have ax:=ac G;have aI:=O.cell k (by omega);have a0:=O.free k;have HR:=ac O;clear U F G hv O;generalize hS:S[k]?.getD 0=sk at*;clear hS
    go_wp2_with(first|(go_at_call_of 285 (Value.slice ao A.length ca);refine(jF ao ca A _ k K _ cA la rfl ap).mono ?_;rintro e w' ⟨rfl,rfl⟩)|(go_at_call_of 285 (Value.slice bo B.length cb);refine(jF bo cb B _ k L _ cB lb rfl ax).mono ?_;rintro e w' ⟨rfl,rfl⟩))
    have ec:(((y+(K+L))%4294967296:Nat):Int)=((y:Int)+((K:Int)+(L:Int)))%4294967296:=by omega
    have Z:=(uH HR).set k ((y+(K+L))%4294967296);rw[ec]at Z
    go_roundw
    case rel=>exact⟨k+1,S.set k ((y+(K+L))%4294967296),(y+(K+L))/4294967296,by omega,by go_num,dG (by omega),by omega,Z,by simpa using D,hf.set _ _ (by omega),l.setCell (by simp) _,am⟩
    case measure=>simp[intOf];omega
   ·have J:=AO A B S n y hA.2.1 hB.2.1 n1 n2 D (by rw[show n=k by omega];exact hv.out)
    have aa:=ac J;have HR:=ac O;have HV:=ac hv;clear J O hv
    go_wp2
    go_ret
    have hN:=uH HN;refine⟨some ⟨w.heap.size,0,none⟩,n,S,by rw[D];rfl,(uH HR).limbs hf n (by omega),.inr ⟨_,_,rfl,Nat.le_refl _⟩,by rw[D];exact hN,uH aa,l⟩
theorem iK(ao:GY)(cap:Nat)(L:H3)(i:Int)(k x:Nat)(w:World)(h:ai w ao cap L)(l:L.length<=35184372088830)(t:i=(k:Int))(D:Hid (L[k]?.getD 0=x)):
  GF 126 #[.slice ao L.length cap,C0 i] w fun e F=>e=.returned (CI (x:Int))/\w=F:=by
 have:=EF ao cap L i k w h l t
 rwa[D.out]at this
theorem EG(ao H:GY)(I J:Nat)(A B:H3)(w:World)(Z:ai w ao I A)(hB:ai w H J B)(la:A.length<=35184372088830)(lb:B.length<=35184372088830):
  GF 109 #[.slice ao A.length I,.slice H B.length J] w fun e L=>e=.returned (C0 (bY (aj A) (aj B)))/\w=L:=by
 obtain⟨n,hn⟩:∃n,n=max A.length B.length:=⟨_,rfl⟩;have K:∀t:Nat,(∀i:Nat,t<i->A[i]?.getD 0=B[i]?.getD 0)->(A[t]?.getD 0<B[t]?.getD 0->(-1:Int)=bY (aj A) (aj B))/\(B[t]?.getD 0<A[t]?.getD 0->(1:Int)=bY (aj A) (aj B)):=by
  intro t h1
  constructor
  ·intro h2
   have:=lk A B Z.2.1 t h1 h2;rw[fk (by omega)]
  ·intro h2
   have:=lk B A hB.2.1 t (fun i hi=>(h1 i hi).symm) h2;rw[gR (by omega)]
 have aa:(∀i:Nat,A[i]?.getD 0=B[i]?.getD 0)->(0:Int)=bY (aj A) (aj B):=by
  intro h;have:=lj A B h
  simp[this,bY]
 have ae:∀i:Nat,n<=i->A[i]?.getD 0=B[i]?.getD 0:=fun i hi=>by
  rw[List.getElem?_eq_none (by omega),List.getElem?_eq_none (by omega)]
 have HT:=ac K;have HQ:=ac aa;have HA:=ac ae;have HN:=ac hn;have n3:n<=35184372088830:=by omega
 clear K aa ae;generalize bY (aj A) (aj B)=s at*;rcases(show(A.length<B.length/\n=B.length)\/(¬A.length<B.length/\n=A.length) by omega)with⟨hm,e⟩|⟨hm,e⟩
 all_goals
  have HE:=ac e;clear hn e
  go_enter Tryz.func109,Tryz.ntmps109
  go_wp2
  go_loop [5] (fun i=>∃m:Nat,m<=n+1/\i=.int .i64 ((m:Int)-1)/\Hid (∀j,m<=j->A[j]?.getD 0=B[j]?.getD 0)) (fun i=>(intOf i+1).toNat)
  case atStart=>exact⟨n+1,by omega,dG (by have:=uH HE;omega),fun j hj=>uH HA j (by omega)⟩
  case round=>
   obtain⟨m,am,rfl,hq⟩:=hrel;clear HA HN HE
   by_cases h0:m=0
   ·subst h0
    have M:=ac (uH HQ (fun i=>hq.out i (by omega)));clear HT HQ
    go_wp2
    go_ret
    exact⟨bh (uH M),rfl⟩
   ·obtain⟨Q,D⟩:∃x,A[m-1]?.getD 0=x:=⟨_,rfl⟩
    obtain⟨U,F⟩:∃x,B[m-1]?.getD 0=x:=⟨_,rfl⟩;have ba:Q<4294967296:=by rw[<-D];exact Z.lt _
    have bb:U<4294967296:=by rw[<-F];exact hB.lt _
    have hT:=uH HT (m-1) (fun i hi=>hq.out i (by omega));rw[D,F]at hT;have l:=ac hT;have G:Hid (Q=U->∀j,m-1<=j->A[j]?.getD 0=B[j]?.getD 0):=fun e j hj=>by
     by_cases h:m<=j
     ·exact hq.out j h
     ·rw[show j=m-1 by omega,D,F];exact e
    have N:=ac D;have O:=ac F;clear hT D F hq HT HQ;rcases Nat.lt_trichotomy Q U with h|h|h
    ·have M:=ac ((uH l).1 h)
     clear l G
     go_wp2_with(first|(go_at_call_of 126 (Value.slice ao A.length I);refine(iK ao I A _ (m-1) Q _ Z la (by omega) N).mono ?_;rintro e L ⟨rfl,rfl⟩)|(go_at_call_of 126 (Value.slice H B.length J);refine(iK H J B _ (m-1) U _ hB lb (by omega) O).mono ?_;rintro e L ⟨rfl,rfl⟩))
     go_ret
     exact⟨bh (uH M),rfl⟩
    ·have M:=ac (uH G h)
     clear l G
     go_wp2_with(first|(go_at_call_of 126 (Value.slice ao A.length I);refine(iK ao I A _ (m-1) Q _ Z la (by omega) N).mono ?_;rintro e L ⟨rfl,rfl⟩)|(go_at_call_of 126 (Value.slice H B.length J);refine(iK H J B _ (m-1) U _ hB lb (by omega) O).mono ?_;rintro e L ⟨rfl,rfl⟩))
     go_round
     case rel=>exact⟨m-1,by omega,dG (by omega),uH M⟩
     case measure=>simp[intOf];omega
    ·have M:=ac ((uH l).2 h)
     clear l G
     go_wp2_with(first|(go_at_call_of 126 (Value.slice ao A.length I);refine(iK ao I A _ (m-1) Q _ Z la (by omega) N).mono ?_;rintro e L ⟨rfl,rfl⟩)|(go_at_call_of 126 (Value.slice H B.length J);refine(iK H J B _ (m-1) U _ hB lb (by omega) O).mono ?_;rintro e L ⟨rfl,rfl⟩))
     go_ret
     exact⟨bh (uH M),rfl⟩
def aS(M B:Nat)(w:World)(v:Value)(x:Int):Prop:=
 ∃neg ao cap L,v=.agg #[.bool neg,.slice ao L.length cap]/\ai w ao cap L/\cj B ao L/\cL L/\neg=decide (x<0)/\aj L=x.natAbs/\L.length<=M
theorem aS.num{M B:Nat}{w:World}{v:Value}{x:Int}(h:aS M B w v x)(I:M<=35184372088832):aA B w v x:=by
 obtain⟨neg,ao,cap,L,l,t,D,F,G,H,J⟩:=h;exact⟨neg,ao,cap,L,l,t,D,F,G,H,by omega⟩
theorem aS.below{M B:Nat}{w l:World}{v:Value}{x:Int}(h:aS M B w v x)(t:H8 w l):aS M B l v x:=by
 obtain⟨neg,ao,cap,L,D,F,G⟩:=h;exact⟨neg,ao,cap,L,D,F.below t,G⟩
theorem aS.more{M l B:Nat}{w:World}{v:Value}{x:Int}(h:aS M B w v x)(J:M<=l):aS l B w v x:=by
 obtain⟨neg,ao,cap,L,t,D,F,G,H,I,K⟩:=h;exact⟨neg,ao,cap,L,t,D,F,G,H,I,by omega⟩
theorem aS.zero(M B:Nat)(w:World)(ao:GY)(cap:Nat):aS M B w (.agg #[.bool false,.slice ao 0 cap]) 0:=
 ⟨false,ao,cap,[],rfl,ai.nil _ _ _,.inl rfl,.inl rfl,rfl,rfl,by simp⟩
theorem mI{n:Bool}{L:H3}{x:Int}(h:n=decide (x<0))(t:aj L=x.natAbs):af n L=x:=by
 unfold af;rw[h]
 by_cases l:x<0
 ·simp[l];omega
 ·simp[l];omega
theorem aS.stored{M B l:Nat}{w:World}{n:Bool}{ao:GY}{cap:Nat}{L:H3}{x:Int}(h:ai w ao cap L/\cj B ao L/\cL L/\n=decide (x<0)/\aj L=x.natAbs/\L.length<=M){p q:Addr}(t:p.block<B)(D:q.block<B)(F:l<=B)(u u':Value):
  aS M l ((w.setCell p u).setCell q u') (.agg #[.bool n,.slice ao L.length cap]) x:=
 ⟨n,ao,cap,L,rfl,(h.1.store h.2.1 t u).store h.2.1 D u',h.2.1.mono F,h.2.2⟩
theorem dZ(B:Nat)(neg:Bool)(ao:GY)(cap:Nat)(L:H3)(w:World)(h:ai w ao cap L)(hn:cj B ao L)(hl:L.length<=35184372088832):
  GF 65 #[.bool neg,.slice ao L.length cap] w fun e G=>∃v,e=.returned v/\aS L.length B G v (af neg L)/\H8 w G:=by
 have I:∀(k:Nat) (G:World),ai G ao cap L->k<=L.length->aj (L.take k)=aj L->0<k->L[k-1]?.getD 0≠0->aS L.length B G (.agg #[.bool neg,.slice ao k cap]) (af neg L):=by
  intro k G U hk D h0 J;have l:(L.take k).length=k:=by rw[List.length_take,Nat.min_eq_left hk]
  have hC:cL (L.take k):=by
   right
   rw[l,List.getElem?_take,if_pos (by omega)];exact J
  have h1:L.take k≠ []:=by intro e;rw[e]at l;simp at l;omega
  have Z:aj (L.take k)≠0:=fun e=>h1 ((aY _ hC).1 e)
  refine⟨neg,ao,cap,L.take k,by rw[l],U.take k,hn.take k,hC,?_,by rw[aU];exact D,by omega⟩;rw[D]at Z;unfold af;cases neg<;>simp<;>omega
 have t:aj (L.take 0)=aj L->af neg L=0:=by
  intro D;rw[<-qt (neg:=neg) D];exact jD neg
 have O:=ac I;have Q:=ac t;clear I t hn;have ae:=h.1;have H:=ac h
 go_enter Tryz.func65,Tryz.ntmps65
 go_wp2
 go_loop [5] (fun i=>∃k:Nat,k<=L.length/\i=.int .i64 k/\Hid (aj (L.take k)=aj L)) (fun i=>(intOf i).toNat)
 case atStart=>exact⟨L.length,Nat.le_refl _,rfl,by unfold Hid;simp⟩
 case round=>
  obtain⟨k,hk,rfl,D⟩:=hrel
  by_cases h0:k=0
  ·subst h0
   have K:=ac (uH Q D.out);clear O Q D h
   go_wp2
   refine bodyPost_ret (v:=.agg #[.bool false,.slice none 0 0]) (by simp[results,Tryz.results65,go_sem]) rfl ⟨.agg #[.bool false,.slice none 0 0],rfl,?_,(Below.refl _ _).alloc (Nat.le_refl _) _⟩;rw[uH K];exact aS.zero _ _ _ _ _
  ·obtain⟨b,F,N,hb,hc⟩:=h.ne (by omega)
   have M:=hc (k-1) (by omega);have aa:(w.alloc (.cells #[.bool false,.slice none 0 0] 33)).cell? ⟨b,F+(k-1),none⟩=some (.int .u32 ((L[k-1]?.getD 0:Nat):Int)):=by
    rw[((Below.refl _ w).alloc (Nat.le_refl _) _).cell (p:=⟨b,F+(k-1),none⟩) hb];exact M
   have am:((k:Int)==0)=false:=by simp;omega
   have ap:(0:Int)<(k:Int):=by omega
   by_cases J:L[k-1]?.getD 0=0
   ·have K:Hid (aj (L.take (k-1))=aj L):=by unfold Hid;rw[mq L k J];exact D.out
    rw[J]at M aa;clear O Q D h J hc;subst N
    go_wp2
    go_round
    case rel=>exact⟨k-1,by omega,dG (by omega),K⟩
    case measure=>simp[intOf];omega
   ·have K:=ac (fun G U=>uH O k G U hk D.out (by omega) J)
    have ax:(((L[k-1]?.getD 0:Nat):Int)==0)=false:=by simp;omega
    clear O Q D h hc;generalize L[k-1]?.getD 0=x at*;clear J;subst N
    go_wp2
    refine bodyPost_ret (v:=.agg #[.bool neg,.slice (some ⟨b,F,none⟩) k cap]) (by simp[results,Tryz.results65,go_sem]) rfl ⟨.agg #[.bool neg,.slice (some ⟨b,F,none⟩) k cap],rfl,?_,(Below.refl _ _).alloc (Nat.le_refl _) _⟩;exact uH K _ ((uH H).below ((Below.refl _ _).alloc (Nat.le_refl _) _))
theorem jG{w:World}{l:Nat}{v:Value}{n:Nat}{S:H3}(h:w.ownsRow l 84 1 v n (S.map eM))(G:bQ S):
  ∃ao cap,v=.slice ao S.length cap/\ai w ao cap S/\cj l ao S/\S.length=n:=by
 have F:S.length=n:=by have:=h.1;simpa using this
 rcases h.2 with⟨D,L⟩|⟨g,cap,I,D,J,K,M,N,O,Q⟩
 ·have:S= []:=List.length_eq_zero_iff.1 (by omega)
  subst this;exact⟨none,0,D,ai.nil _ _ _,.inl rfl,F⟩
 ·refine⟨some ⟨g,0,none⟩,cap,by rw[F];exact D,⟨by omega,G,.inr ⟨g,0,rfl,(Array.getElem?_eq_some_iff.1 K).1,fun i H=>?_⟩⟩,.inr ⟨g,0,rfl,J⟩,F⟩
  have t:=h;rw[D]at t;rw[Nat.zero_add,t.cellAt i (by omega)]
  simp[eM,H]
theorem nB{w:World}{l:Nat}{v:Value}{n:Nat}{S:H3}{x:Nat}{d:Int}(h:w.ownsRow l 84 1 v (n+1) (S.map eM++[.int .u32 d]))(t:d=(x:Int)):w.ownsRow l 84 1 v (n+1) ((S++[x]).map eM):=by
 subst t
 simpa[eM]using h
theorem qw(ao bo:GY)(ca cb:Nat)(A B:H3)(w:World)(hA:ai w ao ca A)(hB:ai w bo cb B)(la:A.length<=35184372088830)(lb:B.length<=35184372088830):
  GF 107 #[.slice ao A.length ca,.slice bo B.length cb] w fun e w'=>∃F t L',e=.returned (.slice F L'.length t)/\ai w' F t L'/\cj w.heap.size F L'/\L'.length=max A.length B.length+1/\aj L'=aj A+aj B/\H8 w w':=by
 obtain⟨i0,hi,a9,bc,bd⟩:=info_parts Tryz.info84;obtain⟨n,Q⟩:∃n,n=max A.length B.length:=⟨_,rfl⟩;have n1:A.length<=n:=by omega
 have n2:B.length<=n:=by omega
 have n3:n<=35184372088830:=by omega
 have HN:=ac Q;have aa:∀(S:H3) (c x y:Nat),A[S.length]?.getD 0=x->B[S.length]?.getD 0=y->aj S+4294967296^S.length*c=aj (A.take S.length)+aj (B.take S.length)->aj (S++[(x+y+c)%4294967296])+4294967296^(S.length+1)*((x+y+c)/4294967296)=aj (A.take (S.length+1))+aj (B.take (S.length+1)):=fun S c x y=>Ce A B S c x y
 have ae:∀(S:H3) (c:Nat),S.length=n+1->aj S+4294967296^S.length*c=aj (A.take S.length)+aj (B.take S.length)->aj S=aj A+aj B:=by
  intro S c hl h;refine AO A B S (n+1) c hA.2.1 hB.2.1 (by omega) (by omega) hl ?_;rw[<-hl,List.take_length];exact h
 have N:=ac aa;have O:=ac ae;clear aa ae;rcases(show(A.length<B.length/\n=B.length)\/(¬A.length<B.length/\n=A.length) by omega)with⟨hm,e⟩|⟨hm,e⟩
 all_goals
  have HE:=ac e;have n4:(n:Int)<=35184372088830:=by omega
  clear Q e
  go_enter Tryz.func107,Tryz.ntmps107
  go_wp2
  go_loopw[5,6,7] (fun v c i wr=>∃(S:H3) (y:Nat),S.length<=n+1/\i=.int .i64 (S.length:Nat)/\c=.int .u64 y/\y<=1/\wr.ownsRow w.heap.size 84 1 v S.length (S.map eM)/\bQ S/\H8 w wr/\Hid (aj S+4294967296^S.length*y=aj (A.take S.length)+aj (B.take S.length)))
   (fun _ _ i _=>n+1-(intOf i).toNat)
  case atStart=>
   refine⟨[],0,by simp,rfl,rfl,by omega,?_,by intro x hx;simp at hx,(Below.refl _ _).alloc (Nat.le_refl _) _,by unfold Hid;simp[aj]⟩;exact World.ownsRow_made w #[] 0 (Nat.le_refl _) (by simp[maxLen]) (by simp)
  case round=>
   obtain⟨S,y,hk,rfl,rfl,hy,D,hf,l,hv⟩:=hrel;have Q:=uH HE
   by_cases am:S.length<=n
   ·obtain⟨L,I⟩:∃x,A[S.length]?.getD 0=x:=⟨_,rfl⟩
    obtain⟨M,J⟩:∃x,B[S.length]?.getD 0=x:=⟨_,rfl⟩;have ba:L<4294967296:=by rw[<-I];exact hA.lt _
    have bb:M<4294967296:=by rw[<-J];exact hB.lt _
    have cA:=hA.below l;have cB:=hB.below l;have aI:=ac (uH N S y L M I J hv.out);have a0:=ac I;have a1:=ac J;have a2:=l.size;have HF:=ac hf;clear I J hv N O hf;generalize ax:S.length=k at*;have a3:=ac ax;clear ax;have U:(k:Int)<=(n:Int):=by omega
    rw[Q]at U;clear Q
    go_wp2_with(first|(go_at_call_of 126 (Value.slice ao A.length ca);refine(iK ao ca A _ k L _ cA la rfl a0).mono ?_;rintro e w' ⟨rfl,rfl⟩)|(go_at_call_of 126 (Value.slice bo B.length cb);refine(iK bo cb B _ k M _ cB lb rfl a1).mono ?_;rintro e w' ⟨rfl,rfl⟩)|(at_builtin;refine wpList_append_own _ rfl _ _ 31 rfl w.heap.size 84 i0 (.int .u32 0) 1 4 Tryz.underlying31 hi a9 bc bd rfl (by decide) _ _ _ rfl (D.alloc _) ⟨wr.heap.size,0,none⟩ 1 1 [.int .u32 (((L:Int)+(M:Int)+(y:Int))%4294967296)] rfl rfl (cell_one_new _ _ _) (fun u hu=>by simp at hu;subst hu;rfl) (by unfold maxLen;omega) (by omega) (by simp;omega) ?_;intro v' w1 G H _;have a4:H8 w w1:=((l.alloc a2 _).grown H (by simp;omega) (fun g hg=>(D.lt g hg).1));have a5:=ac (nB (x:=(L+M+y)%4294967296) G (by omega));clear G H))
    have a6:=uH aI;have Z:(S++[(L+M+y)%4294967296]).length=k+1:=by simp[uH a3]
    go_roundw
    case rel=>exact⟨S++[(L+M+y)%4294967296],(L+M+y)/4294967296,by omega,by rw[Z];go_num,dG (by omega),by omega,by rw[Z];exact uH a5,(uH HF).snoc (by omega),a4,by rw[Z];exact a6⟩
    case measure=>simp[intOf];omega
   ·have K:=uH O S y (by omega) hv.out
    have ap:=ac K;obtain⟨F,t,e1,e2,e3,e4⟩:=jG D hf;have E2:=ac e2;have E3:=ac e3;have U:¬((S.length:Nat):Int)<=(n:Int):=by omega
    rw[Q]at U;have HK:=ac hk;have a7:=ac am;subst e1;clear K hv N D Q e2 e3 e4 O hk am
    go_wp2
    go_ret
    have hN:=uH HN;have h1:=uH HK;have h2:=uH a7;exact⟨F,t,S,rfl,uH E2,uH E3,by omega,uH ap,l⟩
theorem tH(ao bo:GY)(ca cb:Nat)(A B:H3)(w:World)(hA:ai w ao ca A)(hB:ai w bo cb B)(la:A.length<=35184372088830)(lb:B.length<=35184372088830)(N:aj B<=aj A):
  GF 110 #[.slice ao A.length ca,.slice bo B.length cb] w fun e w'=>∃G D L',e=.returned (.slice G L'.length D)/\ai w' G D L'/\cj w.heap.size G L'/\L'.length=A.length/\aj L'=aj A-aj B/\H8 w w':=by
 obtain⟨i0,hi,a7,a9,bc⟩:=info_parts Tryz.info84;have ae:∀(S:H3) (c x y t c':Nat),A[S.length]?.getD 0=x->B[S.length]?.getD 0=y->t+y+c=x+4294967296*c'->aj S+aj (B.take S.length)=aj (A.take S.length)+4294967296^S.length*c->aj (S++[t])+aj (B.take (S.length+1))=aj (A.take (S.length+1))+4294967296^(S.length+1)*c':=fun S c x y t c'=>yC A B S c x y t c'
 have am:∀(S:H3) (c:Nat),bQ S->S.length=A.length->aj S+aj (B.take S.length)=aj (A.take S.length)+4294967296^S.length*c->aj S=aj A-aj B:=by
  intro S c f hl h;refine AQ A B S A.length c f hl rfl N (AR A B hA.2.1 N) ?_;rw[<-hl,List.take_length];exact h
 have Q:=ac ae;have U:=ac am;clear ae am N
 go_enter Tryz.func110,Tryz.ntmps110
 go_wp2
 go_loopw[5,6,7] (fun v c i wr=>∃(S:H3) (y:Nat),S.length<=A.length/\i=.int .i64 (S.length:Nat)/\c=.int .u64 y/\y<=1/\wr.ownsRow w.heap.size 84 1 v S.length (S.map eM)/\bQ S/\H8 w wr/\Hid (aj S+aj (B.take S.length)=aj (A.take S.length)+4294967296^S.length*y))
  (fun _ _ i _=>A.length-(intOf i).toNat)
 case atStart=>
  refine⟨[],0,by simp,rfl,rfl,by omega,?_,by intro x hx;simp at hx,(Below.refl _ _).alloc (Nat.le_refl _) _,by unfold Hid;simp[aj]⟩;exact World.ownsRow_made w #[] 0 (Nat.le_refl _) (by simp[maxLen]) (by simp)
 case round=>
  obtain⟨S,y,hk,rfl,rfl,hy,F,hf,l,N⟩:=hrel
  by_cases bd:S.length<A.length
  ·obtain⟨J,L⟩:∃x,A[S.length]?.getD 0=x:=⟨_,rfl⟩
   obtain⟨K,M⟩:∃x,B[S.length]?.getD 0=x:=⟨_,rfl⟩;have ba:J<4294967296:=by rw[<-L];exact hA.lt _
   have bb:K<4294967296:=by rw[<-M];exact hB.lt _
   have cA:=hA.below l;have cB:=hB.below l;have a0:=ac (uH Q S y J K ((4294967296+J-K-y)%4294967296) (1-(4294967296+J-K-y)/4294967296) L M (by omega) N.out);have a1:=ac L;have a2:=ac M;have a3:=l.size;have HF:=ac hf;clear L M N Q U hf;generalize aI:S.length=k at*;have Z:=ac aI;clear aI
   go_wp2_with(first|(go_at_call_of 126 (Value.slice ao A.length ca);refine(iK ao ca A _ k J _ cA la rfl a1).mono ?_;rintro e w' ⟨rfl,rfl⟩)|(go_at_call_of 126 (Value.slice bo B.length cb);refine(iK bo cb B _ k K _ cB lb rfl a2).mono ?_;rintro e w' ⟨rfl,rfl⟩)|(at_builtin;refine wpList_append_own _ rfl _ _ 31 rfl w.heap.size 84 i0 (.int .u32 0) 1 4 Tryz.underlying31 hi a7 a9 bc rfl (by decide) _ _ _ rfl (F.alloc _) ⟨wr.heap.size,0,none⟩ 1 1 [.int .u32 ((4294967296+(J:Int)-(K:Int)-(y:Int))%4294967296)] rfl rfl (cell_one_new _ _ _) (fun u hu=>by simp at hu;subst hu;rfl) (by unfold maxLen;omega) (by omega) (by simp;omega) ?_;intro v' w1 H I _;have a4:H8 w w1:=((l.alloc a3 _).grown I (by simp;omega) (fun g hg=>(F.lt g hg).1));have a5:=ac (nB (x:=(4294967296+J-K-y)%4294967296) H (by omega));clear H I))
   have a6:=uH a0;have aa:(S++[(4294967296+J-K-y)%4294967296]).length=k+1:=by simp[uH Z]
   go_roundw
   case rel=>exact⟨S++[(4294967296+J-K-y)%4294967296],1-(4294967296+J-K-y)/4294967296,by omega,by rw[aa];go_num,dG (by omega),by omega,by rw[aa];exact uH a5,(uH HF).snoc (by omega),a4,by rw[aa];exact a6⟩
   case measure=>simp[intOf];omega
  ·have O:=uH U S y hf (by omega) N.out
   have ap:=ac O;obtain⟨G,D,e1,e2,e3,e4⟩:=jG F hf;have E2:=ac e2;have E3:=ac e3;have ax:S.length=A.length:=by omega
   have Z:=ac ax;subst e1;clear O N Q F e2 e3 e4 U ax
   go_wp2
   go_ret
   exact⟨G,D,S,rfl,uH E2,uH E3,uH Z,uH ap,l⟩
theorem Ci(x y c:Nat)(l:x<4294967296)(t:y<4294967296)(D:c<=1)(h:x<y):
  IntKind.u64.wrap (IntKind.u64.wrap ((x:Int)-(y:Int))-(c:Int))=18446744073709551616+(x:Int)-(y:Int)-(c:Int):=by
 simp only[IntKind.wrap,IntKind.signed,IntKind.bits]
 simp
 omega
theorem nC(ao bo:GY)(ca cb:Nat)(A B:H3)(w:World)(hA:ai w ao ca A)(hB:ai w bo cb B)(la:A.length<=35184372088830)(lb:B.length<=35184372088830)(M:aj B<=aj A):
  GF 303 #[.slice ao A.length ca,.slice bo B.length cb] w fun e w'=>∃Z N L',e=.returned (.slice Z L'.length N)/\ai w' Z N L'/\cj w.heap.size Z L'/\L'.length=A.length/\aj L'=aj A-aj B/\H8 w w':=by
 obtain⟨i0,hi,a9,bc,bd⟩:=info_parts Tryz.info84;have hE:∀(S:H3) (k c:Nat),bQ S->S.length=A.length->¬k<A.length->k<=A.length->aj (S.take k)+aj (B.take k)=aj (A.take k)+4294967296^k*c->aj S=aj A-aj B:=by
  intro S k c f hl h1 h2 h;rw[show k=A.length by omega]at h;exact AQ A B S A.length c f hl rfl M (AR A B hA.2.1 M) h
 have HE:=ac hE;have G:=fun(S:H3) (k c t I:Nat) (hk:k<S.length)=>Et A B S k c (A[k]?.getD 0) (B[k]?.getD 0) t I hk rfl rfl
 have ap:=ac G;clear hE G M;have ax:0<A.length->∃b aa,ao=some ⟨b,aa,none⟩:=fun h=>by obtain⟨b,aa,h1,_⟩:=hA.ne h;exact⟨b,aa,h1⟩
 have bn:=ac ax;clear ax
 go_enter Tryz.func303,Tryz.ntmps303
 go_wp2_with(at_make;refine wpList_make_full _ rfl _ _ 31 rfl w.heap.size 84 i0 (.int .u32 0) 1 Tryz.underlying31 hi a9 bc .i64 .i64 _ _ A.length rfl rfl rfl rfl (by rw[bd];omega) (by unfold maxLen;omega) (Nat.le_refl _) ?_;intro w1 U H)
 have O:=cP.made U;have a4:H8 w w1:=(Below.refl _ _).grown H (Nat.le_refl _) (fun k h=>by simp at h);have bp:w.heap.size<w1.heap.size:=O.lt;clear U H
 go_wp2
 go_loopw[6,14] (fun c i wr=>∃(k:Nat) (S:H3) (y:Nat),k<=A.length/\i=.int .i64 k/\c=.int .u64 y/\y<=1/\cP wr w.heap.size S/\S.length=A.length/\bQ S/\H8 w wr/\Hid (aj (S.take k)+aj (B.take k)=aj (A.take k)+4294967296^k*y))
  (fun _ i _=>A.length-(intOf i).toNat)
 case atStart=>exact⟨0,List.replicate A.length 0,0,Nat.zero_le _,rfl,rfl,by omega,O,by simp,bQ.zeros _,a4,by unfold Hid;simp[aj]⟩
 case round=>
  obtain⟨k,S,y,hk,rfl,rfl,hy,hr,J,hf,l,M⟩:=hrel
  by_cases aI:k<A.length
  ·obtain⟨F,K⟩:∃x,A[k]?.getD 0=x:=⟨_,rfl⟩
   obtain⟨D,L⟩:∃x,B[k]?.getD 0=x:=⟨_,rfl⟩;have ba:F<4294967296:=by rw[<-K];exact hA.lt k
   have bb:D<4294967296:=by rw[<-L];exact hB.lt k
   have cA:=hA.below l;have cB:=hB.below l;have G:=fun(t I:Nat) (ht:t+D+y=F+4294967296*I)=>uH ap S k y t I (by omega) (by rw[K,L];exact ht) M.out
   have a0:=ac G;have ae:=ac L;have a5:=hr.cell k (by omega);have a6:=hr.free k;have HR:=ac hr;obtain⟨b1,o1,be,bm,a3⟩:=cA.ne (by omega);have a7:=a3 k aI;rw[K]at a7;clear G K L M hr a3 ap HE;generalize hS:S[k]?.getD 0=sk at*;clear hS;subst be;have bi:(k:Int)<(A.length:Int):=by omega
   have a1:∀(nq t I:Nat) (d:Int),d=(t:Int)->t<4294967296->I<=1->t+D+y=F+4294967296*I->
     cP ((wr.drewN nq).setCell ⟨w.heap.size,k,none⟩ (.int .u32 d)) w.heap.size (S.set k t)/\(S.set k t).length=A.length/\bQ (S.set k t)/\H8 w ((wr.drewN nq).setCell ⟨w.heap.size,k,none⟩ (.int .u32 d))/\
     Hid (aj ((S.set k t).take (k+1))+aj (B.take (k+1))=aj (A.take (k+1))+4294967296^(k+1)*I):=by
    rintro nq t I d rfl ht hc he;exact⟨((uH HR).drewN nq).set k t,by simpa using J,hf.set _ _ ht,(below_drewN l nq).setCell (by simp) _,uH a0 t I he⟩
   have am:=ac a1;clear a1 a0 HR;rcases(show D+y<=F\/F<D\/(F=D/\y=1) by omega)with h1|h1|⟨h1,h2⟩
   ·go_wp2
    go_quiet ((go_at_call 285;exact kF (jF bo cb B _ k D _ (cB.below (below_drewN (Below.refl _ _) _)) lb rfl ae)))
    go_wp2
    have R:=uH am nq (F-D-y) 0 ((F:Int)-D-y) (by omega) (by omega) (by omega) (by omega)
    go_roundw
    case rel=>exact⟨k+1,_,0,by omega,by go_num,dG (by omega),by omega,R⟩
    case measure=>simp[intOf];omega
   ·go_wp2
    go_quiet ((go_at_call 285;exact kF (jF bo cb B _ k D _ (cB.below (below_drewN (Below.refl _ _) _)) lb rfl ae)))
    go_wp2
    have e:=Ci F D y ba bb hy h1;have R:=uH am nq (4294967296+F-D-y) 1 (IntKind.u64.wrap (IntKind.u64.wrap ((F:Int)-D)-y)%4294967296) (by rw[e];omega) (by omega) (by omega) (by omega)
    go_roundw
    case rel=>exact⟨k+1,_,1,by omega,by go_num,dG (by rw[e];omega),by omega,R⟩
    case measure=>simp[intOf];omega
   ·subst h1;subst h2
    go_wp2
    go_quiet ((go_at_call 285;exact kF (jF bo cb B _ k F _ (cB.below (below_drewN (Below.refl _ _) _)) lb rfl ae)))
    go_wp2
    have e:IntKind.u64.wrap (-1)=18446744073709551615:=by decide
    have R:=uH am nq 4294967295 1 (IntKind.u64.wrap (-1)%4294967296) (by rw[e];rfl) (by omega) (by omega) (by omega)
    go_roundw
    case rel=>exact⟨k+1,_,1,by omega,by go_num,dG (by rw[e];rfl),by omega,R⟩
    case measure=>simp[intOf];omega
  ·have Q:=uH HE S k y hf J aI hk M.out
   have a2:=ac Q;have HR:=ac hr;clear Q hr M
   go_wp2
   go_ret
   exact⟨some ⟨w.heap.size,0,none⟩,A.length,S,by rw[J];rfl,(uH HR).limbs hf _ (by omega),.inr ⟨_,_,rfl,Nat.le_refl _⟩,J,uH a2,l⟩
theorem ly(B:Nat)(neg:Bool)(ao:GY)(cap:Nat)(L:H3)(w:World)(h:ai w ao cap L)(Q:cj B ao L)(hl:L.length<=35184372088832):
  GF 266 #[.bool neg,.slice ao L.length cap] w fun e M=>∃v,e=.returned (.tuple #[v,C0 (cn (af neg L))])/\aA B M v (fG (af neg L))/\H8 w M:=by
 have J:∀l:H3,cL l->bQ l->aj l=aj L->(l= []->cn (af neg L)=0/\fG (af neg L)=0)/\(512<l.length->cn (af neg L)=2/\fG (af neg L)=0)/\(l.length<=512->cn (af neg L)=0/\fG (af neg L)=af neg l):=by
  intro l c f K;have U:=eO l f c;refine⟨?_,?_,?_⟩
  ·rintro rfl
   have:aj L=0:=by rw[<-K];rfl
   have J:0<eE:=Nat.pow_pos (by decide);have e:af neg L=0:=by unfold af;cases neg<;>simp[this]
   simp[cn,fG,e,J]
  ·intro F
   have:¬aj l<eE:=fun h=>by have:=U.1 h;omega
   simp[cn,fG,aU,<-K,this]
  ·intro F
   have:=U.2 F;rw[qt (neg:=neg) K]
   simp[cn,fG,aU,<-K,this]
 generalize cn (af neg L)=er at*;generalize fG (af neg L)=nu at*;have Z:=ac J;clear J;have HN:=ac Q;clear Q
 go_enter Tryz.func266,Tryz.ntmps266
 go_wp2_with fail;refine(qu ao cap L _ (h.below ?_) hl).mono ?_
 ·exact(Below.refl _ _).alloc (Nat.le_refl _) _
 rintro e M ⟨v,rfl,⟨I,D,l,rfl,O,h3,h4,F,h6⟩,rfl⟩;have N:=F w h;have H:=ac (uH Z l O N.2.1 h3);have HA:=ac (h6 B (uH HN));have H1:=ac N;have H2:=ac O;clear Z h3 F h6 N O h HN
 by_cases G:l= []
 ·have t:=ac ((uH H).1 G)
  have hz:l.length=0:=by rw[G];rfl
  clear G
  go_wp2
  refine bodyPost_ret (v:=.tuple #[.agg #[.bool false,.slice none 0 0],C0 0]) (by simp[results,Tryz.results266,go_sem]) rfl ⟨.agg #[.bool false,.slice none 0 0],?_,?_,(Below.refl _ _).alloc (Nat.le_refl _) _⟩
  ·rw[(uH t).1]
  ·rw[(uH t).2];exact aA.zero _ _ _ _
 ·have hp:0<l.length:=List.length_pos_iff.2 G
  have aa:((l.length:Int)==0)=false:=by simp;exact G
  by_cases F:l.length<=512
  ·have t:=ac ((uH H).2.2 F)
   go_wp2
   refine bodyPost_ret (v:=.tuple #[.agg #[.bool neg,.slice I l.length D],C0 0]) (by simp[results,Tryz.results266,go_sem]) rfl ⟨.agg #[.bool neg,.slice I l.length D],?_,?_,?_⟩
   ·rw[(uH t).1]
   ·rw[(uH t).2]
    exact aA.mk ((uH H1).below ((Below.refl _ _).alloc (Nat.le_refl _) _)) (uH HA) (uH H2) G (by omega)
   ·exact(Below.refl _ _).alloc (Nat.le_refl _) _
  ·have t:=ac ((uH H).2.1 (by omega))
   go_wp2
   refine bodyPost_ret (v:=.tuple #[.agg #[.bool false,.slice none 0 0],C0 2]) (by simp[results,Tryz.results266,go_sem]) rfl ⟨.agg #[.bool false,.slice none 0 0],?_,?_,(Below.refl _ _).alloc (Nat.le_refl _) _⟩
   ·rw[(uH t).1]
   ·rw[(uH t).2];exact aA.zero _ _ _ _
attribute [local go_sem ↓] Go.wp_at_zero Go.wp_at_succ
theorem qA(l:Bool)(ao G:GY)(H I:Nat)(A B:H3)(w:World)(hA:ai w ao H A)(hB:ai w G I B)(la:A.length<=35184372088830)(lb:B.length<=35184372088830):
  GF 300 #[.agg #[.bool l,.slice ao A.length H],.agg #[.bool l,.slice G B.length I]] w fun e t=>∃v,e=.returned (.tuple #[v,C0 (cn (af l A+af l B))])/\aA w.heap.size t v (fG (af l A+af l B))/\H8 w t:=by
 have J:∀L:H3,aj L=aj A+aj B->af l L=af l A+af l B:=by
  intro L h;unfold af;cases l<;>simp[h]<;>omega
 have HS:=ac J;clear J;generalize af l A+af l B=z at*
 go_enter Tryz.func300,Tryz.ntmps300
 go_wp2
 refine aB (fun W=>H8 w W/\W.heap.size=w.heap.size+3/\aK W w.heap.size (.bool l) (.slice ao A.length H)/\aK W (w.heap.size+1) (.bool l) (.slice G B.length I)/\aK W (w.heap.size+2) (.bool false) (.slice none 0 0)) ?_ ?_
 ·refine⟨((((Below.refl _ _).alloc (Nat.le_refl _) _).alloc (by simp) _).alloc (by simp;omega) _),by simp,((aK.new _ _ _).old _).old _,?_,?_⟩
  ·have:=(aK.new (w.alloc (.cells #[.bool l,.slice ao A.length H] 33)) (.bool l) (.slice G B.length I)).old (.cells #[.bool false,.slice none 0 0] 33)
   simpa using this
  ·have:=aK.new ((w.alloc (.cells #[.bool l,.slice ao A.length H] 33)).alloc (.cells #[.bool l,.slice G B.length I] 33)) (.bool false) (.slice none 0 0)
   simpa using this
 rintro O ⟨D,Q,x0,x1,x2⟩;have hK:∀t,Below (w.heap.size+2) O t->Below (w.heap.size+2) O t/\t.cell? ⟨w.heap.size,0,none⟩=some (.bool l)/\t.cell? ⟨w.heap.size,1,none⟩=some (.slice ao A.length H)/\t.cell? ⟨w.heap.size+1,1,none⟩=some (.slice G B.length I):=fun t h=>
  ⟨h,(x0.below h (by omega)).c0,(x0.below h (by omega)).c1,(x1.below h (by omega)).c1⟩
 have Z:=ac hK;have HA:=ac (hA.below D);have HB:=ac (hB.below D);have X2:=ac x2;have aa:=ac D;clear hK hA hB x0 x1 x2 D
 go_region_held3(fun t=>Below (w.heap.size+2) O t/\t.cell? ⟨w.heap.size,0,none⟩=some (.bool l)/\t.cell? ⟨w.heap.size,1,none⟩=some (.slice ao A.length H)/\t.cell? ⟨w.heap.size+1,1,none⟩=some (.slice G B.length I))
  (first|exact uH Z _ (Below.refl _ _).drew|exact uH Z _ (by assumption)|exact uH Z _ ((M.setCell (by simp) _).setCell (by simp) _))
  (first|(go_at_call 301;refine(ur ao G H I A B _ ((uH HA).below ((Below.refl _ _).drew)) ((uH HB).below ((Below.refl _ _).drew)) la lb).mono ?_;rintro e w1 ⟨ap,am,U,rfl,g1,g2,g3,g4,F⟩;have ae:Below (w.heap.size+2) O w1:=((Below.refl _ _).drew).trans (F.mono (by simp[Q]));have X3:=ac ((uH X2).drew.below F (by simp[Q]));have G1:=ac g1;have G2:=ac g2;have G4:=ac g4;have L4:U.length<=35184372088832:=(by omega);have s1:=F.size;clear g1 g2 g4 g3 F)|(go_at_call 266;refine(ly _ l _ _ _ _ (uH G1) (uH G2) L4).mono ?_;rintro e w2 ⟨v,rfl,⟨n2,a2,c2,L2,rfl,i1⟩,K⟩;have M:Below (w.heap.size+2) O w2:=ae.trans (K.mono (by simp at s1;omega));have N:=(uH X3).below K (by simp at s1;omega);have y0:=N.c0;have y1:=N.c1;have f0:=N.free 0;have f1:=N.free 1;have I1:=ac i1;clear i1 K N))
 have hz:=uH HS U (uH G4);have HI:=ac (hz▸uH I1);have HE:=ac (show cn (af l U)=cn z by rw[hz]);clear hz
 go_wp2
 refine bodyPost_ret (v:=.tuple #[.agg #[.bool n2,.slice a2 L2.length c2],C0 (cn (af l U))]) (by simp[results,Tryz.results300,go_sem,y0,y1]) rfl ⟨.agg #[.bool n2,.slice a2 L2.length c2],?_,?_,?_⟩
 ·rw[uH HE]
 ·exact aA.stored (uH HI) (by simp;omega) (by simp;omega) (by simp;omega) _ _
 ·exact(((uH aa).trans (M.mono (by omega))).setCell (by simp;omega) _).setCell (by simp;omega) _
end Go.Proofs.YtcbcmlaogehimaaGreatDoor
