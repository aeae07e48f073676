/- Part 4 of the texts. -/
import Derived.Test.YtenpggicmfhhdaaGreatDoorParte03
set_option maxHeartbeats 2000000
namespace Go.Proofs.YtenpggicmfhhdaaGreatDoor
open Go.RowKit
theorem cu(b:Nat)(w:World)(h:b<18446744073709551616):
  Calls Tryz.prog 67 #[.int .u64 b] w fun e m=>e=.returned (.int .i64 (fK b))∧Below w.heap.size w m:=by
 have C:=fun m=>ej b m h
 unfold fV at C
 unfold fK
 generalize fF b=f at*
 generalize fP b=p at*
 generalize fS b=s at*
 by_cases t:p=2047
 ·subst t
  rw[if_pos rfl]
  by_cases d:f=0
  ·subst d
   rw[if_pos rfl]
   cases s
   ·exact Be b w C
   ·exact Bj b w C
  ·rw[if_neg d]
   have l:((f:Int)==0)=false:=by simp;omega
   cases s
   ·exact Bg b f w C l
   ·exact Bl b f w C l
 ·rw[if_neg t]
  by_cases d:p=0
  ·subst d
   rw[if_pos rfl]
   by_cases y:f=0
   ·subst y
    rw[if_pos rfl]
    cases s
    ·exact Bd b w C
    ·exact Bi b w C
   ·rw[if_neg y]
    have l:((f:Int)==0)=false:=by simp;omega
    cases s
    ·exact Bf b f w C l
    ·exact Bk b f w C l
  ·rw[if_neg d]
   have z:((p:Int)==0)=false:=by simp;omega
   have A:((p:Int)==2047)=false:=by simp;omega
   cases s
   ·exact Bh b p f w C z A
   ·exact Bm b p f w C z A
def aD(b:Nat):Bool:=decide (fP b≠2047)
theorem fI(b:Nat):(aD b=false∧(fK b=3∨fK b=4))∨(aD b=true∧(fK b=0∨fK b=1∨fK b=2)):=by
 unfold fK aD
 by_cases d:fP b=2047
 ·left
  refine⟨by simp[d],?_⟩
  rw[if_pos d]
  split<;>simp
 ·right
  refine⟨by simp[d],?_⟩
  rw[if_neg d]
  split
  ·split<;>simp
  ·simp
theorem eM(b:Nat)(w:World)(h:b<18446744073709551616):
  Calls Tryz.prog 49 #[.int .u64 b] w fun e d=>e=.returned (.bool (aD b))∧Below w.heap.size w d:=by
 have l:=aa (fun d=>cu b d h)
 have m:=fI b
 generalize aD b=q at*
 generalize fK b=k at*
 rcases m with⟨rfl,rfl|rfl⟩|⟨rfl,rfl|rfl|rfl⟩
 all_goals
  clear h
  go_enter Tryz.func49,Tryz.ntmps49
  go_wp2_with(go_at_call 67;refine(uH l _).mono ?_;rintro e t ⟨rfl,f⟩)
  go_ret
  exact⟨rfl,f⟩
theorem cE(b:Nat)(w:World)(h:b<18446744073709551616):
  Calls Tryz.prog 38 #[.int .u64 b] w fun e d=>e=.returned (.bool (aD b))∧w=d:=by
 have l:=aa (fun d=>js b d h)
 have m:=lK b
 unfold aD
 generalize fP b=k at*
 clear h
 by_cases f:k=2047
 ·subst f
  go_enter Tryz.func38,Tryz.ntmps38
  go_wp2_with(go_at_call 57;refine(uH l _).mono ?_;rintro e t ⟨rfl,rfl⟩)
  go_ret
  exact⟨rfl,rfl⟩
 ·rw[decide_eq_true f]
  have y:(k:Int)<2047:=by omega
  clear f m
  go_enter Tryz.func38,Tryz.ntmps38
  go_wp2_with(go_at_call 57;refine(uH l _).mono ?_;rintro e t ⟨rfl,rfl⟩)
  go_ret
  exact⟨rfl,rfl⟩
theorem fo(b:Nat)(w:World)(h:b<18446744073709551616):
  Calls Tryz.prog 79 #[.int .u64 b] w fun e l=>e=.returned (.int .i64 (fK b))∧w=l:=by
 have m:=aa (fun l=>js b l h)
 have t:=aa (fun l=>oy b l h)
 unfold fK
 generalize fF b=f at*
 generalize fP b=p at*
 clear h
 by_cases A:p=2047
 ·subst A
  rw[if_pos rfl]
  by_cases d:f=0
  ·subst d
   rw[if_pos rfl]
   go_enter Tryz.func79,Tryz.ntmps79
   go_wp2_with(first|(go_at_call 57;refine(uH m _).mono ?_;rintro e y ⟨rfl,rfl⟩)|(go_at_call 98;refine(uH t _).mono ?_;rintro e z ⟨rfl,rfl⟩))
   go_ret
   exact⟨rfl,rfl⟩
  ·rw[if_neg d]
   have G:((f:Int)==0)=false:=by simp;omega
   clear d
   go_enter Tryz.func79,Tryz.ntmps79
   go_wp2_with(first|(go_at_call 57;refine(uH m _).mono ?_;rintro e y ⟨rfl,rfl⟩)|(go_at_call 98;refine(uH t _).mono ?_;rintro e z ⟨rfl,rfl⟩))
   go_ret
   exact⟨rfl,rfl⟩
 ·rw[if_neg A]
  have H:((p:Int)==2047)=false:=by simp;omega
  clear A
  by_cases d:p=0
  ·subst d
   rw[if_pos rfl]
   by_cases D:f=0
   ·subst D
    rw[if_pos rfl]
    go_enter Tryz.func79,Tryz.ntmps79
    go_wp2_with(first|(go_at_call 57;refine(uH m _).mono ?_;rintro e y ⟨rfl,rfl⟩)|(go_at_call 98;refine(uH t _).mono ?_;rintro e z ⟨rfl,rfl⟩))
    go_ret
    exact⟨rfl,rfl⟩
   ·rw[if_neg D]
    have G:decide ((0:Int)<(f:Int))=true:=decide_eq_true (by omega)
    have F:(0:Int)<(f:Int):=by omega
    clear D
    go_enter Tryz.func79,Tryz.ntmps79
    go_wp2_with(first|(go_at_call 57;refine(uH m _).mono ?_;rintro e y ⟨rfl,rfl⟩)|(go_at_call 98;refine(uH t _).mono ?_;rintro e z ⟨rfl,rfl⟩))
    go_ret
    exact⟨rfl,rfl⟩
  ·rw[if_neg d]
   have G:decide ((0:Int)<(p:Int))=true:=decide_eq_true (by omega)
   have F:(0:Int)<(p:Int):=by omega
   clear d
   go_enter Tryz.func79,Tryz.ntmps79
   go_wp2_with(first|(go_at_call 57;refine(uH m _).mono ?_;rintro e y ⟨rfl,rfl⟩)|(go_at_call 98;refine(uH t _).mono ?_;rintro e z ⟨rfl,rfl⟩))
   go_ret
   exact⟨rfl,rfl⟩
theorem ip(b:Nat)(w:World)(h:b<18446744073709551616):
  Calls Tryz.prog 62 #[.int .u64 b] w fun e m=>e=.returned (.int .u64 (fN b))∧w=m:=by
 have l:=aa (fun m=>fm b m h)
 by_cases d:9223372036854775808≤b
 ·have f:fS b=true:=decide_eq_true d
  rw[f]at l
  have t:((b:Int)-9223372036854775808)%18446744073709551616=(fN b:Int):=by unfold fN;rw[if_pos d];omega
  generalize fN b=q at*
  clear d h f
  go_enter Tryz.func62,Tryz.ntmps62
  go_wp2_with(go_at_call 60;refine(uH l _).mono ?_;rintro e y ⟨rfl,rfl⟩)
  go_ret
  exact⟨aQ t,rfl⟩
 ·have f:fS b=false:=decide_eq_false d
  rw[f]at l
  have t:((b:Int)+9223372036854775808)%18446744073709551616=(fN b:Int):=by unfold fN;rw[if_neg d];omega
  generalize fN b=q at*
  clear d h f
  go_enter Tryz.func62,Tryz.ntmps62
  go_wp2_with(go_at_call 60;refine(uH l _).mono ?_;rintro e y ⟨rfl,rfl⟩)
  go_ret
  exact⟨aQ t,rfl⟩
theorem iq{P:Program}{f:FuncId}{d:Array Value}{w:World}{n:Nat}{v:Value}
  (h:Calls P f d (w.drewN n) fun e t=>e=.returned v∧w.drewN n=t):Calls P f d (w.drewN n) fun e l=>e=.returned v∧∃m,l=w.drewN m:=
 h.mono fun _ _ ⟨y,z⟩=>⟨y,n,z.symm⟩
def pi(ao:Option Addr)(cap:Nat)(L:List Nat)(v:Value):Prop:=
 ∃ao' cap' L',v=.slice ao' L'.length cap'∧bM L'∧ah L'=ah L∧L'.length≤L.length∧(∀w,af w ao cap L→af w ao' cap' L')∧(∀B,bI B ao L→bI B ao' L')
theorem bI.take{B:Nat}{d:Option Addr}{L:List Nat}(h:bI B d L)(n:Nat):bI B d (L.take n):=by
 rcases h with h|h
 ·left;simp[h]
 ·exact .inr h
theorem lM(t:Option Addr)(d:Nat)(L:List Nat)(w:World)(h:af w t d L)(Z:L.length≤35184372088832):
  Calls Tryz.prog 168 #[.slice t L.length d] w fun e O=>∃v,e=.returned v∧pi t d L v∧w=O:=by
 have y:∀k,k<L.length→ah (L.take (L.length-k))=ah L→L[L.length-k-1]?.getD 0≠0→pi t d L (.slice t (L.length-k) d):=by
  intro k T f U
  refine⟨t,d,L.take (L.length-k),?_,?_,f,by simp,fun w h=>h.take _,fun B h=>h.take _⟩
  ·rw[List.length_take,Nat.min_eq_left (by omega)]
  ·right
   rw[List.length_take,Nat.min_eq_left (by omega),List.getElem?_take,if_pos (by omega)]
   exact U
 have m:ah (L.take 0)=ah L→pi t d L (.slice none 0 0):=by
  intro f
  exact⟨none,0,[],rfl,.inl rfl,by simpa using f,by simp,fun _ _=>af.nil _ _ _,fun _ _=>.inl rfl⟩
 have K:=aa y
 have z:=aa m
 clear y m
 rcases h.2.2 with V|⟨b,X,rfl,hb,I⟩
 ·subst V
  clear K
  go_enter Tryz.func168,Tryz.ntmps168
  go_wp2
  refine wp_loop_rounds 1 ?_
  rw[rounds_succ]
  go_wp2
  go_ret
  exact⟨_,rfl,uH z rfl,rfl⟩
 ·have M:=h.1
  go_enter Tryz.func168,Tryz.ntmps168
  go_wp2
  go_loop [7] (fun i=>∃k:Nat,k≤L.length∧i=.int .i64 k∧Hid (ah (L.take (L.length-k))=ah L)) (fun i=>L.length-(intOf i).toNat)
  case atStart=>exact⟨0,Nat.zero_le _,rfl,by unfold Hid;simp⟩
  case round=>
   obtain⟨k,T,rfl,f⟩:=hrel
   by_cases D:k<L.length
   ·have F:=I (L.length-k-1) (by omega)
    clear I
    by_cases l:L[L.length-k-1]?.getD 0=0
    ·have N:=jh L (L.length-k) l
     have G:Hid (ah (L.take (L.length-(k+1)))=ah L):=by
      unfold Hid;rw[show L.length-(k+1)=L.length-k-1 by omega,N];exact f.out
     rw[l]at F
     clear l N f K z h
     go_wp2
     go_round
     case rel=>exact⟨k+1,by omega,by go_num,G⟩
     case measure=>simp[intOf];omega
    ·have A:=uH K k D f.out l
     have H:=aa A
     clear A K z h f
     have Q:(((L[L.length-k-1]?.getD 0:Nat):Int) != 0)=true:=by rw[bne_iff_ne];omega
     generalize L[L.length-k-1]?.getD 0=x at*
     generalize Y:L.length=n at*
     clear Y
     go_wp2
     go_ret
     exact⟨_,rfl,uH H,rfl⟩
   ·have A:=uH z (by rw[←f.out,show L.length-k=0 by omega])
    have H:=aa A
    clear A K z h f I
    go_wp2
    go_ret
    exact⟨_,rfl,uH H,rfl⟩
theorem af.ne{w:World}{l:Option Addr}{f:Nat}{L:List Nat}(h:af w l f L)(m:0<L.length):∃b d,l=some ⟨b,d,none⟩∧b<w.heap.size∧∀i,i<L.length→w.cell? ⟨b,d+i,none⟩=some (.int .u32 ((L[i]?.getD 0:Nat):Int)):=by
 rcases h.2.2 with e|h
 ·subst e;simp at m
 ·exact h
def lN(A B:List Nat):Int:=if A.length=B.length then bG (ah A) (ah B)else bG A.length B.length
theorem dc{a b:Int}(h:a<b):bG a b= -1:=by simp[bG,h]
theorem dU{a b:Int}(h:b<a):bG a b=1:=by simp only[bG];rw[if_neg (by omega),if_pos h]
theorem Bn{a b:Int}(h:a=b):bG a b=0:=by simp[bG,h]
theorem xI(A B:List Nat)(l:bd A)(m:bd B)(t:Nat)(d:∀i,t<i→A[i]?.getD 0=B[i]?.getD 0)(f:A[t]?.getD 0≠B[t]?.getD 0):
  bG ((A[t]?.getD 0:Nat):Int) ((B[t]?.getD 0:Nat):Int)=bG (ah A) (ah B):=by
 rcases Nat.lt_or_gt_of_ne f with h|h
 ·have:=iS A B l t d h
  rw[dc (by omega),dc (by omega)]
 ·have:=iS B A m t (fun i y=>(d i y).symm) h
  rw[dU (by omega),dU (by omega)]
theorem kp(ao bo:Option Addr)(ca cb:Nat)(A B:List Nat)(w:World)(T:af w ao ca A)(U:af w bo cb B)(la:A.length≤35184372088832)(lb:B.length≤35184372088832):
  Calls Tryz.prog 209 #[.slice ao A.length ca,.slice bo B.length cb] w fun e w'=>e=.returned (.int .i64 (lN A B))∧∃m,w.drewN m=w':=by
 by_cases z:A.length≠B.length
 ·have am:((A.length:Int) != (B.length:Int))=true:=by rw[bne_iff_ne];omega
  have HE:=aa (show lN A B=bG A.length B.length by simp[lN,z])
  go_enter Tryz.func209,Tryz.ntmps209
  go_wp2_with(go_at_call 212;refine(xw _ _ _).mono ?_;rintro e w' ⟨rfl,rfl⟩)
  go_ret
  exact⟨aQ (uH HE).symm,0,rfl⟩
 have z:A.length=B.length:=by omega
 by_cases h0:A.length=0
 ·have eA:A= []:=List.length_eq_zero_iff.1 h0
  have eB:B= []:=List.length_eq_zero_iff.1 (by omega)
  subst eA;subst eB
  go_enter Tryz.func209,Tryz.ntmps209
  go_wp2
  refine wp_loop_rounds 1 ?_
  rw[rounds_succ]
  go_wp2
  go_ret
  exact⟨aQ (by simp[lN,bG]),0,rfl⟩
 obtain⟨b1,o1,rfl,a1,F⟩:=T.ne (by omega)
 obtain⟨b2,o2,rfl,a2,G⟩:=U.ne (by omega)
 have l:∀t:Nat,(∀i:Nat,t<i→A[i]?.getD 0=B[i]?.getD 0)→A[t]?.getD 0≠B[t]?.getD 0→bG ((A[t]?.getD 0:Nat):Int) ((B[t]?.getD 0:Nat):Int)=lN A B:=by
  intro t h1 h2
  rw[xI A B T.2.1 U.2.1 t h1 h2];simp[lN,z]
 have I:(∀i:Nat,A[i]?.getD 0=B[i]?.getD 0)→(0:Int)=lN A B:=by
  intro h
  have:=iR A B h
  simp[lN,z,this,bG]
 have M:=aa l
 have N:=aa I
 have d:∀i:Nat,A.length≤i→A[i]?.getD 0=B[i]?.getD 0:=fun i hi=>by
  rw[List.getElem?_eq_none (by omega),List.getElem?_eq_none (by omega)]
 have HA:=aa d
 clear l I d T U
 rw[←z]
 generalize hb:lN A B=s at*
 clear hb
 generalize hm:A.length=n at*
 have V:B.length=n:=z.symm
 clear z
 go_enter Tryz.func209,Tryz.ntmps209
 go_wp2
 go_loopw[19] (fun i wr=>∃k:Nat,k≤n∧i=.int .i64 k∧Hid (∀j,n-k≤j→A[j]?.getD 0=B[j]?.getD 0)∧Hid (∃m,wr=w.drewN m))
  (fun i _=>n-(intOf i).toNat)
 case atStart=>exact⟨0,Nat.zero_le _,rfl,fun j hj=>uH HA j (by omega),0,rfl⟩
 case round=>
  obtain⟨k,hk,rfl,L,Q⟩:=hrel
  have D:∀a,wr.cell? a=w.cell? a:=by obtain⟨m,rfl⟩:=Q.out;intro a;rfl
  clear HA
  by_cases av:k<n
  ·have O:=F (n-1-k) (by omega)
   have X:=G (n-1-k) (by omega)
   rw[←D]at O X
   clear F G hm V D
   have ax:(0:Int)≤(n:Int)-1-(k:Int):=by omega
   have aI:(n:Int)-1-(k:Int)<(n:Int):=by omega
   by_cases K:A[n-1-k]?.getD 0=B[n-1-k]?.getD 0
   ·have Y:Hid (∀j,n-(k+1)≤j→A[j]?.getD 0=B[j]?.getD 0):=fun j hj=>by
     by_cases h:n-k≤j
     ·exact L.out j h
     ·rw[show j=n-1-k by omega];exact K
    rw[K]at O
    clear K L M N
    generalize B[n-1-k]?.getD 0=x at*
    go_wp2
    go_quiet (fail)
    go_wp2
    go_roundw
    case rel=>exact⟨k+1,by omega,by go_num,Y,by obtain⟨m,rfl⟩:=Q.out;exact⟨m+nq,by simp⟩⟩
    case measure=>simp[intOf];omega
   ·have Z:=aa (uH M (n-1-k) (fun i hi=>L.out i (by omega)) K)
    have a0:(((A[n-1-k]?.getD 0:Nat):Int) != ((B[n-1-k]?.getD 0:Nat):Int))=true:=by rw[bne_iff_ne];omega
    clear M N L K
    generalize B[n-1-k]?.getD 0=x at*
    generalize A[n-1-k]?.getD 0=y at*
    go_wp2
    go_quiet (fail)
    obtain⟨H,f⟩:∃H,H=wr.drewN nq:=⟨_,rfl⟩
    have c3:H.cell? ⟨b1,o1+(n-1-k),none⟩=some (.int .u32 (y:Int)):=by rw[f];exact O
    have c4:H.cell? ⟨b2,o2+(n-1-k),none⟩=some (.int .u32 (x:Int)):=by rw[f];exact X
    rw[←f]
    have ae:Hid (∃q,H=wr.drewN q):=⟨nq,f⟩
    clear f O X
    go_wp2
    go_quiet ((go_at_call 213;exact iq (xx _ _ _)))
    go_wp2
    go_ret
    obtain⟨m,rfl⟩:=Q.out
    obtain⟨q,aj⟩:=ae.out
    exact⟨aQ (uH Z),m+q+nq,by rw[aj];simp⟩
  ·have Z:=aa (uH N (fun i=>L.out i (by omega)))
   clear M N F G D
   go_wp2
   go_ret
   obtain⟨m,rfl⟩:=Q.out
   exact⟨aQ (uH Z),m,rfl⟩
theorem xJ(m:Option Addr)(f:Nat)(L:List Nat)(i:Int)(k:Nat)(w:World)(h:af w m f L)(G:L.length≤35184372088830)(y:i=(k:Int)):
  Calls Tryz.prog 174 #[.slice m L.length f,.int .i64 i] w fun e z=>e=.returned (.int .u64 ((L[k]?.getD 0:Nat):Int))∧w=z:=by
 subst y
 by_cases d:k<L.length
 ·rcases h.2.2 with D|⟨b,F,rfl,H,t⟩
  ·subst D;simp at d
  ·have A:=t k d
   have l:L[k]?.getD 0<4294967296:=by rw[List.getElem?_eq_getElem d];exact h.2.1 _ (List.getElem_mem d)
   clear h t
   generalize L[k]?.getD 0=x at*
   generalize L.length=n at*
   go_enter Tryz.func174,Tryz.ntmps174
   go_wp2
   go_ret
   exact⟨rfl,rfl⟩
 ·have l:L[k]?.getD 0=0:=by rw[List.getElem?_eq_none (by omega)];rfl
  rw[l]
  clear h l
  generalize L.length=n at*
  go_enter Tryz.func174,Tryz.ntmps174
  go_wp2
  go_ret
  exact⟨rfl,rfl⟩
end Go.Proofs.YtenpggicmfhhdaaGreatDoor
