/- Part 4 of the texts. -/
import Derived.Test.YtlnphkioddknfaaGreatDoorParty03
set_option maxHeartbeats 2000000
namespace Go.Proofs.YtlnphkioddknfaaGreatDoor
open Go.RowKit
theorem cu(b:Nat)(w:World)(h:b<18446744073709551616):
  Calls Tryz.prog 103 #[.int .u64 b] w fun e m=>e=.returned (.int .i64 (fK b))∧Below w.heap.size w m:=by
 have C:=fun m=>eO b m h
 unfold fV at C
 unfold fK
 generalize fF b=f at*
 generalize fP b=p at*
 generalize fS b=s at*
 by_cases t:p=2047
 ·subst t
  rw[if_pos rfl]
  by_cases d:f=0
  ·subst d
   rw[if_pos rfl]
   cases s
   ·exact D7 b w C
   ·exact Ec b w C
  ·rw[if_neg d]
   have l:((f:Int)==0)=false:=by simp;omega
   cases s
   ·exact D9 b f w C l
   ·exact Ee b f w C l
 ·rw[if_neg t]
  by_cases d:p=0
  ·subst d
   rw[if_pos rfl]
   by_cases y:f=0
   ·subst y
    rw[if_pos rfl]
    cases s
    ·exact D6 b w C
    ·exact Eb b w C
   ·rw[if_neg y]
    have l:((f:Int)==0)=false:=by simp;omega
    cases s
    ·exact D8 b f w C l
    ·exact Ed b f w C l
  ·rw[if_neg d]
   have z:((p:Int)==0)=false:=by simp;omega
   have A:((p:Int)==2047)=false:=by simp;omega
   cases s
   ·exact Ea b p f w C z A
   ·exact Ef b p f w C z A
def aC(b:Nat):Bool:=decide (fP b≠2047)
theorem gg(b:Nat):(aC b=false∧(fK b=3∨fK b=4))∨(aC b=true∧(fK b=0∨fK b=1∨fK b=2)):=by
 unfold fK aC
 by_cases d:fP b=2047
 ·left
  refine⟨by simp[d],?_⟩
  rw[if_pos d]
  split<;>simp
 ·right
  refine⟨by simp[d],?_⟩
  rw[if_neg d]
  split
  ·split<;>simp
  ·simp
theorem d7(b:Nat)(w:World)(h:b<18446744073709551616):
  Calls Tryz.prog 111 #[.int .u64 b] w fun e d=>e=.returned (.bool (aC b))∧Below w.heap.size w d:=by
 have l:=aa (fun d=>cu b d h)
 have m:=gg b
 generalize aC b=q at*
 generalize fK b=k at*
 rcases m with⟨rfl,rfl|rfl⟩|⟨rfl,rfl|rfl|rfl⟩
 all_goals
  clear h
  go_enter Tryz.func111,Tryz.ntmps111
  go_wp2_with(go_at_call 103;refine(uH l _).mono ?_;rintro e t ⟨rfl,f⟩)
  go_ret
  exact⟨rfl,f⟩
theorem cJ(b:Nat)(w:World)(h:b<18446744073709551616):
  Calls Tryz.prog 100 #[.int .u64 b] w fun e d=>e=.returned (.bool (aC b))∧w=d:=by
 have l:=aa (fun d=>j3 b d h)
 have m:=mQ b
 unfold aC
 generalize fP b=k at*
 clear h
 by_cases f:k=2047
 ·subst f
  go_enter Tryz.func100,Tryz.ntmps100
  go_wp2_with(go_at_call 105;refine(uH l _).mono ?_;rintro e t ⟨rfl,rfl⟩)
  go_ret
  exact⟨rfl,rfl⟩
 ·rw[decide_eq_true f]
  have y:(k:Int)<2047:=by omega
  clear f m
  go_enter Tryz.func100,Tryz.ntmps100
  go_wp2_with(go_at_call 105;refine(uH l _).mono ?_;rintro e t ⟨rfl,rfl⟩)
  go_ret
  exact⟨rfl,rfl⟩
theorem eP(b:Nat)(w:World)(h:b<18446744073709551616):
  Calls Tryz.prog 44 #[.int .u64 b] w fun e l=>e=.returned (.int .i64 (fK b))∧w=l:=by
 have m:=aa (fun l=>j3 b l h)
 have t:=aa (fun l=>ps b l h)
 unfold fK
 generalize fF b=f at*
 generalize fP b=p at*
 clear h
 by_cases A:p=2047
 ·subst A
  rw[if_pos rfl]
  by_cases d:f=0
  ·subst d
   rw[if_pos rfl]
   go_enter Tryz.func44,Tryz.ntmps44
   go_wp2_with(first|(go_at_call 105;refine(uH m _).mono ?_;rintro e y ⟨rfl,rfl⟩)|(go_at_call 106;refine(uH t _).mono ?_;rintro e z ⟨rfl,rfl⟩))
   go_ret
   exact⟨rfl,rfl⟩
  ·rw[if_neg d]
   have G:((f:Int)==0)=false:=by simp;omega
   clear d
   go_enter Tryz.func44,Tryz.ntmps44
   go_wp2_with(first|(go_at_call 105;refine(uH m _).mono ?_;rintro e y ⟨rfl,rfl⟩)|(go_at_call 106;refine(uH t _).mono ?_;rintro e z ⟨rfl,rfl⟩))
   go_ret
   exact⟨rfl,rfl⟩
 ·rw[if_neg A]
  have H:((p:Int)==2047)=false:=by simp;omega
  clear A
  by_cases d:p=0
  ·subst d
   rw[if_pos rfl]
   by_cases D:f=0
   ·subst D
    rw[if_pos rfl]
    go_enter Tryz.func44,Tryz.ntmps44
    go_wp2_with(first|(go_at_call 105;refine(uH m _).mono ?_;rintro e y ⟨rfl,rfl⟩)|(go_at_call 106;refine(uH t _).mono ?_;rintro e z ⟨rfl,rfl⟩))
    go_ret
    exact⟨rfl,rfl⟩
   ·rw[if_neg D]
    have G:decide ((0:Int)<(f:Int))=true:=decide_eq_true (by omega)
    have F:(0:Int)<(f:Int):=by omega
    clear D
    go_enter Tryz.func44,Tryz.ntmps44
    go_wp2_with(first|(go_at_call 105;refine(uH m _).mono ?_;rintro e y ⟨rfl,rfl⟩)|(go_at_call 106;refine(uH t _).mono ?_;rintro e z ⟨rfl,rfl⟩))
    go_ret
    exact⟨rfl,rfl⟩
  ·rw[if_neg d]
   have G:decide ((0:Int)<(p:Int))=true:=decide_eq_true (by omega)
   have F:(0:Int)<(p:Int):=by omega
   clear d
   go_enter Tryz.func44,Tryz.ntmps44
   go_wp2_with(first|(go_at_call 105;refine(uH m _).mono ?_;rintro e y ⟨rfl,rfl⟩)|(go_at_call 106;refine(uH t _).mono ?_;rintro e z ⟨rfl,rfl⟩))
   go_ret
   exact⟨rfl,rfl⟩
theorem jc(b:Nat)(w:World)(h:b<18446744073709551616):
  Calls Tryz.prog 121 #[.int .u64 b] w fun e m=>e=.returned (.int .u64 (fN b))∧w=m:=by
 have l:=aa (fun m=>fY b m h)
 by_cases d:9223372036854775808≤b
 ·have f:fS b=true:=decide_eq_true d
  rw[f]at l
  have t:((b:Int)-9223372036854775808)%18446744073709551616=(fN b:Int):=by unfold fN;rw[if_pos d];omega
  generalize fN b=q at*
  clear d h f
  go_enter Tryz.func121,Tryz.ntmps121
  go_wp2_with(go_at_call 120;refine(uH l _).mono ?_;rintro e y ⟨rfl,rfl⟩)
  go_ret
  exact⟨aQ t,rfl⟩
 ·have f:fS b=false:=decide_eq_false d
  rw[f]at l
  have t:((b:Int)+9223372036854775808)%18446744073709551616=(fN b:Int):=by unfold fN;rw[if_neg d];omega
  generalize fN b=q at*
  clear d h f
  go_enter Tryz.func121,Tryz.ntmps121
  go_wp2_with(go_at_call 120;refine(uH l _).mono ?_;rintro e y ⟨rfl,rfl⟩)
  go_ret
  exact⟨aQ t,rfl⟩
theorem jd{P:Program}{f:FuncId}{d:Array Value}{w:World}{n:Nat}{v:Value}
  (h:Calls P f d (w.drewN n) fun e t=>e=.returned v∧w.drewN n=t):Calls P f d (w.drewN n) fun e l=>e=.returned v∧∃m,l=w.drewN m:=
 h.mono fun _ _ ⟨y,z⟩=>⟨y,n,z.symm⟩
def qq(ao:Option Addr)(cap:Nat)(L:List Nat)(v:Value):Prop:=
 ∃ao' cap' L',v=.slice ao' L'.length cap'∧bP L'∧an L'=an L∧L'.length≤L.length∧(∀w,ag w ao cap L→ag w ao' cap' L')∧(∀B,bN B ao L→bN B ao' L')
theorem bN.take{B:Nat}{ao:Option Addr}{L:List Nat}(h:bN B ao L)(n:Nat):bN B ao (L.take n):=by
 rcases h with h|h
 ·left;simp[h]
 ·exact .inr h
theorem mR(ao:Option Addr)(cap:Nat)(L:List Nat)(w:World)(h:ag w ao cap L)(Y:L.length≤35184372088832):
  Calls Tryz.prog 253 #[.slice ao L.length cap] w fun e M=>∃v,e=.returned v∧qq ao cap L v∧w=M:=by
 have m:∀k,k<L.length→an (L.take (L.length-k))=an L→L[L.length-k-1]?.getD 0≠0→qq ao cap L (.slice ao (L.length-k) cap):=by
  intro k O d Q
  refine⟨ao,cap,L.take (L.length-k),?_,?_,d,by simp,fun w h=>h.take _,fun B h=>h.take _⟩
  ·rw[List.length_take,Nat.min_eq_left (by omega)]
  ·right
   rw[List.length_take,Nat.min_eq_left (by omega),List.getElem?_take,if_pos (by omega)]
   exact Q
 have l:an (L.take 0)=an L→qq ao cap L (.slice none 0 0):=by
  intro d
  exact⟨none,0,[],rfl,.inl rfl,by simpa using d,by simp,fun _ _=>ag.nil _ _ _,fun _ _=>.inl rfl⟩
 have K:=aa m
 have t:=aa l
 clear m l
 rcases h.2.2 with U|⟨b,V,rfl,Z,G⟩
 ·subst U
  clear K
  go_enter Tryz.func253,Tryz.ntmps253
  go_wp2
  refine wp_loop_rounds 1 ?_
  rw[rounds_succ]
  go_wp2
  go_ret
  exact⟨_,rfl,uH t rfl,rfl⟩
 ·have H:=h.1
  go_enter Tryz.func253,Tryz.ntmps253
  go_wp2
  go_loop [7] (fun i=>∃k:Nat,k≤L.length∧i=.int .i64 k∧Hid (an (L.take (L.length-k))=an L)) (fun i=>L.length-(intOf i).toNat)
  case atStart=>exact⟨0,Nat.zero_le _,rfl,by unfold Hid;simp⟩
  case round=>
   obtain⟨k,O,rfl,d⟩:=hrel
   by_cases z:k<L.length
   ·have A:=G (L.length-k-1) (by omega)
    clear G
    by_cases f:L[L.length-k-1]?.getD 0=0
    ·have I:=jP L (L.length-k) f
     have D:Hid (an (L.take (L.length-(k+1)))=an L):=by
      unfold Hid;rw[show L.length-(k+1)=L.length-k-1 by omega,I];exact d.out
     rw[f]at A
     clear f I d K t h
     go_wp2
     go_round
     case rel=>exact⟨k+1,by omega,by go_num,D⟩
     case measure=>simp[intOf];omega
    ·have y:=uH K k z d.out f
     have F:=aa y
     clear y K t h d
     have N:(((L[L.length-k-1]?.getD 0:Nat):Int) != 0)=true:=by rw[bne_iff_ne];omega
     generalize L[L.length-k-1]?.getD 0=x at*
     generalize X:L.length=n at*
     clear X
     go_wp2
     go_ret
     exact⟨_,rfl,uH F,rfl⟩
   ·have y:=uH t (by rw[←d.out,show L.length-k=0 by omega])
    have F:=aa y
    clear y K t h d G
    go_wp2
    go_ret
    exact⟨_,rfl,uH F,rfl⟩
theorem ag.ne{w:World}{ao:Option Addr}{cap:Nat}{L:List Nat}(h:ag w ao cap L)(f:0<L.length):∃b d,ao=some ⟨b,d,none⟩∧b<w.heap.size∧∀i,i<L.length→w.cell? ⟨b,d+i,none⟩=some (.int .u32 ((L[i]?.getD 0:Nat):Int)):=by
 rcases h.2.2 with e|h
 ·subst e;simp at f
 ·exact h
def mT(A B:List Nat):Int:=if A.length=B.length then bJ (an A) (an B)else bJ A.length B.length
theorem dq{a b:Int}(h:a<b):bJ a b= -1:=by simp[bJ,h]
theorem ew{a b:Int}(h:b<a):bJ a b=1:=by simp only[bJ];rw[if_neg (by omega),if_pos h]
theorem Eg{a b:Int}(h:a=b):bJ a b=0:=by simp[bJ,h]
theorem Ai(A B:List Nat)(l:bf A)(m:bf B)(t:Nat)(d:∀i,t<i→A[i]?.getD 0=B[i]?.getD 0)(f:A[t]?.getD 0≠B[t]?.getD 0):
  bJ ((A[t]?.getD 0:Nat):Int) ((B[t]?.getD 0:Nat):Int)=bJ (an A) (an B):=by
 rcases Nat.lt_or_gt_of_ne f with h|h
 ·have:=jA A B l t d h
  rw[dq (by omega),dq (by omega)]
 ·have:=jA B A m t (fun i y=>(d i y).symm) h
  rw[ew (by omega),ew (by omega)]
theorem ld(ao bo:Option Addr)(ca cb:Nat)(A B:List Nat)(w:World)(U:ag w ao ca A)(V:ag w bo cb B)(la:A.length≤35184372088832)(lb:B.length≤35184372088832):
  Calls Tryz.prog 292 #[.slice ao A.length ca,.slice bo B.length cb] w fun e w'=>e=.returned (.int .i64 (mT A B))∧∃m,w.drewN m=w':=by
 by_cases z:A.length≠B.length
 ·have ak:((A.length:Int) != (B.length:Int))=true:=by rw[bne_iff_ne];omega
  have HE:=aa (show mT A B=bJ A.length B.length by simp[mT,z])
  go_enter Tryz.func292,Tryz.ntmps292
  go_wp2_with(go_at_call 294;refine(zX _ _ _).mono ?_;rintro e w' ⟨rfl,rfl⟩)
  go_ret
  exact⟨aQ (uH HE).symm,0,rfl⟩
 have z:A.length=B.length:=by omega
 by_cases h0:A.length=0
 ·have eA:A= []:=List.length_eq_zero_iff.1 h0
  have eB:B= []:=List.length_eq_zero_iff.1 (by omega)
  subst eA;subst eB
  go_enter Tryz.func292,Tryz.ntmps292
  go_wp2
  refine wp_loop_rounds 1 ?_
  rw[rounds_succ]
  go_wp2
  go_ret
  exact⟨aQ (by simp[mT,bJ]),0,rfl⟩
 obtain⟨b1,o1,rfl,a1,F⟩:=U.ne (by omega)
 obtain⟨b2,o2,rfl,a2,G⟩:=V.ne (by omega)
 have l:∀t:Nat,(∀i:Nat,t<i→A[i]?.getD 0=B[i]?.getD 0)→A[t]?.getD 0≠B[t]?.getD 0→bJ ((A[t]?.getD 0:Nat):Int) ((B[t]?.getD 0:Nat):Int)=mT A B:=by
  intro t h1 h2
  rw[Ai A B U.2.1 V.2.1 t h1 h2];simp[mT,z]
 have I:(∀i:Nat,A[i]?.getD 0=B[i]?.getD 0)→(0:Int)=mT A B:=by
  intro h
  have:=jz A B h
  simp[mT,z,this,bJ]
 have M:=aa l
 have N:=aa I
 have d:∀i:Nat,A.length≤i→A[i]?.getD 0=B[i]?.getD 0:=fun i hi=>by
  rw[List.getElem?_eq_none (by omega),List.getElem?_eq_none (by omega)]
 have HA:=aa d
 clear l I d U V
 rw[←z]
 generalize hb:mT A B=s at*
 clear hb
 generalize hm:A.length=n at*
 have X:B.length=n:=z.symm
 clear z
 go_enter Tryz.func292,Tryz.ntmps292
 go_wp2
 go_loopw[19] (fun i wr=>∃k:Nat,k≤n∧i=.int .i64 k∧Hid (∀j,n-k≤j→A[j]?.getD 0=B[j]?.getD 0)∧Hid (∃m,wr=w.drewN m))
  (fun i _=>n-(intOf i).toNat)
 case atStart=>exact⟨0,Nat.zero_le _,rfl,fun j hj=>uH HA j (by omega),0,rfl⟩
 case round=>
  obtain⟨k,hk,rfl,L,Q⟩:=hrel
  have D:∀a,wr.cell? a=w.cell? a:=by obtain⟨m,rfl⟩:=Q.out;intro a;rfl
  clear HA
  by_cases am:k<n
  ·have O:=F (n-1-k) (by omega)
   have Y:=G (n-1-k) (by omega)
   rw[←D]at O Y
   clear F G hm X D
   have ax:(0:Int)≤(n:Int)-1-(k:Int):=by omega
   have aI:(n:Int)-1-(k:Int)<(n:Int):=by omega
   by_cases K:A[n-1-k]?.getD 0=B[n-1-k]?.getD 0
   ·have Z:Hid (∀j,n-(k+1)≤j→A[j]?.getD 0=B[j]?.getD 0):=fun j hj=>by
     by_cases h:n-k≤j
     ·exact L.out j h
     ·rw[show j=n-1-k by omega];exact K
    rw[K]at O
    clear K L M N
    generalize B[n-1-k]?.getD 0=x at*
    go_wp2
    go_quiet (fail)
    go_wp2
    go_roundw
    case rel=>exact⟨k+1,by omega,by go_num,Z,by obtain⟨m,rfl⟩:=Q.out;exact⟨m+nq,by simp⟩⟩
    case measure=>simp[intOf];omega
   ·have HS:=aa (uH M (n-1-k) (fun i hi=>L.out i (by omega)) K)
    have a0:(((A[n-1-k]?.getD 0:Nat):Int) != ((B[n-1-k]?.getD 0:Nat):Int))=true:=by rw[bne_iff_ne];omega
    clear M N L K
    generalize B[n-1-k]?.getD 0=x at*
    generalize A[n-1-k]?.getD 0=y at*
    go_wp2
    go_quiet (fail)
    obtain⟨H,f⟩:∃H,H=wr.drewN nq:=⟨_,rfl⟩
    have c3:H.cell? ⟨b1,o1+(n-1-k),none⟩=some (.int .u32 (y:Int)):=by rw[f];exact O
    have c4:H.cell? ⟨b2,o2+(n-1-k),none⟩=some (.int .u32 (x:Int)):=by rw[f];exact Y
    rw[←f]
    have ae:Hid (∃q,H=wr.drewN q):=⟨nq,f⟩
    clear f O Y
    go_wp2
    go_quiet ((go_at_call 295;exact jd (zY _ _ _)))
    go_wp2
    go_ret
    obtain⟨m,rfl⟩:=Q.out
    obtain⟨q,aj⟩:=ae.out
    exact⟨aQ (uH HS),m+q+nq,by rw[aj];simp⟩
  ·have HS:=aa (uH N (fun i=>L.out i (by omega)))
   clear M N F G D
   go_wp2
   go_ret
   obtain⟨m,rfl⟩:=Q.out
   exact⟨aQ (uH HS),m,rfl⟩
theorem Aj(ao:Option Addr)(cap:Nat)(L:List Nat)(i:Int)(k:Nat)(w:World)(h:ag w ao cap L)(D:L.length≤35184372088830)(m:i=(k:Int)):
  Calls Tryz.prog 185 #[.slice ao L.length cap,.int .i64 i] w fun e t=>e=.returned (.int .u64 ((L[k]?.getD 0:Nat):Int))∧w=t:=by
 subst m
 by_cases d:k<L.length
 ·rcases h.2.2 with z|⟨b,A,rfl,F,l⟩
  ·subst z;simp at d
  ·have y:=l k d
   have f:L[k]?.getD 0<4294967296:=by rw[List.getElem?_eq_getElem d];exact h.2.1 _ (List.getElem_mem d)
   clear h l
   generalize L[k]?.getD 0=x at*
   generalize L.length=n at*
   go_enter Tryz.func185,Tryz.ntmps185
   go_wp2
   go_ret
   exact⟨rfl,rfl⟩
 ·have f:L[k]?.getD 0=0:=by rw[List.getElem?_eq_none (by omega)];rfl
  rw[f]
  clear h f
  generalize L.length=n at*
  go_enter Tryz.func185,Tryz.ntmps185
  go_wp2
  go_ret
  exact⟨rfl,rfl⟩
end Go.Proofs.YtlnphkioddknfaaGreatDoor
