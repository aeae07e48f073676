/- Part 4 of the texts. -/
import Derived.Test.YtnnfjeieennffaaGreatDoorPartc03
set_option maxHeartbeats 2000000
namespace Go.Proofs.YtnnfjeieennffaaGreatDoor
open Go.RowKit
theorem cF(b:Nat)(w:World)(h:b<18446744073709551616):
  Calls Tryz.prog 113 #[.int .u64 b] w fun e w'=>e=.returned (.int .i64 (fK b))∧Below w.heap.size w w':=by
 have C:=fun w'=>eU b w' h
 unfold fV at C
 unfold fK
 generalize fF b=f at*
 generalize fP b=p at*
 generalize fS b=s at*
 by_cases m:p=2047
 ·subst m
  rw[if_pos rfl]
  by_cases d:f=0
  ·subst d
   rw[if_pos rfl]
   cases s
   ·exact DL b w C
   ·exact DQ b w C
  ·rw[if_neg d]
   have l:((f:Int)==0)=false:=by simp;omega
   cases s
   ·exact DN b f w C l
   ·exact DS b f w C l
 ·rw[if_neg m]
  by_cases d:p=0
  ·subst d
   rw[if_pos rfl]
   by_cases t:f=0
   ·subst t
    rw[if_pos rfl]
    cases s
    ·exact DK b w C
    ·exact DP b w C
   ·rw[if_neg t]
    have l:((f:Int)==0)=false:=by simp;omega
    cases s
    ·exact DM b f w C l
    ·exact DR b f w C l
  ·rw[if_neg d]
   have z:((p:Int)==0)=false:=by simp;omega
   have A:((p:Int)==2047)=false:=by simp;omega
   cases s
   ·exact DO b p f w C z A
   ·exact DT b p f w C z A
def ap(b:Nat):Bool:=decide (fP b≠2047)
theorem gi(b:Nat):(ap b=false∧(fK b=3∨fK b=4))∨(ap b=true∧(fK b=0∨fK b=1∨fK b=2)):=by
 unfold fK ap
 by_cases d:fP b=2047
 ·left
  refine⟨by simp[d],?_⟩
  rw[if_pos d]
  split<;>simp
 ·right
  refine⟨by simp[d],?_⟩
  rw[if_neg d]
  split
  ·split<;>simp
  ·simp
theorem d7(b:Nat)(w:World)(h:b<18446744073709551616):
  Calls Tryz.prog 68 #[.int .u64 b] w fun e w'=>e=.returned (.bool (ap b))∧Below w.heap.size w w':=by
 have f:=aa (fun w'=>cF b w' h)
 have l:=gi b
 generalize ap b=q at*
 generalize fK b=k at*
 rcases l with⟨rfl,rfl|rfl⟩|⟨rfl,rfl|rfl|rfl⟩
 all_goals
  clear h
  go_enter Tryz.func68,Tryz.ntmps68
  go_wp2_with(go_at_call 113;refine(uH f _).mono ?_;rintro e m ⟨rfl,d⟩)
  go_ret
  exact⟨rfl,d⟩
theorem cr(b:Nat)(w:World)(h:b<18446744073709551616):
  Calls Tryz.prog 66 #[.int .u64 b] w fun e w'=>e=.returned (.bool (ap b))∧w=w':=by
 have f:=aa (fun w'=>jO b w' h)
 have l:=mY b
 unfold ap
 generalize fP b=k at*
 clear h
 by_cases d:k=2047
 ·subst d
  go_enter Tryz.func66,Tryz.ntmps66
  go_wp2_with(go_at_call 104;refine(uH f _).mono ?_;rintro e m ⟨rfl,rfl⟩)
  go_ret
  exact⟨rfl,rfl⟩
 ·rw[decide_eq_true d]
  have t:(k:Int)<2047:=by omega
  clear d l
  go_enter Tryz.func66,Tryz.ntmps66
  go_wp2_with(go_at_call 104;refine(uH f _).mono ?_;rintro e m ⟨rfl,rfl⟩)
  go_ret
  exact⟨rfl,rfl⟩
theorem f8(b:Nat)(w:World)(h:b<18446744073709551616):
  Calls Tryz.prog 67 #[.int .u64 b] w fun e w'=>e=.returned (.int .i64 (fK b))∧w=w':=by
 have l:=aa (fun w'=>jO b w' h)
 have m:=aa (fun w'=>pF b w' h)
 unfold fK
 generalize fF b=f at*
 generalize fP b=p at*
 clear h
 by_cases A:p=2047
 ·subst A
  rw[if_pos rfl]
  by_cases d:f=0
  ·subst d
   rw[if_pos rfl]
   go_enter Tryz.func67,Tryz.ntmps67
   go_wp2_with(first|(go_at_call 104;refine(uH l _).mono ?_;rintro e t ⟨rfl,rfl⟩)|(go_at_call 103;refine(uH m _).mono ?_;rintro e z ⟨rfl,rfl⟩))
   go_ret
   exact⟨rfl,rfl⟩
  ·rw[if_neg d]
   have G:((f:Int)==0)=false:=by simp;omega
   clear d
   go_enter Tryz.func67,Tryz.ntmps67
   go_wp2_with(first|(go_at_call 104;refine(uH l _).mono ?_;rintro e t ⟨rfl,rfl⟩)|(go_at_call 103;refine(uH m _).mono ?_;rintro e z ⟨rfl,rfl⟩))
   go_ret
   exact⟨rfl,rfl⟩
 ·rw[if_neg A]
  have H:((p:Int)==2047)=false:=by simp;omega
  clear A
  by_cases d:p=0
  ·subst d
   rw[if_pos rfl]
   by_cases D:f=0
   ·subst D
    rw[if_pos rfl]
    go_enter Tryz.func67,Tryz.ntmps67
    go_wp2_with(first|(go_at_call 104;refine(uH l _).mono ?_;rintro e t ⟨rfl,rfl⟩)|(go_at_call 103;refine(uH m _).mono ?_;rintro e z ⟨rfl,rfl⟩))
    go_ret
    exact⟨rfl,rfl⟩
   ·rw[if_neg D]
    have G:decide ((0:Int)<(f:Int))=true:=decide_eq_true (by omega)
    have F:(0:Int)<(f:Int):=by omega
    clear D
    go_enter Tryz.func67,Tryz.ntmps67
    go_wp2_with(first|(go_at_call 104;refine(uH l _).mono ?_;rintro e t ⟨rfl,rfl⟩)|(go_at_call 103;refine(uH m _).mono ?_;rintro e z ⟨rfl,rfl⟩))
    go_ret
    exact⟨rfl,rfl⟩
  ·rw[if_neg d]
   have G:decide ((0:Int)<(p:Int))=true:=decide_eq_true (by omega)
   have F:(0:Int)<(p:Int):=by omega
   clear d
   go_enter Tryz.func67,Tryz.ntmps67
   go_wp2_with(first|(go_at_call 104;refine(uH l _).mono ?_;rintro e t ⟨rfl,rfl⟩)|(go_at_call 103;refine(uH m _).mono ?_;rintro e z ⟨rfl,rfl⟩))
   go_ret
   exact⟨rfl,rfl⟩
theorem iR(b:Nat)(w:World)(h:b<18446744073709551616):
  Calls Tryz.prog 83 #[.int .u64 b] w fun e w'=>e=.returned (.int .u64 (fN b))∧w=w':=by
 have l:=aa (fun w'=>fY b w' h)
 by_cases d:9223372036854775808≤b
 ·have f:fS b=true:=decide_eq_true d
  rw[f]at l
  have m:((b:Int)-9223372036854775808)%18446744073709551616=(fN b:Int):=by unfold fN;rw[if_pos d];omega
  generalize fN b=q at*
  clear d h f
  go_enter Tryz.func83,Tryz.ntmps83
  go_wp2_with(go_at_call 81;refine(uH l _).mono ?_;rintro e t ⟨rfl,rfl⟩)
  go_ret
  exact⟨aM m,rfl⟩
 ·have f:fS b=false:=decide_eq_false d
  rw[f]at l
  have m:((b:Int)+9223372036854775808)%18446744073709551616=(fN b:Int):=by unfold fN;rw[if_neg d];omega
  generalize fN b=q at*
  clear d h f
  go_enter Tryz.func83,Tryz.ntmps83
  go_wp2_with(go_at_call 81;refine(uH l _).mono ?_;rintro e t ⟨rfl,rfl⟩)
  go_ret
  exact⟨aM m,rfl⟩
theorem iS{P:Program}{f:FuncId}{d:Array Value}{w:World}{n:Nat}{v:Value}
  (h:Calls P f d (w.drewN n) fun e w'=>e=.returned v∧w.drewN n=w'):Calls P f d (w.drewN n) fun e l=>e=.returned v∧∃m,l=w.drewN m:=
 h.mono fun _ _ ⟨t,z⟩=>⟨t,n,z.symm⟩
def qv(ao:Option Addr)(cap:Nat)(L:List Nat)(v:Value):Prop:=
 ∃ao' cap' L',v=.slice ao' L'.length cap'∧bN L'∧ak L'=ak L∧L'.length≤L.length∧(∀w,ag w ao cap L→ag w ao' cap' L')∧(∀B,bG B ao L→bG B ao' L')
theorem bG.take{B:Nat}{d:Option Addr}{L:List Nat}(h:bG B d L)(n:Nat):bG B d (L.take n):=by
 rcases h with h|h
 ·left;simp[h]
 ·exact .inr h
theorem mZ(t:Option Addr)(d:Nat)(L:List Nat)(w:World)(h:ag w t d L)(hl:L.length≤35184372088832):
  Calls Tryz.prog 199 #[.slice t L.length d] w fun e w'=>∃v,e=.returned v∧qv t d L v∧w=w':=by
 have z:∀k,k<L.length→ak (L.take (L.length-k))=ak L→L[L.length-k-1]?.getD 0≠0→qv t d L (.slice t (L.length-k) d):=by
  intro k V f X
  refine⟨t,d,L.take (L.length-k),?_,?_,f,by simp,fun w h=>h.take _,fun B h=>h.take _⟩
  ·rw[List.length_take,Nat.min_eq_left (by omega)]
  ·right
   rw[List.length_take,Nat.min_eq_left (by omega),List.getElem?_take,if_pos (by omega)]
   exact X
 have m:ak (L.take 0)=ak L→qv t d L (.slice none 0 0):=by
  intro f
  exact⟨none,0,[],rfl,.inl rfl,by simpa using f,by simp,fun _ _=>ag.nil _ _ _,fun _ _=>.inl rfl⟩
 have K:=aa z
 have A:=aa m
 clear z m
 rcases h.2.2 with Y|⟨b,Z,rfl,hb,N⟩
 ·subst Y
  clear K
  go_enter Tryz.func199,Tryz.ntmps199
  go_wp2
  refine wp_loop_rounds 1 ?_
  rw[rounds_succ]
  go_wp2
  go_ret
  exact⟨_,rfl,uH A rfl,rfl⟩
 ·have O:=h.1
  go_enter Tryz.func199,Tryz.ntmps199
  go_wp2
  go_loop [7] (fun i=>∃k:Nat,k≤L.length∧i=.int .i64 k∧Hid (ak (L.take (L.length-k))=ak L)) (fun i=>L.length-(intOf i).toNat)
  case atStart=>exact⟨0,Nat.zero_le _,rfl,by unfold Hid;simp⟩
  case round=>
   obtain⟨k,V,rfl,f⟩:=hrel
   by_cases F:k<L.length
   ·have G:=N (L.length-k-1) (by omega)
    clear N
    by_cases l:L[L.length-k-1]?.getD 0=0
    ·have Q:=jB L (L.length-k) l
     have H:Hid (ak (L.take (L.length-(k+1)))=ak L):=by
      unfold Hid;rw[show L.length-(k+1)=L.length-k-1 by omega,Q];exact f.out
     rw[l]at G
     clear l Q f K A h
     go_wp2
     go_round
     case rel=>exact⟨k+1,by omega,by go_num,H⟩
     case measure=>simp[intOf];omega
    ·have D:=uH K k F f.out l
     have M:=aa D
     clear D K A h f
     have U:(((L[L.length-k-1]?.getD 0:Nat):Int) != 0)=true:=by rw[bne_iff_ne];omega
     generalize L[L.length-k-1]?.getD 0=x at*
     generalize hn:L.length=n at*
     clear hn
     go_wp2
     go_ret
     exact⟨_,rfl,uH M,rfl⟩
   ·have D:=uH A (by rw[←f.out,show L.length-k=0 by omega])
    have M:=aa D
    clear D K A h f N
    go_wp2
    go_ret
    exact⟨_,rfl,uH M,rfl⟩
theorem ag.ne{w:World}{l:Option Addr}{f:Nat}{L:List Nat}(h:ag w l f L)(m:0<L.length):∃b d,l=some ⟨b,d,none⟩∧b<w.heap.size∧∀i,i<L.length→w.cell? ⟨b,d+i,none⟩=some (.int .u32 ((L[i]?.getD 0:Nat):Int)):=by
 rcases h.2.2 with e|h
 ·subst e;simp at m
 ·exact h
def nd(A B:List Nat):Int:=if A.length=B.length then bs (ak A) (ak B)else bs A.length B.length
theorem dz{a b:Int}(h:a<b):bs a b= -1:=by simp[bs,h]
theorem ew{a b:Int}(h:b<a):bs a b=1:=by simp only[bs];rw[if_neg (by omega),if_pos h]
theorem DU{a b:Int}(h:a=b):bs a b=0:=by simp[bs,h]
theorem zM(A B:List Nat)(l:bd A)(m:bd B)(t:Nat)(d:∀i,t<i→A[i]?.getD 0=B[i]?.getD 0)(f:A[t]?.getD 0≠B[t]?.getD 0):
  bs ((A[t]?.getD 0:Nat):Int) ((B[t]?.getD 0:Nat):Int)=bs (ak A) (ak B):=by
 rcases Nat.lt_or_gt_of_ne f with h|h
 ·have:=jf A B l t d h
  rw[dz (by omega),dz (by omega)]
 ·have:=jf B A m t (fun i z=>(d i z).symm) h
  rw[ew (by omega),ew (by omega)]
theorem k5(ao bo:Option Addr)(ca cb:Nat)(A B:List Nat)(w:World)(V:ag w ao ca A)(X:ag w bo cb B)(la:A.length≤35184372088832)(lb:B.length≤35184372088832):
  Calls Tryz.prog 229 #[.slice ao A.length ca,.slice bo B.length cb] w fun e w'=>e=.returned (.int .i64 (nd A B))∧∃m,w.drewN m=w':=by
 by_cases z:A.length≠B.length
 ·have ax:((A.length:Int) != (B.length:Int))=true:=by rw[bne_iff_ne];omega
  have HE:=aa (show nd A B=bs A.length B.length by simp[nd,z])
  go_enter Tryz.func229,Tryz.ntmps229
  go_wp2_with(go_at_call 231;refine(zC _ _ _).mono ?_;rintro e w' ⟨rfl,rfl⟩)
  go_ret
  exact⟨aM (uH HE).symm,0,rfl⟩
 have z:A.length=B.length:=by omega
 by_cases h0:A.length=0
 ·have eA:A= []:=List.length_eq_zero_iff.1 h0
  have eB:B= []:=List.length_eq_zero_iff.1 (by omega)
  subst eA;subst eB
  go_enter Tryz.func229,Tryz.ntmps229
  go_wp2
  refine wp_loop_rounds 1 ?_
  rw[rounds_succ]
  go_wp2
  go_ret
  exact⟨aM (by simp[nd,bs]),0,rfl⟩
 obtain⟨b1,o1,rfl,a3,F⟩:=V.ne (by omega)
 obtain⟨b2,o2,rfl,a4,G⟩:=X.ne (by omega)
 have l:∀t:Nat,(∀i:Nat,t<i→A[i]?.getD 0=B[i]?.getD 0)→A[t]?.getD 0≠B[t]?.getD 0→bs ((A[t]?.getD 0:Nat):Int) ((B[t]?.getD 0:Nat):Int)=nd A B:=by
  intro t h1 h2
  rw[zM A B V.2.1 X.2.1 t h1 h2];simp[nd,z]
 have K:(∀i:Nat,A[i]?.getD 0=B[i]?.getD 0)→(0:Int)=nd A B:=by
  intro h
  have:=je A B h
  simp[nd,z,this,bs]
 have N:=aa l
 have O:=aa K
 have d:∀i:Nat,A.length≤i→A[i]?.getD 0=B[i]?.getD 0:=fun i hi=>by
  rw[List.getElem?_eq_none (by omega),List.getElem?_eq_none (by omega)]
 have HA:=aa d
 clear l K d V X
 rw[←z]
 generalize hb:nd A B=s at*
 clear hb
 generalize hm:A.length=n at*
 have Y:B.length=n:=z.symm
 clear z
 go_enter Tryz.func229,Tryz.ntmps229
 go_wp2
 go_loopw[19] (fun i wr=>∃k:Nat,k≤n∧i=.int .i64 k∧Hid (∀j,n-k≤j→A[j]?.getD 0=B[j]?.getD 0)∧Hid (∃m,wr=w.drewN m))
  (fun i _=>n-(intOf i).toNat)
 case atStart=>exact⟨0,Nat.zero_le _,rfl,fun j hj=>uH HA j (by omega),0,rfl⟩
 case round=>
  obtain⟨k,hk,rfl,M,U⟩:=hrel
  have D:∀a,wr.cell? a=w.cell? a:=by obtain⟨m,rfl⟩:=U.out;intro a;rfl
  clear HA
  by_cases aI:k<n
  ·have Q:=F (n-1-k) (by omega)
   have Z:=G (n-1-k) (by omega)
   rw[←D]at Q Z
   clear F G hm Y D
   have a0:(0:Int)≤(n:Int)-1-(k:Int):=by omega
   have a1:(n:Int)-1-(k:Int)<(n:Int):=by omega
   by_cases L:A[n-1-k]?.getD 0=B[n-1-k]?.getD 0
   ·have ae:Hid (∀j,n-(k+1)≤j→A[j]?.getD 0=B[j]?.getD 0):=fun j hj=>by
     by_cases h:n-k≤j
     ·exact M.out j h
     ·rw[show j=n-1-k by omega];exact L
    rw[L]at Q
    clear L M N O
    generalize B[n-1-k]?.getD 0=x at*
    go_wp2
    go_quiet (fail)
    go_wp2
    go_roundw
    case rel=>exact⟨k+1,by omega,by go_num,ae,by obtain⟨m,rfl⟩:=U.out;exact⟨m+nq,by simp⟩⟩
    case measure=>simp[intOf];omega
   ·have HS:=aa (uH N (n-1-k) (fun i hi=>M.out i (by omega)) L)
    have a2:(((A[n-1-k]?.getD 0:Nat):Int) != ((B[n-1-k]?.getD 0:Nat):Int))=true:=by rw[bne_iff_ne];omega
    clear N O M L
    generalize B[n-1-k]?.getD 0=x at*
    generalize A[n-1-k]?.getD 0=y at*
    go_wp2
    go_quiet (fail)
    obtain⟨H,f⟩:∃H,H=wr.drewN nq:=⟨_,rfl⟩
    have c3:H.cell? ⟨b1,o1+(n-1-k),none⟩=some (.int .u32 (y:Int)):=by rw[f];exact Q
    have c4:H.cell? ⟨b2,o2+(n-1-k),none⟩=some (.int .u32 (x:Int)):=by rw[f];exact Z
    rw[←f]
    have aj:Hid (∃q,H=wr.drewN q):=⟨nq,f⟩
    clear f Q Z
    go_wp2
    go_quiet ((go_at_call 232;exact iS (zD _ _ _)))
    go_wp2
    go_ret
    obtain⟨m,rfl⟩:=U.out
    obtain⟨q,am⟩:=aj.out
    exact⟨aM (uH HS),m+q+nq,by rw[am];simp⟩
  ·have HS:=aa (uH O (fun i=>M.out i (by omega)))
   clear N O F G D
   go_wp2
   go_ret
   obtain⟨m,rfl⟩:=U.out
   exact⟨aM (uH HS),m,rfl⟩
theorem zN(m:Option Addr)(f:Nat)(L:List Nat)(i:Int)(k:Nat)(w:World)(h:ag w m f L)(G:L.length≤35184372088830)(z:i=(k:Int)):
  Calls Tryz.prog 137 #[.slice m L.length f,.int .i64 i] w fun e w'=>e=.returned (.int .u64 ((L[k]?.getD 0:Nat):Int))∧w=w':=by
 subst z
 by_cases d:k<L.length
 ·rcases h.2.2 with D|⟨b,F,rfl,H,t⟩
  ·subst D;simp at d
  ·have A:=t k d
   have l:L[k]?.getD 0<4294967296:=by rw[List.getElem?_eq_getElem d];exact h.2.1 _ (List.getElem_mem d)
   clear h t
   generalize L[k]?.getD 0=x at*
   generalize L.length=n at*
   go_enter Tryz.func137,Tryz.ntmps137
   go_wp2
   go_ret
   exact⟨rfl,rfl⟩
 ·have l:L[k]?.getD 0=0:=by rw[List.getElem?_eq_none (by omega)];rfl
  rw[l]
  clear h l
  generalize L.length=n at*
  go_enter Tryz.func137,Tryz.ntmps137
  go_wp2
  go_ret
  exact⟨rfl,rfl⟩
end Go.Proofs.YtnnfjeieennffaaGreatDoor
