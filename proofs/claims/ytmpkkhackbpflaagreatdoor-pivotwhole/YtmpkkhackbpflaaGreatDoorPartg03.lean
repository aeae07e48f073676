/- Part 3 of the texts. -/
import Derived.Test.YtmpkkhackbpflaaGreatDoorPartg02
set_option maxHeartbeats 400000
set_option maxRecDepth 20000
namespace Go.Proofs.YtmpkkhackbpflaaGreatDoor
open Go.RowKit
attribute [local go_sem ↓] Go.wp_at_zero Go.wp_at_succ
def wO(na:Bool)(A:List Nat)(nb:Bool)(B:List Nat):Int:=if aE na A&&aE nb B then 0 else 1
theorem kJ(d z:Bool)(I F:Option Addr)(J G:Nat)(A B:List Nat)(w:World)(Q:af w I J A)(T:af w F G B)(U:A.length≤35184372088830)(V:B.length≤35184372088830):
  Calls Tryz.prog 261 #[.agg #[.bool d,.slice I A.length J],.agg #[.bool z,.slice F B.length G]] w fun e X=>e=.returned (.int .i64 (wO d A z B))∧Below w.heap.size w X:=by
 have O:(aE d A=false→wO d A z B=1)∧(aE d A=true→wO d A z B=fu z B):=by
  constructor<;>intro h<;>simp[wO,fu,h]
 have H:=ac O
 clear O
 generalize wO d A z B=r at*
 go_enter Tryz.func261,Tryz.ntmps261
 go_wp2_with fail
 refine(e9 d I J A _ (Q.below (((Below.refl _ _).alloc (Nat.le_refl _) _).alloc (by simp) _)) U).mono ?_
 rintro e M ⟨rfl,t⟩
 have l:Below w.heap.size w M:=(((Below.refl _ _).alloc (Nat.le_refl _) _).alloc (by simp) _).trans (t.mono (by simp;omega))
 have Y:M.cell? ⟨w.heap.size+1,0,none⟩=some (.bool z):=by rw[t.cell (p:=⟨w.heap.size+1,0,none⟩) (by simp)];simp[go_sem]
 have Z:M.cell? ⟨w.heap.size+1,1,none⟩=some (.slice F B.length G):=by rw[t.cell (p:=⟨w.heap.size+1,1,none⟩) (by simp)];simp[go_sem]
 clear t
 cases hr:aE d A
 ·have L:=ac ((uH H).1 hr)
  have D:fu d A=1:=by simp[fu,hr]
  rw[D]
  clear D hr H
  go_wp2
  go_ret
  exact⟨bj (uH L).symm,l⟩
 ·have L:=ac ((uH H).2 hr)
  have D:fu d A=0:=by simp[fu,hr]
  rw[D]
  clear D hr H
  go_wp2_with fail
  refine(e9 z F G B _ (T.below l) V).mono ?_
  rintro e w2 ⟨rfl,N⟩
  go_wp2
  go_ret
  exact⟨bj (uH L).symm,l.trans (N.mono l.size)⟩
end Go.Proofs.YtmpkkhackbpflaaGreatDoor
namespace Go.Proofs.YtmpkkhackbpflaaGreatDoor
open Go.RowKit
theorem Tryz.info147:(Tryz.prog.info? 147).map (fun i=>(i.zero,i.size,i.bytes))=some (some (.int .u32 0),1,4):=by kernel_rfl
theorem dg{k:IntKind}{a b:Int}(h:a=b):Value.int k a=.int k b:=by rw[h]
theorem iO(l:Option Addr)(d:Nat)(L:List Nat)(i:Int)(k x:Nat)(w:World)(h:af w l d L)(t:L.length≤35184372088830)(z:i=(k:Int))(D:Hid (L[k]?.getD 0=x)):
  Calls Tryz.prog 259 #[.slice l L.length d,.int .i64 i] w fun e F=>e=.returned (.int .u64 (x:Int))∧w=F:=by
 have:=wN l d L i k w h t z
 rwa[D.out]at this
theorem sB(X Y:Option Addr)(Z cb:Nat)(A B:List Nat)(w:World)(hA:af w X Z A)(hB:af w Y cb B)(la:A.length≤35184372088830)(lb:B.length≤35184372088830):
  Calls Tryz.prog 268 #[.slice X A.length Z,.slice Y B.length cb] w fun e w'=>∃M F O,e=.returned (.slice M O.length F)∧af w' M F O∧bB w.heap.size M O∧O.length=max A.length B.length+1∧val O=val A+val B∧Below w.heap.size w w':=by
 obtain⟨i0,hi,aq,ax,ay⟩:=info_parts Tryz.info147
 obtain⟨n,hn⟩:∃n,n=max A.length B.length+1:=⟨_,rfl⟩
 have n1:A.length+1≤n:=by omega
 have n2:B.length+1≤n:=by omega
 have n3:n≤35184372088831:=by omega
 have HN:=ac hn
 clear hn
 go_enter Tryz.func268,Tryz.ntmps268
 go_wp2_with(at_make;have hn:=uH HN;refine wpList_make_full _ rfl _ _ 53 rfl w.heap.size 147 i0 (.int .u32 0) 1 Tryz.underlying53 hi aq ax .i64 .i64 _ _ n rfl rfl (by omega) (by omega) (by rw[ay];omega) (by unfold maxLen;omega) (Nat.le_refl _) ?_;clear hn;intro w1 L l)
 all_goals
  have G:=cH.made L
  have aa:Below w.heap.size w w1:=(Below.refl _ _).grown l (Nat.le_refl _) (fun k h=>by simp at h)
  have az:w.heap.size<w1.heap.size:=G.lt
  clear L l
  go_wp2
  go_loopw[6,17] (fun c i wr=>∃(k:Nat) (S:List Nat) (y:Nat),k≤n∧i=.int .i64 k∧c=.int .u64 y∧y≤1∧cH wr w.heap.size S∧S.length=n∧bM S∧Below w.heap.size w wr∧Hid (val (S.take k)+4294967296^k*y=val (A.take k)+val (B.take k)))
   (fun _ i _=>n-(intOf i).toNat)
  case atStart=>exact⟨0,List.replicate n 0,0,Nat.zero_le _,rfl,rfl,by omega,G,by simp,bM.zeros _,aa,by unfold Hid;simp[val]⟩
  case round=>
   obtain⟨k,S,y,hk,rfl,rfl,hy,N,t,hf,d,V⟩:=hrel
   by_cases aD:k<n
   ·obtain⟨I,z⟩:∃x,A[k]?.getD 0=x:=⟨_,rfl⟩
    obtain⟨J,D⟩:∃x,B[k]?.getD 0=x:=⟨_,rfl⟩
    have ba:I<4294967296:=by rw[←z];exact hA.lt k
    have bb:J<4294967296:=by rw[←D];exact hB.lt k
    have cA:=hA.below d
    have cB:=hB.below d
    have Q:=Cp A B S k y I J (by omega) z D V.out
    have ad:=ac Q
    have ae:=ac z
    have ai:=ac D
    have am:=N.cell k (by omega)
    have ap:=N.free k
    have HR:=ac N
    clear Q z D V N
    generalize hS:S[k]?.getD 0=sk at*
    clear hS
    go_wp2_with(first|(go_at_call_of 259 (Value.slice X A.length Z);refine(iO X Z A _ k I _ cA la rfl ae).mono ?_;rintro e w' ⟨rfl,rfl⟩)|(go_at_call_of 259 (Value.slice Y B.length cb);refine(iO Y cb B _ k J _ cB lb rfl ai).mono ?_;rintro e w' ⟨rfl,rfl⟩))
    have ec:(((y+(I+J))%4294967296:Nat):Int)=((y:Int)+((I:Int)+(J:Int)))%4294967296:=by omega
    have T:=(uH HR).set k ((y+(I+J))%4294967296)
    rw[ec]at T
    go_roundw
    case rel=>exact⟨k+1,S.set k ((y+(I+J))%4294967296),(y+(I+J))/4294967296,by omega,by go_num,dg (by omega),by omega,T,by simpa using t,hf.set _ _ (by omega),d.setCell (by simp) _,ad⟩
    case measure=>simp[intOf];omega
   ·have H:=yV A B S n y hA.2.1 hB.2.1 n1 n2 t (by rw[show n=k by omega];exact V.out)
    have U:=ac H
    have HR:=ac N
    have HV:=ac V
    clear H N V
    go_wp2
    go_ret
    have hN:=uH HN
    refine⟨some ⟨w.heap.size,0,none⟩,n,S,by rw[t];rfl,(uH HR).limbs hf n (by omega),.inr ⟨_,_,rfl,Nat.le_refl _⟩,by rw[t];exact hN,uH U,d⟩
end Go.Proofs.YtmpkkhackbpflaaGreatDoor
namespace Go.Proofs.YtmpkkhackbpflaaGreatDoor
theorem Cq(A B S:List Nat)(k c x y t d:Nat)(l:k<S.length)(z:A[k]?.getD 0=x)(D:B[k]?.getD 0=y)(F:t+y+c=x+4294967296*d)(h:val (S.take k)+val (B.take k)=val (A.take k)+4294967296^k*c):
  val ((S.set k t).take (k+1))+val (B.take (k+1))=val (A.take (k+1))+4294967296^(k+1)*d:=by
 rw[jf S k _ l,aR A k,aR B k,z,D,Nat.pow_succ]
 have e:4294967296^k*(t+y+c)=4294967296^k*(x+4294967296*d):=by rw[F]
 rw[Nat.mul_add,Nat.mul_add,Nat.mul_add,←Nat.mul_assoc]at e
 omega
theorem yW(A B S:List Nat)(n c:Nat)(l:bM S)(t:S.length=n)(F:A.length=n)(G:val B≤val A)(z:val (B.take n)=val B)(h:val (S.take n)+val (B.take n)=val (A.take n)+4294967296^n*c):
  val S=val A-val B:=by
 rw[eu S n (by omega),eu A n (by omega),z]at h
 have D:=eW S l
 rw[t]at D
 rcases Nat.eq_zero_or_pos c with d|d
 ·subst d;omega
 ·have H:=Nat.mul_le_mul_left (4294967296^n) d
  omega
theorem yX(A B:List Nat)(d:bM A)(l:val B≤val A):val (B.take A.length)=val B:=by
 have h:=iM B A.length
 have t:=eW A d
 rcases Nat.eq_zero_or_pos (val (B.drop A.length))with e|e
 ·rw[e]at h;omega
 ·have z:=Nat.mul_le_mul_left (4294967296^A.length) e
  omega
open Go.RowKit
theorem Am(x y c:Nat)(d:x<4294967296)(l:y<4294967296)(t:c≤1)(h:x<y):
  IntKind.u64.wrap (IntKind.u64.wrap ((x:Int)-(y:Int))-(c:Int))=18446744073709551616+(x:Int)-(y:Int)-(c:Int):=by
 simp only[IntKind.wrap,IntKind.signed,IntKind.bits]
 simp
 omega
theorem lK(ao bo:Option Addr)(ca cb:Nat)(A B:List Nat)(w:World)(hA:af w ao ca A)(hB:af w bo cb B)(la:A.length≤35184372088830)(lb:B.length≤35184372088830)(M:val B≤val A):
  Calls Tryz.prog 270 #[.slice ao A.length ca,.slice bo B.length cb] w fun e w'=>∃U N L',e=.returned (.slice U L'.length N)∧af w' U N L'∧bB w.heap.size U L'∧L'.length=A.length∧val L'=val A-val B∧Below w.heap.size w w':=by
 obtain⟨i0,hi,aI,a0,a1⟩:=info_parts Tryz.info147
 have hE:∀(S:List Nat) (k c:Nat),bM S→S.length=A.length→¬k<A.length→k≤A.length→val (S.take k)+val (B.take k)=val (A.take k)+4294967296^k*c→val S=val A-val B:=by
  intro S k c f hl Z h2 h
  rw[show k=A.length by omega]at h
  exact yW A B S A.length c f hl rfl M (yX A B hA.2.1 M) h
 have HE:=ac hE
 have F:=fun(S:List Nat) (k c t H:Nat) (hk:k<S.length)=>Cq A B S k c (A[k]?.getD 0) (B[k]?.getD 0) t H hk rfl rfl
 have aa:=ac F
 clear hE F M
 have ad:0<A.length→∃b V,ao=some ⟨b,V,none⟩:=fun h=>by obtain⟨b,V,Z,_⟩:=hA.ne h;exact⟨b,V,Z⟩
 have a5:=ac ad
 clear ad
 go_enter Tryz.func270,Tryz.ntmps270
 go_wp2_with(at_make;refine wpList_make_full _ rfl _ _ 53 rfl w.heap.size 147 i0 (.int .u32 0) 1 Tryz.underlying53 hi aI a0 .i64 .i64 _ _ A.length rfl rfl rfl rfl (by rw[a1];omega) (by unfold maxLen;omega) (Nat.le_refl _) ?_;intro w1 T G)
 have O:=cH.made T
 have ax:Below w.heap.size w w1:=(Below.refl _ _).grown G (Nat.le_refl _) (fun k h=>by simp at h)
 have a6:w.heap.size<w1.heap.size:=O.lt
 clear T G
 go_wp2
 go_loopw[6,14] (fun c i wr=>∃(k:Nat) (S:List Nat) (y:Nat),k≤A.length∧i=.int .i64 k∧c=.int .u64 y∧y≤1∧cH wr w.heap.size S∧S.length=A.length∧bM S∧Below w.heap.size w wr∧Hid (val (S.take k)+val (B.take k)=val (A.take k)+4294967296^k*y))
  (fun _ i _=>A.length-(intOf i).toNat)
 case atStart=>exact⟨0,List.replicate A.length 0,0,Nat.zero_le _,rfl,rfl,by omega,O,by simp,bM.zeros _,ax,by unfold Hid;simp[val]⟩
 case round=>
  obtain⟨k,S,y,hk,rfl,rfl,hy,hr,I,hf,l,M⟩:=hrel
  by_cases ae:k<A.length
  ·obtain⟨D,J⟩:∃x,A[k]?.getD 0=x:=⟨_,rfl⟩
   obtain⟨z,L⟩:∃x,B[k]?.getD 0=x:=⟨_,rfl⟩
   have ba:D<4294967296:=by rw[←J];exact hA.lt k
   have bb:z<4294967296:=by rw[←L];exact hB.lt k
   have cA:=hA.below l
   have cB:=hB.below l
   have F:=fun(t H:Nat) (ht:t+z+y=D+4294967296*H)=>uH aa S k y t H (by omega) (by rw[J,L];exact ht) M.out
   have ai:=ac F
   have X:=ac L
   have ay:=hr.cell k (by omega)
   have az:=hr.free k
   have HR:=ac hr
   obtain⟨b1,o1,a2,a4,aq⟩:=cA.ne (by omega)
   have aD:=aq k ae
   rw[J]at aD
   clear F J L M hr aq aa HE
   generalize hS:S[k]?.getD 0=sk at*
   clear hS
   subst a2
   have a3:(k:Int)<(A.length:Int):=by omega
   have am:∀(nq t H:Nat) (d:Int),d=(t:Int)→t<4294967296→H≤1→t+z+y=D+4294967296*H→
     cH ((wr.drewN nq).setCell ⟨w.heap.size,k,none⟩ (.int .u32 d)) w.heap.size (S.set k t)∧(S.set k t).length=A.length∧bM (S.set k t)∧Below w.heap.size w ((wr.drewN nq).setCell ⟨w.heap.size,k,none⟩ (.int .u32 d))∧
     Hid (val ((S.set k t).take (k+1))+val (B.take (k+1))=val (A.take (k+1))+4294967296^(k+1)*H):=by
    rintro nq t H d rfl ht hc he
    exact⟨((uH HR).drewN nq).set k t,by simpa using I,hf.set _ _ ht,(below_drewN l nq).setCell (by simp) _,uH ai t H he⟩
   have Y:=ac am
   clear am ai HR
   rcases(show z+y≤D∨D<z∨(D=z∧y=1) by omega)with Z|Z|⟨Z,h2⟩
   ·go_wp2
    go_quiet ((go_at_call 259;exact jL (iO bo cb B _ k z _ (cB.below (below_drewN (Below.refl _ _) _)) lb rfl X)))
    go_wp2
    have R:=uH Y nq (D-z-y) 0 ((D:Int)-z-y) (by omega) (by omega) (by omega) (by omega)
    go_roundw
    case rel=>exact⟨k+1,_,0,by omega,by go_num,dg (by omega),by omega,R⟩
    case measure=>simp[intOf];omega
   ·go_wp2
    go_quiet ((go_at_call 259;exact jL (iO bo cb B _ k z _ (cB.below (below_drewN (Below.refl _ _) _)) lb rfl X)))
    go_wp2
    have e:=Am D z y ba bb hy Z
    have R:=uH Y nq (4294967296+D-z-y) 1 (IntKind.u64.wrap (IntKind.u64.wrap ((D:Int)-z)-y)%4294967296) (by rw[e];omega) (by omega) (by omega) (by omega)
    go_roundw
    case rel=>exact⟨k+1,_,1,by omega,by go_num,dg (by rw[e];omega),by omega,R⟩
    case measure=>simp[intOf];omega
   ·subst Z;subst h2
    go_wp2
    go_quiet ((go_at_call 259;exact jL (iO bo cb B _ k D _ (cB.below (below_drewN (Below.refl _ _) _)) lb rfl X)))
    go_wp2
    have e:IntKind.u64.wrap (-1)=18446744073709551615:=by decide
    have R:=uH Y nq 4294967295 1 (IntKind.u64.wrap (-1)%4294967296) (by rw[e];rfl) (by omega) (by omega) (by omega)
    go_roundw
    case rel=>exact⟨k+1,_,1,by omega,by go_num,dg (by rw[e];rfl),by omega,R⟩
    case measure=>simp[intOf];omega
  ·have Q:=uH HE S k y hf I ae hk M.out
   have ap:=ac Q
   have HR:=ac hr
   clear Q hr M
   go_wp2
   go_ret
   exact⟨some ⟨w.heap.size,0,none⟩,A.length,S,by rw[I];rfl,(uH HR).limbs hf _ (by omega),.inr ⟨_,_,rfl,Nat.le_refl _⟩,I,uH ap,l⟩
def oV(A B:List Nat):Int:=if A.length=B.length then cU (val A) (val B)else cU A.length B.length
theorem jg{a b:Int}(h:a<b):cU a b= -1:=by simp[cU,h]
theorem lL{a b:Int}(h:b<a):cU a b=1:=by simp only[cU];rw[if_neg (by omega),if_pos h]
theorem Cr(A B:List Nat)(z:bM A)(D:bM B)(t:Nat)(d:∀i,t<i→A[i]?.getD 0=B[i]?.getD 0)(l:A[t]?.getD 0≠B[t]?.getD 0):
  cU ((A[t]?.getD 0:Nat):Int) ((B[t]?.getD 0:Nat):Int)=cU (val A) (val B):=by
 rcases Nat.lt_or_gt_of_ne l with h|h
 ·have:=j7 A B z t d h
  rw[jg (by omega),jg (by omega)]
 ·have:=j7 B A D t (fun i F=>(d i F).symm) h
  rw[lL (by omega),lL (by omega)]
theorem mZ(ao bo:Option Addr)(ca cb:Nat)(A B:List Nat)(w:World)(U:af w ao ca A)(V:af w bo cb B)(la:A.length≤35184372088832)(lb:B.length≤35184372088832):
  Calls Tryz.prog 269 #[.slice ao A.length ca,.slice bo B.length cb] w fun e w'=>e=.returned (.int .i64 (oV A B))∧∃m,w.drewN m=w':=by
 by_cases D:A.length≠B.length
 ·have ae:((A.length:Int) != (B.length:Int))=true:=by rw[bne_iff_ne];omega
  have HE:=ac (show oV A B=cU A.length B.length by simp[oV,D])
  go_enter Tryz.func269,Tryz.ntmps269
  go_wp2_with(go_at_call 271;refine(Cm _ _ _).mono ?_;rintro e w' ⟨rfl,rfl⟩)
  go_ret
  exact⟨bj (uH HE).symm,0,rfl⟩
 have D:A.length=B.length:=by omega
 by_cases h0:A.length=0
 ·have eA:A= []:=List.length_eq_zero_iff.1 h0
  have eB:B= []:=List.length_eq_zero_iff.1 (by omega)
  subst eA;subst eB
  go_enter Tryz.func269,Tryz.ntmps269
  go_wp2
  refine wp_loop_rounds 1 ?_
  rw[rounds_succ]
  go_wp2
  go_ret
  exact⟨bj (by simp[oV,cU]),0,rfl⟩
 obtain⟨b1,o1,rfl,ax,G⟩:=U.ne (by omega)
 obtain⟨b2,o2,rfl,ay,H⟩:=V.ne (by omega)
 have z:∀t:Nat,(∀i:Nat,t<i→A[i]?.getD 0=B[i]?.getD 0)→A[t]?.getD 0≠B[t]?.getD 0→cU ((A[t]?.getD 0:Nat):Int) ((B[t]?.getD 0:Nat):Int)=oV A B:=by
  intro t h1 h2
  rw[Cr A B U.2.1 V.2.1 t h1 h2];simp[oV,D]
 have J:(∀i:Nat,A[i]?.getD 0=B[i]?.getD 0)→(0:Int)=oV A B:=by
  intro h
  have:=j6 A B h
  simp[oV,D,this,cU]
 have N:=ac z
 have O:=ac J
 have d:∀i:Nat,A.length≤i→A[i]?.getD 0=B[i]?.getD 0:=fun i hi=>by
  rw[List.getElem?_eq_none (by omega),List.getElem?_eq_none (by omega)]
 have HA:=ac d
 clear z J d U V
 rw[←D]
 generalize hb:oV A B=s at*
 clear hb
 generalize hm:A.length=n at*
 have X:B.length=n:=D.symm
 clear D
 go_enter Tryz.func269,Tryz.ntmps269
 go_wp2
 go_loopw[19] (fun i wr=>∃k:Nat,k≤n∧i=.int .i64 k∧Hid (∀j,n-k≤j→A[j]?.getD 0=B[j]?.getD 0)∧Hid (∃m,wr=w.drewN m))
  (fun i _=>n-(intOf i).toNat)
 case atStart=>exact⟨0,Nat.zero_le _,rfl,fun j hj=>uH HA j (by omega),0,rfl⟩
 case round=>
  obtain⟨k,hk,rfl,M,T⟩:=hrel
  have F:∀a,wr.cell? a=w.cell? a:=by obtain⟨m,rfl⟩:=T.out;intro a;rfl
  clear HA
  by_cases ai:k<n
  ·have Q:=G (n-1-k) (by omega)
   have Y:=H (n-1-k) (by omega)
   rw[←F]at Q Y
   clear G H hm X F
   have am:(0:Int)≤(n:Int)-1-(k:Int):=by omega
   have ap:(n:Int)-1-(k:Int)<(n:Int):=by omega
   by_cases L:A[n-1-k]?.getD 0=B[n-1-k]?.getD 0
   ·have Z:Hid (∀j,n-(k+1)≤j→A[j]?.getD 0=B[j]?.getD 0):=fun j hj=>by
     by_cases h:n-k≤j
     ·exact M.out j h
     ·rw[show j=n-1-k by omega];exact L
    rw[L]at Q
    clear L M N O
    generalize B[n-1-k]?.getD 0=x at*
    go_wp2
    go_quiet (fail)
    go_wp2
    go_roundw
    case rel=>exact⟨k+1,by omega,by go_num,Z,by obtain⟨m,rfl⟩:=T.out;exact⟨m+nq,by simp⟩⟩
    case measure=>simp[intOf];omega
   ·have HS:=ac (uH N (n-1-k) (fun i hi=>M.out i (by omega)) L)
    have aq:(((A[n-1-k]?.getD 0:Nat):Int) != ((B[n-1-k]?.getD 0:Nat):Int))=true:=by rw[bne_iff_ne];omega
    clear N O M L
    generalize B[n-1-k]?.getD 0=x at*
    generalize A[n-1-k]?.getD 0=y at*
    go_wp2
    go_quiet (fail)
    obtain⟨I,l⟩:∃I,I=wr.drewN nq:=⟨_,rfl⟩
    have c3:I.cell? ⟨b1,o1+(n-1-k),none⟩=some (.int .u32 (y:Int)):=by rw[l];exact Q
    have c4:I.cell? ⟨b2,o2+(n-1-k),none⟩=some (.int .u32 (x:Int)):=by rw[l];exact Y
    rw[←l]
    have aa:Hid (∃q,I=wr.drewN q):=⟨nq,l⟩
    clear l Q Y
    go_wp2
    go_quiet ((go_at_call 272;exact jL (Cn _ _ _)))
    go_wp2
    go_ret
    obtain⟨m,rfl⟩:=T.out
    obtain⟨q,ad⟩:=aa.out
    exact⟨bj (uH HS),m+q+nq,by rw[ad];simp⟩
  ·have HS:=ac (uH O (fun i=>M.out i (by omega)))
   clear N O G H F
   go_wp2
   go_ret
   obtain⟨m,rfl⟩:=T.out
   exact⟨bj (uH HS),m,rfl⟩
end Go.Proofs.YtmpkkhackbpflaaGreatDoor
