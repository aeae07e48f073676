/- Part 13 of the texts. -/
import Derived.Test.YtmpkkhackbpflaaGreatDoorPartg12
import Derived.Deep.RegionLaw
set_option maxHeartbeats 4000000
set_option maxRecDepth 4000
namespace Go.Proofs.YtmpkkhackbpflaaGreatDoor
open Go.RowKit
theorem oe:∀(f x:Nat),x<2^f→Lib.bitLenAux (f+1) x=Lib.bitLenAux f x
 |0,x,h=>by simp at h;subst h;rfl
 |f+1,x,h=>by
  have d:=oe f (x/2) (by rw[Nat.pow_succ]at h;omega)
  have l:Lib.bitLenAux (f+1+1) x=if x=0 then 0 else 1+Lib.bitLenAux (f+1) (x/2):=rfl
  have t:Lib.bitLenAux (f+1) x=if x=0 then 0 else 1+Lib.bitLenAux f (x/2):=rfl
  rw[l,t,d]
theorem og(t:Nat)(l:0<t)(h:t<4294967296):Lib.bitLen t=1+Lib.bitLen (t/2):=by
 have d:Lib.bitLen t=1+Lib.bitLenAux 63 (t/2):=by
  unfold Lib.bitLen
  rw[Lib.bitLenAux,if_neg (by omega)]
 rw[d]
 unfold Lib.bitLen
 rw[←oe 63 (t/2) (by omega)]
theorem uz:Lib.bitLen 0=0:=rfl
theorem nD(t:Nat):Lib.bitLen t≤64:=by
 have:∀f x,Lib.bitLenAux f x≤f:=by
  intro f
  induction f with
  |zero=>intro x;simp[Lib.bitLenAux]
  |succ f ih=>intro x;rw[Lib.bitLenAux];split;omega;have:=ih (x/2);omega
 exact this 64 t
def iq(L:List Nat):Int:=if L.length=0 then 0 else 32*((L.length:Int)-1)+(Lib.bitLen (L[L.length-1]?.getD 0):Int)
theorem sJ(neg:Bool)(t:Option Addr)(d:Nat)(L:List Nat)(w:World)(h:af w t d L)(N:L.length≤35184372088830):
  Calls Tryz.prog 233 #[.agg #[.bool neg,.slice t L.length d]] w fun e z=>e=.returned (.int .i64 (iq L))∧Below w.heap.size w z:=by
 by_cases l:L= []
 ·subst l
  go_enter Tryz.func233,Tryz.ntmps233
  go_wp2
  go_ret
  exact⟨bj (by simp[iq]),(Below.refl _ _).alloc (Nat.le_refl _) _⟩
 obtain⟨b,J,rfl,T,D⟩:=h.ne (List.length_pos_iff.2 l)
 have O:0<L.length:=List.length_pos_iff.2 l
 have F:=D (L.length-1) (by omega)
 have Q:=h.lt (L.length-1)
 have G:Hid (iq L=32*((L.length:Int)-1)+(Lib.bitLen (L[L.length-1]?.getD 0):Int)):=by unfold Hid iq;rw[if_neg (by omega)]
 generalize iq L=r at*
 generalize M:L.length=n at*
 generalize L[n-1]?.getD 0=x at*
 clear M h D l
 have H:=nD x
 have I:((n:Int)==0)=false:=by simp;omega
 go_enter Tryz.func233,Tryz.ntmps233
 go_wp2_with(go_at_call 246;refine(Az _ _ (by omega) (by omega)).mono ?_;rw[Int.toNat_natCast];rintro e z ⟨rfl,rfl⟩)
 go_ret
 exact⟨bj (by rw[G.out];omega),(Below.refl _ _).alloc (Nat.le_refl _) _⟩
theorem wZ(neg:Bool)(I:Option Addr)(l:Nat)(L:List Nat)(w:World)(h:af w I l L)(hl:L.length≤35184372088830):
  Calls Tryz.prog 120 #[.agg #[.bool neg,.slice I L.length l]] w fun e M=>e=.returned (.int .i64 (iq L))∧Below w.heap.size w M:=by
 by_cases z:L= []
 ·subst z
  go_enter Tryz.func120,Tryz.ntmps120
  go_wp2
  go_ret
  exact⟨bj (by simp[iq]),(Below.refl _ _).alloc (Nat.le_refl _) _⟩
 obtain⟨b,X,rfl,hb,J⟩:=h.ne (List.length_pos_iff.2 z)
 have hp:0<L.length:=List.length_pos_iff.2 z
 have N:=J (L.length-1) (by omega)
 have O:=h.lt (L.length-1)
 have Q:Hid (iq L=32*((L.length:Int)-1)+(Lib.bitLen (L[L.length-1]?.getD 0):Int)):=by unfold Hid iq;rw[if_neg (by omega)]
 generalize iq L=r at*
 generalize Z:L.length=n at*
 generalize L[n-1]?.getD 0=x at*
 clear Z h J z
 have T:=nD x
 have U:((n:Int)==0)=false:=by simp;omega
 go_enter Tryz.func120,Tryz.ntmps120
 go_wp2
 go_loop [3,4] (fun m t=>∃(k y:Nat),m=.int .i64 (32*((n:Int)-1)+(k:Int))∧t=.int .u32 (y:Int)∧y<4294967296∧k≤64∧Hid (k+Lib.bitLen y=Lib.bitLen x)) (fun _ t=>(intOf t).toNat)
 case atStart=>exact⟨0,x,dg (by omega),rfl,O,by omega,by unfold Hid;omega⟩
 case round=>
  obtain⟨k,y,rfl,rfl,Y,hk,D⟩:=hrel
  by_cases F:y=0
  ·subst F
   have d:=D.out
   rw[uz]at d
   have G:=ac d
   clear d D
   go_wp2
   go_ret
   exact⟨bj (by rw[Q.out];have:=uH G;omega),(Below.refl _ _).alloc (Nat.le_refl _) _⟩
  ·have V:=og y (by omega) Y
   have d:=D.out
   have G:=ac (show k+1+Lib.bitLen (y/2)=Lib.bitLen x by omega)
   have H:k+1≤64:=by omega
   clear V d D
   go_wp2
   go_round
   case rel=>exact⟨k+1,y/2,dg (by omega),dg (by omega),by omega,H,uH G⟩
   case measure=>simp[intOf];omega
theorem iT{k k':IntKind}{a b c d:Int}(h:a=b)(l:c=d):Ending.returned (.tuple #[.int k a,.int k' c])=.returned (.tuple #[.int k b,.int k' d]):=by rw[h,l]
attribute [local go_sem ↓] Go.wp_at_zero Go.wp_at_succ
theorem Gr(W:World)(d g:Nat)(h:W.heap.size=g)(l:d≤g):((W.alloc (.cells #[.int .u32 0] 147)).drew).ownsRow d 147 1 (.slice (some ⟨g,0,none⟩) 1 1) 1 [.int .u32 0]:=by
 subst h
 exact⟨by simp,.inr ⟨W.heap.size,1,#[.int .u32 0],rfl,l,heap_alloc_new W _,Nat.le_refl _,by simp[maxLen],by simp,by simp⟩⟩
theorem Dg(neg:Bool)(g n c d:Nat)(S:List Nat)(w:World)(h:w.ownsRow d 147 1 (.slice (some ⟨g,0,none⟩) n c) n (S.map d6))(t:bM S)(G:n≤35184372088832):
  Calls Tryz.prog 141 #[.bool neg,.slice (some ⟨g,0,none⟩) n c] w fun e l=>∃v,e=.returned v∧aP n d l v (aj neg S)∧Below w.heap.size w l:=by
 obtain⟨z,D,F,H⟩:=JI h t
 have:=dI d neg (some ⟨g,0,none⟩) c S w z (.inr ⟨g,0,rfl,F⟩) (by omega)
 rw[D]at this
 exact this
theorem rG{L:List Nat}(h:val L≠0):L≠ []:=by
 rintro rfl
 simp[val]at h
theorem qL(na:Bool)(ao:Option Addr)(ca:Nat)(A:List Nat)(n:Int)(w:World)(hA:af w ao ca A)(h0:A≠ [])(hc:bZ A)(la:A.length≤3000)(hn:-16384≤n∧n≤16384):
  Calls Tryz.prog 111 #[.agg #[.bool na,.slice ao A.length ca],.int .i64 n] w fun e w'=>∃v,e=.returned v∧ar 0 w' v (qJ na A n)∧Below w.heap.size w w':=by
 obtain⟨i0,hi,a4,a5,a6⟩:=info_parts Tryz.info147
 have HZ:=ac (oF na A n).symm
 generalize qJ na A n=z at*
 have ax:=ac h0;have HC:=ac hc
 clear h0 hc
 go_enter Tryz.func111,Tryz.ntmps111
 go_wp2
 go_loopw[1] (fun i wr=>∃(m:Int) (I:Bool) (a:Option Addr) (c:Nat) (L:List Nat),i=.int .i64 m∧-16384≤m∧m≤16384∧L≠ []∧Hid (As w wr z m I a c L)) (fun i _=>(intOf i).toNat)
 case atStart=>
  refine⟨n,na,ao,ca,A,rfl,hn.1,hn.2,uH ax,(aC.new _ _ _).old _,?_,hA.below (((Below.refl _ _).alloc (Nat.le_refl _) _).alloc (by simp) _),uH HC,fun _=>uH ax,by omega,uH HZ,((Below.refl _ _).alloc (Nat.le_refl _) _).alloc (by simp) _⟩
  have:=aC.new (w.alloc (.cells #[.bool na,.slice ao A.length ca] 55)) (.bool false) (.slice none 0 0)
  simpa using this
 case round=>
  obtain⟨m,I,a,c,L,rfl,aa,ad,X,O⟩:=hrel
  clear HZ HC ax hA la hn
  obtain⟨H,J,Q,hC,hS,l,Z,d⟩:=uH O
  have hp:0<L.length:=List.length_pos_iff.2 X
  have ae:(0:Int)<(L.length:Int):=by omega
  have p0:=H.c0;have p1:=H.c1
  have HV:Hid (val L≠0):=fun e=>X ((aS L hC).1 e)
  by_cases hg:32≤m
  ·obtain⟨b,T,rfl,hb,ap⟩:=Q.ne hp
   have F:=Z
   rw[←CH _ _ hg]at F
   have V:=ac F
   have bd:=H.lt
   have a9:=J.lt
   have hN:∀j u,(L.map d6)[j]? =some u→((wr.alloc (.cells #[.int .u32 0] 147)).drew).cell? ((⟨b,T,none⟩:Addr).add j)=some u:=by
    intro j u hu
    rw[List.getElem?_map]at hu
    have hj:j<L.length:=by
     rcases Nat.lt_or_ge j L.length with e|e
     ·exact e
     ·rw[List.getElem?_eq_none e]at hu;simp at hu
    have e3:(⟨b,T,none⟩:Addr).add j=⟨b,T+j,none⟩:=by simp[Addr.add]
    rw[e3,((((Below.refl wr.heap.size wr).alloc (Nat.le_refl _) _).drew).cell (p:=⟨b,T+j,none⟩) hb),ap j hj]
    rw[List.getElem?_eq_getElem hj]at hu⊢
    simpa[d6]using hu
   have aq:∀u∈L.map d6,u.oneCell'=true:=by
    intro u hu
    obtain⟨y,_,rfl⟩:=List.mem_map.1 hu
    rfl
   have HF:Hid (bM (0::L)):=by
    intro y hy
    rcases List.mem_cons.1 hy with rfl|hy
    ·decide
    ·exact Q.2.1 y hy
   have HN:=ac hN;have ay:=ac aq;have G:=ac d;have X0:=ac H;have X1:=ac J;have t:=ac l
   clear Z F hN aq H J Q hC hS d O ap
   have ll:L.length≤20000:=by have:=uH t;omega
   clear l
   go_wp2
   go_region_law (first|(refine step_append_lies _ (by rfl) _ _ _ (by rfl) wr.heap.size 147 i0 (.int .u32 0) 1 4 Tryz.underlying53 hi a4 a5 a6 rfl (by omega) (.slice (some ⟨wr.heap.size,0,none⟩) 1 1) 1 [.int .u32 0] (by rfl) (Gr wr wr.heap.size wr.heap.size rfl (Nat.le_refl _)) ⟨b,T,none⟩ L.length c (L.map d6) (by rfl) (by simp) (uH HN) (uH ay) hp (by unfold maxLen;omega) (by omega) (by simp) (wr.heap.size+1) (by simp) ?_;intro g cp w1 am U a7 bn;have y0:aC w1 w.heap.size (.bool I) (.slice (some ⟨b,T,none⟩) L.length c):=(U.block w.heap.size (by simp;omega) (by simp[Value.ownBlock];omega)).trans (((uH X0).old _).drew);have y1:aC w1 (w.heap.size+1) (.bool false) (.slice none 0 0):=(U.block (w.heap.size+1) (by simp;omega) (by simp[Value.ownBlock];omega)).trans (((uH X1).old _).drew);have q0:=y0.c0;have q1:=y0.c1;have Y0:=ac y0;have Y1:=ac y1;have B1:=ac ((((uH G).alloc (by omega) _).drew).grown U (by simp;omega) (fun k hk=>by simp[Value.ownBlock]at hk;omega));have az:=ac am;clear am U a7 y0 y1)|(go_simp;go_at_call 141;refine(Dg I g (1+L.length) cp _ (0::L) _ (uH az) (uH HF) (by omega)).mono ?_;rintro e w2 ⟨v,rfl,⟨n2,a2,c2,L2,rfl,i1⟩,h⟩;have I1:=ac i1;have D:=(uH Y0).below h (uH Y0).lt;have Z1:=(uH Y1).below h (uH Y1).lt;have r0:=D.c0;have r1:=D.c1;have f0:=D.free 0;have f1:=D.free 1;have B2:=ac ((uH B1).trans (h.mono (uH B1).size));have M:=ac D;have N:=ac Z1;clear i1 h D Z1))
   all_goals
    go_wp2
    go_roundw
    case rel=>
     refine⟨m-32,n2,a2,c2,L2,by go_num,by omega,by omega,rG ?_,As.step (v:=4294967296*val L) (uH M) (uH N) (uH I1) (by rw[eU,o8]) (uH V) (by have:=uH t;omega) (uH B2)⟩
     have h5:=(uH I1).2.2.2.2.1
     rw[bh,o8]at h5
     have:=uH HV
     omega
    case measure=>simp[intOf];omega
  ·have HI:=O
   have a0:¬(32:Int)≤m:=by omega
   clear O H J Q hC hS l Z d
   go_wp2
   go_loopw[1] (fun i wr=>∃(m:Int) (I:Bool) (a:Option Addr) (c:Nat) (L:List Nat),i=.int .i64 m∧-16384≤m∧m≤31∧L≠ []∧Hid (As w wr z m I a c L)) (fun i _=>(intOf i).toNat)
   case atStart=>exact⟨m,I,a,c,L,rfl,by omega,by omega,X,HI⟩
   case round=>
    clear HI HV p0 p1 ae hp X a0 hg aa ad
    obtain⟨m,I,a,c,L,rfl,aa,ad,X,O⟩:=hrel
    obtain⟨H,J,Q,hC,hS,l,Z,d⟩:=uH O
    have hp:0<L.length:=List.length_pos_iff.2 X
    have ae:(0:Int)<(L.length:Int):=by omega
    have p0:=H.c0;have p1:=H.c1
    by_cases hg:0<m
    ·have HV:Hid (val L≠0):=fun e=>X ((aS L hC).1 e)
     have F:=Z
     rw[←F3 _ _ (by omega)]at F
     have V:=ac F
     have G:=ac d;have X0:=ac H;have X1:=ac J;have t:=ac l;have Y:=ac Q
     clear Z F H J Q hC hS d O l
     go_wp2_with fail
     refine(wU I a c L wr (uH Y) (by have:=uH t;omega)).mono ?_
     rintro e w2 ⟨v,rfl,⟨n2,a2,c2,L2,rfl,i1⟩,h⟩
     have I1:=ac i1
     have D:=(uH X0).below h (uH X0).lt
     have Z1:=(uH X1).below h (uH X1).lt
     have r0:=D.c0;have r1:=D.c1;have f0:=D.free 0;have f1:=D.free 1
     have B2:=ac ((uH G).trans (h.mono (uH G).size))
     have M:=ac D;have N:=ac Z1
     clear i1 h D Z1
     go_wp2
     go_roundw
     case rel=>
      refine⟨m-1,n2,a2,c2,L2,by go_num,by omega,by omega,rG ?_,As.step (v:=val L+val L) (uH M) (uH N) (uH I1) rfl (uH V) (by have:=uH t;omega) (uH B2)⟩
      have h5:=(uH I1).2.2.2.2.1
      rw[ke]at h5
      have:=uH HV
      omega
     case measure=>simp[intOf];omega
    ·have HI:=O
     clear O H J Q hC hS l Z d
     go_wp2
     go_loopw[1] (fun i wr=>∃(m:Int) (I:Bool) (a:Option Addr) (c:Nat) (L:List Nat),i=.int .i64 m∧-16384≤m∧m≤0∧Hid (As w wr z m I a c L)) (fun i _=>(-(intOf i)).toNat)
     case atStart=>exact⟨m,I,a,c,L,rfl,by omega,by omega,HI⟩
     case round=>
      clear HI p0 p1 ae hp X hg aa ad
      obtain⟨m,I,a,c,L,rfl,aa,ad,O⟩:=hrel
      obtain⟨H,J,Q,hC,hS,l,Z,d⟩:=uH O
      have p0:=H.c0;have p1:=H.c1
      by_cases aD:m≤-32∧0<L.length
      ·obtain⟨hg,hp⟩:=aD
       ·have ae:(0:Int)<(L.length:Int):=by omega
        have ba:=Q.1
        obtain⟨b,T,rfl,hb,ap⟩:=Q.ne hp
        have F:=Z
        rw[←CJ _ _ hg]at F
        have V:=ac F
        have G:=ac d;have X0:=ac H;have X1:=ac J;have t:=ac l;have Y:=ac (Q.below ((Below.refl _ _).drew))
        clear Z F H J Q hC hS d O l ap
        go_wp2
        have be:(1:Int)≤(L.length:Int):=by omega
        have bi:(L.length:Int)≤(c:Int):=by omega
        have bm:(1:Int)≤(c:Int):=by omega
        by_cases a1:c=1
        ·subst a1
         go_region_with (go_at_call 141;refine(o7 I b T L _ (uH Y)).mono ?_;rintro e w2 ⟨v,rfl,⟨n2,a2,c2,L2,rfl,i1⟩,h⟩;have I1:=ac i1;have D:=(uH X0).drew.below h (uH X0).drew.lt;have Z1:=(uH X1).drew.below h (uH X1).drew.lt;have r0:=D.c0;have r1:=D.c1;have f0:=D.free 0;have f1:=D.free 1;have B2:=ac (((uH G).drew).trans (h.mono ((uH G).drew).size));have M:=ac D;have N:=ac Z1;clear i1 h D Z1)
         all_goals
          go_wp2
          go_roundw
          case rel=>exact⟨m+32,n2,a2,c2,L2,by go_num,by omega,by omega,As.step (v:=val L/4294967296) (uH M) (uH N) (uH I1) rfl (uH V) (by have:=uH t;omega) (uH B2)⟩
          case measure=>simp[intOf];omega
        ·have bb:¬(c:Int)=1:=by omega
         go_region_with (go_at_call 141;refine(rt I b T c L _ (uH Y) (by have:=uH t;omega)).mono ?_;rintro e w2 ⟨v,rfl,⟨n2,a2,c2,L2,rfl,i1⟩,h⟩;have I1:=ac i1;have D:=(uH X0).drew.below h (uH X0).drew.lt;have Z1:=(uH X1).drew.below h (uH X1).drew.lt;have r0:=D.c0;have r1:=D.c1;have f0:=D.free 0;have f1:=D.free 1;have B2:=ac (((uH G).drew).trans (h.mono ((uH G).drew).size));have M:=ac D;have N:=ac Z1;clear i1 h D Z1)
         all_goals
          go_wp2
          go_roundw
          case rel=>exact⟨m+32,n2,a2,c2,L2,by go_num,by omega,by omega,As.step (v:=val L/4294967296) (uH M) (uH N) (uH I1) rfl (uH V) (by have:=uH t;omega) (uH B2)⟩
          case measure=>simp[intOf];omega
      ·have HI:=O
       rcases(show(m≤-32∧¬(0:Int)<(L.length:Int))∨¬m≤-32 by omega)with⟨hg,hp⟩|hg
       all_goals
        clear O H J Q hC hS l Z d aD
        go_wp2
        go_loopw[1] (fun i wr=>∃(m:Int) (I:Bool) (a:Option Addr) (c:Nat) (L:List Nat),i=.int .i64 m∧-16384≤m∧m≤0∧Hid (As w wr z m I a c L)) (fun i _=>(-(intOf i)).toNat)
        case atStart=>exact⟨m,I,a,c,L,rfl,by omega,by omega,HI⟩
        case round=>
         clear HI p0 p1 hg aa ad
         obtain⟨m,I,a,c,L,rfl,aa,ad,O⟩:=hrel
         obtain⟨H,J,Q,hC,hS,l,Z,d⟩:=uH O
         have p0:=H.c0;have p1:=H.c1
         by_cases aI:m<0∧0<L.length
         ·obtain⟨hg,hp⟩:=aI
          have ae:(0:Int)<(L.length:Int):=by omega
          have F:=Z
          rw[←F4 _ _ (by omega)]at F
          have V:=ac F
          have G:=ac d;have X0:=ac H;have X1:=ac J;have t:=ac l;have Y:=ac Q
          clear Z F H J Q hC hS d O l
          go_wp2_with fail
          refine(ug I a c L wr (uH Y) (by have:=uH t;omega)).mono ?_
          rintro e w2 ⟨v,rfl,⟨n2,a2,c2,L2,rfl,i1⟩,h⟩
          have I1:=ac i1
          have D:=(uH X0).below h (uH X0).lt
          have Z1:=(uH X1).below h (uH X1).lt
          have r0:=D.c0;have r1:=D.c1;have f0:=D.free 0;have f1:=D.free 1
          have B2:=ac ((uH G).trans (h.mono (uH G).size))
          have M:=ac D;have N:=ac Z1
          clear i1 h D Z1
          go_wp2
          go_roundw
          case rel=>exact⟨m+1,n2,a2,c2,L2,by go_num,by omega,by omega,As.step (v:=val L/2) (uH M) (uH N) (uH I1) rfl (uH V) (by have:=uH t;omega) (uH B2)⟩
          case measure=>simp[intOf];omega
         ·have ai:=O.out.last (by rcases Nat.eq_zero_or_pos L.length with e|e;(right;exact List.length_eq_zero_iff.1 e);(left;omega))
          have a3:=ac ai
          have X1:=ac J;have G:=ac d;have Y:=ac Q
          have y0:=J.c0;have y1:=J.c1;have f0:=J.free 0;have f1:=J.free 1
          rcases(show(m<0∧¬(0:Int)<(L.length:Int))∨¬m<0 by omega)with⟨hg,hp⟩|hg
          all_goals
           clear O H J Q hC hS l Z d aI ai
           go_wp2
           refine bodyPost_ret (v:=.agg #[.bool I,.slice a L.length c]) (by simp[results,Tryz.results111,go_sem,y0,y1]) rfl ⟨.agg #[.bool I,.slice a L.length c],rfl,?_,?_⟩
           ·obtain⟨neg,a',c',L',e1,e2,e3⟩:=uH a3
            refine⟨neg,a',c',L',e1,e2.box (uH X1) _ _,e3⟩
           ·exact((uH G).setCell (by simp) _).setCell (by simp) _
theorem qN(d:Option Addr)(h:Nat)(n:Int)(w:World):
  Calls Tryz.prog 111 #[.agg #[.bool false,.slice d 0 h],.int .i64 n] w fun e F=>∃v,e=.returned v∧ar 0 F v 0∧Below w.heap.size w F:=by
 rcases(show(32≤n∧0<n∧¬n≤-32∧¬n<0)∨(¬32≤n∧0<n∧¬n≤-32∧¬n<0)∨(¬32≤n∧¬0<n∧¬n≤-32∧¬n<0)∨(¬32≤n∧¬0<n∧¬n≤-32∧n<0)∨(¬32≤n∧¬0<n∧n≤-32∧n<0) by omega)with⟨l,t,z,D⟩|⟨l,t,z,D⟩|⟨l,t,z,D⟩|⟨l,t,z,D⟩|⟨l,t,z,D⟩
 all_goals
  go_enter Tryz.func111,Tryz.ntmps111
  go_wp2
  go_loopw[1] (fun i wr=>i=.int .i64 n∧wr=(w.alloc (.cells #[.bool false,.slice d 0 h] 55)).alloc (.cells #[.bool false,.slice none 0 0] 55)) (fun _ _=>0)
  case atStart=>exact⟨rfl,rfl⟩
  case round=>
   obtain⟨rfl,rfl⟩:=hrel
   go_wp2
   go_loopw[1] (fun i wr=>i=.int .i64 n∧wr=(w.alloc (.cells #[.bool false,.slice d 0 h] 55)).alloc (.cells #[.bool false,.slice none 0 0] 55)) (fun _ _=>0)
   case atStart=>exact⟨rfl,rfl⟩
   case round=>
    obtain⟨rfl,rfl⟩:=hrel
    go_wp2
    go_loopw[1] (fun i wr=>i=.int .i64 n∧wr=(w.alloc (.cells #[.bool false,.slice d 0 h] 55)).alloc (.cells #[.bool false,.slice none 0 0] 55)) (fun _ _=>0)
    case atStart=>exact⟨rfl,rfl⟩
    case round=>
     obtain⟨rfl,rfl⟩:=hrel
     go_wp2
     go_loopw[1] (fun i wr=>i=.int .i64 n∧wr=(w.alloc (.cells #[.bool false,.slice d 0 h] 55)).alloc (.cells #[.bool false,.slice none 0 0] 55)) (fun _ _=>0)
     case atStart=>exact⟨rfl,rfl⟩
     case round=>
      obtain⟨rfl,rfl⟩:=hrel
      go_wp2
      refine bodyPost_ret (v:=.agg #[.bool false,.slice d 0 h]) (by simp[results,Tryz.results111,go_sem]) rfl ⟨.agg #[.bool false,.slice d 0 h],rfl,ar.zero _ _ _ _,?_⟩
      exact((Below.refl _ _).alloc (Nat.le_refl _) _).alloc (by simp) _
theorem sK(d:Bool)(h:Option Addr)(l:Nat)(A:List Nat)(n:Int)(w:World)(D:af w h l A)(F:aE d A=true)(G:-16384≤n∧n≤16384):
  Calls Tryz.prog 111 #[.agg #[.bool d,.slice h A.length l],.int .i64 n] w fun e t=>∃v,e=.returned v∧ar 0 t v (qJ d A n)∧Below w.heap.size w t:=by
 have H:=aN F
 by_cases z:A= []
 ·subst z
  have:d=false:=by cases d<;>simp_all
  subst this
  have e:qJ false [] n=0:=by rw[oF];simp[val,o6,sg]
  rw[e]
  exact qN h l n w
 ·exact qL d h l A n w D z H.2.1 (by omega) G
def NL(n:Bool)(L:List Nat):Bool:=decide (L.length≤40)|| !aE n L
end Go.Proofs.YtmpkkhackbpflaaGreatDoor
namespace Go.Proofs.YtmpkkhackbpflaaGreatDoor
open Go.RowKit
theorem uA(A S:List Nat)(x c y:Nat)(d:A[S.length]?.getD 0=y)(h:val S+4294967296^S.length*c=val (A.take S.length)*x):
  val (S++[(y*x+c)%4294967296])+4294967296^(S.length+1)*((y*x+c)/4294967296)=val (A.take (S.length+1))*x:=by
 rw[lN,aR A,d,Nat.add_mul]
 have e:=jK (4294967296^S.length) 4294967296 (y*x+c)
 rw[Nat.pow_succ]
 rw[Nat.mul_add,←Nat.mul_assoc]at e
 omega
theorem sL(x y c:Nat):(((y*x+c)%4294967296:Nat):Int)=((y:Int)*(x:Int)+(c:Int))%4294967296∧(((y*x+c)/4294967296:Nat):Int)=((y:Int)*(x:Int)+(c:Int))/4294967296:=by
 have e:((y*x:Nat):Int)=(y:Int)*(x:Int):=Int.natCast_mul y x
 rw[←e]
 omega
theorem xf(ao:Option Addr)(ca:Nat)(A:List Nat)(x:Nat)(w:World)(hA:af w ao ca A)(bx:x<4294967296)(la:A.length≤1073741824):
  Calls Tryz.prog 145 #[.slice ao A.length ca,.int .u32 (x:Int)] w fun e w'=>∃G D X,e=.returned (.slice G X.length D)∧af w' G D X∧bB w.heap.size G X∧X.length=A.length+1∧val X=val A*x∧Below w.heap.size w w':=by
 obtain⟨i0,hi,ae,ai,am⟩:=info_parts Tryz.info147
 have Y:=fun(S:List Nat) (c y:Nat)=>uA A S x c y
 have Z:∀(S:List Nat) (c:Nat),S.length=A.length→val S+4294967296^S.length*c=val (A.take S.length)*x→val (S++[c])=val A*x:=by
  intro S c hl h
  rw[lN,h,hl,List.take_length]
 have I:=ac Y
 have J:=ac Z
 clear Y Z
 go_enter Tryz.func145,Tryz.ntmps145
 go_wp2
 go_loopw[5,6,7,8] (fun v c i _ wr=>∃(S:List Nat) (y:Nat),S.length≤A.length∧i=.int .i64 (S.length:Nat)∧c=.int .u64 y∧y<4294967296∧wr.ownsRow w.heap.size 147 1 v S.length (S.map d6)∧bM S∧Below w.heap.size w wr∧Hid (val S+4294967296^S.length*y=val (A.take S.length)*x))
  (fun _ _ i _ _=>A.length-(intOf i).toNat)
 case atStart=>
  refine⟨[],0,by simp,rfl,rfl,by omega,?_,by intro x hx;simp at hx,(Below.refl _ _).alloc (Nat.le_refl _) _,by unfold Hid;simp[val]⟩
  exact World.ownsRow_made w #[] 0 (Nat.le_refl _) (by simp[maxLen]) (by simp)
 case round=>
  obtain⟨S,y,hk,rfl,rfl,hy,F,hf,t,hv⟩:=hrel
  by_cases ay:S.length<A.length
  ·obtain⟨z,hz⟩:∃z,A[S.length]?.getD 0=z:=⟨_,rfl⟩
   have bz:z<4294967296:=by rw[←hz];exact hA.lt _
   obtain⟨b1,o1,a1,ap,aq⟩:=hA.ne (by omega)
   have L:=aq S.length ay
   rw[hz]at L
   have dA:wr.cell? ⟨b1,o1+S.length,none⟩=some (.int .u32 (z:Int)):=by rw[t.cell (p:=⟨b1,o1+S.length,none⟩) ap];exact L
   have az:=ac (uH I S y z hz hv.out)
   have aD:=wS z x bz bx
   obtain⟨a2,a3⟩:=yY z x bz bx
   obtain⟨ec,ed⟩:=sL x z y
   have aa:(z*x+y)/4294967296<4294967296:=by omega
   have EC:=ac ec;have ED:=ac ed;have BY:=ac aa
   have M:=t.size
   have HF:=ac hf
   clear hz hv I J hf aq L ec ed aa aD
   subst a1
   generalize ax:S.length=k at*
   have N:=ac ax
   clear ax
   have aI:(k:Int)<(A.length:Int):=by omega
   go_wp2_with(at_builtin;refine wpList_append_own _ rfl _ _ 53 rfl w.heap.size 147 i0 (.int .u32 0) 1 4 Tryz.underlying53 hi ae ai am rfl (by decide) _ _ _ rfl (F.alloc _) ⟨wr.heap.size,0,none⟩ 1 1 [.int .u32 (((z:Int)*(x:Int)+(y:Int))%4294967296)] rfl rfl (cell_one_new _ _ _) (fun u V=>by simp at V;subst V;rfl) (by unfold maxLen;omega) (by omega) (by simp;omega) ?_;intro v' w1 d l _;have O:Below w.heap.size w w1:=((t.alloc M _).grown l (by simp;omega) (fun g hg=>(F.lt g hg).1));have Q:=ac (lP (x:=(z*x+y)%4294967296) d (uH EC).symm);clear d l)
   have a0:=uH az
   have T:(S++[(z*x+y)%4294967296]).length=k+1:=by simp[uH N]
   go_roundw
   case rel=>exact⟨S++[(z*x+y)%4294967296],(z*x+y)/4294967296,by omega,by rw[T];go_num,dg (uH ED).symm,uH BY,by rw[T];exact uH Q,(uH HF).snoc (Nat.mod_lt _ (by decide)),O,by rw[T];exact a0⟩
   case measure=>simp[intOf];omega
  ·have U:S.length=A.length:=by omega
   have H:=uH J S y U hv.out
   have ad:=ac H
   have N:=ac U
   have M:=t.size
   have HF:=ac (hf.snoc hy)
   clear H hv I J hf U
   have aI:¬((S.length:Nat):Int)<(A.length:Int):=by omega
   go_wp2_with(at_builtin;refine wpList_append_own _ rfl _ _ 53 rfl w.heap.size 147 i0 (.int .u32 0) 1 4 Tryz.underlying53 hi ae ai am rfl (by decide) _ _ _ rfl (F.alloc _) ⟨wr.heap.size,0,none⟩ 1 1 [.int .u32 (y:Int)] rfl rfl (cell_one_new _ _ _) (fun u V=>by simp at V;subst V;rfl) (by unfold maxLen;omega) (by omega) (by simp;omega) ?_;intro v' w1 d l _;have O:Below w.heap.size w w1:=((t.alloc M _).grown l (by simp;omega) (fun g hg=>(F.lt g hg).1));have Q:=ac (lP (x:=y) d rfl);clear d l)
   obtain⟨G,D,e1,e2,e3,e4⟩:=iQ (uH Q) (uH HF)
   subst e1
   go_ret
   exact⟨G,D,S++[y],rfl,e2,e3,by have:=uH N;simp;omega,uH ad,O⟩
attribute [local go_sem ↓] Go.wp_at_zero Go.wp_at_succ
theorem Dh(W:World):(W.alloc (.cells #[.int .u32 0] 147)).ownsRow W.heap.size 147 1 (.slice (some ⟨W.heap.size,0,none⟩) 1 1) 1 [.int .u32 0]:=
 ⟨by simp,.inr ⟨W.heap.size,1,#[.int .u32 0],rfl,Nat.le_refl _,heap_alloc_new W _,Nat.le_refl _,by simp[maxLen],by simp,by simp⟩⟩
theorem qO(B:List Nat)(k:Nat)(h:k<B.length):val (B.drop k)=B[k]?.getD 0+4294967296*val (B.drop (k+1)):=by
 rw[List.drop_eq_getElem_cons h]
 simp[val,h]
theorem Di(d l:Bool)(A B S:List Nat)(h:val S=val A*val B):aj (d != l) S=aj d A*aj l B:=by
 unfold aj
 rw[h]
 cases d<;>cases l<;>simp[Int.natCast_mul,Int.neg_mul,Int.mul_neg]
theorem xg(F G:Bool)(ao bo:Option Addr)(ca cb:Nat)(A B:List Nat)(w:World)(hA:af w ao ca A)(hB:af w bo cb B)(la:A.length≤1048576)(lb:B.length≤1048576):
  Calls Tryz.prog 90 #[.agg #[.bool F,.slice ao A.length ca],.agg #[.bool G,.slice bo B.length cb]] w fun e t=>∃v,e=.returned v∧ar 0 t v (aj F A*aj G B)∧Below w.heap.size w t:=by
 obtain⟨i0,hi,bm,bn,bp⟩:=info_parts Tryz.info147
 have HZ:=ac (fun S=>Di F G A B S)
 generalize aj F A*aj G B=z at*
 go_enter Tryz.func90,Tryz.ntmps90
 go_wp2
 go_loopw[5,6,7] (fun v i _ wr=>∃(m b d H:Nat) (S:List Nat),m≤B.length∧i=.int .i64 ((m:Int)-1)∧v=.slice (some ⟨b,d,none⟩) S.length H∧Hid (af wr (some ⟨b,d,none⟩) H S)∧aC wr w.heap.size (.bool F) (.slice ao A.length ca)∧aC wr (w.heap.size+1) (.bool G) (.slice bo B.length cb)∧aC wr (w.heap.size+2) (.bool false) (.slice none 0 0)∧S.length+2*m≤A.length+1+2*B.length∧Hid (val S=val A*val (B.drop m))∧Below w.heap.size w wr)
  (fun _ i _ _=>(intOf i+1).toNat)
 case atStart=>
  refine⟨B.length,w.heap.size+3,0,0,[],Nat.le_refl _,rfl,rfl,af.nil _ _ _,(((aC.new _ _ _).old _).old _).old _,?_,?_,by simp,by unfold Hid;simp[val],?_⟩
  ·have:=((aC.new (w.alloc (.cells #[.bool F,.slice ao A.length ca] 55)) (.bool G) (.slice bo B.length cb)).old (.cells #[.bool false,.slice none 0 0] 55)).old (.cells #[] 147)
   simpa using this
  ·have:=(aC.new ((w.alloc (.cells #[.bool F,.slice ao A.length ca] 55)).alloc (.cells #[.bool G,.slice bo B.length cb] 55)) (.bool false) (.slice none 0 0)).old (.cells #[] 147)
   simpa using this
  ·exact((((Below.refl _ _).alloc (Nat.le_refl _) _).alloc (by simp) _).alloc (by simp;omega) _).alloc (by simp;omega) _
 case round=>
  obtain⟨m,b,d,H,S,hm,rfl,rfl,hS,V,X,Y,ap,hv,D⟩:=hrel
  by_cases h0:m=0
  ·subst h0
   have hz:=uH HZ S (by have:=hv.out;simpa using this)
   have Z:=ac hz
   have X2:=ac Y;have I:=ac D
   have p0:=V.c0;have q0:=X.c0
   have bV:=Y.lt
   clear hz HZ hv V X Y D hA hB
   go_wp2_with fail
   have l:=dI 0 (F != G) (some ⟨b,d,none⟩) H S wr (uH hS) (bB.zero (uH hS)) (by omega)
   rw[uH Z]at l
   have ax:(!F==G)=(F != G):=by cases F<;>cases G<;>rfl
   rw[ax]
   refine l.mono ?_
   rintro e w2 ⟨v,rfl,⟨n2,a2,c2,L2,rfl,i1⟩,aD⟩
   have X4:=(uH X2).below aD (uH X2).lt
   have y0:=X4.c0;have y1:=X4.c1;have f0:=X4.free 0;have f1:=X4.free 1
   have a9:=ac ((uH I).trans (aD.mono (by omega)))
   have I1:=ac i1;have ba:=ac X4
   clear l X4 aD i1
   go_wp2
   refine bodyPost_ret (v:=.agg #[.bool n2,.slice a2 L2.length c2]) (by simp[results,Tryz.results90,go_sem,y0,y1]) rfl ⟨.agg #[.bool n2,.slice a2 L2.length c2],rfl,?_,?_⟩
   ·have i:=uH I1
    exact⟨n2,a2,c2,L2,rfl,i.1.box (uH ba) _ _,i.2.1,i.2.2.1,i.2.2.2.1,i.2.2.2.2.1,by have:=i.2.2.2.2.2;omega⟩
   ·exact((uH a9).setCell (by simp;omega) _).setCell (by simp;omega) _
  ·obtain⟨k,rfl⟩:∃k,m=k+1:=⟨m-1,by omega⟩
   rw[show(((k+1:Nat):Int)-1)=(k:Int) by omega]
   clear h0 HZ
   obtain⟨x,hx⟩:∃x,B[k]?.getD 0=x:=⟨_,rfl⟩
   have bx:x<4294967296:=by rw[←hx];exact hB.lt _
   obtain⟨b2,o2,bq,aq,a6⟩:=hB.ne (by omega)
   have ay:=a6 k (by omega)
   rw[hx]at ay
   have J:∀L1 L2:List Nat,val L1=val A*x→val L2=val (0::S)+val L1→val L2=val A*val (B.drop k):=by
    intro L1 L2 e1 e2
    have:=hv.out
    rw[e2,e1,qO B k (by omega),hx,Nat.mul_add]
    simp only[val]
    rw[this,Nat.zero_add,←Nat.mul_assoc,←Nat.mul_assoc,Nat.mul_comm 4294967296 (val A)]
    omega
   have L:∀j u,(S.map d6)[j]? =some u→(wr.alloc (.cells #[.int .u32 0] 147)).cell? ((⟨b,d,none⟩:Addr).add j)=some u:=by
    intro j u hu
    rw[List.getElem?_map]at hu
    have hj:j<S.length:=by
     rcases Nat.lt_or_ge j S.length with e|e
     ·exact e
     ·rw[List.getElem?_eq_none e]at hu;simp at hu
    obtain⟨b',bG,e0,bt,bv⟩:=(uH hS).ne (by omega)
    simp only[Option.some.injEq,Addr.mk.injEq,and_true]at e0
    obtain⟨rfl,rfl⟩:=e0
    have e3:(⟨b,d,none⟩:Addr).add j=⟨b,d+j,none⟩:=by simp[Addr.add]
    rw[e3,((Below.refl wr.heap.size wr).alloc (Nat.le_refl _) _).cell (p:=⟨b,d+j,none⟩) bt,bv j hj]
    rw[List.getElem?_eq_getElem hj]at hu⊢
    simpa[d6]using hu
   have ad:∀u∈S.map d6,u.oneCell'=true:=by
    intro u hu
    obtain⟨y,_,rfl⟩:=List.mem_map.1 hu
    rfl
   have ae:bM (0::S):=by
    intro y hy
    rcases List.mem_cons.1 hy with rfl|hy
    ·decide
    ·exact(uH hS).2.1 y hy
   have M:=ac J;have N:=ac L;have ai:=ac ad;have am:=ac ae;have aI:=ac ay
   have X0:=ac V;have X1:=ac X;have X2:=ac Y;have I:=ac D;have a0:=ac ap
   have z0:=V.lt;have z1:=X.lt;have z2:=Y.lt
   have ls:S.length≤4000000:=by omega
   have b0:(0:Int)≤(k:Int):=by omega
   have b3:(k:Int)<(B.length:Int):=by omega
   subst bq
   have HA:=ac hA;have HB:=ac aq
   clear J L ad ae ay V X Y D ap hv hx a6 hA hB hS aq
   go_wp2_with(at_builtin;refine wpList_append_own _ rfl _ _ 53 rfl wr.heap.size 147 i0 (.int .u32 0) 1 4 Tryz.underlying53 hi bm bn bp rfl (by decide) _ 1 [.int .u32 0] rfl (Dh wr) ⟨b,d,none⟩ S.length H (S.map d6) rfl (by simp) (uH N) (uH ai) (by unfold maxLen;omega) (by omega) (by simp) ?_;intro v' w1 Q T _;have a1:=ac Q;have a3:=ac T;clear Q T)
   obtain⟨bz,a7,e1,e2,e3,e4⟩:=iQ (S:=0::S) (uH a1) (uH am)
   subst e1
   have O:Below wr.heap.size wr w1:=((Below.refl _ _).alloc (Nat.le_refl _) _).grown (uH a3) (by simp) (fun g hg=>by have e:some wr.heap.size=some g:=hg;cases e;exact Nat.le_refl _)
   have V:=(uH X0).below O (uH X0).lt
   have X:=(uH X1).below O (uH X1).lt
   have Y:=(uH X2).below O (uH X2).lt
   have b1:Below w.heap.size w w1:=(uH I).trans (O.mono (uH I).size)
   have a4:w1.cell? ⟨b2,o2+k,none⟩=some (.int .u32 (x:Int)):=by rw[b1.cell (p:=⟨b2,o2+k,none⟩) (uH HB)];exact uH aI
   have a5:b2<w1.heap.size:=Nat.lt_of_lt_of_le (uH HB) b1.size
   have bb:(0::S).length≤35184372088830:=by simp;omega
   have bd:=ac ((uH HA).below b1)
   have E2:=ac e2;have B1:=ac b1;have Y0:=ac V;have Y1:=ac X;have Y2:=ac Y
   have hK:∀t,Below w1.heap.size w1 t→Below w1.heap.size w1 t∧t.cell? ⟨w.heap.size,1,none⟩=some (.slice ao A.length ca)∧t.cell? ⟨w.heap.size+1,1,none⟩=some (.slice (some ⟨b2,o2,none⟩) B.length cb)∧t.cell? ⟨b2,o2+k,none⟩=some (.int .u32 (x:Int)):=fun t h=>
    ⟨h,(V.below h V.lt).c1,(X.below h X.lt).c1,(h.cell (p:=⟨b2,o2+k,none⟩) a5).trans a4⟩
   have HK:=ac hK
   clear hK V X Y b1 a4 e2 e3 e4 a1 a3 O X0 X1 X2 I aI N ai am HA HB
   refine aG (fun W=>W=w1) rfl ?_
   rintro W0 e0
   subst e0
   go_region_held3(fun t=>Below W0.heap.size W0 t∧t.cell? ⟨w.heap.size,1,none⟩=some (.slice ao A.length ca)∧t.cell? ⟨w.heap.size+1,1,none⟩=some (.slice (some ⟨b2,o2,none⟩) B.length cb)∧t.cell? ⟨b2,o2+k,none⟩=some (.int .u32 (x:Int)))
    (first|exact uH HK _ (Below.refl _ _).drew|exact uH HK _ (by assumption))
    (first|(go_at_call 145;refine(xf ao ca A x _ ((uH bd).below (And.left (by assumption))) bx (by omega)).mono ?_;rintro e w3 ⟨bE,c3,L3,rfl,g1,g2,g3,g4,U⟩;have az:Below W0.heap.size W0 w3:=Below.trans (And.left (by assumption)) (U.mono (Below.size (And.left (by assumption))));have G1:=ac g1;have G3:=ac g3;have G4:=ac g4;have l3:L3.length≤35184372088830:=(by omega);clear U g1 g2 g3 g4)|(go_at_call 144;refine(oZ bz bE a7 c3 (0::S) L3 _ ((uH E2).below az) (uH G1) bb l3).mono ?_;rintro e w4 ⟨b6,c4,L4,rfl,g1,g2,g3,g4,U⟩;have aa:Below W0.heap.size W0 w4:=az.trans (U.mono az.size);have J1:=ac g1;have J3:=ac g3;have J4:=ac g4;clear U g1 g2 g3 g4))
   obtain⟨b5,o5,e5,b4,bA⟩:=(uH J1).ne (by have:=uH J3;omega)
   subst e5
   have be:=ac (uH M L3 L4 (uH G4) (uH J4))
   have bi:L4.length+2*k≤A.length+1+2*B.length:=by
    have h1:=uH J3;have h2:=uH G3;have h3:=uH a0
    simp only[List.length_cons]at h1
    omega
   clear bA M
   go_wp2
   go_roundw
   case rel=>exact⟨k,b5,o5,c4,L4,by omega,by go_num,rfl,uH J1,(uH Y0).below aa (uH Y0).lt,(uH Y1).below aa (uH Y1).lt,(uH Y2).below aa (uH Y2).lt,bi,uH be,(uH B1).trans (aa.mono (uH B1).size)⟩
   case measure=>simp[intOf]
end Go.Proofs.YtmpkkhackbpflaaGreatDoor
