/- Part 10 of the texts. -/
import Derived.Test.YtnnfjeieennffaaGreatDoorPartc09
import Derived.Deep.AppendLies
import Derived.Deep.RegionLaw
set_option maxHeartbeats 4000000
set_option maxRecDepth 4000
namespace Go.Proofs.YtnnfjeieennffaaGreatDoor
open Go.RowKit
theorem Gt{w:World}{d g n c:Nat}{S:List Nat}(h:w.ownsRow d 124 1 (.slice (some ⟨g,0,none⟩) n c) n (S.map eP))(l:bd S):ag w (some ⟨g,0,none⟩) c S∧S.length=n∧d≤g∧g<w.heap.size:=by
 obtain⟨A,m,f,t,D,z⟩:=k6 h l
 simp only[Value.slice.injEq]at f
 obtain⟨rfl,_,rfl⟩:=f
 exact⟨t,z,h.lt g rfl⟩
def nk(v:Nat)(m:Int):Nat:=if 0≤m then v*2^m.toNat else v/2^(-m).toNat
theorem mE(neg:Bool)(L:List Nat)(n:Int):oY neg L n=sg neg (nk (ak L) n):=rfl
theorem nl(m:Int):nk 0 m=0:=by unfold nk;split<;>simp
theorem D0(v:Nat):nk v 0=v:=by unfold nk;simp
theorem zT(v:Nat)(m:Int)(h:32≤m):nk (4294967296*v) (m-32)=nk v m:=by
 unfold nk
 rw[if_pos (by omega),if_pos (by omega),show m.toNat=32+(m-32).toNat by omega,Nat.pow_add,←Nat.mul_assoc,Nat.mul_comm v,show(2:Nat)^32=4294967296 from rfl]
theorem D4(v:Nat)(m:Int)(h:1≤m):nk (v+v) (m-1)=nk v m:=by
 unfold nk
 rw[if_pos (by omega),if_pos (by omega),show m.toNat=1+(m-1).toNat by omega,Nat.pow_add,←Nat.mul_assoc,show v*2^1=v+v by omega]
theorem zU(v:Nat)(m:Int)(h:m≤-32):nk (v/4294967296) (m+32)=nk v m:=by
 unfold nk
 rw[if_neg (show¬0≤m by omega),show(-m).toNat=32+(-(m+32)).toNat by omega,Nat.pow_add,←Nat.div_div_eq_div_mul,show(2:Nat)^32=4294967296 from rfl]
 by_cases d:0≤m+32
 ·rw[if_pos d,show(m+32).toNat=0 by omega,show(-(m+32)).toNat=0 by omega];simp
 ·rw[if_neg d]
theorem D7(v:Nat)(m:Int)(h:m≤-1):nk (v/2) (m+1)=nk v m:=by
 unfold nk
 rw[if_neg (show¬0≤m by omega),show(-m).toNat=1+(-(m+1)).toNat by omega,Nat.pow_add,←Nat.div_div_eq_div_mul,show(2:Nat)^1=2 from rfl]
 by_cases d:0≤m+1
 ·rw[if_pos d,show(m+1).toNat=0 by omega,show(-(m+1)).toNat=0 by omega];simp
 ·rw[if_neg d]
theorem D8(d:Bool)(v:Nat)(m:Int):sg (decide (sg d v<0)) (nk v m)=sg d (nk v m):=by
 by_cases f:v=0
 ·subst f;rw[nl];unfold sg;simp
 ·have:decide (sg d v<0)=d:=by unfold sg;cases d<;>simp<;>omega
  rw[this]
theorem ji(d:Bool)(v:Nat):(sg d v).natAbs=v:=by unfold sg;cases d<;>simp
def xA(w wr:World)(z m:Int)(nn:Bool)(a:Option Addr)(c:Nat)(L:List Nat):Prop:=
 aC wr w.heap.size (.bool nn) (.slice a L.length c)∧aC wr (w.heap.size+1) (.bool false) (.slice none 0 0)∧ag wr a c L∧bN L∧(nn=true→L≠ [])∧L.length+m.toNat≤20000∧sg nn (nk (ak L) m)=z∧Below w.heap.size w wr
theorem aC.put{w:World}{b:Nat}{x y:Value}(h:aC w b x y)(u u':Value):aC ((w.setCell ⟨b,0,none⟩ u).setCell ⟨b,1,none⟩ u') b u u':=by
 have d:=heap_setCell_same w b 0 _ _ u h
 have f:=heap_setCell_same (w.setCell ⟨b,0,none⟩ u) b 1 _ _ u' d
 unfold aC
 rw[f]
 simp
theorem xA.step{w f:World}{z m x:Int}{G K A:Bool}{L l:Option Addr}{N O D v M B:Nat}{d:List Nat}
  (H:aC f w.heap.size (.bool K) (.slice L N O)) (Q:aC f (w.heap.size+1) (.bool false) (.slice none 0 0))
  (i:ag f l D d∧bG B l d∧bN d∧A=decide (x<0)∧ak d=x.natAbs∧d.length≤M) (U:x=sg G v) (V:sg G (nk v m)=z) (Z:M+m.toNat≤20000) (h:Below w.heap.size w f):
  xA w ((f.setCell ⟨w.heap.size,0,none⟩ (.bool A)).setCell ⟨w.heap.size,1,none⟩ (.slice l d.length D)) z m A l D d:=by
 obtain⟨X,i2,Y,F,t,i6⟩:=i
 subst U
 rw[ji]at t
 refine⟨H.put _ _,(Q.other (by simp) _).other (by simp) _,X.box H _ _,Y,?_,by omega,?_,(h.setCell (by simp) _).setCell (by simp) _⟩
 ·rintro e rfl
  rw[e]at F
  simp[ak]at t
  have:=of_decide_eq_true F.symm
  rw[←t]at this
  unfold sg at this
  simp at this
 ·rw[F,t,D8];exact V
theorem xA.last{w wr:World}{z m:Int}{d:Bool}{a:Option Addr}{c:Nat}{L:List Nat}(h:xA w wr z m d a c L)(l:m=0∨L= []):au 0 wr (.agg #[.bool d,.slice a L.length c]) z:=by
 obtain⟨F,G,A,D,H,K,f,M⟩:=h
 by_cases t:L= []
 ·subst t
  have:d=false:=by cases d<;>simp_all
  subst this
  simp only[ak,nl]at f
  rw[←f]
  exact au.zero _ _ _ _
 ·rcases l with rfl|l
  ·rw[D0]at f
   rw[←f,←dC]
   exact au.mk A (bG.zero A) D t (by omega)
  ·exact absurd l t
theorem ag.drop1{w:World}{b d c:Nat}{L:List Nat}(h:ag w (some ⟨b,d,none⟩) c L):ag w (some ⟨b,d+1,none⟩) (c-1) (L.drop 1):=by
 refine⟨by have:=h.1;simp;omega,fun x m=>h.2.1 x (List.mem_of_mem_drop m),?_⟩
 rcases h.2.2 with z|⟨F,f,l,A,D⟩
 ·left;simp[z]
 ·simp only[Option.some.injEq,Addr.mk.injEq,and_true]at l
  obtain⟨rfl,rfl⟩:=l
  refine .inr ⟨b,d+1,rfl,A,fun i t=>?_⟩
  simp at t
  have:=D (i+1) (by omega)
  rw[show d+1+i=d+(i+1) by omega,this,List.getElem?_drop,Nat.add_comm 1 i]
theorem pJ(neg:Bool)(b d c:Nat)(L:List Nat)(w:World)(h:ag w (some ⟨b,d,none⟩) c L)(t:L.length≤30000):
  Calls Tryz.prog 95 #[.bool neg,.slice (some ⟨b,d+1,none⟩) (L.length-1) (c-1)] w fun e w'=>∃v,e=.returned v∧aE L.length 0 w' v (sg neg (ak L/4294967296))∧Below w.heap.size w w':=by
 have:=di 0 neg _ _ (L.drop 1) w h.drop1 (bG.zero h.drop1) (by simp;omega)
 rw[dC,rK L h.2.1 1]at this
 simp only[List.length_drop,Nat.pow_one]at this
 exact this.mono fun e w' ⟨v,f,l,m⟩=>⟨v,f,l.more (by omega),m⟩
theorem nm(neg:Bool)(b d:Nat)(L:List Nat)(w:World)(h:ag w (some ⟨b,d,none⟩) 1 L):
  Calls Tryz.prog 95 #[.bool neg,.slice (some ⟨b,d,none⟩) 0 0] w fun e w'=>∃v,e=.returned v∧aE L.length 0 w' v (sg neg (ak L/4294967296))∧Below w.heap.size w w':=by
 have:=di 0 neg (some ⟨b,d,none⟩) 0 [] w (ag.nil _ _ _) (.inl rfl) (by simp)
 have t:ak L/4294967296=0:=by
  have f:=eh L h.2.1
  have l:=Nat.pow_le_pow_right (n:=4294967296) (by decide) h.1
  exact Nat.div_eq_of_lt (by omega)
 rw[t]
 rw[dC]at this
 exact this.mono fun e w' ⟨v,f,l,m⟩=>⟨v,f,l.more (by simp),m⟩
theorem nr(L:List Nat):ak (0::L)=4294967296*ak L:=by simp[ak]
attribute [local go_sem ↓] Go.wp_at_zero Go.wp_at_succ
theorem D9(W:World)(d g:Nat)(f:W.heap.size=g)(h:d≤g):((W.alloc (.cells #[.int .u32 0] 124)).drew).ownsRow d 124 1 (.slice (some ⟨g,0,none⟩) 1 1) 1 [.int .u32 0]:=by
 subst f
 exact⟨by simp,.inr ⟨W.heap.size,1,#[.int .u32 0],rfl,h,heap_alloc_new W _,Nat.le_refl _,by simp[maxLen],by simp,by simp⟩⟩
theorem zV(neg:Bool)(g n c d:Nat)(S:List Nat)(w:World)(h:w.ownsRow d 124 1 (.slice (some ⟨g,0,none⟩) n c) n (S.map eP))(f:bd S)(z:n≤35184372088832):
  Calls Tryz.prog 95 #[.bool neg,.slice (some ⟨g,0,none⟩) n c] w fun e w'=>∃v,e=.returned v∧aE n d w' v (af neg S)∧Below w.heap.size w w':=by
 obtain⟨l,m,t,A⟩:=Gt h f
 have:=di d neg (some ⟨g,0,none⟩) c S w l (.inr ⟨g,0,rfl,t⟩) (by omega)
 rw[m]at this
 exact this
theorem pK{L:List Nat}(h:ak L≠0):L≠ []:=by
 rintro rfl
 simp[ak]at h
theorem oZ(na:Bool)(ao:Option Addr)(ca:Nat)(A:List Nat)(n:Int)(w:World)(hA:ag w ao ca A)(h0:A≠ [])(hc:bN A)(la:A.length≤3000)(hn:-16384≤n∧n≤16384):
  Calls Tryz.prog 101 #[.agg #[.bool na,.slice ao A.length ca],.int .i64 n] w fun e w'=>∃v,e=.returned v∧au 0 w' v (oY na A n)∧Below w.heap.size w w':=by
 obtain⟨i0,hi,bc,be,bi⟩:=info_parts Tryz.info124
 have HZ:=aa (mE na A n).symm
 generalize oY na A n=z at*
 have a3:=aa h0;have HC:=aa hc
 clear h0 hc
 go_enter Tryz.func101,Tryz.ntmps101
 go_wp2
 go_loopw[1] (fun i wr=>∃(m:Int) (H:Bool) (a:Option Addr) (c:Nat) (L:List Nat),i=.int .i64 m∧-16384≤m∧m≤16384∧L≠ []∧Hid (xA w wr z m H a c L)) (fun i _=>(intOf i).toNat)
 case atStart=>
  refine⟨n,na,ao,ca,A,rfl,hn.1,hn.2,uH a3,(aC.new _ _ _).old _,?_,hA.below (((Below.refl _ _).alloc (Nat.le_refl _) _).alloc (by simp) _),uH HC,fun _=>uH a3,by omega,uH HZ,((Below.refl _ _).alloc (Nat.le_refl _) _).alloc (by simp) _⟩
  have:=aC.new (w.alloc (.cells #[.bool na,.slice ao A.length ca] 50)) (.bool false) (.slice none 0 0)
  simpa using this
 case round=>
  obtain⟨m,H,a,c,L,rfl,ae,aj,Y,O⟩:=hrel
  clear HZ HC a3 hA la hn
  obtain⟨G,K,Q,hC,hS,h,hz,d⟩:=uH O
  have hp:0<L.length:=List.length_pos_iff.2 Y
  have am:(0:Int)<(L.length:Int):=by omega
  have p0:=G.c0;have p1:=G.c1
  have HV:Hid (ak L≠0):=fun e=>Y ((aK L hC).1 e)
  by_cases hg:32≤m
  ·obtain⟨b,U,rfl,hb,a0⟩:=Q.ne hp
   have D:=hz
   rw[←zT _ _ hg]at D
   have X:=aa D
   have bp:=G.lt
   have bm:=K.lt
   have hN:∀j u,(L.map eP)[j]? =some u→((wr.alloc (.cells #[.int .u32 0] 124)).drew).cell? ((⟨b,U,none⟩:Addr).add j)=some u:=by
    intro j u hu
    rw[List.getElem?_map]at hu
    have hj:j<L.length:=by
     rcases Nat.lt_or_ge j L.length with e|e
     ·exact e
     ·rw[List.getElem?_eq_none e]at hu;simp at hu
    have e3:(⟨b,U,none⟩:Addr).add j=⟨b,U+j,none⟩:=by simp[Addr.add]
    rw[e3,((((Below.refl wr.heap.size wr).alloc (Nat.le_refl _) _).drew).cell (p:=⟨b,U+j,none⟩) hb),a0 j hj]
    rw[List.getElem?_eq_getElem hj]at hu⊢
    simpa[eP]using hu
   have a1:∀u∈L.map eP,u.oneCell'=true:=by
    intro u hu
    obtain⟨y,_,rfl⟩:=List.mem_map.1 hu
    rfl
   have HF:Hid (bd (0::L)):=by
    intro y hy
    rcases List.mem_cons.1 hy with rfl|hy
    ·decide
    ·exact Q.2.1 y hy
   have HN:=aa hN;have a4:=aa a1;have F:=aa d;have X0:=aa G;have X1:=aa K;have l:=aa h
   clear hz D hN a1 G K Q hC hS d O a0
   have ll:L.length≤20000:=by have:=uH l;omega
   clear h
   go_wp2
   go_region_law (first|(refine step_append_lies _ (by rfl) _ _ _ (by rfl) wr.heap.size 124 i0 (.int .u32 0) 1 4 Tryz.underlying48 hi bc be bi rfl (by omega) (.slice (some ⟨wr.heap.size,0,none⟩) 1 1) 1 [.int .u32 0] (by rfl) (D9 wr wr.heap.size wr.heap.size rfl (Nat.le_refl _)) ⟨b,U,none⟩ L.length c (L.map eP) (by rfl) (by simp) (uH HN) (uH a4) hp (by unfold maxLen;omega) (by omega) (by simp) (wr.heap.size+1) (by simp) ?_;intro g cp w1 aI V bj bx;have y0:aC w1 w.heap.size (.bool H) (.slice (some ⟨b,U,none⟩) L.length c):=(V.block w.heap.size (by simp;omega) (by simp[Value.ownBlock];omega)).trans (((uH X0).old _).drew);have y1:aC w1 (w.heap.size+1) (.bool false) (.slice none 0 0):=(V.block (w.heap.size+1) (by simp;omega) (by simp[Value.ownBlock];omega)).trans (((uH X1).old _).drew);have q0:=y0.c0;have q1:=y0.c1;have Y0:=aa y0;have Y1:=aa y1;have B1:=aa ((((uH F).alloc (by omega) _).drew).grown V (by simp;omega) (fun k hk=>by simp[Value.ownBlock]at hk;omega));have a5:=aa aI;clear aI V bj y0 y1)|(go_simp;go_at_call 95;refine(zV H g (1+L.length) cp _ (0::L) _ (uH a5) (uH HF) (by omega)).mono ?_;rintro e w2 ⟨v,rfl,⟨n2,a2,c2,L2,rfl,i1⟩,f⟩;have I1:=aa i1;have t:=(uH Y0).below f (uH Y0).lt;have Z1:=(uH Y1).below f (uH Y1).lt;have r0:=t.c0;have r1:=t.c1;have f0:=t.free 0;have f1:=t.free 1;have B2:=aa ((uH B1).trans (f.mono (uH B1).size));have M:=aa t;have N:=aa Z1;clear i1 f t Z1))
   all_goals
    go_wp2
    go_roundw
    case rel=>
     refine⟨m-32,n2,a2,c2,L2,by go_num,by omega,by omega,pK ?_,xA.step (v:=4294967296*ak L) (uH M) (uH N) (uH I1) (by rw[dC,nr]) (uH X) (by have:=uH l;omega) (uH B2)⟩
     have h5:=(uH I1).2.2.2.2.1
     rw[aP,nr]at h5
     have:=uH HV
     omega
    case measure=>simp[intOf];omega
  ·have HI:=O
   have a9:¬(32:Int)≤m:=by omega
   clear O G K Q hC hS h hz d
   go_wp2
   go_loopw[1] (fun i wr=>∃(m:Int) (H:Bool) (a:Option Addr) (c:Nat) (L:List Nat),i=.int .i64 m∧-16384≤m∧m≤31∧L≠ []∧Hid (xA w wr z m H a c L)) (fun i _=>(intOf i).toNat)
   case atStart=>exact⟨m,H,a,c,L,rfl,by omega,by omega,Y,HI⟩
   case round=>
    clear HI HV p0 p1 am hp Y a9 hg ae aj
    obtain⟨m,H,a,c,L,rfl,ae,aj,Y,O⟩:=hrel
    obtain⟨G,K,Q,hC,hS,h,hz,d⟩:=uH O
    have hp:0<L.length:=List.length_pos_iff.2 Y
    have am:(0:Int)<(L.length:Int):=by omega
    have p0:=G.c0;have p1:=G.c1
    by_cases hg:0<m
    ·have HV:Hid (ak L≠0):=fun e=>Y ((aK L hC).1 e)
     have D:=hz
     rw[←D4 _ _ (by omega)]at D
     have X:=aa D
     have F:=aa d;have X0:=aa G;have X1:=aa K;have l:=aa h;have Z:=aa Q
     clear hz D G K Q hC hS d O h
     go_wp2_with fail
     refine(uD H a c L wr (uH Z) (by have:=uH l;omega)).mono ?_
     rintro e w2 ⟨v,rfl,⟨n2,a2,c2,L2,rfl,i1⟩,f⟩
     have I1:=aa i1
     have t:=(uH X0).below f (uH X0).lt
     have Z1:=(uH X1).below f (uH X1).lt
     have r0:=t.c0;have r1:=t.c1;have f0:=t.free 0;have f1:=t.free 1
     have B2:=aa ((uH F).trans (f.mono (uH F).size))
     have M:=aa t;have N:=aa Z1
     clear i1 f t Z1
     go_wp2
     go_roundw
     case rel=>
      refine⟨m-1,n2,a2,c2,L2,by go_num,by omega,by omega,pK ?_,xA.step (v:=ak L+ak L) (uH M) (uH N) (uH I1) rfl (uH X) (by have:=uH l;omega) (uH B2)⟩
      have h5:=(uH I1).2.2.2.2.1
      rw[ji]at h5
      have:=uH HV
      omega
     case measure=>simp[intOf];omega
    ·have HI:=O
     clear O G K Q hC hS h hz d
     go_wp2
     go_loopw[1] (fun i wr=>∃(m:Int) (H:Bool) (a:Option Addr) (c:Nat) (L:List Nat),i=.int .i64 m∧-16384≤m∧m≤0∧Hid (xA w wr z m H a c L)) (fun i _=>(-(intOf i)).toNat)
     case atStart=>exact⟨m,H,a,c,L,rfl,by omega,by omega,HI⟩
     case round=>
      clear HI p0 p1 am hp Y hg ae aj
      obtain⟨m,H,a,c,L,rfl,ae,aj,O⟩:=hrel
      obtain⟨G,K,Q,hC,hS,h,hz,d⟩:=uH O
      have p0:=G.c0;have p1:=G.c1
      by_cases a6:m≤-32∧0<L.length
      ·obtain⟨hg,hp⟩:=a6
       ·have am:(0:Int)<(L.length:Int):=by omega
        have bn:=Q.1
        obtain⟨b,U,rfl,hb,a0⟩:=Q.ne hp
        have D:=hz
        rw[←zU _ _ hg]at D
        have X:=aa D
        have F:=aa d;have X0:=aa G;have X1:=aa K;have l:=aa h;have Z:=aa (Q.below ((Below.refl _ _).drew))
        clear hz D G K Q hC hS d O h a0
        go_wp2
        have bq:(1:Int)≤(L.length:Int):=by omega
        have bt:(L.length:Int)≤(c:Int):=by omega
        have bv:(1:Int)≤(c:Int):=by omega
        by_cases ba:c=1
        ·subst ba
         go_region_with (go_at_call 95;refine(nm H b U L _ (uH Z)).mono ?_;rintro e w2 ⟨v,rfl,⟨n2,a2,c2,L2,rfl,i1⟩,f⟩;have I1:=aa i1;have t:=(uH X0).drew.below f (uH X0).drew.lt;have Z1:=(uH X1).drew.below f (uH X1).drew.lt;have r0:=t.c0;have r1:=t.c1;have f0:=t.free 0;have f1:=t.free 1;have B2:=aa (((uH F).drew).trans (f.mono ((uH F).drew).size));have M:=aa t;have N:=aa Z1;clear i1 f t Z1)
         all_goals
          go_wp2
          go_roundw
          case rel=>exact⟨m+32,n2,a2,c2,L2,by go_num,by omega,by omega,xA.step (v:=ak L/4294967296) (uH M) (uH N) (uH I1) rfl (uH X) (by have:=uH l;omega) (uH B2)⟩
          case measure=>simp[intOf];omega
        ·have bo:¬(c:Int)=1:=by omega
         go_region_with (go_at_call 95;refine(pJ H b U c L _ (uH Z) (by have:=uH l;omega)).mono ?_;rintro e w2 ⟨v,rfl,⟨n2,a2,c2,L2,rfl,i1⟩,f⟩;have I1:=aa i1;have t:=(uH X0).drew.below f (uH X0).drew.lt;have Z1:=(uH X1).drew.below f (uH X1).drew.lt;have r0:=t.c0;have r1:=t.c1;have f0:=t.free 0;have f1:=t.free 1;have B2:=aa (((uH F).drew).trans (f.mono ((uH F).drew).size));have M:=aa t;have N:=aa Z1;clear i1 f t Z1)
         all_goals
          go_wp2
          go_roundw
          case rel=>exact⟨m+32,n2,a2,c2,L2,by go_num,by omega,by omega,xA.step (v:=ak L/4294967296) (uH M) (uH N) (uH I1) rfl (uH X) (by have:=uH l;omega) (uH B2)⟩
          case measure=>simp[intOf];omega
      ·have HI:=O
       rcases(show(m≤-32∧¬(0:Int)<(L.length:Int))∨¬m≤-32 by omega)with⟨hg,hp⟩|hg
       all_goals
        clear O G K Q hC hS h hz d a6
        go_wp2
        go_loopw[1] (fun i wr=>∃(m:Int) (H:Bool) (a:Option Addr) (c:Nat) (L:List Nat),i=.int .i64 m∧-16384≤m∧m≤0∧Hid (xA w wr z m H a c L)) (fun i _=>(-(intOf i)).toNat)
        case atStart=>exact⟨m,H,a,c,L,rfl,by omega,by omega,HI⟩
        case round=>
         clear HI p0 p1 hg ae aj
         obtain⟨m,H,a,c,L,rfl,ae,aj,O⟩:=hrel
         obtain⟨G,K,Q,hC,hS,h,hz,d⟩:=uH O
         have p0:=G.c0;have p1:=G.c1
         by_cases a7:m<0∧0<L.length
         ·obtain⟨hg,hp⟩:=a7
          have am:(0:Int)<(L.length:Int):=by omega
          have D:=hz
          rw[←D7 _ _ (by omega)]at D
          have X:=aa D
          have F:=aa d;have X0:=aa G;have X1:=aa K;have l:=aa h;have Z:=aa Q
          clear hz D G K Q hC hS d O h
          go_wp2_with fail
          refine(rX H a c L wr (uH Z) (by have:=uH l;omega)).mono ?_
          rintro e w2 ⟨v,rfl,⟨n2,a2,c2,L2,rfl,i1⟩,f⟩
          have I1:=aa i1
          have t:=(uH X0).below f (uH X0).lt
          have Z1:=(uH X1).below f (uH X1).lt
          have r0:=t.c0;have r1:=t.c1;have f0:=t.free 0;have f1:=t.free 1
          have B2:=aa ((uH F).trans (f.mono (uH F).size))
          have M:=aa t;have N:=aa Z1
          clear i1 f t Z1
          go_wp2
          go_roundw
          case rel=>exact⟨m+1,n2,a2,c2,L2,by go_num,by omega,by omega,xA.step (v:=ak L/2) (uH M) (uH N) (uH I1) rfl (uH X) (by have:=uH l;omega) (uH B2)⟩
          case measure=>simp[intOf];omega
         ·have ax:=O.out.last (by rcases Nat.eq_zero_or_pos L.length with e|e;(right;exact List.length_eq_zero_iff.1 e);(left;omega))
          have bb:=aa ax
          have X1:=aa K;have F:=aa d;have Z:=aa Q
          have y0:=K.c0;have y1:=K.c1;have f0:=K.free 0;have f1:=K.free 1
          rcases(show(m<0∧¬(0:Int)<(L.length:Int))∨¬m<0 by omega)with⟨hg,hp⟩|hg
          all_goals
           clear O G K Q hC hS h hz d a7 ax
           go_wp2
           refine bodyPost_ret (v:=.agg #[.bool H,.slice a L.length c]) (by simp[results,Tryz.results101,go_sem,y0,y1]) rfl ⟨.agg #[.bool H,.slice a L.length c],rfl,?_,?_⟩
           ·obtain⟨neg,a',c',L',e1,e2,e3⟩:=uH bb
            refine⟨neg,a',c',L',e1,e2.box (uH X1) _ _,e3⟩
           ·exact((uH F).setCell (by simp) _).setCell (by simp) _
theorem o0(d:Option Addr)(f:Nat)(n:Int)(w:World):
  Calls Tryz.prog 101 #[.agg #[.bool false,.slice d 0 f],.int .i64 n] w fun e w'=>∃v,e=.returned v∧au 0 w' v 0∧Below w.heap.size w w':=by
 rcases(show(32≤n∧0<n∧¬n≤-32∧¬n<0)∨(¬32≤n∧0<n∧¬n≤-32∧¬n<0)∨(¬32≤n∧¬0<n∧¬n≤-32∧¬n<0)∨(¬32≤n∧¬0<n∧¬n≤-32∧n<0)∨(¬32≤n∧¬0<n∧n≤-32∧n<0) by omega)with⟨h,l,m,t⟩|⟨h,l,m,t⟩|⟨h,l,m,t⟩|⟨h,l,m,t⟩|⟨h,l,m,t⟩
 all_goals
  go_enter Tryz.func101,Tryz.ntmps101
  go_wp2
  go_loopw[1] (fun i wr=>i=.int .i64 n∧wr=(w.alloc (.cells #[.bool false,.slice d 0 f] 50)).alloc (.cells #[.bool false,.slice none 0 0] 50)) (fun _ _=>0)
  case atStart=>exact⟨rfl,rfl⟩
  case round=>
   obtain⟨rfl,rfl⟩:=hrel
   go_wp2
   go_loopw[1] (fun i wr=>i=.int .i64 n∧wr=(w.alloc (.cells #[.bool false,.slice d 0 f] 50)).alloc (.cells #[.bool false,.slice none 0 0] 50)) (fun _ _=>0)
   case atStart=>exact⟨rfl,rfl⟩
   case round=>
    obtain⟨rfl,rfl⟩:=hrel
    go_wp2
    go_loopw[1] (fun i wr=>i=.int .i64 n∧wr=(w.alloc (.cells #[.bool false,.slice d 0 f] 50)).alloc (.cells #[.bool false,.slice none 0 0] 50)) (fun _ _=>0)
    case atStart=>exact⟨rfl,rfl⟩
    case round=>
     obtain⟨rfl,rfl⟩:=hrel
     go_wp2
     go_loopw[1] (fun i wr=>i=.int .i64 n∧wr=(w.alloc (.cells #[.bool false,.slice d 0 f] 50)).alloc (.cells #[.bool false,.slice none 0 0] 50)) (fun _ _=>0)
     case atStart=>exact⟨rfl,rfl⟩
     case round=>
      obtain⟨rfl,rfl⟩:=hrel
      go_wp2
      refine bodyPost_ret (v:=.agg #[.bool false,.slice d 0 f]) (by simp[results,Tryz.results101,go_sem]) rfl ⟨.agg #[.bool false,.slice d 0 f],rfl,au.zero _ _ _ _,?_⟩
      exact((Below.refl _ _).alloc (Nat.le_refl _) _).alloc (by simp) _
theorem qz(d:Bool)(f:Option Addr)(h:Nat)(A:List Nat)(n:Int)(w:World)(m:ag w f h A)(t:ar d A=true)(z:-16384≤n∧n≤16384):
  Calls Tryz.prog 101 #[.agg #[.bool d,.slice f A.length h],.int .i64 n] w fun e w'=>∃v,e=.returned v∧au 0 w' v (oY d A n)∧Below w.heap.size w w':=by
 have D:=ay t
 by_cases l:A= []
 ·subst l
  have:d=false:=by cases d<;>simp_all
  subst this
  have e:oY false [] n=0:=by rw[mE];simp[ak,nl,sg]
  rw[e]
  exact o0 f h n w
 ·exact oZ d f h A n w m l D.2.1 (by omega) z
def JU(n:Bool)(L:List Nat):Bool:=decide (L.length≤40)|| !ar n L
end Go.Proofs.YtnnfjeieennffaaGreatDoor
namespace Go.Proofs.YtnnfjeieennffaaGreatDoor
open Go.RowKit
def io(x:Int):Bool:=decide (-9223372036854775808≤x∧x≤9223372036854775807)
def rE(neg:Bool)(L:List Nat):Int:=if ar neg L then(if io (af neg L)then 0 else 2)else 1
def rF(neg:Bool)(L:List Nat):Int:=if ar neg L&&io (af neg L)then af neg L else 0
theorem kj(v x i:Nat)(d:v<2^i):v|||x*2^i=v+x*2^i:=by
 have:=Nat.two_pow_add_eq_or_of_lt d x
 rw[Nat.mul_comm x,Nat.or_comm,←this];omega
theorem Ea(v x k:Nat)(f:k≤1)(d:v<4294967296^k)(h:x<4294967296):
  bits BinOp.or IntKind.u64 (v:Int) (IntKind.u64.wrap ((x:Int)*2^(k*32)))=((v+4294967296^k*x:Nat):Int):=by
 rcases(show k=0∨k=1 by omega)with rfl|rfl
 ·have e:IntKind.u64.wrap ((x:Int)*2^(0*32))=((x:Nat):Int):=by
   simp only[IntKind.wrap,IntKind.signed,IntKind.bits];simp;omega
  rw[e,u64_or_nat v x (by simp at d;omega) (by omega)]
  have:v=0:=by simpa using d
  subst this;simp
 ·have e:IntKind.u64.wrap ((x:Int)*2^(1*32))=((x*2^32:Nat):Int):=by
   simp only[IntKind.wrap,IntKind.signed,IntKind.bits];simp;omega
  rw[e,u64_or_nat v (x*2^32) (by simp at d;omega) (by omega),kj v x 32 (by simpa using d)]
  congr 1
  simp;omega
theorem xB(v:Nat)(d:v≤9223372036854775808):wrap64 (IntKind.u64.wrap (-(v:Int)))= -(v:Int):=by
 unfold wrap64
 simp only[IntKind.wrap,IntKind.signed,IntKind.bits]
 simp
 omega
theorem rY(neg:Bool)(A:Option Addr)(f:Nat)(L:List Nat)(w:World)(h:ag w A f L)(V:ar neg L=true)(hl:L.length≤2):
  Calls Tryz.prog 211 #[.agg #[.bool neg,.slice A L.length f]] w fun e w'=>e=.returned (.tuple #[.int .i64 (rF neg L),.int .i64 (rE neg L)])∧Below w.heap.size w w':=by
 have t:=dZ neg A f L (w.alloc (.cells #[.bool neg,.slice A L.length f] 50)) (h.below ((Below.refl _ _).alloc (Nat.le_refl _) _)) (by omega)
 have hz:ei neg L=0:=by simp[ei,V]
 rw[hz]at t
 have hF:(neg=true→ak L≤9223372036854775808→rF neg L= -(ak L:Int)∧rE neg L=0)∧(neg=true→9223372036854775808<ak L→rF neg L=0∧rE neg L=2)∧(neg=false→ak L<9223372036854775808→rF neg L=(ak L:Int)∧rE neg L=0)∧(neg=false→9223372036854775808≤ak L→rF neg L=0∧rE neg L=2):=by
  unfold rF rE
  rw[V]
  refine⟨?_,?_,?_,?_⟩<;>(rintro rfl d;simp only[af,io,if_true,Bool.true_and,Bool.false_eq_true,if_false])
  ·rw[decide_eq_true (by omega)];simp
  ·rw[decide_eq_false (by omega)];simp
  ·rw[decide_eq_true (by omega)];simp
  ·rw[decide_eq_false (by omega)];simp
 have m:=aa hF
 clear hF
 generalize rF neg L=r at*
 generalize rE neg L=e2 at*
 have D:=aa t
 clear t hz V
 go_enter Tryz.func211,Tryz.ntmps211
 go_wp2_with fail
 refine(uH D).mono ?_
 rintro e w1 ⟨rfl,z⟩
 have X:aC w1 w.heap.size (.bool neg) (.slice A L.length f):=(aC.new _ _ _).below z (by simp)
 have p0:=X.c0;have p1:=X.c1
 have l:Below w.heap.size w w1:=((Below.refl _ _).alloc (Nat.le_refl _) _).trans (z.mono (by simp))
 clear X z D
 go_wp2
 go_loop [5,19] (fun s i=>∃k:Nat,k≤L.length∧i=.int .i64 k∧s=.int .u64 ((ak (L.take k):Nat):Int)) (fun _ i=>L.length-(intOf i).toNat)
 case atStart=>exact⟨0,Nat.zero_le _,rfl,by simp[ak]⟩
 case round=>
  obtain⟨k,hk,rfl,rfl⟩:=hrel
  by_cases F:k<L.length
  ·obtain⟨b,U,aj,hb,hc⟩:=h.ne (by omega)
   have c1:=hc k F
   have d1:w1.cell? ⟨b,U+k,none⟩=some (.int .u32 ((L[k]?.getD 0:Nat):Int)):=by rw[l.cell (p:=⟨b,U+k,none⟩) hb];exact c1
   have hx:=h.lt k
   have d:=gH L h.2.1 k
   have G:=aH L k
   have Y:=aa G
   clear c1 hc G
   generalize L[k]?.getD 0=x at*
   generalize am:ak (L.take k)=v at*
   clear am h
   subst aj
   have Z:k≤1:=by omega
   have K:=Ea v x k Z d hx
   have ae:=aa K
   clear K
   go_wp2
   go_round
   case rel=>exact⟨k+1,by omega,by go_num,cQ (by rw[uH ae,uH Y])⟩
   case measure=>simp[intOf];omega
  ·have M:k=L.length:=by omega
   rw[M,List.take_length]
   clear M hk F
   have N:=eh L h.2.1
   have O:ak L<18446744073709551616:=by
    refine Nat.lt_of_lt_of_le N ?_
    have:=Nat.pow_le_pow_right (n:=4294967296) (by decide) hl
    simpa using this
   generalize ak L=v at*
   clear N h
   cases neg
   ·rcases Nat.lt_or_ge v 9223372036854775808 with d|d
    ·have H:=aa ((uH m).2.2.1 rfl d)
     have Q:(v:Int)<9223372036854775808:=by omega
     clear m d O
     go_wp2
     go_ret2
     exact⟨gV (uH H).1.symm (uH H).2.symm,l⟩
    ·have H:=aa ((uH m).2.2.2 rfl d)
     have Q:¬(v:Int)<9223372036854775808:=by omega
     clear m
     go_wp2
     go_ret2
     exact⟨gV (uH H).1.symm (uH H).2.symm,l⟩
   ·rcases Nat.lt_or_ge 9223372036854775808 v with d|d
    ·have H:=aa ((uH m).2.1 rfl d)
     have Q:¬(v:Int)≤9223372036854775808:=by omega
     clear m
     go_wp2
     go_ret2
     exact⟨gV (uH H).1.symm (uH H).2.symm,l⟩
    ·have H:=aa ((uH m).1 rfl d)
     clear m
     go_wp2
     go_ret2
     refine⟨gV ?_ (uH H).2.symm,l⟩
     rw[(uH H).1]
     exact xB v d
theorem pL(neg:Bool)(t:Option Addr)(d:Nat)(L:List Nat)(w:World)(h:ag w t d L)(M:L.length≤35184372088830):
  Calls Tryz.prog 211 #[.agg #[.bool neg,.slice t L.length d]] w fun e w'=>e=.returned (.tuple #[.int .i64 (rF neg L),.int .i64 (rE neg L)])∧Below w.heap.size w w':=by
 cases hr:ar neg L
 ·have f:=dZ neg t d L (w.alloc (.cells #[.bool neg,.slice t L.length d] 50)) (h.below ((Below.refl _ _).alloc (Nat.le_refl _) _)) M
  have z:ei neg L=1:=by simp[ei,hr]
  rw[z]at f
  have m:=aa f
  have H:=aa (show rF neg L=0∧rE neg L=1 by simp[rF,rE,hr])
  generalize rF neg L=r at*
  generalize rE neg L=Q at*
  clear f z hr
  go_enter Tryz.func211,Tryz.ntmps211
  go_wp2_with fail
  refine(uH m).mono ?_
  rintro e K ⟨rfl,l⟩
  go_wp2
  go_ret2
  exact⟨gV (uH H).1.symm (uH H).2.symm,((Below.refl _ _).alloc (Nat.le_refl _) _).trans (l.mono (by simp))⟩
 ·by_cases D:L.length≤2
  ·exact rY neg t d L w h hr D
  ·have f:=dZ neg t d L (w.alloc (.cells #[.bool neg,.slice t L.length d] 50)) (h.below ((Below.refl _ _).alloc (Nat.le_refl _) _)) M
   have z:ei neg L=0:=by simp[ei,hr]
   rw[z]at f
   have m:=aa f
   have A:18446744073709551616≤ak L:=by
    rcases(ay hr).2.1 with e|e
    ·rw[e]at D;simp at D
    ·have U:=kW L e
     have O:=Nat.pow_le_pow_right (n:=4294967296) (by decide) (show 2≤L.length-1 by omega)
     simp at O;omega
   have N:io (af neg L)=false:=by
    unfold io af
    rw[decide_eq_false_iff_not]
    cases neg<;>simp<;>omega
   have H:=aa (show rF neg L=0∧rE neg L=2 by simp[rF,rE,hr,N])
   generalize rF neg L=r at*
   generalize rE neg L=Q at*
   clear f z hr A N
   go_enter Tryz.func211,Tryz.ntmps211
   go_wp2_with fail
   refine(uH m).mono ?_
   rintro e K ⟨rfl,l⟩
   have F:aC K w.heap.size (.bool neg) (.slice t L.length d):=(aC.new _ _ _).below l (by simp)
   have V:=F.c0;have X:=F.c1
   have G:Below w.heap.size w K:=((Below.refl _ _).alloc (Nat.le_refl _) _).trans (l.mono (by simp))
   clear F l m
   go_wp2
   go_ret2
   exact⟨gV (uH H).1.symm (uH H).2.symm,G⟩
theorem f9(n:Int)(w:World)(h0:-9223372036854775808≤n)(h1:n≤9223372036854775807):
  Calls Tryz.prog 102 #[.int .i64 n] w fun e w'=>∃v,e=.returned v∧aE 2 w.heap.size w' v n∧Below w.heap.size w w':=by
 obtain⟨m,l⟩:∃m,m=n.natAbs:=⟨_,rfl⟩
 have U:bd [m%4294967296,m/4294967296]:=by intro x Z;simp at Z;omega
 have V:=aa U
 have K:=aa l
 clear U l
 by_cases hn:n<0
 ·have t:af true [m%4294967296,m/4294967296]=n:=by
   have:=uH K
   unfold af;rw[if_pos rfl,mD];omega
  have L:=aa t
  clear t
  go_enter Tryz.func102,Tryz.ntmps102
  go_wp2_with fail
  have l:=uH K
  have z:=jh (w.alloc (.cells #[.bool false,.slice none 0 0] 50)) (w.heap.size+1) ((-(n+1)+1)%4294967296) ((-(n+1)+1)/4294967296) (m%4294967296) (m/4294967296) (by simp) (by omega) (by omega)
  refine(di (w.heap.size+1) true (some ⟨w.heap.size+1,0,none⟩) 2 [m%4294967296,m/4294967296] _ (z.limbs (uH V) 2 (by simp)) (.inr ⟨_,_,rfl,Nat.le_refl _⟩) (by simp)).mono ?_
  rw[uH L]
  rintro e Q ⟨v,rfl,⟨A,D,F,G,rfl,H⟩,d⟩
  have f:aC Q w.heap.size (.bool false) (.slice none 0 0):=((aC.new _ _ _).old _).below d (by simp;omega)
  have M:=f.c0;have N:=f.c1;have X:=f.free 0;have Y:=f.free 1
  have O:=aa H
  have h:=aa ((((Below.refl _ w).alloc (Nat.le_refl _) (.cells #[.bool false,.slice none 0 0] 50)).alloc (by simp) _).trans (d.mono (by simp;omega)))
  clear H d f z l
  go_wp2
  refine bodyPost_ret (v:=.agg #[.bool A,.slice D G.length F]) (by simp[results,Tryz.results102,go_sem,M,N]) rfl ⟨.agg #[.bool A,.slice D G.length F],rfl,?_,?_⟩
  ·exact aE.stored (uH O) (by simp) (by simp) (by omega) _ _
  ·exact((uH h).setCell (by simp) _).setCell (by simp) _
 ·have t:af false [m%4294967296,m/4294967296]=n:=by
   have:=uH K
   unfold af;rw[if_neg (by decide),mD];omega
  have L:=aa t
  clear t
  go_enter Tryz.func102,Tryz.ntmps102
  go_wp2_with fail
  have l:=uH K
  have z:=jh (w.alloc (.cells #[.bool false,.slice none 0 0] 50)) (w.heap.size+1) (n%4294967296) (n/4294967296) (m%4294967296) (m/4294967296) (by simp) (by omega) (by omega)
  refine(di (w.heap.size+1) false (some ⟨w.heap.size+1,0,none⟩) 2 [m%4294967296,m/4294967296] _ (z.limbs (uH V) 2 (by simp)) (.inr ⟨_,_,rfl,Nat.le_refl _⟩) (by simp)).mono ?_
  rw[uH L]
  rintro e Q ⟨v,rfl,⟨A,D,F,G,rfl,H⟩,d⟩
  have f:aC Q w.heap.size (.bool false) (.slice none 0 0):=((aC.new _ _ _).old _).below d (by simp;omega)
  have M:=f.c0;have N:=f.c1;have X:=f.free 0;have Y:=f.free 1
  have O:=aa H
  have h:=aa ((((Below.refl _ w).alloc (Nat.le_refl _) (.cells #[.bool false,.slice none 0 0] 50)).alloc (by simp) _).trans (d.mono (by simp;omega)))
  clear H d f z l
  go_wp2
  refine bodyPost_ret (v:=.agg #[.bool A,.slice D G.length F]) (by simp[results,Tryz.results102,go_sem,M,N]) rfl ⟨.agg #[.bool A,.slice D G.length F],rfl,?_,?_⟩
  ·exact aE.stored (uH O) (by simp) (by simp) (by omega) _ _
  ·exact((uH h).setCell (by simp) _).setCell (by simp) _
end Go.Proofs.YtnnfjeieennffaaGreatDoor
