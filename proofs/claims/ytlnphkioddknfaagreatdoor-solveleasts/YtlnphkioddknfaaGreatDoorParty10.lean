/- Part 10 of the texts. -/
import Derived.Test.YtlnphkioddknfaaGreatDoorParty09
import Derived.Deep.AppendLies
import Derived.Deep.RegionLaw
set_option maxHeartbeats 4000000
set_option maxRecDepth 4000
namespace Go.Proofs.YtlnphkioddknfaaGreatDoor
open Go.RowKit
theorem GH{w:World}{d g n c:Nat}{S:List Nat}(h:w.ownsRow d 133 1 (.slice (some ⟨g,0,none⟩) n c) n (S.map eH))(l:bf S):ag w (some ⟨g,0,none⟩) c S∧S.length=n∧d≤g∧g<w.heap.size:=by
 obtain⟨ao,cap,f,m,y,t⟩:=le h l
 simp only[Value.slice.injEq]at f
 obtain⟨rfl,_,rfl⟩:=f
 exact⟨m,t,h.lt g rfl⟩
def mY(v:Nat)(m:Int):Nat:=if 0≤m then v*2^m.toNat else v/2^(-m).toNat
theorem my(neg:Bool)(L:List Nat)(n:Int):oR neg L n=sg neg (mY (an L) n):=rfl
theorem mZ(m:Int):mY 0 m=0:=by unfold mY;split<;>simp
theorem Em(v:Nat):mY v 0=v:=by unfold mY;simp
theorem Ap(v:Nat)(m:Int)(h:32≤m):mY (4294967296*v) (m-32)=mY v m:=by
 unfold mY
 rw[if_pos (by omega),if_pos (by omega),show m.toNat=32+(m-32).toNat by omega,Nat.pow_add,←Nat.mul_assoc,Nat.mul_comm v,show(2:Nat)^32=4294967296 from rfl]
theorem En(v:Nat)(m:Int)(h:1≤m):mY (v+v) (m-1)=mY v m:=by
 unfold mY
 rw[if_pos (by omega),if_pos (by omega),show m.toNat=1+(m-1).toNat by omega,Nat.pow_add,←Nat.mul_assoc,show v*2^1=v+v by omega]
theorem Aq(v:Nat)(m:Int)(h:m≤-32):mY (v/4294967296) (m+32)=mY v m:=by
 unfold mY
 rw[if_neg (show¬0≤m by omega),show(-m).toNat=32+(-(m+32)).toNat by omega,Nat.pow_add,←Nat.div_div_eq_div_mul,show(2:Nat)^32=4294967296 from rfl]
 by_cases d:0≤m+32
 ·rw[if_pos d,show(m+32).toNat=0 by omega,show(-(m+32)).toNat=0 by omega];simp
 ·rw[if_neg d]
theorem Eo(v:Nat)(m:Int)(h:m≤-1):mY (v/2) (m+1)=mY v m:=by
 unfold mY
 rw[if_neg (show¬0≤m by omega),show(-m).toNat=1+(-(m+1)).toNat by omega,Nat.pow_add,←Nat.div_div_eq_div_mul,show(2:Nat)^1=2 from rfl]
 by_cases d:0≤m+1
 ·rw[if_pos d,show(m+1).toNat=0 by omega,show(-(m+1)).toNat=0 by omega];simp
 ·rw[if_neg d]
theorem Ep(d:Bool)(v:Nat)(m:Int):sg (decide (sg d v<0)) (mY v m)=sg d (mY v m):=by
 by_cases f:v=0
 ·subst f;rw[mZ];unfold sg;simp
 ·have:decide (sg d v<0)=d:=by unfold sg;cases d<;>simp<;>omega
  rw[this]
theorem jD(d:Bool)(v:Nat):(sg d v).natAbs=v:=by unfold sg;cases d<;>simp
def xM(w wr:World)(z m:Int)(nn:Bool)(a:Option Addr)(c:Nat)(L:List Nat):Prop:=
 aA wr w.heap.size (.bool nn) (.slice a L.length c)∧aA wr (w.heap.size+1) (.bool false) (.slice none 0 0)∧ag wr a c L∧bP L∧(nn=true→L≠ [])∧L.length+m.toNat≤20000∧sg nn (mY (an L) m)=z∧Below w.heap.size w wr
theorem aA.put{w:World}{b:Nat}{x y:Value}(h:aA w b x y)(u u':Value):aA ((w.setCell ⟨b,0,none⟩ u).setCell ⟨b,1,none⟩ u') b u u':=by
 have d:=heap_setCell_same w b 0 _ _ u h
 have f:=heap_setCell_same (w.setCell ⟨b,0,none⟩ u) b 1 _ _ u' d
 unfold aA
 rw[f]
 simp
theorem xM.step{w f:World}{z m x:Int}{F H y:Bool}{I l:Option Addr}{K L A v M B:Nat}{d:List Nat}
  (G:aA f w.heap.size (.bool H) (.slice I K L)) (N:aA f (w.heap.size+1) (.bool false) (.slice none 0 0))
  (i:ag f l A d∧bN B l d∧bP d∧y=decide (x<0)∧an d=x.natAbs∧d.length≤M) (O:x=sg F v) (Q:sg F (mY v m)=z) (X:M+m.toNat≤20000) (h:Below w.heap.size w f):
  xM w ((f.setCell ⟨w.heap.size,0,none⟩ (.bool y)).setCell ⟨w.heap.size,1,none⟩ (.slice l d.length A)) z m y l A d:=by
 obtain⟨U,Y,V,D,t,Z⟩:=i
 subst O
 rw[jD]at t
 refine⟨G.put _ _,(N.other (by simp) _).other (by simp) _,U.box G _ _,V,?_,by omega,?_,(h.setCell (by simp) _).setCell (by simp) _⟩
 ·rintro e rfl
  rw[e]at D
  simp[an]at t
  have:=of_decide_eq_true D.symm
  rw[←t]at this
  unfold sg at this
  simp at this
 ·rw[D,t,Ep];exact Q
theorem xM.last{w wr:World}{z m:Int}{d:Bool}{a:Option Addr}{c:Nat}{L:List Nat}(h:xM w wr z m d a c L)(l:m=0∨L= []):aw 0 wr (.agg #[.bool d,.slice a L.length c]) z:=by
 obtain⟨D,F,y,A,G,H,f,I⟩:=h
 by_cases t:L= []
 ·subst t
  have:d=false:=by cases d<;>simp_all
  subst this
  simp only[an,mZ]at f
  rw[←f]
  exact aw.zero _ _ _ _
 ·rcases l with rfl|l
  ·rw[Em]at f
   rw[←f,←dr]
   exact aw.mk y (bN.zero y) A t (by omega)
  ·exact absurd l t
theorem ag.drop1{w:World}{b d c:Nat}{L:List Nat}(h:ag w (some ⟨b,d,none⟩) c L):ag w (some ⟨b,d+1,none⟩) (c-1) (L.drop 1):=by
 refine⟨by have:=h.1;simp;omega,fun x m=>h.2.1 x (List.mem_of_mem_drop m),?_⟩
 rcases h.2.2 with y|⟨D,f,l,z,A⟩
 ·left;simp[y]
 ·simp only[Option.some.injEq,Addr.mk.injEq,and_true]at l
  obtain⟨rfl,rfl⟩:=l
  refine .inr ⟨b,d+1,rfl,z,fun i t=>?_⟩
  simp at t
  have:=A (i+1) (by omega)
  rw[show d+1+i=d+(i+1) by omega,this,List.getElem?_drop,Nat.add_comm 1 i]
theorem pz(neg:Bool)(b d c:Nat)(L:List Nat)(w:World)(h:ag w (some ⟨b,d,none⟩) c L)(y:L.length≤30000):
  Calls Tryz.prog 134 #[.bool neg,.slice (some ⟨b,d+1,none⟩) (L.length-1) (c-1)] w fun e f=>∃v,e=.returned v∧aE L.length 0 f v (sg neg (an L/4294967296))∧Below w.heap.size w f:=by
 have:=c8 0 neg _ _ (L.drop 1) w h.drop1 (bN.zero h.drop1) (by simp;omega)
 rw[dr,rJ L h.2.1 1]at this
 simp only[List.length_drop,Nat.pow_one]at this
 exact this.mono fun e f ⟨v,l,m,t⟩=>⟨v,l,m.more (by omega),t⟩
theorem m4(neg:Bool)(b d:Nat)(L:List Nat)(w:World)(h:ag w (some ⟨b,d,none⟩) 1 L):
  Calls Tryz.prog 134 #[.bool neg,.slice (some ⟨b,d,none⟩) 0 0] w fun e f=>∃v,e=.returned v∧aE L.length 0 f v (sg neg (an L/4294967296))∧Below w.heap.size w f:=by
 have:=c8 0 neg (some ⟨b,d,none⟩) 0 [] w (ag.nil _ _ _) (.inl rfl) (by simp)
 have y:an L/4294967296=0:=by
  have l:=ei L h.2.1
  have m:=Nat.pow_le_pow_right (n:=4294967296) (by decide) h.1
  exact Nat.div_eq_of_lt (by omega)
 rw[y]
 rw[dr]at this
 exact this.mono fun e f ⟨v,l,m,t⟩=>⟨v,l,m.more (by simp),t⟩
theorem m5(L:List Nat):an (0::L)=4294967296*an L:=by simp[an]
attribute [local go_sem ↓] Go.wp_at_zero Go.wp_at_succ
theorem Er(W:World)(d g:Nat)(f:W.heap.size=g)(h:d≤g):((W.alloc (.cells #[.int .u32 0] 133)).drew).ownsRow d 133 1 (.slice (some ⟨g,0,none⟩) 1 1) 1 [.int .u32 0]:=by
 subst f
 exact⟨by simp,.inr ⟨W.heap.size,1,#[.int .u32 0],rfl,h,heap_alloc_new W _,Nat.le_refl _,by simp[maxLen],by simp,by simp⟩⟩
theorem Ar(neg:Bool)(g n c d:Nat)(S:List Nat)(w:World)(h:w.ownsRow d 133 1 (.slice (some ⟨g,0,none⟩) n c) n (S.map eH))(l:bf S)(z:n≤35184372088832):
  Calls Tryz.prog 134 #[.bool neg,.slice (some ⟨g,0,none⟩) n c] w fun e f=>∃v,e=.returned v∧aE n d f v (af neg S)∧Below w.heap.size w f:=by
 obtain⟨m,t,y,A⟩:=GH h l
 have:=c8 d neg (some ⟨g,0,none⟩) c S w m (.inr ⟨g,0,rfl,y⟩) (by omega)
 rw[t]at this
 exact this
theorem pA{L:List Nat}(h:an L≠0):L≠ []:=by
 rintro rfl
 simp[an]at h
theorem oS(na:Bool)(ao:Option Addr)(ca:Nat)(A:List Nat)(n:Int)(w:World)(hA:ag w ao ca A)(h0:A≠ [])(hc:bP A)(la:A.length≤3000)(hn:-16384≤n∧n≤16384):
  Calls Tryz.prog 141 #[.agg #[.bool na,.slice ao A.length ca],.int .i64 n] w fun e w'=>∃v,e=.returned v∧aw 0 w' v (oR na A n)∧Below w.heap.size w w':=by
 obtain⟨i0,hi,bb,bc,be⟩:=info_parts Tryz.info133
 have HZ:=aa (my na A n).symm
 generalize oR na A n=z at*
 have a1:=aa h0;have HC:=aa hc
 clear h0 hc
 go_enter Tryz.func141,Tryz.ntmps141
 go_wp2
 go_loopw[1] (fun i wr=>∃(m:Int) (H:Bool) (a:Option Addr) (c:Nat) (L:List Nat),i=.int .i64 m∧-16384≤m∧m≤16384∧L≠ []∧Hid (xM w wr z m H a c L)) (fun i _=>(intOf i).toNat)
 case atStart=>
  refine⟨n,na,ao,ca,A,rfl,hn.1,hn.2,uH a1,(aA.new _ _ _).old _,?_,hA.below (((Below.refl _ _).alloc (Nat.le_refl _) _).alloc (by simp) _),uH HC,fun _=>uH a1,by omega,uH HZ,((Below.refl _ _).alloc (Nat.le_refl _) _).alloc (by simp) _⟩
  have:=aA.new (w.alloc (.cells #[.bool na,.slice ao A.length ca] 45)) (.bool false) (.slice none 0 0)
  simpa using this
 case round=>
  obtain⟨m,H,a,c,L,rfl,ae,aj,X,N⟩:=hrel
  clear HZ HC a1 hA la hn
  obtain⟨G,I,O,hC,hS,h,Z,d⟩:=uH N
  have hp:0<L.length:=List.length_pos_iff.2 X
  have ak:(0:Int)<(L.length:Int):=by omega
  have p0:=G.c0;have p1:=G.c1
  have HV:Hid (an L≠0):=fun e=>X ((aL L hC).1 e)
  by_cases hg:32≤m
  ·obtain⟨b,Q,rfl,hb,aI⟩:=O.ne hp
   have D:=Z
   rw[←Ap _ _ hg]at D
   have V:=aa D
   have bo:=G.lt
   have bj:=I.lt
   have hN:∀j u,(L.map eH)[j]? =some u→((wr.alloc (.cells #[.int .u32 0] 133)).drew).cell? ((⟨b,Q,none⟩:Addr).add j)=some u:=by
    intro j u hu
    rw[List.getElem?_map]at hu
    have hj:j<L.length:=by
     rcases Nat.lt_or_ge j L.length with e|e
     ·exact e
     ·rw[List.getElem?_eq_none e]at hu;simp at hu
    have e3:(⟨b,Q,none⟩:Addr).add j=⟨b,Q+j,none⟩:=by simp[Addr.add]
    rw[e3,((((Below.refl wr.heap.size wr).alloc (Nat.le_refl _) _).drew).cell (p:=⟨b,Q+j,none⟩) hb),aI j hj]
    rw[List.getElem?_eq_getElem hj]at hu⊢
    simpa[eH]using hu
   have a0:∀u∈L.map eH,u.oneCell'=true:=by
    intro u hu
    obtain⟨y,_,rfl⟩:=List.mem_map.1 hu
    rfl
   have HF:Hid (bf (0::L)):=by
    intro y hy
    rcases List.mem_cons.1 hy with rfl|hy
    ·decide
    ·exact O.2.1 y hy
   have HN:=aa hN;have a3:=aa a0;have F:=aa d;have X0:=aa G;have X1:=aa I;have l:=aa h
   clear Z D hN a0 G I O hC hS d N aI
   have ll:L.length≤20000:=by have:=uH l;omega
   clear h
   go_wp2
   go_region_law (first|(refine step_append_lies _ (by rfl) _ _ _ (by rfl) wr.heap.size 133 i0 (.int .u32 0) 1 4 Tryz.underlying43 hi bb bc be rfl (by omega) (.slice (some ⟨wr.heap.size,0,none⟩) 1 1) 1 [.int .u32 0] (by rfl) (Er wr wr.heap.size wr.heap.size rfl (Nat.le_refl _)) ⟨b,Q,none⟩ L.length c (L.map eH) (by rfl) (by simp) (uH HN) (uH a3) hp (by unfold maxLen;omega) (by omega) (by simp) (wr.heap.size+1) (by simp) ?_;intro g cp w1 ax U bi bv;have y0:aA w1 w.heap.size (.bool H) (.slice (some ⟨b,Q,none⟩) L.length c):=(U.block w.heap.size (by simp;omega) (by simp[Value.ownBlock];omega)).trans (((uH X0).old _).drew);have y1:aA w1 (w.heap.size+1) (.bool false) (.slice none 0 0):=(U.block (w.heap.size+1) (by simp;omega) (by simp[Value.ownBlock];omega)).trans (((uH X1).old _).drew);have q0:=y0.c0;have q1:=y0.c1;have Y0:=aa y0;have Y1:=aa y1;have B1:=aa ((((uH F).alloc (by omega) _).drew).grown U (by simp;omega) (fun k hk=>by simp[Value.ownBlock]at hk;omega));have a4:=aa ax;clear ax U bi y0 y1)|(go_simp;go_at_call 134;refine(Ar H g (1+L.length) cp _ (0::L) _ (uH a4) (uH HF) (by omega)).mono ?_;rintro e w2 ⟨v,rfl,⟨n2,a2,c2,L2,rfl,i1⟩,f⟩;have I1:=aa i1;have t:=(uH Y0).below f (uH Y0).lt;have Z1:=(uH Y1).below f (uH Y1).lt;have r0:=t.c0;have r1:=t.c1;have f0:=t.free 0;have f1:=t.free 1;have B2:=aa ((uH B1).trans (f.mono (uH B1).size));have K:=aa t;have M:=aa Z1;clear i1 f t Z1))
   all_goals
    go_wp2
    go_roundw
    case rel=>
     refine⟨m-32,n2,a2,c2,L2,by go_num,by omega,by omega,pA ?_,xM.step (v:=4294967296*an L) (uH K) (uH M) (uH I1) (by rw[dr,m5]) (uH V) (by have:=uH l;omega) (uH B2)⟩
     have h5:=(uH I1).2.2.2.2.1
     rw[aR,m5]at h5
     have:=uH HV
     omega
    case measure=>simp[intOf];omega
  ·have HI:=N
   have a7:¬(32:Int)≤m:=by omega
   clear N G I O hC hS h Z d
   go_wp2
   go_loopw[1] (fun i wr=>∃(m:Int) (H:Bool) (a:Option Addr) (c:Nat) (L:List Nat),i=.int .i64 m∧-16384≤m∧m≤31∧L≠ []∧Hid (xM w wr z m H a c L)) (fun i _=>(intOf i).toNat)
   case atStart=>exact⟨m,H,a,c,L,rfl,by omega,by omega,X,HI⟩
   case round=>
    clear HI HV p0 p1 ak hp X a7 hg ae aj
    obtain⟨m,H,a,c,L,rfl,ae,aj,X,N⟩:=hrel
    obtain⟨G,I,O,hC,hS,h,Z,d⟩:=uH N
    have hp:0<L.length:=List.length_pos_iff.2 X
    have ak:(0:Int)<(L.length:Int):=by omega
    have p0:=G.c0;have p1:=G.c1
    by_cases hg:0<m
    ·have HV:Hid (an L≠0):=fun e=>X ((aL L hC).1 e)
     have D:=Z
     rw[←En _ _ (by omega)]at D
     have V:=aa D
     have F:=aa d;have X0:=aa G;have X1:=aa I;have l:=aa h;have Y:=aa O
     clear Z D G I O hC hS d N h
     go_wp2_with fail
     refine(uI H a c L wr (uH Y) (by have:=uH l;omega)).mono ?_
     rintro e w2 ⟨v,rfl,⟨n2,a2,c2,L2,rfl,i1⟩,f⟩
     have I1:=aa i1
     have t:=(uH X0).below f (uH X0).lt
     have Z1:=(uH X1).below f (uH X1).lt
     have r0:=t.c0;have r1:=t.c1;have f0:=t.free 0;have f1:=t.free 1
     have B2:=aa ((uH F).trans (f.mono (uH F).size))
     have K:=aa t;have M:=aa Z1
     clear i1 f t Z1
     go_wp2
     go_roundw
     case rel=>
      refine⟨m-1,n2,a2,c2,L2,by go_num,by omega,by omega,pA ?_,xM.step (v:=an L+an L) (uH K) (uH M) (uH I1) rfl (uH V) (by have:=uH l;omega) (uH B2)⟩
      have h5:=(uH I1).2.2.2.2.1
      rw[jD]at h5
      have:=uH HV
      omega
     case measure=>simp[intOf];omega
    ·have HI:=N
     clear N G I O hC hS h Z d
     go_wp2
     go_loopw[1] (fun i wr=>∃(m:Int) (H:Bool) (a:Option Addr) (c:Nat) (L:List Nat),i=.int .i64 m∧-16384≤m∧m≤0∧Hid (xM w wr z m H a c L)) (fun i _=>(-(intOf i)).toNat)
     case atStart=>exact⟨m,H,a,c,L,rfl,by omega,by omega,HI⟩
     case round=>
      clear HI p0 p1 ak hp X hg ae aj
      obtain⟨m,H,a,c,L,rfl,ae,aj,N⟩:=hrel
      obtain⟨G,I,O,hC,hS,h,Z,d⟩:=uH N
      have p0:=G.c0;have p1:=G.c1
      by_cases a5:m≤-32∧0<L.length
      ·obtain⟨hg,hp⟩:=a5
       ·have ak:(0:Int)<(L.length:Int):=by omega
        have bm:=O.1
        obtain⟨b,Q,rfl,hb,aI⟩:=O.ne hp
        have D:=Z
        rw[←Aq _ _ hg]at D
        have V:=aa D
        have F:=aa d;have X0:=aa G;have X1:=aa I;have l:=aa h;have Y:=aa (O.below ((Below.refl _ _).drew))
        clear Z D G I O hC hS d N h aI
        go_wp2
        have bq:(1:Int)≤(L.length:Int):=by omega
        have br:(L.length:Int)≤(c:Int):=by omega
        have bt:(1:Int)≤(c:Int):=by omega
        by_cases a9:c=1
        ·subst a9
         go_region_with (go_at_call 134;refine(m4 H b Q L _ (uH Y)).mono ?_;rintro e w2 ⟨v,rfl,⟨n2,a2,c2,L2,rfl,i1⟩,f⟩;have I1:=aa i1;have t:=(uH X0).drew.below f (uH X0).drew.lt;have Z1:=(uH X1).drew.below f (uH X1).drew.lt;have r0:=t.c0;have r1:=t.c1;have f0:=t.free 0;have f1:=t.free 1;have B2:=aa (((uH F).drew).trans (f.mono ((uH F).drew).size));have K:=aa t;have M:=aa Z1;clear i1 f t Z1)
         all_goals
          go_wp2
          go_roundw
          case rel=>exact⟨m+32,n2,a2,c2,L2,by go_num,by omega,by omega,xM.step (v:=an L/4294967296) (uH K) (uH M) (uH I1) rfl (uH V) (by have:=uH l;omega) (uH B2)⟩
          case measure=>simp[intOf];omega
        ·have bn:¬(c:Int)=1:=by omega
         go_region_with (go_at_call 134;refine(pz H b Q c L _ (uH Y) (by have:=uH l;omega)).mono ?_;rintro e w2 ⟨v,rfl,⟨n2,a2,c2,L2,rfl,i1⟩,f⟩;have I1:=aa i1;have t:=(uH X0).drew.below f (uH X0).drew.lt;have Z1:=(uH X1).drew.below f (uH X1).drew.lt;have r0:=t.c0;have r1:=t.c1;have f0:=t.free 0;have f1:=t.free 1;have B2:=aa (((uH F).drew).trans (f.mono ((uH F).drew).size));have K:=aa t;have M:=aa Z1;clear i1 f t Z1)
         all_goals
          go_wp2
          go_roundw
          case rel=>exact⟨m+32,n2,a2,c2,L2,by go_num,by omega,by omega,xM.step (v:=an L/4294967296) (uH K) (uH M) (uH I1) rfl (uH V) (by have:=uH l;omega) (uH B2)⟩
          case measure=>simp[intOf];omega
      ·have HI:=N
       rcases(show(m≤-32∧¬(0:Int)<(L.length:Int))∨¬m≤-32 by omega)with⟨hg,hp⟩|hg
       all_goals
        clear N G I O hC hS h Z d a5
        go_wp2
        go_loopw[1] (fun i wr=>∃(m:Int) (H:Bool) (a:Option Addr) (c:Nat) (L:List Nat),i=.int .i64 m∧-16384≤m∧m≤0∧Hid (xM w wr z m H a c L)) (fun i _=>(-(intOf i)).toNat)
        case atStart=>exact⟨m,H,a,c,L,rfl,by omega,by omega,HI⟩
        case round=>
         clear HI p0 p1 hg ae aj
         obtain⟨m,H,a,c,L,rfl,ae,aj,N⟩:=hrel
         obtain⟨G,I,O,hC,hS,h,Z,d⟩:=uH N
         have p0:=G.c0;have p1:=G.c1
         by_cases a6:m<0∧0<L.length
         ·obtain⟨hg,hp⟩:=a6
          have ak:(0:Int)<(L.length:Int):=by omega
          have D:=Z
          rw[←Eo _ _ (by omega)]at D
          have V:=aa D
          have F:=aa d;have X0:=aa G;have X1:=aa I;have l:=aa h;have Y:=aa O
          clear Z D G I O hC hS d N h
          go_wp2_with fail
          refine(rV H a c L wr (uH Y) (by have:=uH l;omega)).mono ?_
          rintro e w2 ⟨v,rfl,⟨n2,a2,c2,L2,rfl,i1⟩,f⟩
          have I1:=aa i1
          have t:=(uH X0).below f (uH X0).lt
          have Z1:=(uH X1).below f (uH X1).lt
          have r0:=t.c0;have r1:=t.c1;have f0:=t.free 0;have f1:=t.free 1
          have B2:=aa ((uH F).trans (f.mono (uH F).size))
          have K:=aa t;have M:=aa Z1
          clear i1 f t Z1
          go_wp2
          go_roundw
          case rel=>exact⟨m+1,n2,a2,c2,L2,by go_num,by omega,by omega,xM.step (v:=an L/2) (uH K) (uH M) (uH I1) rfl (uH V) (by have:=uH l;omega) (uH B2)⟩
          case measure=>simp[intOf];omega
         ·have am:=N.out.last (by rcases Nat.eq_zero_or_pos L.length with e|e;(right;exact List.length_eq_zero_iff.1 e);(left;omega))
          have ba:=aa am
          have X1:=aa I;have F:=aa d;have Y:=aa O
          have y0:=I.c0;have y1:=I.c1;have f0:=I.free 0;have f1:=I.free 1
          rcases(show(m<0∧¬(0:Int)<(L.length:Int))∨¬m<0 by omega)with⟨hg,hp⟩|hg
          all_goals
           clear N G I O hC hS h Z d a6 am
           go_wp2
           refine bodyPost_ret (v:=.agg #[.bool H,.slice a L.length c]) (by simp[results,Tryz.results141,go_sem,y0,y1]) rfl ⟨.agg #[.bool H,.slice a L.length c],rfl,?_,?_⟩
           ·obtain⟨neg,a',c',L',e1,e2,e3⟩:=uH ba
            refine⟨neg,a',c',L',e1,e2.box (uH X1) _ _,e3⟩
           ·exact((uH F).setCell (by simp) _).setCell (by simp) _
theorem oT(ao:Option Addr)(d:Nat)(n:Int)(w:World):
  Calls Tryz.prog 141 #[.agg #[.bool false,.slice ao 0 d],.int .i64 n] w fun e t=>∃v,e=.returned v∧aw 0 t v 0∧Below w.heap.size w t:=by
 rcases(show(32≤n∧0<n∧¬n≤-32∧¬n<0)∨(¬32≤n∧0<n∧¬n≤-32∧¬n<0)∨(¬32≤n∧¬0<n∧¬n≤-32∧¬n<0)∨(¬32≤n∧¬0<n∧¬n≤-32∧n<0)∨(¬32≤n∧¬0<n∧n≤-32∧n<0) by omega)with⟨f,h,l,m⟩|⟨f,h,l,m⟩|⟨f,h,l,m⟩|⟨f,h,l,m⟩|⟨f,h,l,m⟩
 all_goals
  go_enter Tryz.func141,Tryz.ntmps141
  go_wp2
  go_loopw[1] (fun i wr=>i=.int .i64 n∧wr=(w.alloc (.cells #[.bool false,.slice ao 0 d] 45)).alloc (.cells #[.bool false,.slice none 0 0] 45)) (fun _ _=>0)
  case atStart=>exact⟨rfl,rfl⟩
  case round=>
   obtain⟨rfl,rfl⟩:=hrel
   go_wp2
   go_loopw[1] (fun i wr=>i=.int .i64 n∧wr=(w.alloc (.cells #[.bool false,.slice ao 0 d] 45)).alloc (.cells #[.bool false,.slice none 0 0] 45)) (fun _ _=>0)
   case atStart=>exact⟨rfl,rfl⟩
   case round=>
    obtain⟨rfl,rfl⟩:=hrel
    go_wp2
    go_loopw[1] (fun i wr=>i=.int .i64 n∧wr=(w.alloc (.cells #[.bool false,.slice ao 0 d] 45)).alloc (.cells #[.bool false,.slice none 0 0] 45)) (fun _ _=>0)
    case atStart=>exact⟨rfl,rfl⟩
    case round=>
     obtain⟨rfl,rfl⟩:=hrel
     go_wp2
     go_loopw[1] (fun i wr=>i=.int .i64 n∧wr=(w.alloc (.cells #[.bool false,.slice ao 0 d] 45)).alloc (.cells #[.bool false,.slice none 0 0] 45)) (fun _ _=>0)
     case atStart=>exact⟨rfl,rfl⟩
     case round=>
      obtain⟨rfl,rfl⟩:=hrel
      go_wp2
      refine bodyPost_ret (v:=.agg #[.bool false,.slice ao 0 d]) (by simp[results,Tryz.results141,go_sem]) rfl ⟨.agg #[.bool false,.slice ao 0 d],rfl,aw.zero _ _ _ _,?_⟩
      exact((Below.refl _ _).alloc (Nat.le_refl _) _).alloc (by simp) _
theorem qy(d:Bool)(ao:Option Addr)(f:Nat)(A:List Nat)(n:Int)(w:World)(m:ag w ao f A)(t:av d A=true)(y:-16384≤n∧n≤16384):
  Calls Tryz.prog 141 #[.agg #[.bool d,.slice ao A.length f],.int .i64 n] w fun e h=>∃v,e=.returned v∧aw 0 h v (oR d A n)∧Below w.heap.size w h:=by
 have z:=ay t
 by_cases l:A= []
 ·subst l
  have:d=false:=by cases d<;>simp_all
  subst this
  have e:oR false [] n=0:=by rw[my];simp[an,mZ,sg]
  rw[e]
  exact oT ao f n w
 ·exact oS d ao f A n w m l z.2.1 (by omega) y
def JM(n:Bool)(L:List Nat):Bool:=decide (L.length≤40)|| !av n L
end Go.Proofs.YtlnphkioddknfaaGreatDoor
namespace Go.Proofs.YtlnphkioddknfaaGreatDoor
open Go.RowKit
def iH(x:Int):Bool:=decide (-9223372036854775808≤x∧x≤9223372036854775807)
def rD(neg:Bool)(L:List Nat):Int:=if av neg L then(if iH (af neg L)then 0 else 2)else 1
def rE(neg:Bool)(L:List Nat):Int:=if av neg L&&iH (af neg L)then af neg L else 0
theorem ku(v x i:Nat)(d:v<2^i):v|||x*2^i=v+x*2^i:=by
 have:=Nat.two_pow_add_eq_or_of_lt d x
 rw[Nat.mul_comm x,Nat.or_comm,←this];omega
theorem Es(v x k:Nat)(f:k≤1)(d:v<4294967296^k)(h:x<4294967296):
  bits BinOp.or IntKind.u64 (v:Int) (IntKind.u64.wrap ((x:Int)*2^(k*32)))=((v+4294967296^k*x:Nat):Int):=by
 rcases(show k=0∨k=1 by omega)with rfl|rfl
 ·have e:IntKind.u64.wrap ((x:Int)*2^(0*32))=((x:Nat):Int):=by
   simp only[IntKind.wrap,IntKind.signed,IntKind.bits];simp;omega
  rw[e,u64_or_nat v x (by simp at d;omega) (by omega)]
  have:v=0:=by simpa using d
  subst this;simp
 ·have e:IntKind.u64.wrap ((x:Int)*2^(1*32))=((x*2^32:Nat):Int):=by
   simp only[IntKind.wrap,IntKind.signed,IntKind.bits];simp;omega
  rw[e,u64_or_nat v (x*2^32) (by simp at d;omega) (by omega),ku v x 32 (by simpa using d)]
  congr 1
  simp;omega
theorem xN(v:Nat)(d:v≤9223372036854775808):wrap64 (IntKind.u64.wrap (-(v:Int)))= -(v:Int):=by
 unfold wrap64
 simp only[IntKind.wrap,IntKind.signed,IntKind.bits]
 simp
 omega
theorem rW(neg:Bool)(ao:Option Addr)(cap:Nat)(L:List Nat)(w:World)(h:ag w ao cap L)(N:av neg L=true)(hl:L.length≤2):
  Calls Tryz.prog 267 #[.agg #[.bool neg,.slice ao L.length cap]] w fun e w'=>e=.returned (.tuple #[.int .i64 (rE neg L),.int .i64 (rD neg L)])∧Below w.heap.size w w':=by
 have m:=dW neg ao cap L (w.alloc (.cells #[.bool neg,.slice ao L.length cap] 45)) (h.below ((Below.refl _ _).alloc (Nat.le_refl _) _)) (by omega)
 have hz:ep neg L=0:=by simp[ep,N]
 rw[hz]at m
 have hF:(neg=true→an L≤9223372036854775808→rE neg L= -(an L:Int)∧rD neg L=0)∧(neg=true→9223372036854775808<an L→rE neg L=0∧rD neg L=2)∧(neg=false→an L<9223372036854775808→rE neg L=(an L:Int)∧rD neg L=0)∧(neg=false→9223372036854775808≤an L→rE neg L=0∧rD neg L=2):=by
  unfold rE rD
  rw[N]
  refine⟨?_,?_,?_,?_⟩<;>(rintro rfl d;simp only[af,iH,if_true,Bool.true_and,Bool.false_eq_true,if_false])
  ·rw[decide_eq_true (by omega)];simp
  ·rw[decide_eq_false (by omega)];simp
  ·rw[decide_eq_true (by omega)];simp
  ·rw[decide_eq_false (by omega)];simp
 have l:=aa hF
 clear hF
 generalize rE neg L=r at*
 generalize rD neg L=e2 at*
 have y:=aa m
 clear m hz N
 go_enter Tryz.func267,Tryz.ntmps267
 go_wp2_with fail
 refine(uH y).mono ?_
 rintro e Y ⟨rfl,t⟩
 have O:aA Y w.heap.size (.bool neg) (.slice ao L.length cap):=(aA.new _ _ _).below t (by simp)
 have p0:=O.c0;have p1:=O.c1
 have f:Below w.heap.size w Y:=((Below.refl _ _).alloc (Nat.le_refl _) _).trans (t.mono (by simp))
 clear O t y
 go_wp2
 go_loop [5,19] (fun s i=>∃k:Nat,k≤L.length∧i=.int .i64 k∧s=.int .u64 ((an (L.take k):Nat):Int)) (fun _ i=>L.length-(intOf i).toNat)
 case atStart=>exact⟨0,Nat.zero_le _,rfl,by simp[an]⟩
 case round=>
  obtain⟨k,hk,rfl,rfl⟩:=hrel
  by_cases z:k<L.length
  ·obtain⟨b,M,X,hb,hc⟩:=h.ne (by omega)
   have c1:=hc k z
   have d1:Y.cell? ⟨b,M+k,none⟩=some (.int .u32 ((L[k]?.getD 0:Nat):Int)):=by rw[f.cell (p:=⟨b,M+k,none⟩) hb];exact c1
   have hx:=h.lt k
   have d:=gH L h.2.1 k
   have A:=aH L k
   have Q:=aa A
   clear c1 hc A
   generalize L[k]?.getD 0=x at*
   generalize Z:an (L.take k)=v at*
   clear Z h
   subst X
   have U:k≤1:=by omega
   have D:=Es v x k U d hx
   have V:=aa D
   clear D
   go_wp2
   go_round
   case rel=>exact⟨k+1,by omega,by go_num,cN (by rw[uH V,uH Q])⟩
   case measure=>simp[intOf];omega
  ·have F:k=L.length:=by omega
   rw[F,List.take_length]
   clear F hk z
   have G:=ei L h.2.1
   have I:an L<18446744073709551616:=by
    refine Nat.lt_of_lt_of_le G ?_
    have:=Nat.pow_le_pow_right (n:=4294967296) (by decide) hl
    simpa using this
   generalize an L=v at*
   clear G h
   cases neg
   ·rcases Nat.lt_or_ge v 9223372036854775808 with d|d
    ·have H:=aa ((uH l).2.2.1 rfl d)
     have K:(v:Int)<9223372036854775808:=by omega
     clear l d I
     go_wp2
     go_ret2
     exact⟨h9 (uH H).1.symm (uH H).2.symm,f⟩
    ·have H:=aa ((uH l).2.2.2 rfl d)
     have K:¬(v:Int)<9223372036854775808:=by omega
     clear l
     go_wp2
     go_ret2
     exact⟨h9 (uH H).1.symm (uH H).2.symm,f⟩
   ·rcases Nat.lt_or_ge 9223372036854775808 v with d|d
    ·have H:=aa ((uH l).2.1 rfl d)
     have K:¬(v:Int)≤9223372036854775808:=by omega
     clear l
     go_wp2
     go_ret2
     exact⟨h9 (uH H).1.symm (uH H).2.symm,f⟩
    ·have H:=aa ((uH l).1 rfl d)
     clear l
     go_wp2
     go_ret2
     refine⟨h9 ?_ (uH H).2.symm,f⟩
     rw[(uH H).1]
     exact xN v d
theorem pB(neg:Bool)(ao:Option Addr)(cap:Nat)(L:List Nat)(w:World)(h:ag w ao cap L)(F:L.length≤35184372088830):
  Calls Tryz.prog 267 #[.agg #[.bool neg,.slice ao L.length cap]] w fun e I=>e=.returned (.tuple #[.int .i64 (rE neg L),.int .i64 (rD neg L)])∧Below w.heap.size w I:=by
 cases hr:av neg L
 ·have d:=dW neg ao cap L (w.alloc (.cells #[.bool neg,.slice ao L.length cap] 45)) (h.below ((Below.refl _ _).alloc (Nat.le_refl _) _)) F
  have m:ep neg L=1:=by simp[ep,hr]
  rw[m]at d
  have l:=aa d
  have H:=aa (show rE neg L=0∧rD neg L=1 by simp[rE,rD,hr])
  generalize rE neg L=r at*
  generalize rD neg L=M at*
  clear d m hr
  go_enter Tryz.func267,Tryz.ntmps267
  go_wp2_with fail
  refine(uH l).mono ?_
  rintro e D ⟨rfl,f⟩
  go_wp2
  go_ret2
  exact⟨h9 (uH H).1.symm (uH H).2.symm,((Below.refl _ _).alloc (Nat.le_refl _) _).trans (f.mono (by simp))⟩
 ·by_cases y:L.length≤2
  ·exact rW neg ao cap L w h hr y
  ·have d:=dW neg ao cap L (w.alloc (.cells #[.bool neg,.slice ao L.length cap] 45)) (h.below ((Below.refl _ _).alloc (Nat.le_refl _) _)) F
   have m:ep neg L=0:=by simp[ep,hr]
   rw[m]at d
   have l:=aa d
   have t:18446744073709551616≤an L:=by
    rcases(ay hr).2.1 with e|e
    ·rw[e]at y;simp at y
    ·have N:=k8 L e
     have K:=Nat.pow_le_pow_right (n:=4294967296) (by decide) (show 2≤L.length-1 by omega)
     simp at K;omega
   have G:iH (af neg L)=false:=by
    unfold iH af
    rw[decide_eq_false_iff_not]
    cases neg<;>simp<;>omega
   have H:=aa (show rE neg L=0∧rD neg L=2 by simp[rE,rD,hr,G])
   generalize rE neg L=r at*
   generalize rD neg L=M at*
   clear d m hr t G
   go_enter Tryz.func267,Tryz.ntmps267
   go_wp2_with fail
   refine(uH l).mono ?_
   rintro e D ⟨rfl,f⟩
   have z:aA D w.heap.size (.bool neg) (.slice ao L.length cap):=(aA.new _ _ _).below f (by simp)
   have O:=z.c0;have Q:=z.c1
   have A:Below w.heap.size w D:=((Below.refl _ _).alloc (Nat.le_refl _) _).trans (f.mono (by simp))
   clear z f l
   go_wp2
   go_ret2
   exact⟨h9 (uH H).1.symm (uH H).2.symm,A⟩
theorem f7(n:Int)(w:World)(Z:-9223372036854775808≤n)(h1:n≤9223372036854775807):
  Calls Tryz.prog 89 #[.int .i64 n] w fun e O=>∃v,e=.returned v∧aE 2 w.heap.size O v n∧Below w.heap.size w O:=by
 obtain⟨m,l⟩:∃m,m=n.natAbs:=⟨_,rfl⟩
 have Q:bf [m%4294967296,m/4294967296]:=by intro x Y;simp at Y;omega
 have U:=aa Q
 have H:=aa l
 clear Q l
 by_cases hn:n<0
 ·have t:af true [m%4294967296,m/4294967296]=n:=by
   have:=uH H
   unfold af;rw[if_pos rfl,mw];omega
  have I:=aa t
  clear t
  go_enter Tryz.func89,Tryz.ntmps89
  go_wp2_with fail
  have l:=uH H
  have y:=jC (w.alloc (.cells #[.bool false,.slice none 0 0] 45)) (w.heap.size+1) ((-(n+1)+1)%4294967296) ((-(n+1)+1)/4294967296) (m%4294967296) (m/4294967296) (by simp) (by omega) (by omega)
  refine(c8 (w.heap.size+1) true (some ⟨w.heap.size+1,0,none⟩) 2 [m%4294967296,m/4294967296] _ (y.limbs (uH U) 2 (by simp)) (.inr ⟨_,_,rfl,Nat.le_refl _⟩) (by simp)).mono ?_
  rw[uH I]
  rintro e N ⟨v,rfl,⟨z,A,D,F,rfl,G⟩,d⟩
  have f:aA N w.heap.size (.bool false) (.slice none 0 0):=((aA.new _ _ _).old _).below d (by simp;omega)
  have K:=f.c0;have L:=f.c1;have V:=f.free 0;have X:=f.free 1
  have M:=aa G
  have h:=aa ((((Below.refl _ w).alloc (Nat.le_refl _) (.cells #[.bool false,.slice none 0 0] 45)).alloc (by simp) _).trans (d.mono (by simp;omega)))
  clear G d f y l
  go_wp2
  refine bodyPost_ret (v:=.agg #[.bool z,.slice A F.length D]) (by simp[results,Tryz.results89,go_sem,K,L]) rfl ⟨.agg #[.bool z,.slice A F.length D],rfl,?_,?_⟩
  ·exact aE.stored (uH M) (by simp) (by simp) (by omega) _ _
  ·exact((uH h).setCell (by simp) _).setCell (by simp) _
 ·have t:af false [m%4294967296,m/4294967296]=n:=by
   have:=uH H
   unfold af;rw[if_neg (by decide),mw];omega
  have I:=aa t
  clear t
  go_enter Tryz.func89,Tryz.ntmps89
  go_wp2_with fail
  have l:=uH H
  have y:=jC (w.alloc (.cells #[.bool false,.slice none 0 0] 45)) (w.heap.size+1) (n%4294967296) (n/4294967296) (m%4294967296) (m/4294967296) (by simp) (by omega) (by omega)
  refine(c8 (w.heap.size+1) false (some ⟨w.heap.size+1,0,none⟩) 2 [m%4294967296,m/4294967296] _ (y.limbs (uH U) 2 (by simp)) (.inr ⟨_,_,rfl,Nat.le_refl _⟩) (by simp)).mono ?_
  rw[uH I]
  rintro e N ⟨v,rfl,⟨z,A,D,F,rfl,G⟩,d⟩
  have f:aA N w.heap.size (.bool false) (.slice none 0 0):=((aA.new _ _ _).old _).below d (by simp;omega)
  have K:=f.c0;have L:=f.c1;have V:=f.free 0;have X:=f.free 1
  have M:=aa G
  have h:=aa ((((Below.refl _ w).alloc (Nat.le_refl _) (.cells #[.bool false,.slice none 0 0] 45)).alloc (by simp) _).trans (d.mono (by simp;omega)))
  clear G d f y l
  go_wp2
  refine bodyPost_ret (v:=.agg #[.bool z,.slice A F.length D]) (by simp[results,Tryz.results89,go_sem,K,L]) rfl ⟨.agg #[.bool z,.slice A F.length D],rfl,?_,?_⟩
  ·exact aE.stored (uH M) (by simp) (by simp) (by omega) _ _
  ·exact((uH h).setCell (by simp) _).setCell (by simp) _
end Go.Proofs.YtlnphkioddknfaaGreatDoor
