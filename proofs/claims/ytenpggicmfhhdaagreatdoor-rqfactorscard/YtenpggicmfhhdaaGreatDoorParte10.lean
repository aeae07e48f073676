/- Part 10 of the texts. -/
import Derived.Test.YtenpggicmfhhdaaGreatDoorParte09
import Derived.Deep.AppendLies
import Derived.Deep.RegionLaw
set_option maxHeartbeats 4000000
set_option maxRecDepth 4000
namespace Go.Proofs.YtenpggicmfhhdaaGreatDoor
open Go.RowKit
theorem Ei{w:World}{d g n c:Nat}{S:List Nat}(h:w.ownsRow d 139 1 (.slice (some ⟨g,0,none⟩) n c) n (S.map eh))(l:bd S):af w (some ⟨g,0,none⟩) c S∧S.length=n∧d≤g∧g<w.heap.size:=by
 obtain⟨z,m,f,t,A,y⟩:=kq h l
 simp only[Value.slice.injEq]at f
 obtain⟨rfl,_,rfl⟩:=f
 exact⟨t,y,h.lt g rfl⟩
def lW(v:Nat)(m:Int):Nat:=if 0≤m then v*2^m.toNat else v/2^(-m).toNat
theorem ls(neg:Bool)(L:List Nat)(n:Int):nK neg L n=sg neg (lW (ah L) n):=rfl
theorem lY(m:Int):lW 0 m=0:=by unfold lW;split<;>simp
theorem Bt(v:Nat):lW v 0=v:=by unfold lW;simp
theorem xP(v:Nat)(m:Int)(h:32≤m):lW (4294967296*v) (m-32)=lW v m:=by
 unfold lW
 rw[if_pos (by omega),if_pos (by omega),show m.toNat=32+(m-32).toNat by omega,Nat.pow_add,←Nat.mul_assoc,Nat.mul_comm v,show(2:Nat)^32=4294967296 from rfl]
theorem Bu(v:Nat)(m:Int)(h:1≤m):lW (v+v) (m-1)=lW v m:=by
 unfold lW
 rw[if_pos (by omega),if_pos (by omega),show m.toNat=1+(m-1).toNat by omega,Nat.pow_add,←Nat.mul_assoc,show v*2^1=v+v by omega]
theorem xQ(v:Nat)(m:Int)(h:m≤-32):lW (v/4294967296) (m+32)=lW v m:=by
 unfold lW
 rw[if_neg (show¬0≤m by omega),show(-m).toNat=32+(-(m+32)).toNat by omega,Nat.pow_add,←Nat.div_div_eq_div_mul,show(2:Nat)^32=4294967296 from rfl]
 by_cases d:0≤m+32
 ·rw[if_pos d,show(m+32).toNat=0 by omega,show(-(m+32)).toNat=0 by omega];simp
 ·rw[if_neg d]
theorem Bv(v:Nat)(m:Int)(h:m≤-1):lW (v/2) (m+1)=lW v m:=by
 unfold lW
 rw[if_neg (show¬0≤m by omega),show(-m).toNat=1+(-(m+1)).toNat by omega,Nat.pow_add,←Nat.div_div_eq_div_mul,show(2:Nat)^1=2 from rfl]
 by_cases d:0≤m+1
 ·rw[if_pos d,show(m+1).toNat=0 by omega,show(-(m+1)).toNat=0 by omega];simp
 ·rw[if_neg d]
theorem Bw(d:Bool)(v:Nat)(m:Int):sg (decide (sg d v<0)) (lW v m)=sg d (lW v m):=by
 by_cases f:v=0
 ·subst f;rw[lY];unfold sg;simp
 ·have:decide (sg d v<0)=d:=by unfold sg;cases d<;>simp<;>omega
  rw[this]
theorem iV(d:Bool)(v:Nat):(sg d v).natAbs=v:=by unfold sg;cases d<;>simp
def vt(w wr:World)(z m:Int)(nn:Bool)(a:Option Addr)(c:Nat)(L:List Nat):Prop:=
 aC wr w.heap.size (.bool nn) (.slice a L.length c)∧aC wr (w.heap.size+1) (.bool false) (.slice none 0 0)∧af wr a c L∧bM L∧(nn=true→L≠ [])∧L.length+m.toNat≤20000∧sg nn (lW (ah L) m)=z∧Below w.heap.size w wr
theorem aC.put{w:World}{b:Nat}{x y:Value}(h:aC w b x y)(u u':Value):aC ((w.setCell ⟨b,0,none⟩ u).setCell ⟨b,1,none⟩ u') b u u':=by
 have d:=heap_setCell_same w b 0 _ _ u h
 have f:=heap_setCell_same (w.setCell ⟨b,0,none⟩ u) b 1 _ _ u' d
 unfold aC
 rw[f]
 simp
theorem vt.step{w f:World}{z m x:Int}{F H y:Bool}{I l:Option Addr}{K L A v M B:Nat}{d:List Nat}
  (G:aC f w.heap.size (.bool H) (.slice I K L)) (N:aC f (w.heap.size+1) (.bool false) (.slice none 0 0))
  (i:af f l A d∧bI B l d∧bM d∧y=decide (x<0)∧ah d=x.natAbs∧d.length≤M) (O:x=sg F v) (Q:sg F (lW v m)=z) (V:M+m.toNat≤20000) (h:Below w.heap.size w f):
  vt w ((f.setCell ⟨w.heap.size,0,none⟩ (.bool y)).setCell ⟨w.heap.size,1,none⟩ (.slice l d.length A)) z m y l A d:=by
 obtain⟨T,X,U,D,t,Y⟩:=i
 subst O
 rw[iV]at t
 refine⟨G.put _ _,(N.other (by simp) _).other (by simp) _,T.box G _ _,U,?_,by omega,?_,(h.setCell (by simp) _).setCell (by simp) _⟩
 ·rintro e rfl
  rw[e]at D
  simp[ah]at t
  have:=of_decide_eq_true D.symm
  rw[←t]at this
  unfold sg at this
  simp at this
 ·rw[D,t,Bw];exact Q
theorem vt.last{w wr:World}{z m:Int}{d:Bool}{a:Option Addr}{c:Nat}{L:List Nat}(h:vt w wr z m d a c L)(l:m=0∨L= []):ay 0 wr (.agg #[.bool d,.slice a L.length c]) z:=by
 obtain⟨D,F,y,A,G,H,f,I⟩:=h
 by_cases t:L= []
 ·subst t
  have:d=false:=by cases d<;>simp_all
  subst this
  simp only[ah,lY]at f
  rw[←f]
  exact ay.zero _ _ _ _
 ·rcases l with rfl|l
  ·rw[Bt]at f
   rw[←f,←de]
   exact ay.mk y (bI.zero y) A t (by omega)
  ·exact absurd l t
theorem af.drop1{w:World}{b d c:Nat}{L:List Nat}(h:af w (some ⟨b,d,none⟩) c L):af w (some ⟨b,d+1,none⟩) (c-1) (L.drop 1):=by
 refine⟨by have:=h.1;simp;omega,fun x m=>h.2.1 x (List.mem_of_mem_drop m),?_⟩
 rcases h.2.2 with y|⟨D,f,l,z,A⟩
 ·left;simp[y]
 ·simp only[Option.some.injEq,Addr.mk.injEq,and_true]at l
  obtain⟨rfl,rfl⟩:=l
  refine .inr ⟨b,d+1,rfl,z,fun i t=>?_⟩
  simp at t
  have:=A (i+1) (by omega)
  rw[show d+1+i=d+(i+1) by omega,this,List.getElem?_drop,Nat.add_comm 1 i]
theorem oD(neg:Bool)(b d c:Nat)(L:List Nat)(w:World)(h:af w (some ⟨b,d,none⟩) c L)(y:L.length≤30000):
  Calls Tryz.prog 145 #[.bool neg,.slice (some ⟨b,d+1,none⟩) (L.length-1) (c-1)] w fun e f=>∃v,e=.returned v∧aG L.length 0 f v (sg neg (ah L/4294967296))∧Below w.heap.size w f:=by
 have:=cS 0 neg _ _ (L.drop 1) w h.drop1 (bI.zero h.drop1) (by simp;omega)
 rw[de,qj L h.2.1 1]at this
 simp only[List.length_drop,Nat.pow_one]at this
 exact this.mono fun e f ⟨v,l,m,t⟩=>⟨v,l,m.more (by omega),t⟩
theorem lZ(neg:Bool)(b d:Nat)(L:List Nat)(w:World)(h:af w (some ⟨b,d,none⟩) 1 L):
  Calls Tryz.prog 145 #[.bool neg,.slice (some ⟨b,d,none⟩) 0 0] w fun e f=>∃v,e=.returned v∧aG L.length 0 f v (sg neg (ah L/4294967296))∧Below w.heap.size w f:=by
 have:=cS 0 neg (some ⟨b,d,none⟩) 0 [] w (af.nil _ _ _) (.inl rfl) (by simp)
 have y:ah L/4294967296=0:=by
  have l:=dL L h.2.1
  have m:=Nat.pow_le_pow_right (n:=4294967296) (by decide) h.1
  exact Nat.div_eq_of_lt (by omega)
 rw[y]
 rw[de]at this
 exact this.mono fun e f ⟨v,l,m,t⟩=>⟨v,l,m.more (by simp),t⟩
theorem l6(L:List Nat):ah (0::L)=4294967296*ah L:=by simp[ah]
attribute [local go_sem ↓] Go.wp_at_zero Go.wp_at_succ
theorem Bx(W:World)(d g:Nat)(f:W.heap.size=g)(h:d≤g):((W.alloc (.cells #[.int .u32 0] 139)).drew).ownsRow d 139 1 (.slice (some ⟨g,0,none⟩) 1 1) 1 [.int .u32 0]:=by
 subst f
 exact⟨by simp,.inr ⟨W.heap.size,1,#[.int .u32 0],rfl,h,heap_alloc_new W _,Nat.le_refl _,by simp[maxLen],by simp,by simp⟩⟩
theorem xT(neg:Bool)(g n c d:Nat)(S:List Nat)(w:World)(h:w.ownsRow d 139 1 (.slice (some ⟨g,0,none⟩) n c) n (S.map eh))(l:bd S)(z:n≤35184372088832):
  Calls Tryz.prog 145 #[.bool neg,.slice (some ⟨g,0,none⟩) n c] w fun e f=>∃v,e=.returned v∧aG n d f v (ad neg S)∧Below w.heap.size w f:=by
 obtain⟨m,t,y,A⟩:=Ei h l
 have:=cS d neg (some ⟨g,0,none⟩) c S w m (.inr ⟨g,0,rfl,y⟩) (by omega)
 rw[t]at this
 exact this
theorem oF{L:List Nat}(h:ah L≠0):L≠ []:=by
 rintro rfl
 simp[ah]at h
theorem nL(na:Bool)(ao:Option Addr)(ca:Nat)(A:List Nat)(n:Int)(w:World)(hA:af w ao ca A)(h0:A≠ [])(hc:bM A)(la:A.length≤3000)(hn:-16384≤n∧n≤16384):
  Calls Tryz.prog 207 #[.agg #[.bool na,.slice ao A.length ca],.int .i64 n] w fun e w'=>∃v,e=.returned v∧ay 0 w' v (nK na A n)∧Below w.heap.size w w':=by
 obtain⟨i0,hi,bb,bc,be⟩:=info_parts Tryz.info139
 have HZ:=aa (ls na A n).symm
 generalize nK na A n=z at*
 have a1:=aa h0;have HC:=aa hc
 clear h0 hc
 go_enter Tryz.func207,Tryz.ntmps207
 go_wp2
 go_loopw[1] (fun i wr=>∃(m:Int) (H:Bool) (a:Option Addr) (c:Nat) (L:List Nat),i=.int .i64 m∧-16384≤m∧m≤16384∧L≠ []∧Hid (vt w wr z m H a c L)) (fun i _=>(intOf i).toNat)
 case atStart=>
  refine⟨n,na,ao,ca,A,rfl,hn.1,hn.2,uH a1,(aC.new _ _ _).old _,?_,hA.below (((Below.refl _ _).alloc (Nat.le_refl _) _).alloc (by simp) _),uH HC,fun _=>uH a1,by omega,uH HZ,((Below.refl _ _).alloc (Nat.le_refl _) _).alloc (by simp) _⟩
  have:=aC.new (w.alloc (.cells #[.bool na,.slice ao A.length ca] 108)) (.bool false) (.slice none 0 0)
  simpa using this
 case round=>
  obtain⟨m,H,a,c,L,rfl,ae,aj,V,N⟩:=hrel
  clear HZ HC a1 hA la hn
  obtain⟨G,I,O,hC,hS,h,Y,d⟩:=uH N
  have hp:0<L.length:=List.length_pos_iff.2 V
  have am:(0:Int)<(L.length:Int):=by omega
  have p0:=G.c0;have p1:=G.c1
  have HV:Hid (ah L≠0):=fun e=>V ((aM L hC).1 e)
  by_cases hg:32≤m
  ·obtain⟨b,Q,rfl,hb,aI⟩:=O.ne hp
   have D:=Y
   rw[←xP _ _ hg]at D
   have U:=aa D
   have bo:=G.lt
   have bj:=I.lt
   have hN:∀j u,(L.map eh)[j]? =some u→((wr.alloc (.cells #[.int .u32 0] 139)).drew).cell? ((⟨b,Q,none⟩:Addr).add j)=some u:=by
    intro j u hu
    rw[List.getElem?_map]at hu
    have hj:j<L.length:=by
     rcases Nat.lt_or_ge j L.length with e|e
     ·exact e
     ·rw[List.getElem?_eq_none e]at hu;simp at hu
    have e3:(⟨b,Q,none⟩:Addr).add j=⟨b,Q+j,none⟩:=by simp[Addr.add]
    rw[e3,((((Below.refl wr.heap.size wr).alloc (Nat.le_refl _) _).drew).cell (p:=⟨b,Q+j,none⟩) hb),aI j hj]
    rw[List.getElem?_eq_getElem hj]at hu⊢
    simpa[eh]using hu
   have a0:∀u∈L.map eh,u.oneCell'=true:=by
    intro u hu
    obtain⟨y,_,rfl⟩:=List.mem_map.1 hu
    rfl
   have HF:Hid (bd (0::L)):=by
    intro y hy
    rcases List.mem_cons.1 hy with rfl|hy
    ·decide
    ·exact O.2.1 y hy
   have HN:=aa hN;have a3:=aa a0;have F:=aa d;have X0:=aa G;have Z:=aa I;have l:=aa h
   clear Y D hN a0 G I O hC hS d N aI
   have ll:L.length≤20000:=by have:=uH l;omega
   clear h
   go_wp2
   go_region_law (first|(refine step_append_lies _ (by rfl) _ _ _ (by rfl) wr.heap.size 139 i0 (.int .u32 0) 1 4 Tryz.underlying106 hi bb bc be rfl (by omega) (.slice (some ⟨wr.heap.size,0,none⟩) 1 1) 1 [.int .u32 0] (by rfl) (Bx wr wr.heap.size wr.heap.size rfl (Nat.le_refl _)) ⟨b,Q,none⟩ L.length c (L.map eh) (by rfl) (by simp) (uH HN) (uH a3) hp (by unfold maxLen;omega) (by omega) (by simp) (wr.heap.size+1) (by simp) ?_;intro g cp w1 ax T bi bt;have y0:aC w1 w.heap.size (.bool H) (.slice (some ⟨b,Q,none⟩) L.length c):=(T.block w.heap.size (by simp;omega) (by simp[Value.ownBlock];omega)).trans (((uH X0).old _).drew);have y1:aC w1 (w.heap.size+1) (.bool false) (.slice none 0 0):=(T.block (w.heap.size+1) (by simp;omega) (by simp[Value.ownBlock];omega)).trans (((uH Z).old _).drew);have q0:=y0.c0;have q1:=y0.c1;have Y0:=aa y0;have Y1:=aa y1;have B1:=aa ((((uH F).alloc (by omega) _).drew).grown T (by simp;omega) (fun k hk=>by simp[Value.ownBlock]at hk;omega));have a4:=aa ax;clear ax T bi y0 y1)|(go_simp;go_at_call 145;refine(xT H g (1+L.length) cp _ (0::L) _ (uH a4) (uH HF) (by omega)).mono ?_;rintro e w2 ⟨v,rfl,⟨n2,a2,c2,L2,rfl,i1⟩,f⟩;have I1:=aa i1;have t:=(uH Y0).below f (uH Y0).lt;have Z1:=(uH Y1).below f (uH Y1).lt;have r0:=t.c0;have r1:=t.c1;have f0:=t.free 0;have f1:=t.free 1;have B2:=aa ((uH B1).trans (f.mono (uH B1).size));have K:=aa t;have M:=aa Z1;clear i1 f t Z1))
   all_goals
    go_wp2
    go_roundw
    case rel=>
     refine⟨m-32,n2,a2,c2,L2,by go_num,by omega,by omega,oF ?_,vt.step (v:=4294967296*ah L) (uH K) (uH M) (uH I1) (by rw[de,l6]) (uH U) (by have:=uH l;omega) (uH B2)⟩
     have h5:=(uH I1).2.2.2.2.1
     rw[aS,l6]at h5
     have:=uH HV
     omega
    case measure=>simp[intOf];omega
  ·have HI:=N
   have a7:¬(32:Int)≤m:=by omega
   clear N G I O hC hS h Y d
   go_wp2
   go_loopw[1] (fun i wr=>∃(m:Int) (H:Bool) (a:Option Addr) (c:Nat) (L:List Nat),i=.int .i64 m∧-16384≤m∧m≤31∧L≠ []∧Hid (vt w wr z m H a c L)) (fun i _=>(intOf i).toNat)
   case atStart=>exact⟨m,H,a,c,L,rfl,by omega,by omega,V,HI⟩
   case round=>
    clear HI HV p0 p1 am hp V a7 hg ae aj
    obtain⟨m,H,a,c,L,rfl,ae,aj,V,N⟩:=hrel
    obtain⟨G,I,O,hC,hS,h,Y,d⟩:=uH N
    have hp:0<L.length:=List.length_pos_iff.2 V
    have am:(0:Int)<(L.length:Int):=by omega
    have p0:=G.c0;have p1:=G.c1
    by_cases hg:0<m
    ·have HV:Hid (ah L≠0):=fun e=>V ((aM L hC).1 e)
     have D:=Y
     rw[←Bu _ _ (by omega)]at D
     have U:=aa D
     have F:=aa d;have X0:=aa G;have Z:=aa I;have l:=aa h;have X:=aa O
     clear Y D G I O hC hS d N h
     go_wp2_with fail
     refine(sE H a c L wr (uH X) (by have:=uH l;omega)).mono ?_
     rintro e w2 ⟨v,rfl,⟨n2,a2,c2,L2,rfl,i1⟩,f⟩
     have I1:=aa i1
     have t:=(uH X0).below f (uH X0).lt
     have Z1:=(uH Z).below f (uH Z).lt
     have r0:=t.c0;have r1:=t.c1;have f0:=t.free 0;have f1:=t.free 1
     have B2:=aa ((uH F).trans (f.mono (uH F).size))
     have K:=aa t;have M:=aa Z1
     clear i1 f t Z1
     go_wp2
     go_roundw
     case rel=>
      refine⟨m-1,n2,a2,c2,L2,by go_num,by omega,by omega,oF ?_,vt.step (v:=ah L+ah L) (uH K) (uH M) (uH I1) rfl (uH U) (by have:=uH l;omega) (uH B2)⟩
      have h5:=(uH I1).2.2.2.2.1
      rw[iV]at h5
      have:=uH HV
      omega
     case measure=>simp[intOf];omega
    ·have HI:=N
     clear N G I O hC hS h Y d
     go_wp2
     go_loopw[1] (fun i wr=>∃(m:Int) (H:Bool) (a:Option Addr) (c:Nat) (L:List Nat),i=.int .i64 m∧-16384≤m∧m≤0∧Hid (vt w wr z m H a c L)) (fun i _=>(-(intOf i)).toNat)
     case atStart=>exact⟨m,H,a,c,L,rfl,by omega,by omega,HI⟩
     case round=>
      clear HI p0 p1 am hp V hg ae aj
      obtain⟨m,H,a,c,L,rfl,ae,aj,N⟩:=hrel
      obtain⟨G,I,O,hC,hS,h,Y,d⟩:=uH N
      have p0:=G.c0;have p1:=G.c1
      by_cases a5:m≤-32∧0<L.length
      ·obtain⟨hg,hp⟩:=a5
       ·have am:(0:Int)<(L.length:Int):=by omega
        have bm:=O.1
        obtain⟨b,Q,rfl,hb,aI⟩:=O.ne hp
        have D:=Y
        rw[←xQ _ _ hg]at D
        have U:=aa D
        have F:=aa d;have X0:=aa G;have Z:=aa I;have l:=aa h;have X:=aa (O.below ((Below.refl _ _).drew))
        clear Y D G I O hC hS d N h aI
        go_wp2
        have bp:(1:Int)≤(L.length:Int):=by omega
        have bq:(L.length:Int)≤(c:Int):=by omega
        have br:(1:Int)≤(c:Int):=by omega
        by_cases a9:c=1
        ·subst a9
         go_region_with (go_at_call 145;refine(lZ H b Q L _ (uH X)).mono ?_;rintro e w2 ⟨v,rfl,⟨n2,a2,c2,L2,rfl,i1⟩,f⟩;have I1:=aa i1;have t:=(uH X0).drew.below f (uH X0).drew.lt;have Z1:=(uH Z).drew.below f (uH Z).drew.lt;have r0:=t.c0;have r1:=t.c1;have f0:=t.free 0;have f1:=t.free 1;have B2:=aa (((uH F).drew).trans (f.mono ((uH F).drew).size));have K:=aa t;have M:=aa Z1;clear i1 f t Z1)
         all_goals
          go_wp2
          go_roundw
          case rel=>exact⟨m+32,n2,a2,c2,L2,by go_num,by omega,by omega,vt.step (v:=ah L/4294967296) (uH K) (uH M) (uH I1) rfl (uH U) (by have:=uH l;omega) (uH B2)⟩
          case measure=>simp[intOf];omega
        ·have bn:¬(c:Int)=1:=by omega
         go_region_with (go_at_call 145;refine(oD H b Q c L _ (uH X) (by have:=uH l;omega)).mono ?_;rintro e w2 ⟨v,rfl,⟨n2,a2,c2,L2,rfl,i1⟩,f⟩;have I1:=aa i1;have t:=(uH X0).drew.below f (uH X0).drew.lt;have Z1:=(uH Z).drew.below f (uH Z).drew.lt;have r0:=t.c0;have r1:=t.c1;have f0:=t.free 0;have f1:=t.free 1;have B2:=aa (((uH F).drew).trans (f.mono ((uH F).drew).size));have K:=aa t;have M:=aa Z1;clear i1 f t Z1)
         all_goals
          go_wp2
          go_roundw
          case rel=>exact⟨m+32,n2,a2,c2,L2,by go_num,by omega,by omega,vt.step (v:=ah L/4294967296) (uH K) (uH M) (uH I1) rfl (uH U) (by have:=uH l;omega) (uH B2)⟩
          case measure=>simp[intOf];omega
      ·have HI:=N
       rcases(show(m≤-32∧¬(0:Int)<(L.length:Int))∨¬m≤-32 by omega)with⟨hg,hp⟩|hg
       all_goals
        clear N G I O hC hS h Y d a5
        go_wp2
        go_loopw[1] (fun i wr=>∃(m:Int) (H:Bool) (a:Option Addr) (c:Nat) (L:List Nat),i=.int .i64 m∧-16384≤m∧m≤0∧Hid (vt w wr z m H a c L)) (fun i _=>(-(intOf i)).toNat)
        case atStart=>exact⟨m,H,a,c,L,rfl,by omega,by omega,HI⟩
        case round=>
         clear HI p0 p1 hg ae aj
         obtain⟨m,H,a,c,L,rfl,ae,aj,N⟩:=hrel
         obtain⟨G,I,O,hC,hS,h,Y,d⟩:=uH N
         have p0:=G.c0;have p1:=G.c1
         by_cases a6:m<0∧0<L.length
         ·obtain⟨hg,hp⟩:=a6
          have am:(0:Int)<(L.length:Int):=by omega
          have D:=Y
          rw[←Bv _ _ (by omega)]at D
          have U:=aa D
          have F:=aa d;have X0:=aa G;have Z:=aa I;have l:=aa h;have X:=aa O
          clear Y D G I O hC hS d N h
          go_wp2_with fail
          refine(qA H a c L wr (uH X) (by have:=uH l;omega)).mono ?_
          rintro e w2 ⟨v,rfl,⟨n2,a2,c2,L2,rfl,i1⟩,f⟩
          have I1:=aa i1
          have t:=(uH X0).below f (uH X0).lt
          have Z1:=(uH Z).below f (uH Z).lt
          have r0:=t.c0;have r1:=t.c1;have f0:=t.free 0;have f1:=t.free 1
          have B2:=aa ((uH F).trans (f.mono (uH F).size))
          have K:=aa t;have M:=aa Z1
          clear i1 f t Z1
          go_wp2
          go_roundw
          case rel=>exact⟨m+1,n2,a2,c2,L2,by go_num,by omega,by omega,vt.step (v:=ah L/2) (uH K) (uH M) (uH I1) rfl (uH U) (by have:=uH l;omega) (uH B2)⟩
          case measure=>simp[intOf];omega
         ·have av:=N.out.last (by rcases Nat.eq_zero_or_pos L.length with e|e;(right;exact List.length_eq_zero_iff.1 e);(left;omega))
          have ba:=aa av
          have Z:=aa I;have F:=aa d;have X:=aa O
          have y0:=I.c0;have y1:=I.c1;have f0:=I.free 0;have f1:=I.free 1
          rcases(show(m<0∧¬(0:Int)<(L.length:Int))∨¬m<0 by omega)with⟨hg,hp⟩|hg
          all_goals
           clear N G I O hC hS h Y d a6 av
           go_wp2
           refine bodyPost_ret (v:=.agg #[.bool H,.slice a L.length c]) (by simp[results,Tryz.results207,go_sem,y0,y1]) rfl ⟨.agg #[.bool H,.slice a L.length c],rfl,?_,?_⟩
           ·obtain⟨neg,a',c',L',e1,e2,e3⟩:=uH ba
            refine⟨neg,a',c',L',e1,e2.box (uH Z) _ _,e3⟩
           ·exact((uH F).setCell (by simp) _).setCell (by simp) _
theorem nM(d:Option Addr)(f:Nat)(n:Int)(w:World):
  Calls Tryz.prog 207 #[.agg #[.bool false,.slice d 0 f],.int .i64 n] w fun e y=>∃v,e=.returned v∧ay 0 y v 0∧Below w.heap.size w y:=by
 rcases(show(32≤n∧0<n∧¬n≤-32∧¬n<0)∨(¬32≤n∧0<n∧¬n≤-32∧¬n<0)∨(¬32≤n∧¬0<n∧¬n≤-32∧¬n<0)∨(¬32≤n∧¬0<n∧¬n≤-32∧n<0)∨(¬32≤n∧¬0<n∧n≤-32∧n<0) by omega)with⟨h,l,m,t⟩|⟨h,l,m,t⟩|⟨h,l,m,t⟩|⟨h,l,m,t⟩|⟨h,l,m,t⟩
 all_goals
  go_enter Tryz.func207,Tryz.ntmps207
  go_wp2
  go_loopw[1] (fun i wr=>i=.int .i64 n∧wr=(w.alloc (.cells #[.bool false,.slice d 0 f] 108)).alloc (.cells #[.bool false,.slice none 0 0] 108)) (fun _ _=>0)
  case atStart=>exact⟨rfl,rfl⟩
  case round=>
   obtain⟨rfl,rfl⟩:=hrel
   go_wp2
   go_loopw[1] (fun i wr=>i=.int .i64 n∧wr=(w.alloc (.cells #[.bool false,.slice d 0 f] 108)).alloc (.cells #[.bool false,.slice none 0 0] 108)) (fun _ _=>0)
   case atStart=>exact⟨rfl,rfl⟩
   case round=>
    obtain⟨rfl,rfl⟩:=hrel
    go_wp2
    go_loopw[1] (fun i wr=>i=.int .i64 n∧wr=(w.alloc (.cells #[.bool false,.slice d 0 f] 108)).alloc (.cells #[.bool false,.slice none 0 0] 108)) (fun _ _=>0)
    case atStart=>exact⟨rfl,rfl⟩
    case round=>
     obtain⟨rfl,rfl⟩:=hrel
     go_wp2
     go_loopw[1] (fun i wr=>i=.int .i64 n∧wr=(w.alloc (.cells #[.bool false,.slice d 0 f] 108)).alloc (.cells #[.bool false,.slice none 0 0] 108)) (fun _ _=>0)
     case atStart=>exact⟨rfl,rfl⟩
     case round=>
      obtain⟨rfl,rfl⟩:=hrel
      go_wp2
      refine bodyPost_ret (v:=.agg #[.bool false,.slice d 0 f]) (by simp[results,Tryz.results207,go_sem]) rfl ⟨.agg #[.bool false,.slice d 0 f],rfl,ay.zero _ _ _ _,?_⟩
      exact((Below.refl _ _).alloc (Nat.le_refl _) _).alloc (by simp) _
theorem pp(d:Bool)(f:Option Addr)(h:Nat)(A:List Nat)(n:Int)(w:World)(t:af w f h A)(y:aw d A=true)(z:-16384≤n∧n≤16384):
  Calls Tryz.prog 207 #[.agg #[.bool d,.slice f A.length h],.int .i64 n] w fun e l=>∃v,e=.returned v∧ay 0 l v (nK d A n)∧Below w.heap.size w l:=by
 have D:=aA y
 by_cases m:A= []
 ·subst m
  have:d=false:=by cases d<;>simp_all
  subst this
  have e:nK false [] n=0:=by rw[ls];simp[ah,lY,sg]
  rw[e]
  exact nM f h n w
 ·exact nL d f h A n w t m D.2.1 (by omega) z
end Go.Proofs.YtenpggicmfhhdaaGreatDoor
namespace Go.Proofs.YtenpggicmfhhdaaGreatDoor
open Go.RowKit
def gX(x:Int):Bool:=decide (-9223372036854775808≤x∧x≤9223372036854775807)
def qe(neg:Bool)(L:List Nat):Int:=if aw neg L then(if gX (ad neg L)then 0 else 2)else 1
def qf(neg:Bool)(L:List Nat):Int:=if aw neg L&&gX (ad neg L)then ad neg L else 0
theorem jL(v x i:Nat)(d:v<2^i):v|||x*2^i=v+x*2^i:=by
 have:=Nat.two_pow_add_eq_or_of_lt d x
 rw[Nat.mul_comm x,Nat.or_comm,←this];omega
theorem Bz(v x k:Nat)(f:k≤1)(d:v<4294967296^k)(h:x<4294967296):
  bits BinOp.or IntKind.u64 (v:Int) (IntKind.u64.wrap ((x:Int)*2^(k*32)))=((v+4294967296^k*x:Nat):Int):=by
 rcases(show k=0∨k=1 by omega)with rfl|rfl
 ·have e:IntKind.u64.wrap ((x:Int)*2^(0*32))=((x:Nat):Int):=by
   simp only[IntKind.wrap,IntKind.signed,IntKind.bits];simp;omega
  rw[e,u64_or_nat v x (by simp at d;omega) (by omega)]
  have:v=0:=by simpa using d
  subst this;simp
 ·have e:IntKind.u64.wrap ((x:Int)*2^(1*32))=((x*2^32:Nat):Int):=by
   simp only[IntKind.wrap,IntKind.signed,IntKind.bits];simp;omega
  rw[e,u64_or_nat v (x*2^32) (by simp at d;omega) (by omega),jL v x 32 (by simpa using d)]
  congr 1
  simp;omega
theorem vu(v:Nat)(d:v≤9223372036854775808):wrap64 (IntKind.u64.wrap (-(v:Int)))= -(v:Int):=by
 unfold wrap64
 simp only[IntKind.wrap,IntKind.signed,IntKind.bits]
 simp
 omega
theorem qB(neg:Bool)(z:Option Addr)(f:Nat)(L:List Nat)(w:World)(h:af w z f L)(Q:aw neg L=true)(hl:L.length≤2):
  Calls Tryz.prog 163 #[.agg #[.bool neg,.slice z L.length f]] w fun e w'=>e=.returned (.tuple #[.int .i64 (qf neg L),.int .i64 (qe neg L)])∧Below w.heap.size w w':=by
 have t:=dD neg z f L (w.alloc (.cells #[.bool neg,.slice z L.length f] 108)) (h.below ((Below.refl _ _).alloc (Nat.le_refl _) _)) (by omega)
 have hz:dO neg L=0:=by simp[dO,Q]
 rw[hz]at t
 have hF:(neg=true→ah L≤9223372036854775808→qf neg L= -(ah L:Int)∧qe neg L=0)∧(neg=true→9223372036854775808<ah L→qf neg L=0∧qe neg L=2)∧(neg=false→ah L<9223372036854775808→qf neg L=(ah L:Int)∧qe neg L=0)∧(neg=false→9223372036854775808≤ah L→qf neg L=0∧qe neg L=2):=by
  unfold qf qe
  rw[Q]
  refine⟨?_,?_,?_,?_⟩<;>(rintro rfl d;simp only[ad,gX,if_true,Bool.true_and,Bool.false_eq_true,if_false])
  ·rw[decide_eq_true (by omega)];simp
  ·rw[decide_eq_false (by omega)];simp
  ·rw[decide_eq_true (by omega)];simp
  ·rw[decide_eq_false (by omega)];simp
 have m:=aa hF
 clear hF
 generalize qf neg L=r at*
 generalize qe neg L=e2 at*
 have A:=aa t
 clear t hz Q
 go_enter Tryz.func163,Tryz.ntmps163
 go_wp2_with fail
 refine(uH A).mono ?_
 rintro e Z ⟨rfl,y⟩
 have T:aC Z w.heap.size (.bool neg) (.slice z L.length f):=(aC.new _ _ _).below y (by simp)
 have p0:=T.c0;have p1:=T.c1
 have l:Below w.heap.size w Z:=((Below.refl _ _).alloc (Nat.le_refl _) _).trans (y.mono (by simp))
 clear T y A
 go_wp2
 go_loop [5,19] (fun s i=>∃k:Nat,k≤L.length∧i=.int .i64 k∧s=.int .u64 ((ah (L.take k):Nat):Int)) (fun _ i=>L.length-(intOf i).toNat)
 case atStart=>exact⟨0,Nat.zero_le _,rfl,by simp[ah]⟩
 case round=>
  obtain⟨k,hk,rfl,rfl⟩:=hrel
  by_cases D:k<L.length
  ·obtain⟨b,O,Y,hb,hc⟩:=h.ne (by omega)
   have c1:=hc k D
   have d1:Z.cell? ⟨b,O+k,none⟩=some (.int .u32 ((L[k]?.getD 0:Nat):Int)):=by rw[l.cell (p:=⟨b,O+k,none⟩) hb];exact c1
   have hx:=h.lt k
   have d:=gc L h.2.1 k
   have F:=aJ L k
   have U:=aa F
   clear c1 hc F
   generalize L[k]?.getD 0=x at*
   generalize ae:ah (L.take k)=v at*
   clear ae h
   subst Y
   have V:k≤1:=by omega
   have G:=Bz v x k V d hx
   have X:=aa G
   clear G
   go_wp2
   go_round
   case rel=>exact⟨k+1,by omega,by go_num,cH (by rw[uH X,uH U])⟩
   case measure=>simp[intOf];omega
  ·have I:k=L.length:=by omega
   rw[I,List.take_length]
   clear I hk D
   have K:=dL L h.2.1
   have M:ah L<18446744073709551616:=by
    refine Nat.lt_of_lt_of_le K ?_
    have:=Nat.pow_le_pow_right (n:=4294967296) (by decide) hl
    simpa using this
   generalize ah L=v at*
   clear K h
   cases neg
   ·rcases Nat.lt_or_ge v 9223372036854775808 with d|d
    ·have H:=aa ((uH m).2.2.1 rfl d)
     have N:(v:Int)<9223372036854775808:=by omega
     clear m d M
     go_wp2
     go_ret2
     exact⟨gD (uH H).1.symm (uH H).2.symm,l⟩
    ·have H:=aa ((uH m).2.2.2 rfl d)
     have N:¬(v:Int)<9223372036854775808:=by omega
     clear m
     go_wp2
     go_ret2
     exact⟨gD (uH H).1.symm (uH H).2.symm,l⟩
   ·rcases Nat.lt_or_ge 9223372036854775808 v with d|d
    ·have H:=aa ((uH m).2.1 rfl d)
     have N:¬(v:Int)≤9223372036854775808:=by omega
     clear m
     go_wp2
     go_ret2
     exact⟨gD (uH H).1.symm (uH H).2.symm,l⟩
    ·have H:=aa ((uH m).1 rfl d)
     clear m
     go_wp2
     go_ret2
     refine⟨gD ?_ (uH H).2.symm,l⟩
     rw[(uH H).1]
     exact vu v d
theorem oG(neg:Bool)(t:Option Addr)(d:Nat)(L:List Nat)(w:World)(h:af w t d L)(I:L.length≤35184372088830):
  Calls Tryz.prog 163 #[.agg #[.bool neg,.slice t L.length d]] w fun e M=>e=.returned (.tuple #[.int .i64 (qf neg L),.int .i64 (qe neg L)])∧Below w.heap.size w M:=by
 cases hr:aw neg L
 ·have f:=dD neg t d L (w.alloc (.cells #[.bool neg,.slice t L.length d] 108)) (h.below ((Below.refl _ _).alloc (Nat.le_refl _) _)) I
  have y:dO neg L=1:=by simp[dO,hr]
  rw[y]at f
  have m:=aa f
  have H:=aa (show qf neg L=0∧qe neg L=1 by simp[qf,qe,hr])
  generalize qf neg L=r at*
  generalize qe neg L=O at*
  clear f y hr
  go_enter Tryz.func163,Tryz.ntmps163
  go_wp2_with fail
  refine(uH m).mono ?_
  rintro e G ⟨rfl,l⟩
  go_wp2
  go_ret2
  exact⟨gD (uH H).1.symm (uH H).2.symm,((Below.refl _ _).alloc (Nat.le_refl _) _).trans (l.mono (by simp))⟩
 ·by_cases A:L.length≤2
  ·exact qB neg t d L w h hr A
  ·have f:=dD neg t d L (w.alloc (.cells #[.bool neg,.slice t L.length d] 108)) (h.below ((Below.refl _ _).alloc (Nat.le_refl _) _)) I
   have y:dO neg L=0:=by simp[dO,hr]
   rw[y]at f
   have m:=aa f
   have z:18446744073709551616≤ah L:=by
    rcases(aA hr).2.1 with e|e
    ·rw[e]at A;simp at A
    ·have Q:=kn L e
     have N:=Nat.pow_le_pow_right (n:=4294967296) (by decide) (show 2≤L.length-1 by omega)
     simp at N;omega
   have K:gX (ad neg L)=false:=by
    unfold gX ad
    rw[decide_eq_false_iff_not]
    cases neg<;>simp<;>omega
   have H:=aa (show qf neg L=0∧qe neg L=2 by simp[qf,qe,hr,K])
   generalize qf neg L=r at*
   generalize qe neg L=O at*
   clear f y hr z K
   go_enter Tryz.func163,Tryz.ntmps163
   go_wp2_with fail
   refine(uH m).mono ?_
   rintro e G ⟨rfl,l⟩
   have D:aC G w.heap.size (.bool neg) (.slice t L.length d):=(aC.new _ _ _).below l (by simp)
   have T:=D.c0;have U:=D.c1
   have F:Below w.heap.size w G:=((Below.refl _ _).alloc (Nat.le_refl _) _).trans (l.mono (by simp))
   clear D l m
   go_wp2
   go_ret2
   exact⟨gD (uH H).1.symm (uH H).2.symm,F⟩
theorem fp(n:Int)(w:World)(Y:-9223372036854775808≤n)(Z:n≤9223372036854775807):
  Calls Tryz.prog 120 #[.int .i64 n] w fun e O=>∃v,e=.returned v∧aG 2 w.heap.size O v n∧Below w.heap.size w O:=by
 obtain⟨m,l⟩:∃m,m=n.natAbs:=⟨_,rfl⟩
 have Q:bd [m%4294967296,m/4294967296]:=by intro x X;simp at X;omega
 have T:=aa Q
 have H:=aa l
 clear Q l
 by_cases hn:n<0
 ·have t:ad true [m%4294967296,m/4294967296]=n:=by
   have:=uH H
   unfold ad;rw[if_pos rfl,lp];omega
  have I:=aa t
  clear t
  go_enter Tryz.func120,Tryz.ntmps120
  go_wp2_with fail
  have l:=uH H
  have y:=iU (w.alloc (.cells #[.bool false,.slice none 0 0] 108)) (w.heap.size+1) ((-(n+1)+1)%4294967296) ((-(n+1)+1)/4294967296) (m%4294967296) (m/4294967296) (by simp) (by omega) (by omega)
  refine(cS (w.heap.size+1) true (some ⟨w.heap.size+1,0,none⟩) 2 [m%4294967296,m/4294967296] _ (y.limbs (uH T) 2 (by simp)) (.inr ⟨_,_,rfl,Nat.le_refl _⟩) (by simp)).mono ?_
  rw[uH I]
  rintro e N ⟨v,rfl,⟨z,A,D,F,rfl,G⟩,d⟩
  have f:aC N w.heap.size (.bool false) (.slice none 0 0):=((aC.new _ _ _).old _).below d (by simp;omega)
  have K:=f.c0;have L:=f.c1;have U:=f.free 0;have V:=f.free 1
  have M:=aa G
  have h:=aa ((((Below.refl _ w).alloc (Nat.le_refl _) (.cells #[.bool false,.slice none 0 0] 108)).alloc (by simp) _).trans (d.mono (by simp;omega)))
  clear G d f y l
  go_wp2
  refine bodyPost_ret (v:=.agg #[.bool z,.slice A F.length D]) (by simp[results,Tryz.results120,go_sem,K,L]) rfl ⟨.agg #[.bool z,.slice A F.length D],rfl,?_,?_⟩
  ·exact aG.stored (uH M) (by simp) (by simp) (by omega) _ _
  ·exact((uH h).setCell (by simp) _).setCell (by simp) _
 ·have t:ad false [m%4294967296,m/4294967296]=n:=by
   have:=uH H
   unfold ad;rw[if_neg (by decide),lp];omega
  have I:=aa t
  clear t
  go_enter Tryz.func120,Tryz.ntmps120
  go_wp2_with fail
  have l:=uH H
  have y:=iU (w.alloc (.cells #[.bool false,.slice none 0 0] 108)) (w.heap.size+1) (n%4294967296) (n/4294967296) (m%4294967296) (m/4294967296) (by simp) (by omega) (by omega)
  refine(cS (w.heap.size+1) false (some ⟨w.heap.size+1,0,none⟩) 2 [m%4294967296,m/4294967296] _ (y.limbs (uH T) 2 (by simp)) (.inr ⟨_,_,rfl,Nat.le_refl _⟩) (by simp)).mono ?_
  rw[uH I]
  rintro e N ⟨v,rfl,⟨z,A,D,F,rfl,G⟩,d⟩
  have f:aC N w.heap.size (.bool false) (.slice none 0 0):=((aC.new _ _ _).old _).below d (by simp;omega)
  have K:=f.c0;have L:=f.c1;have U:=f.free 0;have V:=f.free 1
  have M:=aa G
  have h:=aa ((((Below.refl _ w).alloc (Nat.le_refl _) (.cells #[.bool false,.slice none 0 0] 108)).alloc (by simp) _).trans (d.mono (by simp;omega)))
  clear G d f y l
  go_wp2
  refine bodyPost_ret (v:=.agg #[.bool z,.slice A F.length D]) (by simp[results,Tryz.results120,go_sem,K,L]) rfl ⟨.agg #[.bool z,.slice A F.length D],rfl,?_,?_⟩
  ·exact aG.stored (uH M) (by simp) (by simp) (by omega) _ _
  ·exact((uH h).setCell (by simp) _).setCell (by simp) _
end Go.Proofs.YtenpggicmfhhdaaGreatDoor
