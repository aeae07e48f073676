/- Part 30 of the texts. -/
import Derived.Test.YtdhmglmccafbnaaGreatDoorPartw29
set_option maxHeartbeats 16000000
set_option maxRecDepth 20000
namespace Go.Proofs.YtdhmglmccafbnaaGreatDoor
open Go.RowKit
attribute [local go_sem ↓] Go.wp_at_zero Go.wp_at_succ
structure vp (w wr:World) (H go ga gb:Nat) (r c:Int) (ao:Option Addr) (n cap:Nat) (po:Option Addr) (pc p1 p2:Nat) (so:Option Addr) (sd:Nat) (S:List Nat) (p3 p4:Nat) (to':Option Addr) (td:Nat) (T:List Nat):Prop where
 bel:Below w.heap.size w wr
 m:aw wr w.heap.size (.int .i64 r) (.int .i64 c) (.slice ao n cap)
 own:aw wr go (.int .i64 r) (.int .i64 c) (.slice po n pc)
 copy:iV (w.heap.size+1) H wr po n
 s:mg wr H ga p1 p2 so sd S
 t:mg wr H gb p3 p4 to' td T
theorem vp.all{w wr:World}{H u z D:Nat}{r c:Int}{F:Option Addr}{n f:Nat}{G:Option Addr}{J K p2:Nat}{L:Option Addr}{M:Nat}{S:List Nat}{N O:Nat}{l:Option Addr}{Q:Nat}{T:List Nat}{w':World}(h:vp w wr H u z D r c F n f G J K p2 L M S N O l Q T)(d:Below wr.heap.size wr w'):vp w w' H u z D r c F n f G J K p2 L M S N O l Q T:=
 ⟨h.bel.trans (d.mono h.bel.size),h.m.all d,h.own.all d,h.copy.below d,h.s.all d,h.t.all d⟩
theorem vp.put{w wr:World}{H F G J:Nat}{r c:Int}{K:Option Addr}{n d:Nat}{u:Option Addr}{L M p2:Nat}{N:Option Addr}{O:Nat}{S:List Nat}{Q U:Nat}{f:Option Addr}{V:Nat}{T:List Nat}(h:vp w wr H F G J r c K n d u L M p2 N O S Q U f V T){j:Nat}(Z:j<n):∃g D,u=some ⟨g,0,none⟩∧wr.cell? ⟨g,j,none⟩=some (.int .u64 D)∧wr.frozen? ⟨g,j,none⟩=false∧∀z,vp w (wr.setCell ⟨g,j,none⟩ (.int .u64 z)) H F G J r c K n d u L M p2 N O S Q U f V T:=by
 obtain⟨g,e1,e2,X,Y⟩:=h.copy.resolve_left (by omega)
 obtain⟨D,l⟩:=Y.cell Z
 exact⟨g,D,e1,l,Y.free j,fun z=>⟨h.bel.setCell (p:=⟨g,j,none⟩) (by show w.heap.size≤g;omega) _,h.m.other (p:=⟨g,j,none⟩) (h.m.away l) _,h.own.other (p:=⟨g,j,none⟩) (h.own.away l) _,h.copy.set g j z,h.s.put l X z,h.t.put l X z⟩⟩
end Go.Proofs.YtdhmglmccafbnaaGreatDoor
namespace Go.Proofs.YtdhmglmccafbnaaGreatDoor
open Go.RowKit
theorem E5(d:List Nat)(f:∀x∈d,x<18446744073709551616∧aA x=true):H9 5000 d:=by
 refine⟨f,.inr ?_⟩
 obtain⟨l,_⟩:=vR d 0 (by decide) (fun x h=>(f x h).2)
 have:=iT (iA 0 d) (by omega)
 omega
attribute [local go_sem ↓] Go.wp_at_zero Go.wp_at_succ
theorem G8(r c:Int)(u:Option Addr)(n d:Nat)(G:Option Addr)(k H:Nat)(w:World)(J:n≤35184372088830)(h:kK r c n=false):
  Calls Tryz.prog 158 #[.agg #[.int .i64 r,.int .i64 c,.slice u n d],.slice G k H] w fun e w'=>∃v,e=.returned (.tuple #[v,.int .i64 1])∧bK w.heap.size w' 0 0 [] v∧Below w.heap.size w w':=by
 have K:=aa (gd r c u n d ((w.alloc (.cells #[.int .i64 r,.int .i64 c,.slice u n d] 25)).alloc (.cells #[.int .i64 0,.int .i64 0,.slice none 0 0] 25)) J)
 rw[h,if_neg (by decide)]at K
 simp only[ah]at K
 have D:=aa (gC w (.int .i64 r) (.int .i64 c) (.slice u n d) (.int .i64 0) (.int .i64 0) (.slice none 0 0))
 clear h
 go_enter Tryz.func158,Tryz.ntmps158
 go_wp2_with fail
 refine Calls.mono (uH K) ?_
 rintro e O ⟨rfl,l⟩
 obtain⟨F,N,f⟩:=uH D O l
 clear K D l N
 have Q:=f.free 0;have U:=f.free 1;have V:=f.free 2
 have X:=f.c0;have Y:=f.c1;have Z:=f.c2
 have z:=f.put (.int .i64 0) (.int .i64 0) (.slice none 0 0)
 have L:=z.c0;have z1:=z.c1;have z2:=z.c2
 have M:=aa (aq F (b:=w.heap.size+1) (by omega) (.int .i64 0) (.int .i64 0) (.slice none 0 0))
 clear z f F
 go_wp2
 exact bodyPost_ret (v:=.tuple #[.agg #[.int .i64 0,.int .i64 0,.slice none 0 0],.int .i64 1]) (by simp[results,Tryz.results158,go_sem,L,z1,z2]) rfl ⟨_,rfl,bK.zero _ _,uH M⟩
def wj(w w':World)(r c:Nat)(S:List Nat)(I:List Int)(e:Ending):Prop:=
 ((∃j,j<I.length∧¬(0≤jk I j∧jk I j<c))∧∃v,e=.returned (.tuple #[v,.int .i64 1])∧bK w.heap.size w' 0 0 [] v)∨
    ((∀j,j<I.length→0≤jk I j∧jk I j<c)∧6<I.length∧∃v,e=.returned (.tuple #[v,.int .i64 3])∧bK w.heap.size w' 0 0 [] v)∨
    ((∀j,j<I.length→0≤jk I j∧jk I j<c)∧I.length≤6∧∃v,e=.returned (.tuple #[v,.int .i64 0])∧bK w.heap.size w' r I.length (eP r c S (a8 I)) v)
theorem yz(r c Q pc:Nat)(ao po:Option Addr)(S:List Nat)(I:List Int)(w:World)(h:Mx w ao Q r c S)(hI:fo w po pc I)(bx:I.length≤35184372088830):
  Calls Tryz.prog 158 #[.agg #[.int .i64 r,.int .i64 c,.slice ao S.length Q],.slice po I.length pc] w fun e w'=>wj w w' r c S I e∧Below w.heap.size w w':=by
 obtain⟨i0,b8,b9,ca,cb⟩:=info_parts ky
 have r6:=h.2.2.1
 have c6:=h.2.2.2
 have hl:=h.2.1
 have cy:=h.small
 have K:=aa (gd r c ao S.length Q ((w.alloc (.cells #[.int .i64 (r:Nat),.int .i64 (c:Nat),.slice ao S.length Q] 25)).alloc (.cells #[.int .i64 0,.int .i64 0,.slice none 0 0] 25)) (by omega))
 rw[vW h,if_pos (Eq.refl true)]at K
 simp only[ah]at K
 have KB:=aa (gC w (.int .i64 (r:Nat)) (.int .i64 (c:Nat)) (.slice ao S.length Q) (.int .i64 0) (.int .i64 0) (.slice none 0 0))
 obtain⟨m,hm⟩:∃m,I.length=m:=⟨_,rfl⟩
 have a5:(a8 I).length=m:=by rw[dE,hm]
 have ec:eP r c S (a8 I)=cG r m (fun i k=>bJ c S i ((a8 I).getD k 0)):=by unfold eP;rw[a5]
 obtain⟨F,hF⟩:∃F:Nat→Nat,F=fun x=>bJ c S (x/m) ((a8 I).getD (x%m) 0):=⟨_,rfl⟩
 have FV:=aa (show∀j k,k<m→F (j*m+k)=bJ c S j ((a8 I).getD k 0)from fun j k hk=>by rw[hF];show bJ c S ((j*m+k)/m) ((a8 I).getD ((j*m+k)%m) 0)=_;rw[gX hk,gY hk])
 have FM:=aa (show cG r m (fun i k=>bJ c S i ((a8 I).getD k 0))=jK F (r*m)from by rw[hF];rfl)
 have NV:=aa (show∀k,k<m→0≤jk I k→(((a8 I).getD k 0:Nat):Int)=jk I k from fun k hk h0=>by
  unfold a8 jk at*
  rw[List.getD_eq_getElem?_getD,List.getElem?_map,List.getElem?_eq_getElem (by rw[hm];exact hk)]at*
  simp only[Option.map_some,Option.getD_some]at*
  omega)
 have H:=aa (show∀w' e,(((∃j,j<m∧¬(0≤jk I j∧jk I j<c))∧∃v,e=.returned (.tuple #[v,.int .i64 1])∧bK w.heap.size w' 0 0 [] v)∨((∀j,j<m→0≤jk I j∧jk I j<c)∧6<m∧∃v,e=.returned (.tuple #[v,.int .i64 3])∧bK w.heap.size w' 0 0 [] v)∨((∀j,j<m→0≤jk I j∧jk I j<c)∧m≤6∧∃v,e=.returned (.tuple #[v,.int .i64 0])∧bK w.heap.size w' r m (jK F (r*m)) v))→wj w w' r c S I e from fun w' e q=>by
  unfold wj
  rw[ec,uH FM,hm]
  exact q)
 rw[hm]at bx⊢
 have HM:=aa h;have HI:=aa hI;have Y:=aa hm
 generalize cm:a8 I=L at*
 generalize cp:S.length=n at*
 have HL:=aa hl
 clear hF FM h cp hl hI hm ec a5 cm
 go_enter Tryz.func158,Tryz.ntmps158
 go_wp2_with fail
 refine Calls.mono (uH K) ?_
 rintro e w1 ⟨rfl,bw⟩
 obtain⟨f,hA,O⟩:=uH KB w1 bw
 clear K KB bw
 replace HM:=aa ((uH HM).below f)
 replace HI:=aa ((uH HI).below f)
 have HA:=aa hA;have HX:=aa O;have Z:=aa f
 clear hA O f
 go_wp2_with fail
 go_loopw[21] (fun a wr=>∃i:Nat,i≤m∧a=.int .i64 i∧Hid (∀j,j<i→0≤jk I j∧jk I j<c)∧Hid (Below w1.heap.size w1 wr)) (fun a _=>m-(intOf a).toNat)
 case atStart=>exact⟨0,Nat.zero_le _,rfl,fun j hj=>absurd hj (Nat.not_lt_zero j),Below.refl _ _⟩
 case round=>
  obtain⟨i,hi,rfl,hG,M⟩:=hrel
  replace HM:=aa ((uH HM).below (uH M))
  replace HI:=aa ((uH HI).below (uH M))
  replace HA:=aa ((uH HA).all (uH M))
  replace HX:=aa ((uH HX).all (uH M))
  replace Z:=aa ((uH Z).trans ((uH M).mono (uH Z).size))
  by_cases a6:i<m
  ·have bz:(i:Int)<(m:Int):=by omega
   obtain⟨b,cc,a3,bn,hc⟩:=(uH HI).ne (by rw[uH Y];omega)
   have d1:=hc i (by rw[uH Y];exact a6)
   rw[show I[i]?.getD 0=jk I i from rfl]at d1
   have ae:=aa (show(0≤jk I i∧jk I i<c)→∀j,j<i+1→0≤jk I j∧jk I j<c from fun q j hj=>by
    by_cases g:j=i
    ·rw[g];exact q
    ·exact uH hG j (by omega))
   have G:=aa (show¬(0≤jk I i∧jk I i<c)→∃j,j<m∧¬(0≤jk I j∧jk I j<c)from fun q=>⟨i,a6,q⟩)
   have cz:=(uH HI).wf i
   have y1:=(uH HA).c1
   subst a3
   generalize jk I i=x at*
   clear hc hG
   by_cases a7:x<0
   ·have U:=uH G (by omega)
    have g1:decide (x<0)=true:=decide_eq_true a7
    have a0:=aa U
    have d:=uH HX
    have f0:=d.free 0;have f1:=d.free 1;have f2:=d.free 2
    have s0:=d.c0;have s1:=d.c1;have s2:=d.c2
    have z:=d.put (.int .i64 0) (.int .i64 0) (.slice none 0 0)
    have z0:=z.c0;have z1:=z.c1;have z2:=z.c2
    have BP:=aa (aq (uH Z) (b:=w.heap.size+1) (by omega) (.int .i64 0) (.int .i64 0) (.slice none 0 0))
    clear z d U G ae
    go_wp2_with fail
    exact bodyPost_ret (v:=.tuple #[.agg #[.int .i64 0,.int .i64 0,.slice none 0 0],.int .i64 1]) (by simp[results,Tryz.results158,go_sem,z0,z1,z2]) rfl ⟨uH H _ _ (.inl ⟨uH a0,_,rfl,bK.zero _ _⟩),uH BP⟩
   ·have g1:decide (x<0)=false:=decide_eq_false a7
    by_cases a9:(c:Int)≤x
    ·have U:=uH G (by omega)
     have g2:decide ((c:Int)≤x)=true:=decide_eq_true a9
     have a0:=aa U
     have d:=uH HX
     have f0:=d.free 0;have f1:=d.free 1;have f2:=d.free 2
     have s0:=d.c0;have s1:=d.c1;have s2:=d.c2
     have z:=d.put (.int .i64 0) (.int .i64 0) (.slice none 0 0)
     have z0:=z.c0;have z1:=z.c1;have z2:=z.c2
     have BP:=aa (aq (uH Z) (b:=w.heap.size+1) (by omega) (.int .i64 0) (.int .i64 0) (.slice none 0 0))
     clear z d U G ae
     go_wp2_with fail
     exact bodyPost_ret (v:=.tuple #[.agg #[.int .i64 0,.int .i64 0,.slice none 0 0],.int .i64 1]) (by simp[results,Tryz.results158,go_sem,z0,z1,z2]) rfl ⟨uH H _ _ (.inl ⟨uH a0,_,rfl,bK.zero _ _⟩),uH BP⟩
    ·have g2:decide ((c:Int)≤x)=false:=decide_eq_false a9
     have bA:=aa (uH ae (by omega))
     clear G ae
     go_wp2_with fail
     go_round
     case rel=>exact⟨i+1,by omega,by go_num,bA,M⟩
     case measure=>first|(simp[intOf];done)|(simp[intOf];omega)
  ·have bE:i=m:=by omega
   subst bE
   have bz:¬((i:Int)<(i:Int)):=by omega
   by_cases h6:6<i
   ·have b0:(6:Int)<(i:Int):=by omega
    have d:=uH HX
    have f0:=d.free 0;have f1:=d.free 1;have f2:=d.free 2
    have s0:=d.c0;have s1:=d.c1;have s2:=d.c2
    have z:=d.put (.int .i64 0) (.int .i64 0) (.slice none 0 0)
    have z0:=z.c0;have z1:=z.c1;have z2:=z.c2
    have BP:=aa (aq (uH Z) (b:=w.heap.size+1) (by omega) (.int .i64 0) (.int .i64 0) (.slice none 0 0))
    clear z d
    go_wp2_with fail
    exact bodyPost_ret (v:=.tuple #[.agg #[.int .i64 0,.int .i64 0,.slice none 0 0],.int .i64 3]) (by simp[results,Tryz.results158,go_sem,z0,z1,z2]) rfl ⟨uH H _ _ (.inr (.inl ⟨uH hG,h6,_,rfl,bK.zero _ _⟩)),uH BP⟩
   ·have b0:(i:Int)≤6:=by omega
    obtain⟨l,ce⟩:∃l,l=wr:=⟨wr,rfl⟩
    subst ce
    obtain⟨N,hN⟩:∃N,r*i=N:=⟨_,rfl⟩
    have cv:N≤36:=by rw[←hN];exact Nat.mul_le_mul r6 (show i≤6 by omega)
    have e1:IntKind.i64.wrap ((r:Int)*(i:Int))=(N:Int):=by
     rw[bu r i,hN]
     exact cX _ (by omega)
    have e2:(r:Int)*(i:Int)=(N:Int):=by rw[bu r i,hN]
    have e3:IntKind.i64.wrap (N:Int)=(N:Int):=cX _ (by omega)
    obtain⟨w4,ci,am,bo⟩:=run_make_own (P:=Tryz.prog) l l.heap.size 23 28 i0 (.int .u64 0) 1 Tryz.underlying23 b8 b9 ca .i64 .i64 N (by rw[cb];omega) (by unfold maxLen;omega) (by simp)
    have B4:=aa (show Below l.heap.size l w4 from(Below.refl l.heap.size l).grown bo (by simp) (fun g hg=>by cases hg))
    have O4:=aa (show br l.heap.size w4 (.slice (some ⟨l.heap.size,0,none⟩) 0 N) (jK F (0*i))from⟨by rw[Nat.zero_mul];simpa[jK]using am,by rw[Nat.zero_mul];intro x hx;cases hx⟩)
    have y0:=(uH HA).c0
    have b3:=((uH HA).all (uH B4)).c0
    have b4:=aa hN
    clear am bo hN
    go_wp2_with fail
    clear ci y0 b3 e1 e2 e3
    go_loopw[9,47] (fun v a wq=>∃p:Nat,p≤r∧a=.int .i64 p∧Hid (br l.heap.size wq v (jK F (p*i)))∧Hid (Below l.heap.size l wq)) (fun _ a _=>r-(intOf a).toNat)
    case atStart=>exact⟨0,Nat.zero_le _,rfl,O4,B4⟩
    case round=>
     clear O4 B4
     obtain⟨p,hp,rfl,X,f⟩:=hrel
     by_cases a1:p<r
     ·have cA:(p:Int)<(r:Int):=by omega
      have ba:=aa (show br l.heap.size wr u9 (jK F (p*i+0))from uH X)
      clear X
      go_wp2_with fail
      go_loopw[9,52] (fun v a wq=>∃k:Nat,k≤i∧a=.int .i64 k∧Hid (br l.heap.size wq v (jK F (p*i+k)))∧Hid (Below l.heap.size l wq)) (fun _ a _=>i-(intOf a).toNat)
      case atStart=>exact⟨0,Nat.zero_le _,rfl,ba,f⟩
      case round=>
       clear ba f
       obtain⟨k,hk,rfl,X,f⟩:=hrel
       by_cases V:k<i
       ·have c3:(k:Int)<(i:Int):=by omega
        obtain⟨bq,bt⟩:=uH hG k V
        have a2:=uH NV k V bq
        obtain⟨b,cc,a3,bn,hc⟩:=(uH HI).ne (by rw[uH Y];omega)
        have d0:=hc k (by rw[uH Y];exact V)
        rw[show I[k]?.getD 0=jk I k from rfl,←a2]at d0
        have d1:=ak d0 (uH f)
        rw[←a2]at bt
        have eo:=uH FV p k V
        generalize L.getD k 0=y at*
        have bb:y<c:=by omega
        obtain⟨b2,cx,ck,bv,D,_⟩:=(uH HM).cells a1 bb
        have hu:=(uH HM).el_lt p y
        have J:=bW a1 bb
        generalize bJ c S p y=u at*
        obtain⟨q,hq⟩:∃q,p*c=q:=⟨_,rfl⟩
        rw[hq]at D J
        obtain⟨x,hx⟩:∃x,q+y=x:=⟨_,rfl⟩
        rw[hx]at D J
        have b5:x<n:=by rw[uH HL];exact J
        have c4:(x:Int)<(n:Int):=by omega
        have e2:IntKind.i64.wrap ((p:Int)*(c:Int))=(q:Int):=by
         rw[bu p c,hq]
         exact cX _ (by omega)
        have e3:IntKind.i64.wrap ((q:Int)+(y:Int))=(x:Int):=(cX _ (by omega)).trans (by omega)
        have e5:(p:Int)*(c:Int)=(q:Int):=by rw[bu p c,hq]
        have e6:(q:Int)+(y:Int)=(x:Int):=by omega
        have e7:IntKind.i64.wrap (q:Int)=(q:Int):=cX _ (by omega)
        have e8:IntKind.i64.wrap (x:Int)=(x:Int):=cX _ (by omega)
        subst ck a3
        have y1:=((uH HA).all (uH f)).c1;have y2:=((uH HA).all (uH f)).c2
        have d2:=ak D (uH f)
        obtain⟨v3,w3,ap,ax,aI,_,_⟩:=(uH X).push u hu (by rw[eO];have:=bW a1 V;have:=uH b4;omega) (uH f).size 23
        have be:=aa ap
        have O3:=aa (show br l.heap.size w3 v3 (jK F (p*i+(k+1)))from by rw[←Nat.add_assoc,kz,eo];exact ax)
        have B3:=aa ((uH f).trans aI)
        clear ap ax aI X f hc d0 a2 bq bt eo D J hq hx b5 bn bv
        go_wp2_with(at_builtin;refine aS _ rfl _ _ 23 rfl _ _ _ _ rfl rfl (uH be) ?_;clear be)
        go_round
        case rel=>exact⟨k+1,by omega,by go_num,O3,B3⟩
        case measure=>first|(simp[intOf];done)|(simp[intOf];omega)
       ·have b6:k=i:=by omega
        subst b6
        have b7:=aa (show br l.heap.size wr u9 (jK F ((p+1)*k))from by rw[Nat.add_mul,Nat.one_mul];exact uH X)
        clear X
        go_wp2_with fail
        go_round
        case rel=>exact⟨p+1,by omega,by go_num,b7,f⟩
        case measure=>first|(simp[intOf];done)|(simp[intOf];omega)
     ·have J:p=r:=by omega
      subst J
      obtain⟨b1,d1,e1,q1⟩:=(uH X).bits
      rw[eO]at e1
      subst e1
      have bg:=aa ((uH X).newB.least (uH Z).size)
      have O:=(uH HX).all (uH f)
      have bi:=(uH Z).trans ((uH f).mono (uH Z).size)
      have y0:=((uH HA).all (uH f)).c0
      obtain⟨M2,a4⟩:∃M2,p*i=M2:=⟨_,rfl⟩
      have bm:=aa a4
      rw[a4]at q1⊢
      have s0:=O.c0;have s1:=O.c1;have s2:=O.c2
      have f0:=O.free 0;have f1:=O.free 1;have f2:=O.free 2
      have z:=O.put (.int .i64 (p:Nat)) (.int .i64 (i:Nat)) (.slice b1 M2 d1)
      have z0:=z.c0;have z1:=z.c1;have z2:=z.c2
      have QP:=aa (af.putM q1 O (.int .i64 (p:Nat)) (.int .i64 (i:Nat)) (.slice b1 M2 d1))
      have BP:=aa (aq bi (b:=w.heap.size+1) (by omega) (.int .i64 (p:Nat)) (.int .i64 (i:Nat)) (.slice b1 M2 d1))
      clear q1 X O f z bi a4
      go_wp2_with fail
      exact bodyPost_ret (v:=.tuple #[.agg #[.int .i64 p,.int .i64 i,.slice b1 M2 d1],.int .i64 0]) (by simp[results,Tryz.results158,go_sem,z0,z1,z2]) rfl ⟨uH H _ _ (.inr (.inr ⟨uH hG,by omega,_,rfl,⟨b1,d1,by rw[eO,uH bm],uH bg,by rw[uH bm];exact uH QP⟩⟩)),uH BP⟩
theorem lr{S:List Nat}(h:∀x∈S,x<18446744073709551616)(k:Int):∀x∈iX S k,x<18446744073709551616:=by
 intro x d
 unfold iX at d
 obtain⟨p,_,rfl⟩:=List.mem_map.1 d
 refine gV _ _ ?_
 rw[List.getD_eq_getElem?_getD]
 cases e:S[p]? with
 |none=>decide
 |some v=>exact h v (List.mem_of_getElem? e)
theorem wl(r c:Nat)(S:List Nat):∀x∈bR r c S,x<18446744073709551616:=by
 intro x d
 unfold bR at d
 obtain⟨p,_,rfl⟩:=List.mem_map.1 d
 exact lj _ _ _ _
def rh(A:List Nat):Int:=eX (gD (aL A) A.length)
def ge(r c:Nat)(A:List Nat):Sd:=Fn r c (iX A (-rh A)) 60
def pi(r c:Nat)(A:List Nat):List Nat:=cE (bR r c (ge r c A).W) c
def iB(r c:Nat)(A:List Nat):List Nat:=iX (eP r c (ge r c A).W (pi r c A)) (rh A)
def kE(r c:Nat)(A:List Nat):List Nat:=eP c c (ge r c A).V (pi r c A)
def mq(r c:Nat)(A:List Nat):Bool:=dq (iB r c A)&&dq (kE r c A)
def ri(B:Nat)(w':World)(r c:Nat)(still fin:Bool)(W V:List Nat)(e:Ending):Prop:=
 (still=false∧e=.returned (.tuple #[.agg #[.int .i64 0,.int .i64 0,.slice none 0 0],.agg #[.int .i64 0,.int .i64 0,.slice none 0 0],.slice none 0 0,.int .i64 6]))∨
 (still=true∧fin=false∧e=.returned (.tuple #[.agg #[.int .i64 0,.int .i64 0,.slice none 0 0],.agg #[.int .i64 0,.int .i64 0,.slice none 0 0],.slice none 0 0,.int .i64 2]))∨
 (still=true∧fin=true∧∃v1 v2 g,e=.returned (.tuple #[v1,v2,.slice (some ⟨g,0,none⟩) c c,.int .i64 0])∧bK B w' r c W v1∧bK B w' c c V v2∧B≤g∧bp w' g (bR r c W))
def BT(B:Nat)(w':World)(r c:Nat)(A:List Nat)(e:Ending):Prop:=ri B w' r c (ge r c A).still (mq r c A) (iB r c A) (kE r c A) e
theorem G9(I:List Nat)(n:Nat){j:Nat}(d:j<n):jk (aL (cE I n)) j=(((cE I n).getD j 0:Nat):Int)∧(cE I n).getD j 0<n:=by
 have f:=dI I n
 refine⟨?_,?_⟩
 ·unfold jk aL
  rw[List.getElem?_map,List.getElem?_eq_getElem (by omega),List.getD_eq_getElem?_getD,List.getElem?_eq_getElem (by omega)]
  rfl
 ·refine kD I n _ ?_
  rw[List.getD_eq_getElem?_getD,List.getElem?_eq_getElem (by omega)]
  exact List.getElem_mem _
theorem oz(r c d l:Nat)(u:Option Addr)(S I:List Nat)(w:World)(h:Mx w u d r c S)(G:bB w l (cE I c)):
  Calls Tryz.prog 158 #[.agg #[.int .i64 r,.int .i64 c,.slice u S.length d],.slice (some ⟨l,0,none⟩) c c] w fun e w'=>∃v,e=.returned (.tuple #[v,.int .i64 0])∧bK w.heap.size w' r c (eP r c S (cE I c)) v∧Below w.heap.size w w':=by
 have J:=h.2.2.2
 have f:=dI I c
 have D:=G.ints (fun x H=>by have:=kD I c x H;omega)
 rw[f]at D
 have q:=yz r c d c u (some ⟨l,0,none⟩) S (aL (cE I c)) w h D (by rw[av,f];omega)
 rw[av,f]at q
 refine q.mono ?_
 rintro e w' ⟨z,L⟩
 unfold wj at z
 rw[av,f,tf]at z
 rcases z with⟨⟨j,M,F⟩,_⟩|⟨_,Q,_⟩|⟨_,_,v,rfl,N⟩
 ·obtain⟨K,O⟩:=G9 I c M
  rw[K]at F
  exact absurd ⟨by omega,by omega⟩ F
 ·omega
 ·exact⟨v,rfl,N,L⟩
structure ls (w wr:World) (g r c N M:Nat) (W V:List Nat) (wo vo:Option Addr) (wc vc:Nat):Prop where
 bel:Below w.heap.size w wr
 b4:aw wr (w.heap.size+1) (.int .i64 0) (.int .i64 0) (.slice none 0 0)
 b5:aw wr (w.heap.size+1+1) (.int .i64 0) (.int .i64 0) (.slice none 0 0)
 bw:aw wr g (.int .i64 r) (.int .i64 c) (.slice wo N wc)
 bv:aw wr (g+1) (.int .i64 c) (.int .i64 c) (.slice vo M vc)
 hg:w.heap.size+1+1<g
 mw:Mx wr wo wc r c W
 mv:Mx wr vo vc c c V
 hN:W.length=N
 hM:V.length=M
theorem ls.all{w wr w':World}{g r c N M:Nat}{W V:List Nat}{f l:Option Addr}{wc u:Nat}(h:ls w wr g r c N M W V f l wc u)(d:Below wr.heap.size wr w'):ls w w' g r c N M W V f l wc u:=
 ⟨h.bel.trans (d.mono h.bel.size),h.b4.all d,h.b5.all d,h.bw.all d,h.bv.all d,h.hg,h.mw.below d,h.mv.below d,h.hN,h.hM⟩
theorem ls.putW{w wr:World}{g r c N M:Nat}{W V:List Nat}{D u:Option Addr}{wc z:Nat}(h:ls w wr g r c N M W V D u wc z){l:List Nat}{d:Option Addr}{f:Nat}(F:Mx wr d f r c l)(G:l.length=N):
  ls w (((wr.setCell ⟨g,0,none⟩ (.int .i64 r)).setCell ⟨g,1,none⟩ (.int .i64 c)).setCell ⟨g,2,none⟩ (.slice d N f)) g r c N M l V d u f z:=by
 have H:=h.hg
 exact⟨aq (b:=g) h.bel (by omega) _ _ _,h.b4.three (by omega) _ _ _,h.b5.three (by omega) _ _ _,h.bw.put _ _ _,h.bv.three (by omega) _ _ _,H,F.putM h.bw _ _ _,h.mv.putM h.bw _ _ _,G,h.hM⟩
theorem ls.putV{w wr:World}{g r c N M:Nat}{W V:List Nat}{u z:Option Addr}{wc D:Nat}(h:ls w wr g r c N M W V u z wc D){l:List Nat}{d:Option Addr}{f:Nat}(F:Mx wr d f c c l)(G:l.length=M):
  ls w (((wr.setCell ⟨g+1,0,none⟩ (.int .i64 c)).setCell ⟨g+1,1,none⟩ (.int .i64 c)).setCell ⟨g+1,2,none⟩ (.slice d M f)) g r c N M W l u d wc f:=by
 have H:=h.hg
 exact⟨aq (b:=g+1) h.bel (by omega) _ _ _,h.b4.three (by omega) _ _ _,h.b5.three (by omega) _ _ _,h.bw.three (by omega) _ _ _,h.bv.put _ _ _,H,h.mw.putM h.bv _ _ _,F.putM h.bv _ _ _,h.hN,G⟩
theorem ls.out{w wr:World}{g r c N M:Nat}{W V:List Nat}{H J:Option Addr}{wc K:Nat}(h:ls w wr g r c N M W V H J wc K)(d f l z D G:Value)(F:World)
  (hF:F=((((((wr.setCell ⟨w.heap.size+1,0,none⟩ d).setCell ⟨w.heap.size+1,1,none⟩ f).setCell ⟨w.heap.size+1,2,none⟩ l).setCell ⟨w.heap.size+1+1,0,none⟩ z).setCell ⟨w.heap.size+1+1,1,none⟩ D).setCell ⟨w.heap.size+1+1,2,none⟩ G)):
  aw F (w.heap.size+1) d f l∧aw F (w.heap.size+1+1) z D G∧Below w.heap.size w F∧∀u c I,af wr u c I→af F u c I:=by
 subst hF
 have x:=h.b4.put d f l
 have y:=h.b5.three (g:=w.heap.size+1) (by omega) d f l
 exact⟨x.three (by omega) _ _ _,y.put _ _ _,aq (b:=w.heap.size+1+1) (aq (b:=w.heap.size+1) h.bel (by omega) _ _ _) (by omega) _ _ _,fun u c I q=>(af.putM q h.b4 _ _ _).putM y _ _ _⟩
theorem rj(r c N M F:Nat)(ao:Option Addr)(A:List Nat)(w:World)(h:Mx w ao F r c A)(hN:A.length=N)(hM:c*c=M)(hT:bT w):
  Calls Tryz.prog 89 #[.agg #[.int .i64 r,.int .i64 c,.slice ao N F],.int .i64 60] w fun e w'=>BT w.heap.size w' r c A e∧Below w.heap.size w w':=by
 have b3:=qT w (.int .i64 r) (.int .i64 c) (.slice ao N F) (.int .i64 0) (.int .i64 0) (.slice none 0 0) (.int .i64 0) (.int .i64 0) (.slice none 0 0) (((w.alloc (.cells #[.int .i64 r,.int .i64 c,.slice ao N F] 25)).alloc (.cells #[.int .i64 0,.int .i64 0,.slice none 0 0] 25)).alloc (.cells #[.int .i64 0,.int .i64 0,.slice none 0 0] 25)) (by have:=Below.refl (((w.alloc (.cells #[.int .i64 r,.int .i64 c,.slice ao N F] 25)).alloc (.cells #[.int .i64 0,.int .i64 0,.slice none 0 0] 25)).alloc (.cells #[.int .i64 0,.int .i64 0,.slice none 0 0] 25)).heap.size (((w.alloc (.cells #[.int .i64 r,.int .i64 c,.slice ao N F] 25)).alloc (.cells #[.int .i64 0,.int .i64 0,.slice none 0 0] 25)).alloc (.cells #[.int .i64 0,.int .i64 0,.slice none 0 0] 25));simpa only[ah]using this)
 have s3:(((w.alloc (.cells #[.int .i64 r,.int .i64 c,.slice ao N F] 25)).alloc (.cells #[.int .i64 0,.int .i64 0,.slice none 0 0] 25)).alloc (.cells #[.int .i64 0,.int .i64 0,.slice none 0 0] 25)).heap.size=w.heap.size+1+1+1:=by simp only[ah]
 obtain⟨b0,x0,x1,x2⟩:=b3
 have am:=h.2.2.1;have Z:=h.2.2.2
 have b7:=h.small
 have LA:=aa (show(aL A).length=N from(av A).trans hN)
 have Y:=x0.c2
 have K1:=aa (kx ao F (aL A) _ (h.below b0).1 (by rw[av];omega))
 rw[uH LA]at K1
 have RN:=aa (show r*c=N∧c*c=M from⟨h.2.1.symm.trans hN,hM⟩)
 have HK:=aa (show eX (gD (aL A) N)=rh A from by unfold rh;rw[hN])
 have G:=aa b0;have D:=aa (And.intro x0 (And.intro x1 x2));have S3:=aa s3;have HM:=aa h;have HT:=aa hT;have HN:=aa hN
 have hk:=iT (gD (aL A) N) (im _ _)
 have a5:=im (aL A) N
 rw[uH HK]at hk
 have DD:=aa (show ge r c A=Fn r c (iX A (-rh A)) 60 from rfl)
 have PP:=aa (show pi r c A=cE (bR r c (ge r c A).W) c from rfl)
 have WW:=aa (show iB r c A=iX (eP r c (ge r c A).W (pi r c A)) (rh A)from rfl)
 have VV:=aa (show kE r c A=eP c c (ge r c A).V (pi r c A)from rfl)
 have FF:=aa (show mq r c A=(dq (iB r c A)&&dq (kE r c A))from rfl)
 show Calls _ _ _ _ fun e w'=>ri w.heap.size w' r c (ge r c A).still (mq r c A) (iB r c A) (kE r c A) e∧Below w.heap.size w w'
 generalize mq r c A=F9 at*
 generalize kE r c A=V9 at*
 generalize iB r c A=W9 at*
 generalize pi r c A=Q at*
 generalize ge r c A=s at*
 clear b0 x0 x1 x2 s3 h hT hN
 generalize gD (aL A) N=bg at*
 generalize ca:rh A=k at*
 go_enter Tryz.func89,Tryz.ntmps89
 go_wp2_with fail
 clear Y
 refine Calls.mono (uH K1) ?_
 rintro e w3 ⟨rfl,u⟩
 replace G:=aa ((uH G).trans (u.mono (uH G).size))
 rw[uH S3]at u
 replace D:=aa (And.intro ((uH D).1.below u (by omega)) (And.intro ((uH D).2.1.below u (by omega)) ((uH D).2.2.below u (by omega))))
 have SZ:=aa (show w.heap.size+1+1+1≤w3.heap.size from by have:=u.size;have:=uH S3;omega)
 clear u K1
 go_wp2_with fail
 refine(sE bg w3 a5 ((uH HT).all (uH G))).mono ?_
 rintro e w4 ⟨rfl,u⟩
 rw[uH HK]
 have bx:=fun(u:Below w3.heap.size w3 w4)=>(uH D)
 replace G:=aa ((uH G).trans (u.mono (uH G).size))
 replace D:=aa (And.intro ((uH D).1.all u) (And.intro ((uH D).2.1.all u) ((uH D).2.2.all u)))
 replace SZ:=aa (Nat.le_trans (uH SZ) u.size)
 clear u bx HK a5
 have nk:IntKind.i64.wrap (-k)= -k:=cX _ (by omega)
 have y0:=(uH D).1.c0;have y1:=(uH D).1.c1;have Y:=(uH D).1.c2
 have K2:=aa (mf r c F (-k) ao A w4 ((uH HM).below (uH G)) ((uH HT).all (uH G)))
 rw[uH HN]at K2
 go_wp2_with fail
 clear y0 y1 Y
 refine Calls.mono (uH K2) ?_
 rintro e w5 ⟨ga,rfl,bA,be,u⟩
 replace G:=aa ((uH G).trans (u.mono (uH G).size))
 replace D:=aa (And.intro ((uH D).1.all u) (And.intro ((uH D).2.1.all u) ((uH D).2.2.all u)))
 replace SZ:=aa (Nat.le_trans (uH SZ) u.size)
 have lA:(iX A (-k)).length=N:=(ir _ _).trans (uH HN)
 have a6:=lr (uH HM).1.nat (-k)
 have ma:Mx w5 (some ⟨ga,0,none⟩) N r c (iX A (-k)):=⟨by have:=be.bits a6;rw[lA]at this;exact this,lA.trans (uH RN).1.symm,am,Z⟩
 have K3:=aa (tt r c N M 60 N (some ⟨ga,0,none⟩) (iX A (-k)) w5 ma lA (uH RN).2 (by omega) ((uH HT).all (uH G)))
 rw[←uH DD]at K3
 clear u K2 be ma lA a6 bA
 go_wp2_with fail
 refine Calls.mono (uH K3) ?_
 rintro e w6 ⟨⟨wo,wc,vo,vc,rfl,hW,hV,bi,bm⟩,u⟩
 replace G:=aa ((uH G).trans (u.mono (uH G).size))
 replace D:=aa (And.intro ((uH D).1.all u) (And.intro ((uH D).2.1.all u) ((uH D).2.2.all u)))
 replace SZ:=aa (Nat.le_trans (uH SZ) u.size)
 clear u K3 DD
 have b1:=ac w6 (.cells #[.int .i64 r,.int .i64 c,.slice wo N wc] 25)
 have z1:=ah w6 (.cells #[.int .i64 r,.int .i64 c,.slice wo N wc] 25)
 have x1:=aw.new w6 (.int .i64 r) (.int .i64 c) (.slice wo N wc)
 have b2:=ac (w6.alloc (.cells #[.int .i64 r,.int .i64 c,.slice wo N wc] 25)) (.cells #[.int .i64 c,.int .i64 c,.slice vo M vc] 25)
 have x2:=aw.new (w6.alloc (.cells #[.int .i64 r,.int .i64 c,.slice wo N wc] 25)) (.int .i64 c) (.int .i64 c) (.slice vo M vc)
 rw[z1]at x2
 have ae:=b1.trans (b2.mono b1.size)
 have l:=aa (show ls w _ w6.heap.size r c N M s.W s.V wo vo wc vc from⟨(uH G).trans (ae.mono (uH G).size),(uH D).2.1.all ae,(uH D).2.2.all ae,x1.all b2,x2,by have:=uH SZ;omega,hW.below ae,hV.below ae,bi,bm⟩)
 clear b1 b2 x1 x2 ae z1 hW hV bi bm G D SZ HM
 cases hst:s.still
 ·skip
  have d:=uH l
  have s0:=d.b4.c0;have s1:=d.b4.c1;have s2:=d.b4.c2;have f0:=d.b4.free 0;have f1:=d.b4.free 1;have f2:=d.b4.free 2
  have z:=d.b5.three (g:=w.heap.size+1) (by omega) (.int .i64 0) (.int .i64 0) (.slice none 0 0)
  have t0:=z.c0;have t1:=z.c1;have t2:=z.c2;have g0:=z.free 0;have g1:=z.free 1;have g2:=z.free 2
  have f:=aa (d.out (.int .i64 0) (.int .i64 0) (.slice none 0 0) (.int .i64 0) (.int .i64 0) (.slice none 0 0) _ rfl)
  have a0:=(uH f).1.c0;have a1:=(uH f).1.c1;have a2:=(uH f).1.c2;have b0:=(uH f).2.1.c0;have b1:=(uH f).2.1.c1;have b2:=(uH f).2.1.c2
  clear z
  clear d l
  go_wp2_with fail
  exact bodyPost_ret (v:=.tuple #[.agg #[.int .i64 0,.int .i64 0,.slice none 0 0],.agg #[.int .i64 0,.int .i64 0,.slice none 0 0],.slice none 0 0,.int .i64 6]) (by simp[results,Tryz.results89,go_sem,a0,a1,a2,b0,b1,b2]) rfl ⟨.inl ⟨by first|rfl|exact hst,rfl⟩,(uH f).2.2.1⟩
 ·have y0:=(uH l).bw.c0;have y1:=(uH l).bw.c1;have Y:=(uH l).bw.c2
  go_wp2_with fail
  clear y0 y1 Y
  generalize (w6.alloc (.cells #[.int .i64 r,.int .i64 c,.slice wo N wc] 25)).alloc (.cells #[.int .i64 c,.int .i64 c,.slice vo M vc] 25)=w7 at*
  generalize w6.heap.size=g at*
  have SQ:=aa (uH PP).symm
  have LQ:=aa (show Q.length=c from by rw[uH PP];exact dI _ _)
  have K:=aa (me r c wc wo s.W w7 (uH l).mw ((uH HT).all (uH l).bel))
  rw[(uH l).hN]at K
  refine Calls.mono (uH K) ?_
  rintro e w8 ⟨gn,rfl,_,bn,u⟩
  replace l:=aa ((uH l).all u)
  have HR:=aa (bn.bits (wl r c s.W))
  rw[fh]at HR
  clear u K bn
  have K:=aa (tC c (some ⟨gn,0,none⟩) (bR r c s.W) w8 (by rw[fh];exact Z) (uH HR))
  rw[fh,uH SQ]at K
  go_wp2_with fail
  refine Calls.mono (uH K) ?_
  rintro e w9 ⟨gp,rfl,bE,a3,u⟩
  have GP:=aa (show gp≠g from by have:=(uH l).bw.lt;omega)
  replace l:=aa ((uH l).all u)
  rw[←uH SQ]at a3
  have RI:=aa a3
  clear u K a3 HR bE
  have y0:=(uH l).bw.c0;have y1:=(uH l).bw.c1;have Y:=(uH l).bw.c2
  go_wp2_with fail
  clear y0 y1 Y
  have K:=aa (oz r c wc gp wo s.W (bR r c s.W) _ (uH l).mw (uH RI))
  rw[(uH l).hN,uH SQ]at K
  refine Calls.mono (uH K) ?_
  rintro e w8 ⟨v8,rfl,a4,u⟩
  obtain⟨ax,aI,rfl,bz,q8⟩:=a4
  have l8:(eP r c s.W Q).length=N:=(cN _ _ _ _).trans ((congrArg (r* ·) (uH LQ)).trans (uH RN).1)
  rw[l8]
  have d:=(uH l).all u
  replace RI:=aa ((uH RI).all u)
  have s0:=d.bw.c0;have s1:=d.bw.c1;have s2:=d.bw.c2;have f0:=d.bw.free 0;have f1:=d.bw.free 1;have f2:=d.bw.free 2
  have O:=aa (d.putW (⟨q8,(cN _ _ _ _).trans (congrArg (r* ·) (uH LQ)),am,Z⟩:Mx w8 ax aI r c (eP r c s.W Q)) l8)
  replace RI:=aa ((uH RI).three (g:=g) (uH GP) (.int .i64 (r:Nat)) (.int .i64 (c:Nat)) (.slice ax N aI))
  clear d l u K q8 bz l8
  have y0:=(uH O).bv.c0;have y1:=(uH O).bv.c1;have Y:=(uH O).bv.c2
  go_wp2_with fail
  clear s0 s1 s2 f0 f1 f2 y0 y1 Y
  have l:=O
  clear O
  have K:=aa (oz c c vc gp vo s.V (bR r c s.W) _ (uH l).mv (uH RI))
  rw[(uH l).hM,uH SQ]at K
  refine Calls.mono (uH K) ?_
  rintro e w8 ⟨v8,rfl,a4,u⟩
  obtain⟨H,J,rfl,bb,q8⟩:=a4
  have l8:(eP c c s.V Q).length=M:=(cN _ _ _ _).trans ((congrArg (c* ·) (uH LQ)).trans (uH RN).2)
  rw[l8]
  have NV:=aa (bb.least (uH l).bel.size)
  have d:=(uH l).all u
  replace RI:=aa ((uH RI).all u)
  have s0:=d.bv.c0;have s1:=d.bv.c1;have s2:=d.bv.c2;have f0:=d.bv.free 0;have f1:=d.bv.free 1;have f2:=d.bv.free 2
  have O:=aa (d.putV (⟨q8,(cN _ _ _ _).trans (congrArg (c* ·) (uH LQ)),Z,Z⟩:Mx w8 H J c c (eP c c s.V Q)) l8)
  clear RI
  clear d l u K q8 bb l8
  have y0:=(uH O).bw.c0;have y1:=(uH O).bw.c1;have Y:=(uH O).bw.c2
  go_wp2_with fail
  clear s0 s1 s2 f0 f1 f2 y0 y1 Y
  have l:=O
  clear O
  have K:=aa (mf r c aI k ax (eP r c s.W Q) _ (uH l).mw ((uH HT).all (uH l).bel))
  rw[(uH l).hN,←uH WW]at K
  refine Calls.mono (uH K) ?_
  rintro e w8 ⟨gw,rfl,bo,bq,u⟩
  have NW:=aa (show jL w.heap.size (some ⟨gw,0,none⟩) (aL W9)from .inr ⟨gw,0,rfl,Nat.le_trans (uH l).bel.size bo⟩)
  have l9:W9.length=N:=by rw[uH WW,ir];exact(uH l).hN
  have a7:∀x∈W9,x<18446744073709551616:=by rw[uH WW];exact lr (uH l).mw.1.nat k
  have q9:=bq.bits a7
  rw[l9]at q9
  have d:=(uH l).all u
  have s0:=d.bw.c0;have s1:=d.bw.c1;have s2:=d.bw.c2;have f0:=d.bw.free 0;have f1:=d.bw.free 1;have f2:=d.bw.free 2
  have O:=aa (d.putW (⟨q9,l9.trans (uH RN).1.symm,am,Z⟩:Mx w8 (some ⟨gw,0,none⟩) N r c W9) l9)
  clear d l u K q9 bq bo WW a7
  have Y:=(uH O).bw.c2
  go_wp2_with fail
  clear s0 s1 s2 f0 f1 f2 Y
  have l:=O
  clear O
  rw[←uH VV]at l NV
  have K:=aa (lY (some ⟨gw,0,none⟩) N (aL W9) _ (uH l).mw.1 (by rw[av,l9];have:=(uH l).mw.small;omega))
  rw[av,l9,show iD (aL W9) N=dq W9 from by unfold dq;rw[l9]]at K
  refine Calls.mono (uH K) ?_
  rintro e w8 ⟨rfl,u⟩
  replace l:=aa ((uH l).all u)
  clear u K
  cases hf:dq W9
  ·skip
   have d:=uH l
   have s0:=d.b4.c0;have s1:=d.b4.c1;have s2:=d.b4.c2;have f0:=d.b4.free 0;have f1:=d.b4.free 1;have f2:=d.b4.free 2
   have z:=d.b5.three (g:=w.heap.size+1) (by omega) (.int .i64 0) (.int .i64 0) (.slice none 0 0)
   have t0:=z.c0;have t1:=z.c1;have t2:=z.c2;have g0:=z.free 0;have g1:=z.free 1;have g2:=z.free 2
   have f:=aa (d.out (.int .i64 0) (.int .i64 0) (.slice none 0 0) (.int .i64 0) (.int .i64 0) (.slice none 0 0) _ rfl)
   have a0:=(uH f).1.c0;have a1:=(uH f).1.c1;have a2:=(uH f).1.c2;have b0:=(uH f).2.1.c0;have b1:=(uH f).2.1.c1;have b2:=(uH f).2.1.c2
   clear z
   clear d l
   go_wp2_with fail
   exact bodyPost_ret (v:=.tuple #[.agg #[.int .i64 0,.int .i64 0,.slice none 0 0],.agg #[.int .i64 0,.int .i64 0,.slice none 0 0],.slice none 0 0,.int .i64 2]) (by simp[results,Tryz.results89,go_sem,a0,a1,a2,b0,b1,b2]) rfl ⟨.inr (.inl ⟨by first|rfl|exact hst,by rw[uH FF,hf];rfl,rfl⟩),(uH f).2.2.1⟩
  ·have Y:=(uH l).bv.c2
   have ap:=(uH l).hM
   have K:=aa (lY H J (aL V9) w8 (uH l).mv.1 (by rw[av];have:=(uH l).mv.small;omega))
   rw[av,ap,show iD (aL V9) M=dq V9 from by unfold dq;rw[ap]]at K
   go_wp2_with fail
   clear Y
   refine Calls.mono (uH K) ?_
   rintro e b8 ⟨rfl,u⟩
   replace l:=aa ((uH l).all u)
   clear u K
   cases hv:dq V9
   ·skip
    have d:=uH l
    have s0:=d.b4.c0;have s1:=d.b4.c1;have s2:=d.b4.c2;have f0:=d.b4.free 0;have f1:=d.b4.free 1;have f2:=d.b4.free 2
    have z:=d.b5.three (g:=w.heap.size+1) (by omega) (.int .i64 0) (.int .i64 0) (.slice none 0 0)
    have t0:=z.c0;have t1:=z.c1;have t2:=z.c2;have g0:=z.free 0;have g1:=z.free 1;have g2:=z.free 2
    have f:=aa (d.out (.int .i64 0) (.int .i64 0) (.slice none 0 0) (.int .i64 0) (.int .i64 0) (.slice none 0 0) _ rfl)
    have a0:=(uH f).1.c0;have a1:=(uH f).1.c1;have a2:=(uH f).1.c2;have b0:=(uH f).2.1.c0;have b1:=(uH f).2.1.c1;have b2:=(uH f).2.1.c2
    clear z
    clear d l
    go_wp2_with fail
    exact bodyPost_ret (v:=.tuple #[.agg #[.int .i64 0,.int .i64 0,.slice none 0 0],.agg #[.int .i64 0,.int .i64 0,.slice none 0 0],.slice none 0 0,.int .i64 2]) (by simp[results,Tryz.results89,go_sem,a0,a1,a2,b0,b1,b2]) rfl ⟨.inr (.inl ⟨by first|rfl|exact hst,by rw[uH FF,hf,hv];rfl,rfl⟩),(uH f).2.2.1⟩
   ·go_wp2_with fail
    refine aj (fun W=>ls w W g r c N M W9 V9 (some ⟨gw,0,none⟩) H N J) (uH l) ?_
    clear l
    rintro U d
    have d:=d.all (Below.refl U.heap.size U).drew
    have a9:=aa (me r c N (some ⟨gw,0,none⟩) W9 U.drew d.mw ((uH HT).all d.bel))
    rw[l9]at a9
    have H0:=aa (And.intro d.bw.c0 (And.intro d.bw.c1 (And.intro d.bw.c2 (And.intro d.bv.c0 (And.intro d.bv.c1 d.bv.c2)))))
    have l:=aa d
    clear d
    refine wp_region_held_drew (S:=fun w'=>w'.cell? ⟨g,0,none⟩=some (.int .i64 (r:Nat))∧w'.cell? ⟨g,1,none⟩=some (.int .i64 (c:Nat))∧w'.cell? ⟨g,2,none⟩=some (.slice (some ⟨gw,0,none⟩) N N)∧w'.cell? ⟨g+1,0,none⟩=some (.int .i64 (c:Nat))∧w'.cell? ⟨g+1,1,none⟩=some (.int .i64 (c:Nat))∧w'.cell? ⟨g+1,2,none⟩=some (.slice H M J)) (by kernel_rfl) ?_ (fun X=>?_)
    ·exact uH H0
    refine wpAnyH_take (i:=0) (oi:={dst:=some 61,op:=Op.load 25 (Operand.tmp 9),type:=25,pos:= "svd.go:48",after:=#[],guard:=none}) (v:=.agg #[.int .i64 (r:Nat),.int .i64 (c:Nat),.slice (some ⟨gw,0,none⟩) N N]) rfl (by kernel_rfl) (by kernel_rfl) (by kernel_rfl) (fun _ _ _ h=>h) (Or.inl ⟨by rfl,?_⟩) (by assumption) ?_
    ·(intro w L;(try dsimp only at L);go_simp)
    simp only[Act.put,List.setIfInBounds_toArray,List.set_cons_zero,List.set_cons_succ]
    refine wpAnyH_take (i:=1) (oi:={dst:=some 62,op:=Op.load 25 (Operand.tmp 10),type:=25,pos:= "svd.go:48",after:=#[{on:=4,ground:=Ground.gcOnly Departure.lateStores}],guard:=none}) (v:=.agg #[.int .i64 (c:Nat),.int .i64 (c:Nat),.slice H M J]) rfl (by kernel_rfl) (by kernel_rfl) (by kernel_rfl) (fun _ _ _ h=>h) (Or.inl ⟨by rfl,?_⟩) (by assumption) ?_
    ·(intro w L;(try dsimp only at L);go_simp)
    simp only[Act.put,List.setIfInBounds_toArray,List.set_cons_zero,List.set_cons_succ]
    refine wpAnyH_take (i:=2) (oi:={dst:=some 63,op:=Op.load 25 (Operand.tmp 9),type:=25,pos:= "svd.go:48",after:=#[],guard:=none}) (v:=.agg #[.int .i64 (r:Nat),.int .i64 (c:Nat),.slice (some ⟨gw,0,none⟩) N N]) rfl (by kernel_rfl) (by kernel_rfl) (by kernel_rfl) (fun _ _ _ h=>h) (Or.inl ⟨by rfl,?_⟩) (by assumption) ?_
    ·(intro w L;(try dsimp only at L);go_simp)
    simp only[Act.put,List.setIfInBounds_toArray,List.set_cons_zero,List.set_cons_succ]
    refine wpAnyH_ready (rs:=[3]) (by kernel_rfl) (by simp) ?_
    refine AllReadyH.cons (o:={dst:=some 64,op:=Op.call {callee:=Callee.value (Operand.func 157),args:=#[Operand.tmp 63],argTypes:=#[25]},type:=23,pos:= "svd.go:48",after:=#[{on:=2,ground:=Ground.data}],guard:=none}) rfl (fun K hK=>?_) AllReadyH.nil
    go_simp
    refine Calls.mono (uH a9) ?_
    rintro e b9 ⟨gs,rfl,b6,bt,u⟩
    have d:=(uH l).all u
    have GS:=aa (Nat.le_trans (uH l).bel.size b6);have ba:=aa (show w.heap.size+1+1<gs from by have:=(uH l).b5.lt;omega)
    have RS:=aa bt
    have hg:=d.hg
    have s0:=d.b4.c0;have s1:=d.b4.c1;have s2:=d.b4.c2;have f0:=d.b4.free 0;have f1:=d.b4.free 1;have f2:=d.b4.free 2
    have z:=d.b5.three (g:=w.heap.size+1) (by omega) (.int .i64 (r:Nat)) (.int .i64 (c:Nat)) (.slice (some ⟨gw,0,none⟩) N N)
    have t0:=z.c0;have t1:=z.c1;have t2:=z.c2;have g0:=z.free 0;have g1:=z.free 1;have g2:=z.free 2
    have f:=aa (d.out (.int .i64 (r:Nat)) (.int .i64 (c:Nat)) (.slice (some ⟨gw,0,none⟩) N N) (.int .i64 (c:Nat)) (.int .i64 (c:Nat)) (.slice H M J) _ rfl)
    have a0:=(uH f).1.c0;have a1:=(uH f).1.c1;have a2:=(uH f).1.c2;have b0:=(uH f).2.1.c0;have b1:=(uH f).2.1.c1;have b2:=(uH f).2.1.c2
    clear z
    have H3:=aa (And.intro d.bw.c0 (And.intro d.bw.c1 (And.intro d.bw.c2 (And.intro d.bv.c0 (And.intro d.bv.c1 d.bv.c2)))))
    have YY:=d.bw.three (g:=w.heap.size+1) (by omega) (.int .i64 (r:Nat)) (.int .i64 (c:Nat)) (.slice (some ⟨gw,0,none⟩) N N);have UU:=d.bv.three (g:=w.heap.size+1) (by omega) (.int .i64 (r:Nat)) (.int .i64 (c:Nat)) (.slice (some ⟨gw,0,none⟩) N N)
    have H1:=aa (And.intro YY.c0 (And.intro YY.c1 (And.intro YY.c2 (And.intro UU.c0 (And.intro UU.c1 UU.c2)))))
    have Y2:=YY.three (g:=w.heap.size+1+1) (by omega) (.int .i64 (c:Nat)) (.int .i64 (c:Nat)) (.slice H M J);have U2:=UU.three (g:=w.heap.size+1+1) (by omega) (.int .i64 (c:Nat)) (.int .i64 (c:Nat)) (.slice H M J)
    have H2:=aa (And.intro Y2.c0 (And.intro Y2.c1 (And.intro Y2.c2 (And.intro U2.c0 (And.intro U2.c1 U2.c2)))))
    have O:=aa d
    clear d u bt hg YY UU Y2 U2
    go_wp2_with fail
    refine hK.out _ _ ?_ (fun X=>?_)
    ·exact uH H3
    clear hK K
    refine wpAnyH_ready (rs:=[4]) (by kernel_rfl) (by simp) ?_
    refine AllReadyH.cons (o:={dst:=none,op:=Op.store 25 (Operand.tmp 4) (Operand.tmp 61),type:=0,pos:= "svd.go:48",after:=#[{on:=0,ground:=Ground.data},{on:=3,ground:=Ground.chain},{on:=0,ground:=Ground.phase},{on:=1,ground:=Ground.textOnly Departure.lateStores},{on:=2,ground:=Ground.textOnly Departure.lateStores},{on:=3,ground:=Ground.textOnly Departure.lateStoresUnsure}],guard:=none}) rfl (fun K hK=>?_) AllReadyH.nil
    go_simp
    refine hK.out _ _ ?_ (fun X=>?_)
    ·exact uH H1
    clear hK K
    refine wpAnyH_ready (rs:=[5]) (by kernel_rfl) (by simp) ?_
    refine AllReadyH.cons (o:={dst:=none,op:=Op.store 25 (Operand.tmp 5) (Operand.tmp 62),type:=0,pos:= "svd.go:48",after:=#[{on:=1,ground:=Ground.data},{on:=4,ground:=Ground.chain},{on:=0,ground:=Ground.phase},{on:=1,ground:=Ground.phase},{on:=2,ground:=Ground.textOnly Departure.lateStores},{on:=3,ground:=Ground.textOnly Departure.lateStoresUnsure},{on:=4,ground:=Ground.phase}],guard:=none}) rfl (fun K hK=>?_) AllReadyH.nil
    go_simp
    refine hK.out _ _ ?_ (fun X=>?_)
    ·exact uH H2
    clear hK K
    refine wpAnyH_take (i:=6) (oi:={dst:=some 6,op:=Op.assign (Operand.tmp 64),type:=23,pos:= "svd.go:48",after:=#[{on:=3,ground:=Ground.data},{on:=5,ground:=Ground.chain},{on:=0,ground:=Ground.phase},{on:=1,ground:=Ground.phase},{on:=2,ground:=Ground.phase},{on:=3,ground:=Ground.phase},{on:=4,ground:=Ground.phase},{on:=5,ground:=Ground.phase}],guard:=none}) (v:=.slice (some ⟨gs,0,none⟩) c c) rfl (by kernel_rfl) (by kernel_rfl) (by kernel_rfl) (fun _ _ _ h=>h) (Or.inl ⟨by rfl,?_⟩) (by assumption) ?_
    ·(intro w L;(try dsimp only at L);go_simp)
    simp only[Act.put,List.setIfInBounds_toArray,List.set_cons_zero,List.set_cons_succ]
    refine wpAnyH_take (i:=7) (oi:={dst:=some 7,op:=Op.assign (Operand.const (Value.int IntKind.i64 0)),type:=32,pos:= "svd.go:48",after:=#[{on:=6,ground:=Ground.chain},{on:=0,ground:=Ground.phase},{on:=1,ground:=Ground.phase},{on:=2,ground:=Ground.phase},{on:=3,ground:=Ground.phase},{on:=4,ground:=Ground.phase},{on:=5,ground:=Ground.phase},{on:=6,ground:=Ground.phase}],guard:=none}) (v:=.int .i64 0) rfl (by kernel_rfl) (by kernel_rfl) (by kernel_rfl) (fun _ _ _ h=>h) (Or.inl ⟨by rfl,?_⟩) (by assumption) ?_
    ·(intro w L;(try dsimp only at L);go_simp)
    simp only[Act.put,List.setIfInBounds_toArray,List.set_cons_zero,List.set_cons_succ]
    refine wpAnyH_done (by kernel_rfl) ?_ _
    skip
    go_wp2_with fail
    exact bodyPost_ret (v:=.tuple #[.agg #[.int .i64 r,.int .i64 c,.slice (some ⟨gw,0,none⟩) N N],.agg #[.int .i64 c,.int .i64 c,.slice H M J],.slice (some ⟨gs,0,none⟩) c c,.int .i64 0]) (by simp[results,Tryz.results89,go_sem,a0,a1,a2,b0,b1,b2]) rfl ⟨.inr (.inr ⟨by first|rfl|exact hst,by rw[uH FF,hf,hv];rfl,_,_,gs,rfl,⟨_,_,by rw[l9],uH NW,(uH f).2.2.2 _ _ _ (uH O).mw.1⟩,⟨_,_,by rw[ap],uH NV,(uH f).2.2.2 _ _ _ (uH O).mv.1⟩,uH GS,((uH RS).three (by have:=uH ba;omega) _ _ _).three (by have:=uH ba;omega) _ _ _⟩),(uH f).2.2.1⟩
theorem oA{I:List Nat}{i:Nat}(h:mK I (i+1)=i):∀k,mK I (i+1+k)=i
 |0=>h
 |k+1=>by
  have e:mK I (i+1+(k+1))=if mK I (i+1+k)<i+1+k then mK I (i+1+k)else if eJ (xV (I.getD 0 0) (-40)) (I.getD (i+1+k) 0)=true then i+1+k+1 else i+1+k:=rfl
  rw[e,oA h k,if_pos (by omega)]
theorem tD{I:List Nat}{i:Nat}(h:mK I i=i):mK I (i+1)=if eJ (xV (I.getD 0 0) (-40)) (I.getD i 0)=true then i+1 else i:=by
 show(if mK I i<i then mK I i else if eJ (xV (I.getD 0 0) (-40)) (I.getD i 0)=true then i+1 else i)=_
 rw[h,if_neg (Nat.lt_irrefl _)]
theorem vq(f:Nat)(H:Option Addr)(I:List Nat)(w:World)(u:af w H f (aL I))(hn:I.length≤35184372088830)(J:bT w):
  Calls Tryz.prog 40 #[.slice H I.length f] w fun e w'=>e=.returned (.int .i64 (mK I I.length:Nat))∧Below w.heap.size w w':=by
 have K:=aa u;have HT:=aa J
 obtain⟨n,F⟩:∃n,I.length=n:=⟨_,rfl⟩
 have L:=aa F
 have M:∀i,I.getD i 0<18446744073709551616:=fun i=>by rw[←eI];exact u.lt i
 have N:=aa M
 have O:=aa (Below.refl w.heap.size w)
 rw[F]at hn⊢
 clear u J F M
 go_enter Tryz.func40,Tryz.ntmps40
 go_wp2_with fail
 go_loopw[7] (fun a wr=>∃i:Nat,i≤n∧a=.int .i64 i∧mK I i=i∧Hid (Below w.heap.size w wr)) (fun a _=>n-(intOf a).toNat)
 case atStart=>exact⟨0,Nat.zero_le _,rfl,rfl,O⟩
 case round=>
  clear O
  obtain⟨i,hi,rfl,Y,d⟩:=hrel
  by_cases am:i<n
  ·have ap:(i:Int)<(n:Int):=by omega
   have ax:(0:Int)<(n:Int):=by omega
   obtain⟨b,aI,Z,_,c1⟩:=cC ((uH K).below (uH d)) (k:=i) (by have:=uH L;omega)
   obtain⟨b2,ae,G,_,c2⟩:=cC ((uH K).below (uH d)) (k:=0) (by have:=uH L;omega)
   rw[Z]at G
   simp only[Option.some.injEq,Addr.mk.injEq]at G
   obtain⟨rfl,rfl,_⟩:=G
   rw[Nat.add_zero]at c2
   have Q:=aa (tD Y)
   have U:=uH N i;have z:=uH N 0
   generalize I.getD i 0=x at*
   generalize I.getD 0 0=y at*
   subst Z
   have V:=aa (fun w' (h:Below w.heap.size w w')=>eH y (-40) w' z ((uH HT).all h))
   have X:=aa (fun w'=>iq (xV y (-40)) x w' (gV _ _ z) U)
   clear U z
   go_wp2_with fail
   refine(uH V _ (uH d)).mono ?_
   rintro e w3 ⟨rfl,l⟩
   replace d:=aa ((uH d).trans (l.mono (uH d).size))
   clear l V c1 c2
   go_wp2_with fail
   refine(uH X _).mono ?_
   rintro e w4 ⟨rfl,l⟩
   replace d:=aa ((uH d).trans (l.mono (uH d).size))
   clear l X
   cases hc:eJ (xV y (-40)) x
   ·have E:=aa (show mK I n=i from by
     have h1:mK I (i+1)=i:=by rw[uH Q,hc];rfl
     have:=oA h1 (n-(i+1))
     rwa[show i+1+(n-(i+1))=n by omega]at this)
    go_wp2_with fail
    exact bodyPost_ret (v:=.int .i64 i) (by simp[results,Tryz.results40,go_sem]) rfl ⟨by rw[uH E],uH d⟩
   ·have E:mK I (i+1)=i+1:=by rw[uH Q,hc];rfl
    go_wp2_with fail
    go_round
    case rel=>exact⟨i+1,by omega,by go_num,E,d⟩
    case measure=>simp[intOf];omega
  ·have D:i=n:=by omega
   subst D
   go_wp2_with fail
   exact bodyPost_ret (v:=.int .i64 i) (by simp[results,Tryz.results40,go_sem]) rfl ⟨by rw[Y],uH d⟩
def Ha(B:Nat)(w':World)(r c:Int)(I:List Int)(e:Ending):Prop:=
 (oo r c I≠0∧e=.returned (.tuple #[.agg #[.int .i64 0,.int .i64 0,.slice none 0 0],.agg #[.int .i64 0,.int .i64 0,.slice none 0 0],.slice none 0 0,.int .i64 (oo r c I)]))∨
 (oo r c I=0∧BT B w' r.toNat c.toNat (a8 I) e)
theorem mL{w wr:World}(l:Below w.heap.size w wr)(z:aw wr (w.heap.size+1) (.int .i64 0) (.int .i64 0) (.slice none 0 0))(J:aw wr (w.heap.size+1+1) (.int .i64 0) (.int .i64 0) (.slice none 0 0))(d f h D G H:Value)(F:World)
  (hF:F=((((((wr.setCell ⟨w.heap.size+1,0,none⟩ d).setCell ⟨w.heap.size+1,1,none⟩ f).setCell ⟨w.heap.size+1,2,none⟩ h).setCell ⟨w.heap.size+1+1,0,none⟩ D).setCell ⟨w.heap.size+1+1,1,none⟩ G).setCell ⟨w.heap.size+1+1,2,none⟩ H)):
  aw F (w.heap.size+1) d f h∧aw F (w.heap.size+1+1) D G H∧Below w.heap.size w F∧(∀u c I,af wr u c I→af F u c I)∧∀g S,w.heap.size+1+1<g→bp wr g S→bp F g S:=by
 subst hF
 have x:=z.put d f h
 have y:=J.three (g:=w.heap.size+1) (by omega) d f h
 exact⟨x.three (by omega) _ _ _,y.put _ _ _,aq (b:=w.heap.size+1+1) (aq (b:=w.heap.size+1) l (by omega) _ _ _) (by omega) _ _ _,fun u c I q=>(af.putM q z _ _ _).putM y _ _ _,fun g S K q=>(q.three (by omega) _ _ _).three (by omega) _ _ _⟩
theorem BU(r c er:Int)(n d:Nat)(l:Option Addr)(w:World)(O:(er != 0)=true)
  (C:∀w',Below w.heap.size w w'→Calls Tryz.prog 88 #[.agg #[.int .i64 r,.int .i64 c,.slice l n d]] w' fun e J=>e=.returned (.int .i64 er)∧Below w'.heap.size w' J):
  Calls Tryz.prog 37 #[.agg #[.int .i64 r,.int .i64 c,.slice l n d]] w fun e w'=>e=.returned (.tuple #[.agg #[.int .i64 0,.int .i64 0,.slice none 0 0],.agg #[.int .i64 0,.int .i64 0,.slice none 0 0],.slice none 0 0,.int .i64 er])∧Below w.heap.size w w':=by
 have Q:=qT w (.int .i64 r) (.int .i64 c) (.slice l n d) (.int .i64 0) (.int .i64 0) (.slice none 0 0) (.int .i64 0) (.int .i64 0) (.slice none 0 0) (((w.alloc (.cells #[.int .i64 r,.int .i64 c,.slice l n d] 25)).alloc (.cells #[.int .i64 0,.int .i64 0,.slice none 0 0] 25)).alloc (.cells #[.int .i64 0,.int .i64 0,.slice none 0 0] 25)) (by have:=Below.refl (((w.alloc (.cells #[.int .i64 r,.int .i64 c,.slice l n d] 25)).alloc (.cells #[.int .i64 0,.int .i64 0,.slice none 0 0] 25)).alloc (.cells #[.int .i64 0,.int .i64 0,.slice none 0 0] 25)).heap.size (((w.alloc (.cells #[.int .i64 r,.int .i64 c,.slice l n d] 25)).alloc (.cells #[.int .i64 0,.int .i64 0,.slice none 0 0] 25)).alloc (.cells #[.int .i64 0,.int .i64 0,.slice none 0 0] 25));simpa only[ah]using this)
 have K:(((w.alloc (.cells #[.int .i64 r,.int .i64 c,.slice l n d] 25)).alloc (.cells #[.int .i64 0,.int .i64 0,.slice none 0 0] 25)).alloc (.cells #[.int .i64 0,.int .i64 0,.slice none 0 0] 25)).heap.size=w.heap.size+1+1+1:=by simp only[ah]
 obtain⟨F,G,M,N⟩:=Q
 have L:=aa (C _ F)
 have U:=G.c0;have V:=G.c1;have X:=G.c2
 have D:=aa F;have z:=aa (And.intro G (And.intro M N));have Y:=aa K
 clear F G M N K C
 go_enter Tryz.func37,Tryz.ntmps37
 go_wp2_with fail
 clear U V X
 refine Calls.mono (uH L) ?_
 rintro e w3 ⟨rfl,H⟩
 replace D:=aa ((uH D).trans (H.mono (uH D).size))
 replace z:=aa (And.intro ((uH z).1.all H) (And.intro ((uH z).2.1.all H) ((uH z).2.2.all H)))
 clear H L Y
 have h:=uH z
 have s0:=h.2.1.c0;have s1:=h.2.1.c1;have s2:=h.2.1.c2;have f0:=h.2.1.free 0;have f1:=h.2.1.free 1;have f2:=h.2.1.free 2
 have u:=h.2.2.three (g:=w.heap.size+1) (by omega) (.int .i64 0) (.int .i64 0) (.slice none 0 0)
 have t0:=u.c0;have t1:=u.c1;have t2:=u.c2;have g0:=u.free 0;have g1:=u.free 1;have g2:=u.free 2
 have f:=aa (mL (uH D) h.2.1 h.2.2 (.int .i64 0) (.int .i64 0) (.slice none 0 0) (.int .i64 0) (.int .i64 0) (.slice none 0 0) _ rfl)
 have Z:=(uH f).1.c0;have a1:=(uH f).1.c1;have a2:=(uH f).1.c2;have F:=(uH f).2.1.c0;have b1:=(uH f).2.1.c1;have b2:=(uH f).2.1.c2
 clear u h z D
 go_wp2_with fail
 exact bodyPost_ret (v:=.tuple #[.agg #[.int .i64 0,.int .i64 0,.slice none 0 0],.agg #[.int .i64 0,.int .i64 0,.slice none 0 0],.slice none 0 0,.int .i64 er]) (by simp[results,Tryz.results37,go_sem,Z,a1,a2,F,b1,b2]) rfl ⟨rfl,(uH f).2.2.1⟩
theorem ws(r c n u:Nat)(st fn:Bool)(W V:List Nat)(H:Option Addr)(w:World)
  (C:∀w',Below w.heap.size w w'→Calls Tryz.prog 88 #[.agg #[.int .i64 r,.int .i64 c,.slice H n u]] w' fun e F=>e=.returned (.int .i64 0)∧Below w'.heap.size w' F)
  (U:∀w',Below w.heap.size w w'→Calls Tryz.prog 89 #[.agg #[.int .i64 r,.int .i64 c,.slice H n u],.int .i64 60] w' fun e F=>ri w'.heap.size F r c st fn W V e∧Below w'.heap.size w' F):
  Calls Tryz.prog 37 #[.agg #[.int .i64 r,.int .i64 c,.slice H n u]] w fun e w'=>ri w.heap.size w' r c st fn W V e∧Below w.heap.size w w':=by
 have KU:=aa U
 clear U
 have b3:=qT w (.int .i64 r) (.int .i64 c) (.slice H n u) (.int .i64 0) (.int .i64 0) (.slice none 0 0) (.int .i64 0) (.int .i64 0) (.slice none 0 0) (((w.alloc (.cells #[.int .i64 r,.int .i64 c,.slice H n u] 25)).alloc (.cells #[.int .i64 0,.int .i64 0,.slice none 0 0] 25)).alloc (.cells #[.int .i64 0,.int .i64 0,.slice none 0 0] 25)) (by have:=Below.refl (((w.alloc (.cells #[.int .i64 r,.int .i64 c,.slice H n u] 25)).alloc (.cells #[.int .i64 0,.int .i64 0,.slice none 0 0] 25)).alloc (.cells #[.int .i64 0,.int .i64 0,.slice none 0 0] 25)).heap.size (((w.alloc (.cells #[.int .i64 r,.int .i64 c,.slice H n u] 25)).alloc (.cells #[.int .i64 0,.int .i64 0,.slice none 0 0] 25)).alloc (.cells #[.int .i64 0,.int .i64 0,.slice none 0 0] 25));simpa only[ah]using this)
 have s3:(((w.alloc (.cells #[.int .i64 r,.int .i64 c,.slice H n u] 25)).alloc (.cells #[.int .i64 0,.int .i64 0,.slice none 0 0] 25)).alloc (.cells #[.int .i64 0,.int .i64 0,.slice none 0 0] 25)).heap.size=w.heap.size+1+1+1:=by simp only[ah]
 obtain⟨G,X,x1,x2⟩:=b3
 have K1:=aa (C _ G)
 have y0:=X.c0;have y1:=X.c1;have y2:=X.c2
 have z:=aa G;have l:=aa (And.intro X (And.intro x1 x2));have S3:=aa s3
 clear G X x1 x2 s3 C
 go_enter Tryz.func37,Tryz.ntmps37
 go_wp2_with fail
 clear y0 y1 y2
 refine Calls.mono (uH K1) ?_
 rintro e w3 ⟨rfl,D⟩
 replace z:=aa ((uH z).trans (D.mono (uH z).size))
 replace l:=aa (And.intro ((uH l).1.all D) (And.intro ((uH l).2.1.all D) ((uH l).2.2.all D)))
 clear D K1 S3
 have y0:=(uH l).1.c0;have y1:=(uH l).1.c1;have y2:=(uH l).1.c2
 go_wp2_with fail
 clear y0 y1 y2
 refine(uH KU _ (uH z)).mono ?_
 have J:=aa (uH z).size
 have ae:=aa (uH l).2.2.lt
 rintro e w4 ⟨ha,D⟩
 replace z:=aa ((uH z).trans (D.mono (uH z).size))
 replace l:=aa (And.intro ((uH l).1.all D) (And.intro ((uH l).2.1.all D) ((uH l).2.2.all D)))
 clear D KU
 rcases ha with⟨Y,rfl⟩|⟨Y,h2,rfl⟩|⟨Y,h2,v1,v2,g,rfl,⟨Z,c1,rfl,n1,q1⟩,⟨o2,c2,rfl,n2,q2⟩,hg,hr⟩
 ·have f:=uH l
  have s0:=f.2.1.c0;have s1:=f.2.1.c1;have s2:=f.2.1.c2;have f0:=f.2.1.free 0;have f1:=f.2.1.free 1;have f2:=f.2.1.free 2
  have h:=f.2.2.three (g:=w.heap.size+1) (by omega) (.int .i64 0) (.int .i64 0) (.slice none 0 0)
  have t0:=h.c0;have t1:=h.c1;have t2:=h.c2;have g0:=h.free 0;have g1:=h.free 1;have g2:=h.free 2
  have d:=aa (mL (uH z) f.2.1 f.2.2 (.int .i64 0) (.int .i64 0) (.slice none 0 0) (.int .i64 0) (.int .i64 0) (.slice none 0 0) _ rfl)
  have K:=(uH d).1.c0;have L:=(uH d).1.c1;have M:=(uH d).1.c2;have G:=(uH d).2.1.c0;have N:=(uH d).2.1.c1;have O:=(uH d).2.1.c2
  clear h f l z
  go_wp2_with fail
  exact bodyPost_ret (v:=.tuple #[.agg #[.int .i64 0,.int .i64 0,.slice none 0 0],.agg #[.int .i64 0,.int .i64 0,.slice none 0 0],.slice none 0 0,.int .i64 6]) (by simp[results,Tryz.results37,go_sem,K,L,M,G,N,O]) rfl ⟨.inl ⟨Y,rfl⟩,(uH d).2.2.1⟩
 ·have f:=uH l
  have s0:=f.2.1.c0;have s1:=f.2.1.c1;have s2:=f.2.1.c2;have f0:=f.2.1.free 0;have f1:=f.2.1.free 1;have f2:=f.2.1.free 2
  have h:=f.2.2.three (g:=w.heap.size+1) (by omega) (.int .i64 0) (.int .i64 0) (.slice none 0 0)
  have t0:=h.c0;have t1:=h.c1;have t2:=h.c2;have g0:=h.free 0;have g1:=h.free 1;have g2:=h.free 2
  have d:=aa (mL (uH z) f.2.1 f.2.2 (.int .i64 0) (.int .i64 0) (.slice none 0 0) (.int .i64 0) (.int .i64 0) (.slice none 0 0) _ rfl)
  have K:=(uH d).1.c0;have L:=(uH d).1.c1;have M:=(uH d).1.c2;have G:=(uH d).2.1.c0;have N:=(uH d).2.1.c1;have O:=(uH d).2.1.c2
  clear h f l z
  go_wp2_with fail
  exact bodyPost_ret (v:=.tuple #[.agg #[.int .i64 0,.int .i64 0,.slice none 0 0],.agg #[.int .i64 0,.int .i64 0,.slice none 0 0],.slice none 0 0,.int .i64 2]) (by simp[results,Tryz.results37,go_sem,K,L,M,G,N,O]) rfl ⟨.inr (.inl ⟨Y,h2,rfl⟩),(uH d).2.2.1⟩
 ·have Q:=aa (And.intro q1 (And.intro q2 hr))
  clear q1 q2 hr
  have f:=uH l
  have s0:=f.2.1.c0;have s1:=f.2.1.c1;have s2:=f.2.1.c2;have f0:=f.2.1.free 0;have f1:=f.2.1.free 1;have f2:=f.2.1.free 2
  have h:=f.2.2.three (g:=w.heap.size+1) (by omega) (.int .i64 (r:Nat)) (.int .i64 (c:Nat)) (.slice Z W.length c1)
  have t0:=h.c0;have t1:=h.c1;have t2:=h.c2;have g0:=h.free 0;have g1:=h.free 1;have g2:=h.free 2
  have d:=aa (mL (uH z) f.2.1 f.2.2 (.int .i64 (r:Nat)) (.int .i64 (c:Nat)) (.slice Z W.length c1) (.int .i64 (c:Nat)) (.int .i64 (c:Nat)) (.slice o2 V.length c2) _ rfl)
  have K:=(uH d).1.c0;have L:=(uH d).1.c1;have M:=(uH d).1.c2;have G:=(uH d).2.1.c0;have N:=(uH d).2.1.c1;have O:=(uH d).2.1.c2
  clear h f l z
  go_wp2_with fail
  exact bodyPost_ret (v:=.tuple #[.agg #[.int .i64 r,.int .i64 c,.slice Z W.length c1],.agg #[.int .i64 c,.int .i64 c,.slice o2 V.length c2],.slice (some ⟨g,0,none⟩) c c,.int .i64 0]) (by simp[results,Tryz.results37,go_sem,K,L,M,G,N,O]) rfl ⟨.inr (.inr ⟨Y,h2,_,_,g,rfl,⟨Z,c1,rfl,n1.least (uH J),(uH d).2.2.2.1 _ _ _ (uH Q).1⟩,⟨o2,c2,rfl,n2.least (uH J),(uH d).2.2.2.1 _ _ _ (uH Q).2.1⟩,Nat.le_trans (uH J) hg,(uH d).2.2.2.2 g _ (by have:=uH ae;omega) (uH Q).2.2⟩),(uH d).2.2.1⟩
theorem pj(r c:Int)(l:Option Addr)(d:Nat)(I:List Int)(w:World)(z:af w l d I)(D:I.length≤35184372088830)(F:bT w):
  Calls Tryz.prog 37 #[.agg #[.int .i64 r,.int .i64 c,.slice l I.length d]] w fun e w'=>Ha w.heap.size w' r c I e∧Below w.heap.size w w':=by
 have C:=fun w' (f:Below w.heap.size w w')=>oq r c l d I w' (z.below f) D
 by_cases h:oo r c I=0
 ·obtain⟨p,q,rfl,rfl,G,J,_⟩:=Mx.asked z h
  have u:(a8 I).length=I.length:=dE I
  rw[h]at C
  refine(ws p q I.length d (ge p q (a8 I)).still (mq p q (a8 I)) (iB p q (a8 I)) (kE p q (a8 I)) l w C (fun w' f=>?_)).mono ?_
  ·exact rj p q I.length (q*q) d l (a8 I) w' (G.below f) u rfl (F.all f)
  ·rintro e w' ⟨H,f⟩
   exact⟨.inr ⟨h,H⟩,f⟩
 ·refine(BU r c (oo r c I) I.length d l w (by simpa using h) C).mono ?_
  rintro e w' ⟨rfl,f⟩
  exact⟨.inl ⟨h,rfl⟩,f⟩
theorem BV(a b:Nat):eJ b a=(cB a b&&decide (0<cO a b)):=by
 unfold eJ cO cB
 by_cases h:fK a=4∨fK b=4
 ·rw[if_pos h,if_pos h,if_pos h.symm];rfl
 ·rw[if_neg h,if_neg h,if_neg (fun e=>h e.symm),Bool.true_and]
  unfold bc
  by_cases f:fZ b<fZ a
  ·have d:¬fZ a<fZ b:=by omega
   simp[f,d]
  ·by_cases d:fZ a<fZ b
   ·simp[f,d]
   ·simp[f,d]
theorem vr(a b:Nat)(o:Int)(t l:Bool)(w:World)(u:l=(t&&decide (0<o)))
  (C:Calls Tryz.prog 52 #[.int .u64 a,.int .u64 b] w fun r w'=>r=.returned (.tuple #[.int .i64 o,.bool t])∧Below w.heap.size w w'):
  Calls Tryz.prog 100 #[.int .u64 a,.int .u64 b] w fun e w'=>e=.returned (.bool l)∧Below w.heap.size w w':=by
 have K:=aa C
 clear C
 subst u
 cases t with
 |true=>
  by_cases h:0<o
  ·rw[decide_eq_true h]
   go_enter Tryz.func100,Tryz.ntmps100
   go_wp2_with fail
   refine Calls.mono (uH K) ?_
   rintro e f ⟨rfl,d⟩
   clear K
   go_wp2
   go_ret
   exact⟨by simp,d⟩
  ·rw[decide_eq_false h]
   go_enter Tryz.func100,Tryz.ntmps100
   go_wp2_with fail
   refine Calls.mono (uH K) ?_
   rintro e f ⟨rfl,d⟩
   clear K
   go_wp2
   go_ret
   exact⟨by simp[h],d⟩
 |false=>
  rw[Bool.false_and]
  go_enter Tryz.func100,Tryz.ntmps100
  go_wp2_with fail
  refine Calls.mono (uH K) ?_
  rintro e f ⟨rfl,d⟩
  clear K
  go_wp2
  go_ret
  exact⟨rfl,d⟩
theorem fi(a b:Nat)(w:World)(d:a<18446744073709551616)(f:b<18446744073709551616):
  Calls Tryz.prog 100 #[.int .u64 a,.int .u64 b] w fun e w'=>e=.returned (.bool (eJ b a))∧Below w.heap.size w w':=
 vr a b (cO a b) (cB a b) (eJ b a) w (BV a b) (nL a b w d f)
theorem tE(z:Nat)(J:Option Addr)(I:List Nat)(w:World)(L:af w J z (aL I))(hn:I.length≤35184372088830):
  Calls Tryz.prog 41 #[.slice J I.length z] w fun e w'=>e=.returned (.int .i64 (mK I I.length:Nat))∧Below w.heap.size w w':=by
 have Y:=aa L
 obtain⟨n,Q⟩:∃n,I.length=n:=⟨_,rfl⟩
 have Z:=aa Q
 have lx:∀i,I.getD i 0<18446744073709551616:=fun i=>by rw[←eI];exact L.lt i
 have LX:=aa lx
 have HB:=aa (Below.refl w.heap.size w)
 rw[Q]at hn⊢
 clear L Q lx
 go_enter Tryz.func41,Tryz.ntmps41
 go_wp2_with fail
 go_loopw[3] (fun a wr=>∃i:Nat,i≤n∧a=.int .i64 i∧mK I i=i∧Hid (Below w.heap.size w wr)) (fun a _=>n-(intOf a).toNat)
 case atStart=>exact⟨0,Nat.zero_le _,rfl,rfl,HB⟩
 case round=>
  clear HB
  obtain⟨i,hi,rfl,U,f⟩:=hrel
  by_cases am:i<n
  ·have ap:(i:Int)<(n:Int):=by omega
   have ax:(0:Int)<(n:Int):=by omega
   have aI:¬n=0:=by omega
   have NX:=aa (tD U)
   have ES:=aa (show∀o,mK I (i+1)=i→o=mK I n→o=i from fun o h1 h2=>by
    have:=oA h1 (n-(i+1))
    rw[show i+1+(n-(i+1))=n by omega]at this
    exact h2.trans this)
   clear U
   refine aj (fun W=>Below w.heap.size w W) (uH f) ?_
   clear f
   rintro W G
   have f:=aa (G.trans ((Below.refl W.heap.size W).drew.mono G.size))
   clear G
   obtain⟨b,u,e1,_,c1⟩:=cC ((uH Y).below (uH f)) (k:=i) (by have:=uH Z;omega)
   obtain⟨b2,ae,V,_,X⟩:=cC ((uH Y).below (uH f)) (k:=0) (by have:=uH Z;omega)
   rw[e1]at V
   simp only[Option.some.injEq,Addr.mk.injEq]at V
   obtain⟨rfl,rfl,_⟩:=V
   rw[Nat.add_zero]at X
   have l1:=uH LX i;have M:=uH LX 0
   generalize I.getD i 0=x at*
   generalize I.getD 0 0=y at*
   subst e1
   have K1:=aa (fun w'=>dY y (-40) w' M (by omega))
   have lv:=gV y (-40) M
   generalize xV y (-40)=s at*
   have K2:=aa (fun w'=>fi x s w' l1 lv)
   have D:=aa (And.intro c1 X)
   clear l1 M lv c1 X
   go_wp2_with fail
   refine wp_region_held_drew (S:=fun w'=>w'.cell? ⟨b,u+i,none⟩=some (.int .u64 (x:Nat))∧w'.cell? ⟨b,u,none⟩=some (.int .u64 (y:Nat))) (by kernel_rfl) ?_ (fun l=>?_)
   ·exact uH D
   refine wpAnyH_take (i:=0) (oi:={dst:=some 4,op:=Op.move (Operand.tmp 3),type:=3,pos:= "ref.go:131",after:=#[],guard:=none}) (v:=.int .i64 (i:Nat)) rfl (by kernel_rfl) (by kernel_rfl) (by kernel_rfl) (fun _ _ _ h=>h) (Or.inl ⟨by rfl,?_⟩) (by assumption) ?_
   ·(intro w d;(try dsimp only at d);go_simp)
   simp only[Act.put,List.setIfInBounds_toArray,List.set_cons_zero,List.set_cons_succ]
   refine wpAnyH_take (i:=1) (oi:={dst:=some 5,op:=Op.move (Operand.tmp 0),type:=23,pos:= "ref.go:131",after:=#[],guard:=none}) (v:=.slice (some ⟨b,u,none⟩) n z) rfl (by kernel_rfl) (by kernel_rfl) (by kernel_rfl) (fun _ _ _ h=>h) (Or.inl ⟨by rfl,?_⟩) (by assumption) ?_
   ·(intro w d;(try dsimp only at d);go_simp)
   simp only[Act.put,List.setIfInBounds_toArray,List.set_cons_zero,List.set_cons_succ]
   refine wpAnyH_take (i:=2) (oi:={dst:=some 6,op:=Op.call {callee:=Callee.builtin Builtin.len,args:=#[Operand.tmp 5],argTypes:=#[23]},type:=3,pos:= "ref.go:131",after:=#[{on:=1,ground:=Ground.data}],guard:=none}) (v:=.int .i64 (n:Nat)) rfl (by kernel_rfl) (by kernel_rfl) (by kernel_rfl) (fun _ _ _ h=>h) (Or.inl ⟨by rfl,?_⟩) (by assumption) ?_
   ·(intro w d;(try dsimp only at d);go_simp)
   simp only[Act.put,List.setIfInBounds_toArray,List.set_cons_zero,List.set_cons_succ]
   refine wpAnyH_take (i:=3) (oi:={dst:=some 7,op:=Op.binOp BinOp.lss 3 (Operand.tmp 4) (Operand.tmp 6) 3,type:=4,pos:= "ref.go:131",after:=#[{on:=0,ground:=Ground.data},{on:=2,ground:=Ground.data}],guard:=none}) (v:=.bool true) rfl (by kernel_rfl) (by kernel_rfl) (by kernel_rfl) (fun _ _ _ h=>h) (Or.inl ⟨by rfl,?_⟩) (by assumption) ?_
   ·(intro w d;(try dsimp only at d);go_simp)
   simp only[Act.put,List.setIfInBounds_toArray,List.set_cons_zero,List.set_cons_succ]
   refine wpAnyH_take (i:=4) (oi:={dst:=some 8,op:=Op.move (Operand.tmp 7),type:=4,pos:= "ref.go:131",after:=#[{on:=3,ground:=Ground.data}],guard:=none}) (v:=.bool true) rfl (by kernel_rfl) (by kernel_rfl) (by kernel_rfl) (fun _ _ _ h=>h) (Or.inl ⟨by rfl,?_⟩) (by assumption) ?_
   ·(intro w d;(try dsimp only at d);go_simp)
   simp only[Act.put,List.setIfInBounds_toArray,List.set_cons_zero,List.set_cons_succ]
   refine wpAnyH_take (i:=5) (oi:={dst:=some 9,op:=Op.move (Operand.tmp 0),type:=23,pos:= "ref.go:131",after:=#[{on:=4,ground:=Ground.guard}],guard:=some (4,true)}) (v:=.slice (some ⟨b,u,none⟩) n z) rfl (by kernel_rfl) (by kernel_rfl) (by kernel_rfl) (fun _ _ _ h=>h) (Or.inl ⟨by rfl,?_⟩) (by assumption) ?_
   ·(intro w d;(try dsimp only at d);go_simp)
   simp only[Act.put,List.setIfInBounds_toArray,List.set_cons_zero,List.set_cons_succ]
   refine wpAnyH_take (i:=6) (oi:={dst:=some 10,op:=Op.move (Operand.tmp 3),type:=3,pos:= "ref.go:131",after:=#[{on:=4,ground:=Ground.guard}],guard:=some (4,true)}) (v:=.int .i64 (i:Nat)) rfl (by kernel_rfl) (by kernel_rfl) (by kernel_rfl) (fun _ _ _ h=>h) (Or.inl ⟨by rfl,?_⟩) (by assumption) ?_
   ·(intro w d;(try dsimp only at d);go_simp)
   simp only[Act.put,List.setIfInBounds_toArray,List.set_cons_zero,List.set_cons_succ]
   refine wpAnyH_take (i:=7) (oi:={dst:=some 11,op:=Op.indexAddr 23 (Operand.tmp 9) (Operand.tmp 10),type:=0,pos:= "ref.go:131",after:=#[{on:=5,ground:=Ground.data},{on:=6,ground:=Ground.data},{on:=4,ground:=Ground.guard}],guard:=some (4,true)}) (v:=.pointer (some ⟨b,u+i,none⟩)) rfl (by kernel_rfl) (by kernel_rfl) (by kernel_rfl) (fun _ _ _ h=>h) (Or.inl ⟨by rfl,?_⟩) (by assumption) ?_
   ·(intro w d;(try dsimp only at d);go_simp)
   simp only[Act.put,List.setIfInBounds_toArray,List.set_cons_zero,List.set_cons_succ]
   refine wpAnyH_take (i:=8) (oi:={dst:=some 12,op:=Op.load 28 (Operand.tmp 11),type:=28,pos:= "ref.go:131",after:=#[{on:=7,ground:=Ground.data},{on:=4,ground:=Ground.guard}],guard:=some (4,true)}) (v:=.int .u64 (x:Nat)) rfl (by kernel_rfl) (by kernel_rfl) (by kernel_rfl) (fun _ _ _ h=>h) (Or.inl ⟨by rfl,?_⟩) (by assumption) ?_
   ·(intro w d;(try dsimp only at d);go_simp)
   simp only[Act.put,List.setIfInBounds_toArray,List.set_cons_zero,List.set_cons_succ]
   refine wpAnyH_take (i:=9) (oi:={dst:=some 13,op:=Op.move (Operand.tmp 0),type:=23,pos:= "ref.go:131",after:=#[{on:=4,ground:=Ground.guard}],guard:=some (4,true)}) (v:=.slice (some ⟨b,u,none⟩) n z) rfl (by kernel_rfl) (by kernel_rfl) (by kernel_rfl) (fun _ _ _ h=>h) (Or.inl ⟨by rfl,?_⟩) (by assumption) ?_
   ·(intro w d;(try dsimp only at d);go_simp)
   simp only[Act.put,List.setIfInBounds_toArray,List.set_cons_zero,List.set_cons_succ]
   refine wpAnyH_take (i:=10) (oi:={dst:=some 14,op:=Op.indexAddr 23 (Operand.tmp 13) (Operand.const (Value.int IntKind.i64 0)),type:=0,pos:= "ref.go:131",after:=#[{on:=9,ground:=Ground.data},{on:=4,ground:=Ground.guard}],guard:=some (4,true)}) (v:=.pointer (some ⟨b,u,none⟩)) rfl (by kernel_rfl) (by kernel_rfl) (by kernel_rfl) (fun _ _ _ h=>h) (Or.inl ⟨by rfl,?_⟩) (by assumption) ?_
   ·(intro w d;(try dsimp only at d);go_simp)
   simp only[Act.put,List.setIfInBounds_toArray,List.set_cons_zero,List.set_cons_succ]
   refine wpAnyH_take (i:=11) (oi:={dst:=some 15,op:=Op.load 28 (Operand.tmp 14),type:=28,pos:= "ref.go:131",after:=#[{on:=10,ground:=Ground.data},{on:=4,ground:=Ground.guard}],guard:=some (4,true)}) (v:=.int .u64 (y:Nat)) rfl (by kernel_rfl) (by kernel_rfl) (by kernel_rfl) (fun _ _ _ h=>h) (Or.inl ⟨by rfl,?_⟩) (by assumption) ?_
   ·(intro w d;(try dsimp only at d);go_simp)
   simp only[Act.put,List.setIfInBounds_toArray,List.set_cons_zero,List.set_cons_succ]
   refine wpAnyH_ready (rs:=[12]) (by kernel_rfl) (by simp) ?_
   refine AllReadyH.cons (o:={dst:=some 16,op:=Op.call {callee:=Callee.value (Operand.func 93),args:=#[Operand.tmp 15,Operand.const (Value.int IntKind.i64 (-40))],argTypes:=#[28,3]},type:=28,pos:= "ref.go:131",after:=#[{on:=11,ground:=Ground.data},{on:=4,ground:=Ground.chain},{on:=4,ground:=Ground.guard}],guard:=some (4,true)}) rfl (fun K H=>?_) AllReadyH.nil
   go_simp
   refine(uH K1 _).mono ?_
   rintro e w3 ⟨rfl,F⟩
   replace f:=aa ((uH f).trans (F.mono (uH f).size));replace D:=aa (And.intro (ak (uH D).1 F) (ak (uH D).2 F))
   clear F
   go_wp2_with fail
   refine H.out _ _ ?_ (fun l=>?_)
   ·exact uH D
   clear H K
   refine wpAnyH_ready (rs:=[13]) (by kernel_rfl) (by simp) ?_
   refine AllReadyH.cons (o:={dst:=some 17,op:=Op.call {callee:=Callee.value (Operand.func 100),args:=#[Operand.tmp 12,Operand.tmp 16],argTypes:=#[28,28]},type:=4,pos:= "ref.go:131",after:=#[{on:=8,ground:=Ground.data},{on:=12,ground:=Ground.data},{on:=12,ground:=Ground.chain},{on:=4,ground:=Ground.guard}],guard:=some (4,true)}) rfl (fun K H=>?_) AllReadyH.nil
   go_simp
   refine(uH K2 _).mono ?_
   rintro e w4 ⟨rfl,F⟩
   replace f:=aa ((uH f).trans (F.mono (uH f).size));replace D:=aa (And.intro (ak (uH D).1 F) (ak (uH D).2 F))
   clear F
   go_wp2_with fail
   refine H.out _ _ ?_ (fun l=>?_)
   ·exact uH D
   clear H K
   refine wpAnyH_take (i:=14) (oi:={dst:=some 18,op:=Op.pick (Operand.tmp 8) (Operand.tmp 17) (Operand.const (Value.bool false)),type:=4,pos:= "ref.go:131",after:=#[{on:=4,ground:=Ground.data},{on:=13,ground:=Ground.data}],guard:=none}) (v:=.bool (eJ s x)) rfl (by kernel_rfl) (by kernel_rfl) (by kernel_rfl) (fun _ _ _ h=>h) (Or.inl ⟨by rfl,?_⟩) (by assumption) ?_
   ·(intro w d;(try dsimp only at d);go_simp)
   simp only[Act.put,List.setIfInBounds_toArray,List.set_cons_zero,List.set_cons_succ]
   refine wpAnyH_done (by kernel_rfl) ?_ _
   skip
   clear K1 K2 D
   cases hc:eJ s x
   ·have E:mK I (i+1)=i:=by rw[uH NX,hc];rfl
    have E2:=aa (uH ES _ E rfl)
    go_wp2_with fail
    exact bodyPost_ret (v:=.int .i64 i) (by simp[results,Tryz.results41,go_sem]) rfl ⟨by rw[uH E2],uH f⟩
   ·have E:mK I (i+1)=i+1:=by rw[uH NX,hc];rfl
    go_wp2_with fail
    go_round
    case rel=>exact⟨i+1,by omega,by go_num,E,f⟩
    case measure=>simp[intOf];omega
  ·have N:i=n:=by omega
   subst N
   have a0:¬((i:Int)<(i:Int)):=by omega
   have O:=aa ((uH f).trans (((Below.refl wr.heap.size wr).drew).mono (uH f).size))
   clear f
   go_wp2_with fail
   refine wp_region_held_drew (S:=fun w'=>True) (by kernel_rfl) ?_ (fun l=>?_)
   ·exact trivial
   refine wpAnyH_take (i:=0) (oi:={dst:=some 4,op:=Op.move (Operand.tmp 3),type:=3,pos:= "ref.go:131",after:=#[],guard:=none}) (v:=.int .i64 (i:Nat)) rfl (by kernel_rfl) (by kernel_rfl) (by kernel_rfl) (fun _ _ _ h=>h) (Or.inl ⟨by rfl,?_⟩) (by assumption) ?_
   ·(intro w d;(try dsimp only at d);go_simp)
   simp only[Act.put,List.setIfInBounds_toArray,List.set_cons_zero,List.set_cons_succ]
   refine wpAnyH_take (i:=1) (oi:={dst:=some 5,op:=Op.move (Operand.tmp 0),type:=23,pos:= "ref.go:131",after:=#[],guard:=none}) (v:=.slice J i z) rfl (by kernel_rfl) (by kernel_rfl) (by kernel_rfl) (fun _ _ _ h=>h) (Or.inl ⟨by rfl,?_⟩) (by assumption) ?_
   ·(intro w d;(try dsimp only at d);go_simp)
   simp only[Act.put,List.setIfInBounds_toArray,List.set_cons_zero,List.set_cons_succ]
   refine wpAnyH_take (i:=2) (oi:={dst:=some 6,op:=Op.call {callee:=Callee.builtin Builtin.len,args:=#[Operand.tmp 5],argTypes:=#[23]},type:=3,pos:= "ref.go:131",after:=#[{on:=1,ground:=Ground.data}],guard:=none}) (v:=.int .i64 (i:Nat)) rfl (by kernel_rfl) (by kernel_rfl) (by kernel_rfl) (fun _ _ _ h=>h) (Or.inl ⟨by rfl,?_⟩) (by assumption) ?_
   ·(intro w d;(try dsimp only at d);go_simp)
   simp only[Act.put,List.setIfInBounds_toArray,List.set_cons_zero,List.set_cons_succ]
   refine wpAnyH_take (i:=3) (oi:={dst:=some 7,op:=Op.binOp BinOp.lss 3 (Operand.tmp 4) (Operand.tmp 6) 3,type:=4,pos:= "ref.go:131",after:=#[{on:=0,ground:=Ground.data},{on:=2,ground:=Ground.data}],guard:=none}) (v:=.bool false) rfl (by kernel_rfl) (by kernel_rfl) (by kernel_rfl) (fun _ _ _ h=>h) (Or.inl ⟨by rfl,?_⟩) (by assumption) ?_
   ·(intro w d;(try dsimp only at d);go_simp)
   simp only[Act.put,List.setIfInBounds_toArray,List.set_cons_zero,List.set_cons_succ]
   refine wpAnyH_take (i:=4) (oi:={dst:=some 8,op:=Op.move (Operand.tmp 7),type:=4,pos:= "ref.go:131",after:=#[{on:=3,ground:=Ground.data}],guard:=none}) (v:=.bool false) rfl (by kernel_rfl) (by kernel_rfl) (by kernel_rfl) (fun _ _ _ h=>h) (Or.inl ⟨by rfl,?_⟩) (by assumption) ?_
   ·(intro w d;(try dsimp only at d);go_simp)
   simp only[Act.put,List.setIfInBounds_toArray,List.set_cons_zero,List.set_cons_succ]
   refine wpAnyH_take (i:=5) (oi:={dst:=some 9,op:=Op.move (Operand.tmp 0),type:=23,pos:= "ref.go:131",after:=#[{on:=4,ground:=Ground.guard}],guard:=some (4,true)}) (v:=undef) rfl (by kernel_rfl) (by kernel_rfl) (by kernel_rfl) (fun _ _ _ h=>h) (Or.inr ⟨by rfl,rfl⟩) (by assumption) ?_
   simp only[Act.put,List.setIfInBounds_toArray,List.set_cons_zero,List.set_cons_succ]
   refine wpAnyH_take (i:=6) (oi:={dst:=some 10,op:=Op.move (Operand.tmp 3),type:=3,pos:= "ref.go:131",after:=#[{on:=4,ground:=Ground.guard}],guard:=some (4,true)}) (v:=undef) rfl (by kernel_rfl) (by kernel_rfl) (by kernel_rfl) (fun _ _ _ h=>h) (Or.inr ⟨by rfl,rfl⟩) (by assumption) ?_
   simp only[Act.put,List.setIfInBounds_toArray,List.set_cons_zero,List.set_cons_succ]
   refine wpAnyH_take (i:=7) (oi:={dst:=some 11,op:=Op.indexAddr 23 (Operand.tmp 9) (Operand.tmp 10),type:=0,pos:= "ref.go:131",after:=#[{on:=5,ground:=Ground.data},{on:=6,ground:=Ground.data},{on:=4,ground:=Ground.guard}],guard:=some (4,true)}) (v:=undef) rfl (by kernel_rfl) (by kernel_rfl) (by kernel_rfl) (fun _ _ _ h=>h) (Or.inr ⟨by rfl,rfl⟩) (by assumption) ?_
   simp only[Act.put,List.setIfInBounds_toArray,List.set_cons_zero,List.set_cons_succ]
   refine wpAnyH_take (i:=8) (oi:={dst:=some 12,op:=Op.load 28 (Operand.tmp 11),type:=28,pos:= "ref.go:131",after:=#[{on:=7,ground:=Ground.data},{on:=4,ground:=Ground.guard}],guard:=some (4,true)}) (v:=undef) rfl (by kernel_rfl) (by kernel_rfl) (by kernel_rfl) (fun _ _ _ h=>h) (Or.inr ⟨by rfl,rfl⟩) (by assumption) ?_
   simp only[Act.put,List.setIfInBounds_toArray,List.set_cons_zero,List.set_cons_succ]
   refine wpAnyH_take (i:=9) (oi:={dst:=some 13,op:=Op.move (Operand.tmp 0),type:=23,pos:= "ref.go:131",after:=#[{on:=4,ground:=Ground.guard}],guard:=some (4,true)}) (v:=undef) rfl (by kernel_rfl) (by kernel_rfl) (by kernel_rfl) (fun _ _ _ h=>h) (Or.inr ⟨by rfl,rfl⟩) (by assumption) ?_
   simp only[Act.put,List.setIfInBounds_toArray,List.set_cons_zero,List.set_cons_succ]
   refine wpAnyH_take (i:=10) (oi:={dst:=some 14,op:=Op.indexAddr 23 (Operand.tmp 13) (Operand.const (Value.int IntKind.i64 0)),type:=0,pos:= "ref.go:131",after:=#[{on:=9,ground:=Ground.data},{on:=4,ground:=Ground.guard}],guard:=some (4,true)}) (v:=undef) rfl (by kernel_rfl) (by kernel_rfl) (by kernel_rfl) (fun _ _ _ h=>h) (Or.inr ⟨by rfl,rfl⟩) (by assumption) ?_
   simp only[Act.put,List.setIfInBounds_toArray,List.set_cons_zero,List.set_cons_succ]
   refine wpAnyH_take (i:=11) (oi:={dst:=some 15,op:=Op.load 28 (Operand.tmp 14),type:=28,pos:= "ref.go:131",after:=#[{on:=10,ground:=Ground.data},{on:=4,ground:=Ground.guard}],guard:=some (4,true)}) (v:=undef) rfl (by kernel_rfl) (by kernel_rfl) (by kernel_rfl) (fun _ _ _ h=>h) (Or.inr ⟨by rfl,rfl⟩) (by assumption) ?_
   simp only[Act.put,List.setIfInBounds_toArray,List.set_cons_zero,List.set_cons_succ]
   refine wpAnyH_take (i:=12) (oi:={dst:=some 16,op:=Op.call {callee:=Callee.value (Operand.func 93),args:=#[Operand.tmp 15,Operand.const (Value.int IntKind.i64 (-40))],argTypes:=#[28,3]},type:=28,pos:= "ref.go:131",after:=#[{on:=11,ground:=Ground.data},{on:=4,ground:=Ground.chain},{on:=4,ground:=Ground.guard}],guard:=some (4,true)}) (v:=undef) rfl (by kernel_rfl) (by kernel_rfl) (by kernel_rfl) (fun _ _ _ h=>h) (Or.inr ⟨by rfl,rfl⟩) (by assumption) ?_
   simp only[Act.put,List.setIfInBounds_toArray,List.set_cons_zero,List.set_cons_succ]
   refine wpAnyH_take (i:=13) (oi:={dst:=some 17,op:=Op.call {callee:=Callee.value (Operand.func 100),args:=#[Operand.tmp 12,Operand.tmp 16],argTypes:=#[28,28]},type:=4,pos:= "ref.go:131",after:=#[{on:=8,ground:=Ground.data},{on:=12,ground:=Ground.data},{on:=12,ground:=Ground.chain},{on:=4,ground:=Ground.guard}],guard:=some (4,true)}) (v:=undef) rfl (by kernel_rfl) (by kernel_rfl) (by kernel_rfl) (fun _ _ _ h=>h) (Or.inr ⟨by rfl,rfl⟩) (by assumption) ?_
   simp only[Act.put,List.setIfInBounds_toArray,List.set_cons_zero,List.set_cons_succ]
   refine wpAnyH_take (i:=14) (oi:={dst:=some 18,op:=Op.pick (Operand.tmp 8) (Operand.tmp 17) (Operand.const (Value.bool false)),type:=4,pos:= "ref.go:131",after:=#[{on:=4,ground:=Ground.data},{on:=13,ground:=Ground.data}],guard:=none}) (v:=.bool false) rfl (by kernel_rfl) (by kernel_rfl) (by kernel_rfl) (fun _ _ _ h=>h) (Or.inl ⟨by rfl,?_⟩) (by assumption) ?_
   ·(intro w d;(try dsimp only at d);go_simp)
   simp only[Act.put,List.setIfInBounds_toArray,List.set_cons_zero,List.set_cons_succ]
   refine wpAnyH_done (by kernel_rfl) ?_ _
   skip
   go_wp2_with fail
   exact bodyPost_ret (v:=.int .i64 i) (by simp[results,Tryz.results41,go_sem]) rfl ⟨by rw[U],uH O⟩
def rl:List Nat:=[4613937818241073152,0,0,4616189618054758400]
theorem Fp:rh rl=2:=by decide+kernel
theorem Iu:iX rl (-2)= [4604930618986332160,0,0,4607182418800017408]:=by decide+kernel
theorem mM{I:List Int}{m S R o:Nat}{k:Int}(d:gD I I.length=m)(f:¬(m=0∨aA m=false))(h:eX m=k)(l:eM (tL k I) (tL k I) I.length=S)(u:sV S=R)(z:xV R k=o):nX I=o:=by
 unfold nX
 rw[d,if_neg f,h,l,u,z]
theorem B7:sV 4612248968380809216=4609434218613702656:=by
 have:=sU 4609434218613702656 (by decide+kernel) (by decide+kernel)
 rwa[show mV 4609434218613702656 4609434218613702656=4612248968380809216 from by decide+kernel,show fR 4609434218613702656=4609434218613702656 from by decide+kernel]at this
theorem B8:sV 4607182418800017408=4607182418800017408:=by
 have:=sU 4607182418800017408 (by decide+kernel) (by decide+kernel)
 rwa[show mV 4607182418800017408 4607182418800017408=4607182418800017408 from by decide+kernel,show fR 4607182418800017408=4607182418800017408 from by decide+kernel]at this
theorem Fq:jO 2 2 [4604930618986332160,0,0,4607182418800017408] 0=4604930618986332160:=
 mM (m:=4604930618986332160) (k:=-1) (S:=4612248968380809216) (R:=4609434218613702656) (by decide+kernel) (by decide+kernel) (by decide+kernel) (by decide+kernel) B7 (by decide+kernel)
theorem Fr:jO 2 2 [4604930618986332160,0,0,4607182418800017408] 1=4607182418800017408:=
 mM (m:=4607182418800017408) (k:=0) (S:=4607182418800017408) (R:=4607182418800017408) (by decide+kernel) (by decide+kernel) (by decide+kernel) (by decide+kernel) B8 (by decide+kernel)
theorem Iv(low:Nat):Ck 2 2 low [4604930618986332160,0,0,4607182418800017408] 0 1=true:=by
 unfold Ck
 rw[Fq,Fr,show yr 2 2 [4604930618986332160,0,0,4607182418800017408] 0 1=0 from by decide+kernel,show eJ (xV (mV 4604930618986332160 4607182418800017408) (-44)) (fR 0)=false from by decide+kernel]
 cases eJ low 4604930618986332160<;>cases eJ low 4607182418800017408<;>rfl
theorem Fs(low:Nat):gu 2 2 low ⟨[4604930618986332160,0,0,4607182418800017408],gE 2,false⟩ 1=⟨[4604930618986332160,0,0,4607182418800017408],gE 2,true⟩:=by
 show tX 2 2 low 0 1 ⟨[4604930618986332160,0,0,4607182418800017408],gE 2,true⟩=_
 exact oy (Iv low)
theorem wt:ge 2 2 rl=⟨[4604930618986332160,0,0,4607182418800017408],gE 2,true⟩:=by
 unfold ge Fn
 rw[Fp,Iu]
 generalize xV (nX (aL [4604930618986332160,0,0,4607182418800017408])) (-44)=low
 have:=kC (r:=2) (c:=2) (low:=low) (s:=⟨[4604930618986332160,0,0,4607182418800017408],gE 2,false⟩) (n:=1) (by rw[Fs]) 59
 rw[show 1+59=60 from rfl,Fs]at this
 exact this
theorem Ft:pi 2 2 rl= [1,0]:=by
 unfold pi
 rw[wt]
 show cE [jO 2 2 [4604930618986332160,0,0,4607182418800017408] 0,jO 2 2 [4604930618986332160,0,0,4607182418800017408] 1] 2=_
 rw[Fq,Fr]
 decide+kernel
theorem B9:iB 2 2 rl= [0,4613937818241073152,4616189618054758400,0]:=by
 unfold iB
 rw[Ft,wt,Fp]
 decide+kernel
theorem Fu:kE 2 2 rl= [0,4607182418800017408,4607182418800017408,0]:=by
 unfold kE
 rw[Ft,wt]
 decide+kernel
theorem Iw:mq 2 2 rl=true:=by
 unfold mq
 rw[B9,Fu]
 decide+kernel
theorem Ix:jO 2 2 [0,4613937818241073152,4616189618054758400,0] 0=4616189618054758400:=
 mM (m:=4616189618054758400) (k:=2) (S:=4607182418800017408) (R:=4607182418800017408) (by decide+kernel) (by decide+kernel) (by decide+kernel) (by decide+kernel) B8 (by decide+kernel)
theorem Iy:jO 2 2 [0,4613937818241073152,4616189618054758400,0] 1=4613937818241073152:=
 mM (m:=4613937818241073152) (k:=1) (S:=4612248968380809216) (R:=4609434218613702656) (by decide+kernel) (by decide+kernel) (by decide+kernel) (by decide+kernel) B7 (by decide+kernel)
theorem Iz:bR 2 2 (iB 2 2 rl)= [4616189618054758400,4613937818241073152]:=by
 rw[B9]
 show [jO 2 2 [0,4613937818241073152,4616189618054758400,0] 0,jO 2 2 [0,4613937818241073152,4616189618054758400,0] 1]=_
 rw[Ix,Iy]
theorem vt(z L:Nat)(w:World)
  (C:∀w' M,Below w.heap.size w w'→af w' M 4 (aL rl)→Calls Tryz.prog 37 #[.agg #[.int .i64 2,.int .i64 2,.slice M 4 4]] w' fun e h=>∃l u D F g,e=.returned (.tuple #[.agg #[.int .i64 2,.int .i64 2,.slice l z u],.agg #[.int .i64 2,.int .i64 2,.slice D L F],.slice (some ⟨g,0,none⟩) 2 2,.int .i64 0])∧bp h g [4616189618054758400,4613937818241073152]∧Below w'.heap.size w' h):
  Calls Tryz.prog 42 #[] w fun e w'=>e=.returned (.bool true)∧Below w.heap.size w w':=by
 have G:=ac w (.cells #[.int .u64 ((4613937818241073152:Nat):Int),.int .u64 ((0:Nat):Int),.int .u64 ((0:Nat):Int),.int .u64 ((4616189618054758400:Nat):Int)] 28)
 have N:bp (w.alloc (.cells #[.int .u64 ((4613937818241073152:Nat):Int),.int .u64 ((0:Nat):Int),.int .u64 ((0:Nat):Int),.int .u64 ((4616189618054758400:Nat):Int)] 28)) w.heap.size rl:=heap_alloc_new w _
 have O:af (w.alloc (.cells #[.int .u64 ((4613937818241073152:Nat):Int),.int .u64 ((0:Nat):Int),.int .u64 ((0:Nat):Int),.int .u64 ((4616189618054758400:Nat):Int)] 28)) (some ⟨w.heap.size,0,none⟩) 4 (aL rl):=N.bits (by decide)
 have K:=aa (C _ _ G O)
 have d:=aa G
 clear C G N O
 go_enter Tryz.func42,Tryz.ntmps42
 go_wp2_with fail
 refine Calls.mono (uH K) ?_
 rintro e J ⟨l,u,D,F,g,rfl,U,V⟩
 replace d:=aa ((uH d).trans (V.mono (uH d).size))
 have H:=ac J (.cells #[.int .i64 2,.int .i64 2,.slice l z u] 25)
 have Q:=ac (J.alloc (.cells #[.int .i64 2,.int .i64 2,.slice l z u] 25)) (.cells #[.int .i64 2,.int .i64 2,.slice D L F] 25)
 have f:=H.trans (Q.mono H.size)
 have X:=ak (show J.cell? ⟨g,0,none⟩=some (.int .u64 4616189618054758400)from U.cell 0 (by decide)) f
 replace d:=aa ((uH d).trans (f.mono (uH d).size))
 clear V U H Q f K
 go_wp2_with fail
 exact bodyPost_ret (v:=.bool true) (by simp[results,Tryz.results42,go_sem]) rfl ⟨rfl,uH d⟩
theorem tG(w:World)(z:bT w):
  Calls Tryz.prog 42 #[] w fun e w'=>e=.returned (.bool true)∧Below w.heap.size w w':=by
 refine vt 4 4 w (fun w' l D u=>?_)
 have:=rj 2 2 4 4 4 l rl w' ⟨u,rfl,by decide,by decide⟩ rfl rfl (z.all D)
 have C:=fun f (d:Below w'.heap.size w' f)=>oq 2 2 l 4 (aL rl) f (u.below d) (by decide)
 rw[show oo 2 2 (aL rl)=0 from by decide+kernel]at C
 refine(ws 2 2 4 4 (ge 2 2 rl).still (mq 2 2 rl) (iB 2 2 rl) (kE 2 2 rl) l w' C (fun f d=>rj 2 2 4 4 4 l rl f ⟨u.below d,rfl,by decide,by decide⟩ rfl rfl ((z.all D).all d))).mono ?_
 rintro e f ⟨h|h|⟨_,_,L,M,g,rfl,⟨G,H,rfl,_,_⟩,⟨J,K,rfl,_,_⟩,_,F⟩,d⟩
 ·rw[wt]at h;cases h.1
 ·rw[Iw]at h;cases h.2.1
 ·rw[Iz]at F
  rw[B9,Fu]
  exact⟨G,H,J,K,g,rfl,F,d⟩
theorem tH(ao bo:Option Addr)(n c d g yy xx v1 v2 z v3 v4 v5 v6 v7 u0 v8 v9 D C s:Nat)(w:World)
  (D0:∀w',Below w.heap.size w w'→Calls Tryz.prog 77 #[.slice ao n c,.slice bo n d] w' fun e f=>e=.returned (.int .u64 (g:Nat))∧Below w'.heap.size w' f)
  (D1:∀w',Below w.heap.size w w'→Calls Tryz.prog 77 #[.slice bo n d,.slice bo n d] w' fun e f=>e=.returned (.int .u64 (yy:Nat))∧Below w'.heap.size w' f)
  (D2:∀w',Below w.heap.size w w'→Calls Tryz.prog 77 #[.slice ao n c,.slice ao n c] w' fun e f=>e=.returned (.int .u64 (xx:Nat))∧Below w'.heap.size w' f)
  (A1:∀w',Below w.heap.size w w'→Calls Tryz.prog 205 #[.int .u64 (yy:Nat),.int .u64 (xx:Nat)] w' fun e f=>e=.returned (.int .u64 (v1:Nat))∧Below w'.heap.size w' f)
  (A2:∀w',Below w.heap.size w w'→Calls Tryz.prog 132 #[.int .u64 (g:Nat),.int .u64 (g:Nat)] w' fun e f=>e=.returned (.int .u64 (v2:Nat))∧Below w'.heap.size w' f)
  (A3:∀w',Below w.heap.size w w'→Calls Tryz.prog 206 #[.int .u64 (v1:Nat),.int .u64 (v2:Nat)] w' fun e f=>e=.returned (.int .u64 (z:Nat))∧Below w'.heap.size w' f)
  (A5:∀w',Below w.heap.size w w'→Calls Tryz.prog 133 #[.int .u64 (z:Nat),.int .u64 (z:Nat)] w' fun e f=>e=.returned (.int .u64 (v4:Nat))∧Below w'.heap.size w' f)
  (A6:∀w',Below w.heap.size w w'→Calls Tryz.prog 132 #[.int .u64 4607182418800017408,.int .u64 (v4:Nat)] w' fun e f=>e=.returned (.int .u64 (v5:Nat))∧Below w'.heap.size w' f)
  (A7:∀w',Below w.heap.size w w'→Calls Tryz.prog 163 #[.int .u64 (v5:Nat)] w' fun e f=>e=.returned (.int .u64 (v6:Nat))∧Below w'.heap.size w' f)
  (A4:∀w',Calls Tryz.prog 160 #[.int .u64 (z:Nat)] w' fun e f=>e=.returned (.int .u64 (v3:Nat))∧w'=f)
  (A8:∀w',Below w.heap.size w w'→Calls Tryz.prog 132 #[.int .u64 (v3:Nat),.int .u64 (v6:Nat)] w' fun e f=>e=.returned (.int .u64 (v7:Nat))∧Below w'.heap.size w' f)
  (A9:∀w',Below w.heap.size w w'→Calls Tryz.prog 206 #[.int .u64 4607182418800017408,.int .u64 (v7:Nat)] w' fun e f=>e=.returned (.int .u64 (u0:Nat))∧Below w'.heap.size w' f)
  (AA:∀w',Calls Tryz.prog 118 #[.int .u64 (z:Nat)] w' fun e f=>e=.returned (.bool false)∧w'=f)
  (AC:∀w',Below w.heap.size w w'→Calls Tryz.prog 133 #[.int .u64 (u0:Nat),.int .u64 (u0:Nat)] w' fun e f=>e=.returned (.int .u64 (v8:Nat))∧Below w'.heap.size w' f)
  (AD:∀w',Below w.heap.size w w'→Calls Tryz.prog 132 #[.int .u64 4607182418800017408,.int .u64 (v8:Nat)] w' fun e f=>e=.returned (.int .u64 (v9:Nat))∧Below w'.heap.size w' f)
  (AE:∀w',Below w.heap.size w w'→Calls Tryz.prog 163 #[.int .u64 (v9:Nat)] w' fun e f=>e=.returned (.int .u64 (D:Nat))∧Below w'.heap.size w' f)
  (AF:∀w',Below w.heap.size w w'→Calls Tryz.prog 206 #[.int .u64 4607182418800017408,.int .u64 (D:Nat)] w' fun e f=>e=.returned (.int .u64 (C:Nat))∧Below w'.heap.size w' f)
  (AG:∀w',Below w.heap.size w w'→Calls Tryz.prog 133 #[.int .u64 (C:Nat),.int .u64 (u0:Nat)] w' fun e f=>e=.returned (.int .u64 (s:Nat))∧Below w'.heap.size w' f):
  Calls Tryz.prog 165 #[.slice ao n c,.slice bo n d] w fun e w'=>e=.returned (.tuple #[.int .u64 (C:Nat),.int .u64 (s:Nat)])∧Below w.heap.size w w':=by
 have h:=aa (Below.refl w.heap.size w)
 have F:=aa D0
 have G:=aa D1
 have H:=aa D2
 have J:=aa A1
 have K:=aa A2
 have L:=aa A3
 have M:=aa A5
 have N:=aa A6
 have O:=aa A7
 have Q:=aa A4
 have U:=aa A8
 have V:=aa A9
 have X:=aa AA
 have Y:=aa AC
 have Z:=aa AD
 have ae:=aa AE
 have am:=aa AF
 have ap:=aa AG
 clear D0 D1 D2 A1 A2 A3 A5 A6 A7 A4 A8 A9 AA AC AD AE AF AG
 go_enter Tryz.func165,Tryz.ntmps165
 go_wp2_with fail
 refine(uH F _ (uH h)).mono ?_
 rintro e u ⟨rfl,l⟩
 replace h:=aa ((uH h).trans (l.mono (uH h).size))
 clear l F
 go_wp2_with fail
 refine(uH G _ (uH h)).mono ?_
 rintro e u ⟨rfl,l⟩
 replace h:=aa ((uH h).trans (l.mono (uH h).size))
 clear l G
 go_wp2_with fail
 refine(uH H _ (uH h)).mono ?_
 rintro e u ⟨rfl,l⟩
 replace h:=aa ((uH h).trans (l.mono (uH h).size))
 clear l H
 go_wp2_with fail
 refine(uH J _ (uH h)).mono ?_
 rintro e u ⟨rfl,l⟩
 replace h:=aa ((uH h).trans (l.mono (uH h).size))
 clear l J
 go_wp2_with fail
 refine(uH K _ (uH h)).mono ?_
 rintro e u ⟨rfl,l⟩
 replace h:=aa ((uH h).trans (l.mono (uH h).size))
 clear l K
 go_wp2_with fail
 refine(uH L _ (uH h)).mono ?_
 rintro e u ⟨rfl,l⟩
 replace h:=aa ((uH h).trans (l.mono (uH h).size))
 clear l L
 go_wp2_with fail
 refine(uH M _ (uH h)).mono ?_
 rintro e u ⟨rfl,l⟩
 replace h:=aa ((uH h).trans (l.mono (uH h).size))
 clear l M
 go_wp2_with fail
 refine(uH N _ (uH h)).mono ?_
 rintro e u ⟨rfl,l⟩
 replace h:=aa ((uH h).trans (l.mono (uH h).size))
 clear l N
 go_wp2_with fail
 refine(uH O _ (uH h)).mono ?_
 rintro e u ⟨rfl,l⟩
 replace h:=aa ((uH h).trans (l.mono (uH h).size))
 clear l O
 go_wp2_with fail
 refine(uH Q _).mono ?_
 rintro e u ⟨rfl,rfl⟩
 clear Q
 go_wp2_with fail
 refine(uH U _ (uH h)).mono ?_
 rintro e u ⟨rfl,l⟩
 replace h:=aa ((uH h).trans (l.mono (uH h).size))
 clear l U
 go_wp2_with fail
 refine(uH V _ (uH h)).mono ?_
 rintro e u ⟨rfl,l⟩
 replace h:=aa ((uH h).trans (l.mono (uH h).size))
 clear l V
 go_wp2_with fail
 refine(uH X _).mono ?_
 rintro e u ⟨rfl,rfl⟩
 clear X
 go_wp2_with fail
 refine(uH Y _ (uH h)).mono ?_
 rintro e u ⟨rfl,l⟩
 replace h:=aa ((uH h).trans (l.mono (uH h).size))
 clear l Y
 go_wp2_with fail
 refine(uH Z _ (uH h)).mono ?_
 rintro e u ⟨rfl,l⟩
 replace h:=aa ((uH h).trans (l.mono (uH h).size))
 clear l Z
 go_wp2_with fail
 refine(uH ae _ (uH h)).mono ?_
 rintro e u ⟨rfl,l⟩
 replace h:=aa ((uH h).trans (l.mono (uH h).size))
 clear l ae
 go_wp2_with fail
 refine(uH am _ (uH h)).mono ?_
 rintro e u ⟨rfl,l⟩
 replace h:=aa ((uH h).trans (l.mono (uH h).size))
 clear l am
 go_wp2_with fail
 refine(uH ap _ (uH h)).mono ?_
 rintro e u ⟨rfl,l⟩
 replace h:=aa ((uH h).trans (l.mono (uH h).size))
 clear l ap
 go_wp2_with fail
 exact bodyPost_ret (v:=.tuple #[.int .u64 (C:Nat),.int .u64 (s:Nat)]) (by simp[results,Tryz.results165,go_sem]) rfl ⟨rfl,uH h⟩
theorem tI(ao bo:Option Addr)(n c d g yy xx v1 v2 z v3 v4 v5 v6 v7 u0 t v8 v9 D C s:Nat)(w:World)
  (D0:∀w',Below w.heap.size w w'→Calls Tryz.prog 77 #[.slice ao n c,.slice bo n d] w' fun e f=>e=.returned (.int .u64 (g:Nat))∧Below w'.heap.size w' f)
  (D1:∀w',Below w.heap.size w w'→Calls Tryz.prog 77 #[.slice bo n d,.slice bo n d] w' fun e f=>e=.returned (.int .u64 (yy:Nat))∧Below w'.heap.size w' f)
  (D2:∀w',Below w.heap.size w w'→Calls Tryz.prog 77 #[.slice ao n c,.slice ao n c] w' fun e f=>e=.returned (.int .u64 (xx:Nat))∧Below w'.heap.size w' f)
  (A1:∀w',Below w.heap.size w w'→Calls Tryz.prog 205 #[.int .u64 (yy:Nat),.int .u64 (xx:Nat)] w' fun e f=>e=.returned (.int .u64 (v1:Nat))∧Below w'.heap.size w' f)
  (A2:∀w',Below w.heap.size w w'→Calls Tryz.prog 132 #[.int .u64 (g:Nat),.int .u64 (g:Nat)] w' fun e f=>e=.returned (.int .u64 (v2:Nat))∧Below w'.heap.size w' f)
  (A3:∀w',Below w.heap.size w w'→Calls Tryz.prog 206 #[.int .u64 (v1:Nat),.int .u64 (v2:Nat)] w' fun e f=>e=.returned (.int .u64 (z:Nat))∧Below w'.heap.size w' f)
  (A5:∀w',Below w.heap.size w w'→Calls Tryz.prog 133 #[.int .u64 (z:Nat),.int .u64 (z:Nat)] w' fun e f=>e=.returned (.int .u64 (v4:Nat))∧Below w'.heap.size w' f)
  (A6:∀w',Below w.heap.size w w'→Calls Tryz.prog 132 #[.int .u64 4607182418800017408,.int .u64 (v4:Nat)] w' fun e f=>e=.returned (.int .u64 (v5:Nat))∧Below w'.heap.size w' f)
  (A7:∀w',Below w.heap.size w w'→Calls Tryz.prog 163 #[.int .u64 (v5:Nat)] w' fun e f=>e=.returned (.int .u64 (v6:Nat))∧Below w'.heap.size w' f)
  (A4:∀w',Calls Tryz.prog 160 #[.int .u64 (z:Nat)] w' fun e f=>e=.returned (.int .u64 (v3:Nat))∧w'=f)
  (A8:∀w',Below w.heap.size w w'→Calls Tryz.prog 132 #[.int .u64 (v3:Nat),.int .u64 (v6:Nat)] w' fun e f=>e=.returned (.int .u64 (v7:Nat))∧Below w'.heap.size w' f)
  (A9:∀w',Below w.heap.size w w'→Calls Tryz.prog 206 #[.int .u64 4607182418800017408,.int .u64 (v7:Nat)] w' fun e f=>e=.returned (.int .u64 (u0:Nat))∧Below w'.heap.size w' f)
  (AA:∀w',Calls Tryz.prog 118 #[.int .u64 (z:Nat)] w' fun e f=>e=.returned (.bool true)∧w'=f)
  (AB:∀w',Calls Tryz.prog 166 #[.int .u64 (u0:Nat)] w' fun e f=>e=.returned (.int .u64 (t:Nat))∧w'=f)
  (AC:∀w',Below w.heap.size w w'→Calls Tryz.prog 133 #[.int .u64 (t:Nat),.int .u64 (t:Nat)] w' fun e f=>e=.returned (.int .u64 (v8:Nat))∧Below w'.heap.size w' f)
  (AD:∀w',Below w.heap.size w w'→Calls Tryz.prog 132 #[.int .u64 4607182418800017408,.int .u64 (v8:Nat)] w' fun e f=>e=.returned (.int .u64 (v9:Nat))∧Below w'.heap.size w' f)
  (AE:∀w',Below w.heap.size w w'→Calls Tryz.prog 163 #[.int .u64 (v9:Nat)] w' fun e f=>e=.returned (.int .u64 (D:Nat))∧Below w'.heap.size w' f)
  (AF:∀w',Below w.heap.size w w'→Calls Tryz.prog 206 #[.int .u64 4607182418800017408,.int .u64 (D:Nat)] w' fun e f=>e=.returned (.int .u64 (C:Nat))∧Below w'.heap.size w' f)
  (AG:∀w',Below w.heap.size w w'→Calls Tryz.prog 133 #[.int .u64 (C:Nat),.int .u64 (t:Nat)] w' fun e f=>e=.returned (.int .u64 (s:Nat))∧Below w'.heap.size w' f):
  Calls Tryz.prog 165 #[.slice ao n c,.slice bo n d] w fun e w'=>e=.returned (.tuple #[.int .u64 (C:Nat),.int .u64 (s:Nat)])∧Below w.heap.size w w':=by
 have h:=aa (Below.refl w.heap.size w)
 have F:=aa D0
 have G:=aa D1
 have H:=aa D2
 have J:=aa A1
 have K:=aa A2
 have L:=aa A3
 have M:=aa A5
 have N:=aa A6
 have O:=aa A7
 have Q:=aa A4
 have U:=aa A8
 have V:=aa A9
 have X:=aa AA
 have Y:=aa AB
 have Z:=aa AC
 have ae:=aa AD
 have am:=aa AE
 have ap:=aa AF
 have ax:=aa AG
 clear D0 D1 D2 A1 A2 A3 A5 A6 A7 A4 A8 A9 AA AB AC AD AE AF AG
 go_enter Tryz.func165,Tryz.ntmps165
 go_wp2_with fail
 refine(uH F _ (uH h)).mono ?_
 rintro e u ⟨rfl,l⟩
 replace h:=aa ((uH h).trans (l.mono (uH h).size))
 clear l F
 go_wp2_with fail
 refine(uH G _ (uH h)).mono ?_
 rintro e u ⟨rfl,l⟩
 replace h:=aa ((uH h).trans (l.mono (uH h).size))
 clear l G
 go_wp2_with fail
 refine(uH H _ (uH h)).mono ?_
 rintro e u ⟨rfl,l⟩
 replace h:=aa ((uH h).trans (l.mono (uH h).size))
 clear l H
 go_wp2_with fail
 refine(uH J _ (uH h)).mono ?_
 rintro e u ⟨rfl,l⟩
 replace h:=aa ((uH h).trans (l.mono (uH h).size))
 clear l J
 go_wp2_with fail
 refine(uH K _ (uH h)).mono ?_
 rintro e u ⟨rfl,l⟩
 replace h:=aa ((uH h).trans (l.mono (uH h).size))
 clear l K
 go_wp2_with fail
 refine(uH L _ (uH h)).mono ?_
 rintro e u ⟨rfl,l⟩
 replace h:=aa ((uH h).trans (l.mono (uH h).size))
 clear l L
 go_wp2_with fail
 refine(uH M _ (uH h)).mono ?_
 rintro e u ⟨rfl,l⟩
 replace h:=aa ((uH h).trans (l.mono (uH h).size))
 clear l M
 go_wp2_with fail
 refine(uH N _ (uH h)).mono ?_
 rintro e u ⟨rfl,l⟩
 replace h:=aa ((uH h).trans (l.mono (uH h).size))
 clear l N
 go_wp2_with fail
 refine(uH O _ (uH h)).mono ?_
 rintro e u ⟨rfl,l⟩
 replace h:=aa ((uH h).trans (l.mono (uH h).size))
 clear l O
 go_wp2_with fail
 refine(uH Q _).mono ?_
 rintro e u ⟨rfl,rfl⟩
 clear Q
 go_wp2_with fail
 refine(uH U _ (uH h)).mono ?_
 rintro e u ⟨rfl,l⟩
 replace h:=aa ((uH h).trans (l.mono (uH h).size))
 clear l U
 go_wp2_with fail
 refine(uH V _ (uH h)).mono ?_
 rintro e u ⟨rfl,l⟩
 replace h:=aa ((uH h).trans (l.mono (uH h).size))
 clear l V
 go_wp2_with fail
 refine(uH X _).mono ?_
 rintro e u ⟨rfl,rfl⟩
 clear X
 go_wp2_with fail
 refine(uH Y _).mono ?_
 rintro e u ⟨rfl,rfl⟩
 clear Y
 go_wp2_with fail
 refine(uH Z _ (uH h)).mono ?_
 rintro e u ⟨rfl,l⟩
 replace h:=aa ((uH h).trans (l.mono (uH h).size))
 clear l Z
 go_wp2_with fail
 refine(uH ae _ (uH h)).mono ?_
 rintro e u ⟨rfl,l⟩
 replace h:=aa ((uH h).trans (l.mono (uH h).size))
 clear l ae
 go_wp2_with fail
 refine(uH am _ (uH h)).mono ?_
 rintro e u ⟨rfl,l⟩
 replace h:=aa ((uH h).trans (l.mono (uH h).size))
 clear l am
 go_wp2_with fail
 refine(uH ap _ (uH h)).mono ?_
 rintro e u ⟨rfl,l⟩
 replace h:=aa ((uH h).trans (l.mono (uH h).size))
 clear l ap
 go_wp2_with fail
 refine(uH ax _ (uH h)).mono ?_
 rintro e u ⟨rfl,l⟩
 replace h:=aa ((uH h).trans (l.mono (uH h).size))
 clear l ax
 go_wp2_with fail
 exact bodyPost_ret (v:=.tuple #[.int .u64 (C:Nat),.int .u64 (s:Nat)]) (by simp[results,Tryz.results165,go_sem]) rfl ⟨rfl,uH h⟩
theorem oB(v:Nat)(w:World)(d:v<18446744073709551616):Calls Tryz.prog 132 #[.int .u64 4607182418800017408,.int .u64 (v:Nat)] w fun e w'=>e=.returned (.int .u64 (aV 4607182418800017408 v:Nat))∧Below w.heap.size w w':=by
 have:=fJ 4607182418800017408 v w (by decide) d
 rwa[show((4607182418800017408:Nat):Int)=4607182418800017408 from rfl]at this
theorem oC(v:Nat)(w:World)(d:v<18446744073709551616):Calls Tryz.prog 206 #[.int .u64 4607182418800017408,.int .u64 (v:Nat)] w fun e w'=>e=.returned (.int .u64 (dV 4607182418800017408 v:Nat))∧Below w.heap.size w w':=by
 have:=p6 4607182418800017408 v w (by decide) d
 rwa[show((4607182418800017408:Nat):Int)=4607182418800017408 from rfl]at this
theorem wu(w:World):∀t,t<18446744073709551616→∃f l h,(∀w',Below w.heap.size w w'→Calls Tryz.prog 133 #[.int .u64 (t:Nat),.int .u64 (t:Nat)] w' fun e d=>e=.returned (.int .u64 (f:Nat))∧Below w'.heap.size w' d)∧(∀w',Below w.heap.size w w'→Calls Tryz.prog 132 #[.int .u64 4607182418800017408,.int .u64 (f:Nat)] w' fun e d=>e=.returned (.int .u64 (l:Nat))∧Below w'.heap.size w' d)∧(∀w',Below w.heap.size w w'→Calls Tryz.prog 163 #[.int .u64 (l:Nat)] w' fun e d=>e=.returned (.int .u64 (h:Nat))∧Below w'.heap.size w' d)∧(∀w',Below w.heap.size w w'→Calls Tryz.prog 206 #[.int .u64 4607182418800017408,.int .u64 (h:Nat)] w' fun e d=>e=.returned (.int .u64 (mI t:Nat))∧Below w'.heap.size w' d)∧(∀w',Below w.heap.size w w'→Calls Tryz.prog 133 #[.int .u64 (mI t:Nat),.int .u64 (t:Nat)] w' fun e d=>e=.returned (.int .u64 (tq t:Nat))∧Below w'.heap.size w' d):=by
 intro t G
 have u:(4607182418800017408:Nat)<18446744073709551616:=by decide
 have H:mI t=dV 4607182418800017408 (sV (aV 4607182418800017408 (mV t t))):=rfl
 have J:tq t=mV (mI t) t:=rfl
 have K:=qZ t
 have D:=bM t t
 refine⟨mV t t,aV 4607182418800017408 (mV t t),sV (aV 4607182418800017408 (mV t t)),fun w' z=>cT t t w' G G,?_,?_,?_,?_⟩
 ·generalize mV t t=f at*
  exact fun w' z=>oB f w' D
 ·generalize mV t t=f at*
  have F:=dR 4607182418800017408 f u D
  generalize aV 4607182418800017408 f=l at*
  exact fun w' z=>jJ l w' F
 ·rw[H]
  generalize mV t t=f at*
  have F:=dR 4607182418800017408 f u D
  generalize aV 4607182418800017408 f=l at*
  have L:=lO l F
  generalize sV l=h at*
  exact fun w' z=>oC h w' L
 ·rw[J]
  generalize mI t=C at*
  exact fun w' z=>cT C t w' K G
theorem tJ(u D:Option Addr)(c d:Nat)(I J:List Int)(w:World)(hI:af w u c I)(hJ:af w D d J)(h:I.length=J.length)(h6:I.length≤64):
  Calls Tryz.prog 165 #[.slice u I.length c,.slice D I.length d] w fun e w'=>e=.returned (.tuple #[.int .u64 (mI (GY (GW (eM I I I.length) (eM J J I.length) (eM I J I.length))):Nat),.int .u64 (tq (GY (GW (eM I I I.length) (eM J J I.length) (eM I J I.length))):Nat)])∧Below w.heap.size w w':=by
 have U:(4607182418800017408:Nat)<18446744073709551616:=by decide
 have D0:∀w',Below w.heap.size w w'→Calls Tryz.prog 77 #[.slice u I.length c,.slice D I.length d] w' fun e f=>e=.returned (.int .u64 (eM I J I.length:Nat))∧Below w'.heap.size w' f:=fun w' l=>by
  have:=ji u D c d I J w' (hI.below l) (hJ.below l) h (by omega)
  rwa[←h]at this
 have D1:∀w',Below w.heap.size w w'→Calls Tryz.prog 77 #[.slice D I.length d,.slice D I.length d] w' fun e f=>e=.returned (.int .u64 (eM J J I.length:Nat))∧Below w'.heap.size w' f:=fun w' l=>by
  have:=ji D D d d J J w' (hJ.below l) (hJ.below l) rfl (by omega)
  rwa[←h]at this
 have D2:∀w',Below w.heap.size w w'→Calls Tryz.prog 77 #[.slice u I.length c,.slice u I.length c] w' fun e f=>e=.returned (.int .u64 (eM I I I.length:Nat))∧Below w'.heap.size w' f:=fun w' l=>
  ji u u c c I I w' (hI.below l) (hI.below l) rfl (by omega)
 have Z:=ei I J I.length
 have V:=ei J J I.length
 have X:=ei I I I.length
 generalize eM J J I.length=G at*
 generalize eM I J I.length=g at*
 generalize eM I I I.length=H at*
 have A1:∀w',Below w.heap.size w w'→Calls Tryz.prog 205 #[.int .u64 (G:Nat),.int .u64 (H:Nat)] w' fun e f=>e=.returned (.int .u64 (aV G (fN H):Nat))∧Below w'.heap.size w' f:=fun w' l=>p5 G H w' V X
 have A2:∀w',Below w.heap.size w w'→Calls Tryz.prog 132 #[.int .u64 (g:Nat),.int .u64 (g:Nat)] w' fun e f=>e=.returned (.int .u64 (aV g g:Nat))∧Below w'.heap.size w' f:=fun w' l=>fJ g g w' Z Z
 have l1:=dR G (fN H) V (gH _ X)
 have l2:=dR g g Z Z
 unfold GW
 generalize aV G (fN H)=K at*
 generalize aV g g=L at*
 have A3:∀w',Below w.heap.size w w'→Calls Tryz.prog 206 #[.int .u64 (K:Nat),.int .u64 (L:Nat)] w' fun e f=>e=.returned (.int .u64 (dV K L:Nat))∧Below w'.heap.size w' f:=fun w' l=>p6 K L w' l1 l2
 have hz:=su K L
 generalize dV K L=z at*
 have hu:=BJ z
 have hU:GX z=dV 4607182418800017408 (aV (fR z) (sV (aV 4607182418800017408 (mV z z)))):=rfl
 have A4:∀w',Calls Tryz.prog 160 #[.int .u64 (z:Nat)] w' fun e f=>e=.returned (.int .u64 (fR z:Nat))∧w'=f:=fun w'=>ld z w' hz
 have A5:∀w',Below w.heap.size w w'→Calls Tryz.prog 133 #[.int .u64 (z:Nat),.int .u64 (z:Nat)] w' fun e f=>e=.returned (.int .u64 (mV z z:Nat))∧Below w'.heap.size w' f:=fun w' l=>cT z z w' hz hz
 have l3:fR z<18446744073709551616:=by unfold fR;omega
 have l4:=bM z z
 generalize fR z=M at*
 generalize mV z z=N at*
 have A6:∀w',Below w.heap.size w w'→Calls Tryz.prog 132 #[.int .u64 4607182418800017408,.int .u64 (N:Nat)] w' fun e f=>e=.returned (.int .u64 (aV 4607182418800017408 N:Nat))∧Below w'.heap.size w' f:=fun w' l=>oB N w' l4
 have l5:=dR 4607182418800017408 N U l4
 generalize aV 4607182418800017408 N=O at*
 have A7:∀w',Below w.heap.size w w'→Calls Tryz.prog 163 #[.int .u64 (O:Nat)] w' fun e f=>e=.returned (.int .u64 (sV O:Nat))∧Below w'.heap.size w' f:=fun w' l=>jJ O w' l5
 have l6:=lO O l5
 generalize sV O=Q at*
 have A8:∀w',Below w.heap.size w w'→Calls Tryz.prog 132 #[.int .u64 (M:Nat),.int .u64 (Q:Nat)] w' fun e f=>e=.returned (.int .u64 (aV M Q:Nat))∧Below w'.heap.size w' f:=fun w' l=>fJ M Q w' l3 l6
 have l7:=dR M Q l3 l6
 generalize aV M Q=Y at*
 have A9:∀w',Below w.heap.size w w'→Calls Tryz.prog 206 #[.int .u64 4607182418800017408,.int .u64 (Y:Nat)] w' fun e f=>e=.returned (.int .u64 (dV 4607182418800017408 Y:Nat))∧Below w'.heap.size w' f:=fun w' l=>oC Y w' l7
 rw[←hU]at A9
 have AA:∀w',Calls Tryz.prog 118 #[.int .u64 (z:Nat)] w' fun e f=>e=.returned (.bool (fS z))∧w'=f:=fun w'=>gI z w' hz
 clear hU U l1 l2 l3 l4 l5 l6 l7
 unfold GY
 generalize GX z=u0 at*
 cases hs:fS z with
 |false=>
  rw[hs]at AA
  simp only[Bool.false_eq_true,if_false]
  obtain⟨v8,v9,F,B1,B2,B3,B4,B5⟩:=wu w u0 hu
  exact tH u D I.length c d g G H K L z M N O Q Y u0 v8 v9 F (mI u0) (tq u0) w D0 D1 D2 A1 A2 A3 A5 A6 A7 A4 A8 A9 AA B1 B2 B3 B4 B5
 |true=>
  rw[hs]at AA
  simp only[if_true]
  obtain⟨v8,v9,F,B1,B2,B3,B4,B5⟩:=wu w (fN u0) (gH _ hu)
  exact tI u D I.length c d g G H K L z M N O Q Y u0 (fN u0) v8 v9 F (mI (fN u0)) (tq (fN u0)) w D0 D1 D2 A1 A2 A3 A5 A6 A7 A4 A8 A9 AA (fun w'=>iG u0 w' hu) B1 B2 B3 B4 B5
theorem Ca(z D:Option Addr)(n c d low x y m s g a:Nat)(F G u:Bool)(w:World)
  (H:Calls Tryz.prog 94 #[.slice z n c] w fun e w'=>e=.returned (.int .u64 (x:Nat))∧Below w.heap.size w w')
  (J:∀w',Below w.heap.size w w'→Calls Tryz.prog 94 #[.slice D n d] w' fun e f=>e=.returned (.int .u64 (y:Nat))∧Below w'.heap.size w' f)
  (K:∀w',Calls Tryz.prog 133 #[.int .u64 (x:Nat),.int .u64 (y:Nat)] w' fun e f=>e=.returned (.int .u64 (m:Nat))∧Below w'.heap.size w' f)
  (L:∀w',Calls Tryz.prog 93 #[.int .u64 (m:Nat),.int .i64 (-44)] w' fun e f=>e=.returned (.int .u64 (s:Nat))∧Below w'.heap.size w' f)
  (M:∀w',Calls Tryz.prog 100 #[.int .u64 (x:Nat),.int .u64 (low:Nat)] w' fun e f=>e=.returned (.bool F)∧Below w'.heap.size w' f)
  (N:∀w',Calls Tryz.prog 100 #[.int .u64 (y:Nat),.int .u64 (low:Nat)] w' fun e f=>e=.returned (.bool G)∧Below w'.heap.size w' f)
  (O:∀w',Below w.heap.size w w'→Calls Tryz.prog 77 #[.slice z n c,.slice D n d] w' fun e f=>e=.returned (.int .u64 (g:Nat))∧Below w'.heap.size w' f)
  (Q:∀w',Calls Tryz.prog 160 #[.int .u64 (g:Nat)] w' fun e f=>e=.returned (.int .u64 (a:Nat))∧w'=f)
  (U:∀w',Calls Tryz.prog 100 #[.int .u64 (a:Nat),.int .u64 (s:Nat)] w' fun e f=>e=.returned (.bool u)∧Below w'.heap.size w' f):
  Calls Tryz.prog 164 #[.slice z n c,.slice D n d,.int .u64 low] w fun e w'=>e=.returned (.bool (!F||(!G|| !u)))∧Below w.heap.size w w':=by
 have V:=aa H;have X:=aa J;have Y:=aa K;have Z:=aa L;have K5:=aa M;have K6:=aa N;have K7:=aa O;have K8:=aa Q;have K9:=aa U
 have h:=aa (Below.refl w.heap.size w)
 clear H J K L M N O Q U
 go_enter Tryz.func164,Tryz.ntmps164
 go_wp2_with fail
 refine Calls.mono (uH V) ?_
 rintro e w1 ⟨rfl,l⟩
 replace h:=aa ((uH h).trans (l.mono (uH h).size))
 clear l
 go_wp2_with fail
 refine(uH X _ (uH h)).mono ?_
 rintro e w2 ⟨rfl,l⟩
 replace h:=aa ((uH h).trans (l.mono (uH h).size))
 clear l
 go_wp2_with fail
 refine(uH Y _).mono ?_
 rintro e w3 ⟨rfl,l⟩
 replace h:=aa ((uH h).trans (l.mono (uH h).size))
 clear l
 go_wp2_with fail
 refine(uH Z _).mono ?_
 rintro e w4 ⟨rfl,l⟩
 replace h:=aa ((uH h).trans (l.mono (uH h).size))
 clear l
 go_wp2_with fail
 refine(uH K5 _).mono ?_
 rintro e w5 ⟨rfl,l⟩
 replace h:=aa ((uH h).trans (l.mono (uH h).size))
 clear l
 cases F with
 |false=>
  go_wp2_with fail
  exact bodyPost_ret (v:=.bool true) (by simp[results,Tryz.results164,go_sem]) rfl ⟨rfl,uH h⟩
 |true=>
  go_wp2_with fail
  refine(uH K6 _).mono ?_
  rintro e w6 ⟨rfl,l⟩
  replace h:=aa ((uH h).trans (l.mono (uH h).size))
  clear l
  cases G with
  |false=>
   go_wp2_with fail
   exact bodyPost_ret (v:=.bool true) (by simp[results,Tryz.results164,go_sem]) rfl ⟨rfl,uH h⟩
  |true=>
   go_wp2_with fail
   refine(uH K7 _ (uH h)).mono ?_
   rintro e w7 ⟨rfl,l⟩
   replace h:=aa ((uH h).trans (l.mono (uH h).size))
   clear l
   go_wp2_with fail
   refine(uH K8 _).mono ?_
   rintro e w8 ⟨rfl,rfl⟩
   go_wp2_with fail
   refine(uH K9 _).mono ?_
   rintro e w9 ⟨rfl,l⟩
   replace h:=aa ((uH h).trans (l.mono (uH h).size))
   clear l
   go_wp2_with fail
   exact bodyPost_ret (v:=.bool (!u)) (by simp[results,Tryz.results164,go_sem]) rfl ⟨by cases u<;>rfl,uH h⟩
theorem yA(r c p q d u low:Nat)(z f:Option Addr)(S:List Nat)(w:World)(h:af w z d (aL (gl r c S p)))(F:af w f u (aL (gl r c S q)))(U:r≤6)(G:low<18446744073709551616):
  Calls Tryz.prog 164 #[.slice z r d,.slice f r u,.int .u64 low] w fun e w'=>e=.returned (.bool (Ck r c low S p q))∧Below w.heap.size w w':=by
 have H:(aL (gl r c S p)).length=r:=by rw[av,bC]
 have J:(aL (gl r c S q)).length=r:=by rw[av,bC]
 have K:=lj r c S p;have L:=lj r c S q;have M:=u4 r c S p q
 have N:∀w',Below w.heap.size w w'→Calls Tryz.prog 94 #[.slice z r d] w' fun e l=>e=.returned (.int .u64 (jO r c S p:Nat))∧Below w'.heap.size w' l:=fun w' D=>by
  have:=io z d _ w' (h.below D) (by omega)
  rwa[H]at this
 have O:∀w',Below w.heap.size w w'→Calls Tryz.prog 94 #[.slice f r u] w' fun e l=>e=.returned (.int .u64 (jO r c S q:Nat))∧Below w'.heap.size w' l:=fun w' D=>by
  have:=io f u _ w' (F.below D) (by omega)
  rwa[J]at this
 have Q:∀w',Below w.heap.size w w'→Calls Tryz.prog 77 #[.slice z r d,.slice f r u] w' fun e l=>e=.returned (.int .u64 (yr r c S p q:Nat))∧Below w'.heap.size w' l:=fun w' D=>by
  have:=ji z f d u _ _ w' (h.below D) (F.below D) (by omega) (by omega)
  rwa[H,J]at this
 unfold Ck
 generalize jO r c S p=x at*
 generalize jO r c S q=y at*
 generalize yr r c S p q=g at*
 exact Ca z f r d u low x y (mV x y) (xV (mV x y) (-44)) g (fR g) _ _ _ w (N w (Below.refl _ _)) O (fun w'=>cT x y w' K L) (fun w'=>dY _ _ w' (bM _ _) (by omega)) (fun w'=>fi x low w' K G) (fun w'=>fi y low w' L G) Q (fun w'=>ld g w' M) (fun w'=>fi (fR g) _ w' (show fR _<18446744073709551616 by unfold fR;omega) (gV _ _ (bM _ _)))
theorem tK(r c p q d l:Nat)(u f:Option Addr)(S:List Nat)(w:World)(h:af w u d (aL (gl r c S p)))(z:af w f l (aL (gl r c S q)))(D:r≤6):
  Calls Tryz.prog 165 #[.slice u r d,.slice f r l] w fun e w'=>e=.returned (.tuple #[.int .u64 (mI (jm r c S p q):Nat),.int .u64 (tq (jm r c S p q):Nat)])∧Below w.heap.size w w':=by
 have:=tJ u f d l (aL (gl r c S p)) (aL (gl r c S q)) w h z (by rw[av,bC,av,bC]) (by rw[av,bC];omega)
 rwa[av,bC]at this
theorem vu(r c:Nat)(S:List Nat)(k:Nat):IX r c S k=gl r c S k:=by
 unfold IX gl GM cG jK
 rw[Nat.mul_one]
 refine List.map_congr_left (fun p _=>?_)
 rw[Nat.div_one,Nat.mod_one]
 show bJ c S p k=bJ c S (0+p) (k+0)
 rw[Nat.zero_add,Nat.add_zero]
end Go.Proofs.YtdhmglmccafbnaaGreatDoor
