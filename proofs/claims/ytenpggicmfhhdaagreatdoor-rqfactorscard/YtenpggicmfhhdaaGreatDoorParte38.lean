/- Part 38 of the texts. -/
import Derived.Test.YtenpggicmfhhdaaGreatDoorParte37
import Derived.Test.YtenpggicmfhhdaaGreatDoorParte36
import Derived.Deep.CutRange
set_option maxHeartbeats 16000000
set_option maxRecDepth 20000
namespace Go.Proofs.YtenpggicmfhhdaaGreatDoor
open Go.RowKit
attribute [local go_sem ↓] Go.wp_at_zero Go.wp_at_succ
def kK(w wr:World)(r c n cap:Nat)(ao:Option Addr)(T:List Nat)(po:Option Addr)(pc:Nat):Prop:=
 au wr w.heap.size (.int .i64 r) (.int .i64 c) (.slice ao n cap)∧au wr (w.heap.size+1) (.int .i64 0) (.int .i64 0) (.slice none 0 0)∧au wr (w.heap.size+1+1) (.int .i64 r) (.int .i64 c) (.slice po n pc)∧ab wr po pc (ar T)∧T.length=n∧Below w.heap.size w wr
theorem kK.all{w wr l:World}{r c n d:Nat}{m:Option Addr}{T:List Nat}{t:Option Addr}{y:Nat}(h:kK w wr r c n d m T t y)(f:Below wr.heap.size wr l):kK w l r c n d m T t y:=
 ⟨h.1.all f,h.2.1.all f,h.2.2.1.all f,h.2.2.2.1.below f,h.2.2.2.2.1,h.2.2.2.2.2.trans (f.mono h.2.2.2.2.2.size)⟩
theorem kK.put{w wr:World}{r c n d:Nat}{y:Option Addr}{T:List Nat}{A:Option Addr}{D:Nat}(h:kK w wr r c n d y T A D){U:List Nat}{f:Option Addr}{l:Nat}(F:ab wr f l (ar U))(G:U.length=n):
  kK w (((wr.setCell ⟨w.heap.size+1+1,0,none⟩ (.int .i64 r)).setCell ⟨w.heap.size+1+1,1,none⟩ (.int .i64 c)).setCell ⟨w.heap.size+1+1,2,none⟩ (.slice f n l)) r c n d y U f l:=by
 obtain⟨H,I,z,L,M,K⟩:=h
 have m:w.heap.size≠w.heap.size+1+1:=by omega
 have t:w.heap.size+1≠w.heap.size+1+1:=by omega
 exact⟨((H.other (p:=⟨w.heap.size+1+1,0,none⟩) m _).other (p:=⟨w.heap.size+1+1,1,none⟩) m _).other (p:=⟨w.heap.size+1+1,2,none⟩) m _,((I.other (p:=⟨w.heap.size+1+1,0,none⟩) t _).other (p:=⟨w.heap.size+1+1,1,none⟩) t _).other (p:=⟨w.heap.size+1+1,2,none⟩) t _,z.put _ _ _,F.putM z _ _ _,G,al K (by omega) _ _ _⟩
theorem kK.start(w:World)(r c n d:Nat)(f:Option Addr)(T:List Nat)(G:ab w f d (ar T))(H:T.length=n):kK w (((w.alloc (.cells #[.int .i64 r,.int .i64 c,.slice f n d] 24)).alloc (.cells #[.int .i64 0,.int .i64 0,.slice none 0 0] 24)).alloc (.cells #[.int .i64 r,.int .i64 c,.slice f n d] 24)) r c n d f T f d:=by
 have t:=ac w (.cells #[.int .i64 r,.int .i64 c,.slice f n d] 24)
 have I:=ai w (.cells #[.int .i64 r,.int .i64 c,.slice f n d] 24)
 have K:=au.new w (.int .i64 r) (.int .i64 c) (.slice f n d)
 have L:=G.below t
 generalize w.alloc (.cells #[.int .i64 r,.int .i64 c,.slice f n d] 24)=m at*
 have y:=ac m (.cells #[.int .i64 0,.int .i64 0,.slice none 0 0] 24)
 have z:=ai m (.cells #[.int .i64 0,.int .i64 0,.slice none 0 0] 24)
 have A:=au.new m (.int .i64 0) (.int .i64 0) (.slice none 0 0)
 generalize m.alloc (.cells #[.int .i64 0,.int .i64 0,.slice none 0 0] 24)=F at*
 have l:=ac F (.cells #[.int .i64 r,.int .i64 c,.slice f n d] 24)
 have D:=au.new F (.int .i64 r) (.int .i64 c) (.slice f n d)
 rw[I]at A z
 rw[z]at D
 have h:=t.trans (y.mono t.size)
 exact⟨(K.all y).all l,A.all l,D,(L.below y).below l,H,h.trans (l.mono h.size)⟩
theorem fz{w:World}{a:Addr}{z:Int}{b:Nat}{x y:Int}{o:Option Addr}{n d:Nat}(h:w.cell? a=some (.int .u64 z))(l:au w b (.int .i64 x) (.int .i64 y) (.slice o n d))(u u' u'':Value):(((w.setCell ⟨b,0,none⟩ u).setCell ⟨b,1,none⟩ u').setCell ⟨b,2,none⟩ u'').cell? a=some (.int .u64 z):=by
 obtain⟨g,k,m⟩:=a
 have e:m=none:=World.cell?_spot h
 subst e
 have f:b≠g:=l.away h
 rw[ak _ _ _ _ (show g≠b from fun e=>f e.symm),ak _ _ _ _ (show g≠b from fun e=>f e.symm),ak _ _ _ _ (show g≠b from fun e=>f e.symm)]
 exact h
theorem rR(r c n Z i k m av:Nat)(ao vo:Option Addr)(vc:Nat)(TJ:Nat→Nat→List Nat)(CL:Nat→List Nat)(V:Nat→Nat)(w0 t:Nat→Nat)(p u:Nat→Nat→Nat)(w:World)(hc:c≤6)(hr:r≤6)(a5:k≤c)(bi:i+m≤r)
  (h0:ab w ao Z (ar (TJ k 0))) (lJ:∀d j,(TJ d j).length=n) (hN:∀d,TJ d m=TJ (d+1) 0) (ax:∀d,(CL d).length=r-i)
  (HV:∀z,Below w.heap.size w z→∀j,j<m→∃b aI,vo=some ⟨b,aI,none⟩∧z.cell? ⟨b,aI+j,none⟩=some (.int .u64 (V j:Nat)))
  (A1:∀z d,Below w.heap.size w z→d<c→Calls Tryz.prog 39 #[.agg #[.int .i64 r,.int .i64 c,.slice ao n Z],.int .i64 (d:Nat),.int .i64 i] z fun e M=>∃bo dd,e=.returned (.slice bo (r-i) dd)∧ab M bo dd (ar (CL d))∧Below z.heap.size z M)
  (A2:∀z d bo dd,Below w.heap.size w z→d<c→ab z bo dd (ar (CL d))→Calls Tryz.prog 66 #[.slice vo m vc,.slice bo m dd] z fun e M=>e=.returned (.int .u64 (w0 d:Nat))∧Below z.heap.size z M)
  (A3:∀z d,d<c→Calls Tryz.prog 65 #[.int .u64 av,.int .u64 (w0 d:Nat)] z fun e M=>e=.returned (.int .u64 (t d:Nat))∧Below z.heap.size z M)
  (A4:∀z d j,d<c→j<m→Calls Tryz.prog 65 #[.int .u64 (t d:Nat),.int .u64 (V j:Nat)] z fun e M=>e=.returned (.int .u64 (p d j:Nat))∧Below z.heap.size z M)
  (A5:∀z d j,d<c→j<m→Calls Tryz.prog 63 #[.int .u64 ((CL d).getD j 0:Nat),.int .u64 (p d j:Nat)] z fun e M=>e=.returned (.int .u64 (u d j:Nat))∧Below z.heap.size z M)
  (A6:∀z d j qo qc,k≤d→d<c→j<m→ab z qo qc (ar (TJ d j))→Calls Tryz.prog 45 #[.agg #[.int .i64 r,.int .i64 c,.slice qo n qc],.int .i64 ((i+j:Nat):Int),.int .i64 (d:Nat),.int .u64 (u d j:Nat)] z fun e M=>∃v,e=.returned v∧(∃po pc,v=.agg #[.int .i64 r,.int .i64 c,.slice po n pc]∧ab M po pc (ar (TJ d (j+1))))∧Below z.heap.size z M):
  Calls Tryz.prog 42 #[.agg #[.int .i64 r,.int .i64 c,.slice ao n Z],.int .i64 i,.int .i64 k,.slice vo m vc,.int .u64 av] w fun e z=>∃po pc,e=.returned (.agg #[.int .i64 r,.int .i64 c,.slice po n pc])∧ab z po pc (ar (TJ c 0))∧Below w.heap.size w z:=by
 have ST:=aa (kK.start w r c n Z ao (TJ k 0) h0 (lJ k 0))
 have KV:=aa HV;have K1:=aa A1;have K2:=aa A2;have K3:=aa A3;have K4:=aa A4;have K5:=aa A5;have K6:=aa A6;have LJ:=aa lJ;have NX:=aa hN;have LC:=aa ax
 clear HV A1 A2 A3 A4 A5 A6 lJ h0 hN ax
 have N:=(uH ST).1.c0;have O:=(uH ST).1.c1;have T:=(uH ST).1.c2
 go_enter Tryz.func42,Tryz.ntmps42
 go_wp2_with fail
 clear N O T
 go_loopw[12] (fun a wr=>∃(d:Nat) (po:Option Addr) (pc:Nat),k≤d∧d≤c∧a=.int .i64 d∧Hid (kK w wr r c n Z ao (TJ d 0) po pc)) (fun a _=>c-(intOf a).toNat)
 case atStart=>exact⟨k,ao,Z,Nat.le_refl _,a5,rfl,ST⟩
 case round=>
  clear ST
  obtain⟨d,po,pc,ba,hd,rfl,Y⟩:=hrel
  have N:=(uH Y).1.c0;have O:=(uH Y).1.c1;have T:=(uH Y).1.c2
  by_cases aj:d<c
  ·have bj:(d:Int)<(c:Int):=by omega
   have W1:=aa (fun z h=>uH K1 z d h aj);have W2:=aa (fun z bo dd h l=>uH K2 z d bo dd h aj l);have W3:=aa (fun z=>uH K3 z d aj);have W4:=aa (fun z j hj=>uH K4 z d j aj hj);have W5:=aa (fun z j hj=>uH K5 z d j aj hj);have W6:=aa (fun z j qo qc hj l=>uH K6 z d j qo qc ba aj hj l);have WN:=aa (uH NX d);have WL:=aa (fun j=>uH LJ d j);have WC:=aa (uH LC d)
   generalize a4:TJ (d+1) 0=TN at*
   generalize bb:TJ d=Td at*
   generalize CL d=Cd at*
   generalize p d=pd at*
   generalize u d=ud at*
   generalize t d=td at*
   generalize w0 d=wd at*
   clear K1 K2 K3 K4 K5 K6 NX
   go_wp2_with fail
   refine(uH W1 _ (uH Y).2.2.2.2.2).mono ?_
   rintro e w1 ⟨bo,dd,rfl,bc,l⟩
   have bm:(m:Int)≤(dd:Int):=by have:=bc.1;rw[aq,uH WC]at this;omega
   replace Y:=aa ((uH Y).all l)
   have BC:=aa bc
   clear l bc N O T W1
   go_wp2_with fail
   refine(uH W2 _ _ _ (uH Y).2.2.2.2.2 (uH BC)).mono ?_
   rintro e w2 ⟨rfl,l⟩
   replace Y:=aa ((uH Y).all l)
   replace BC:=aa ((uH BC).below l)
   clear l W2
   go_wp2_with fail
   refine(uH W3 _).mono ?_
   rintro e w3 ⟨rfl,l⟩
   replace Y:=aa ((uH Y).all l)
   replace BC:=aa ((uH BC).below l)
   clear l W3
   go_wp2_with fail
   go_loopw[15] (fun a wr=>∃(j:Nat) (po:Option Addr) (pc:Nat),j≤m∧a=.int .i64 j∧Hid (kK w wr r c n Z ao (Td j) po pc)∧Hid (ab wr bo dd (ar Cd))) (fun a _=>m-(intOf a).toNat)
   case atStart=>exact⟨0,po,pc,Nat.zero_le _,rfl,Y,BC⟩
   case round=>
    clear Y BC
    obtain⟨j,qo,qc,hj,rfl,Y,BC⟩:=hrel
    by_cases am:j<m
    ·have a6:(j:Int)<(m:Int):=by omega
     have bn:(j:Int)<(r-i:Nat):=by omega
     have bp:(i:Int)+(j:Int)=((i+j:Nat):Int):=by omega
     obtain⟨b1,o1,e1,X⟩:=uH KV _ (uH Y).2.2.2.2.2 j am
     obtain⟨b2,o2,e2,_,a0⟩:=(uH BC).ne (by rw[aq,uH WC];omega)
     subst e1 e2
     have U:=a0 j (by rw[aq,uH WC];omega)
     rw[fc]at U
     have V4:=aa (fun z=>uH W4 z j am);have V5:=aa (fun z=>uH W5 z j am);have V6:=aa (fun z qo qc l=>uH W6 z j qo qc am l);have VL:=aa (uH WL (j+1))
     have be:IntKind.i64.wrap ((i+j:Nat):Int)=((i+j:Nat):Int):=aW _ (by omega)
     generalize i+j=ij at*
     generalize V j=vj at*
     generalize Cd.getD j 0=cj at*
     generalize pd j=pj at*
     generalize ud j=uj at*
     go_wp2_with fail
     refine ap (fun W=>kK w W r c n Z ao (Td j) qo qc∧W.cell? ⟨b1,o1+j,none⟩=some (.int .u64 (vj:Nat))∧W.cell? ⟨b2,o2+j,none⟩=some (.int .u64 (cj:Nat))∧ab W (some ⟨b2,o2,none⟩) dd (ar Cd)) ⟨uH Y,X,U,uH BC⟩ ?_
     clear Y BC X U a0
     rintro W0 ⟨s0,a1,a2,a3⟩
     have f:=aa (show kK w W0.drew r c n Z ao (Td j) qo qc∧W0.drew.cell? ⟨b1,o1+j,none⟩=some (.int .u64 (vj:Nat))∧W0.drew.cell? ⟨b2,o2+j,none⟩=some (.int .u64 (cj:Nat))∧ab W0.drew (some ⟨b2,o2,none⟩) dd (ar Cd)from⟨s0.all ((Below.refl W0.heap.size W0).drew),a1,a2,a3.below ((Below.refl W0.heap.size W0).drew)⟩)
     clear s0 a1 a2 a3 KV W4 W5 W6 WN WL WC LC LJ a4 bb
     have N:=(uH f).1.2.2.1.c0;have O:=(uH f).1.2.2.1.c1;have T:=(uH f).1.2.2.1.c2;have X:=(uH f).2.1;have U:=(uH f).2.2.1
     refine wp_region_held_drew (S:=(fun z=>z.cell? ⟨b1,o1+j,none⟩=some (.int .u64 (vj:Nat))∧z.cell? ⟨b2,o2+j,none⟩=some (.int .u64 (cj:Nat)))) (by kernel_rfl) ?_ (fun y=>?_)
     ·exact⟨(uH f).2.1,(uH f).2.2.1⟩
     refine wpAnyH_take (i:=1) (oi:={dst:=some 43,op:=Op.move (Operand.tmp 1),type:=3,pos:= "ref.go:72",after:=#[],guard:=none}) (v:=(Value.int .i64 (i:Int))) rfl (by kernel_rfl) (by kernel_rfl) (by kernel_rfl) (fun _ _ _ h=>h) (Or.inl ⟨by rfl,?_⟩) (by assumption) ?_
     ·(intro w A;(try dsimp only at A);go_simp)
     simp only[Act.put,List.setIfInBounds_toArray,List.set_cons_zero,List.set_cons_succ]
     refine wpAnyH_take (i:=2) (oi:={dst:=some 44,op:=Op.move (Operand.tmp 15),type:=3,pos:= "ref.go:72",after:=#[],guard:=none}) (v:=(Value.int .i64 (j:Int))) rfl (by kernel_rfl) (by kernel_rfl) (by kernel_rfl) (fun _ _ _ h=>h) (Or.inl ⟨by rfl,?_⟩) (by assumption) ?_
     ·(intro w A;(try dsimp only at A);go_simp)
     simp only[Act.put,List.setIfInBounds_toArray,List.set_cons_zero,List.set_cons_succ]
     refine wpAnyH_take (i:=3) (oi:={dst:=some 45,op:=Op.binOp BinOp.add 3 (Operand.tmp 43) (Operand.tmp 44) 3,type:=3,pos:= "ref.go:72",after:=#[{on:=1,ground:=Ground.data},{on:=2,ground:=Ground.data}],guard:=none}) (v:=(Value.int .i64 (ij:Int))) rfl (by kernel_rfl) (by kernel_rfl) (by kernel_rfl) (fun _ _ _ h=>h) (Or.inl ⟨by rfl,?_⟩) (by assumption) ?_
     ·(intro w A;(try dsimp only at A);go_simp)
     simp only[Act.put,List.setIfInBounds_toArray,List.set_cons_zero,List.set_cons_succ]
     refine wpAnyH_take (i:=4) (oi:={dst:=some 46,op:=Op.move (Operand.tmp 12),type:=3,pos:= "ref.go:72",after:=#[],guard:=none}) (v:=(Value.int .i64 (d:Int))) rfl (by kernel_rfl) (by kernel_rfl) (by kernel_rfl) (fun _ _ _ h=>h) (Or.inl ⟨by rfl,?_⟩) (by assumption) ?_
     ·(intro w A;(try dsimp only at A);go_simp)
     simp only[Act.put,List.setIfInBounds_toArray,List.set_cons_zero,List.set_cons_succ]
     refine wpAnyH_take (i:=5) (oi:={dst:=some 47,op:=Op.move (Operand.tmp 13),type:=22,pos:= "ref.go:72",after:=#[],guard:=none}) (v:=(Value.slice (some ⟨b2,o2,none⟩) (r-i) dd)) rfl (by kernel_rfl) (by kernel_rfl) (by kernel_rfl) (fun _ _ _ h=>h) (Or.inl ⟨by rfl,?_⟩) (by assumption) ?_
     ·(intro w A;(try dsimp only at A);go_simp)
     simp only[Act.put,List.setIfInBounds_toArray,List.set_cons_zero,List.set_cons_succ]
     refine wpAnyH_take (i:=6) (oi:={dst:=some 48,op:=Op.move (Operand.tmp 15),type:=3,pos:= "ref.go:72",after:=#[],guard:=none}) (v:=(Value.int .i64 (j:Int))) rfl (by kernel_rfl) (by kernel_rfl) (by kernel_rfl) (fun _ _ _ h=>h) (Or.inl ⟨by rfl,?_⟩) (by assumption) ?_
     ·(intro w A;(try dsimp only at A);go_simp)
     simp only[Act.put,List.setIfInBounds_toArray,List.set_cons_zero,List.set_cons_succ]
     refine wpAnyH_take (i:=7) (oi:={dst:=some 49,op:=Op.indexAddr 22 (Operand.tmp 47) (Operand.tmp 48),type:=0,pos:= "ref.go:72",after:=#[{on:=5,ground:=Ground.data},{on:=6,ground:=Ground.data}],guard:=none}) (v:=(Value.pointer (some ⟨b2,o2+j,none⟩))) rfl (by kernel_rfl) (by kernel_rfl) (by kernel_rfl) (fun _ _ _ h=>h) (Or.inl ⟨by rfl,?_⟩) (by assumption) ?_
     ·(intro w A;(try dsimp only at A);go_simp)
     simp only[Act.put,List.setIfInBounds_toArray,List.set_cons_zero,List.set_cons_succ]
     refine wpAnyH_take (i:=8) (oi:={dst:=some 50,op:=Op.load 30 (Operand.tmp 49),type:=30,pos:= "ref.go:72",after:=#[{on:=7,ground:=Ground.data}],guard:=none}) (v:=(Value.int .u64 (cj:Int))) rfl (by kernel_rfl) (by kernel_rfl) (by kernel_rfl) (fun _ _ _ h=>h) (Or.inl ⟨by rfl,?_⟩) (by assumption) ?_
     ·(intro w A;(try dsimp only at A);go_simp)
     simp only[Act.put,List.setIfInBounds_toArray,List.set_cons_zero,List.set_cons_succ]
     refine wpAnyH_take (i:=9) (oi:={dst:=some 51,op:=Op.move (Operand.tmp 14),type:=30,pos:= "ref.go:72",after:=#[],guard:=none}) (v:=(Value.int .u64 (td:Int))) rfl (by kernel_rfl) (by kernel_rfl) (by kernel_rfl) (fun _ _ _ h=>h) (Or.inl ⟨by rfl,?_⟩) (by assumption) ?_
     ·(intro w A;(try dsimp only at A);go_simp)
     simp only[Act.put,List.setIfInBounds_toArray,List.set_cons_zero,List.set_cons_succ]
     refine wpAnyH_take (i:=10) (oi:={dst:=some 52,op:=Op.move (Operand.tmp 3),type:=22,pos:= "ref.go:72",after:=#[],guard:=none}) (v:=(Value.slice (some ⟨b1,o1,none⟩) m vc)) rfl (by kernel_rfl) (by kernel_rfl) (by kernel_rfl) (fun _ _ _ h=>h) (Or.inl ⟨by rfl,?_⟩) (by assumption) ?_
     ·(intro w A;(try dsimp only at A);go_simp)
     simp only[Act.put,List.setIfInBounds_toArray,List.set_cons_zero,List.set_cons_succ]
     refine wpAnyH_take (i:=11) (oi:={dst:=some 53,op:=Op.move (Operand.tmp 15),type:=3,pos:= "ref.go:72",after:=#[],guard:=none}) (v:=(Value.int .i64 (j:Int))) rfl (by kernel_rfl) (by kernel_rfl) (by kernel_rfl) (fun _ _ _ h=>h) (Or.inl ⟨by rfl,?_⟩) (by assumption) ?_
     ·(intro w A;(try dsimp only at A);go_simp)
     simp only[Act.put,List.setIfInBounds_toArray,List.set_cons_zero,List.set_cons_succ]
     refine wpAnyH_take (i:=12) (oi:={dst:=some 54,op:=Op.indexAddr 22 (Operand.tmp 52) (Operand.tmp 53),type:=0,pos:= "ref.go:72",after:=#[{on:=10,ground:=Ground.data},{on:=11,ground:=Ground.data}],guard:=none}) (v:=(Value.pointer (some ⟨b1,o1+j,none⟩))) rfl (by kernel_rfl) (by kernel_rfl) (by kernel_rfl) (fun _ _ _ h=>h) (Or.inl ⟨by rfl,?_⟩) (by assumption) ?_
     ·(intro w A;(try dsimp only at A);go_simp)
     simp only[Act.put,List.setIfInBounds_toArray,List.set_cons_zero,List.set_cons_succ]
     refine wpAnyH_take (i:=13) (oi:={dst:=some 55,op:=Op.load 30 (Operand.tmp 54),type:=30,pos:= "ref.go:72",after:=#[{on:=12,ground:=Ground.data}],guard:=none}) (v:=(Value.int .u64 (vj:Int))) rfl (by kernel_rfl) (by kernel_rfl) (by kernel_rfl) (fun _ _ _ h=>h) (Or.inl ⟨by rfl,?_⟩) (by assumption) ?_
     ·(intro w A;(try dsimp only at A);go_simp)
     simp only[Act.put,List.setIfInBounds_toArray,List.set_cons_zero,List.set_cons_succ]
     refine wpAnyH_ready (rs:=[0,14]) (by kernel_rfl) (by simp) ?_
     refine AllReadyH.cons (o:={dst:=some 42,op:=Op.load 24 (Operand.tmp 11),type:=24,pos:= "ref.go:72",after:=#[],guard:=none}) rfl (fun K D=>?_) (AllReadyH.cons (o:={dst:=some 56,op:=Op.call {callee:=Callee.value (Operand.func 65),args:=#[Operand.tmp 51,Operand.tmp 55],argTypes:=#[30,30]},type:=30,pos:= "ref.go:72",after:=#[{on:=9,ground:=Ground.data},{on:=13,ground:=Ground.data}],guard:=none}) rfl (fun K D=>?_) AllReadyH.nil)
     ·go_simp
      refine D.out _ _ ?_ (fun y=>?_)
      ·exact⟨(uH f).2.1,(uH f).2.2.1⟩
      clear D K
      refine wpAnyH_ready (rs:=[14]) (by kernel_rfl) (by simp) ?_
      refine AllReadyH.cons (o:={dst:=some 56,op:=Op.call {callee:=Callee.value (Operand.func 65),args:=#[Operand.tmp 51,Operand.tmp 55],argTypes:=#[30,30]},type:=30,pos:= "ref.go:72",after:=#[{on:=9,ground:=Ground.data},{on:=13,ground:=Ground.data}],guard:=none}) rfl (fun K D=>?_) AllReadyH.nil
      go_simp
      refine(uH V4 _).mono ?_
      rintro e w4 ⟨rfl,l⟩
      clear N O T X U
      have G:=(uH f).1.all l
      have N:=G.2.2.1.c0
      have O:=G.2.2.1.c1
      have T:=G.2.2.1.c2
      have X:=ag (uH f).2.1 l
      have U:=ag (uH f).2.2.1 l
      replace f:=aa (And.intro G (And.intro X (And.intro U ((uH f).2.2.2.below l))))
      clear G l
      go_wp2_with fail
      refine D.out _ _ ?_ (fun y=>?_)
      ·exact⟨(uH f).2.1,(uH f).2.2.1⟩
      clear D K
      refine wpAnyH_ready (rs:=[15]) (by kernel_rfl) (by simp) ?_
      refine AllReadyH.cons (o:={dst:=some 57,op:=Op.call {callee:=Callee.value (Operand.func 63),args:=#[Operand.tmp 50,Operand.tmp 56],argTypes:=#[30,30]},type:=30,pos:= "ref.go:72",after:=#[{on:=8,ground:=Ground.data},{on:=14,ground:=Ground.data},{on:=14,ground:=Ground.chain}],guard:=none}) rfl (fun K D=>?_) AllReadyH.nil
      go_simp
      refine(uH V5 _).mono ?_
      rintro e w5 ⟨rfl,l⟩
      clear N O T X U
      have G:=(uH f).1.all l
      have N:=G.2.2.1.c0
      have O:=G.2.2.1.c1
      have T:=G.2.2.1.c2
      have X:=ag (uH f).2.1 l
      have U:=ag (uH f).2.2.1 l
      replace f:=aa (And.intro G (And.intro X (And.intro U ((uH f).2.2.2.below l))))
      clear G l
      go_wp2_with fail
      refine D.out _ _ ?_ (fun y=>?_)
      ·exact⟨(uH f).2.1,(uH f).2.2.1⟩
      clear D K
      refine wpAnyH_ready (rs:=[16]) (by kernel_rfl) (by simp) ?_
      refine AllReadyH.cons (o:={dst:=some 58,op:=Op.call {callee:=Callee.value (Operand.func 45),args:=#[Operand.tmp 42,Operand.tmp 45,Operand.tmp 46,Operand.tmp 57],argTypes:=#[24,3,3,30]},type:=24,pos:= "ref.go:72",after:=#[{on:=0,ground:=Ground.data},{on:=3,ground:=Ground.data},{on:=4,ground:=Ground.data},{on:=15,ground:=Ground.data},{on:=15,ground:=Ground.chain}],guard:=none}) rfl (fun K D=>?_) AllReadyH.nil
      go_simp
      refine(uH V6 _ _ _ (uH f).1.2.2.2.1).mono ?_
      rintro e w6 ⟨v6,rfl,⟨I,L,rfl,b6⟩,l⟩
      clear N O T X U
      have F:=(uH f).1.all l
      have N:=F.2.2.1.c0;have O:=F.2.2.1.c1;have T:=F.2.2.1.c2
      have f0:=F.2.2.1.free 0;have f1:=F.2.2.1.free 1;have f2:=F.2.2.1.free 2
      have P6:=aa (F.put b6 (uH VL))
      have PC:=aa (((uH f).2.2.2.below l).putM F.2.2.1 (.int .i64 r) (.int .i64 c) (.slice I n L))
      have H:=aa (And.intro (ag (uH f).2.1 l) (ag (uH f).2.2.1 l))
      have ae:=aa (And.intro (fz (uH H).1 F.2.2.1 (.int .i64 r) (.int .i64 c) (.slice I n L)) (fz (uH H).2 F.2.2.1 (.int .i64 r) (.int .i64 c) (.slice I n L)))
      clear F l b6 f
      go_wp2_with fail
      refine D.out _ _ ?_ (fun y=>?_)
      ·exact uH H
      clear D K
      refine wpAnyH_ready (rs:=[17]) (by kernel_rfl) (by simp) ?_
      refine AllReadyH.cons (o:={dst:=none,op:=Op.store 24 (Operand.tmp 11) (Operand.tmp 58),type:=0,pos:= "ref.go:72",after:=#[{on:=16,ground:=Ground.data},{on:=16,ground:=Ground.chain},{on:=0,ground:=Ground.phase},{on:=1,ground:=Ground.phase},{on:=2,ground:=Ground.phase},{on:=3,ground:=Ground.phase},{on:=4,ground:=Ground.phase},{on:=5,ground:=Ground.phase},{on:=6,ground:=Ground.phase},{on:=7,ground:=Ground.phase},{on:=8,ground:=Ground.phase},{on:=9,ground:=Ground.phase},{on:=10,ground:=Ground.phase},{on:=11,ground:=Ground.phase},{on:=12,ground:=Ground.phase},{on:=13,ground:=Ground.phase},{on:=14,ground:=Ground.phase},{on:=15,ground:=Ground.phase},{on:=16,ground:=Ground.phase}],guard:=none}) rfl (fun K D=>?_) AllReadyH.nil
      go_simp
      refine D.out _ _ ?_ (fun y=>?_)
      ·exact uH ae
      clear D K
      refine wpAnyH_done (by kernel_rfl) ?_ _
      clear N O T f0 f1 f2 H ae
      go_wp2_with fail
      go_round
      case rel=>exact⟨j+1,I,L,by omega,by go_num,P6,PC⟩
      case measure=>simp[intOf];omega
     ·go_simp
      refine(uH V4 _).mono ?_
      rintro e w4 ⟨rfl,l⟩
      clear N O T X U
      have G:=(uH f).1.all l
      have N:=G.2.2.1.c0
      have O:=G.2.2.1.c1
      have T:=G.2.2.1.c2
      have X:=ag (uH f).2.1 l
      have U:=ag (uH f).2.2.1 l
      replace f:=aa (And.intro G (And.intro X (And.intro U ((uH f).2.2.2.below l))))
      clear G l
      go_wp2_with fail
      refine D.out _ _ ?_ (fun y=>?_)
      ·exact⟨(uH f).2.1,(uH f).2.2.1⟩
      clear D K
      refine wpAnyH_ready (rs:=[0,15]) (by kernel_rfl) (by simp) ?_
      refine AllReadyH.cons (o:={dst:=some 42,op:=Op.load 24 (Operand.tmp 11),type:=24,pos:= "ref.go:72",after:=#[],guard:=none}) rfl (fun K D=>?_) (AllReadyH.cons (o:={dst:=some 57,op:=Op.call {callee:=Callee.value (Operand.func 63),args:=#[Operand.tmp 50,Operand.tmp 56],argTypes:=#[30,30]},type:=30,pos:= "ref.go:72",after:=#[{on:=8,ground:=Ground.data},{on:=14,ground:=Ground.data},{on:=14,ground:=Ground.chain}],guard:=none}) rfl (fun K D=>?_) AllReadyH.nil)
      ·go_simp
       refine D.out _ _ ?_ (fun y=>?_)
       ·exact⟨(uH f).2.1,(uH f).2.2.1⟩
       clear D K
       refine wpAnyH_ready (rs:=[15]) (by kernel_rfl) (by simp) ?_
       refine AllReadyH.cons (o:={dst:=some 57,op:=Op.call {callee:=Callee.value (Operand.func 63),args:=#[Operand.tmp 50,Operand.tmp 56],argTypes:=#[30,30]},type:=30,pos:= "ref.go:72",after:=#[{on:=8,ground:=Ground.data},{on:=14,ground:=Ground.data},{on:=14,ground:=Ground.chain}],guard:=none}) rfl (fun K D=>?_) AllReadyH.nil
       go_simp
       refine(uH V5 _).mono ?_
       rintro e w5 ⟨rfl,l⟩
       clear N O T X U
       have G:=(uH f).1.all l
       have N:=G.2.2.1.c0
       have O:=G.2.2.1.c1
       have T:=G.2.2.1.c2
       have X:=ag (uH f).2.1 l
       have U:=ag (uH f).2.2.1 l
       replace f:=aa (And.intro G (And.intro X (And.intro U ((uH f).2.2.2.below l))))
       clear G l
       go_wp2_with fail
       refine D.out _ _ ?_ (fun y=>?_)
       ·exact⟨(uH f).2.1,(uH f).2.2.1⟩
       clear D K
       refine wpAnyH_ready (rs:=[16]) (by kernel_rfl) (by simp) ?_
       refine AllReadyH.cons (o:={dst:=some 58,op:=Op.call {callee:=Callee.value (Operand.func 45),args:=#[Operand.tmp 42,Operand.tmp 45,Operand.tmp 46,Operand.tmp 57],argTypes:=#[24,3,3,30]},type:=24,pos:= "ref.go:72",after:=#[{on:=0,ground:=Ground.data},{on:=3,ground:=Ground.data},{on:=4,ground:=Ground.data},{on:=15,ground:=Ground.data},{on:=15,ground:=Ground.chain}],guard:=none}) rfl (fun K D=>?_) AllReadyH.nil
       go_simp
       refine(uH V6 _ _ _ (uH f).1.2.2.2.1).mono ?_
       rintro e w6 ⟨v6,rfl,⟨I,L,rfl,b6⟩,l⟩
       clear N O T X U
       have F:=(uH f).1.all l
       have N:=F.2.2.1.c0;have O:=F.2.2.1.c1;have T:=F.2.2.1.c2
       have f0:=F.2.2.1.free 0;have f1:=F.2.2.1.free 1;have f2:=F.2.2.1.free 2
       have P6:=aa (F.put b6 (uH VL))
       have PC:=aa (((uH f).2.2.2.below l).putM F.2.2.1 (.int .i64 r) (.int .i64 c) (.slice I n L))
       have H:=aa (And.intro (ag (uH f).2.1 l) (ag (uH f).2.2.1 l))
       have ae:=aa (And.intro (fz (uH H).1 F.2.2.1 (.int .i64 r) (.int .i64 c) (.slice I n L)) (fz (uH H).2 F.2.2.1 (.int .i64 r) (.int .i64 c) (.slice I n L)))
       clear F l b6 f
       go_wp2_with fail
       refine D.out _ _ ?_ (fun y=>?_)
       ·exact uH H
       clear D K
       refine wpAnyH_ready (rs:=[17]) (by kernel_rfl) (by simp) ?_
       refine AllReadyH.cons (o:={dst:=none,op:=Op.store 24 (Operand.tmp 11) (Operand.tmp 58),type:=0,pos:= "ref.go:72",after:=#[{on:=16,ground:=Ground.data},{on:=16,ground:=Ground.chain},{on:=0,ground:=Ground.phase},{on:=1,ground:=Ground.phase},{on:=2,ground:=Ground.phase},{on:=3,ground:=Ground.phase},{on:=4,ground:=Ground.phase},{on:=5,ground:=Ground.phase},{on:=6,ground:=Ground.phase},{on:=7,ground:=Ground.phase},{on:=8,ground:=Ground.phase},{on:=9,ground:=Ground.phase},{on:=10,ground:=Ground.phase},{on:=11,ground:=Ground.phase},{on:=12,ground:=Ground.phase},{on:=13,ground:=Ground.phase},{on:=14,ground:=Ground.phase},{on:=15,ground:=Ground.phase},{on:=16,ground:=Ground.phase}],guard:=none}) rfl (fun K D=>?_) AllReadyH.nil
       go_simp
       refine D.out _ _ ?_ (fun y=>?_)
       ·exact uH ae
       clear D K
       refine wpAnyH_done (by kernel_rfl) ?_ _
       clear N O T f0 f1 f2 H ae
       go_wp2_with fail
       go_round
       case rel=>exact⟨j+1,I,L,by omega,by go_num,P6,PC⟩
       case measure=>simp[intOf];omega
      ·go_simp
       refine(uH V5 _).mono ?_
       rintro e w5 ⟨rfl,l⟩
       clear N O T X U
       have G:=(uH f).1.all l
       have N:=G.2.2.1.c0
       have O:=G.2.2.1.c1
       have T:=G.2.2.1.c2
       have X:=ag (uH f).2.1 l
       have U:=ag (uH f).2.2.1 l
       replace f:=aa (And.intro G (And.intro X (And.intro U ((uH f).2.2.2.below l))))
       clear G l
       go_wp2_with fail
       refine D.out _ _ ?_ (fun y=>?_)
       ·exact⟨(uH f).2.1,(uH f).2.2.1⟩
       clear D K
       refine wpAnyH_ready (rs:=[0]) (by kernel_rfl) (by simp) ?_
       refine AllReadyH.cons (o:={dst:=some 42,op:=Op.load 24 (Operand.tmp 11),type:=24,pos:= "ref.go:72",after:=#[],guard:=none}) rfl (fun K D=>?_) AllReadyH.nil
       go_simp
       refine D.out _ _ ?_ (fun y=>?_)
       ·exact⟨(uH f).2.1,(uH f).2.2.1⟩
       clear D K
       refine wpAnyH_ready (rs:=[16]) (by kernel_rfl) (by simp) ?_
       refine AllReadyH.cons (o:={dst:=some 58,op:=Op.call {callee:=Callee.value (Operand.func 45),args:=#[Operand.tmp 42,Operand.tmp 45,Operand.tmp 46,Operand.tmp 57],argTypes:=#[24,3,3,30]},type:=24,pos:= "ref.go:72",after:=#[{on:=0,ground:=Ground.data},{on:=3,ground:=Ground.data},{on:=4,ground:=Ground.data},{on:=15,ground:=Ground.data},{on:=15,ground:=Ground.chain}],guard:=none}) rfl (fun K D=>?_) AllReadyH.nil
       go_simp
       refine(uH V6 _ _ _ (uH f).1.2.2.2.1).mono ?_
       rintro e w6 ⟨v6,rfl,⟨I,L,rfl,b6⟩,l⟩
       clear N O T X U
       have F:=(uH f).1.all l
       have N:=F.2.2.1.c0;have O:=F.2.2.1.c1;have T:=F.2.2.1.c2
       have f0:=F.2.2.1.free 0;have f1:=F.2.2.1.free 1;have f2:=F.2.2.1.free 2
       have P6:=aa (F.put b6 (uH VL))
       have PC:=aa (((uH f).2.2.2.below l).putM F.2.2.1 (.int .i64 r) (.int .i64 c) (.slice I n L))
       have H:=aa (And.intro (ag (uH f).2.1 l) (ag (uH f).2.2.1 l))
       have ae:=aa (And.intro (fz (uH H).1 F.2.2.1 (.int .i64 r) (.int .i64 c) (.slice I n L)) (fz (uH H).2 F.2.2.1 (.int .i64 r) (.int .i64 c) (.slice I n L)))
       clear F l b6 f
       go_wp2_with fail
       refine D.out _ _ ?_ (fun y=>?_)
       ·exact uH H
       clear D K
       refine wpAnyH_ready (rs:=[17]) (by kernel_rfl) (by simp) ?_
       refine AllReadyH.cons (o:={dst:=none,op:=Op.store 24 (Operand.tmp 11) (Operand.tmp 58),type:=0,pos:= "ref.go:72",after:=#[{on:=16,ground:=Ground.data},{on:=16,ground:=Ground.chain},{on:=0,ground:=Ground.phase},{on:=1,ground:=Ground.phase},{on:=2,ground:=Ground.phase},{on:=3,ground:=Ground.phase},{on:=4,ground:=Ground.phase},{on:=5,ground:=Ground.phase},{on:=6,ground:=Ground.phase},{on:=7,ground:=Ground.phase},{on:=8,ground:=Ground.phase},{on:=9,ground:=Ground.phase},{on:=10,ground:=Ground.phase},{on:=11,ground:=Ground.phase},{on:=12,ground:=Ground.phase},{on:=13,ground:=Ground.phase},{on:=14,ground:=Ground.phase},{on:=15,ground:=Ground.phase},{on:=16,ground:=Ground.phase}],guard:=none}) rfl (fun K D=>?_) AllReadyH.nil
       go_simp
       refine D.out _ _ ?_ (fun y=>?_)
       ·exact uH ae
       clear D K
       refine wpAnyH_done (by kernel_rfl) ?_ _
       clear N O T f0 f1 f2 H ae
       go_wp2_with fail
       go_round
       case rel=>exact⟨j+1,I,L,by omega,by go_num,P6,PC⟩
       case measure=>simp[intOf];omega
    ·have a7:j=m:=by omega
     subst a7
     have a6:¬(j:Int)<(j:Int):=by omega
     rw[uH WN]at Y
     go_wp2_with fail
     go_round
     case rel=>exact⟨d+1,qo,qc,by omega,by omega,by go_num,by rw[a4];exact Y⟩
     case measure=>simp[intOf];omega
  ·have a9:d=c:=by omega
   subst a9
   obtain⟨h1,h2,h3,h4,h5,h6⟩:=uH Y
   have t1:=h1.c1
   have bq:=h3.c0;have br:=h3.c1;have bt:=h3.c2
   have r0:=h2.c0;have r1:=h2.c1;have r2:=h2.c2
   have f0:=h2.free 0;have f1:=h2.free 1;have f2:=h2.free 2
   have XP:=h2.put (.int .i64 r) (.int .i64 d) (.slice po n pc)
   have z0:=XP.c0;have z1:=XP.c1;have z2:=XP.c2
   have Q:=aa (h4.putM h2 (.int .i64 r) (.int .i64 d) (.slice po n pc))
   have BP:=aa (al h6 (b:=w.heap.size+1) (by omega) (.int .i64 r) (.int .i64 d) (.slice po n pc))
   clear XP Y h1 h2 h3 h4 h5 h6
   go_wp2_with fail
   exact bodyPost_ret (v:=.agg #[.int .i64 r,.int .i64 d,.slice po n pc]) (by simp[results,Tryz.results42,go_sem,z0,z1,z2]) rfl ⟨po,pc,rfl,uH Q,uH BP⟩
end Go.Proofs.YtenpggicmfhhdaaGreatDoor
namespace Go.Proofs.YtenpggicmfhhdaaGreatDoor
open Go.RowKit
theorem ab.front{w:World}{m:Option Addr}{d:Nat}{I J:List Int}(h:ab w m d I)(t:J.length≤I.length)(y:∀j,j<J.length→J[j]? =I[j]?):ab w m d J:=by
 refine⟨Nat.le_trans t h.1,fun x z=>?_,?_⟩
 ·obtain⟨j,f,rfl⟩:=List.getElem_of_mem z
  have e:=y j f
  rw[List.getElem?_eq_getElem f]at e
  exact h.2.1 _ (List.mem_of_getElem? e.symm)
 ·rcases Nat.eq_zero_or_pos J.length with g|g
  ·exact .inl (List.eq_nil_of_length_eq_zero g)
  ·obtain⟨b,l,A,D,F⟩:=h.2.2.resolve_left (fun e=>by rw[e,List.length_nil]at t;omega)
   refine .inr ⟨b,l,A,D,fun j f=>?_⟩
   rw[F j (by omega),y j f]
theorem Ft:∀(f d:List Nat) (s:Nat),s<18446744073709551616→s6 s f d<18446744073709551616:=by
 intro f
 induction f with
 |nil=>intro d s h;exact h
 |cons x f ih=>
  intro d s h
  match d with
  | []=>exact h
  |y::d=>exact ih d _ (mn _ _ h (iB _ _))
theorem wU(c:Nat)(S:List Nat)(i q:Nat){m l:Nat}(h:m≤l):∀j,j<(ar (eg c S i m q)).length→(ar (eg c S i m q))[j]? =(ar (eg c S i l q))[j]?:=by
 intro j d
 rw[aq,bU]at d
 unfold ar eg
 rw[List.getElem?_map,List.getElem?_map,List.getElem?_map,List.getElem?_map,List.getElem?_range d,List.getElem?_range (show j<l by omega)]
theorem kg(r c t i k f:Nat)(D F:Option Addr)(G:Nat)(S l:List Nat)(w:World)(h:Mx w D t r c S)(K:ab w F G (ar l))(Q:i+l.length≤r)(Z:k≤c)(ht:f<18446744073709551616):
  Calls Tryz.prog 42 #[.agg #[.int .i64 r,.int .i64 c,.slice D S.length t],.int .i64 i,.int .i64 k,.slice F l.length G,.int .u64 f] w fun e m=>∃H I,e=.returned (.agg #[.int .i64 r,.int .i64 c,.slice H S.length I])∧ab m H I (ar (km r c S i k l f))∧Below w.heap.size w m:=by
 have V:=h.2.2.2
 have X:=h.2.2.1
 have M:∀d j,(rL r c S i k l f d j).length=S.length:=fun d j=>by rw[pQ,h.2.1]
 have N:∀j,l.getD j 0<18446744073709551616:=fun j=>by
  have:=K.lt j
  rwa[fc]at this
 rw[←uT r c S i k l f c (Nat.le_refl _)]
 refine rR r c S.length t i k l.length f D F G (fun d j=>rL r c S i k l f d j) (fun d=>eg c S i (r-i) d) (fun j=>l.getD j 0) (fun d=>s6 0 l (eg c S i l.length d)) (fun d=>mV f (s6 0 l (eg c S i l.length d))) (fun d j=>mV (mV f (s6 0 l (eg c S i l.length d))) (l.getD j 0)) (fun d j=>(Ae c S i d l f).getD j 0) w V X Z Q (by show ab w D t (ar (rL r c S i k l f k 0));rw[Ea r c S i k l f h.2.1];exact h.1) M (fun d=>rM r c S i k l f d) (fun d=>bU _ _ _ _ _) (fun m z j A=>?_) (fun m d z y=>?_) (fun m d bo dd z y hc=>?_) (fun m d y=>?_) (fun m d j y A=>?_) (fun m d j y A=>?_) (fun m d j T U L y A hq=>?_)
 ·obtain⟨b,O,e1,_,e3⟩:=(K.below z).ne (by rw[aq];omega)
  refine⟨b,O,e1,?_⟩
  rw[e3 j (by rw[aq];exact A),fc]
 ·exact o7 r c t d i D S m (h.below z) y (by omega)
 ·have hf:=hc.front (J:=ar (eg c S i l.length d)) (by rw[aq,aq,bU,bU];omega) (wU c S i d (by omega))
  have:=wN F bo G dd (ar l) (ar (eg c S i l.length d)) m (K.below z) hf (by rw[aq,aq,bU]) (by rw[aq];omega)
  rw[pT (ar l) (ar (eg c S i l.length d)) (ar l).length (Nat.le_refl _) (by rw[aq,aq,bU];exact Nat.le_refl _),dg,dg,aq,aq,bU,List.take_of_length_le (Nat.le_refl _),List.take_of_length_le (by rw[bU];exact Nat.le_refl _)]at this
  exact this
 ·exact i9 f _ m ht (Ft _ _ _ (by decide))
 ·exact i9 _ _ m (iB _ _) (N j)
 ·show Calls Tryz.prog 63 #[.int .u64 ((eg c S i (r-i) d).getD j 0:Nat),_] m _
  rw[pP c S i (r-i) d (show j<r-i by omega),pR c S i d l f A]
  exact jb _ _ m (h.el_lt _ _) (iB _ _)
 ·have hX:Mx m T U r c (rL r c S i k l f d j):=⟨hq,pQ _ _ _ _ _ _ _ _ _,X,V⟩
  have:=gQ r c U (i+j) d ((Ae c S i d l f).getD j 0) T _ m hX (by omega) y (tK c S i d l f A (fun p q=>h.el_lt p q))
  rw[M d j]at this
  refine this.mono ?_
  rintro e ae ⟨v,rfl,⟨H,I,rfl,_,Y⟩,z⟩
  rw[uU r c S Q y L A]at Y⊢
  exact⟨_,rfl,⟨H,I,by rw[M d (j+1)],Y⟩,z⟩
theorem pX(r c:Nat)(S:List Nat):∀K,Ec r c S K=true↔∀j,j<K→bB (dk r c S j)=true∧xp (dk r c S j)=true:=by
 intro K
 induction K with
 |zero=>exact⟨fun _ j h=>absurd h (Nat.not_lt_zero j),fun _=>rfl⟩
 |succ K ih=>
  show(Ec r c S K&&(bB (dk r c S K)&&xp (dk r c S K)))=true↔_
  rw[Bool.and_eq_true,Bool.and_eq_true,ih]
  constructor
  ·rintro⟨f,l⟩ j d
   by_cases g:j<K
   ·exact f j g
   ·rw[show j=K by omega];exact l
  ·intro h
   exact⟨fun j d=>h j (by omega),h K (by omega)⟩
theorem pY{S:List Nat}(h:∀x∈S,x<18446744073709551616)(c p q:Nat):dJ c S p q<18446744073709551616:=by
 unfold dJ
 rw[List.getD_eq_getElem?_getD]
 cases e:S[p*c+q]? with
 |none=>decide
 |some x=>exact h x (List.mem_of_getElem? e)
theorem u9{S:List Nat}(h:∀x∈S,x<18446744073709551616)(c i n q:Nat):∀x∈eg c S i n q,x<18446744073709551616:=by
 intro x d
 obtain⟨j,_,rfl⟩:=List.mem_map.1 d
 exact pY h c _ _
theorem At{r c:Nat}{S:List Nat}(f:∀x∈S,x<18446744073709551616)(i k:Nat)(h:List Nat)(d:Nat):∀x∈km r c S i k h d,x<18446744073709551616:=by
 intro x l
 unfold km dC at l
 obtain⟨p,_,rfl⟩:=List.mem_map.1 l
 show(if _ then _ else _)<_
 split
 ·exact tK c S i _ h d (by omega) (fun p q=>pY f c p q)
 ·exact pY f c _ _
theorem Fu{r c:Nat}{S:List Nat}(f:∀x∈S,x<18446744073709551616)(j b:Nat)(h:b<18446744073709551616):∀x∈Eb r c S j b,x<18446744073709551616:=by
 intro x d
 unfold Eb AV dC at d
 obtain⟨p,_,rfl⟩:=List.mem_map.1 d
 show(if _ then(if _ then _ else _)else _)<_
 split
 ·split
  ·exact h
  ·decide
 ·exact pY f c _ _
theorem nh{r c:Nat}{S:List Nat}(d:∀x∈S,x<18446744073709551616):∀j,∀x∈rN r c S j,x<18446744073709551616
 |0=>d
 |j+1=>Fu (At (nh d j) _ _ _ _) _ _ (Ac _ (u9 (nh d j) _ _ _ _))
theorem pZ{w:World}{f:Option Addr}{c:Nat}{d:List Nat}(h:ab w f c (ar d))(m:d.length≤64):
  Calls Tryz.prog 26 #[.slice f d.length c] w fun e l=>e=.returned (.bool (bB d))∧Below w.heap.size w l:=by
 have:=j7 f c (ar d) w h (by rw[aq];omega)
 rw[aq]at this
 exact this
theorem og(r c G:Nat)(T:Option Addr)(S:List Nat)(w:World)(h:Mx w T G r c S):
  Calls Tryz.prog 27 #[.agg #[.int .i64 r,.int .i64 c,.slice T S.length G]] w fun e f=>Ar f (n8 r c S) r c (r*r) S.length (il r c S) (iM r c S) e∧Below w.heap.size w f:=by
 have I:=h.2.1
 have z:=h.2.2.1
 have K:=h.2.2.2
 have lR:=fun j=>(eE r c S I j).trans I.symm
 have A:∀j,(dk r c S j).length=r-j:=pU r c S
 have lV:∀j,(je (dk r c S j)).length=r-j:=fun j=>by rw[pO,A]
 refine tN r c S.length (r*r) G (gT r c) T (rN r c S) (fun j=>km r c (rN r c S j) j j (je (dk r c S j)) (kJ (dk r c S j))) (dk r c S) (fun j=>je (dk r c S j)) (wO r c S (gT r c)) (fun j=>kJ (dk r c S j)) (fun j=>xn (dk r c S j)) (fun j=>bB (dk r c S j)) (fun j=>xp (dk r c S j)) (bB (il r c S)) (bB (iM r c S)) (n8 r c S) w z K (dZ r c) h.1 lR lV ?_ ?_ ?_ ?_ ?_ ?_ ?_ ?_ ?_ ?_ ?_
 ·unfold n8
  rw[Bool.and_eq_true,Bool.and_eq_true,pX]
 ·intro f j D F m l
  have y:=(dZ r c j).1 m
  have:=o7 r c F j j D (rN r c S j) f ⟨l,eE r c S I j,z,K⟩ (by omega) (by omega)
  rw[lR j]at this
  exact this
 ·intro f j N d m l
  have:=pZ l (by rw[A];omega)
  rw[A]at this
  exact this
 ·intro f j N d m U l
  have y:=(dZ r c j).1 m
  have:=rQ N d (ar (dk r c S j)) f l (by rw[aq,A];omega) (by rw[aq,A];omega) (by rw[dg];exact U)
  rw[dg,aq,A]at this
  exact this
 ·intro f j N d m U l
  have y:=(dZ r c j).1 m
  have:=tP N d (ar (dk r c S j)) f l (by rw[aq,A];omega) (by rw[aq,A];omega) (by rw[dg];exact U)
  rw[aq,A]at this
  exact this
 ·intro f j D F V X m L Y
  have y:=(dZ r c j).1 m
  have:=kg r c F j j (kJ (dk r c S j)) D V X (rN r c S j) (je (dk r c S j)) f ⟨L,eE r c S I j,z,K⟩ Y (by rw[lV];omega) (by omega) (pL _)
  rw[lR j,lV]at this
  exact this
 ·intro f j D F m L
  have y:=(dZ r c j).1 m
  have Z:(km r c (rN r c S j) j j (je (dk r c S j)) (kJ (dk r c S j))).length=S.length:=by rw[gg,I]
  have hB:xn (dk r c S j)<18446744073709551616:=Ac _ (u9 (nh h.1.nat j) _ _ _ _)
  have:=pV r c F j (xn (dk r c S j)) D _ f ⟨L,gg _ _ _ _ _ _ _,z,K⟩ (by omega) (by omega) hB
  rw[Z]at this
  exact this
 ·intro f
  refine(Ag r f z).mono ?_
  rintro e M ⟨v,rfl,⟨O,Q,rfl,_,l⟩,H⟩
  exact⟨O,Q,by rw[show(wI r).length=r*r from bY r r _],l,H⟩
 ·intro f t j D F V X ht m L Y
  have y:=(dZ r c j).1 (by omega)
  have:=kg r r F j 0 (kJ (dk r c S j)) D V X (wO r c S (gT r c) t) (je (dk r c S j)) f ⟨L,cQ r c S _ t,z,z⟩ Y (by rw[lV];omega) (by omega) (pL _)
  rw[cQ,lV]at this
  refine this.mono ?_
  rintro e M ⟨O,Q,rfl,l,H⟩
  refine⟨O,Q,rfl,?_,H⟩
  show ab M O Q (ar (km r r (wO r c S (gT r c) t) (gT r c-1-t) 0 (je (dk r c S (gT r c-1-t))) (kJ (dk r c S (gT r c-1-t)))))
  rw[←m]
  exact l
 ·intro f D F l
  have hs:r*r≤36:=Nat.mul_le_mul z z
  have:=pZ l (by rw[cQ];omega)
  rw[cQ]at this
  exact this
 ·intro f D F l
  have hs:r*c≤36:=Nat.mul_le_mul z K
  have:=pZ l (by rw[eE r c S I];omega)
  rw[lR]at this
  exact this
attribute [local go_sem ↓] Go.wp_at_zero Go.wp_at_succ
theorem p5(r c:Int)(t:Option Addr)(l:Nat)(I:List Int)(w:World)(F:ab w t l I)(G:I.length≤35184372088830):
  Calls Tryz.prog 14 #[.agg #[.int .i64 r,.int .i64 c,.slice t I.length l]] w fun e y=>e=.returned (.int .i64 (jm r c I))∧Below w.heap.size w y:=by
 have z:=aa (fun y=>mZ r c t I.length l y)
 have D:=aa (fun y (h:ab y t l I)=>j7 t l I y h G)
 have m:=aa (ac w (.cells #[.int .i64 r,.int .i64 c,.slice t I.length l] 24))
 have A:=aa (au.new w (.int .i64 r) (.int .i64 c) (.slice t I.length l))
 have H:=aa F
 unfold jm
 generalize jA r c I.length=b at*
 generalize fu I I.length=f at*
 generalize I.length=n at*
 clear F
 cases b
 ·clear D
  go_enter Tryz.func14,Tryz.ntmps14
  go_wp2_with fail
  refine(uH z _).mono ?_
  rintro e M ⟨rfl,d⟩
  have K:=aa ((uH m).trans (d.mono (uH m).size))
  clear d z A
  go_wp2
  go_ret
  exact⟨rfl,uH K⟩
 ·cases f
  all_goals
   go_enter Tryz.func14,Tryz.ntmps14
   go_wp2_with fail
   refine(uH z _).mono ?_
   rintro e M ⟨rfl,d⟩
   replace m:=aa ((uH m).trans (d.mono (uH m).size));replace A:=aa ((uH A).all d)
   clear d z
   have L:=(uH A).c2
   go_wp2_with fail
   refine(uH D _ ((uH H).below (uH m))).mono ?_
   rintro e N ⟨rfl,d⟩
   replace m:=aa ((uH m).trans (d.mono (uH m).size))
   clear d D L
   go_wp2
   go_ret
   exact⟨rfl,uH m⟩
theorem Fv(S:List Nat):∀k,GA (ar S) k=GB (fun p=>fZ (S.getD p 0)*fZ (S.getD p 0)) k
 |0=>rfl
 |k+1=>by
  show GA (ar S) k+fZ (aP (ar S) k)*fZ (aP (ar S) k)=GB _ k+_
  rw[Fv S k,fc]
theorem p6{I:List Int}:∀n,fu I n=true↔∀k,k<n→aD (aP I k)=true
 |0=>⟨fun _ k d=>by omega,fun _=>rfl⟩
 |n+1=>by
  show(fu I n&&aD (aP I n))=true↔_
  rw[Bool.and_eq_true,p6 n]
  constructor
  ·rintro⟨f,l⟩ k d
   by_cases e:k=n
   ·subst e;exact l
   ·exact f k (by omega)
  ·exact fun h=>⟨fun k d=>h k (by omega),h n (by omega)⟩
end Go.Proofs.YtenpggicmfhhdaaGreatDoor
