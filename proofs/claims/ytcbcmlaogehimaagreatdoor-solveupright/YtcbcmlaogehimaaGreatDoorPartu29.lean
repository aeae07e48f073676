/- Part 29 of the texts. -/
import Derived.Test.YtcbcmlaogehimaaGreatDoorPartu28
import Derived.Laws.CopyOwn
set_option maxHeartbeats 4000000
set_option maxRecDepth 20000
namespace Go.Proofs.YtcbcmlaogehimaaGreatDoor
def II(r c:Nat)(S:H3)(j b i:Nat):H3:=kZ r c (fun p q=>if q=j/\j<=p/\p<i then(if p=j then b else 0)else a8 c S p q)
theorem BK(r c:Nat)(S:H3)(j b i:Nat):(II r c S j b i).length=r*c:=cQ _ _ _
theorem DG(r c:Nat)(S:H3){j:Nat}(b:Nat)(h:S.length=r*c)(l:j<r)(t:j<c):S.set (j*c+j) b=II r c S j b (j+1):=by
 have e:S=kZ r c (fun p q=>a8 c S p q):=by
  conv=>lhs;rw[<-uT r c S h]
  rfl
 conv=>lhs;rw[e]
 rw[ql r c _ _ l t];unfold II;refine dL (fun p q _ _=>?_)
 by_cases g:p=j/\q=j
 ·rw[if_pos g,if_pos ⟨g.2,by omega,by omega⟩,if_pos g.1]
 ·rw[if_neg g,if_neg (fun D=>g (by omega))]
theorem Lo(r c:Nat)(S:H3){j i:Nat}(b:Nat)(D:j<i)(l:i<r)(t:j<c):(II r c S j b i).set (i*c+j) 0=II r c S j b (i+1):=by
 unfold II;rw[ql r c _ _ l t];refine dL (fun p q _ _=>?_)
 by_cases g:p=i/\q=j
 ·rw[if_pos g,if_pos ⟨g.2,by omega,by omega⟩,if_neg (by omega)]
 ·rw[if_neg g]
  by_cases h:q=j/\j<=p/\p<i
  ·rw[if_pos h,if_pos (show q=j/\j<=p/\p<i+1 by omega)]
  ·rw[if_neg h,if_neg (show¬(q=j/\j<=p/\p<i+1) by omega)]
def MO(r c:Nat)(S:H3)(j b:Nat):H3:=II r c S j b r
theorem Lp(r c:Nat)(S:H3)(j b:Nat):(MO r c S j b).length=r*c:=BK _ _ _ _ _ _
def gZ(r c:Nat)(S:H3)(j:Nat):H3:=bH c S j (r-j) j
theorem uZ(r c:Nat)(S:H3)(j:Nat):(gZ r c S j).length=r-j:=bD _ _ _ _ _
def yA(r c:Nat)(S:H3)(j:Nat):H3:=MO r c (rR r c S j j (kt (gZ r c S j)) (kA (gZ r c S j))) j (mX (gZ r c S j))
theorem Lq(r c:Nat)(S:H3)(j:Nat):(yA r c S j).length=r*c:=Lp _ _ _ _ _
def cF(xs:H3):Bool:=iD (aX xs) xs.length
def QN(r c:Nat)(S:H3)(j:Nat):Bool:=cF (gZ r c S j)&&GX (gZ r c S j)
def kB(r c:Nat)(S:H3):Nat->H3
 |0=>S
 |j+1=>yA r c (kB r c S j) j
def ei(r c:Nat)(S:H3)(j:Nat):H3:=gZ r c (kB r c S j) j
def Lr(r c:Nat)(S:H3):Nat->Bool
 |0=>true
 |j+1=>Lr r c S j&&QN r c (kB r c S j) j
theorem jt(r c:Nat)(S:H3)(h:S.length=r*c):∀j,(kB r c S j).length=r*c
 |0=>h
 |_+1=>Lq _ _ _ _
theorem ku(r c:Nat)(S:H3)(j:Nat):(ei r c S j).length=r-j:=uZ _ _ _ _
def bZ(r c:Nat):Nat:=min c (r-1)
theorem jz(r c j:Nat):j<bZ r c↔(j:Int)<(c:Int)/\(j:Int)<(r:Int)-1:=by
 unfold bZ;omega
def sH(r c:Nat)(S:H3)(K:Nat):Nat->H3
 |0=>ML r
 |t+1=>rR r r (sH r c S K t) (K-1-t) 0 (kt (ei r c S (K-1-t))) (kA (ei r c S (K-1-t)))
theorem gV(r c:Nat)(S:H3)(K:Nat):∀t,(sH r c S K t).length=r*r
 |0=>show(ML r).length=r*r from cQ r r _
 |_+1=>mg _ _ _ _ _ _ _
def iG(r c:Nat)(S:H3):H3:=sH r c S (bZ r c) (bZ r c)
def dy(r c:Nat)(S:H3):H3:=kB r c S (bZ r c)
def mY(r c:Nat)(S:H3):Bool:=Lr r c S (bZ r c)&&(cF (iG r c S)&&cF (dy r c S))
theorem xB(r c:Nat)(S:H3)(j b:Nat){p q:Nat}(h:p<r)(l:q<c):a8 c (MO r c S j b) p q=if q=j/\j<=p/\p<r then(if p=j then b else 0)else a8 c S p q:=by
 unfold MO II;rw[kw r c _ h l]
open Go.RowKit
structure Mr where
 ao:GY
 cap:Nat
 V:H3
 tau:Nat
 beta:Nat
def gJ(R:List Mr)(k:Nat):Mr:=R[k]?.getD ⟨none,0,[],0,0⟩
def MP(g:Option Nat)(x:Mr):Prop:=x.V= []\/∃b off,x.ao=some ⟨b,off,none⟩/\some b≠g
theorem MP.new{w:World}{x:Mr}(h:ag w x.ao x.cap (aX x.V)){g:Nat}(t:w.heap.size<=g):MP (some g) x:=by
 rcases h.2.2 with e|⟨b,l,e,D,_⟩
 ·exact .inl (by cases hV:x.V with
   |nil=>rfl
   |cons y ys=>rw[hV]at e;cases e)
 ·exact .inr ⟨b,l,e,by intro e;cases e;omega⟩
theorem u4{w F:World}{x:Mr}{g:Option Nat}(h:ag w x.ao x.cap (aX x.V))(J:MP g x)(G:w.grownBy F g):ag F x.ao x.cap (aX x.V):=by
 refine⟨h.1,h.2.1,?_⟩;rcases h.2.2 with e|⟨b,l,e,H,L⟩
 ·exact .inl e
 ·rcases J with t|⟨M,I,t,D⟩
  ·exact .inl (by rw[t];rfl)
  ·rw[e]at t
   simp only[Option.some.injEq,Addr.mk.injEq]at t;obtain⟨rfl,rfl,_⟩:=t;refine .inr ⟨b,l,e,Nat.lt_of_lt_of_le H G.size,fun i K=>?_⟩;rw[World.cell?_of_block (a:=⟨b,l+i,none⟩) (G.block b H D)];exact L i K
theorem rU{w G:World}{l e t n:Nat}{v:Value}{H:List Value}{g:Option Nat}(h:w.ownsRow l e t v n H)(K:w.grownBy G g)(D:∀k,v.ownBlock=some k->some k≠g):G.ownsRow l e t v n H:=by
 refine⟨h.1,?_⟩;rcases h.2 with h|⟨k,cap,F,I,M,J,N⟩
 ·exact .inl h
 ·have L:k<w.heap.size:=(Array.getElem?_eq_some_iff.1 J).1
  exact .inr ⟨k,cap,F,I,M,(K.block k L (D k (by rw[I];rfl))).trans J,N⟩
def Mr.pair(x:Mr):List Value:=[.slice x.ao x.V.length x.cap,CI (x.tau:Nat)]
def ik(R:List Mr):List Value:=R.flatMap Mr.pair
theorem py:∀(R:List Mr) (k:Nat),k<R.length->(ik R)[k*2]? =some (.slice (gJ R k).ao (gJ R k).V.length (gJ R k).cap)/\(ik R)[k*2+1]? =some (CI ((gJ R k).tau:Nat))
 |x::R,0,_=>by simp[ik,gJ,Mr.pair]
 |x::R,k+1,h=>by
  have:=py R k (by simpa using h);have e:ik (x::R)=.slice x.ao x.V.length x.cap::.int .u64 (x.tau:Nat)::ik R:=rfl;rw[e,show(k+1)*2=k*2+1+1 by omega]
  simpa[gJ]using this
def cW(base:Nat)(w:World)(v:Value)(R:List Mr):Prop:=w.ownsRow base 176 2 v R.length (ik R)/\∀x∈R,ag w x.ao x.cap (aX x.V)/\MP v.ownBlock x
theorem cW.start(w:World)(h:Nat):cW h w (.slice none 0 0) []:=⟨⟨by rfl,.inl ⟨rfl,rfl⟩⟩,by simp⟩
theorem cW.below{l:Nat}{w D:World}{v:Value}{R:List Mr}(h:cW l w v R)(t:H8 w D):cW l D v R:=
 ⟨rU h.1 ⟨t.os,t.tape,t.output,t.size,fun k G _=>t.block k G⟩ (fun k _=>by simp:∀k,v.ownBlock=some k->some k≠none),fun x F=>⟨((h.2 x F).1).below t,(h.2 x F).2⟩⟩
theorem cW.lt{l:Nat}{w:World}{v:Value}{R:List Mr}(h:cW l w v R):∀k,v.ownBlock=some k->l<=k/\k<w.heap.size:=h.1.lt
theorem OT:(Tryz.prog.info? 176).map (fun i=>(i.zero,i.size,i.bytes))=some (some (.agg #[.slice none 0 0,CI 0]),2,32):=by kernel_rfl
theorem cW.push{l:Nat}{w:World}{v:Value}{R:List Mr}(h:cW l w v R)(x:Mr)(Z:ag w x.ao x.cap (aX x.V))(ha:MP v.ownBlock x)(hl:R.length<=1000000)(hb:l<=w.heap.size)(N:TypeId):
  ∃F G,(Builtin.append_ #[147,147] N #[v,.slice (some ⟨w.heap.size,0,none⟩) 1 1]).run Tryz.prog (w.alloc (.cells #[.slice x.ao x.V.length x.cap,CI (x.tau:Nat)] 176))=.ok F G/\cW l G F (R++[x])/\Below l w G/\(w.alloc (.cells #[.slice x.ao x.V.length x.cap,CI (x.tau:Nat)] 176)).grownBy G v.ownBlock/\(F.ownBlock=v.ownBlock\/F.ownBlock=some (w.heap.size+1)):=by
 obtain⟨i0,hi,J,K,L⟩:=info_parts OT;have H:=ad w (.cells #[.slice x.ao x.V.length x.cap,CI (x.tau:Nat)] 176);have n1:=heap_alloc_new w (.cells #[.slice x.ao x.V.length x.cap,CI (x.tau:Nat)] 176);have s1:=an w (.cells #[.slice x.ao x.V.length x.cap,CI (x.tau:Nat)] 176);have Q:=h.below H;have I:=Z.below H;generalize w.alloc (.cells #[.slice x.ao x.V.length x.cap,CI (x.tau:Nat)] 176)=W at*;obtain⟨F,G,e1,e2,M,e4,U⟩:=run_append_own_at (P:=Tryz.prog) W l 147 N 176 i0 (.agg #[.slice none 0 0,CI 0]) 2 32 Tryz.underlying147 hi J K L rfl (by decide) v R.length (ik R) Q.1 ⟨w.heap.size,0,none⟩ 1 1 x.pair rfl (fun j u hj=>by
   rw[show(⟨w.heap.size,0,none⟩:Addr).add j=⟨w.heap.size,j,none⟩from by unfold Addr.add;split<;>simp_all,cell_of_row _ w.heap.size j _ _ _ n1]
   simpa[Mr.pair]using hj) (fun u O=>by
   simp[Mr.pair]at O
   rcases O with rfl|rfl<;>rfl) (by unfold maxLen;omega) (by omega) (by omega)
 ·refine⟨F,G,e1,⟨?_,fun y D=>?_⟩,(H.mono hb).grown M (by omega) (fun g hg=>(h.1.lt g hg).1),M,by rw[<-s1];exact U⟩
  ·rw[List.length_append,show ik (R++[x])=ik R++x.pair by simp[ik]]
   exact e2
  ·have t:ag W y.ao y.cap (aX y.V)/\MP v.ownBlock y:=by
    rcases List.mem_append.1 D with D|D
    ·exact Q.2 y D
    ·simp at D;subst D;exact⟨I,ha⟩
   refine⟨u4 t.1 t.2 M,?_⟩;rcases U with e|e
   ·rw[e];exact t.2
   ·rw[e];exact MP.new t.1 (Nat.le_refl _)
theorem cW.putQ{l:Nat}{w:World}{v:Value}{R:List Mr}(h:cW l w v R){g:Nat}{x y:Int}{o:GY}{n d:Nat}(F:aE w g (C0 x) (C0 y) (.slice o n d))(u u' u'':Value):cW l (((w.setCell ⟨g,0,none⟩ u).setCell ⟨g,1,none⟩ u').setCell ⟨g,2,none⟩ u'') v R:=by
 refine⟨⟨h.1.1,?_⟩,fun z G=>⟨(h.2 z G).1.putM F u u' u'',(h.2 z G).2⟩⟩;rcases h.1.2 with e|⟨k,cap,D,I,J,H,rest⟩
 ·exact .inl e
 ·have t:k≠g:=by
   rintro rfl;have e:=H.symm.trans F
   simp at e
  exact .inr ⟨k,cap,D,I,J,(Below.heap_setCell _ ⟨g,2,none⟩ u'' k t).trans ((Below.heap_setCell _ ⟨g,1,none⟩ u' k t).trans ((Below.heap_setCell _ ⟨g,0,none⟩ u k t).trans H)),rest⟩
theorem cW.slice{l:Nat}{w:World}{v:Value}{R:List Mr}(h:cW l w v R):∃lo t,v=.slice lo R.length t:=by
 rcases h.1.2 with⟨D,F⟩|⟨g,cap,G,H,_⟩
 ·exact⟨none,0,by rw[D,F]⟩
 ·exact⟨_,_,H⟩
theorem cW.least{l D:Nat}{w:World}{v:Value}{R:List Mr}(h:cW l w v R)(F:D<=l):cW D w v R:=by
 refine⟨⟨h.1.1,?_⟩,h.2⟩;rcases h.1.2 with e|⟨k,cap,t,G,H,rest⟩
 ·exact .inl e
 ·exact .inr ⟨k,cap,t,G,Nat.le_trans F H,rest⟩
theorem cW.at{l:Nat}{w:World}{v:Value}{R:List Mr}(h:cW l w v R){k:Nat}(F:k<R.length):∃g cap,v=.slice (some ⟨g,0,none⟩) R.length cap/\l<=g/\g<w.heap.size/\w.cell? ⟨g,k*2,none⟩=some (.slice (gJ R k).ao (gJ R k).V.length (gJ R k).cap)/\w.cell? ⟨g,k*2+1,none⟩=some (CI ((gJ R k).tau:Nat))/\ag w (gJ R k).ao (gJ R k).cap (aX (gJ R k).V):=by
 rcases h.1.2 with⟨H,L⟩|⟨g,cap,I,H,J,G,M,N,O,K⟩
 ·omega
 ·obtain⟨t,D⟩:=py R k F
  rw[<-K,List.getElem?_take]at t D;rw[if_pos (by omega)]at t D;simp only[Array.getElem?_toList]at t D;refine⟨g,cap,H,J,(Array.getElem?_eq_some_iff.1 G).1,?_,?_,(h.2 (gJ R k) ?_).1⟩
  ·rw[cell_of_row w g _ _ _ _ G];exact t
  ·rw[cell_of_row w g _ _ _ _ G];exact D
  ·unfold gJ
   rw[List.getElem?_eq_getElem F];exact List.getElem_mem F
attribute [local go_sem ↓] Go.wp_at_zero Go.wp_at_succ
theorem s9{a w l:World}{o:Option Nat}(h:a.grownBy w o)(k:w.grownBy l o):a.grownBy l o:=
 ⟨k.os.trans h.os,k.tape.trans h.tape,k.output.trans h.output,Nat.le_trans h.size k.size,fun i t D=>(k.block i (Nat.lt_of_lt_of_le t h.size) D).trans (h.block i t D)⟩
theorem te{w l:World}(h:H8 w l)(o:Option Nat):w.grownBy l o:=⟨h.os,h.tape,h.output,h.size,fun k t _=>h.block k t⟩
theorem k8(w:World)(g j:Nat)(v:Value):w.grownBy (w.setCell ⟨g,j,none⟩ v) (some g):=by
 have h:=(Below.refl w.heap.size w);refine⟨rfl,rfl,rfl,?_,fun k _ l=>Below.heap_setCell w ⟨g,j,none⟩ v k (fun e=>l (by rw[e]))⟩
 simp[World.setCell]
structure zY (w wr:World) (g r c n:Nat) (S:H3):Prop where
 bel:w.grownBy wr (some g)
 a:aE wr w.heap.size (C0 r) (C0 c) (.slice (some ⟨g,0,none⟩) n n)
 row:bS wr g S
theorem zY.start{w:World}{g n:Nat}{S:H3}(h:bS w g S)(r c:Nat):zY w (w.alloc (.cells #[C0 r,C0 c,.slice (some ⟨g,0,none⟩) n n] 24)) g r c n S:=by
 have b:=ad w (.cells #[C0 r,C0 c,.slice (some ⟨g,0,none⟩) n n] 24);exact⟨te b _,aE.new w _ _ _,h.below b h.lt⟩
theorem zY.set{w wr:World}{g r c n:Nat}{S:H3}(h:zY w wr g r c n S)(l:g<w.heap.size)(p x:Nat):zY w (wr.setCell ⟨g,p,none⟩ (CI (x:Int))) g r c n (S.set p x):=
 ⟨s9 h.bel (k8 wr g p _),h.a.other (p:=⟨g,p,none⟩) (by show w.heap.size≠g;omega) _,h.row.set p x⟩
theorem DH(r c n j l g t:Nat)(S:H3)(T:Nat->H3)(P:Nat->Nat)(w:World)(ae:n<=36)(hr:r<=6)(hj:j<r)(h:bS w g S)(lS:S.length=n)(lT:∀i,(T i).length=n)
  (h0:j*c+j=t/\t<n/\S.set t l=T (j+1)) (hP:∀i,j<i->i<r->i*c+j=P i/\P i<n/\(T i).set (P i) 0=T (i+1)):
  GF 226 #[.agg #[C0 r,C0 c,.slice (some ⟨g,0,none⟩) n n],C0 j,CI l] w fun e w'=>e=.returned (.tuple #[])/\bS w' g (T r)/\w.grownBy w' (some g):=by
 have HG:=ac h.lt;have G:=ac (zY.start (n:=n) h r c);obtain⟨I,D⟩:∃q,j*c=q:=⟨_,rfl⟩;obtain⟨e0,M,N⟩:=h0;rw[D]at e0;have HP:=ac hP;have LT:=ac lT;have e1:IntKind.i64.wrap ((j:Int)*(c:Int))=(I:Int):=by
  rw[ch j c,D];exact bF _ (by omega)
 have e2:IntKind.i64.wrap ((I:Int)+(j:Int))=(t:Int):=(bF _ (by omega)).trans (by omega);have e3:(j:Int)*(c:Int)=(I:Int):=by rw[ch j c,D]
 have e4:(I:Int)+(j:Int)=(t:Int):=by omega
 have w1:IntKind.i64.wrap (I:Int)=(I:Int):=bF _ (by omega);have w2:IntKind.i64.wrap (t:Int)=(t:Int):=bF _ (by omega);obtain⟨J,H⟩:∃J,j+1=J:=⟨_,rfl⟩;have e5:IntKind.i64.wrap ((j:Int)+1)=(J:Int):=(bF _ (by omega)).trans (by omega);have e6:(j:Int)+1=(J:Int):=by omega
 have K:(t:Int)<(n:Int):=by omega
 have y0:=(uH G).a.c0;have y1:=(uH G).a.c1;have y2:=(uH G).a.c2;have d1:=(uH G).row.cell t (by rw[lS];exact M);have f1:=(uH G).row.free t;have Q:=ac ((uH G).set (uH HG) t l);rw[N,H]at Q;have L:=ac H;clear hP lT h lS N D M G H
 go_enter Tryz.func226,Tryz.ntmps226
 go_wp2_with fail;clear y0 y1 y2 d1 f1 e1 e2 e3 e4 e5 e6 w1 w2 K
 go_loopw[6] (fun a wr=>∃i:Nat,j<i/\i<=r/\a=.int .i64 i/\Hid (zY w wr g r c n (T i))) (fun a _=>r-(intOf a).toNat)
 case atStart=>exact⟨J,by have:=uH L;omega,by have:=uH L;omega,by first|rfl|go_num,Q⟩
 case round=>
  clear Q;obtain⟨i,aa,ap,rfl,F⟩:=hrel;have y0:=(uH F).a.c0
  by_cases U:i<r
  ·have am:(i:Int)<(r:Int):=by omega
   obtain⟨e0,M,N⟩:=uH HP i aa U;have y1:=(uH F).a.c1;have y2:=(uH F).a.c2;obtain⟨q,O⟩:∃q,i*c=q:=⟨_,rfl⟩;rw[O]at e0;have e1:IntKind.i64.wrap ((i:Int)*(c:Int))=(q:Int):=by
    rw[ch i c,O];exact bF _ (by omega)
   have e2:IntKind.i64.wrap ((q:Int)+(j:Int))=(P i:Int):=(bF _ (by omega)).trans (by omega);have e3:(i:Int)*(c:Int)=(q:Int):=by rw[ch i c,O]
   have e4:(q:Int)+(j:Int)=(P i:Int):=by omega
   have w1:IntKind.i64.wrap (q:Int)=(q:Int):=bF _ (by omega);have w2:IntKind.i64.wrap (P i:Int)=(P i:Int):=bF _ (by omega);have K:(P i:Int)<(n:Int):=by omega
   have d1:=(uH F).row.cell (P i) (by rw[uH LT];exact M);have f1:=(uH F).row.free (P i);have S2:=ac ((uH F).set (uH HG) (P i) 0);rw[N]at S2;generalize P i=p at*;clear F N O M;go_wp2_with fail
   go_round
   case rel=>exact⟨i+1,by omega,by omega,by go_num,S2⟩
   case measure=>simp[intOf];omega
  ·have Z:i=r:=by omega
   subst Z
   go_wp2
   first|go_end0|refine bodyPost_ret (results_none rfl _ _ _) rfl ?_
   exact⟨rfl,(uH F).row,(uH F).bel⟩
theorem zZ(r c j l g:Nat)(S:H3)(w:World)(J:r<=6)(L:c<=6)(G:j<r)(t:j<c)(D:S.length=r*c)(h:bS w g S):
  GF 226 #[.agg #[C0 r,C0 c,.slice (some ⟨g,0,none⟩) S.length S.length],C0 j,CI l] w fun e K=>e=.returned (.tuple #[])/\bS K g (MO r c S j l)/\w.grownBy K (some g):=by
 have I:S.length<=36:=by
  rw[D];exact Nat.mul_le_mul J L
 refine DH r c S.length j l g (j*c+j) S (II r c S j l) (fun i=>i*c+j) w I J G h rfl (fun i=>by rw[BK,D]) ⟨rfl,by rw[D];exact dK G t,DG r c S l D G t⟩ (fun i H F=>⟨rfl,by rw[D];exact dK F t,Lo r c S l H F t⟩)
def k9(g:Option Nat)(ao:GY)(I:List Int):Prop:=I= []\/∃b off,ao=some ⟨b,off,none⟩/\some b≠g
theorem k9.new{H:Nat}{ao:GY}{I:List Int}(h:dw H ao I){g:Option Nat}(t:∀k,g=some k->k<H):k9 g ao I:=by
 rcases h with e|⟨b,l,D,F⟩
 ·exact .inl e
 ·exact .inr ⟨b,l,D,fun e=>by have:=t b e.symm;omega⟩
theorem k9.old{w:World}{ao:GY}{c:Nat}{I:List Int}(h:ag w ao c I){g:Option Nat}(t:∀k,g=some k->w.heap.size<=k):k9 g ao I:=by
 rcases h.2.2 with e|⟨b,l,D,F,_⟩
 ·exact .inl e
 ·exact .inr ⟨b,l,D,fun e=>by have:=t b e.symm;omega⟩
theorem jA{w F:World}{ao:GY}{c:Nat}{I:List Int}{g:Option Nat}(h:ag w ao c I)(K:k9 g ao I)(G:w.grownBy F g):ag F ao c I:=by
 refine⟨h.1,h.2.1,?_⟩;rcases h.2.2 with e|⟨b,l,e,H,M⟩
 ·exact .inl e
 ·rcases K with t|⟨N,J,t,D⟩
  ·exact .inl t
  ·rw[e]at t
   simp only[Option.some.injEq,Addr.mk.injEq]at t;obtain⟨rfl,rfl,_⟩:=t;refine .inr ⟨b,l,e,Nat.lt_of_lt_of_le H G.size,fun i L=>?_⟩;rw[World.cell?_of_block (a:=⟨b,l+i,none⟩) (G.block b H D)];exact M i L
theorem le(a b:Nat)(w:World)(l:a<18446744073709551616)(t:b<18446744073709551616)(D:cX w):
  BS 202 #[CI a,CI b] w (CI (aV a (fN b):Nat)):=by
 have K:=ac (F5 a b w l t D);clear l t D;generalize aV a (fN b)=o at*;generalize aF a (fN b)=f at*
 go_enter Tryz.func202,Tryz.ntmps202
 go_wp2_with fail;refine Calls.mono (uH K) ?_;rintro e G ⟨rfl,h⟩;clear K
 go_wp2
 go_ret
 exact⟨rfl,h⟩
theorem rV(a b:Nat)(w:World)(l:a<18446744073709551616)(t:b<18446744073709551616)(D:cX w):
  BS 204 #[CI a,CI b] w (CI (dV a b:Nat)):=by
 have K:=ac (Gb a b w l t D);clear l t D;generalize dV a b=o at*;generalize dF a b=f at*
 go_enter Tryz.func204,Tryz.ntmps204
 go_wp2_with fail;refine Calls.mono (uH K) ?_;rintro e G ⟨rfl,h⟩;clear K
 go_wp2
 go_ret
 exact⟨rfl,h⟩
theorem bS.three{w:World}{b g:Nat}{S:H3}(h:bS w b S)(l:b≠g)(u u' u'':Value):bS (((w.setCell ⟨g,0,none⟩ u).setCell ⟨g,1,none⟩ u').setCell ⟨g,2,none⟩ u'') b S:=by
 unfold bS;rw[Below.heap_setCell _ ⟨g,2,none⟩ u'' b l,Below.heap_setCell _ ⟨g,1,none⟩ u' b l,Below.heap_setCell _ ⟨g,0,none⟩ u b l];exact h
theorem xC{w:World}{g b:Nat}{S:H3}(h:bS w g S){x y z:Value}(l:aE w b x y z):g≠b:=by
 intro e;subst e;unfold bS at h;unfold aE at l;rw[h]at l
 simp at l
theorem Hb(W:World)(g n cap:Nat)(ao:GY)(S:H3)(h:bS W g (List.replicate n 0))(L:ag W ao cap (aX S))(J:S.length=n):
  ∃G,(∀D,(Builtin.copy_ #[22,22] D #[.slice (some ⟨g,0,none⟩) n n,.slice ao n cap]).run Tryz.prog W=.ok (C0 (n:Int)) G)/\bS G g S/\Below g W G:=by
 rcases Nat.eq_zero_or_pos n with e|e
 ·subst e
  obtain rfl:S= []:=List.eq_nil_of_length_eq_zero J;exact⟨W,fun D=>run_copy_none W _ _ D 69 _ _ 0 0 0 cap Tryz.underlying22 (by kernel_rfl) rfl,h,Below.refl _ _⟩
 ·obtain⟨b,t,rfl,O,N⟩:=L.ne (by rw[aC];omega)
  have H:∀j v,(S.map ml)[j]? =some v->W.cell? ((⟨b,t,none⟩:Addr).add j)=some v:=by
   intro j v F;rw[List.getElem?_map]at F;obtain⟨x,K,rfl⟩:=Option.map_eq_some_iff.1 F;have M:j<S.length:=(List.getElem?_eq_some_iff.1 K).1;have:=N j (by rw[aC];exact M);rw[fW]at this;rw[show(⟨b,t,none⟩:Addr).add j=⟨b,t+j,none⟩from by simp[Addr.add],this];rw[List.getD_eq_getElem?_getD,K];rfl
  have l:(S.map ml).length=n:=by rw[List.length_map,J]
  have I:=fun D=>run_copy_row Tryz.prog W 22 22 D 69 g 0 n n ⟨b,t,none⟩ n cap ((List.replicate n 0).map ml).toArray 69 (S.map ml) Tryz.underlying22 (by kernel_rfl) h (by rw[l];exact(Nat.min_self n).symm) H (by rw[l];simp) (fun v F=>by obtain⟨x,_,rfl⟩:=List.mem_map.1 F;rfl)
  refine⟨_,fun D=>(I D).trans (by rw[l];rfl),?_,below_setRow (Below.refl _ _) (Nat.le_refl _) _⟩;unfold bS;rw[setRow_heap W g _ _ 69 _ h]
  congr 3
  simp
end Go.Proofs.YtcbcmlaogehimaaGreatDoor
