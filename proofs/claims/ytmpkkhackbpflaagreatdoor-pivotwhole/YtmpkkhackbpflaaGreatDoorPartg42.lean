/- Part 42 of the texts. -/
import Derived.Test.YtmpkkhackbpflaaGreatDoorPartg41
set_option maxHeartbeats 4000000
set_option maxRecDepth 20000
namespace Go.Proofs.YtmpkkhackbpflaaGreatDoor
open Go.RowKit
attribute [local go_sem ↓] Go.wp_at_zero Go.wp_at_succ
theorem yk(r c:Nat)(w:World)(F:r≤6)(G:c≤6):
  Calls Tryz.prog 9 #[.int .i64 r,.int .i64 c] w fun e t=>∃g,e=.returned (.agg #[.int .i64 r,.int .i64 c,.slice (some ⟨g,0,none⟩) (r*c) (r*c)])∧w.heap.size≤g∧bI t g (List.replicate (r*c) 0)∧Below w.heap.size w t:=by
 have L:(r:Int)*(c:Int)=((r*c:Nat):Int):=cK r c
 have H:r*c≤36:=Nat.mul_le_mul F G
 have I:=run_make_row' (P:=Tryz.prog) 23 28 (.int .u64 0) 8 Tryz.underlying23 (by kernel_rfl) rfl .i64 .i64 (r*c) (by omega) (by omega)
 generalize l:r*c=n at*
 clear l
 have d:=ag w (.cells #[.int .i64 r,.int .i64 c,.slice (some ⟨w.heap.size+1,0,none⟩) n n] 25)
 have z:=aH w (.cells #[.int .i64 r,.int .i64 c,.slice (some ⟨w.heap.size+1,0,none⟩) n n] 25)
 have D:=ag (w.alloc (.cells #[.int .i64 r,.int .i64 c,.slice (some ⟨w.heap.size+1,0,none⟩) n n] 25)) (.cells (madeCells #[.int .u64 0] n) 28)
 have h:=bI.made (w.alloc (.cells #[.int .i64 r,.int .i64 c,.slice (some ⟨w.heap.size+1,0,none⟩) n n] 25)) n
 have J:=ac (d.trans (D.mono d.size))
 rw[z]at h
 have Q:=ac h
 clear d D h z
 go_enter Tryz.func9,Tryz.ntmps9
 go_wp2
 exact bodyPost_ret (v:=.agg #[.int .i64 r,.int .i64 c,.slice (some ⟨w.heap.size+1,0,none⟩) n n]) (by simp[results,Tryz.results9,go_sem]) rfl ⟨w.heap.size+1,rfl,by omega,uH Q,uH J⟩
theorem EY(I:List Int)(j:Nat)(d:j<I.length):(co I).getD j 0=bN I j:=by
 rw[List.getD_eq_getElem?_getD,qd I j d]
 rfl
theorem EZ(L:List Nat){j:Nat}(h:j<L.length):rW (L.drop j)=if fK (L.getD j 0)=0 then rW (L.drop (j+1))else fS (L.getD j 0):=by
 rw[List.drop_eq_getElem_cons h,List.getD_eq_getElem?_getD,List.getElem?_eq_getElem h]
 rfl
end Go.Proofs.YtmpkkhackbpflaaGreatDoor
namespace Go.Proofs.YtmpkkhackbpflaaGreatDoor
def Bx(r c:Nat)(S:List Nat)(i k:Nat)(vs:List Nat)(tau d j:Nat):List Nat:=mW r c (fun p q=>if(k≤q∧i≤p∧p<i+vs.length)∧(q<d∨(q=d∧p<i+j))then(wK c S i q vs tau).getD (p-i) 0 else cj c S p q)
theorem Il(r c:Nat)(S:List Nat)(i k:Nat)(l:List Nat)(h d j:Nat):(Bx r c S i k l h d j).length=r*c:=fW _ _ _
theorem Nj(r c:Nat)(S:List Nat)(i k:Nat)(l:List Nat)(d:Nat)(h:S.length=r*c):Bx r c S i k l d k 0=S:=by
 unfold Bx
 rw[←nN r c S h]
 refine dL (fun p q _ _=>?_)
 rw[nN r c S h,if_neg (fun g=>by omega)]
 rfl
theorem E5(r c:Nat)(S:List Nat)(i k:Nat)(h:List Nat)(l d:Nat):Bx r c S i k h l d h.length=Bx r c S i k h l (d+1) 0:=by
 unfold Bx
 refine dL (fun p q _ _=>?_)
 by_cases g:(k≤q∧i≤p∧p<i+h.length)∧(q<d∨(q=d∧p<i+h.length))
 ·rw[if_pos g,if_pos ⟨g.1,by omega⟩]
 ·rw[if_neg g,if_neg (fun t=>g ⟨t.1,by omega⟩)]
theorem Im(r c:Nat)(S:List Nat)(i k:Nat)(l:List Nat)(h d:Nat)(z:c≤d):Bx r c S i k l h d 0=qE r c S i k l h:=by
 unfold Bx qE
 refine dL (fun p q _ D=>?_)
 by_cases g:k≤q∧i≤p∧p<i+l.length
 ·rw[if_pos g,if_pos ⟨g,by omega⟩]
 ·rw[if_neg g,if_neg (fun t=>g t.1)]
theorem Io(r c:Nat)(S:List Nat){i k:Nat}{l:List Nat}{h d j:Nat}(F:i+l.length≤r)(t:d<c)(z:k≤d)(G:j<l.length):
  (Bx r c S i k l h d j).set ((i+j)*c+d) ((wK c S i d l h).getD j 0)=Bx r c S i k l h d (j+1):=by
 unfold Bx
 rw[mC r c _ _ (show i+j<r by omega) t]
 refine dL (fun p q _ _=>?_)
 by_cases e:p=i+j∧q=d
 ·obtain⟨rfl,rfl⟩:=e
  rw[if_pos ⟨rfl,rfl⟩,if_pos ⟨⟨z,by omega,by omega⟩,.inr ⟨rfl,by omega⟩⟩,show i+j-i=j by omega]
 ·rw[if_neg e]
  by_cases g:(k≤q∧i≤p∧p<i+l.length)∧(q<d∨(q=d∧p<i+j))
  ·rw[if_pos g,if_pos ⟨g.1,by omega⟩]
  ·rw[if_neg g,if_neg (fun D=>g ⟨D.1,by omega⟩)]
theorem qi(c:Nat)(S:List Nat)(i q:Nat)(d:List Nat)(h:Nat){j:Nat}(l:j<d.length):
  (wK c S i q d h).getD j 0=aV (cj c S (i+j) q) (fN (mV (mV h (eh 0 d (bf c S i d.length q))) (d.getD j 0))):=by
 unfold wK
 rw[EW _ d _ j (aL _ _ _ _ _).symm l,iE c S i d.length q l]
theorem E6(c:Nat)(S:List Nat)(i q:Nat)(h:List Nat)(d:Nat){j:Nat}(l:j<h.length)(t:∀p q,cj c S p q<18446744073709551616):(wK c S i q h d).getD j 0<18446744073709551616:=by
 rw[qi c S i q h d l]
 exact jT _ _ (t _ _) (jF _ (kL _ _))
theorem E7(x y:Nat):∀(l d:List Nat) (s:Nat),l.length=d.length→eh s (l++[x]) (d++[y])=aV (eh s l d) (mV x y):=by
 intro l
 induction l with
 |nil=>
  intro d s h
  match d with
  | []=>rfl
  |y'::d=>cases h
 |cons x' l ih=>
  intro d s h
  match d with
  | []=>cases h
  |y'::d=>exact ih d _ (by simpa using h)
theorem zX(I J:List Int):∀j,j≤I.length→j≤J.length→wJ I J j=eh 0 ((co I).take j) ((co J).take j):=by
 intro j
 induction j with
 |zero=>intro _ _;rfl
 |succ j ih=>
  intro d h
  rw[mB I j d,mB J j h,E7 _ _ _ _ _ (by simp[gZ];omega),←ih (by omega) (by omega)]
  rfl
def FQ(r c:Nat)(S:List Nat)(j b i:Nat):List Nat:=mW r c (fun p q=>if q=j∧j≤p∧p<i then(if p=j then b else 0)else cj c S p q)
theorem zY(r c:Nat)(S:List Nat)(j b i:Nat):(FQ r c S j b i).length=r*c:=fW _ _ _
theorem Bz(r c:Nat)(S:List Nat){j:Nat}(b:Nat)(h:S.length=r*c)(d:j<r)(l:j<c):S.set (j*c+j) b=FQ r c S j b (j+1):=by
 have e:S=mW r c (fun p q=>cj c S p q):=by
  conv=>lhs;rw[←nN r c S h]
  rfl
 conv=>lhs;rw[e]
 rw[mC r c _ _ d l]
 unfold FQ
 refine dL (fun p q _ _=>?_)
 by_cases g:p=j∧q=j
 ·rw[if_pos g,if_pos ⟨g.2,by omega,by omega⟩,if_pos g.1]
 ·rw[if_neg g,if_neg (fun t=>g (by omega))]
theorem Ip(r c:Nat)(S:List Nat){j i:Nat}(b:Nat)(t:j<i)(h:i<r)(l:j<c):(FQ r c S j b i).set (i*c+j) 0=FQ r c S j b (i+1):=by
 unfold FQ
 rw[mC r c _ _ h l]
 refine dL (fun p q _ _=>?_)
 by_cases g:p=i∧q=j
 ·rw[if_pos g,if_pos ⟨g.2,by omega,by omega⟩,if_neg (by omega)]
 ·rw[if_neg g]
  by_cases d:q=j∧j≤p∧p<i
  ·rw[if_pos d,if_pos (show q=j∧j≤p∧p<i+1 by omega)]
  ·rw[if_neg d,if_neg (show¬(q=j∧j≤p∧p<i+1) by omega)]
def Jv(r c:Nat)(S:List Nat)(j b:Nat):List Nat:=FQ r c S j b r
theorem Iq(r c:Nat)(S:List Nat)(j b:Nat):(Jv r c S j b).length=r*c:=zY _ _ _ _ _ _
def bD(r c:Nat)(S:List Nat)(j:Nat):List Nat:=bf c S j (r-j) j
theorem Ir(r c:Nat)(S:List Nat)(j:Nat):(bD r c S j).length=r-j:=aL _ _ _ _ _
def jI(r c:Nat)(S:List Nat)(j:Nat):List Nat:=Jv r c (qE r c S j j (cu (bD r c S j)) (dr (bD r c S j))) j (gv (bD r c S j))
theorem Is(r c:Nat)(S:List Nat)(j:Nat):(jI r c S j).length=r*c:=Iq _ _ _ _ _
def eM(xs:List Nat):Bool:=je (bs xs) xs.length
def jA(r c:Nat):Nat:=min c (r-1)
theorem yl(r c j:Nat):j<jA r c↔(j:Int)<(c:Int)∧(j:Int)<(r:Int)-1:=by
 unfold jA
 omega
theorem j5(r c:Nat)(S:List Nat)(j b:Nat){p q:Nat}(d:p<r)(h:q<c):cj c (Jv r c S j b) p q=if q=j∧j≤p∧p<r then(if p=j then b else 0)else cj c S p q:=by
 unfold Jv FQ
 rw[zS r c _ d h]
open Go.RowKit
attribute [local go_sem ↓] Go.wp_at_zero Go.wp_at_succ
theorem q9{a w d:World}{o:Option Nat}(h:a.grownBy w o)(k:w.grownBy d o):a.grownBy d o:=
 ⟨k.os.trans h.os,k.tape.trans h.tape,k.output.trans h.output,Nat.le_trans h.size k.size,fun i l t=>(k.block i (Nat.lt_of_lt_of_le l h.size) t).trans (h.block i l t)⟩
theorem re{w d:World}(h:Below w.heap.size w d)(o:Option Nat):w.grownBy d o:=⟨h.os,h.tape,h.output,h.size,fun k l _=>h.block k l⟩
theorem gP(w:World)(g j:Nat)(v:Value):w.grownBy (w.setCell ⟨g,j,none⟩ v) (some g):=by
 have h:=(Below.refl w.heap.size w)
 refine⟨rfl,rfl,rfl,?_,fun k _ d=>Below.heap_setCell w ⟨g,j,none⟩ v k (fun e=>d (by rw[e]))⟩
 simp[World.setCell]
structure ym (w wr:World) (g r c n:Nat) (S:List Nat):Prop where
 bel:w.grownBy wr (some g)
 a:aT wr w.heap.size (.int .i64 r) (.int .i64 c) (.slice (some ⟨g,0,none⟩) n n)
 row:bI wr g S
theorem ym.start{w:World}{g n:Nat}{S:List Nat}(h:bI w g S)(r c:Nat):ym w (w.alloc (.cells #[.int .i64 r,.int .i64 c,.slice (some ⟨g,0,none⟩) n n] 25)) g r c n S:=by
 have b:=ag w (.cells #[.int .i64 r,.int .i64 c,.slice (some ⟨g,0,none⟩) n n] 25)
 exact⟨re b _,aT.new w _ _ _,h.below b h.lt⟩
theorem ym.set{w wr:World}{g r c n:Nat}{S:List Nat}(h:ym w wr g r c n S)(d:g<w.heap.size)(p x:Nat):ym w (wr.setCell ⟨g,p,none⟩ (.int .u64 (x:Int))) g r c n (S.set p x):=
 ⟨q9 h.bel (gP wr g p _),h.a.other (p:=⟨g,p,none⟩) (by show w.heap.size≠g;omega) _,h.row.set p x⟩
theorem BG(r c n j d g l:Nat)(S:List Nat)(T:Nat→List Nat)(P:Nat→Nat)(w:World)(aa:n≤36)(hr:r≤6)(hj:j<r)(h:bI w g S)(Y:S.length=n)(Z:∀i,(T i).length=n)
  (h0:j*c+j=l∧l<n∧S.set l d=T (j+1)) (hP:∀i,j<i→i<r→i*c+j=P i∧P i<n∧(T i).set (P i) 0=T (i+1)):
  Calls Tryz.prog 158 #[.agg #[.int .i64 r,.int .i64 c,.slice (some ⟨g,0,none⟩) n n],.int .i64 j,.int .u64 d] w fun e w'=>e=.returned (.tuple #[])∧bI w' g (T r)∧w.grownBy w' (some g):=by
 have HG:=ac h.lt
 have D:=ac (ym.start (n:=n) h r c)
 obtain⟨G,t⟩:∃q,j*c=q:=⟨_,rfl⟩
 obtain⟨V,L,M⟩:=h0
 rw[t]at V
 have HP:=ac hP;have LT:=ac Z
 have e1:IntKind.i64.wrap ((j:Int)*(c:Int))=(G:Int):=by
  rw[cK j c,t]
  exact br _ (by omega)
 have e2:IntKind.i64.wrap ((G:Int)+(j:Int))=(l:Int):=(br _ (by omega)).trans (by omega)
 have e3:(j:Int)*(c:Int)=(G:Int):=by rw[cK j c,t]
 have e4:(G:Int)+(j:Int)=(l:Int):=by omega
 have w1:IntKind.i64.wrap (G:Int)=(G:Int):=br _ (by omega)
 have w2:IntKind.i64.wrap (l:Int)=(l:Int):=br _ (by omega)
 obtain⟨H,F⟩:∃H,j+1=H:=⟨_,rfl⟩
 have e5:IntKind.i64.wrap ((j:Int)+1)=(H:Int):=(br _ (by omega)).trans (by omega)
 have e6:(j:Int)+1=(H:Int):=by omega
 have I:(l:Int)<(n:Int):=by omega
 have y0:=(uH D).a.c0;have y1:=(uH D).a.c1;have y2:=(uH D).a.c2
 have d1:=(uH D).row.cell l (by rw[Y];exact L)
 have f1:=(uH D).row.free l
 have O:=ac ((uH D).set (uH HG) l d)
 rw[M,F]at O
 have J:=ac F
 clear hP Z h Y M t L D F
 go_enter Tryz.func158,Tryz.ntmps158
 go_wp2_with fail
 clear y0 y1 y2 d1 f1 e1 e2 e3 e4 e5 e6 w1 w2 I
 go_loopw[6] (fun a wr=>∃i:Nat,j<i∧i≤r∧a=.int .i64 i∧Hid (ym w wr g r c n (T i))) (fun a _=>r-(intOf a).toNat)
 case atStart=>exact⟨H,by have:=uH J;omega,by have:=uH J;omega,by first|rfl|go_num,O⟩
 case round=>
  clear O
  obtain⟨i,X,ae,rfl,z⟩:=hrel
  have y0:=(uH z).a.c0
  by_cases Q:i<r
  ·have ad:(i:Int)<(r:Int):=by omega
   obtain⟨V,L,M⟩:=uH HP i X Q
   have y1:=(uH z).a.c1;have y2:=(uH z).a.c2
   obtain⟨q,N⟩:∃q,i*c=q:=⟨_,rfl⟩
   rw[N]at V
   have e1:IntKind.i64.wrap ((i:Int)*(c:Int))=(q:Int):=by
    rw[cK i c,N]
    exact br _ (by omega)
   have e2:IntKind.i64.wrap ((q:Int)+(j:Int))=(P i:Int):=(br _ (by omega)).trans (by omega)
   have e3:(i:Int)*(c:Int)=(q:Int):=by rw[cK i c,N]
   have e4:(q:Int)+(j:Int)=(P i:Int):=by omega
   have w1:IntKind.i64.wrap (q:Int)=(q:Int):=br _ (by omega)
   have w2:IntKind.i64.wrap (P i:Int)=(P i:Int):=br _ (by omega)
   have I:(P i:Int)<(n:Int):=by omega
   have d1:=(uH z).row.cell (P i) (by rw[uH LT];exact L)
   have f1:=(uH z).row.free (P i)
   have S2:=ac ((uH z).set (uH HG) (P i) 0)
   rw[M]at S2
   generalize P i=p at*
   clear z M N L
   go_wp2_with fail
   go_round
   case rel=>exact⟨i+1,by omega,by omega,by go_num,S2⟩
   case measure=>simp[intOf];omega
  ·have U:i=r:=by omega
   subst U
   go_wp2
   first|go_end0|refine bodyPost_ret (results_none rfl _ _ _) rfl ?_
   exact⟨rfl,(uH z).row,(uH z).bel⟩
theorem yn(r c j d g:Nat)(S:List Nat)(w:World)(H:r≤6)(J:c≤6)(D:j<r)(l:j<c)(t:S.length=r*c)(h:bI w g S):
  Calls Tryz.prog 158 #[.agg #[.int .i64 r,.int .i64 c,.slice (some ⟨g,0,none⟩) S.length S.length],.int .i64 j,.int .u64 d] w fun e I=>e=.returned (.tuple #[])∧bI I g (Jv r c S j d)∧w.grownBy I (some g):=by
 have G:S.length≤36:=by
  rw[t]
  exact Nat.mul_le_mul H J
 refine BG r c S.length j d g (j*c+j) S (FQ r c S j d) (fun i=>i*c+j) w G H D h rfl (fun i=>by rw[zY,t]) ⟨rfl,by rw[t];exact gN D l,Bz r c S d t D l⟩ (fun i F z=>⟨rfl,by rw[t];exact gN z l,Ip r c S d F z l⟩)
end Go.Proofs.YtmpkkhackbpflaaGreatDoor
