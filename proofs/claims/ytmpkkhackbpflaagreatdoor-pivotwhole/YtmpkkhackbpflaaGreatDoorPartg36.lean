/- Part 36 of the texts. -/
import Derived.Test.YtmpkkhackbpflaaGreatDoorPartg35
namespace Go.Proofs.YtmpkkhackbpflaaGreatDoor
open Go.RowKit
def mW(r c:Nat)(f:Nat→Nat→Nat):List Nat:=(List.range (r*c)).map (fun p=>f (p/c) (p%c))
theorem gN{r c i k:Nat}(d:i<r)(l:k<c):i*c+k<r*c:=by
 have h:(i+1)*c≤r*c:=Nat.mul_le_mul_right c d
 rw[Nat.add_mul,Nat.one_mul]at h
 omega
theorem kt{c i k:Nat}(d:k<c):(i*c+k)/c=i:=by
 rw[Nat.add_comm,Nat.add_mul_div_right _ _ (by omega),Nat.div_eq_of_lt d,Nat.zero_add]
theorem ku{c i k:Nat}(d:k<c):(i*c+k)%c=k:=by
 rw[Nat.add_comm,Nat.add_mul_mod_self_right,Nat.mod_eq_of_lt d]
theorem jY{r c p:Nat}(h:p<r*c):p/c<r∧p%c<c∧p/c*c+p%c=p:=by
 have d:0<c:=by
  rcases Nat.eq_zero_or_pos c with e|e
  ·subst e;omega
  ·exact e
 refine⟨(Nat.div_lt_iff_lt_mul d).2 h,Nat.mod_lt _ d,?_⟩
 have:=Nat.div_add_mod p c
 rw[Nat.mul_comm]at this
 exact this
theorem Br{c i k x y:Nat}(d:k<c)(l:y<c):i*c+k=x*c+y↔i=x∧k=y:=by
 constructor
 ·intro h
  have t:=kt (i:=i) d
  have z:=ku (i:=i) d
  rw[h,kt l]at t
  rw[h,ku l]at z
  exact⟨t.symm,z.symm⟩
 ·rintro⟨rfl,rfl⟩;rfl
theorem fW(r c:Nat)(f:Nat→Nat→Nat):(mW r c f).length=r*c:=by simp[mW]
theorem oQ(r c:Nat)(f:Nat→Nat→Nat)(p:Nat)(h:p<r*c):(mW r c f)[p]? =some (f (p/c) (p%c)):=by simp[mW,h]
theorem xZ(r c:Nat)(f:Nat→Nat→Nat){i k:Nat}(h:i<r)(d:k<c):(mW r c f)[i*c+k]? =some (f i k):=by
 rw[oQ _ _ _ _ (gN h d),kt d,ku d]
theorem H8(r c:Nat)(f:Nat→Nat→Nat){i k:Nat}(d:i<r)(h:k<c):(mW r c f).getD (i*c+k) 0=f i k:=by
 rw[List.getD_eq_getElem?_getD,xZ r c f d h];rfl
theorem dL{r c:Nat}{f g:Nat→Nat→Nat}(h:∀i k,i<r→k<c→f i k=g i k):mW r c f=mW r c g:=by
 unfold mW
 refine List.map_congr_left (fun p d=>?_)
 obtain⟨l,t,_⟩:=jY (List.mem_range.1 d)
 exact h _ _ l t
theorem nN(r c:Nat)(S:List Nat)(h:S.length=r*c):mW r c (fun i k=>S.getD (i*c+k) 0)=S:=by
 refine List.ext_getElem? (fun p=>?_)
 rcases Nat.lt_or_ge p (r*c)with g|g
 ·rw[oQ _ _ _ _ g,(jY g).2.2,List.getD_eq_getElem?_getD,List.getElem?_eq_getElem (by omega)];rfl
 ·rw[List.getElem?_eq_none (by rw[fW];exact g),List.getElem?_eq_none (by omega)]
theorem mC(r c:Nat)(g:Nat→Nat→Nat)(v:Nat){i k:Nat}(_:i<r)(l:k<c):(mW r c g).set (i*c+k) v=mW r c (fun x y=>if x=i∧y=k then v else g x y):=by
 refine List.ext_getElem? (fun p=>?_)
 rcases Nat.lt_or_ge p (r*c)with h|h
 ·obtain⟨D,t,d⟩:=jY h
  rw[oQ _ _ _ _ h,List.getElem?_set]
  have e:(i*c+k=p)↔(p/c=i∧p%c=k):=by
   rw[←d,Br l t,d]
   exact⟨fun⟨a,b⟩=>⟨a.symm,b.symm⟩,fun⟨a,b⟩=>⟨a.symm,b.symm⟩⟩
  by_cases q:i*c+k=p
  ·rw[if_pos q,if_pos (by rw[fW];omega),if_pos (e.1 q)]
  ·rw[if_neg q,if_neg (fun z=>q (e.2 z)),oQ _ _ _ _ h]
 ·rw[List.getElem?_eq_none (by simpa[fW]using h),List.getElem?_eq_none (by rw[fW];exact h)]
def cj(c:Nat)(S:List Nat)(i k:Nat):Nat:=S.getD (i*c+k) 0
def Mv(c:Nat)(S:List Nat)(i k p q:Nat):List Nat:=mW p q (fun x y=>cj c S (i+x) (k+y))
theorem zS(r c:Nat)(f:Nat→Nat→Nat){i k:Nat}(d:i<r)(h:k<c):cj c (mW r c f) i k=f i k:=H8 r c f d h
def Ju(n:Nat):List Nat:=mW n n (fun i k=>if k=i then 4607182418800017408 else 0)
def NF(f:Nat→Int):Nat→Int
 |0=>0
 |n+1=>NF f n+f n
theorem tA(c:Nat)(S:List Nat)(i k:Nat)(h:∀x∈S,ah x=true):ah (cj c S i k)=true:=by
 unfold cj
 rw[List.getD_eq_getElem?_getD]
 by_cases g:i*c+k<S.length
 ·rw[List.getElem?_eq_getElem g]
  exact h _ (List.getElem_mem g)
 ·rw[List.getElem?_eq_none (by omega)]
  decide+kernel
attribute [local go_sem ↓] Go.wp_at_zero Go.wp_at_succ
theorem ak.other{w:World}{l:Option Addr}{c:Nat}{I:List Int}(h:ak w l c I){p:Addr}(F:I= []∨∃b d,l=some ⟨b,d,none⟩∧b≠p.block)(u:Value):ak (w.setCell p u) l c I:=by
 refine⟨h.1,h.2.1,?_⟩
 rcases h.2.2 with e|⟨b,d,z,H,J⟩
 ·exact .inl e
 rcases F with e|⟨M,D,t,L⟩
 ·exact .inl e
 rw[z]at t
 simp only[Option.some.injEq,Addr.mk.injEq]at t
 obtain⟨rfl,rfl,_⟩:=t
 refine .inr ⟨b,d,z,by simpa[World.setCell]using H,fun i G=>?_⟩
 rw[an _ _ _ _ L]
 exact J i G
def dJ(H:Nat)(ao:Option Addr)(I:List Int):Prop:=I= []∨∃b off,ao=some ⟨b,off,none⟩∧H≤b
theorem ak.far{H:Nat}{w:World}{d:Option Addr}{c:Nat}{I:List Int}(h:ak w d c I)(z:dJ H d I){b:Nat}(F:b<H)(j:Nat)(u:Value):ak (w.setCell ⟨b,j,none⟩ u) d c I:=by
 refine h.other ?_ u
 rcases z with e|⟨t,l,D,G⟩
 ·exact .inl e
 ·exact .inr ⟨t,l,D,by show t≠b;omega⟩
end Go.Proofs.YtmpkkhackbpflaaGreatDoor
