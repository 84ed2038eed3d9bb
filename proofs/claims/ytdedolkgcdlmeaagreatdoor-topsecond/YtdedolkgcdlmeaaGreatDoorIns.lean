import Derived.Test.YtdedolkgcdlmeaaGreatDoorLower
namespace Go.Proofs.YtdedolkgcdlmeaaGreatDoor
open Go.RowKit Limbs
inductive Gens (len:Nat) (S:List Int→Prop):List Int→Prop
 | base {v:List Int} (h:S v) (hl:v.length=len):Gens len S v
 | zero:Gens len S (List.replicate len 0)
 | comb {u v:List Int} (x y:Int) (hu:Gens len S u) (hv:Gens len S v):Gens len S (List.zipWith (fun a b=>x * a+y * b) u v)
theorem Gens.len {len:Nat}{S:List Int→Prop}{v:List Int}(h:Gens len S v):v.length=len:=by
 induction h with
 | base _ hl=>exact hl
 | zero=>simp
 | comb x y _ _ h1 h2=>rw [List.length_zipWith,h1,h2,Nat.min_self]
theorem Gens.trans {len:Nat}{S T:List Int→Prop}(h:∀ v,S v→v.length=len→Gens len T v){v:List Int}(hv:Gens len S v):Gens len T v:=by
 induction hv with
 | base hs hl=>exact h _ hs hl
 | zero=>exact .zero
 | comb x y _ _ h1 h2=>exact .comb x y h1 h2
theorem zy {xs ys:List Int}(hl:xs.length=ys.length)(h:∀ k,k < xs.length→xs.getD k 0=ys.getD k 0):xs=ys:=by
 apply List.ext_getElem hl
 intro k h1 h2
 have:=h k h1
 rwa [List.getD_eq_getElem?_getD,List.getD_eq_getElem?_getD,List.getElem?_eq_getElem h1,List.getElem?_eq_getElem h2] at this
theorem zlM {us r:List Int}(hl:us.length=r.length)(q:Int):List.zipWith (fun a b=>1 * a+q * b) (List.zipWith (fun a b=>1 * a+-q * b) us r) r=us:=by
 have h1:=zk (fun a b=>1 * a+-q * b) us r hl
 have h2:=zk (fun a b=>1 * a+q * b) (List.zipWith (fun a b=>1 * a+-q * b) us r) r (h1.trans hl)
 refine zy (h2.trans h1) fun k hk=>?_
 rw [h2,h1] at hk
 rw [zl _ _ _ (h1.trans hl) k (by omega),zl _ _ _ hl k hk,Int.neg_mul]
 omega
theorem Gens.low {len:Nat}{S:List Int→Prop}{us r:List Int}(hu:Gens len S us)(hr:Gens len S r)(k:Nat):Gens len S (lowRow us r k):=.comb _ _ hu hr
theorem Gens.unlow {len:Nat}{S:List Int→Prop}{us r:List Int}{k:Nat}(hl:us.length=r.length)(hu:Gens len S (lowRow us r k))(hr:Gens len S r):Gens len S us:=by
 have:=Gens.comb 1 (us.getD k 0 / r.getD k 0) hu hr
 unfold lowRow at this
 rwa [zlM hl] at this
theorem Gens.lowN {len:Nat}{S:List Int→Prop}{rows:Nat→Option (List Int)}{f:Nat}{us:List Int}(hu:Gens len S us)(hr:∀ i r,f≤i→rows i=some r→Gens len S r)(k:Nat):Gens len S (lowN rows f us k):=by
 induction k with
 | zero=>exact hu
 | succ k ih=>
  unfold Go.Proofs.YtdedolkgcdlmeaaGreatDoor.lowN lowAt
  split
  ·exact ih
  ·rename_i r e
   exact ih.low (hr _ r (by omega) e) _
theorem zdD (rows:Nat→Option (List Int))(f:Nat)(us:List Int){len:Nat}(hl:us.length=len)(h:∀ i r,f≤i→rows i=some r→r.length=len)(k:Nat):(lowN rows f us k).length=len:=by
 induction k with
 | zero=>exact hl
 | succ k ih=>
  unfold lowN lowAt
  split
  ·exact ih
  ·rename_i r hr
   unfold lowRow
   rw [zk _ _ _ (ih.trans (h _ r (by omega) hr).symm)]
   exact ih
theorem Gens.unlowN {len:Nat}{S:List Int→Prop}{rows:Nat→Option (List Int)}{f:Nat}{us:List Int}(hl:us.length=len)(hr:∀ i r,f≤i→rows i=some r→Gens len S r)(k:Nat)(hu:Gens len S (Go.Proofs.YtdedolkgcdlmeaaGreatDoor.lowN rows f us k)):Gens len S us:=by
 induction k with
 | zero=>exact hu
 | succ k ih=>
  unfold Go.Proofs.YtdedolkgcdlmeaaGreatDoor.lowN lowAt at hu
  revert hu
  split
  ·exact ih
  ·rename_i r e
   intro hu
   have hg:=hr _ r (by omega) e
   refine ih (hu.unlow ?_ hg)
   have h3:=zdD rows f us hl (fun i r hi e=>(hr i r hi e).len) k
   rw [h3,hg.len]
theorem ziM {us vs:List Int}(hl:us.length=vs.length){p q g x y s t:Int}(hg:0 < g)(h1:g=x * p+y * q)(h2:p=s * g)(h3:q=t * g):
  List.zipWith (fun a b=>s * a+-y * b) (List.zipWith (fun a b=>x * a+y * b) us vs) (List.zipWith (fun b a=>s * b+-t * a) vs us)=us ∧
  List.zipWith (fun a b=>t * a+x * b) (List.zipWith (fun a b=>x * a+y * b) us vs) (List.zipWith (fun b a=>s * b+-t * a) vs us)=vs:=by
 have hd:x * s+y * t=1:=by
  have e:(x * s+y * t) * g=1 * g:=by
   rw [Int.add_mul,Int.mul_assoc,Int.mul_assoc,← h2,← h3];omega
  exact Int.eq_of_mul_eq_mul_right (by omega) e
 have l1:=zk (fun a b=>x * a+y * b) us vs hl
 have l2:=zk (fun b a=>s * b+-t * a) vs us hl.symm
 have l3:=l1.trans (hl.trans l2.symm)
 constructor
 ·have l4:=zk (fun a b=>s * a+-y * b) _ _ l3
  refine zy (l4.trans l1) fun k hk=>?_
  rw [l4,l1] at hk
  rw [zl _ _ _ l3 k (by omega),zl _ _ _ hl k hk,zl _ _ _ hl.symm k (by omega)]
  generalize us.getD k 0=a
  generalize vs.getD k 0=b
  have:s *(x * a+y * b)+-y *(s * b+-t * a)=(x * s+y * t) * a:=by
   simp only [Int.mul_add,Int.add_mul,Int.neg_mul,Int.mul_neg,Int.neg_neg]
   have e1:s *(x * a)=x * s * a:=by rw [← Int.mul_assoc,Int.mul_comm s x]
   have e2:s *(y * b)=y *(s * b):=by rw [← Int.mul_assoc,← Int.mul_assoc,Int.mul_comm s y]
   have e3:y *(t * a)=y * t * a:=by rw [Int.mul_assoc]
   omega
  rw [this,hd,Int.one_mul]
 ·have l4:=zk (fun a b=>t * a+x * b) _ _ l3
  refine zy ((l4.trans l1).trans hl) fun k hk=>?_
  rw [l4,l1] at hk
  rw [zl _ _ _ l3 k (by omega),zl _ _ _ hl k hk,zl _ _ _ hl.symm k (by omega)]
  generalize us.getD k 0=a
  generalize vs.getD k 0=b
  have:t *(x * a+y * b)+x *(s * b+-t * a)=(x * s+y * t) * b:=by
   simp only [Int.mul_add,Int.add_mul,Int.neg_mul,Int.mul_neg]
   have e1:t *(x * a)=x *(t * a):=by rw [← Int.mul_assoc,← Int.mul_assoc,Int.mul_comm t x]
   have e2:t *(y * b)=y * t * b:=by rw [← Int.mul_assoc,Int.mul_comm t y]
   have e3:x *(s * b)=x * s * b:=by rw [Int.mul_assoc]
   omega
  rw [this,hd,Int.one_mul]
theorem VecN.other {W:World}{b off cap sb k:Nat}{zs:List Int}{n:Nat}{u x:Value}(h:VecN W (.slice (some ⟨b,off,none⟩) zs.length cap) zs n)(hne:b≠sb)(hp:W.cell? ⟨sb,k,none⟩=some u)(hu:∀ z,u≠.int .u32 z):
  VecN (W.setCell ⟨sb,k,none⟩ x) (.slice (some ⟨b,off,none⟩) zs.length cap) zs n:=by
 obtain⟨ao,cap',e,h1,h2⟩:=h
 simp only [Value.slice.injEq,true_and] at e
 obtain⟨rfl,rfl⟩:=e
 refine⟨_,_,rfl,h1,fun h0=>?_⟩
 obtain⟨b',off',e,hlt,hc⟩:=h2 h0
 simp only [Option.some.injEq,Addr.mk.injEq,and_true] at e
 obtain⟨rfl,rfl⟩:=e
 refine⟨_,_,rfl,by simpa using hlt,fun i hi=>?_⟩
 obtain⟨neg,o,l,c,h3,h4,h5⟩:=hc i hi
 exact⟨neg,o,l,c,(World.cell?_setCell_other (h:=fun e=>by simp at e <;> omega) ..).trans h3,(World.cell?_setCell_other (h:=fun e=>by simp at e <;> omega) ..).trans h4,h5.setCell hp hu⟩
theorem VecO.other {w W:World}{P sb k:Nat}{zs:List Int}{n:Nat}{u x:Value}(h:VecO w W P zs n)(hne:P≠sb)(hlow:w.heap.size≤sb)(hp:W.cell? ⟨sb,k,none⟩=some u)(hu:∀ z,u≠.int .u32 z):
  VecO w (W.setCell ⟨sb,k,none⟩ x) P zs n where
 vec:=h.vec.other hne hp hu
 low:=h.low
 below:=h.below.setCell hlow _
 blk:=by
  obtain⟨cs,e⟩:=h.blk
  exact⟨cs,(heap_setCell_other W ⟨sb,k,none⟩ P x hne).trans e⟩
structure StairO (w W:World)(sb m:Nat)(rows:Nat→Option (List Int))(len:Nat)(ns:Nat→Nat):Prop where
 lt:sb < W.heap.size
 low:w.heap.size≤sb
 below:Below w.heap.size w W
 blk:∃ cs t,W.heap[sb]?=some (.cells cs t)
 nil:∀ i,i < m→rows i=none→W.cell? ⟨sb,i,none⟩=some (.slice none 0 0)
 row:∀ i,i < m→∀ r,rows i=some r→∃ P,W.cell? ⟨sb,i,none⟩=some (.slice (some ⟨P,0,none⟩) r.length r.length)∧VecO w W P r (ns i)∧P≠sb∧r.length=len∧0 < r.getD i 0
theorem StairO.stair {w W:World}{sb m:Nat}{rows:Nat→Option (List Int)}{len:Nat}{ns:Nat→Nat}(h:StairO w W sb m rows len ns){f n:Nat}(hn:∀ i,f≤i→i < m→ns i≤n):Stair W sb f m rows len n where
 lt:=h.lt
 nil:=fun i _ hi e=>h.nil i hi e
 row:=fun i hf hi r e=>by
  obtain⟨P,hc,hv,-,h1,h2⟩:=h.row i hi r e
  exact⟨P,0,r.length,hc,hv.vec.mono (hn i hf hi),h1,h2⟩
theorem StairO.later {w W W':World}{sb m:Nat}{rows:Nat→Option (List Int)}{len:Nat}{ns:Nat→Nat}(h:StairO w W sb m rows len ns)(hb:Below W.heap.size W W'):StairO w W' sb m rows len ns where
 lt:=zT h.lt hb.size
 low:=h.low
 below:=h.below.trans (hb.mono h.below.size)
 blk:=by obtain⟨cs,t,e⟩:=h.blk;exact⟨cs,t,(hb.block _ h.lt).trans e⟩
 nil:=fun i hi e=>(hb.cell (p:=⟨sb,i,none⟩) h.lt).trans (h.nil i hi e)
 row:=fun i hi r e=>by
  obtain⟨P,hc,hv,h0,h1,h2⟩:=h.row i hi r e
  exact⟨P,(hb.cell (p:=⟨sb,i,none⟩) h.lt).trans hc,hv.later hb,h0,h1,h2⟩
theorem StairO.mono {w W:World}{sb m:Nat}{rows:Nat→Option (List Int)}{len:Nat}{ns ns':Nat→Nat}(h:StairO w W sb m rows len ns)(hn:∀ i,i < m→rows i≠none→ns i≤ns' i):StairO w W sb m rows len ns':=
 ⟨h.lt,h.low,h.below,h.blk,h.nil,fun i hi r e=>by
  obtain⟨P,hc,hv,h0,h1,h2⟩:=h.row i hi r e
  exact⟨P,hc,⟨hv.vec.mono (hn i hi (by rw [e];exact fun h=>by cases h)),hv.low,hv.below,hv.blk⟩,h0,h1,h2⟩⟩
theorem StairO.cell {w W:World}{sb m:Nat}{rows:Nat→Option (List Int)}{len:Nat}{ns:Nat→Nat}(h:StairO w W sb m rows len ns){i:Nat}(hi:i < m):∃ o l c,W.cell? ⟨sb,i,none⟩=some (.slice o l c):=by
 cases e:rows i with
 | none=>exact⟨_,_,_,h.nil i hi e⟩
 | some r=>obtain⟨P,hc,-⟩:=h.row i hi r e;exact⟨_,_,_,hc⟩
theorem StairO.thaw {w W:World}{sb m:Nat}{rows:Nat→Option (List Int)}{len:Nat}{ns:Nat→Nat}(h:StairO w W sb m rows len ns)(k:Nat):W.frozen? ⟨sb,k,none⟩=false:=by
 obtain⟨cs,t,e⟩:=h.blk
 simp [World.frozen?,e]
theorem StairO.set {w W:World}{sb m:Nat}{rows:Nat→Option (List Int)}{len:Nat}{ns:Nat→Nat}(h:StairO w W sb m rows len ns){k:Nat}(hk:k < m){P n:Nat}{r:List Int}(hv:VecO w W P r n)(hP:P≠sb)(hl:r.length=len)(hp:0 < r.getD k 0):
  StairO w (W.setCell ⟨sb,k,none⟩ (.slice (some ⟨P,0,none⟩) r.length r.length)) sb m (fun i=>if i=k then some r else rows i) len (fun i=>if i=k then n else ns i):=by
 obtain⟨o,l,c,hc⟩:=h.cell hk
 have hu:∀ z,Value.slice o l c≠.int .u32 z:=fun z e=>by cases e
 have oth:∀ i u,i≠k→W.cell? ⟨sb,i,none⟩=some u→(W.setCell ⟨sb,k,none⟩ (.slice (some ⟨P,0,none⟩) r.length r.length)).cell? ⟨sb,i,none⟩=some u:=fun i u hi e=>
  (World.cell?_setCell_other (h:=fun e=>by simp at e <;> omega) ..).trans e
 refine⟨by simpa using h.lt,h.low,h.below.setCell h.low _,?_,?_,?_⟩
 ·obtain⟨cs,t,e⟩:=h.blk
  exact⟨_,_,heap_setCell_same W sb k _ _ _ e⟩
 ·intro i hi e
  by_cases hik:i=k
  ·rw [if_pos hik] at e;cases e
  ·rw [if_neg hik] at e
   exact oth i _ hik (h.nil i hi e)
 ·intro i hi r' e
  by_cases hik:i=k
  ·rw [if_pos hik] at e
   obtain rfl:=Option.some.inj e
   subst hik
   exact⟨P,World.cell?_setCell_same (h:=hc) ..,by rw [if_pos rfl];exact hv.other hP h.low hc hu,hP,hl,hp⟩
  ·rw [if_neg hik] at e
   obtain⟨P',hc',hv',h0,h1,h2⟩:=h.row i hi r' e
   exact⟨P',oth i _ hik hc',by rw [if_neg hik];exact hv'.other h0 h.low hc hu,h0,h1,h2⟩
theorem zcz {rows:Nat→Option (List Int)}{f:Nat}{us:List Int}(hl:∀ i r,rows i=some r→r.length=us.length){j:Nat}(hj:j < us.length)(hz:∀ i r,f≤i→rows i=some r→r.getD j 0=0)(k:Nat):(lowN rows f us k).getD j 0=us.getD j 0:=by
 induction k with
 | zero=>rfl
 | succ k ih=>
  have hlk:=zbp (f:=f) hl k
  unfold lowN lowAt
  split
  ·exact ih
  ·rename_i r hr
   unfold lowRow
   rw [zl _ _ _ (hlk.trans (hl _ r hr).symm) j (by omega),hz _ r (by omega) hr,ih]
   omega
def tidyAt (rows:Nat→Option (List Int))(m a:Nat):Nat→Option (List Int):=fun i=>if i=a then (rows a).map (fun r=>lowN rows (a+1) r (m - (a+1))) else rows i
def tidyN (rows:Nat→Option (List Int))(m:Nat):Nat→Nat→Option (List Int)
 | 0=>rows
 | i+1=>tidyAt (tidyN rows m i) m (m - 1 - i)
structure Ech (rows:Nat→Option (List Int))(len m:Nat):Prop where
 len:∀ i r,rows i=some r→r.length=len
 zero:∀ i r,rows i=some r→∀ j,j < i→r.getD j 0=0
 lt:∀ i r,rows i=some r→i < m
theorem Ech.step {rows:Nat→Option (List Int)}{len m a:Nat}(h:Ech rows len m)(hm:m≤len):Ech (tidyAt rows m a) len m:=by
 have key:∀ i r,tidyAt rows m a i=some r→r.length=len∧(∀ j,j < i→r.getD j 0=0)∧i < m:=by
  intro i r e
  unfold tidyAt at e
  by_cases hi:i=a
  ·rw [if_pos hi] at e
   subst hi
   obtain⟨r0,e0,rfl⟩:=Option.map_eq_some_iff.1 e
   have hl0:=h.len _ _ e0
   have hlt:=h.lt _ _ e0
   have hl:∀ i r,rows i=some r→r.length=r0.length:=fun i r e=>(h.len i r e).trans hl0.symm
   refine⟨(zbp hl _).trans hl0,fun j hj=>?_,hlt⟩
   rw [zcz hl (by omega) (fun i' r' hi' e'=>h.zero i' r' e' j (by omega))]
   exact h.zero _ _ e0 j hj
  ·rw [if_neg hi] at e
   exact⟨h.len i r e,h.zero i r e,h.lt i r e⟩
 exact⟨fun i r e=>(key i r e).1,fun i r e=>(key i r e).2.1,fun i r e=>(key i r e).2.2⟩
theorem Ech.all {rows:Nat→Option (List Int)}{len m:Nat}(h:Ech rows len m)(hm:m≤len)(k:Nat):Ech (tidyN rows m k) len m:=by
 induction k with
 | zero=>exact h
 | succ k ih=>exact ih.step hm
theorem VecN.tight {w:World}{v:Value}{zs:List Int}{n m:Nat}(h:VecN w v zs n)(hz:∀ j,j < zs.length→ab (zs.getD j 0) < bp m):VecN w v zs m:=by
 obtain⟨ao,cap,hv,h1,h2⟩:=h
 refine⟨ao,cap,hv,h1,fun h0=>?_⟩
 obtain⟨b,off,e,hlt,hc⟩:=h2 h0
 refine⟨b,off,e,hlt,fun i hi=>?_⟩
 obtain⟨neg,o,l,c,h3,h4,h5⟩:=hc i hi
 exact⟨neg,o,l,c,h3,h4,h5.tight (hz i hi)⟩
theorem zgr (w:World):Sem.run Tryz.prog (binOp .neq 72 (.slice none 0 0) (.slice none 0 0)) w=.ok (.bool false) w:=by kernel_rfl
theorem zgu (w:World)(a:Addr)(l c:Nat):Sem.run Tryz.prog (binOp .neq 72 (.slice (some a) l c) (.slice none 0 0)) w=.ok (.bool true) w:=by kernel_rfl
def tb (m S0 N i:Nat):Nat→Nat:=fun a=>if m - i≤a then S0 else N
set_option maxRecDepth 100000 in
set_option maxHeartbeats 4000000 in
theorem zlh (w W:World)(sb m len S0 N:Nat)(rows:Nat→Option (List Int))(hs:StairO w W sb m rows len (fun _=>N))(he:Ech rows len m)(hm:m≤len)(h8:len≤1000)(hN:N+m *(S0+3)≤300000)
  (hB:∀ i a r,i≤m→m - i≤a→tidyN rows m i a=some r→∀ j,j < r.length→ab (r.getD j 0) < bp S0):
  Calls Tryz.prog 105 #[.slice (some ⟨sb,0,none⟩) m m] W fun e w'=>e=.returned (.tuple #[])∧StairO w w' sb m (tidyN rows m m) len (fun _=>S0):=by
 have HS:=hide hs;have HE:=hide he;have HB:=hide hB
 clear hs he hB
 go_enter Tryz.func105,Tryz.ntmps105
 go_wp2_with fail
 go_loopw [6] (fun i wr=>∃ k:Nat,k≤m∧i=.int .i64 k∧Hid (StairO w wr sb m (tidyN rows m k) len (tb m S0 N k))) (fun i _=>m - (intOf i).toNat)
 case atStart=>
  refine⟨0,Nat.zero_le _,rfl,hide (HS.out.mono fun i hi _=>?_)⟩
  unfold tb
  rw [if_neg (by omega)]
  exact Nat.le_refl _
 case round=>
  obtain⟨k,hk,rfl,HI⟩:=hrel
  by_cases hkl:k < m
  ·have HNX:=hide (show tidyN rows m (k+1)=tidyAt (tidyN rows m k) m (m - 1 - k) from rfl)
   have HEK:=hide (HE.out.all hm k)
   have HBK:=hide (HB.out (k+1))
   obtain⟨a,ha⟩:∃ a,a=m - 1 - k:=⟨_,rfl⟩
   have hac:(m:Int) - 1 - (k:Int)=(a:Int):=by omega
   have ham:a < m:=by omega
   rw [← ha] at HNX
   have HA:=hide ha
   clear ha
   cases hr:tidyN rows m k a with
   | none=>
    have c0:=HI.out.nil a ham hr
    have hbo:=zgr wr
    have HN:Hid (StairO w wr sb m (tidyN rows m (k+1)) len (tb m S0 N (k+1))):=by
     have e:tidyN rows m (k+1)=tidyN rows m k:=by
      rw [HNX.out]
      funext i
      unfold tidyAt
      by_cases hi:i=a
      ·rw [if_pos hi,hi,hr];rfl
      ·rw [if_neg hi]
     rw [e]
     refine hide (HI.out.mono fun i hi hne=>?_)
     unfold tb
     have:i≠a:=fun h=>hne (by rw [h,hr])
     have:=HA.out
     by_cases h1:m - k≤i
     ·rw [if_pos h1,if_pos (by omega)];exact Nat.le_refl _
     ·rw [if_neg h1,if_neg (by omega)];exact Nat.le_refl _
    clear hr HI HNX HEK HBK
    go_wp2
    go_roundw
    case rel=>exact⟨k+1,by omega,by go_num,HN⟩
    case measure=>simp [intOf];omega
   | some r=>
    obtain⟨P,c0,hv,hP,hlen,hpos⟩:=HI.out.row a ham r hr
    have hbo:=zgu wr ⟨P,0,none⟩ r.length r.length
    have lsb:=HI.out.lt
    have htb:tb m S0 N k a=N:=by unfold tb;rw [if_neg (by have:=HA.out;omega)]
    rw [htb] at hv
    clear htb
    have hcast:((a+1:Nat):Int)=(a:Int)+1:=by omega
    have hst:Stair wr sb (a+1) m (tidyN rows m k) r.length S0:=by
     rw [hlen]
     exact HI.out.stair (fun i hf hi=>by unfold tb;rw [if_pos (by have:=HA.out;omega)];exact Nat.le_refl _)
    have hcap:N+m *(S0+3)≤300000:=hN
    have hL:=zfz wr sb m (a+1) N S0 (tidyN rows m k) (.slice (some ⟨P,0,none⟩) r.length r.length) r hst (fun i r' e=>(HEK.out.len i r' e).trans hlen.symm) hv.vec (by omega) (by omega) (by omega) (by omega)
    rw [hcast] at hL
    have HL:=hide hL
    have hr'l:(lowN (tidyN rows m k) (a+1) r (m - (a+1))).length=r.length:=zbp (fun i r' e=>(HEK.out.len i r' e).trans hlen.symm) _
    have hr'p:(lowN (tidyN rows m k) (a+1) r (m - (a+1))).getD a 0=r.getD a 0:=zcz (fun i r' e=>(HEK.out.len i r' e).trans hlen.symm) (by omega) (fun i r' hi e=>HEK.out.zero i r' e a (by omega)) _
    have hnx:tidyN rows m (k+1)=fun i=>if i=a then some (lowN (tidyN rows m k) (a+1) r (m - (a+1))) else tidyN rows m k i:=by
     rw [HNX.out]
     funext i
     unfold tidyAt
     rw [hr]
     rfl
    have hti:=HBK.out a (lowN (tidyN rows m k) (a+1) r (m - (a+1))) (by omega) (by have:=HA.out;omega) (by rw [hnx];exact if_pos rfl)
    clear hL hst hcast
    generalize lowN (tidyN rows m k) (a+1) r (m - (a+1))=r' at *
    have HF:=hide (show r'.length=r.length∧r'.getD a 0=r.getD a 0∧(tidyN rows m (k+1)=fun i=>if i=a then some r' else tidyN rows m k i)∧(∀ j,j < r'.length→ab (r'.getD j 0) < bp S0)∧r.length=len∧VecO w wr P r N from⟨hr'l,hr'p,hnx,hti,hlen,hv⟩)
    clear hr'l hr'p hnx hti hlen hv hr HNX HEK HBK
    go_wp2_with fail
    refine HL.out.mono ?_
    rintro e w1 ⟨v,rfl,hlow⟩
    obtain⟨P',rfl,HV,hP'⟩:∃ P',v=.slice (some ⟨P',0,none⟩) r'.length r'.length∧Hid (VecO w w1 P' r' S0)∧P'≠sb:=by
     obtain⟨h1,h2,h3,h4,h5,h6⟩:=HF.out
     have hvt:=hlow.vec.tight h4
     rcases hlow.own with rfl |⟨P',rfl,ho⟩
     ·have h7:=h6.later hlow.below
      rw [← h1] at hvt
      exact⟨P,by rw [h1],hide ⟨hvt,h7.low,h7.below,h7.blk⟩,hP⟩
     ·exact⟨P',rfl,hide ⟨hvt,Nat.le_trans HI.out.below.size ho.low,HI.out.below.trans (ho.below.mono HI.out.below.size),ho.blk⟩,by have:=ho.low;omega⟩
    have HI1:=hide (HI.out.later hlow.below)
    have c1:=(hlow.below.cell (p:=⟨sb,a,none⟩) lsb).trans c0
    have hfz:=HI1.out.thaw a
    have HN:Hid (StairO w (w1.setCell ⟨sb,a,none⟩ (.slice (some ⟨P',0,none⟩) r'.length r'.length)) sb m (tidyN rows m (k+1)) len (tb m S0 N (k+1))):=by
     obtain⟨h1,h2,h3,h4,h5,h6⟩:=HF.out
     have:=HI1.out.set ham HV.out hP' (h1.trans h5) (by rw [h2];exact hpos)
     rw [← h3] at this
     refine hide (this.mono fun i hi _=>?_)
     have:=HA.out
     unfold tb
     by_cases hia:i=a
     ·rw [if_pos hia,if_pos (by omega)];exact Nat.le_refl _
     ·rw [if_neg hia]
      by_cases h7:m - k≤i
      ·rw [if_pos h7,if_pos (by omega)];exact Nat.le_refl _
      ·rw [if_neg h7,if_neg (by omega)];exact Nat.le_refl _
    clear hlow HF HL HI HI1 HV c0 hbo hpos hP hP'
    go_wp2
    go_roundw
    case rel=>exact⟨k+1,by omega,by go_num,HN⟩
    case measure=>simp [intOf];omega
  ·obtain rfl:k=m:=by omega
   have HN:=hide (HI.out.mono (ns':=fun _=>S0) fun i hi _=>by unfold tb;rw [if_pos (by omega)];exact Nat.le_refl _)
   go_wp2
   exact bodyPost_end (results_none rfl _ _ _) rfl ⟨rfl,HN.out⟩
def RowsOf (R:Nat→Option (List Int)):List Int→Prop:=fun v=>∃ i,R i=some v
def RowsOr (R:Nat→Option (List Int))(zs:List Int):List Int→Prop:=fun v=>(∃ i,R i=some v)∨v=zs
def Alikes (len:Nat)(S T:List Int→Prop):Prop:=∀ x,Gens len S x↔Gens len T x
theorem Alikes.of {len:Nat}{S T:List Int→Prop}(h:∀ v,S v→v.length=len→Gens len T v)(h':∀ v,T v→v.length=len→Gens len S v):Alikes len S T:=
 fun _=>⟨fun hx=>hx.trans h,fun hx=>hx.trans h'⟩
theorem Alikes.trans {len:Nat}{S T U:List Int→Prop}(h:Alikes len S T)(h':Alikes len T U):Alikes len S U:=fun x=>(h x).trans (h' x)
theorem Alikes.symm {len:Nat}{S T:List Int→Prop}(h:Alikes len S T):Alikes len T S:=fun x=>(h x).symm
theorem zhe {R:Nat→Option (List Int)}{len f:Nat}{zs:List Int}(hl:∀ i r,R i=some r→r.length=len)(hz:zs.length=len)(k:Nat):Alikes len (RowsOr R (lowN R f zs k)) (RowsOr R zs):=by
 refine .of (fun v hv hvl=>?_) (fun v hv hvl=>?_)
 ·rcases hv with h | rfl
  ·exact .base (.inl h) hvl
  ·exact Gens.lowN (.base (.inr rfl) hz) (fun i r _ e=>.base (.inl ⟨i,e⟩) (hl i r e)) k
 ·rcases hv with h | rfl
  ·exact .base (.inl h) hvl
  ·exact Gens.unlowN hvl (fun i r _ e=>.base (.inl ⟨i,e⟩) (hl i r e)) k (.base (.inr rfl) (zdD R f _ hvl (fun i r _ e=>hl i r e) k))
def putRow (R:Nat→Option (List Int))(k:Nat)(r:List Int):Nat→Option (List Int):=fun i=>if i=k then some r else R i
theorem zer {R:Nat→Option (List Int)}{len k:Nat}{us vs:List Int}(hk:R k=some us)(hl:us.length=len)(hz:vs.length=len){p q g x y s t:Int}(hg:0 < g)(h1:g=x * p+y * q)(h2:p=s * g)(h3:q=t * g):
  Alikes len (RowsOr (putRow R k (List.zipWith (fun a b=>x * a+y * b) us vs)) (List.zipWith (fun b a=>s * b+-t * a) vs us)) (RowsOr R vs):=by
 have hlv:us.length=vs.length:=hl.trans hz.symm
 have l1:=(zk (fun a b=>x * a+y * b) us vs hlv).trans hl
 have l2:=(zk (fun b a=>s * b+-t * a) vs us hlv.symm).trans hz
 obtain⟨b1,b2⟩:=ziM hlv hg h1 h2 h3
 refine .of (fun v hv hvl=>?_) (fun v hv hvl=>?_)
 ·have gu:Gens len (RowsOr R vs) us:=.base (.inl ⟨k,hk⟩) hl
  have gv:Gens len (RowsOr R vs) vs:=.base (.inr rfl) hz
  rcases hv with⟨i,e⟩ | rfl
  ·unfold putRow at e
   by_cases hi:i=k
   ·rw [if_pos hi] at e
    obtain rfl:=Option.some.inj e
    exact .comb x y gu gv
   ·rw [if_neg hi] at e
    exact .base (.inl ⟨i,e⟩) hvl
  ·exact .comb s (-t) gv gu
 ·have ga:=Gens.base (len:=len) (S:=RowsOr (putRow R k (List.zipWith (fun a b=>x * a+y * b) us vs)) (List.zipWith (fun b a=>s * b+-t * a) vs us)) (.inl ⟨k,if_pos rfl⟩) l1
  have gb:=Gens.base (len:=len) (S:=RowsOr (putRow R k (List.zipWith (fun a b=>x * a+y * b) us vs)) (List.zipWith (fun b a=>s * b+-t * a) vs us)) (.inr rfl) l2
  rcases hv with⟨i,e⟩ | rfl
  ·by_cases hi:i=k
   ·rw [hi,hk] at e
    obtain rfl:=Option.some.inj e
    have:=Gens.comb s (-y) ga gb
    rwa [b1] at this
   ·exact .base (.inl ⟨i,(if_neg hi).trans e⟩) hvl
  ·have:=Gens.comb t x ga gb
   rwa [b2] at this
theorem zbt {zs:List Int}{z:Int}:zs.map (z * ·)=List.zipWith (fun a b=>z * a+0 * b) zs zs:=by
 induction zs with
 | nil=>rfl
 | cons a zs ih=>rw [List.map_cons,List.zipWith_cons_cons,← ih,Int.zero_mul,Int.add_zero]
theorem zes {R:Nat→Option (List Int)}{len k:Nat}{zs:List Int}(hk:R k=none)(hz:zs.length=len){z:Int}(h1:z=1∨z=-1):Alikes len (RowsOf (putRow R k (zs.map (z * ·)))) (RowsOr R zs):=by
 refine .of (fun v hv hvl=>?_) (fun v hv hvl=>?_)
 ·obtain⟨i,e⟩:=hv
  unfold putRow at e
  by_cases hi:i=k
  ·rw [if_pos hi] at e
   obtain rfl:=Option.some.inj e
   rw [zbt]
   exact .comb z 0 (.base (.inr rfl) hz) (.base (.inr rfl) hz)
  ·rw [if_neg hi] at e
   exact .base (.inl ⟨i,e⟩) hvl
 ·rcases hv with⟨i,e⟩ | rfl
  ·have hi:i≠k:=fun h=>by rw [h,hk] at e;cases e
   exact .base ⟨i,(if_neg hi).trans e⟩ hvl
  ·have g:Gens len (RowsOf (putRow R k (v.map (z * ·)))) (v.map (z * ·)):=.base ⟨k,if_pos rfl⟩ (by simpa using hz)
   have:=Gens.comb z 0 g g
   rw [← zbt,List.map_map] at this
   have e:(fun a:Int=>z * a) ∘ (fun a=>z * a)=id:=by
    funext a
    rcases h1 with rfl | rfl <;> simp
   have e':v.map ((fun x=>z * x) ∘ fun x=>z * x)=v:=by rw [e];simp
   rwa [e'] at this
theorem zeq {R:Nat→Option (List Int)}{len:Nat}{zs:List Int}(hz:zs.length=len)(h0:∀ j,j < len→zs.getD j 0=0):Alikes len (RowsOf R) (RowsOr R zs):=by
 refine .of (fun v hv hvl=>.base (.inl hv) hvl) (fun v hv hvl=>?_)
 rcases hv with h | rfl
 ·exact .base h hvl
 ·have e:v=List.replicate len 0:=zy (by simpa using hz) (fun k hk=>by
   rw [h0 k (by omega),List.getD_eq_getElem?_getD,List.getElem?_replicate]
   split <;> rfl)
  rw [e]
  exact .zero
theorem zhh {rows:Nat→Option (List Int)}{len m a:Nat}(h:Ech rows len m):Alikes len (RowsOf (tidyAt rows m a)) (RowsOf rows):=by
 cases hr:rows a with
 | none=>
  have e:tidyAt rows m a=rows:=by
   funext i
   unfold tidyAt
   by_cases hi:i=a
   ·rw [if_pos hi,hi,hr];rfl
   ·rw [if_neg hi]
  rw [e]
  exact fun _=>Iff.rfl
 | some r=>
  have hl:=h.len _ _ hr
  have key:∀ i,tidyAt rows m a i=if i=a then some (lowN rows (a+1) r (m - (a+1))) else rows i:=fun i=>by unfold tidyAt;rw [hr];rfl
  refine .of (fun v hv hvl=>?_) (fun v hv hvl=>?_)
  ·obtain⟨i,e⟩:=hv
   rw [key] at e
   by_cases hi:i=a
   ·rw [if_pos hi] at e
    obtain rfl:=Option.some.inj e
    exact Gens.lowN (.base ⟨a,hr⟩ hl) (fun i r _ e=>.base ⟨i,e⟩ (h.len i r e)) _
   ·rw [if_neg hi] at e
    exact .base ⟨i,e⟩ hvl
  ·obtain⟨i,e⟩:=hv
   by_cases hi:i=a
   ·rw [hi,hr] at e
    obtain rfl:=Option.some.inj e
    refine Gens.unlowN (rows:=rows) (f:=a+1) hvl (fun i' r' hi' e'=>.base ⟨i',?_⟩ (h.len i' r' e')) (m - (a+1)) (.base ⟨a,?_⟩ (zdD rows (a+1) r hl (fun i r _ e=>h.len i r e) _))
    ·rw [key,if_neg (by omega)];exact e'
    ·rw [key,if_pos rfl]
   ·exact .base ⟨i,by rw [key,if_neg hi];exact e⟩ hvl
theorem zeu {rows:Nat→Option (List Int)}{len m:Nat}(h:Ech rows len m)(hm:m≤len)(k:Nat):Alikes len (RowsOf (tidyN rows m k)) (RowsOf rows):=by
 induction k with
 | zero=>exact fun _=>Iff.rfl
 | succ k ih=>exact(zhh (h.all hm k)).trans ih
end Go.Proofs.YtdedolkgcdlmeaaGreatDoor
