import Derived.Test.YtncamilanceahaaGreatGens
set_option maxRecDepth 100000
set_option maxHeartbeats 4000000
namespace Go.Proofs.YtncamilanceahaaGreat
open Go.RowKit Limbs
variable{len m sb k n f P a S0:Nat}{w W:World}{zs us r:List Int}{ns:Nat→Nat}{u x v:Value}{z:Int}
theorem VecN.other{b off cap:Nat}(h:VecN W (.slice (some ⟨b,off,none⟩) zs.length cap) zs n)(hne:b≠sb)(hp:W.cell? ⟨sb,k,none⟩=some u)(hu:∀ z,u≠.int .u32 z):
  VecN (W.setCell ⟨sb,k,none⟩ x) (.slice (some ⟨b,off,none⟩) zs.length cap) zs n:=by
 obtain⟨ao,cap',e,h1,h2⟩:=h;simp only [zV,true_and] at e;obtain⟨rfl,rfl⟩:=e;refine⟨_,_,rfl,h1,fun h0=>?_⟩;obtain⟨b',off',e,hlt,hc⟩:=h2 h0;simp only [Option.some.injEq,Addr.mk.injEq,and_true] at e;obtain⟨rfl,rfl⟩:=e;refine⟨_,_,rfl,by simpa using hlt,fun i hi=>?_⟩;obtain⟨neg,o,l,c,h3,h4,h5⟩:=hc i hi;exact⟨neg,o,l,c,(World.cell?_setCell_other (h:=fun e=>by simp at e <;> omega) ..).trans h3,(World.cell?_setCell_other (h:=fun e=>by simp at e <;> omega) ..).trans h4,h5.setCell hp hu⟩
theorem VecO.other(h:VecO w W P zs n)(hne:P≠sb)(hlow:w.heap.size≤sb)(hp:W.cell? ⟨sb,k,none⟩=some u)(hu:∀ z,u≠.int .u32 z):
  VecO w (W.setCell ⟨sb,k,none⟩ x) P zs n where
 vec:=h.vec.other hne hp hu
 low:=h.low
 below:=h.below.setCell hlow _
 blk:=by
  obtain⟨cs,e⟩:=h.blk;exact⟨cs,(heap_setCell_other W ⟨sb,k,none⟩ P x hne).trans e⟩
structure StairO (w W:World)(sb m:Nat)(rows:Nat→Option (List Int))(len:Nat)(ns:Nat→Nat):Prop where
 lt:sb<W.heap.size
 low:w.heap.size≤sb
 below:Below w.heap.size w W
 blk:∃ cs t,W.heap[sb]?=some (.cells cs t)
 nil:∀ i,i<m→rows i=none→W.cell? ⟨sb,i,none⟩=some (.slice none 0 0)
 row:∀ i,i<m→∀ r,rows i=some r→∃ P,W.cell? ⟨sb,i,none⟩=some (.slice (some ⟨P,0,none⟩) r.length r.length)∧VecO w W P r (ns i)∧P≠sb∧r.length=len∧0<r.getD i 0
theorem StairO.stair{rows:Nat→Option (List Int)}(h:StairO w W sb m rows len ns)(hn:∀ i,f≤i→i<m→ns i≤n):Stair W sb f m rows len n where
 lt:=h.lt
 nil:=fun i _ hi e=>h.nil i hi e
 row:=fun i hf hi r e=>by
  obtain⟨P,hc,hv,-,h1,h2⟩:=h.row i hi r e;exact⟨P,0,r.length,hc,hv.vec.mono (hn i hf hi),h1,h2⟩
theorem StairO.later{W':World}{rows:Nat→Option (List Int)}(h:StairO w W sb m rows len ns)(hb:Below W.heap.size W W'):StairO w W' sb m rows len ns where
 lt:=zT h.lt hb.size
 low:=h.low
 below:=h.below.trans (hb.mono h.below.size)
 blk:=by obtain⟨cs,t,e⟩:=h.blk;exact⟨cs,t,(hb.block _ h.lt).trans e⟩
 nil:=fun i hi e=>(hb.cell (p:=⟨sb,i,none⟩) h.lt).trans (h.nil i hi e)
 row:=fun i hi r e=>by
  obtain⟨P,hc,hv,h0,h1,h2⟩:=h.row i hi r e;exact⟨P,(hb.cell (p:=⟨sb,i,none⟩) h.lt).trans hc,hv.later hb,h0,h1,h2⟩
theorem StairO.mono{rows:Nat→Option (List Int)}{ns':Nat→Nat}(h:StairO w W sb m rows len ns)(hn:∀ i,i<m→rows i≠none→ns i≤ns' i):StairO w W sb m rows len ns':=
 ⟨h.lt,h.low,h.below,h.blk,h.nil,fun i hi r e=>by
  obtain⟨P,hc,hv,h0,h1,h2⟩:=h.row i hi r e;exact⟨P,hc,⟨hv.vec.mono (hn i hi (by rw [e];exact fun h=>by cases h)),hv.low,hv.below,hv.blk⟩,h0,h1,h2⟩⟩
theorem StairO.cell{rows:Nat→Option (List Int)}(h:StairO w W sb m rows len ns){i:Nat}(hi:i<m):∃ o l c,W.cell? ⟨sb,i,none⟩=some (.slice o l c):=by
 cases e:rows i with
 | none=>exact⟨_,_,_,h.nil i hi e⟩
 | some r=>obtain⟨P,hc,-⟩:=h.row i hi r e;exact⟨_,_,_,hc⟩
theorem StairO.thaw{rows:Nat→Option (List Int)}(h:StairO w W sb m rows len ns)(k:Nat):W.frozen? ⟨sb,k,none⟩=false:=by
 obtain⟨cs,t,e⟩:=h.blk;simp [World.frozen?,e]
theorem StairO.set{rows:Nat→Option (List Int)}(h:StairO w W sb m rows len ns)(hk:k<m)(hv:VecO w W P r n)(hP:P≠sb)(hl:r.length=len)(hp:0<r.getD k 0):
  StairO w (W.setCell ⟨sb,k,none⟩ (.slice (some ⟨P,0,none⟩) r.length r.length)) sb m (fun i=>if i=k then some r else rows i) len (fun i=>if i=k then n else ns i):=by
 obtain⟨o,l,c,hc⟩:=h.cell hk;have hu:∀ z,Value.slice o l c≠.int .u32 z:=fun z e=>by cases e
 have oth:∀ i u,i≠k→W.cell? ⟨sb,i,none⟩=some u→(W.setCell ⟨sb,k,none⟩ (.slice (some ⟨P,0,none⟩) r.length r.length)).cell? ⟨sb,i,none⟩=some u:=fun i u hi e=>
  (World.cell?_setCell_other (h:=fun e=>by simp at e <;> omega) ..).trans e
 refine⟨by simpa using h.lt,h.low,h.below.setCell h.low _,?_,?_,?_⟩
 ·obtain⟨cs,t,e⟩:=h.blk;exact⟨_,_,heap_setCell_same W sb k _ _ _ e⟩
 ·intro i hi e;by_cases hik:i=k
  ·rw [if_pos hik] at e;cases e
  ·rw [if_neg hik] at e;exact oth i _ hik (h.nil i hi e)
 ·intro i hi r' e;by_cases hik:i=k
  ·rw [if_pos hik] at e;obtain rfl:=zI e;subst hik;exact⟨P,World.cell?_setCell_same (h:=hc) ..,by rw [if_pos rfl];exact hv.other hP h.low hc hu,hP,hl,hp⟩
  ·rw [if_neg hik] at e;obtain⟨P',hc',hv',h0,h1,h2⟩:=h.row i hi r' e;exact⟨P',oth i _ hik hc',by rw [if_neg hik];exact hv'.other h0 h.low hc hu,h0,h1,h2⟩
theorem zcn {rows:Nat→Option (List Int)}(hl:∀ i r,rows i=some r→r.length=us.length){j:Nat}(hj:j<us.length)(hz:∀ i r,f≤i→rows i=some r→r.getD j 0=0)(k:Nat):(lowN rows f us k).getD j 0=us.getD j 0:=by
 induction k with
 | zero=>rfl
 | succ k ih=>
  have hlk:=zbb (f:=f) hl k;unfold lowN lowAt;split
  ·exact ih
  ·rename_i r hr
   unfold lowRow;rw [zp _ _ _ (hlk.trans (hl _ r hr).symm) j (by omega),hz _ r (by omega) hr,ih];omega
def tidyAt (rows:Nat→Option (List Int))(m a:Nat):Nat→Option (List Int):=fun i=>if i=a then (rows a).map (fun r=>lowN rows (a+1) r (m-(a+1))) else rows i
def tidyN (rows:Nat→Option (List Int))(m:Nat):Nat→Nat→Option (List Int)
 | 0=>rows
 | i+1=>tidyAt (tidyN rows m i) m (m-1-i)
structure Ech (rows:Nat→Option (List Int))(len m:Nat):Prop where
 len:∀ i r,rows i=some r→r.length=len
 zero:∀ i r,rows i=some r→∀ j,j<i→r.getD j 0=0
 lt:∀ i r,rows i=some r→i<m
theorem Ech.step {rows:Nat→Option (List Int)}(h:Ech rows len m)(hm:m≤len):Ech (tidyAt rows m a) len m:=by
 have key:∀ i r,tidyAt rows m a i=some r→r.length=len∧(∀ j,j<i→r.getD j 0=0)∧i<m:=by
  intro i r e;unfold tidyAt at e;by_cases hi:i=a
  ·rw [if_pos hi] at e;subst hi;obtain⟨r0,e0,rfl⟩:=Option.map_eq_some_iff.1 e;have hl0:=h.len _ _ e0;have hlt:=h.lt _ _ e0;have hl:∀ i r,rows i=some r→r.length=r0.length:=fun i r e=>(h.len i r e).trans hl0.symm;refine⟨(zbb hl _).trans hl0,fun j hj=>?_,hlt⟩;rw [zcn hl (by omega) (fun i' r' hi' e'=>h.zero i' r' e' j (by omega))];exact h.zero _ _ e0 j hj
  ·rw [if_neg hi] at e;exact⟨h.len i r e,h.zero i r e,h.lt i r e⟩
 exact⟨fun i r e=>(key i r e).1,fun i r e=>(key i r e).2.1,fun i r e=>(key i r e).2.2⟩
theorem Ech.all {rows:Nat→Option (List Int)}(h:Ech rows len m)(hm:m≤len)(k:Nat):Ech (tidyN rows m k) len m:=by
 induction k with
 | zero=>exact h
 | succ k ih=>exact ih.step hm
theorem VecN.tight(h:VecN w v zs n)(hz:∀ j,j<zs.length→ab (zs.getD j 0)<bp m):VecN w v zs m:=by
 obtain⟨ao,cap,hv,h1,h2⟩:=h;refine⟨ao,cap,hv,h1,fun h0=>?_⟩;obtain⟨b,off,e,hlt,hc⟩:=h2 h0;refine⟨b,off,e,hlt,fun i hi=>?_⟩;obtain⟨neg,o,l,c,h3,h4,h5⟩:=hc i hi;exact⟨neg,o,l,c,h3,h4,h5.tight (hz i hi)⟩
theorem zfl (w:World):Sem.run Tryz.prog (binOp .neq 62 (.slice none 0 0) (.slice none 0 0)) w=.ok (.bool false) w:=by kernel_rfl
theorem zfo (w:World)(a:Addr)(l c:Nat):Sem.run Tryz.prog (binOp .neq 62 (.slice (some a) l c) (.slice none 0 0)) w=.ok (.bool true) w:=by kernel_rfl
def tb (m S0 N i:Nat):Nat→Nat:=fun a=>if m-i≤a then S0 else N
theorem zjL (w W:World)(sb m len S0 N:Nat)(rows:Nat→Option (List Int))(hs:StairO w W sb m rows len (fun _=>N))(he:Ech rows len m)(hm:m≤len)(h8:len≤1000)(hN:N+m *(S0+3)≤300000)
  (hB:∀ i a r,i≤m→m-i≤a→tidyN rows m i a=some r→∀ j,j<r.length→ab (r.getD j 0)<bp S0):
  Calls Tryz.prog 60 #[.slice (some ⟨sb,0,none⟩) m m] W fun e w'=>e=.returned (.tuple #[])∧StairO w w' sb m (tidyN rows m m) len (fun _=>S0):=by
 have HS:=hide hs;have HE:=hide he;have HB:=hide hB;clear hs he hB;go_enter Tryz.func60,Tryz.ntmps60;go_wp2_with fail;go_loopw [6] (fun i wr=>∃ k:Nat,k≤m∧i=.int .i64 k∧Hid (StairO w wr sb m (tidyN rows m k) len (tb m S0 N k))) (fun i _=>m-(intOf i).toNat)
 case atStart=>
  refine⟨0,Nat.zero_le _,rfl,hide (HS.out.mono fun i hi _=>?_)⟩;unfold tb;rw [if_neg (by omega)];exact Nat.le_refl _
 case round=>
  obtain⟨k,hk,rfl,HI⟩:=hrel;by_cases hkl:k<m
  ·have HNX:=hide (show tidyN rows m (k+1)=tidyAt (tidyN rows m k) m (m-1-k) from rfl);have HEK:=hide (HE.out.all hm k);have HBK:=hide (HB.out (k+1));obtain⟨a,ha⟩:∃ a,a=m-1-k:=⟨_,rfl⟩;have hac:(m:Int)-1-(k:Int)=(a:Int):=by omega
   have ham:a<m:=by omega
   rw [← ha] at HNX;have HA:=hide ha;clear ha;cases hr:tidyN rows m k a with
   | none=>
    have c0:=HI.out.nil a ham hr;have hbo:=zfl wr;have HN:Hid (StairO w wr sb m (tidyN rows m (k+1)) len (tb m S0 N (k+1))):=by
     have e:tidyN rows m (k+1)=tidyN rows m k:=by
      rw [HNX.out];funext i;unfold tidyAt;by_cases hi:i=a
      ·rw [if_pos hi,hi,hr];rfl
      ·rw [if_neg hi]
     rw [e];refine hide (HI.out.mono fun i hi hne=>?_);unfold tb;have:i≠a:=fun h=>hne (by rw [h,hr]);have:=HA.out;by_cases h1:m-k≤i
     ·rw [if_pos h1,if_pos (by omega)];exact Nat.le_refl _
     ·rw [if_neg h1,if_neg (by omega)];exact Nat.le_refl _
    clear hr HI HNX HEK HBK;go_wp2;go_roundw
    case rel=>exact⟨k+1,by omega,by go_num,HN⟩
    case measure=>simp [intOf];omega
   | some r=>
    obtain⟨P,c0,hv,hP,hlen,hpos⟩:=HI.out.row a ham r hr;have hbo:=zfo wr ⟨P,0,none⟩ r.length r.length;have lsb:=HI.out.lt;have htb:tb m S0 N k a=N:=by unfold tb;rw [if_neg (by have:=HA.out;omega)]
    rw [htb] at hv;clear htb;have hcast:((a+1:Nat):Int)=(a:Int)+1:=by omega
    have hst:Stair wr sb (a+1) m (tidyN rows m k) r.length S0:=by
     rw [hlen];exact HI.out.stair (fun i hf hi=>by unfold tb;rw [if_pos (by have:=HA.out;omega)];exact Nat.le_refl _)
    have hcap:N+m *(S0+3)≤300000:=hN;have hL:=zeK wr sb m (a+1) N S0 (tidyN rows m k) (.slice (some ⟨P,0,none⟩) r.length r.length) r hst (fun i r' e=>(HEK.out.len i r' e).trans hlen.symm) hv.vec (by omega) (by omega) (by omega) (by omega);rw [hcast] at hL;have HL:=hide hL;have hr'l:(lowN (tidyN rows m k) (a+1) r (m-(a+1))).length=r.length:=zbb (fun i r' e=>(HEK.out.len i r' e).trans hlen.symm) _;have hr'p:(lowN (tidyN rows m k) (a+1) r (m-(a+1))).getD a 0=r.getD a 0:=zcn (fun i r' e=>(HEK.out.len i r' e).trans hlen.symm) (by omega) (fun i r' hi e=>HEK.out.zero i r' e a (by omega)) _;have hnx:tidyN rows m (k+1)=fun i=>if i=a then some (lowN (tidyN rows m k) (a+1) r (m-(a+1))) else tidyN rows m k i:=by
     rw [HNX.out];funext i;unfold tidyAt;rw [hr];rfl
    have hti:=HBK.out a (lowN (tidyN rows m k) (a+1) r (m-(a+1))) (by omega) (by have:=HA.out;omega) (by rw [hnx];exact if_pos rfl);clear hL hst hcast;generalize lowN (tidyN rows m k) (a+1) r (m-(a+1))=r' at *;have HF:=hide (show r'.length=r.length∧r'.getD a 0=r.getD a 0∧(tidyN rows m (k+1)=fun i=>if i=a then some r' else tidyN rows m k i)∧(∀ j,j<r'.length→ab (r'.getD j 0)<bp S0)∧r.length=len∧VecO w wr P r N from⟨hr'l,hr'p,hnx,hti,hlen,hv⟩);clear hr'l hr'p hnx hti hlen hv hr HNX HEK HBK;go_wp2_with fail;refine HL.out.mono ?_;rintro e w1 ⟨v,rfl,hlow⟩;obtain⟨P',rfl,HV,hP'⟩:∃ P',v=.slice (some ⟨P',0,none⟩) r'.length r'.length∧Hid (VecO w w1 P' r' S0)∧P'≠sb:=by
     obtain⟨h1,h2,h3,h4,h5,h6⟩:=HF.out;have hvt:=hlow.vec.tight h4;rcases hlow.own with rfl |⟨P',rfl,ho⟩
     ·have h7:=h6.later hlow.below;rw [← h1] at hvt;exact⟨P,by rw [h1],hide ⟨hvt,h7.low,h7.below,h7.blk⟩,hP⟩
     ·exact⟨P',rfl,hide ⟨hvt,Nat.le_trans HI.out.below.size ho.low,HI.out.below.trans (ho.below.mono HI.out.below.size),ho.blk⟩,by have:=ho.low;omega⟩
    have HI1:=hide (HI.out.later hlow.below);have c1:=(hlow.below.cell (p:=⟨sb,a,none⟩) lsb).trans c0;have hfz:=HI1.out.thaw a;have HN:Hid (StairO w (w1.setCell ⟨sb,a,none⟩ (.slice (some ⟨P',0,none⟩) r'.length r'.length)) sb m (tidyN rows m (k+1)) len (tb m S0 N (k+1))):=by
     obtain⟨h1,h2,h3,h4,h5,h6⟩:=HF.out;have:=HI1.out.set ham HV.out hP' (h1.trans h5) (by rw [h2];exact hpos);rw [← h3] at this;refine hide (this.mono fun i hi _=>?_);have:=HA.out;unfold tb;by_cases hia:i=a
     ·rw [if_pos hia,if_pos (by omega)];exact Nat.le_refl _
     ·rw [if_neg hia];by_cases h7:m-k≤i
      ·rw [if_pos h7,if_pos (by omega)];exact Nat.le_refl _
      ·rw [if_neg h7,if_neg (by omega)];exact Nat.le_refl _
    clear hlow HF HL HI HI1 HV c0 hbo hpos hP hP';go_wp2;go_roundw
    case rel=>exact⟨k+1,by omega,by go_num,HN⟩
    case measure=>simp [intOf];omega
  ·obtain rfl:k=m:=by omega
   have HN:=hide (HI.out.mono (ns':=fun _=>S0) fun i hi _=>by unfold tb;rw [if_pos (by omega)];exact Nat.le_refl _);go_wp2;exact bodyPost_end (results_none rfl _ _ _) rfl ⟨rfl,HN.out⟩
def RowsOf (R:Nat→Option (List Int)):List Int→Prop:=fun v=>∃ i,R i=some v
def RowsOr (R:Nat→Option (List Int))(zs:List Int):List Int→Prop:=fun v=>(∃ i,R i=some v)∨v=zs
def Alikes (len:Nat)(S T:List Int→Prop):Prop:=∀ x,Gens len S x↔Gens len T x
theorem Alikes.of{S T:List Int→Prop}(h:∀ v,S v→v.length=len→Gens len T v)(h':∀ v,T v→v.length=len→Gens len S v):Alikes len S T:=
 fun _=>⟨fun hx=>hx.trans h,fun hx=>hx.trans h'⟩
theorem Alikes.trans{S T U:List Int→Prop}(h:Alikes len S T)(h':Alikes len T U):Alikes len S U:=fun x=>(h x).trans (h' x)
theorem Alikes.symm{S T:List Int→Prop}(h:Alikes len S T):Alikes len T S:=fun x=>(h x).symm
theorem zfT {R:Nat→Option (List Int)}(hl:∀ i r,R i=some r→r.length=len)(hz:zs.length=len)(k:Nat):Alikes len (RowsOr R (lowN R f zs k)) (RowsOr R zs):=by
 refine .of (fun v hv hvl=>?_) (fun v hv hvl=>?_)
 ·rcases hv with h | rfl
  ·exact .base (.inl h) hvl
  ·exact Gens.lowN (.base (.inr rfl) hz) (fun i r _ e=>.base (.inl ⟨i,e⟩) (hl i r e)) k
 ·rcases hv with h | rfl
  ·exact .base (.inl h) hvl
  ·exact Gens.unlowN hvl (fun i r _ e=>.base (.inl ⟨i,e⟩) (hl i r e)) k (.base (.inr rfl) (zc9 R f _ hvl (fun i r _ e=>hl i r e) k))
def putRow (R:Nat→Option (List Int))(k:Nat)(r:List Int):Nat→Option (List Int):=fun i=>if i=k then some r else R i
theorem zdS {R:Nat→Option (List Int)}{vs:List Int}(hk:R k=some us)(hl:us.length=len)(hz:vs.length=len){p q g x y s t:Int}(hg:0<g)(h1:g=x*p+y*q)(h2:p=s*g)(h3:q=t*g):
  Alikes len (RowsOr (putRow R k (List.zipWith (fun a b=>x*a+y*b) us vs)) (List.zipWith (fun b a=>s*b+-t*a) vs us)) (RowsOr R vs):=by
 have hlv:us.length=vs.length:=hl.trans hz.symm;have l1:=(zz (fun a b=>x*a+y*b) us vs hlv).trans hl;have l2:=(zz (fun b a=>s*b+-t*a) vs us hlv.symm).trans hz;obtain⟨b1,b2⟩:=zhy hlv hg h1 h2 h3;refine .of (fun v hv hvl=>?_) (fun v hv hvl=>?_)
 ·have gu:Gens len (RowsOr R vs) us:=.base (.inl ⟨k,hk⟩) hl;have gv:Gens len (RowsOr R vs) vs:=.base (.inr rfl) hz;rcases hv with⟨i,e⟩ | rfl
  ·unfold putRow at e;by_cases hi:i=k
   ·rw [if_pos hi] at e;obtain rfl:=zI e;exact .comb x y gu gv
   ·rw [if_neg hi] at e;exact .base (.inl ⟨i,e⟩) hvl
  ·exact .comb s (-t) gv gu
 ·have ga:=Gens.base (len:=len) (S:=RowsOr (putRow R k (List.zipWith (fun a b=>x*a+y*b) us vs)) (List.zipWith (fun b a=>s*b+-t*a) vs us)) (.inl ⟨k,if_pos rfl⟩) l1;have gb:=Gens.base (len:=len) (S:=RowsOr (putRow R k (List.zipWith (fun a b=>x*a+y*b) us vs)) (List.zipWith (fun b a=>s*b+-t*a) vs us)) (.inr rfl) l2;rcases hv with⟨i,e⟩ | rfl
  ·by_cases hi:i=k
   ·rw [hi,hk] at e;obtain rfl:=zI e;have:=Gens.comb s (-y) ga gb
    rwa [b1] at this
   ·exact .base (.inl ⟨i,(if_neg hi).trans e⟩) hvl
  ·have:=Gens.comb t x ga gb
   rwa [b2] at this
theorem zbJ:zs.map (z*·)=List.zipWith (fun a b=>z*a+0*b) zs zs:=by
 induction zs with
 | nil=>rfl
 | cons a zs ih=>rw [List.map_cons,List.zipWith_cons_cons,← ih,Int.zero_mul,Int.add_zero]
theorem zdT {R:Nat→Option (List Int)}(hk:R k=none)(hz:zs.length=len)(h1:z=1∨z=-1):Alikes len (RowsOf (putRow R k (zs.map (z*·)))) (RowsOr R zs):=by
 refine .of (fun v hv hvl=>?_) (fun v hv hvl=>?_)
 ·obtain⟨i,e⟩:=hv;unfold putRow at e;by_cases hi:i=k
  ·rw [if_pos hi] at e;obtain rfl:=zI e;rw [zbJ];exact .comb z 0 (.base (.inr rfl) hz) (.base (.inr rfl) hz)
  ·rw [if_neg hi] at e;exact .base (.inl ⟨i,e⟩) hvl
 ·rcases hv with⟨i,e⟩ | rfl
  ·have hi:i≠k:=fun h=>by rw [h,hk] at e;cases e
   exact .base ⟨i,(if_neg hi).trans e⟩ hvl
  ·have g:Gens len (RowsOf (putRow R k (v.map (z*·)))) (v.map (z*·)):=.base ⟨k,if_pos rfl⟩ (by simpa using hz);have:=Gens.comb z 0 g g;rw [← zbJ,List.map_map] at this;have e:(fun a:Int=>z*a) ∘ (fun a=>z*a)=id:=by
    funext a;rcases h1 with rfl | rfl <;> simp
   have e':v.map ((fun x=>z*x) ∘ fun x=>z*x)=v:=by rw [e];simp
   rwa [e'] at this
theorem zdR {R:Nat→Option (List Int)}(hz:zs.length=len)(h0:∀ j,j<len→zs.getD j 0=0):Alikes len (RowsOf R) (RowsOr R zs):=by
 refine .of (fun v hv hvl=>.base (.inl hv) hvl) (fun v hv hvl=>?_);rcases hv with h | rfl
 ·exact .base h hvl
 ·have e:v=List.replicate len 0:=zbH (by simpa using hz) (fun k hk=>by
   rw [h0 k (by omega),zG,List.getElem?_replicate];split <;> rfl)
  rw [e];exact .zero
theorem zfV {rows:Nat→Option (List Int)}(h:Ech rows len m):Alikes len (RowsOf (tidyAt rows m a)) (RowsOf rows):=by
 cases hr:rows a with
 | none=>
  have e:tidyAt rows m a=rows:=by
   funext i;unfold tidyAt;by_cases hi:i=a
   ·rw [if_pos hi,hi,hr];rfl
   ·rw [if_neg hi]
  rw [e];exact fun _=>Iff.rfl
 | some r=>
  have hl:=h.len _ _ hr;have key:∀ i,tidyAt rows m a i=if i=a then some (lowN rows (a+1) r (m-(a+1))) else rows i:=fun i=>by unfold tidyAt;rw [hr];rfl
  refine .of (fun v hv hvl=>?_) (fun v hv hvl=>?_)
  ·obtain⟨i,e⟩:=hv;rw [key] at e;by_cases hi:i=a
   ·rw [if_pos hi] at e;obtain rfl:=zI e;exact Gens.lowN (.base ⟨a,hr⟩ hl) (fun i r _ e=>.base ⟨i,e⟩ (h.len i r e)) _
   ·rw [if_neg hi] at e;exact .base ⟨i,e⟩ hvl
  ·obtain⟨i,e⟩:=hv;by_cases hi:i=a
   ·rw [hi,hr] at e;obtain rfl:=zI e;refine Gens.unlowN (rows:=rows) (f:=a+1) hvl (fun i' r' hi' e'=>.base ⟨i',?_⟩ (h.len i' r' e')) (m-(a+1)) (.base ⟨a,?_⟩ (zc9 rows (a+1) r hl (fun i r _ e=>h.len i r e) _))
    ·rw [key,if_neg (by omega)];exact e'
    ·rw [key,if_pos rfl]
   ·exact .base ⟨i,by rw [key,if_neg hi];exact e⟩ hvl
theorem zdV {rows:Nat→Option (List Int)}(h:Ech rows len m)(hm:m≤len)(k:Nat):Alikes len (RowsOf (tidyN rows m k)) (RowsOf rows):=by
 induction k with
 | zero=>exact fun _=>Iff.rfl
 | succ k ih=>exact(zfV (h.all hm k)).trans ih
def nbK (m S0 nv:Nat):Nat→Nat
 | 0=>nv
 | k+1=>nbK m S0 nv k+(m-k+1) *(S0+3)
theorem zde{nv l:Nat}(h:k≤l):nbK m S0 nv k≤nbK m S0 nv l:=by
 induction l with
 | zero => obtain rfl : k = 0 := by omega
           exact Nat.le_refl _
 | succ l ih=>
  by_cases e:k=l+1
  ·rw [e];exact Nat.le_refl _
  ·exact Nat.le_trans (ih (by omega)) (Nat.le_add_right _ _)
structure InsV (w wr:World)(sb m S0 BIG n k:Nat)(rows R:Nat→Option (List Int))(us zs:List Int)(v:Value):Prop where
 st:StairO w wr sb m R m (fun a=>if a<k then BIG else S0)
 same:∀ a,k≤a→R a=rows a
 ech:Ech R m m
 zero:∀ j,j<k→zs.getD j 0=0
 vec:VecN wr v zs n
 off:∀ b o l c,v=.slice (some ⟨b,o,none⟩) l c→b≠sb
 len:zs.length=m
 gen:Alikes m (RowsOr R zs) (RowsOr rows us)
theorem InsV.later{wr w':World}{BIG:Nat}{rows R:Nat→Option (List Int)}(h:InsV w wr sb m S0 BIG n k rows R us zs v)(hb:Below wr.heap.size wr w'):InsV w w' sb m S0 BIG n k rows R us zs v:=
 ⟨h.st.later hb,h.same,h.ech,h.zero,h.vec.below hb zL,h.off,h.len,h.gen⟩
theorem Ech.set {R:Nat→Option (List Int)}(h:Ech R len m)(hl:r.length=len)(hz:∀ j,j<k→r.getD j 0=0)(hk:k<m):Ech (putRow R k r) len m:=by
 have key:∀ i v,putRow R k r i=some v→v.length=len∧(∀ j,j<i→v.getD j 0=0)∧i<m:=by
  intro i v e;unfold putRow at e;by_cases hi:i=k
  ·rw [if_pos hi] at e;obtain rfl:=zI e;exact⟨hl,by rw [hi];exact hz,by omega⟩
  ·rw [if_neg hi] at e;exact⟨h.len i v e,h.zero i v e,h.lt i v e⟩
 exact⟨fun i r e=>(key i r e).1,fun i r e=>(key i r e).2.1,fun i r e=>(key i r e).2.2⟩
theorem zh2 (w W:World)(sb m S0 nv:Nat)(rows:Nat→Option (List Int))(va:Value)(us:List Int)(hs:StairO w W sb m rows m (fun _=>S0))(he:Ech rows m m)(ha:VecN W va us nv)(hul:us.length=m)(hoff:∀ b o l c,va=.slice (some ⟨b,o,none⟩) l c→b≠sb)(h8:m≤1000)(hN:nbK m S0 nv m≤119000):
  Calls Tryz.prog 59 #[.slice (some ⟨sb,0,none⟩) m m,va] W fun e w'=>e=.returned (.tuple #[])∧∃ R,StairO w w' sb m R m (fun _=>238001)∧Ech R m m∧Alikes m (RowsOf R) (RowsOr rows us):=by
 have HS:=hide hs;have HE:=hide he;have HA:=hide ha;have HOF:=hide hoff;have HUL:=hide hul;have HNB:=hide hN;clear hs he ha hoff hul hN;go_enter Tryz.func59,Tryz.ntmps59;go_wp2_with fail;go_loopw [7,1] (fun i v wr=>∃ k:Nat,k≤m∧i=.int .i64 k∧∃ R zs,Hid (InsV w wr sb m S0 238001 (nbK m S0 nv k) k rows R us zs v)) (fun i _ _=>m-(intOf i).toNat)
 case atStart=>
  exact⟨0,Nat.zero_le _,rfl,rows,us,hide ⟨HS.out.mono fun i hi _=>Nat.le_refl _,fun _ _=>rfl,HE.out,fun j hj=>absurd hj (Nat.not_lt_zero j),HA.out,HOF.out,HUL.out,fun _=>Iff.rfl⟩⟩
 case round=>
  obtain⟨k,hk,rfl,R,zs,HI⟩:=hrel;by_cases hkl:k<m
  ·have hst:=HI.out.st.stair (f:=k) (n:=S0) (fun i hf hi=>by rw [if_neg (by omega)];exact Nat.le_refl _);have HRL:=hide (fun i r e=>(HI.out.ech.len i r e).trans HI.out.len.symm);have hb:nbK m S0 nv k+(m-k+1) *(S0+3)≤119000:=Nat.le_trans (zde (show k+1≤m from hkl)) HNB.out;have h1:nbK m S0 nv 1≤119000:=Nat.le_trans (zde (show 1≤m by omega)) HNB.out;have h2:nbK m S0 nv 1=nv+(m-0+1) *(S0+3):=rfl;have h3:(m-0+1) *(S0+3)=m *(S0+3)+(S0+3):=by rw [Nat.sub_zero,Nat.succ_mul]
   have h4:(m-k+1) *(S0+3)=(m-k) *(S0+3)+(S0+3):=Nat.succ_mul _ _;have hnb1:nbK m S0 nv (k+1)=nbK m S0 nv k+(m-k+1) *(S0+3):=rfl;have HL:=hide (zeK wr sb m k (nbK m S0 nv k) S0 R u1 zs (by rw [HI.out.len];exact hst) HRL.out HI.out.vec hk (by have:=HI.out.len;omega) (by have:=HI.out.len;omega) (by omega));have HZL:=hide (zbb (f:=k) HRL.out (m-k));have HZK:=hide (fun j (hj:j<k)=>zcn (f:=k) HRL.out (j:=j) (by have:=HI.out.len;omega) (fun i r hi e=>HI.out.ech.zero i r e j (by omega)) (m-k));have HGE:=hide (zfT (f:=k) (zs:=zs) HI.out.ech.len HI.out.len (m-k));have hS:S0≤238001:=by omega
   have HNB1:=hide hnb1;clear hnb1;generalize nbK m S0 nv k=n0 at *;generalize hn1:n0+(m-k) *(S0+3)=n1 at *;clear hst h1 h2 h3 HRL;generalize lowN R k zs (m-k)=zs1 at *;go_wp2_with fail;refine HL.out.mono ?_;rintro e w1 ⟨v,rfl,hlow⟩;have I1:Hid (InsV w w1 sb m S0 238001 n1 k rows R us zs1 v):=by
    have h:=HI.out;refine hide ⟨h.st.later hlow.below,h.same,h.ech,fun j hj=>(HZK.out j hj).trans (h.zero j hj),hlow.vec,?_,HZL.out.trans h.len,HGE.out.trans h.gen⟩;rcases hlow.own with rfl |⟨P,rfl,ho⟩
    ·exact h.off
    ·intro b o l c e;simp only [zV,Option.some.injEq,Addr.mk.injEq,and_true] at e;have:=ho.low;have:=h.st.lt;omega
   clear HL HZL HZK HGE hlow HI;obtain⟨vb,voff,vcap,rfl⟩:=I1.out.vec.form (by have:=I1.out.len;omega);obtain⟨lv,an,ao,al,ac,a2,a3,na⟩:=I1.out.vec.at k (by have:=I1.out.len;omega);have NA:=hide na;have hkz:k<zs1.length:=by have:=I1.out.len;omega
   clear na;go_wp2_with fail;refine(zaT w1 _ (zs1.getD k 0) n1 (by exact NA.out)).mono ?_;rintro e w2 ⟨rfl,hb2⟩;have I2:=hide (I1.out.later hb2);have lsb:=I2.out.st.lt;clear I1 NA a2 a3 lv hb2;by_cases h0:zs1.getD k 0=0
   ·rw [decide_eq_true h0];have HN:Hid (InsV w w2 sb m S0 238001 (n0+(m-k+1) *(S0+3)) (k+1) rows R us zs1 (.slice (some ⟨vb,voff,none⟩) zs1.length vcap)):=by
     have h:=I2.out;refine hide ⟨h.st.mono fun i hi _=>?_,fun a ha=>h.same a (by omega),h.ech,fun j hj=>?_,h.vec.mono (by omega),h.off,h.len,h.gen⟩
     ·by_cases h5:i<k
      ·rw [if_pos h5,if_pos (by omega)];exact Nat.le_refl _
      ·rw [if_neg h5];split <;> omega
     ·by_cases h5:j<k
      ·exact h.zero j h5
      ·obtain rfl:j=k:=by omega
       exact h0
    clear h0 I2;go_wp2;go_roundw
    case rel=>exact⟨k+1,by omega,by go_num,R,zs1,by rw [HNB1.out];exact HN⟩
    case measure=>simp [intOf];omega
   ·rw [decide_eq_false h0];cases hr:R k with
    | none=>
     have c0:=I2.out.st.nil k hkl hr;have hbo:=zfj w2;have HZ1:Hid (∃ z:Int,(z=1∨z=-1)∧(if zs1.getD k 0<0 then -1 else 1)=z∧0<z*zs1.getD k 0):=by
      by_cases h5:zs1.getD k 0<0
      ·rw [if_pos h5];exact hide ⟨-1,.inr rfl,rfl,by omega⟩
      ·rw [if_neg h5];exact hide ⟨1,.inl rfl,rfl,by omega⟩
     go_wp2_with fail;refine(zj0 w2 _ zs1 n1 k (by exact I2.out.vec) hkz (by have:=I2.out.len;omega) (by omega)).mono ?_;rintro e w3 ⟨P,rfl,ho⟩;have c1:=(ho.below.cell (p:=⟨sb,k,none⟩) lsb).trans c0;have hfz:=(I2.out.later ho.below).st.thaw k;have lsb3:=(I2.out.later ho.below).st.lt;have HP:Hid (∃ R',StairO w (w3.setCell ⟨sb,k,none⟩ (.slice (some ⟨P,0,none⟩) zs1.length zs1.length)) sb m R' m (fun _=>238001)∧Ech R' m m∧Alikes m (RowsOf R') (RowsOr rows us)):=by
      obtain⟨z,hz1,hz2,hz3⟩:=HZ1.out;rw [hz2] at ho;have h:=I2.out.later ho.below;have hl:(zs1.map (z*·)).length=zs1.length:=zM ..;have hg:∀ j,(zs1.map (z*·)).getD j 0=z*zs1.getD j 0:=fun j=>by
       rw [zG,zG,List.getElem?_map];cases zs1[j]? <;> simp
      have hst:=h.st.set hkl (ho.since I2.out.st.below) (by have:=ho.low;omega) (hl.trans h.len) (by rw [hg];exact hz3);rw [hl] at hst;refine hide ⟨putRow R k (zs1.map (z*·)),hst.mono fun i hi _=>?_,h.ech.set (hl.trans h.len) (fun j hj=>by rw [hg,h.zero j hj,Int.mul_zero]) hkl,(zdT hr h.len hz1).trans h.gen⟩;split
      ·omega
      ·split <;> omega
     have HLM:Hid ((zs1.map ((if zs1.getD k 0<0 then -1 else 1)*·)).length=zs1.length):=hide (zM ..);clear ho I2 HZ1 h0 hr hbo c0;rw [HLM.out];go_wp2;exact bodyPost_ret (results_none rfl _ _ _) rfl ⟨rfl,HP.out⟩
    | some r=>
     obtain⟨P,c0,hv,hP,hlen,hpos⟩:=I2.out.st.row k hkl r hr;have hbo:=zfm w2 ⟨P,0,none⟩ r.length r.length;have HR:=hide hv;have HRP:=hide (show r.length=m∧0<r.getD k 0 from⟨hlen,hpos⟩);rw [if_neg (Nat.lt_irrefl _)] at HR;clear hv hlen hpos;have hkr:k<r.length:=by have:=HRP.out;omega
     go_wp2_with fail;refine(zhx w2 _ _ r zs1 k S0 n1 119000 (by exact HR.out.vec) (by exact I2.out.vec) (by have:=HRP.out;have:=I2.out.len;omega) hkr (by have:=HRP.out;omega) (by omega) (by omega) (by omega) (by omega) (by have:=HRP.out.2;omega)).mono ?_;rintro e w3 ⟨g,x,y,s,t,P1,P2,rfl,hg,e1,e2,e3,ho1,ho2⟩;have c1:=(ho1.below.cell (p:=⟨sb,k,none⟩) lsb).trans c0;have hfz:=(I2.out.later ho1.below).st.thaw k;have lsb3:=(I2.out.later ho1.below).st.lt;have HN:Hid (∃ R' zs',InsV w (w3.setCell ⟨sb,k,none⟩ (.slice (some ⟨P1,0,none⟩) r.length r.length)) sb m S0 238001 (n0+(m-k+1) *(S0+3)) (k+1) rows R' us zs' (.slice (some ⟨P2,0,none⟩) zs1.length zs1.length)):=by
      have h:=I2.out.later ho1.below;have hlr:r.length=zs1.length:=HRP.out.1.trans h.len.symm;have la:=zz (fun a b=>x*a+y*b) r zs1 hlr;have lb:=zz (fun b a=>s*b+-t*a) zs1 r hlr.symm;have hza:∀ j,j<k→(List.zipWith (fun a b=>x*a+y*b) r zs1).getD j 0=0:=fun j hj=>by
       rw [zp _ _ _ hlr j (by omega),h.ech.zero k r hr j hj,h.zero j hj];omega
      have hzb:∀ j,j<k+1→(List.zipWith (fun b a=>s*b+-t*a) zs1 r).getD j 0=0:=fun j hj=>by
       rw [zp _ _ _ hlr.symm j (by omega)];by_cases h5:j<k
       ·rw [h.ech.zero k r hr j h5,h.zero j h5];omega
       ·obtain rfl:j=k:=by omega
        have:s*zs1.getD j 0=t*r.getD j 0:=by rw [e2,e3,← Int.mul_assoc,← Int.mul_assoc,Int.mul_comm s t]
        rw [this,Int.neg_mul];omega
      have hpk:0<(List.zipWith (fun a b=>x*a+y*b) r zs1).getD k 0:=by
       rw [zp _ _ _ hlr k (by omega),← e1];exact hg
      have hst:=h.st.set hkl (ho1.since I2.out.st.below) (by have:=ho1.low;omega) (la.trans HRP.out.1) hpk;have hv2:=(ho2.since I2.out.st.below).other (x:=.slice (some ⟨P1,0,none⟩) r.length r.length) (by have:=ho2.low;omega) h.st.low c1 (fun z e=>by cases e);rw [la] at hst;have hvv:=hv2.vec;rw [lb] at hvv;refine hide ⟨putRow R k (List.zipWith (fun a b=>x*a+y*b) r zs1),List.zipWith (fun b a=>s*b+-t*a) zs1 r,hst.mono fun i hi _=>?_,fun a ha=>?_,h.ech.set (la.trans HRP.out.1) hza hkl,hzb,hvv.mono (by omega),?_,lb.trans h.len,(zdS hr HRP.out.1 h.len hg e1 e2 e3).trans h.gen⟩
      ·by_cases h5:i=k
       ·rw [if_pos h5,if_pos (by omega)];omega
       ·rw [if_neg h5];by_cases h6:i<k
        ·rw [if_pos h6,if_pos (by omega)];exact Nat.le_refl _
        ·rw [if_neg h6,if_neg (by omega)];exact Nat.le_refl _
      ·unfold putRow;rw [if_neg (by omega)];exact h.same a (by omega)
      ·intro b o l c e;simp only [zV,Option.some.injEq,Addr.mk.injEq,and_true] at e;have:=ho2.low;omega
     clear ho1 ho2 e1 e2 e3 hg I2 HR HRP hbo c0 hr h0;go_wp2;go_roundw
     case rel=>exact⟨k+1,by omega,by go_num,by rw [HNB1.out];exact HN.out.imp fun _ h=>h.imp fun _ h=>hide h⟩
     case measure=>simp [intOf];omega
  ·obtain rfl:k=m:=by omega
   have HP:=hide (show StairO w wr sb k R k (fun _=>238001)∧Ech R k k∧Alikes k (RowsOf R) (RowsOr rows us) from
    ⟨HI.out.st.mono fun i hi _=>by rw [if_pos hi];exact Nat.le_refl _,HI.out.ech,(zdR HI.out.len HI.out.zero).trans HI.out.gen⟩)
   clear HI;go_wp2;exact bodyPost_end (results_none rfl _ _ _) rfl ⟨rfl,R,HP.out⟩
end Go.Proofs.YtncamilanceahaaGreat
