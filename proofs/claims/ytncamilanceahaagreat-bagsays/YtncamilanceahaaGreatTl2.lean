import Derived.Test.YtncamilanceahaaGreatDetC
import Derived.Test.YtncamilanceahaaGreatInsert
set_option maxRecDepth 100000
set_option maxHeartbeats 1600000
set_option linter.unusedSimpArgs false
namespace Go.Proofs.YtncamilanceahaaGreat
variable{n r r':Nat}{p p':Nat→Nat}
structure Form (r n:Nat)(H:Nat→Nat→Int)(p:Nat→Nat):Prop where
 inc:∀ i k,i<k→k<r→p i<p k
 lt:∀ i,i<r→p i<n
 zero:∀ i b,i<r→b<p i→H i b=0
 pos:∀ i,i<r→0<H i (p i)
 red:∀ i k,i<k→k<r→0≤H i (p k)∧H i (p k)<H k (p k)
def Lat (m n:Nat)(M:Nat→Nat→Int)(v:Nat→Int):Prop:=∃ c:Nat→Int,∀ b,b<n→v b=sumN m (fun k=>c k*M k b)
theorem Lat.row (m n:Nat)(M:Nat→Nat→Int)(i:Nat)(hi:i<m):Lat m n M (M i):=⟨unitR i,fun b _=>(zdF m i hi M b).symm⟩
theorem Lat.comb{m:Nat}{M:Nat→Nat→Int}{u v:Nat→Int}(hu:Lat m n M u)(hv:Lat m n M v)(x y:Int):Lat m n M (fun b=>x*u b+y*v b):=by
 obtain⟨c,hc⟩:=hu;obtain⟨d,hd⟩:=hv;refine⟨fun k=>x*c k+y*d k,fun b hb=>?_⟩;show x*u b+y*v b=sumN m (fun k=>(x*c k+y*d k)*M k b);rw [hc b hb,hd b hb,← zbo,← zbo,← zdz];apply zq;intro k _;rw [Int.add_mul,Int.mul_assoc,Int.mul_assoc]
namespace Form
variable {r n:Nat}{H:Nat→Nat→Int}{p:Nat→Nat}
theorem le_pivot (F:Form r n H p){i k:Nat}(h:i≤k)(hk:k<r):p i≤p k:=by
 rcases Nat.lt_or_eq_of_le h with h | h
 ·exact Nat.le_of_lt (F.inc i k h hk)
 ·rw [h];exact Nat.le_refl _
theorem at_pivot (F:Form r n H p)(c:Nat→Int)(i:Nat)(hi:i<r)(h0:∀ k,k<i→c k=0):sumN r (fun k=>c k*H k (p i))=c i*H i (p i):=
 zbS r i hi _ fun k hk hne=>by
  rcases(by omega:k<i∨i<k) with h | h
  ·rw [h0 k h,Int.zero_mul]
  ·rw [F.zero k (p i) hk (F.inc i k h hk),Int.mul_zero]
theorem leads (F:Form r n H p){v:Nat→Int}(hv:Lat r n H v){t:Nat}(ht:t<n)(h0:∀ b,b<t→v b=0)(hne:v t≠0):∃ i c,i<r∧p i=t∧v t=c*H i t:=by
 obtain⟨c,hc⟩:=hv
 -- the first row of which something is in it
 have hex:∃ i,i<r∧(∀ k,k<i→c k=0)∧c i≠0:=by
  have key:∀ q,q≤r→(∀ k,k<q→c k=0)∨∃ i,i<r∧(∀ k,k<i→c k=0)∧c i≠0:=by
   intro q
   induction q with
   | zero=>intro _;exact .inl fun k hk=>by omega
   | succ q ih=>
    intro hq;rcases ih (by omega) with h | h
    ·by_cases hcq:c q=0
     ·exact .inl fun k hk=>by
       by_cases hkq:k=q
       ·rw [hkq];exact hcq
       ·exact h k (by omega)
     ·exact .inr ⟨q,by omega,h,hcq⟩
    ·exact .inr h
  rcases key r zL with h | h
  ·exfalso;apply hne;rw [hc t ht,zq (g:=fun _=>0) fun k hk=>by rw [h k hk,Int.zero_mul],zbp]
  ·exact h
 obtain⟨i,hi,hk,hci⟩:=hex;have hpi:v (p i)=c i*H i (p i):=by rw [hc _ (F.lt i hi)];exact F.at_pivot c i hi hk
 have hb:∀ b,b<p i→v b=0:=fun b hbp=>by
  by_cases hbn:b<n
  ·rw [hc b hbn,zq (g:=fun _=>0) fun k hkr=>?_,zbp];by_cases h:k<i
   ·rw [hk k h,Int.zero_mul]
   ·rw [F.zero k b hkr (zT hbp (F.le_pivot (by omega) hkr)),Int.mul_zero]
  ·have:=F.lt i hi;omega
 have hpt:p i=t:=by
  rcases Nat.lt_trichotomy (p i) t with h | h | h
  ·exfalso;have h1:=h0 _ h;rw [hpi] at h1;rcases Int.mul_eq_zero.1 h1 with h2 | h2
   ·exact hci h2
   ·have:=F.pos i hi;omega
  ·exact h
  ·exact absurd (hb t h) hne
 exact⟨i,c i,hi,hpt,by rw [← hpt];exact hpi⟩
end Form
theorem zfr{H H':Nat→Nat→Int}(F:Form r n H p)(F':Form r' n H' p')(hin:∀ i,i<r→Lat r' n H' (H i))(hin':∀ i,i<r'→Lat r n H (H' i)):∀ i,i<r→i<r'∧p i=p' i:=by
 have to:∀ i,i<r→∃ j,j<r'∧p' j=p i:=fun i hi=>by
  obtain⟨j,_,hj,e,-⟩:=F'.leads (hin i hi) (F.lt i hi) (fun b hb=>F.zero i b hi hb) (by have:=F.pos i hi;omega);exact⟨j,hj,e⟩
 have from':∀ i,i<r'→∃ j,j<r∧p j=p' i:=fun i hi=>by
  obtain⟨j,_,hj,e,-⟩:=F.leads (hin' i hi) (F'.lt i hi) (fun b hb=>F'.zero i b hi hb) (by have:=F'.pos i hi;omega);exact⟨j,hj,e⟩
 intro i
 induction i using Nat.strongRecOn with
 | _ i ih=>
  intro hi;obtain⟨j,hj,ej⟩:=to i hi;have hji:i≤j:=by
   rcases Nat.lt_or_ge j i with h | h
   ·have h1:=(ih j h (by omega)).2;have h2:=F.inc j i h hi;omega
   ·exact h
  have hi':i<r':=by omega
  obtain⟨k,hk,ek⟩:=from' i hi';have hki:i≤k:=by
   rcases Nat.lt_or_ge k i with h | h
   ·have h1:=(ih k h (by omega)).2;have h2:=F'.inc k i h hi';omega
   ·exact h
  have h1:=F.le_pivot hki hk;have h2:=F'.le_pivot hji hj;exact⟨hi',by omega⟩
theorem zhC{H H':Nat→Nat→Int}(F:Form r n H p)(F':Form r' n H' p')(hin:∀ i,i<r→Lat r' n H' (H i))(hin':∀ i,i<r'→Lat r n H (H' i)):
  r=r'∧∀ i,i<r→p i=p' i∧∀ b,b<n→H i b=H' i b:=by
 have hp:=zfr F F' hin hin';have hp':=zfr F' F hin' hin;have hr:r=r':=by
  rcases Nat.lt_trichotomy r r' with h | h | h
  ·have:=(hp' r h).1;omega
  ·exact h
  ·have:=(hp r' h).1;omega
 subst hr
 -- the pivots
 have hd:∀ i,i<r→H i (p i)=H' i (p i):=fun i hi=>by
  have e:=(hp i hi).2;have h1:=F.pos i hi;have h2:=F'.pos i hi;rw [← e] at h2;obtain⟨j,c,hj,ej,hc⟩:=F'.leads (hin i hi) (F.lt i hi) (fun b hb=>F.zero i b hi hb) (by omega);obtain⟨k,d,hk,ek,hd⟩:=F.leads (hin' i hi) (t:=p i) (F.lt i hi) (fun b hb=>F'.zero i b hi (by omega)) (by omega);have ji:j=i:=by
   rcases Nat.lt_trichotomy j i with h | h | h
   ·have:=F'.inc j i h hi;omega
   ·exact h
   ·have:=F'.inc i j h hj;omega
  have ki:k=i:=by
   rcases Nat.lt_trichotomy k i with h | h | h
   ·have:=F.inc k i h hi;omega
   ·exact h
   ·have:=F.inc i k h hk;omega
  rw [ji] at hc;rw [ki] at hd;generalize H i (p i)=x at *;generalize H' i (p i)=y at *;have hc0:0<c:=by
   rcases(by omega:0<c∨c≤0) with h | h
   ·exact h
   ·have:=Int.mul_nonpos_of_nonpos_of_nonneg h (by omega:0≤y);omega
  have hd0:0<d:=by
   rcases(by omega:0<d∨d≤0) with h | h
   ·exact h
   ·have:=Int.mul_nonpos_of_nonpos_of_nonneg h (by omega:0≤x);omega
  have h3:y≤c*y:=by
   have:=Int.mul_le_mul (by omega:(1:Int)≤c) (Int.le_refl y) (by omega) (by omega);omega
  have h4:x≤d*x:=by
   have:=Int.mul_le_mul (by omega:(1:Int)≤d) (Int.le_refl x) (by omega) (by omega);omega
  omega
 refine⟨rfl,fun i hi=>⟨(hp i hi).2,?_⟩⟩
 -- what is between two rows
 have hu:Lat r n H (fun b=>1*H i b+(-1)*H' i b):=(Lat.row r n H i hi).comb (hin' i hi) 1 (-1);obtain⟨c,hc⟩:=hu;have hz:∀ k,k<r→c k=0:=by
  have key:∀ q,q≤r→∀ k,k<q→c k=0:=by
   intro q
   induction q with
   | zero=>intro _ k hk;omega
   | succ q ih=>
    intro hq k hk;by_cases hkq:k=q
    ·subst hkq;have h1:1*H i (p k)+(-1)*H' i (p k)=_:=hc (p k) (F.lt k (by omega));rw [F.at_pivot c k (by omega) (ih (by omega))] at h1;have hpos:=F.pos k (by omega);have ek:=(hp k (by omega)).2;have hdk:=hd k (by omega);have hlt:absI (1*H i (p k)+(-1)*H' i (p k))<H k (p k):=by
      rcases Nat.lt_trichotomy k i with h | h | h
      ·rw [F.zero i (p k) hi (F.inc k i h hi),F'.zero i (p k) hi (by rw [ek];exact F'.inc k i h hi)];exact hpos
      ·subst h;rw [hd k hi];rw [show 1*H' k (p k)+(-1)*H' k (p k)=0 by omega,← hdk];exact hpos
      ·obtain⟨a1,a2⟩:=F.red i k h (by omega);obtain⟨b1,b2⟩:=F'.red i k h (by omega);rw [← ek] at b1 b2;unfold absI;split <;> omega
     rw [h1,zaG,zaI (by omega:0≤H k (p k))] at hlt;rcases(by have:=zbs (c k);omega:absI (c k)=0∨1≤absI (c k)) with h | h
     ·exact zdM.1 h
     ·have:=Int.mul_le_mul h (Int.le_refl (H k (p k))) (by omega) (by omega);omega
    ·exact ih (by omega) k (by omega)
  exact key r zL
 intro b hb;have h1:1*H i b+(-1)*H' i b=_:=hc b hb;rw [zq (g:=fun _=>0) fun k hk=>by rw [hz k hk,Int.zero_mul],zbp] at h1;omega
end Go.Proofs.YtncamilanceahaaGreat
namespace Go.Proofs.YtncamilanceahaaGreat
open Go.RowKit Limbs
variable{m n len k r:Nat}{us:List Int}
theorem zdB {rows:Nat→Option (List Int)}{l a:Nat}(hkl:k≤l)(hl:l≤m)(ha:m-k≤a):tidyN rows m l a=tidyN rows m k a:=by
 induction l with
 | zero => obtain rfl : k = 0 := by omega
           rfl
 | succ l ih=>
  by_cases e:k=l+1
  ·rw [e]
  ·have:tidyN rows m (l+1) a=tidyAt (tidyN rows m l) m (m-1-l) a:=rfl;rw [this];unfold tidyAt;rw [if_neg (by omega)];exact ih (by omega) (by omega)
theorem zie {rows:Nat→Option (List Int)}{f:Nat}(h:Ech rows len m)(hm:m≤len)(hus:us.length=len)(hp:∀ i r,rows i=some r→0<r.getD i 0)(k i:Nat)(r:List Int)(hi:f≤i)(hik:i<f+k)(hr:rows i=some r):
  0≤(lowN rows f us k).getD i 0∧(lowN rows f us k).getD i 0<r.getD i 0:=by
 have hl:∀ i r,rows i=some r→r.length=us.length:=fun i r e=>(h.len i r e).trans hus.symm;have him:=h.lt i r hr
 induction k with
 | zero=>omega
 | succ k ih=>
  have hlk:=zbb (f:=f) hl k;unfold lowN lowAt;by_cases e:i=f+k
  ·subst e;rw [hr];dsimp only;unfold lowRow;rw [zp _ _ _ (hlk.trans (hl _ r hr).symm) _ (by omega)];have hy:=hp _ r hr;generalize (lowN rows f us k).getD (f+k) 0=a at *;generalize r.getD (f+k) 0=y at *;have h1:=Int.emod_nonneg a (show y≠0 by omega);have h2:=Int.emod_lt_of_pos a hy;have h3:=Int.mul_ediv_add_emod a y;rw [Int.one_mul,Int.neg_mul,Int.mul_comm];omega
  ·have ih:=ih (by omega);split
   ·exact ih
   ·rename_i r' hr'
    unfold lowRow;rw [zp _ _ _ (hlk.trans (hl _ r' hr').symm) _ (by omega),h.zero _ r' hr' i (by omega)];omega
def Pos (rows:Nat→Option (List Int)):Prop:=∀ i r,rows i=some r→0<r.getD i 0
theorem Pos.tidyN {rows:Nat→Option (List Int)}(hp:Pos rows)(h:Ech rows len m)(hm:m≤len)(k:Nat):Pos (tidyN rows m k):=by
 induction k with
 | zero=>exact hp
 | succ k ih=>
  intro i r e;have hE:=h.all hm k;have e':tidyAt (Go.Proofs.YtncamilanceahaaGreat.tidyN rows m k) m (m-1-k) i=some r:=e;unfold tidyAt at e';by_cases hi:i=m-1-k
  ·rw [if_pos hi] at e';obtain⟨r0,e0,rfl⟩:=Option.map_eq_some_iff.1 e';rw [← hi] at e0 ⊢;have hl0:=hE.len _ _ e0;have hlt:=hE.lt _ _ e0;rw [zcn (fun i r e=>(hE.len i r e).trans hl0.symm) (by omega) (fun i' r' hi' e'=>hE.zero i' r' e' i (by omega))];exact ih i r0 e0
  ·rw [if_neg hi] at e';exact ih i r e'
theorem zfE {rows:Nat→Option (List Int)}(hp:Pos rows)(h:Ech rows len m)(hm:m≤len){i j:Nat}{ri rj:List Int}(hij:i<j)(hi:tidyN rows m m i=some ri)(hj:tidyN rows m m j=some rj):0≤ri.getD j 0∧ri.getD j 0<rj.getD j 0:=by
 have hjm:=(h.all hm m).lt j rj hj;have hE:=h.all hm (m-1-i);rw [zdB (k:=m-1-i) (by omega) zL (by omega)] at hj;rw [zdB (k:=m-1-i+1) (by omega) zL (by omega)] at hi;have e':tidyAt (tidyN rows m (m-1-i)) m (m-1-(m-1-i)) i=some ri:=hi;unfold tidyAt at e';have ei:m-1-(m-1-i)=i:=by omega
 rw [ei,if_pos rfl] at e';obtain⟨r0,e0,rfl⟩:=Option.map_eq_some_iff.1 e';exact zie hE hm (hE.len _ _ e0) (hp.tidyN h hm _) _ j rj (by omega) (by omega) hj
theorem places (T:Nat→Option (List Int))(m:Nat):∃(r:Nat) (p:Nat→Nat),(∀ k,k<r→p k<m∧∃ v,T (p k)=some v)∧(∀ i k,i<k→k<r→p i<p k)∧(∀ i,i<m→∀ v,T i=some v→∃ k,k<r∧p k=i):=by
 induction m with
 | zero=>exact⟨0,fun _=>0,fun k hk=>absurd hk (Nat.not_lt_zero k),fun i k _ hk=>absurd hk (Nat.not_lt_zero k),fun i hi=>absurd hi (Nat.not_lt_zero i)⟩
 | succ m ih=>
  obtain⟨r,p,h1,h2,h3⟩:=ih;cases e:T m with
  | none=>
   refine⟨r,p,fun k hk=>⟨Nat.lt_succ_of_lt (h1 k hk).1,(h1 k hk).2⟩,h2,fun i hi v hv=>?_⟩;by_cases him:i=m
   ·rw [him,e] at hv;cases hv
   ·exact h3 i (by omega) v hv
  | some w=>
   refine⟨r+1,fun k=>if k=r then m else p k,fun k hk=>?_,fun i k hik hk=>?_,fun i hi v hv=>?_⟩
   ·dsimp only;by_cases hkr:k=r
    ·rw [if_pos hkr];exact⟨Nat.lt_succ_self m,w,e⟩
    ·rw [if_neg hkr];exact⟨Nat.lt_succ_of_lt (h1 k (by omega)).1,(h1 k (by omega)).2⟩
   ·dsimp only;rw [if_neg (show i≠r by omega)];by_cases hkr:k=r
    ·rw [if_pos hkr];exact(h1 i (by omega)).1
    ·rw [if_neg hkr];exact h2 i k hik (by omega)
   ·by_cases him:i=m
    ·exact⟨r,Nat.lt_succ_self r,by dsimp only;rw [if_pos rfl,him]⟩
    ·obtain⟨k,hk,hpk⟩:=h3 i (by omega) v hv;exact⟨k,Nat.lt_succ_of_lt hk,by dsimp only;rw [if_neg (by omega)];exact hpk⟩
theorem zjN {rows:Nat→Option (List Int)}(hp:Pos rows)(h:Ech rows m m):∃(r:Nat) (p:Nat→Nat),Form r m (fun k b=>((tidyN rows m m (p k)).getD []).getD b 0) p∧(∀ k,k<r→∃ v,tidyN rows m m (p k)=some v)∧(∀ i v,tidyN rows m m i=some v→∃ k,k<r∧p k=i):=by
 obtain⟨r,p,h1,h2,h3⟩:=places (tidyN rows m m) m;have hE:=h.all (Nat.le_refl m) m;refine⟨r,p,⟨h2,fun i hi=>(h1 i hi).1,fun i b hi hb=>?_,fun i hi=>?_,fun i k hik hk=>?_⟩,fun k hk=>(h1 k hk).2,fun i v hv=>h3 i (hE.lt i v hv) v hv⟩
 ·obtain⟨-,v,e⟩:=h1 i hi;rw [e];exact hE.zero _ v e b hb
 ·obtain⟨-,v,e⟩:=h1 i hi;rw [e];exact hp.tidyN h (Nat.le_refl m) m _ v e
 ·obtain⟨-,v,e⟩:=h1 i (by omega);obtain⟨-,v',e'⟩:=h1 k hk;rw [e,e'];exact zfE hp h (Nat.le_refl m) (h2 i k hik hk) e e'
theorem Gens.lat{S:List Int→Prop}{x:List Int}(h:Gens len S x)(r:Nat)(M:Nat→Nat→Int)(hS:∀ v,S v→v.length=len→∃ k,k<r∧∀ b,b<len→v.getD b 0=M k b):Lat r len M (fun b=>x.getD b 0):=by
 induction h with
 | base hs hl=>
  obtain⟨k,hk,e⟩:=hS _ hs hl;obtain⟨c,hc⟩:=Lat.row r len M k hk;exact⟨c,fun b hb=>(e b hb).trans (hc b hb)⟩
 | zero=>
  refine⟨fun _=>0,fun b hb=>?_⟩;have e:(List.replicate len (0:Int)).getD b 0=0:=by
   rw [zG,List.getElem?_replicate];split <;> rfl
  have z:∀ r,sumN r (fun k=>0*M k b)=0:=fun r=>by
   induction r with
   | zero=>rfl
   | succ r ih=>simp [sumN] at ih ⊢;omega
  exact e.trans (z r).symm
 | comb x y hu hv h1 h2=>
  obtain⟨c,hc⟩:=Lat.comb h1 h2 x y;exact⟨c,fun b hb=>(zp _ _ _ (hu.len.trans hv.len.symm) b (by rw [hu.len];exact hb)).trans (hc b hb)⟩
theorem zfi{mm:Nat}{H M:Nat→Nat→Int}(h:∀ a,a<r→Lat mm n M (H a)):∃ C:Nat→Nat→Int,∀ a b,a<r→b<n→H a b=sumN mm (fun k=>C a k*M k b):=by
 refine⟨fun a=>if ha:a<r then Classical.choose (h a ha) else fun _=>0,fun a b ha hb=>?_⟩;dsimp only;rw [dif_pos ha];exact Classical.choose_spec (h a ha) b hb
theorem zjM {rows:Nat→Option (List Int)}(hp:Pos rows)(h:Ech rows m m){S:List Int→Prop}(ha:Alikes m (RowsOf rows) S)(mm:Nat)(M:Nat→Nat→Int)(Bd:Int)(hBd:0≤Bd)(hM:∀ a b,a<mm→b<m→absI (M a b)≤Bd)
  (hS:∀ v,S v→v.length=m→∃ k,k<mm∧∀ b,b<m→v.getD b 0=M k b) (hS':∀ k,k<mm→∃ v,S v∧v.length=m∧∀ b,b<m→v.getD b 0=M k b):
  ∃ r,r≤m∧r≤mm∧∀ i v,tidyN rows m m i=some v→∀ b,b<m→absI (v.getD b 0)≤r*facP r Bd:=by
 obtain⟨r,p,F,h1,h2⟩:=zjN hp h;have hE:=h.all (Nat.le_refl m) m;have hT:=zdV h (Nat.le_refl m) m;have hrm:∀ k,k<r→k≤p k:=fun k=>by
  induction k with
  | zero=>exact fun _=>Nat.zero_le _
  | succ k ih=>intro hk;have:=ih (by omega);have:=F.inc k (k+1) (by omega) hk;omega
 have hr:r≤m:=by
  by_cases h0:r=0
  ·omega
  ·have:=hrm (r-1) (by omega);have:=F.lt (r-1) (by omega);omega
 obtain⟨C,hC⟩:=zfi (r:=r) (n:=m) (mm:=mm) (H:=fun k b=>((tidyN rows m m (p k)).getD []).getD b 0) (M:=M) (fun a haa=>by
  obtain⟨v,e⟩:=h1 a haa;have g:Gens m S v:=(ha v).1 ((hT v).1 (.base ⟨_,e⟩ (hE.len _ v e)));have:=g.lat mm M hS;simpa only [e,Option.getD_some] using this)
 obtain⟨T,hTT⟩:=zfi (r:=mm) (n:=m) (mm:=r) (H:=M) (M:=fun k b=>((tidyN rows m m (p k)).getD []).getD b 0) (fun a haa=>by
  obtain⟨v,hv,hvl,e⟩:=hS' a haa;have g:Gens m (RowsOf (tidyN rows m m)) v:=(hT v).2 ((ha v).2 (.base hv hvl));obtain⟨c,hc⟩:=g.lat r (fun k b=>((tidyN rows m m (p k)).getD []).getD b 0) (fun u hu hul=>by
   obtain⟨i,ei⟩:=hu;obtain⟨k,hk,rfl⟩:=h2 i u ei;exact⟨k,hk,fun b _=>by rw [ei];rfl⟩)
  exact⟨c,fun b hb=>(e b hb).symm.trans (hc b hb)⟩)
 refine⟨r,hr,zi2 r mm m _ M C p F.lt (fun i k hi hki=>F.zero i (p k) hi (F.inc k i hki hi)) (fun i hi=>F.pos i hi) hC,fun i v e b hb=>?_⟩;obtain⟨k,hk,rfl⟩:=h2 i v e;have:=zhA r mm m (fun k b=>((tidyN rows m m (p k)).getD []).getD b 0) M C T p Bd hBd F.lt (fun i k hi hki=>F.zero i (p k) hi (F.inc k i hki hi)) (fun i hi=>F.pos i hi) (fun i k hi hk hik=>⟨(F.red i k hik hk).1,Int.le_of_lt (F.red i k hik hk).2⟩) hC hTT hM k b hk hb;simpa only [e,Option.getD_some] using this
def InL (hs:List (List Int)):List Int→Prop:=fun v=>v∈hs
structure FormL (n:Nat)(hs:List (List Int))(p:Nat→Nat):Prop where
 len:∀ r∈hs,r.length=n
 form:Form hs.length n (fun k b=>(hs.getD k []).getD b 0) p
theorem zax {hs:List (List Int)}(hk:k<hs.length):hs.getD k []=hs[k]:=by
 rw [zG,List.getElem?_eq_getElem hk,Option.getD_some]
theorem zaM {hs:List (List Int)}(hk:k<hs.length):hs.getD k []∈hs:=by
 rw [zax hk];exact List.getElem_mem hk
theorem zeE{hs:List (List Int)}{v:List Int}(h:Gens n (InL hs) v):Lat hs.length n (fun k b=>(hs.getD k []).getD b 0) (fun b=>v.getD b 0):=
 h.lat _ _ (fun v hv hl=>by
  obtain⟨k,hk,e⟩:=List.getElem_of_mem hv;exact⟨k,hk,fun b _=>by rw [zax hk,e]⟩)
theorem zhz{hs hs':List (List Int)}{p p':Nat→Nat}(h:FormL n hs p)(h':FormL n hs' p')(ha:Alikes n (InL hs) (InL hs')):hs=hs':=by
 obtain⟨e,hr⟩:=zhC h.form h'.form (fun i hi=>zeE ((ha _).1 (.base (zaM hi) (h.len _ (zaM hi))))) (fun i hi=>zeE ((ha _).2 (.base (zaM hi) (h'.len _ (zaM hi)))));apply List.ext_getElem e;intro k h1 h2;have hl:=h.len _ (List.getElem_mem h1);have hl':=h'.len _ (List.getElem_mem h2);apply zbH (hl.trans hl'.symm);intro b hb;have:=(hr k h1).2 b (by omega)
 rwa [zax h1,zax h2] at this
def rowsL (T:Nat→Option (List Int))(n:Nat):List (List Int):=(List.range n).filterMap T
theorem zfg {T:Nat→Option (List Int)}(h:T n=none):rowsL T (n+1)=rowsL T n:=by
 unfold rowsL;rw [List.range_succ,List.filterMap_append];simp [h]
theorem zfh {T:Nat→Option (List Int)}{r:List Int}(h:T n=some r):rowsL T (n+1)=rowsL T n++[r]:=by
 unfold rowsL;rw [List.range_succ,List.filterMap_append];simp [h]
theorem zff (T:Nat→Option (List Int))(n:Nat):(rowsL T n).length≤n:=by
 unfold rowsL;have:=List.length_filterMap_le T (List.range n)
 rwa [List.length_range] at this
theorem zdq {T:Nat→Option (List Int)}(hE:Ech T len m)(v:List Int):v∈rowsL T m↔∃ i,T i=some v:=by
 unfold rowsL;rw [List.mem_filterMap];exact⟨fun⟨i,_,e⟩=>⟨i,e⟩,fun⟨i,e⟩=>⟨i,List.mem_range.2 (hE.lt i v e),e⟩⟩
theorem zi5 (T:Nat→Option (List Int))(q:Nat):∃ p:Nat→Nat,(∀ k,k<(rowsL T q).length→p k<q∧T (p k)=some ((rowsL T q).getD k []))∧∀ i k,i<k→k<(rowsL T q).length→p i<p k:=by
 induction q with
 | zero=>exact⟨fun _=>0,fun k hk=>absurd hk (by simp [rowsL]),fun i k _ hk=>absurd hk (by simp [rowsL])⟩
 | succ q ih=>
  obtain⟨p,h1,h2⟩:=ih;cases e:T q with
  | none=>
   rw [zfg e];exact⟨p,fun k hk=>⟨Nat.lt_succ_of_lt (h1 k hk).1,(h1 k hk).2⟩,h2⟩
  | some r=>
   rw [zfh e];refine⟨fun k=>if k=(rowsL T q).length then q else p k,fun k hk=>?_,fun i k hik hk=>?_⟩
   ·rw [List.length_append,List.length_singleton] at hk;dsimp only;by_cases hkr:k=(rowsL T q).length
    ·rw [if_pos hkr];refine⟨Nat.lt_succ_self q,?_⟩;rw [e,hkr,zG,List.getElem?_append_right zL,Nat.sub_self];rfl
    ·rw [if_neg hkr];refine⟨Nat.lt_succ_of_lt (h1 k (by omega)).1,?_⟩;rw [(h1 k (by omega)).2,zG,zG,List.getElem?_append_left (by omega)]
   ·rw [List.length_append,List.length_singleton] at hk;dsimp only;rw [if_neg (show i≠(rowsL T q).length by omega)];by_cases hkr:k=(rowsL T q).length
    ·rw [if_pos hkr];exact(h1 i (by omega)).1
    ·rw [if_neg hkr];exact h2 i k hik (by omega)
theorem zjO {rows:Nat→Option (List Int)}(hp:Pos rows)(h:Ech rows m m):∃ p,FormL m (rowsL (tidyN rows m m) m) p:=by
 have hE:=h.all (Nat.le_refl m) m;obtain⟨p,h1,h2⟩:=zi5 (tidyN rows m m) m;refine⟨p,⟨fun r hr=>?_,⟨h2,fun i hi=>(h1 i hi).1,fun i b hi hb=>?_,fun i hi=>?_,fun i k hik hk=>?_⟩⟩⟩
 ·obtain⟨i,e⟩:=(zdq hE r).1 hr;exact hE.len i r e
 ·exact hE.zero _ _ (h1 i hi).2 b hb
 ·exact hp.tidyN h (Nat.le_refl m) m _ _ (h1 i hi).2
 ·exact zfE hp h (Nat.le_refl m) (h2 i k hik hk) (h1 i (by omega)).2 (h1 k hk).2
theorem zfU {T:Nat→Option (List Int)}(hE:Ech T len m):Alikes len (InL (rowsL T m)) (RowsOf T):=
 .of (fun v hv hvl=>.base ((zdq hE v).1 hv) hvl) (fun v hv hvl=>.base ((zdq hE v).2 hv) hvl)
theorem zdU{rows:Nat→Option (List Int)}{l:List (List Int)}(h:Alikes n (RowsOf rows) (InL l)):Alikes n (RowsOr rows us) (InL (l++[us])):=by
 refine .of (fun v hv hvl=>?_) (fun v hv hvl=>?_)
 ·rcases hv with hv | rfl
  ·exact((h v).1 (.base hv hvl)).trans (fun x hx hxl=>.base (List.mem_append_left _ hx) hxl)
  ·exact .base (List.mem_append_right _ (List.mem_singleton.2 rfl)) hvl
 ·rcases List.mem_append.1 hv with hv | hv
  ·exact((h v).2 (.base hv hvl)).trans (fun x hx hxl=>.base (.inl hx) hxl)
  ·rw [List.mem_singleton] at hv;subst hv;exact .base (.inr rfl) hvl
def fac:Nat→Nat
 | 0=>1
 | n+1=>(n+1)*fac n
theorem zhl (n v:Nat):facP n (bp v)=(fac n:Int)*bp (n*v):=by
 induction n with
 | zero=>simp [facP,fac,bp]
 | succ n ih=>
  have e:(n+1)*v=v+n*v:=by rw [Nat.succ_mul,Nat.add_comm]
  rw [facP,ih,e,zbw,fac,Int.natCast_mul];rw [Int.mul_assoc,← Int.mul_assoc (bp v),Int.mul_comm (bp v),Int.mul_assoc]
theorem zhn:∀ r,r<17→r*fac r<18446744073709551616:=by decide
theorem zhm{v:Nat}(hr:r≤n)(hn:n≤16):(r:Int)*facP r (bp v)<bp (n*v+2):=by
 have h1:=zhn r (by omega);have h2:bp (r*v)≤bp (n*v):=zad (Nat.mul_le_mul_right v hr);have h3:=zQ (r*v);have e:bp (n*v+2)=18446744073709551616*bp (n*v):=by rw [Nat.add_comm,zbw];rfl
 rw [zhl,e,← Int.mul_assoc];have h4:((r:Int) *(fac r:Int))=((r*fac r:Nat):Int):=by rw [Int.natCast_mul]
 rw [h4];generalize r*fac r=q at *;have h5:(q:Int)*bp (r*v)≤18446744073709551615*bp (r*v):=Int.mul_le_mul_of_nonneg_right (by omega) (by omega);omega
structure OpC where
 o:OpV
 vo:Option Addr
 vc:Nat
def OpC.row (q:OpC):Value:=.slice q.vo q.o.v.length q.vc
def OpsN (w:World)(v:Value)(os:List OpC):Prop:=
 ∃ ao cap,v=.slice ao os.length cap∧os.length≤cap∧(0<os.length→∃ b off,ao=some ⟨b,off,none⟩∧b<w.heap.size ∧
  ∀ i q,os[i]?=some q→w.cell? ⟨b,off+i*4,none⟩=some (.int .i64 q.o.kind)∧w.cell? ⟨b,off+i*4+1,none⟩=some (.string q.o.name)∧w.cell? ⟨b,off+i*4+2,none⟩=some (.int .i64 q.o.n)∧w.cell? ⟨b,off+i*4+3,none⟩=some q.row∧RowS w q.row q.o.v)
theorem OpsN.below{w w':World}{v:Value}{os:List OpC}(h:OpsN w v os)(hb:Below w.heap.size w w'):OpsN w' v os:=by
 obtain⟨ao,cap,e,hn,hh⟩:=h;refine⟨ao,cap,e,hn,fun h0=>?_⟩;obtain⟨b,off,e',hlt,hc⟩:=hh h0;refine⟨b,off,e',zT hlt hb.size,fun i q hq=>?_⟩;obtain⟨a0,a1,a2,a3,a4⟩:=hc i q hq;exact⟨(hb.cell (p:=⟨b,off+i*4,none⟩) hlt).trans a0,(hb.cell (p:=⟨b,off+i*4+1,none⟩) hlt).trans a1,(hb.cell (p:=⟨b,off+i*4+2,none⟩) hlt).trans a2,(hb.cell (p:=⟨b,off+i*4+3,none⟩) hlt).trans a3,a4.below hb zL⟩
def lightO (o:OpV):Bool:=decide (o.name.size≤30∧o.v.length≤10)
def lightL (os:List OpC)(m:Nat):Bool:=decide (os.length≤m) && os.all (fun q=>lightO q.o)
theorem zh6 {os:List OpC}(h:lightL os m=true):os.length≤m∧∀ q∈os,q.o.name.size≤30∧q.o.v.length≤10:=by
 unfold lightL lightO at h;simp only [Bool.and_eq_true,decide_eq_true_eq,List.all_eq_true] at h;exact h
theorem zh7 (w:World)(v:Value)(os:List OpC)(m:Nat)(h:OpsN w v os)(hm:m≤1000):
  Calls Tryz.prog 5 #[v,.int .i64 (m:Int)] w fun e w'=>e=.returned (.bool (lightL os m))∧w'=w:=by
 have HO:=hide h;obtain⟨ao,cap,rfl,hcap,-⟩:=h;generalize hr:lightL os m=r;have HR:=hide hr;clear hr;by_cases hml:m<os.length
 ·have g0:decide ((m:Int)<(os.length:Int))=true:=decide_eq_true (by omega);obtain rfl:r=false:=by rw [← HR.out];unfold lightL;rw [decide_eq_false (by omega),Bool.false_and]
  go_enter Tryz.func5,Tryz.ntmps5;go_wp2;go_ret;exact⟨rfl,rfl⟩
 have g0:decide ((m:Int)<(os.length:Int))=false:=decide_eq_false (by omega);have HA:Hid (os.all (fun q=>lightO q.o)=r):=by rw [← HR.out];unfold lightL;rw [decide_eq_true (by omega),Bool.true_and];rfl
 clear HR;go_enter Tryz.func5,Tryz.ntmps5;go_wp2_with fail;go_loopw [5] (fun i wr=>∃ k:Nat,k≤os.length∧i=.int .i64 k∧Hid ((os.drop k).all (fun q=>lightO q.o)=r)∧wr=w) (fun i _=>os.length-(intOf i).toNat)
 case atStart=>exact⟨0,Nat.zero_le _,rfl,HA,rfl⟩
 case round=>
  clear HA;obtain⟨k,hk,rfl,HA,rfl⟩:=hrel;by_cases hkl:k<os.length
  ·have ha:=HA.out;rw [List.drop_eq_getElem_cons hkl,List.all_cons] at ha;obtain⟨_,_,e,-,hh⟩:=HO.out;simp only [zV,true_and] at e;obtain⟨rfl,rfl⟩:=e;obtain⟨b,off,rfl,hlt,hc⟩:=hh (by omega);obtain⟨a0,a1,a2,a3,-⟩:=hc k os[k] (List.getElem?_eq_getElem hkl);have HAA:=hide ha;clear hh hc ha HA;generalize os[k]=q at *;obtain⟨⟨kd,nm,n,vs⟩,vo,vc⟩:=q;simp only [OpC.row] at a3;dsimp only at a0 a1 a2 a3 HAA;by_cases h30:nm.size≤30
   ·have g1:decide (30<(nm.size:Int))=false:=decide_eq_false (by omega);by_cases h10:vs.length≤10
    ·have g2:decide (10<(vs.length:Int))=false:=decide_eq_false (by omega);have HA:Hid ((os.drop (k+1)).all (fun q=>lightO q.o)=r):=by
      have:=HAA.out;unfold lightO at this;dsimp only at this;rw [decide_eq_true ⟨h30,h10⟩,Bool.true_and] at this;exact this
     clear HAA h30 h10;go_wp2;go_roundw
     case rel=>exact⟨k+1,by omega,by go_num,HA,by first | rfl | trivial⟩
     case measure=>simp [intOf];omega
    ·have g2:decide (10<(vs.length:Int))=true:=decide_eq_true (by omega);obtain rfl:r=false:=by
      have:=HAA.out;unfold lightO at this;dsimp only at this;rw [decide_eq_false (fun h=>h10 h.2),Bool.false_and] at this;exact this.symm
     clear HAA h30 h10;go_wp2;go_ret;exact⟨rfl,rfl⟩
   ·have g1:decide (30<(nm.size:Int))=true:=decide_eq_true (by omega);obtain rfl:r=false:=by
     have:=HAA.out;unfold lightO at this;dsimp only at this;rw [decide_eq_false (fun h=>h30 h.1),Bool.false_and] at this;exact this.symm
    clear HAA h30;go_wp2;go_ret;exact⟨rfl,rfl⟩
  ·obtain rfl:k=os.length:=by omega
   obtain rfl:r=true:=by rw [← HA.out,List.drop_length];rfl
   clear HA;go_wp2;go_ret;exact⟨rfl,rfl⟩
def Code.tail:Code→Code
 | .seq _ b=>b
 | c=>c
end Go.Proofs.YtncamilanceahaaGreat
