import Derived.Test.YtdedolkgcdlmeaaGreatDoorTurnW
set_option maxRecDepth 100000
set_option maxHeartbeats 4000000
set_option linter.unusedSimpArgs false
namespace Go.Proofs.YtdedolkgcdlmeaaGreatDoor
open Go.RowKit Limbs
variable{n P c f:Nat}{p:Nat→Nat}{v zs:List Int}{W:World}
def SignPost (w:World)(z:Int)(n:Nat)(ao:Option Addr)(cap:Nat)(e:Ending)(w':World):Prop:=NumPost w z n e w'∧∃ b l,e=.returned (.agg #[.bool b,.slice ao l cap])
theorem zgq (w:World)(neg:Bool)(ao:Option Addr)(cap:Nat)(zs:List Int)(n:Nat)(h:Lim w (.slice ao zs.length cap) zs)(hn:zs.length≤n):
  Calls Tryz.prog 95 #[.bool neg,.slice ao zs.length cap] w fun e w'=>SignPost w (if neg=true then-lv zs else lv zs) n ao cap e w':=by
 have HL:Hid (Lim w (.slice ao zs.length cap) zs):=h;obtain⟨ao',cap',hv,hcap,hlen,hlb,hc⟩:=h;simp only [zV,true_and] at hv;obtain⟨rfl,rfl⟩:=hv;clear hc;go_enter Tryz.func95,Tryz.ntmps95;go_wp2_with fail;refine(zej _ _ _ zs (HL.out.below ((zB _ _).alloc zL _) zL)).mono ?_;rintro e w' ⟨m,hm,rfl,hv,hnr,rfl⟩;have HV:Hid (lv (zs.take m)=lv zs):=hv;clear hv;have hl:(zs.take m).length=m:=by rw [List.length_take];omega
 have HL2:=HL.out.take m hm;cases neg
 ·have HF:Hid (NumPost w (lv zs) n (.returned (.agg #[.bool false,.slice ao m cap])) (w.alloc (Obj.cells #[Value.bool false,.slice ao m cap] 29))):=
   ⟨_,rfl,⟨false,_,zs.take m,rfl,HL2.below ((zB _ _).alloc zL _) zL,hnr,fun _=>rfl,HV.out.symm,by omega⟩,(zB _ _).alloc zL _⟩
  go_wp2;exact bodyPost_ret (v:=.agg #[.bool false,.slice ao m cap]) (by simp [results,Tryz.results95,go_sem]) rfl ⟨HF.out,_,_,rfl⟩
 ·by_cases h0:m=0
  ·subst h0;have HF:Hid (NumPost w (-lv zs) n (.returned (.agg #[.bool false,.slice ao 0 cap])) (w.alloc (Obj.cells #[Value.bool false,.slice ao 0 cap] 29))):=
    ⟨_,rfl,⟨false,_,zs.take 0,rfl,HL2.below ((zB _ _).alloc zL _) zL,hnr,fun _=>rfl,by have:=HV.out;simp [lv] at this ⊢;omega,by omega⟩,(zB _ _).alloc zL _⟩
   go_wp2;exact bodyPost_ret (v:=.agg #[.bool false,.slice ao 0 cap]) (by simp [results,Tryz.results95,go_sem]) rfl ⟨HF.out,_,_,rfl⟩
  ·have HF:Hid (NumPost w (-lv zs) n (.returned (.agg #[.bool true,.slice ao m cap])) (w.alloc (Obj.cells #[Value.bool true,.slice ao m cap] 29))):=
    ⟨_,rfl,⟨true,_,zs.take m,rfl,HL2.below ((zB _ _).alloc zL _) zL,hnr,fun h=>absurd h (by omega),by rw [if_pos rfl,HV.out],by omega⟩,(zB _ _).alloc zL _⟩
   have hd:decide (0<m)=true:=by simp;omega
   go_wp2;exact bodyPost_ret (v:=.agg #[.bool true,.slice ao m cap]) (by simp [results,Tryz.results95,go_sem]) rfl ⟨HF.out,_,_,rfl⟩
theorem zjM (w:World)(n:Int)(h0:-9223372036854775808≤n)(h1:n≤9223372036854775807):
  Calls Tryz.prog 53 #[.int .i64 n] w fun e w'=>IntPost w n 2 e w':=by
 by_cases hn:n<0
 ·have hw:IntKind.u64.wrap (-IntKind.u64.wrap n)=-n:=by rw [IntKind.wrap_u64,IntKind.wrap_u64];omega
  have hw2:-n/4294967296%4294967296=-n/4294967296:=by omega
  have HN:=hide (zcN (-n));go_enter Tryz.func53,Tryz.ntmps53;go_wp2_with fail;refine(zgq _ _ _ _ [-n%4294967296,-n/4294967296] 2 (zcK _ _ _ _ (by omega) (by omega) _ (by simp)) zL).mono ?_;rintro e w2 ⟨⟨r,rfl,hr,hb2⟩,sb,sl,es⟩;simp only [Ending.returned.injEq] at es;subst es;obtain⟨c0,c1,f0,f1⟩:=Box.later (B:=w.heap.size) ((zf w _ _ _ _ rfl).later ((zB _ _).alloc (by simp) _:Below (w.heap.size+1) _ _) (by omega)) hb2 (by simp;omega);rw [HN.out,if_pos rfl,Int.neg_neg] at hr;have HF:=hide (fun rn rs (h:NumL w2 (.agg #[.bool rn,rs]) n 2)=>boxed (w:=w) h c0 c1 (by simp) (by simp) ((((zB _ _).alloc zL _).alloc (by simp) _).trans (hb2.mono (by simp;omega))) zL);have HR:=hide hr;clear hb2 hr;go_wp2;exact bodyPost_ret (v:=_) (by simp [results,Tryz.results53,go_sem,c0,c1]) rfl ⟨HF.out _ _ HR.out,fun neg s e a l c h=>by simp only [Ending.returned.injEq,Value.agg.injEq,Array.mk.injEq,List.cons.injEq,and_true] at e;rw [← e.2] at h;simp only [zV,Option.some.injEq] at h;rw [← h.1];simp⟩
 ·have HN:=hide (zcN n);go_enter Tryz.func53,Tryz.ntmps53;go_wp2_with fail;refine(zgq _ _ _ _ [n%4294967296,n/4294967296] 2 (zcK _ _ _ _ (by omega) (by omega) _ (by simp)) zL).mono ?_;rintro e w2 ⟨⟨r,rfl,hr,hb2⟩,sb,sl,es⟩;simp only [Ending.returned.injEq] at es;subst es;obtain⟨c0,c1,f0,f1⟩:=Box.later (B:=w.heap.size) ((zf w _ _ _ _ rfl).later ((zB _ _).alloc (by simp) _:Below (w.heap.size+1) _ _) (by omega)) hb2 (by simp;omega);rw [HN.out,if_neg (by decide)] at hr;have HF:=hide (fun rn rs (h:NumL w2 (.agg #[.bool rn,rs]) n 2)=>boxed (w:=w) h c0 c1 (by simp) (by simp) ((((zB _ _).alloc zL _).alloc (by simp) _).trans (hb2.mono (by simp;omega))) zL);have HR:=hide hr;clear hb2 hr;go_wp2;exact bodyPost_ret (v:=_) (by simp [results,Tryz.results53,go_sem,c0,c1]) rfl ⟨HF.out _ _ HR.out,fun neg s e a l c h=>by simp only [Ending.returned.injEq,Value.agg.injEq,Array.mk.injEq,List.cons.injEq,and_true] at e;rw [← e.2] at h;simp only [zV,Option.some.injEq] at h;rw [← h.1];simp⟩
def NewV (w W:World)(P k:Nat):Prop:=∀ i,i<k→∀ o l c,W.cell? ⟨P,i*2+1,none⟩=some (.slice o l c)→NewSl w (.slice o l c)
theorem NewV.set{w W2:World}{k:Nat}(h:NewV w W P k)(hv:VecO w W P zs n)(hk:k<zs.length)(hb:Below W.heap.size W W2){o:Option Addr}{l:Nat}(hn:NewSl W (.slice o l c))(rn:Bool):
  NewV w ((W2.setCell ⟨P,k*2,none⟩ (.bool rn)).setCell ⟨P,k*2+1,none⟩ (.slice o l c)) P (k+1):=fun i hi o' l' c' e=>by
 by_cases e1:i=k
 ·subst e1;obtain⟨neg0,o0,l0,c0,k0,k1,-⟩:=(hv.later hb).at i hk;have k1':(W2.setCell ⟨P,i*2,none⟩ (.bool rn)).cell? ⟨P,i*2+1,none⟩=some (.slice o0 l0 c0):=(World.cell?_setCell_other (h:=fun e=>by simp at e) ..).trans k1;rw [World.cell?_setCell_same (h:=k1')] at e;simp only [Option.some.injEq] at e;rw [← e];intro a l2 c2 h2;exact Nat.le_trans hv.below.size (hn a l2 c2 h2)
 ·have e2:((W2.setCell ⟨P,k*2,none⟩ (.bool rn)).setCell ⟨P,k*2+1,none⟩ (.slice o l c)).cell? ⟨P,i*2+1,none⟩=W2.cell? ⟨P,i*2+1,none⟩:=
   (World.cell?_setCell_other (h:=fun e=>by simp at e <;> omega) ..).trans (World.cell?_setCell_other (h:=fun e=>by simp at e <;> omega) ..)
  rw [e2,hb.cell (p:=⟨P,i*2+1,none⟩) hv.lt] at e;exact h i (by omega) o' l' c' e
theorem zjL (w:World)(v:Value)(ks:List Int)(hv:RowS w v ks)(h8:ks.length≤1000):
  Calls Tryz.prog 49 #[v] w fun e w'=>∃ P,e=.returned (.slice (some ⟨P,0,none⟩) ks.length ks.length)∧VecO w w' P ks 2∧NewV w w' P ks.length:=by
 have HV:=hide hv;obtain⟨ao,cap,rfl,-,hk64,-⟩:=hv;have HK:=hide hk64;have hmk:=zbd ks.length (by omega);have HI:=hide (VecO.made w w (zB _ _) ks.length 2);clear hk64;go_enter Tryz.func49,Tryz.ntmps49;go_wp2;clear hmk;go_loopw [10] (fun i wr=>∃ k:Nat,k≤ks.length∧i=.int .i64 k∧VecO w wr w.heap.size (ks.take k++List.replicate (ks.length-k) 0) 2∧Hid (NewV w wr w.heap.size k)) (fun i _=>ks.length-(intOf i).toNat)
 case atStart=>exact⟨0,Nat.zero_le _,rfl,HI.out,hide fun i hi=>absurd hi (Nat.not_lt_zero i)⟩
 case round=>
  clear HI;obtain⟨k,hk,rfl,hinv,HNV⟩:=hrel;have HI:=hide hinv;clear hinv;by_cases hkl:k<ks.length
  ·obtain⟨_,_,e,-,-,hc⟩:=HV.out.below HI.out.below zL;simp only [zV,true_and] at e;obtain⟨rfl,rfl⟩:=e;obtain⟨b,off,rfl,-,hc⟩:=hc (by omega);have c0:=hc k hkl;have HFS:=hide (zbr ks k hkl);have hfl:=zaV ks k hk;have hkl':k<(ks.take k++List.replicate (ks.length-k) 0).length:=by omega
   have H64:=hide (HK.out k);clear hc;generalize ks.getD k 0=z at *;go_wp2_with fail;refine(zjM wr z H64.out.1 H64.out.2).mono ?_;rintro e w2 ⟨⟨r,rfl,hr,hb⟩,hnew⟩;obtain⟨⟨rn,ro,rl,rc⟩,rfl⟩:=hr.nm;have HN2:=hide (HNV.out.set HI.out hkl' hb (hnew _ _ rfl) rn);have HI2:=hide (HI.out.later hb);obtain⟨neg0,o0,l0,c0',k0,k1,-⟩:=HI2.out.at k (by omega);have f0:=HI2.out.thaw (k*2);have f1:=HI2.out.thaw (k*2+1);have hP:=HI2.out.lt;have HN:=hide (HI2.out.set (k:=k) (by omega) hr);rw [HFS.out] at HN;clear hb hr hnew HNV HI HI2 HFS H64 c0;go_wp2;go_roundw
   case rel=>exact⟨k+1,by omega,by go_num,HN.out,HN2⟩
   case measure=>simp [intOf];omega
  ·obtain rfl:k=ks.length:=by omega
   have HF:=hide HI.out.full;clear HI;go_wp2;go_ret;exact⟨_,rfl,HF.out,HNV.out⟩
def behindL (n:Nat)(ts:List (List Int)):List (List Int):=(ts.filter fun r=>decide ((n:Int)≤first r)).map (·.drop n)
theorem zfZ (n:Nat)(p:Nat→Nat)(r:Nat)(inc:∀ i k,i<k→k<r→p i<p k):∀ m,m≤r→∃ c,c≤m∧(∀ k,k<c→p k<n)∧∀ k,c≤k→k<m→n≤p k
 | 0,_=>⟨0,Nat.le_refl _,fun k hk=>absurd hk (by omega),fun k _ hk=>absurd hk (by omega)⟩
 | m+1,hm=>by
  obtain⟨c,hc,h1,h2⟩:=zfZ n p r inc m (by omega);by_cases h:p m<n
  ·refine⟨m+1,Nat.le_refl _,fun k hk=>?_,fun k h1 h2=>absurd h1 (by omega)⟩;by_cases hkm:k=m
   ·rw [hkm];exact h
   ·exact Nat.lt_trans (inc k m (by omega) (by omega)) h
  ·refine⟨c,by omega,h1,fun k hk hkm=>?_⟩;by_cases e:k=m
   ·rw [e];omega
   ·exact h2 k hk (by omega)
theorem zbs (r:List Int)(n j:Nat):(r.drop n).getD j 0=r.getD (n+j) 0:=by
 rw [zG,List.getElem?_drop,zG]
theorem zdA{m:Nat}{ts:List (List Int)}(F:FormL m ts p):∃ c,c≤ts.length∧(∀ k,k<c→p k<n)∧(∀ k,c≤k→k<ts.length→n≤p k)∧(ts.filter fun r=>decide ((n:Int)≤first r))=ts.drop c:=by
 obtain⟨c,hc,h1,h2⟩:=zfZ n p ts.length F.form.inc ts.length zL;refine⟨c,hc,h1,h2,?_⟩;have e:ts=ts.take c++ts.drop c:=(List.take_append_drop c ts).symm
 conv=>lhs;rw [e]
 rw [List.filter_append];have e1:((ts.take c).filter fun r=>decide ((n:Int)≤first r))=[]:=by
  rw [List.filter_eq_nil_iff];intro r hr;obtain⟨k,hk,e⟩:=List.getElem_of_mem hr;rw [List.length_take] at hk;rw [List.getElem_take] at e;have hf:=(F.first (show k<ts.length by omega)).1;have:=h1 k (by omega);rw [← e,hf];simp only [decide_eq_true_eq];omega
 have e2:((ts.drop c).filter fun r=>decide ((n:Int)≤first r))=ts.drop c:=by
  rw [List.filter_eq_self];intro r hr;obtain⟨k,hk,e⟩:=List.getElem_of_mem hr;rw [List.length_drop] at hk;rw [List.getElem_drop] at e;have hf:=(F.first (show c+k<ts.length by omega)).1;have:=h2 (c+k) (by omega) (by omega);rw [← e,hf];simp only [decide_eq_true_eq];omega
 rw [e1,e2,List.nil_append]
theorem zbM{ts:List (List Int)}(k j:Nat)(hk:c+k<ts.length):(((ts.drop c).map (·.drop n)).getD k []).getD j 0=(ts.getD (c+k) []).getD (n+j) 0:=by
 have hl:k<((ts.drop c).map (·.drop n)).length:=by rw [zM,List.length_drop];omega
 rw [zn hl,List.getElem_map,List.getElem_drop,zbs,zn hk]
theorem zbL{ts:List (List Int)}(F:FormL (f+n) ts p):∃ q,FormL n (behindL f ts) q:=by
 obtain⟨c,hc,-,h2,e⟩:=zdA (n:=f) F;refine⟨fun k=>p (c+k)-f,?_⟩;unfold behindL;rw [e];have hl:((ts.drop c).map (·.drop f)).length=ts.length-c:=by rw [zM,List.length_drop]
 refine⟨fun r hr=>?_,?_⟩
 ·obtain⟨s,hs,rfl⟩:=List.mem_map.1 hr;rw [List.length_drop,F.len s (List.mem_of_mem_drop hs)];omega
 ·rw [hl];refine⟨fun i k hik hk=>?_,fun i hi=>?_,fun i b hi hb=>?_,fun i hi=>?_,fun i k hik hk=>?_⟩
  ·have:=F.form.inc (c+i) (c+k) (by omega) (by omega);have:=h2 (c+i) (by omega) (by omega);omega
  ·have:=F.form.lt (c+i) (by omega);have:=h2 (c+i) (by omega) (by omega);omega
  ·rw [zbM i b (by omega)];exact F.form.zero (c+i) (f+b) (by omega) (by omega)
  ·have h3:=h2 (c+i) (by omega) (by omega);rw [zbM i _ (by omega),show f+(p (c+i)-f)=p (c+i) by omega];exact F.form.pos (c+i) (by omega)
  ·have h3:=h2 (c+k) (by omega) (by omega);rw [zbM i _ (by omega),zbM k _ (by omega),show f+(p (c+k)-f)=p (c+k) by omega];exact F.form.red (c+i) (c+k) (by omega) (by omega)
theorem zeE{ts:List (List Int)}(F:FormL (f+n) ts p)(hv:v.length=n):Gens n (InL (behindL f ts)) v↔Gens (f+n) (InL ts) (List.replicate f 0++v):=by
 obtain⟨c,hc,h1,h2,e⟩:=zdA (n:=f) F;unfold behindL;rw [e];constructor
 ·intro h;clear hv
  induction h with
  | base hv hl=>
   obtain⟨s,hs,rfl⟩:=List.mem_map.1 hv;have hst:=List.mem_of_mem_drop hs;have hsl:=F.len s hst;obtain⟨k,hk,es⟩:=List.getElem_of_mem hs;rw [List.length_drop] at hk;rw [List.getElem_drop] at es;have es':List.replicate f 0++s.drop f=s:=by
    apply zR (by rw [List.length_append,List.length_replicate,List.length_drop,hsl];omega);intro j hj;rw [List.length_append,List.length_replicate,List.length_drop,hsl] at hj;by_cases hjn:j<f
    ·rw [zaW _ _ _ (by simpa using hjn),zan];have:=F.form.zero (c+k) j (by omega) (by have:=h2 (c+k) (by omega) (by omega);omega);rw [zn (by omega),es] at this;exact this.symm
    ·have hr:=zaX (List.replicate f 0) (s.drop f) (j-f);rw [List.length_replicate,show f+(j-f)=j by omega,zbs,show f+(j-f)=j by omega] at hr;exact hr
   rw [es'];exact .base hst hsl
  | zero=>
   rw [List.replicate_append_replicate];exact .zero
  | comb x y hu hv g1 g2=>
   have:=Gens.comb x y g1 g2;rw [zbo x y _ _ _ _ rfl,zdt] at this;exact this
 ·intro h;obtain⟨d,hd⟩:=zav h;have hz:∀ k,k<c→d k=0:=by
   intro k
   induction k using Nat.strongRecOn with
   | _ k ih=>
    intro hk;have hp:=h1 k hk;have ha:=F.form.at_pivot d k (by omega) (fun j hj=>ih j hj (by omega));have hb:(List.replicate f 0++v).getD (p k) 0=sumN ts.length (fun j=>d j *(ts.getD j []).getD (p k) 0):=hd (p k) (by omega);rw [zaW _ _ _ (by simpa using hp),zan] at hb;have hpos:=F.form.pos k (by omega);have h0:d k *(ts.getD k []).getD (p k) 0=0:=ha.symm.trans hb.symm;rcases Int.mul_eq_zero.1 h0 with h | h
    ·exact h
    ·omega
  apply zcE (fun r hr=>?_) hv
  ·refine⟨fun k=>d (c+k),fun b hb=>?_⟩;have hb':(List.replicate f 0++v).getD (f+b) 0=sumN ts.length (fun j=>d j *(ts.getD j []).getD (f+b) 0):=hd (f+b) (by omega);show v.getD b 0=sumN ((ts.drop c).map (·.drop f)).length (fun k=>d (c+k) *(((ts.drop c).map (·.drop f)).getD k []).getD b 0);have hr:=zaX (List.replicate f 0) v b;rw [List.length_replicate] at hr;rw [hr] at hb';rw [hb'];have hl:((ts.drop c).map (·.drop f)).length=ts.length-c:=by rw [zM,List.length_drop]
   rw [hl];have hs:∀ m,c+m≤ts.length→sumN (c+m) (fun k=>d k *(ts.getD k []).getD (f+b) 0)=sumN m (fun k=>d (c+k) *(((ts.drop c).map (·.drop f)).getD k []).getD b 0):=by
    intro m
    induction m with
    | zero=>
     intro _;refine(zp (g:=fun _=>0) fun k hk=>?_).trans (zay _);rw [hz k hk,Int.zero_mul]
    | succ m ih=>
     intro hm;have e1:sumN (c+(m+1)) (fun k=>d k *(ts.getD k []).getD (f+b) 0)=sumN (c+m) (fun k=>d k *(ts.getD k []).getD (f+b) 0)+d (c+m) *(ts.getD (c+m) []).getD (f+b) 0:=rfl;have e2:sumN (m+1) (fun k=>d (c+k) *(((ts.drop c).map (·.drop f)).getD k []).getD b 0)=sumN m (fun k=>d (c+k) *(((ts.drop c).map (·.drop f)).getD k []).getD b 0)+d (c+m) *(((ts.drop c).map (·.drop f)).getD m []).getD b 0:=rfl;rw [e1,e2,ih (by omega),zbM m b (by omega)]
   have:=hs (ts.length-c) (by omega);rw [show c+(ts.length-c)=ts.length by omega] at this;exact this
  ·obtain⟨s,hs,rfl⟩:=List.mem_map.1 hr;rw [List.length_drop,F.len s (List.mem_of_mem_drop hs)];omega
theorem zfG{hs ks ts:List (List Int)}(hl:∀ r∈hs,r.length=n)(kl:∀ r∈ks,r.length=n)(F:FormL (n+n) ts p)(a:Alikes (n+n) (InL ts) (InL (wideL n hs ks)))(hv:v.length=n):Gens n (InL (behindL n ts)) v↔Gens n (InL hs) v∧Gens n (InL ks) v:=
 (zeE F hv).trans ((a _).trans (zjn hl kl hv))
def dotL (n:Nat)(r v:List Int):Int:=sumN n (fun b=>r.getD b 0*v.getD b 0)
def unitL (n j:Nat):List Int:=(List.range n).map fun b=>if b=j then 1 else 0
theorem zx (n j:Nat):(unitL n j).length=n:=by simp [unitL]
theorem zaB (n j b:Nat)(hb:b<n):(unitL n j).getD b 0=if b=j then 1 else 0:=zbB n _ b hb
def tracedL (ms:List (List Int))(n:Nat):List (List Int):=(List.range n).map fun j=>(ms.map fun r=>r.getD j 0)++unitL n j
theorem zJ (ms:List (List Int))(n:Nat):(tracedL ms n).length=n:=by simp [tracedL]
theorem zbH (ms:List (List Int))(n:Nat):∀ r∈tracedL ms n,r.length=ms.length+n:=by
 intro r hr;obtain⟨j,-,rfl⟩:=List.mem_map.1 hr;rw [List.length_append,zM,zx]
theorem zcj (ms:List (List Int))(n j:Nat)(hj:j<n):(tracedL ms n).getD j []=(ms.map fun r=>r.getD j 0)++unitL n j:=by
 rw [zn (by rw [zJ];exact hj)];simp [tracedL]
theorem zby (ms:List (List Int))(g:List Int→Int)(i:Nat)(hi:i<ms.length):(ms.map g).getD i 0=g (ms.getD i []):=by
 rw [zn hi,zG,List.getElem?_eq_getElem (by rw [zM];exact hi),Option.getD_some,List.getElem_map]
theorem zhU (n j:Nat)(hj:j<n)(r:List Int):dotL n r (unitL n j)=r.getD j 0:=by
 unfold dotL;refine(zp (g:=fun b=>r.getD b 0*unitR j b) fun b hb=>?_).trans (sum_unit' n j hj r);rw [zaB n j b hb];rfl
where
 sum_unit' (n j:Nat) (hj:j<n) (r:List Int):sumN n (fun b=>r.getD b 0*unitR j b)=r.getD j 0:=by
  have:=zbe n j hj (fun b=>r.getD b 0*unitR j b) (fun i _ hij=>by show _ *(if i=j then (1:Int) else 0)=0;rw [if_neg hij,Int.mul_zero]);rw [this];show _ *(if j=j then (1:Int) else 0)=_;rw [if_pos rfl,Int.mul_one]
theorem zhV (n m:Nat)(r:List Int):dotL n r (List.replicate m 0)=0:=by
 unfold dotL;refine(zp (g:=fun _=>0) fun b _=>?_).trans (zay _);rw [zan,Int.mul_zero]
theorem zhT (n:Nat)(r u v:List Int)(x y:Int)(hu:u.length=n)(hv:v.length=n):dotL n r (List.zipWith (fun a b=>x*a+y*b) u v)=x*dotL n r u+y*dotL n r v:=by
 unfold dotL;rw [← zaL,← zaL,← zci];refine zp fun b hb=>?_;rw [zi _ _ _ (by omega) b (by omega),Int.mul_add,← Int.mul_assoc,← Int.mul_assoc,← Int.mul_assoc,← Int.mul_assoc,Int.mul_comm _ x,Int.mul_comm _ y]
theorem zk3 (ms:List (List Int))(n:Nat)(z:List Int):Gens (ms.length+n) (InL (tracedL ms n)) z↔∃ v,v.length=n∧z=(ms.map fun r=>dotL n r v)++v:=by
 constructor
 ·intro h
  induction h with
  | base hv hl=>
   obtain⟨j,hj,rfl⟩:=List.mem_map.1 hv;rw [List.mem_range] at hj;refine⟨unitL n j,zx n j,?_⟩;congr 1;exact List.map_congr_left fun r _=>(zhU n j hj r).symm
  | zero=>
   refine⟨List.replicate n 0,by simp,?_⟩;rw [← List.replicate_append_replicate];congr 1;rw [List.map_congr_left (g:=fun _=>(0:Int)) fun r _=>zhV n n r,List.map_const']
  | comb x y _ _ h1 h2=>
   obtain⟨u,hu,rfl⟩:=h1;obtain⟨v,hv,rfl⟩:=h2;refine⟨List.zipWith (fun a b=>x*a+y*b) u v,by rw [zg _ _ _ (by omega)];omega,?_⟩;rw [zbo x y _ _ _ _ (by rw [zM,zM])];congr 1;apply zR (by rw [zg _ _ _ (by rw [zM,zM]),zM,zM]);intro i hi;rw [zg _ _ _ (by rw [zM,zM]),zM] at hi;rw [zi _ _ _ (by rw [zM,zM]) i (by rw [zM];exact hi),zby _ _ _ hi,zby _ _ _ hi,zby _ _ _ hi,zhT n _ u v x y hu hv]
 ·rintro ⟨v,hv,rfl⟩;refine zcE (zbH ms n) (by rw [List.length_append,zM,hv]) ⟨fun k=>v.getD k 0,fun b hb=>?_⟩;rw [zJ];dsimp only;by_cases hbm:b<ms.length
  ·rw [zaW _ _ _ (by rw [zM];exact hbm),zby _ _ _ hbm];unfold dotL;refine zp fun k hk=>?_;rw [zcj _ _ _ hk,zaW _ _ _ (by rw [zM];exact hbm),zby _ _ _ hbm,Int.mul_comm]
  ·have e:b=ms.length+(b-ms.length):=by omega
   have g1:=zaX (ms.map fun r=>dotL n r v) v (b-ms.length);rw [zM,← e] at g1;rw [g1];refine((zp (g:=fun k=>v.getD k 0*unitR k (b-ms.length)) fun k hk=>?_).trans (zeg n (fun k=>v.getD k 0) (b-ms.length) (by omega))).symm;have g2:=zaX (ms.map fun r=>r.getD k 0) (unitL n k) (b-ms.length);rw [zM,← e] at g2;rw [zcj _ _ _ hk,g2,zaB n k _ (by omega)];rfl
theorem ziI {ms ts:List (List Int)}(F:FormL (ms.length+n) ts p)(a:Alikes (ms.length+n) (InL ts) (InL (tracedL ms n)))(hv:v.length=n):
  Gens n (InL (behindL ms.length ts)) v↔∀ r∈ms,dotL n r v=0:=by
 rw [zeE F hv,a,zk3];constructor
 ·rintro ⟨u,hu,e⟩;have h:=List.append_inj' e (by omega);obtain⟨h1,rfl⟩:=h;intro r hr;have:dotL n r v∈ms.map fun r=>dotL n r v:=List.mem_map.2 ⟨r,hr,rfl⟩;rw [← h1] at this;exact List.eq_of_mem_replicate this
 ·intro h;refine⟨v,hv,?_⟩;congr 1;rw [List.map_congr_left (g:=fun _=>(0:Int)) fun r hr=>h r hr,List.map_const']
theorem zfK (qs:List (Nm × Int)):(qs.flatMap ncells).length=qs.length*2:=by
 induction qs with
 | nil=>rfl
 | cons p qs ih=>rw [List.flatMap_cons,List.length_append,ih,List.length_cons];simp [ncells];omega
theorem zjA (qs:List (Nm × Int))(u:Value)(hu:u∈qs.flatMap ncells):u.oneCell'=true:=by
 obtain⟨p,-,h⟩:=List.mem_flatMap.1 hu;simp only [ncells,List.mem_cons,List.mem_nil_iff,or_false] at h;rcases h with rfl | rfl <;> rfl
theorem VecN.rows(h:VecN W (.slice (some ⟨P,0,none⟩) zs.length zs.length) zs n):
  ∃ qs:List (Nm × Int),qs.map (·.2)=zs∧(∀ j u,(qs.flatMap ncells)[j]?=some u→W.cell? ((⟨P,0,none⟩:Addr).add j)=some u)∧∀ p∈qs,NumL W p.1.val p.2 n∧∀ {w:World},NewV w W P zs.length→NewSl w p.1.sl:=by
 have key:∀ i,i<zs.length→∃ r:Nm,W.cell? ⟨P,i*2,none⟩=some (.bool r.neg)∧W.cell? ⟨P,i*2+1,none⟩=some (.slice r.o r.l r.c)∧NumL W r.val (zs.getD i 0) n:=fun i hi=>by
  obtain⟨-,neg,o,l,c,h1,h2,h3⟩:=h.at i hi;rw [Nat.zero_add] at h1 h2;exact⟨⟨neg,o,l,c⟩,h1,h2,h3⟩
 let f:Nat→Nm:=fun i=>if hi:i<zs.length then Classical.choose (key i hi) else ⟨false,none,0,0⟩
 have hf:∀ i,i<zs.length→W.cell? ⟨P,i*2,none⟩=some (.bool (f i).neg)∧W.cell? ⟨P,i*2+1,none⟩=some (.slice (f i).o (f i).l (f i).c)∧NumL W (f i).val (zs.getD i 0) n:=fun i hi=>by
  have:=Classical.choose_spec (key i hi);simpa only [f,dif_pos hi] using this
 let qs:List (Nm × Int):=(List.range zs.length).map fun i=>(f i,zs.getD i 0)
 have hl:qs.length=zs.length:=by simp [qs]
 have hq:∀ i (hi:i<qs.length),qs[i]=(f i,zs.getD i 0):=fun i hi=>by simp [qs]
 refine⟨qs,?_,fun j u hj=>?_,fun p hp=>?_⟩
 ·apply List.ext_getElem (by rw [zM,hl]);intro i h1 h2;rw [List.getElem_map,hq i (by omega),zG,List.getElem?_eq_getElem h2];rfl
 ·have hjl:j<(qs.flatMap ncells).length:=(List.getElem?_eq_some_iff.1 hj).1;rw [zfK,hl] at hjl;have ea:(⟨P,0,none⟩:Addr).add j=⟨P,j,none⟩:=by unfold Addr.add;split <;> simp_all
  rw [ea];obtain⟨e1,e2⟩:=zfJ qs (j/2) (by omega);rw [hq _ (by omega)] at e1 e2;obtain⟨c1,c2,-⟩:=hf (j/2) (by omega);rcases(by omega:j=j/2*2∨j=j/2*2+1) with e | e
  ·rw [← e] at e1 c1;rw [hj] at e1;rw [c1,e1]
  ·rw [← e] at e2 c2;rw [hj] at e2;rw [c2,e2]
 ·obtain⟨i,hi,rfl⟩:=List.getElem_of_mem hp;rw [hq i hi];obtain⟨c1,c2,c3⟩:=hf i (by omega);exact⟨c3,fun hn=>hn i (by omega) _ _ _ c2⟩
theorem Tryz.infoInt9:(Tryz.prog.info? 3).map (fun i=>(i.zero,i.size,i.bytes))=some (some (.int .i64 0),1,8):=by kernel_rfl
theorem zga (m:Nat)(hm:m≤1000)(W:World):(Instr.makeSlice 38 (.int .i64 (m:Int)) (.int .i64 (m:Int))).run Tryz.prog W=.ok (.slice (some ⟨W.heap.size,0,none⟩) m m) (W.alloc (.cells (madeCells #[.int .i64 0] m) 3)):=by
 obtain⟨i0,hi,hz0,hz1,hz2⟩:=info_parts Tryz.infoInt9;have h:=run_make (P:=Tryz.prog) W 38 3 i0 (.int .i64 0) Tryz.underlying38 hi hz0 .i64 .i64 m m (by omega) (by omega) (by rw [hz2];omega) (by omega);rw [hz1,Int.toNat_natCast,Nat.mul_one] at h;exact h
theorem zgD (n k:Nat)(hk:k<n)(j:Nat)(hj:j<n):((madeCells #[.int .i64 0] n).setIfInBounds k (.int .i64 1))[j]?=some (.int .i64 ((unitL n k).getD j 0)):=by
 rw [zaB n k j hj];by_cases e:j=k
 ·subst e;rw [if_pos rfl,Array.getElem?_setIfInBounds_self_of_lt (by simp [madeCells,hk])]
 ·rw [if_neg e,Array.getElem?_setIfInBounds_ne (by omega)];simp [madeCells,hj,Nat.mod_one]
theorem zk1 (w:World)(va:Value)(n nv:Nat)(hs:List (List Int))(ha:MatN w va hs nv)(hl:∀ r∈hs,r.length=n)(hn1:1≤n)(hn:n≤100)(hm:hs.length≤100)(h2:2≤nv):
  Calls Tryz.prog 112 #[va,.int .i64 (n:Int)] w fun e w'=>∃ u,e=.returned u∧MatN w' u (tracedL hs n) nv∧Below w.heap.size w w':=by
 obtain⟨i0,hi,hz0,hz1,hz2⟩:=info_parts Tryz.infoNum;have HT:=hide (zk5 w va n nv hs ha hl hn hm);obtain⟨ao,acap,rfl,-,-⟩:=ha;clear hl;have hmk:=zga n (by omega);go_enter Tryz.func112,Tryz.ntmps112;go_wp2_with fail;refine HT.out.mono ?_;rintro e w1 ⟨O,vs,ps,rfl,ho,hp⟩;have HO0:=hide ho;have HP0:Hid (∀ i,i<n→(ps i).map (·.2)=if i<0 then colL hs i++unitL n i else colL hs i):=fun i hi=>by rw [if_neg (Nat.not_lt_zero i)];exact hp i hi
 clear ho hp HT;go_wp2;go_loopw [12] (fun x wr=>∃(k:Nat) (vs:Nat→Value) (ps:Nat→List (Nm × Int)),k≤n∧x=.int .i64 k∧Hid (OutG w wr O n vs ps nv)∧Hid (∀ i,i<n→(ps i).map (·.2)=if i<k then colL hs i++unitL n i else colL hs i)) (fun x _=>n-(intOf x).toNat)
 case atStart=>exact⟨0,_,_,Nat.zero_le _,rfl,HO0,HP0⟩
 case round=>
  clear HO0 HP0 vs ps;obtain⟨k,vs,ps,hk,rfl,HOr,HD⟩:=hrel;by_cases hkl:k<n
  ·have hbu:Below wr.heap.size wr (wr.alloc (.cells ((madeCells #[.int .i64 0] n).setIfInBounds k (.int .i64 1)) 3)):=(zB _ _).alloc zL _;have hun:k<(madeCells #[Value.int .i64 0] n).size:=by simp [madeCells,hkl]
   have HO:=hide (HOr.out.later hbu);have HUS0:Hid (RowS (wr.alloc (.cells ((madeCells #[.int .i64 0] n).setIfInBounds k (.int .i64 1)) 3)) (.slice (some ⟨wr.heap.size,0,none⟩) n n) (unitL n k)):=by
    refine⟨_,_,by rw [zx],by rw [zx];exact Nat.le_refl _,fun i=>?_,fun _=>⟨_,_,rfl,by simp,fun i hi=>?_⟩⟩
    ·by_cases h:i<n
     ·rw [zaB n k i h];split <;> decide
     ·rw [zG,List.getElem?_eq_none (by rw [zx];omega)];decide
    ·rw [zx] at hi;rw [Nat.zero_add,World.cell?_alloc_new];exact zgD n k hkl i hi
   clear hbu HOr;go_wp2_with fail;generalize hWX:wr.alloc (.cells ((madeCells #[.int .i64 0] n).setIfInBounds k (.int .i64 1)) 3)=wx at *;have HUS:=hide (HUS0.out.below (zB wx.heap.size wx).drew zL);clear hWX HUS0;have c5:=HO.out.cell k hkl;obtain⟨vo,vl,vc,hvk⟩:∃ vo vl vc,vs k=.slice vo vl vc:=by
    rcases(HO.out.grow k hkl).1.2 with⟨e1,-⟩ |⟨g',cap',cur,e1,-⟩
    ·exact⟨_,_,_,e1⟩
    ·exact⟨_,_,_,e1⟩
   rw [hvk] at c5;have hOlt:=HO.out.lt;have HVK:=hide hvk;have HPL:Hid ((ps k).length=hs.length):=by
    have h1:=congrArg List.length (HD.out k hkl);rw [if_neg (Nat.lt_irrefl _)] at h1;unfold colL at h1;rw [zM,zM] at h1;exact h1
   have HON:=hide (HO.out.own_ne hkl);clear hvk hun;refine zq (S:=(fun w'=>w'.cell? ⟨O,k,none⟩=some (.slice vo vl vc))) (k:=10) (by kernel_rfl) (by exact c5) (fun hHeld=>?_);refine zd 0 20 [10] ?_;try simp only [zA]
   refine zd 1 21 [10] ?_;try simp only [zA]
   refine zd 2 22 [10] ?_;try simp only [zA]
   refine zd 3 23 [10] ?_;try simp only [zA]
   refine zd 4 24 [10] ?_;try simp only [zA]
   refine zd 5 25 [10] ?_;try simp only [zA]
   refine zd 6 26 [10] ?_;try simp only [zA]
   refine ze 7 (by kernel_rfl) rfl (fun K hK=>?_);go_simp;refine(zjL _ _ (unitL n k) (by exact HUS.out) (by rw [zx];omega)).mono ?_;rintro e w2 ⟨P,rfl,hv2,hn2⟩;have HV2:=hide hv2;have HN2:=hide hn2;have hb2:Below wx.heap.size wx w2:=((zB _ _).drew).trans hv2.below;have HOA:=hide (HO.out.later hb2);have d5:=(hb2.cell (p:=⟨O,k,none⟩) hOlt).trans c5;have hus:=HO.out.low.size;have hx2:=hb2.size;rw [zx] at *;clear hv2 hn2 hb2;go_wp2_with fail;refine hK.out _ _ (fun _=>d5) ?_;clear hK K;try simp only [zA]
   obtain⟨qs,hqz,hqc,hqn⟩:=HV2.out.vec.rows;have HQC:=hide hqc;have HQN:=hide hqn;have HQZ:=hide hqz;have hql:qs.length=n:=by have:=congrArg List.length hqz;rw [zM,zx] at this;exact this
   clear hqc hqn hqz;refine ze 8 (by kernel_rfl) rfl (fun K hK=>?_);refine step_append_lies _ rfl (.tmp 25) (.tmp 27) 72 rfl w.heap.size 29 i0 (.agg #[.bool false,.slice none 0 0]) 2 32 (by kernel_rfl) hi hz0 hz1 hz2 rfl (by decide) (.slice vo vl vc) (ps k).length ((ps k).flatMap ncells) rfl (by have:=(HOA.out.grow k hkl).1;rw [HVK.out] at this;exact this) ⟨P,0,none⟩ n n (qs.flatMap ncells) rfl (by rw [zfK,hql]) HQC.out (fun u hu=>zjA qs u hu) (by omega) (by unfold maxLen;have:=HPL.out;omega) (by have:=HPL.out;omega) (by omega) w2.heap.size (by first | rfl | simp) ?_;intro g5 cap5 w5 hown5 hgrow5 hat5 hlt5;have HO5:=hide hown5;have HG5:=hide hgrow5;have HA5:=hide hat5;clear hown5 hgrow5 hat5 hlt5;have e5:=HG5.out.cell d5 (by rw [← HVK.out];exact HON.out);refine hK.out _ _ (fun _=>e5) ?_;clear hK K;try simp only [zA]
   have hHeld5:(fun w'=>w'.cell? ⟨O,k,none⟩=some (.slice vo vl vc)) w5:=e5;clear hHeld;refine zd 9 29 [10] ?_;try simp only [zA]
   have HP:=hide (HOA.out.push hkl qs (fun p hp=>(HQN.out p hp).1.mono h2) (fun i hi p hp a l c e h0 hb=>by
    have h1:=(HQN.out p hp).2 (by rw [zx];exact HN2.out) a l c e;have h2:=zcS (HO.out.grow i hi) hb.symm;have h3:wx.heap.size≤a.block:=h1;omega) (L:=(ps k).length+n) (by rw [hql]) HO5.out (by rw [HVK.out];exact HG5.out) (by rw [HVK.out];exact HA5.out.imp id fun h=>by rw [h];exact Nat.le_refl _))
   have ef:w5.frozen? ⟨O,k,none⟩=false:=by
    have h1:=HOA.out.thaw k;rw [World.frozen?_of_block (a:=⟨O,k,none⟩) (HG5.out.block O HOA.out.lt (by rw [← HVK.out];exact HON.out))];exact h1
   refine ze 10 (by kernel_rfl) rfl (fun K hK=>?_);go_simp;refine hK.out _ _ (fun h=>absurd h (by decide)) ?_;clear hK K;try simp only [zA]
   refine zk (by kernel_rfl) ?_;have HD':Hid (∀ i,i<n→(updN ps k (ps k++qs) i).map (·.2)=if i<k+1 then colL hs i++unitL n i else colL hs i):=fun i hi=>by
    by_cases e:i=k
    ·rw [e,zaC,List.map_append,HD.out k hkl,if_neg (Nat.lt_irrefl _),HQZ.out,if_pos (by omega)]
    ·rw [zal _ _ _ e,HD.out i hi];by_cases h:i<k
     ·rw [if_pos h,if_pos (by omega)]
     ·rw [if_neg h,if_neg (by omega)]
   clear c5 d5 e5 ef HO5 HG5 HA5 HOA HO HD hHeld5 HV2 HN2 HQC HQN HQZ HUS;go_wp2;go_roundw
   case rel=>exact⟨k+1,_,_,by omega,by go_num,HP,HD'⟩
   case measure=>simp [intOf];omega
  ·obtain rfl:k=n:=by omega
   have HF:=hide (HOr.out.mat (tracedL hs k) (zJ hs k) (fun i hi=>by rw [HD.out i hi,if_pos hi,zcj hs k i hi];rfl));have HB:=hide HOr.out.low;clear HOr HD;go_wp2;go_ret;exact⟨_,rfl,HF.out,HB.out⟩
end Go.Proofs.YtdedolkgcdlmeaaGreatDoor
