import Derived.Test.YtdedolkgcdlmeaaGreatDoorMeR
namespace Go.Proofs.YtdedolkgcdlmeaaGreatDoor
open Go.RowKit Limbs
variable{n B k nv base c g km:Nat}{u v m:Value}{W W0 W' wr:World}{row:Option Nat}{r rk:List Int}{p:Nat→Nat}{z:Int}
def ent (ts:List (List Int))(k b:Nat):Int:=(ts.getD k []).getD b 0
theorem zkA (c m:Nat)(f:Nat→Int)(h:∀ k,c≤k→k<c+m→f k=0):sumN (c+m) f=sumN c f:=by
 induction m with
 | zero=>rfl
 | succ m ih=>
  have e:sumN (c+(m+1)) f=sumN (c+m) f+f (c+m):=rfl;rw [e,ih fun k h1 h2=>h k h1 (by omega),h (c+m) (by omega) (by omega),Int.add_zero]
theorem zh2{hs ks:List (List Int)}(F:FormL n hs p)(a:Alikes n (InL hs) (InL ks)):hs.length≤ks.length:=by
 obtain⟨C,hC⟩:=zaY (r:=hs.length) (n:=n) (mm:=ks.length) (H:=ent hs) (M:=ent ks) fun k hk=>by
  have hm:hs[k]∈hs:=List.getElem_mem hk;have g:=zas ((a hs[k]).1 (.base hm (F.len _ hm)));have e:ent hs k=fun b=>hs[k].getD b 0:=by funext b;unfold ent;rw [zl hk]
  rw [e];exact g
 exact zcL hs.length ks.length n (ent hs) (ent ks) C p F.form.lt (fun i k hi hki=>F.form.zero i (p k) hi (F.form.inc k i hki hi)) (fun i hi=>F.form.pos i hi) hC
section
variable {hs ts:List (List Int)}{n:Nat}{ph p:Nat→Nat}
theorem zgq (hs:List (List Int))(n j:Nat)(hj:j<n):Gens (hs.length+n) (InL (tracedL hs n)) ((tracedL hs n).getD j []):=
 .base (zF (by rw [zZ];exact hj)) (zcc hs n _ (zF (by rw [zZ];exact hj)))
theorem zkZ (hs:List (List Int))(n j b:Nat)(hj:j<n)(hb:b<hs.length):ent (tracedL hs n) j b=ent hs b j:=by
 unfold ent;rw [zcb hs n j hj,zaS _ _ _ (by rw [zM];exact hb),zbr _ _ _ hb]
theorem zgr (hs:List (List Int))(n j b:Nat)(hj:j<n)(hb:b<n):ent (tracedL hs n) j (hs.length+b)=if b=j then 1 else 0:=by
 unfold ent;have g:=zaT (hs.map fun r=>r.getD j 0) (unitL n j) b;rw [zM] at g;rw [zcb hs n j hj,g,zax n j b hb]
theorem zkX (F:FormL (hs.length+n) ts p)(a:Alikes (hs.length+n) (InL ts) (InL (tracedL hs n))):ts.length=n:=by
 have h1:=zh2 F a;rw [zZ] at h1;obtain⟨C,hC⟩:=zaY (r:=n) (n:=hs.length+n) (mm:=ts.length) (H:=ent (tracedL hs n)) (M:=ent ts) fun k hk=>zas ((a _).2 (zgq hs n k hk));have h2:=zcL n ts.length (hs.length+n) (ent (tracedL hs n)) (ent ts) C (fun k=>hs.length+k) (fun k hk=>by omega)
  (fun i k hi hki=>by rw [zgr hs n i k hi (by omega),if_neg (by omega)]) (fun i hi=>by rw [zgr hs n i i hi hi,if_pos rfl];exact Int.le_refl 1) hC
 omega
theorem zgJ (G:FormL n hs ph)(F:FormL (hs.length+n) ts p)(a:Alikes (hs.length+n) (InL ts) (InL (tracedL hs n)))(hc:c≤ts.length)(h1:∀ k,k<c→p k<hs.length)(h2:∀ k,c≤k→k<ts.length→hs.length≤p k):c=hs.length:=by
 have hle:∀ k,k<c→k≤p k:=fun k=>by
  induction k with
  | zero=>exact fun _=>Nat.zero_le _
  | succ k ih=>intro hk;have:=ih (by omega);have:=F.form.inc k (k+1) (by omega) (by omega);omega
 have hc1:c≤hs.length:=by
  by_cases h0:c=0
  ·omega
  ·have:=hle (c-1) (by omega);have:=h1 (c-1) (by omega);omega
 obtain⟨C,hC⟩:=zaY (r:=hs.length) (n:=hs.length) (mm:=c) (H:=fun i b=>ent hs b (ph (hs.length-1-i))) (M:=ent ts) fun i hi=>by
  have hj:ph (hs.length-1-i)<n:=G.form.lt _ (by omega);obtain⟨d,hd⟩:=zas ((a _).2 (zgq hs n _ hj));refine⟨d,fun b hb=>?_⟩;have e1:ent (tracedL hs n) (ph (hs.length-1-i)) b=sumN ts.length (fun k=>d k*ent ts k b):=hd b (by omega);rw [zkZ hs n _ b hj hb] at e1;show ent hs b (ph (hs.length-1-i))=_;rw [e1,show ts.length=c+(ts.length-c) by omega];refine zkA c _ _ fun k hk1 hk2=>?_;have h3:=h2 k hk1 (by omega);have e0:ent ts k b=0:=F.form.zero k b (by omega) (by omega);rw [e0,Int.mul_zero]
 have:=zcL hs.length c hs.length (fun i b=>ent hs b (ph (hs.length-1-i))) (ent ts) C (fun k=>hs.length-1-k) (fun k hk=>by omega)
  (fun i k hi hki=>G.form.zero (hs.length-1-k) (ph (hs.length-1-i)) (by omega) (G.form.inc _ _ (by omega) (by omega)))
  (fun i hi=>G.form.pos (hs.length-1-i) (by omega)) hC
 omega
theorem zgU (F:FormL (hs.length+n) ts p):∃ c,c≤ts.length∧(∀ k,k<c→p k<hs.length)∧(∀ k,c≤k→k<ts.length→hs.length≤p k)∧behindL hs.length ts=(ts.drop c).map (·.drop hs.length):=by
 obtain⟨c,h0,h1,h2,e⟩:=zdh (n:=hs.length) F;exact⟨c,h0,h1,h2,by unfold behindL;rw [e]⟩
theorem ze9 (G:FormL n hs ph)(F:FormL (hs.length+n) ts p)(a:Alikes (hs.length+n) (InL ts) (InL (tracedL hs n))):(behindL hs.length ts).length+hs.length=n:=by
 obtain⟨c,h0,h1,h2,e⟩:=zgU F;have hc:=zgJ G F a h0 h1 h2;have ht:=zkX F a;rw [e,zM,List.length_drop];omega
end
structure KerOf (n:Nat)(ms ks:List (List Int)):Prop where
 form:∃ q,FormL n ks q
 all:∀ v:List Int,v.length=n→(Gens n (InL ks) v↔∀ r∈ms,dotL n r v=0)
theorem kerOf{ms us:List (List Int)}{q:Nat→Nat}(F:FormL (ms.length+n) us q)(a:Alikes (ms.length+n) (InL us) (InL (tracedL ms n))):KerOf n ms (behindL ms.length us):=
 ⟨zbF F,fun _ hv=>ziB F a hv⟩
open Digs
theorem zds{ms ks ls:List (List Int)}(K:KerOf n ms ks)(L:KerOf n ms ls):ks=ls:=by
 obtain⟨p,F⟩:=K.form;obtain⟨q,G⟩:=L.form;exact zar F G fun v=>⟨fun h=>(L.all v h.len).2 ((K.all v h.len).1 h),fun h=>(K.all v h.len).2 ((L.all v h.len).1 h)⟩
theorem ziy (n:Nat):KerOf n [] (unitsL n):=by
 refine⟨⟨_,zcd n⟩,fun v hv=>⟨fun _ r hr=>(by cases hr),fun _=>?_⟩⟩;refine zcw (fun r hr=>(zcd n).len r hr) hv ⟨fun k=>v.getD k 0,fun b hb=>?_⟩;rw [zbb];refine((zm (g:=fun k=>v.getD k 0*unitR k b) fun k hk=>?_).trans (zdZ n (fun k=>v.getD k 0) b hb)).symm;show v.getD k 0 *((unitsL n).getD k []).getD b 0=_;rw [zd4 n k hk,zax n k b hb];rfl
theorem zgV{f:Nat}{ts l:List (List Int)}(F:FormL (f+n) ts p)(ha:Alikes (f+n) (InL ts) (InL l))(hl:∀ r∈l,r.length=f+n)(hb:∀ r∈l,∀ j,j<f+n→ab (r.getD j 0)<bp nv)(hn:f+n≤8):∀ zs∈behindL f ts,∀ j,j<zs.length→-dp (3 *((f+n)*nv+2))<zs.getD j 0∧zs.getD j 0<dp (3 *((f+n)*nv+2)):=fun zs hz j hj=>by
 have hB:=zdj F ha hl hb (by omega);unfold behindL at hz;obtain⟨t,ht,rfl⟩:=List.mem_map.1 hz;have hm:=(List.mem_filter.1 ht).1;rw [List.length_drop] at hj;have h1:=hB t hm (f+j) (by omega);rw [zbk];have h2:=zcV ((f+n)*nv+2);unfold ab at h1;omega
theorem zkV {ms:List (List Int)}(h:∀ r∈ms,∀ j,j<n→ab (r.getD j 0)<bp nv)(h1:1≤nv):∀ r∈tracedL ms n,∀ j,j<ms.length+n→ab (r.getD j 0)<bp nv:=fun r hr j hj=>by
 unfold tracedL at hr;obtain⟨i,hi,rfl⟩:=List.mem_map.1 hr;rw [List.mem_range] at hi;have hbp:(1:Int)<bp nv:=by
  have:bp 1≤bp nv:=zaa h1;have e:bp 1=4294967296:=by decide
  omega
 by_cases hjm:j<ms.length
 ·have e:((ms.map fun r=>r.getD i 0)++unitL n i).getD j 0=ms[j].getD i 0:=by
   rw [zG,List.getElem?_append_left (by rw [zM];exact hjm),List.getElem?_map,List.getElem?_eq_getElem hjm];rfl
  rw [e];exact h _ (List.getElem_mem hjm) i hi
 ·have e:((ms.map fun r=>r.getD i 0)++unitL n i).getD j 0=(unitL n i).getD (j-ms.length) 0:=by
   rw [zG,List.getElem?_append_right (by rw [zM];omega),zM];rfl
  rw [e];have:(unitL n i).getD (j-ms.length) 0=0∨(unitL n i).getD (j-ms.length) 0=1:=by
   rw [zax n i _ (by omega)];split <;> simp
  unfold ab;omega
theorem ze7 (w:World)(v:Value)(n:Nat)(hs:List (List Int))(p:Nat→Nat)(hv:MatR w v hs 18)(F:FormL n hs p)(ba:∀ r∈hs,∀ j,j<n→ab (r.getD j 0)<bp 6)(h1:1≤n)(h4:n≤4):
  Calls Tryz.prog 28 #[v,.int .i64 (n:Int)] w fun e w'=>∃ o c ks,e=.returned (.slice o ks.length c)∧MatQ False w' (.slice o ks.length c) ks 150∧KerOf n hs ks∧Below w.heap.size w w':=by
 have hsh:=F.short;refine(ziA w v hs n 18 hv F.len h1 (by omega) (by omega) (by decide) (Nat.le_trans (zt (j:=9) (by omega)) (by decide))).mono ?_;rintro e w' ⟨u,ts,q,rfl,hm,hF,ha,hb⟩;have hm':MatQ False w' u (behindL hs.length ts) 150:=hm.fits fun zs hz j hj=>by
  have h:=zgV hF ha (zcc hs n) (zkV ba (by decide)) (by omega) zs hz j hj;have h2:dp (3 *((hs.length+n)*6+2))≤dp 150:=zaB (by omega);omega
 have hm2:=hm';obtain⟨o,c,rfl,-,-⟩:=hm';exact⟨o,c,_,rfl,hm2,kerOf hF ha,hb⟩
theorem ziz (w:World)(v:Value)(n:Nat)(ms:List (List Int))(p:Nat→Nat)(hv:MatQ False w v ms 150)(F:FormL n ms p)(h1:1≤n)(h4:n≤4):
  Calls Tryz.prog 28 #[v,.int .i64 (n:Int)] w fun e w'=>∃ o c ks,e=.returned (.slice o ks.length c)∧MatQ False w' (.slice o ks.length c) ks 1000000∧KerOf n ms ks∧Below w.heap.size w w':=by
 have hsh:=F.short;refine(ze8 w v ms n 150 hv F.len h1 (by omega) (by omega) (by decide) (Nat.le_trans (zt (j:=9) (by omega)) (by decide))).mono ?_;rintro e w' ⟨u,ts,q,rfl,hm,hF,ha,hb⟩;have hle:eB (dT 150 (n+min n (ms.length+n))+7) (ms.length+n)≤1000000:=
  Nat.le_trans (zcs (Nat.add_le_add_right (zt (j:=8) (by omega)) 7)) (Nat.le_trans (zct (d:=8) (by omega)) (by decide))
 have hm':MatQ False w' u (behindL ms.length ts) 1000000:=hm.mono hle;have hm2:=hm';obtain⟨o,c,rfl,-,-⟩:=hm';exact⟨o,c,_,rfl,hm2,kerOf hF ha,hb⟩
theorem zja (w:World)(N:Nat):MatR w (.slice none 0 0) [] N:=⟨none,0,rfl,Nat.le_refl _,fun h=>by simp at h⟩
theorem zix (w:World)(n:Nat)(h1:1≤n)(h4:n≤4):
  Calls Tryz.prog 28 #[.slice none 0 0,.int .i64 (n:Int)] w fun e w'=>∃ o c,e=.returned (.slice o (unitsL n).length c)∧MatQ False w' (.slice o (unitsL n).length c) (unitsL n) 150∧Below w.heap.size w w':=by
 refine(ze7 w _ n [] (fun _=>0) (zja w 18) (zdk n) (fun r hr=>by cases hr) h1 h4).mono ?_;rintro e w' ⟨o,c,ks,rfl,hm,K,hb⟩;obtain rfl:ks=unitsL n:=zds K (ziy n);exact⟨o,c,rfl,hm,hb⟩
theorem zcS (w:World)(v:Value)(n N:Nat)(hs:List (List Int))(p:Nat→Nat)(hv:MatR w v hs N)(F:FormL n hs p)(h1:1≤n)(h4:n≤4)(hN:N≤1000000):
  Calls Tryz.prog 24 #[.int .i64 (n:Int),v] w fun e w'=>∃ o c,e=.returned (.agg #[.int .i64 (n:Int),.slice o hs.length c])∧LatN w' (.agg #[.int .i64 (n:Int),.slice o hs.length c]) n hs N∧Below w.heap.size w w':=
 zcl w v n N hs p F h1 (fun W' hb'=>zcE W' _ hs N (hv.below hb' zL) (by have:=F.short;omega) (fun zs hz=>by rw [F.len zs hz];omega) hN)
theorem zcR (w:World)(v:Value)(n N:Nat)(hs:List (List Int))(hv:MatQ False w v hs N)(hF:∃ p,FormL n hs p)(h1:1≤n)(h4:n≤4)(hN:N≤1000000):
  Calls Tryz.prog 24 #[.int .i64 (n:Int),v] w fun e w'=>∃ o c,e=.returned (.agg #[.int .i64 (n:Int),.slice o hs.length c])∧LatN w' (.agg #[.int .i64 (n:Int),.slice o hs.length c]) n hs N∧Below w.heap.size w w':=by
 obtain⟨p,F⟩:=hF;exact zcl w v n N hs p F h1 (fun W' hb'=>zfq W' _ hs N (hv.below hb' zL) (by have:=F.short;omega) (fun zs hz=>by rw [F.len zs hz];omega) hN)
theorem zbx (w:World)(va vb:Value)(n nv mv:Nat)(hs ks:List (List Int))(ha:LatN w va n hs nv)(hb:LatN w vb n ks mv)(hn:n≤4)(he:hs=ks):
  Calls Tryz.prog 23 #[va,vb] w fun e w'=>e=.returned (.bool true)∧Below w.heap.size w w':=by
 refine(zdO w va vb n nv mv hs ks ha hb (by omega)).mono ?_;rintro e w' ⟨rfl,h⟩;exact⟨by rw [decide_eq_true he],h⟩
theorem zll {P:Program}{w:World}{ops:Array Oper}{rest:List Oper}{op:Oper}{a:Act}{Q:Exit→Act→World→Prop}(hgd:op.guard=none)(s x:Operand)(t:TypeId)
  (ho:op.op=.call { callee:=.builtin .append,args:=#[s,x],argTypes:=#[t,t] })
  (base:Nat) (e:TypeId) (i:TypeInfo) (bytes:Nat) (ht:P.underlying t=some (.slice e)) (hi:P.info? e=some i) (hz:i.zero=some (.slice none 0 0))
  (hsize:i.size=1) (hby:i.bytes=bytes) (v:Value) (n:Nat) (xs:List Value) (hs:a.eval s=v) (hown:w.ownsRow base e 1 v n xs) (hall:AllSl w v.ownBlock)
  (ad:Addr) (cc:Nat) (o:Option Addr) (l c:Nat) (hx:a.eval x=.slice (some ad) 1 cc) (hnews:∀ j u,[Value.slice o l c][j]?=some u→w.cell? (ad.add j)=some u)
  (h63:n+1≤maxLen) (hbytes:(n+1)*bytes≤140737488355328) (hbase:base≤w.heap.size)
  (h:∀ g cap w',w'.ownsRow base e 1 (.slice (some ⟨g,0,none⟩) (n+1) cap) (n+1) (xs++[.slice o l c])→w.grownBy w' v.ownBlock→AllSl w' (some g)→(v.ownBlock=some g∨g=w.heap.size)→wpList P ops Q rest (a.put op.dst (.slice (some ⟨g,0,none⟩) (n+1) cap)) w'):wpList P ops Q (op::rest) a w:=by
 refine wpList_plain hgd fun K hK=>?_;subst hby;obtain⟨g,cap,w',hr,h2,h3,h4,h5⟩:=run_append_lies (P:=P) w t op.type base e i (.slice none 0 0) 1 i.bytes ht hi hz hsize rfl rfl (by decide) v n xs hown ad 1 cc [.slice o l c] rfl hnews (fun u hu=>by rw [List.mem_singleton] at hu;rw [hu];rfl) (by decide) h63 hbytes hbase _ rfl;have hA:=zfY w t op.type base e i ht hi hz hsize v n xs hown hall ad o l c cc hnews h63 hbytes g cap w' hr;unfold Oper.wp execOp;simp only [ho,resolve,invoke,builtin,Sem.run_bind,Sem.run_pure,Result.andThen_ok,List.map_toArray,List.map_cons,List.map_nil,hs,hx,hr];exact hK _ _ (h g cap w' h2 h3 hA h4)
def Sep (u:Value)(row:Option Nat):Prop:=∀ a l c,u=.slice (some a) l c→some a.block≠row
theorem Fresh.sep(h:Fresh base u)(hg:g<base):Sep u (some g):=fun a l c e h'=>by
 have:=h a l c e;simp only [Option.some.injEq] at h';omega
theorem MatN.grownH{hs:List (List Int)}(h:MatN W u hs n)(hg:W.grownBy W' row)(hr:AllSl W row)(hsep:0<hs.length→Sep u row):MatN W' u hs n:=by
 obtain⟨ao,cap,rfl,h1,h2⟩:=h;refine⟨ao,cap,rfl,h1,fun h0=>?_⟩;obtain⟨b,off,rfl,hlt,hc⟩:=h2 h0;refine⟨b,off,rfl,zT hlt hg.size,fun i zs hi=>?_⟩;obtain⟨v,cv,hv⟩:=hc i zs hi;exact⟨v,hg.cell cv (show some b≠row from hsep h0 _ _ _ rfl),hv.grownS hg hr⟩
theorem MatN.setVar{hs:List (List Int)}{x:Int}{o:Option Addr}{l:Nat}(y z:Value)(h:MatN W u hs nv)(hsep:0<hs.length→Sep u (some B))(c0:W.cell? ⟨B,0,none⟩=some (.int .i64 x))(c1:W.cell? ⟨B,1,none⟩=some (.slice o l c)):
  MatN ((W.setCell ⟨B,0,none⟩ y).setCell ⟨B,1,none⟩ z) u hs nv:=by
 have k1:(W.setCell ⟨B,0,none⟩ y).cell? ⟨B,1,none⟩=some (.slice o l c):=Eq.trans (World.cell?_setCell_other (h:=fun e=>by simp at e) ..) c1
 have stay:∀(b o:Nat) (v:Value),W.cell? ⟨b,o,none⟩=some v→¬(b=B∧o=0)→¬(b=B∧o=1)→((W.setCell ⟨B,0,none⟩ y).setCell ⟨B,1,none⟩ z).cell? ⟨b,o,none⟩=some v:=fun b o v hv h0 h1=>
  Eq.trans (World.cell?_setCell_other (h:=fun e=>h1 (by simp only [Addr.mk.injEq,and_true] at e;exact⟨e.1.symm,e.2.symm⟩)) ..) (Eq.trans (World.cell?_setCell_other (h:=fun e=>h0 (by simp only [Addr.mk.injEq,and_true] at e;exact⟨e.1.symm,e.2.symm⟩)) ..) hv)
 have hsz:((W.setCell ⟨B,0,none⟩ y).setCell ⟨B,1,none⟩ z).heap.size=W.heap.size:=by simp
 obtain⟨ao,cap,rfl,h1,h2⟩:=h;refine⟨ao,cap,rfl,h1,fun hh=>?_⟩;obtain⟨b,off,rfl,hlt,hc⟩:=h2 hh;have hbB:b≠B:=fun e=>hsep hh _ _ _ rfl (by rw [e]);refine⟨b,off,rfl,by rw [hsz];exact hlt,fun i zs hi=>?_⟩;obtain⟨v,cv,hv⟩:=hc i zs hi;refine⟨_,stay _ _ _ cv (fun h=>hbB h.1) (fun h=>hbB h.1),?_⟩;obtain⟨vo,vcap,ev,g1,g2⟩:=hv;refine⟨vo,vcap,ev,g1,fun h0=>?_⟩;obtain⟨vb,voff,e,vlt,hat⟩:=g2 h0;refine⟨vb,voff,e,by rw [hsz];exact vlt,fun j hj=>?_⟩;obtain⟨neg,o',l',c',d0,d1,hn⟩:=hat j hj;refine⟨neg,o',l',c',stay _ _ _ d0 (fun⟨e1,e2⟩=>?_) (fun⟨e1,e2⟩=>?_),stay _ _ _ d1 (fun⟨e1,e2⟩=>?_) (fun⟨e1,e2⟩=>?_),(hn.setCell c0 (by simp)).setCell k1 (by simp)⟩
 ·rw [e1,e2,c0] at d0;cases d0
 ·rw [e1,e2,c1] at d0;cases d0
 ·rw [e1,e2,c0] at d1;cases d1
 ·have e3:voff+j*2=0:=by omega
  rw [e1,e3,c0] at d0;cases d0
theorem GrowM.setTyped{qs:List (Value × List Int)}(h:GrowM W base v qs n){c:Array Value}{t:TypeId}{fz:Nat × Nat}(hB:W.heap[B]?=some (.cells c t fz))(ht:t≠3)(ht':t≠40)(ht2:t≠106)(k:Nat)(u:Value):GrowM (W.setCell ⟨B,k,none⟩ u) base v qs n:=by
 refine⟨⟨h.1.1,?_⟩,fun q hq=>(h.2 q hq).setTyped hB ht ht' k u⟩;rcases h.1.2 with h' |⟨g,cap,cur,e,hb,hh,rest⟩
 ·exact .inl h'
 ·have hne:g≠B:=fun e=>by
   rw [e,hB] at hh;simp only [Option.some.injEq,Obj.cells.injEq] at hh;exact ht2 hh.2.1
  exact .inr ⟨g,cap,cur,e,hb,(Below.heap_setCell W ⟨B,k,none⟩ u g hne).trans hh,rest⟩
theorem AllSl.setCell(h:AllSl W row)(hne:row≠some B)(k:Nat)(u:Value):AllSl (W.setCell ⟨B,k,none⟩ u) row:=fun g hg=>by
 obtain⟨cur,t,fz,hh,hs⟩:=h g hg;exact⟨cur,t,fz,(Below.heap_setCell W ⟨B,k,none⟩ u g (fun e=>hne (by rw [hg,e]))).trans hh,hs⟩
def BVar (W:World)(B:Nat)(n:Int)(u:Value):Prop:=Box W B (.int .i64 n) u∧∃ cs,W.heap[B]?=some (.cells cs 55 (0,0))
theorem BVar.later{C:Nat}{n:Int}(h:BVar W B n u)(hb:Below C W W')(hB:B<C):BVar W' B n u:=by
 obtain⟨h1,cs,h2⟩:=h;exact⟨h1.later hb hB,cs,(hb.block _ hB).trans h2⟩
theorem BVar.lt{n:Int}(h:BVar W B n u):B<W.heap.size:=by
 obtain⟨-,cs,h2⟩:=h;exact zj h2
theorem BVar.apart{n:Int}(h:BVar W B n u)(hr:AllSl W row):row≠some B:=fun e=>by
 subst e;obtain⟨o,l,c,e⟩:=hr.cell h.1.1;cases e
theorem BVar.grown{n:Int}(h:BVar W B n u)(hg:W.grownBy W' row)(hr:AllSl W row):BVar W' B n u:=by
 have hne:=h.apart hr;have hlt:=h.lt;obtain⟨⟨h1,h2,h3,h4⟩,cs,h5⟩:=h;have hb:=hg.block B hlt (fun e=>hne e.symm);exact⟨⟨(World.cell?_of_block (a:=⟨B,0,none⟩) hb).trans h1,(World.cell?_of_block (a:=⟨B,1,none⟩) hb).trans h2,(World.frozen?_of_block (a:=⟨B,0,none⟩) hb).trans h3,(World.frozen?_of_block (a:=⟨B,1,none⟩) hb).trans h4⟩,cs,hb.trans h5⟩
theorem BVar.write{n:Int}(h:BVar W B n u)(n':Int)(u':Value):BVar ((W.setCell ⟨B,0,none⟩ (.int .i64 n')).setCell ⟨B,1,none⟩ u') B n' u':=by
 obtain⟨h1,cs,h2⟩:=h;exact⟨h1.write _ _,_,heap_setCell_same _ B 1 _ _ _ (heap_setCell_same W B 0 _ _ _ h2)⟩
theorem GrowM.setVar{qs:List (Value × List Int)}(h:GrowM W base v qs n){m:Int}(hB:BVar W B m u)(y z:Value):GrowM ((W.setCell ⟨B,0,none⟩ y).setCell ⟨B,1,none⟩ z) base v qs n:=by
 obtain⟨-,cs,h2⟩:=hB;exact(h.setTyped h2 (by decide) (by decide) (by decide) 0 y).setTyped (heap_setCell_same W B 0 _ _ y h2) (by decide) (by decide) (by decide) 1 z
theorem MatR.setVarAt{zss:List (List Int)}(h:MatR W v zss n){m:Int}(hB:BVar W B m u)(k:Nat)(y:Value):MatR (W.setCell ⟨B,k,none⟩ y) v zss n:=by
 obtain⟨⟨c0,-,-,-⟩,cs,h2⟩:=hB;obtain⟨ao,cap,hv,h3,h4⟩:=h;refine⟨ao,cap,hv,h3,fun h0=>?_⟩;obtain⟨b,e,hlt,hc⟩:=h4 h0;have hne:b≠B:=fun e=>by
  obtain⟨u0,g1,g2⟩:=hc 0 zss[0] (List.getElem?_eq_getElem h0);rw [e,c0] at g1;obtain⟨_,_,g3,-⟩:=g2;rw [g3] at g1;cases g1
 refine⟨b,e,by simpa using hlt,fun i zs hi=>?_⟩;obtain⟨u',g1,g2⟩:=hc i zs hi;exact⟨u',(World.cell?_of_block (a:=⟨b,i,none⟩) (Below.heap_setCell W ⟨B,k,none⟩ y b hne)).trans g1,g2.setTyped h2 (by decide) (by decide) k y⟩
theorem MatR.setVar{zss:List (List Int)}(h:MatR W v zss n){m:Int}(hB:BVar W B m u)(x:Int)(z:Value):MatR ((W.setCell ⟨B,0,none⟩ (.int .i64 x)).setCell ⟨B,1,none⟩ z) v zss n:=by
 have hB':BVar (W.setCell ⟨B,0,none⟩ (.int .i64 x)) B x u:=by
  obtain⟨⟨c0,c1,c2,c3⟩,cs,h2⟩:=hB;have hw:=(show Box W B (.int .i64 m) u from⟨c0,c1,c2,c3⟩).write (.int .i64 x) u;have hh:=heap_setCell_same W B 0 _ _ (.int .i64 x) h2;refine⟨⟨?_,?_,?_,?_⟩,_,hh⟩
  ·have:=hw.1;rw [World.cell?_setCell_other (h:=fun e=>by simp at e)] at this;exact this
  ·exact Eq.trans (World.cell?_setCell_other (h:=fun e=>by simp at e) ..) c1
  ·simpa using c2
  ·simpa using c3
 exact(h.setVarAt hB 0 _).setVarAt hB' 1 z
def small (z:Int):Bool:=decide (-1000000≤z∧z≤1000000)
def goodRow (n:Int)(r:List Int):Bool:=decide ((r.length:Int)=n) && r.all small
def goodG (n:Int)(rs:List (List Int)):Bool:=decide (1≤n∧n≤4∧rs.length≤8) && rs.all (goodRow n)
theorem zbQ{n:Int}:goodRow n r=true↔(r.length:Int)=n∧∀ z∈r,-1000000≤z∧z≤1000000:=by
 simp [goodRow,small]
theorem zdo{n:Int}{rs:List (List Int)}(hr:r∈rs)(h:goodRow n r=false):goodG n rs=false:=by
 unfold goodG;rw [Bool.and_eq_false_iff];right;rw [List.all_eq_false];exact⟨r,hr,by rw [h];decide⟩
theorem zeX{n:Int}(hz:z∈r)(h:z < -1000000∨1000000<z):goodRow n r=false:=by
 cases e:goodRow n r with
 | false=>rfl
 | true=>have:=(zbQ.1 e).2 z hz;omega
def MadePostR (w:World)(n:Int)(rs:List (List Int))(e:Ending)(w':World):Prop:=
 Below w.heap.size w w'∧((goodG n rs=false∧e=(.returned (.tuple #[.agg #[.int .i64 0,.slice none 0 0],.slice none 0 0,.bool false]))) ∨
  (goodG n rs=true∧∃ u m hs,e=.returned (.tuple #[.agg #[.int .i64 n,u],m,.bool true])∧LatN w' (.agg #[.int .i64 n,u]) n.toNat hs 6∧Alikes n.toNat (InL hs) (InL rs)∧MatR w' m hs 18))
structure MadeI (W0 wr:World)(n:Nat)(rs:List (List Int))(km k:Nat)(m:Value)(qs:List (Value × List Int))(u:Value)(hs:List (List Int)):Prop where
 grow:GrowM wr (W0.heap.size+1) m qs 5
 all:AllSl wr m.ownBlock
 rows:qs.map (·.2)=rs.take km
 var:BVar wr W0.heap.size n u
 mat:MatN wr u hs 6
 form:∃ p,FormL n hs p
 alike:Alikes n (InL hs) (InL (rs.take k))
 sep:0<hs.length→Sep u m.ownBlock
 below:Below W0.heap.size W0 wr
 good:∀ r∈rs.take km,goodRow n r=true
theorem MadeI.later{w':World}{rs:List (List Int)}{qs:List (Value × List Int)}{hs:List (List Int)}(h:MadeI W0 wr n rs km k m qs u hs)(hb:Below wr.heap.size wr w'):MadeI W0 w' n rs km k m qs u hs:=
 ⟨h.grow.later hb,h.all.later hb,h.rows,h.var.later hb h.var.lt,h.mat.below hb zL,h.form,h.alike,h.sep,h.below.trans (hb.mono h.below.size),h.good⟩
theorem MadeI.len{rs:List (List Int)}{qs:List (Value × List Int)}{hs:List (List Int)}(h:MadeI W0 wr n rs km k m qs u hs)(hk:km≤rs.length):qs.length=km:=by
 have:=congrArg List.length h.rows;rw [zM,List.length_take] at this;omega
theorem MadeI.start(n:Nat)(rs:List (List Int)):MadeI W0 (W0.alloc (.cells #[.int .i64 (n:Int),.slice none 0 0] 55)) n rs 0 0 (.slice none 0 0) [] (.slice none 0 0) [] where
 grow:=⟨World.ownsRow_nil _ _ _ _,fun _ h=>by cases h⟩
 all:=zeo _
 rows:=by simp
 var:=⟨zf W0 _ _ _ _ rfl,_,heap_alloc_new W0 _⟩
 mat:=zfo _ _
 form:=⟨_,zdk n⟩
 alike:=fun v=>by rw [List.take_zero]
 sep:=fun _ a l c e=>by cases e
 below:=(zB _ _).alloc zL _
 good:=fun r h=>by rw [List.take_zero] at h;cases h
theorem zgM{l l':List (List Int)}{us:List Int}(h:Alikes n (InL l) (InL l')):Alikes n (InL (l++[us])) (InL (l'++[us])):=by
 refine .of (fun v hv hvl=>?_) (fun v hv hvl=>?_)
 ·rcases List.mem_append.1 hv with hv | hv
  ·exact((h v).1 (.base hv hvl)).trans (fun x hx hxl=>.base (List.mem_append_left _ hx) hxl)
  ·exact .base (List.mem_append_right _ hv) hvl
 ·rcases List.mem_append.1 hv with hv | hv
  ·exact((h v).2 (.base hv hvl)).trans (fun x hx hxl=>.base (List.mem_append_left _ hx) hxl)
  ·exact .base (List.mem_append_right _ hv) hvl
theorem zd0 {rs:List (List Int)}(h:rs[k]?=some rk):rs.take (k+1)=rs.take k++[rk]:=by
 rw [List.take_add_one,h];rfl
theorem MadeI.grew{w5:World}{rs:List (List Int)}{qs:List (Value × List Int)}{hs:List (List Int)}{ob:Obj}{x:Value}{cap:Nat}(h:MadeI W0 wr n rs k k m qs u hs)(hk:rs[k]?=some rk)
  (hz:RowR wr x rk 5) (hg:goodRow n rk=true)
  (hown:w5.ownsRow (W0.heap.size+1) 106 1 (.slice (some ⟨g,0,none⟩) (qs.length+1) cap) (qs.length+1) (qs.map (·.1)++[x]))
  (hgr:(wr.alloc ob).grownBy w5 m.ownBlock) (hall:AllSl w5 (some g)) (hat:m.ownBlock=some g∨g=wr.heap.size+1):
  MadeI W0 w5 n rs (k+1) k (.slice (some ⟨g,0,none⟩) (qs.length+1) cap) (qs++[(x,rk)]) u hs where
 grow:=zbm h.grow hz hown hgr
 all:=hall
 rows:=by rw [List.map_append,h.rows,zd0 hk];rfl
 var:=(h.var.later ((zB _ _).alloc zL ob) h.var.lt).grown hgr (h.all.later ((zB _ _).alloc zL ob))
 mat:=(h.mat.below ((zB _ _).alloc zL ob) zL).grownH hgr (h.all.later ((zB _ _).alloc zL ob)) h.sep
 form:=h.form
 alike:=h.alike
 sep:=fun h0=>by
  rcases hat with e | e
  ·have:=h.sep h0;rw [e] at this;exact this
  ·intro a l c ea e';obtain⟨ao,cap',e1,-,h2⟩:=h.mat;obtain⟨b,off,e2,hlt,-⟩:=h2 h0;rw [e1,e2] at ea;simp only [zV,Option.some.injEq] at ea;obtain⟨rfl,-⟩:=ea;simp only [Value.ownBlock,Option.some.injEq] at e';rw [e] at e';omega
 below:=h.below.trans ((zP h.grow.1 h.var.lt hgr).mono (by omega))
 good:=fun r hr=>by
  rw [zd0 hk] at hr;rcases List.mem_append.1 hr with hr | hr
  ·exact h.good r hr
  ·rw [List.mem_singleton] at hr;rw [hr];exact hg
theorem zkt(h:-1000000≤z∧z≤1000000):ab z<bp 1:=by
 have e:bp 1=4294967296:=by decide
 rw [e];unfold ab;split <;> omega
theorem MadeI.put{w3:World}{rs:List (List Int)}{qs:List (Value × List Int)}{hs:List (List Int)}{u':Value}{hs':List (List Int)}(h:MadeI W0 w3 n rs (k+1) k m qs u hs)(hk:rs[k]?=some rk)(hn:n≤4)
  (hu:MatN w3 u' hs' nv) (hF:∃ p,FormL n hs' p) (hA:Alikes n (InL hs') (InL (hs++[rk]))) (hfr:Fresh base u') (hb1:W0.heap.size<base) (hb2:∀ g,m.ownBlock=some g→g<base) (hsl:∃ o l c,u=.slice o l c):
  MadeI W0 ((w3.setCell ⟨W0.heap.size,0,none⟩ (.int .i64 (n:Int))).setCell ⟨W0.heap.size,1,none⟩ u') n rs (k+1) (k+1) m qs u' hs':=by
 have hA':Alikes n (InL hs') (InL (rs.take (k+1))):=fun v=>(hA v).trans (by
  rw [zd0 hk];exact zgM h.alike v)
 obtain⟨p,hF⟩:=hF;have hl:∀ us∈rs.take (k+1),us.length=n:=fun us hus=>by have:=(zbQ.1 (h.good us hus)).1;omega
 have ht:MatN w3 u' hs' 6:=by
  refine hu.tight fun zs hz j hj=>?_;have h1:=zdj (nv:=1) hF hA' hl (fun us hus j hj=>zkt ((zbQ.1 (h.good us hus)).2 _ (by
   have hj':j<us.length:=by rw [hl us hus];exact hj
   rw [zG,List.getElem?_eq_getElem hj',Option.getD_some];exact List.getElem_mem hj'))) (by omega) zs hz j hj
  exact Int.lt_of_lt_of_le h1 (zaa (by omega))
 obtain⟨o,l,c,rfl⟩:=hsl;exact
  {grow:=h.grow.setVar h.var _ _
   all:=(h.all.setCell (h.var.apart h.all) _ _).setCell (h.var.apart h.all) _ _
   rows:=h.rows
   var:=h.var.write _ _
   mat:=ht.setVar _ _ (fun _=>hfr.sep hb1) h.var.1.1 h.var.1.2.1
   form:=⟨p,hF⟩
   alike:=hA'
   sep:=fun _ a l c e e'=>by
    have h1:=hfr a l c e;have h2:=hb2 a.block e'.symm;omega
   below:=(h.below.setCell (by exact Nat.le_refl _) _).setCell (by exact Nat.le_refl _) _
   good:=h.good }
structure LaS (W:World)(PA PB B8 B11 n nb la lb ca cb kA kB cA cB vcap:Nat)(ga gb oA oB mA mB vo:Option Addr)(hs ks:List (List Int))(p q:Nat→Nat)(vs:List Int):Prop where
 xa:BoxL W PA (.int .i64 (n:Int)) (.slice ga la ca)
 xb:BoxL W PB (.int .i64 (nb:Int)) (.slice gb lb cb)
 x8:BoxL W B8 (.int .i64 (n:Int)) (.slice oA hs.length kA)
 x11:BoxL W B11 (.int .i64 (nb:Int)) (.slice oB ks.length kB)
 la':LatN W (.agg #[(.int .i64 (n:Int)),.slice oA hs.length kA]) n hs 6
 lb':LatN W (.agg #[(.int .i64 (nb:Int)),.slice oB ks.length kB]) nb ks 6
 ma:MatR W (.slice mA hs.length cA) hs 18
 mb:MatR W (.slice mB ks.length cB) ks 18
 fa:FormL n hs p
 fb:FormL nb ks q
 v:RowS W (.slice vo vs.length vcap) vs
 h1:1≤n
 h4:n≤4
 k1:1≤nb
 k4:nb≤4
 v10:vs.length≤10
variable {W W':World}{PA PB B8 B11 n nb la lb ca cb kA kB cA cB vcap:Nat}{ga gb oA oB mA mB vo:Option Addr}{hs ks:List (List Int)}{p q:Nat→Nat}{vs:List Int}
theorem LaS.later (h:LaS W PA PB B8 B11 n nb la lb ca cb kA kB cA cB vcap ga gb oA oB mA mB vo hs ks p q vs)(hb:Below W.heap.size W W'):LaS W' PA PB B8 B11 n nb la lb ca cb kA kB cA cB vcap ga gb oA oB mA mB vo hs ks p q vs:=
 ⟨h.xa.later hb,h.xb.later hb,h.x8.later hb,h.x11.later hb,h.la'.below hb,h.lb'.below hb,h.ma.below hb zL,h.mb.below hb zL,h.fa,h.fb,h.v.below hb zL,h.h1,h.h4,h.k1,h.k4,h.v10⟩
theorem LaS.cells (h:LaS W PA PB B8 B11 n nb la lb ca cb kA kB cA cB vcap ga gb oA oB mA mB vo hs ks p q vs):W.cell? ⟨PA,0,none⟩=some (.int .i64 (n:Int))∧W.cell? ⟨PB,0,none⟩=some (.int .i64 (nb:Int))∧W.cell? ⟨B8,0,none⟩=some (.int .i64 (n:Int))∧W.cell? ⟨B8,1,none⟩=some (.slice oA hs.length kA)∧W.cell? ⟨B11,0,none⟩=some (.int .i64 (nb:Int))∧W.cell? ⟨B11,1,none⟩=some (.slice oB ks.length kB):=by
 obtain⟨a0,-⟩:=h.xa.1;obtain⟨b0,-⟩:=h.xb.1;obtain⟨c0,c1,-⟩:=h.x8.1;obtain⟨d0,d1,-⟩:=h.x11.1;exact⟨a0,b0,c0,c1,d0,d1⟩
theorem LaS.absA (h:LaS W PA PB B8 B11 n nb la lb ca cb kA kB cA cB vcap ga gb oA oB mA mB vo hs ks p q vs):∀ r∈hs,∀ j,j<n→ab (r.getD j 0)<bp 6:=fun r hr j hj=>by
 obtain⟨⟨u,-,hu⟩,-⟩:=h.la';exact hu.abs r hr j (by rw [h.fa.len r hr];exact hj)
theorem LaS.absB (h:LaS W PA PB B8 B11 n nb la lb ca cb kA kB cA cB vcap ga gb oA oB mA mB vo hs ks p q vs):∀ r∈ks,∀ j,j<nb→ab (r.getD j 0)<bp 6:=fun r hr j hj=>by
 obtain⟨⟨u,-,hu⟩,-⟩:=h.lb';exact hu.abs r hr j (by rw [h.fb.len r hr];exact hj)
theorem zk{u0 u1:Value}(h:BoxL W B u0 u1):W.cell? ⟨B,0,none⟩=some u0∧W.cell? ⟨B,1,none⟩=some u1:=by
 obtain⟨c0,c1,-⟩:=h.1;exact⟨c0,c1⟩
theorem zj2 {P:Program}(w:World)(t ty e:TypeId)(i:TypeInfo)(ht:P.underlying t=some (.slice e))(hi:P.info? e=some i)(b:Option Addr)(n cap:Nat)(hn:n≤cap)(ao:Option Addr)(c:Nat):
  (Builtin.append_ #[t,t] ty #[.slice b n cap,.slice ao 0 c]).run P w=.ok (.slice b n cap) w:=by
 cases ao <;> cases b <;> simp [Builtin.append_,run_underlying ht,sizeOf,typeInfo,hi,Builtin.lenOf,Builtin.firstCells,loadCells,loadCellsFrom,hn,storeCells]
theorem zfX (W:World)(base:Nat)(v m:Value)(qs:List (Value × List Int))(ks:List (List Int))(N:Nat)(h:GrowM W base v qs N)(hm:MatR W m ks N)(hbase:base≤W.heap.size)(hl:qs.length+ks.length≤1000):
  ∃ o l c W' rs,(Builtin.append_ #[43,43] 43 #[v,m]).run Tryz.prog W=.ok (.slice o l c) W'∧GrowM W' base (.slice o l c) (qs++rs) N∧rs.map (·.2)=ks∧Below base W W':=by
 obtain⟨j0,hj,hy0,hy1,hy2⟩:=info_parts Tryz.infoRRow;obtain⟨ao,cap,rfl,hcap,hh⟩:=hm;by_cases h0:ks.length=0
 ·obtain rfl:=List.eq_nil_of_length_eq_zero h0;obtain⟨o,l,c,rfl,hlc⟩:∃ o l c,v=.slice o l c∧l≤c:=by
   rcases h.1.2 with⟨rfl,-⟩ |⟨g,cap,cur,rfl,-,-,hle,-⟩
   ·exact⟨_,_,_,rfl,Nat.le_refl _⟩
   ·exact⟨_,_,_,rfl,hle⟩
  exact⟨o,l,c,W,[],zj2 W _ _ _ j0 (by kernel_rfl) hj o l c hlc ao cap,by simpa using h,rfl,zB _ _⟩
 ·obtain⟨b,rfl,hb,hc⟩:=hh (by omega)
  let f:Nat→Value:=fun i=>if hi:i<ks.length then Classical.choose (hc i ks[i] (by simp [hi])) else undef
  have hf:∀ i (hi:i<ks.length),W.cell? ⟨b,i,none⟩=some (f i)∧RowR W (f i) ks[i] N:=fun i hi=>by
   have:=Classical.choose_spec (hc i ks[i] (by simp [hi]));simpa only [f,dif_pos hi] using this
  let rs:List (Value × List Int):=(List.range ks.length).map fun i=>(f i,ks.getD i [])
  have hrl:rs.length=ks.length:=by simp [rs]
  have hrg:∀ i (hi:i<rs.length),rs[i]=(f i,ks.getD i []):=fun i hi=>by simp [rs]
  have hr2:rs.map (·.2)=ks:=by
   apply List.ext_getElem (by rw [zM,hrl]);intro i h1 h2;rw [List.getElem_map,hrg i (by omega),zG,List.getElem?_eq_getElem h2];rfl
  have hnews:∀ j u,(rs.map (·.1))[j]?=some u→W.cell? ((⟨b,0,none⟩:Addr).add j)=some u:=fun j u hu=>by
   have hjl:j<rs.length:=by have:=(List.getElem?_eq_some_iff.1 hu).1;rwa [zM] at this
   have ea:(⟨b,0,none⟩:Addr).add j=⟨b,j,none⟩:=by unfold Addr.add;split <;> simp_all
   rw [List.getElem?_map,List.getElem?_eq_getElem hjl,hrg j hjl] at hu;rw [ea,(hf j (by omega)).1];simpa using hu
  have hrow:∀ q∈rs,RowR W q.1 q.2 N:=fun q hq=>by
   obtain⟨i,hi,rfl⟩:=List.getElem_of_mem hq;have:=(hf i (by omega)).2;rw [hrg i hi,zG,List.getElem?_eq_getElem (by omega)];exact this
  have h1:∀ u∈rs.map (·.1),u.oneCell'=true:=fun u hu=>by
   obtain⟨q,hq,rfl⟩:=List.mem_map.1 hu;obtain⟨so,sc,e,-⟩:=hrow q hq;rw [e];rfl
  obtain⟨v',W',hr,hown,hg,hiff⟩:=run_append_own (P:=Tryz.prog) W base 43 43 106 j0 (.slice none 0 0) 1 24 (by kernel_rfl) hj hy0 hy1 hy2 rfl (by decide) v qs.length (qs.map (·.1)) h.1 ⟨b,0,none⟩ ks.length cap (rs.map (·.1)) (by rw [zM,hrl,Nat.mul_one]) hnews h1 (by unfold maxLen;omega) (by omega) hbase;have hty:Typed W v.ownBlock [3,40]:=zaX h.1 (by decide);obtain⟨o,l,c,rfl⟩:∃ o l c,v'=.slice o l c:=by
   rcases hown.2 with⟨rfl,-⟩ |⟨g,cap,cur,rfl,-⟩ <;> exact⟨_,_,_,rfl⟩
  refine⟨o,l,c,W',rs,hr,⟨by rw [List.length_append,hrl,List.map_append];exact hown,fun q hq=>?_⟩,hr2,(zB _ _).grown hg hbase (fun k hk=>(h.1.lt k hk).1)⟩;rcases List.mem_append.1 hq with h' | h'
  ·exact(h.2 q h').grown hg hty
  ·exact(hrow q h').grown hg hty
theorem zdN (W:World)(m:Value)(ks:List (List Int))(N:Nat)(hm:MatR W m ks N)(hl:ks.length≤1000):
  ∃ o l c W' rs,(Builtin.append_ #[43,43] 43 #[.slice none 0 0,m]).run Tryz.prog W=.ok (.slice o l c) W'∧GrowM W' W.heap.size (.slice o l c) rs N∧rs.map (·.2)=ks∧Below W.heap.size W W':=
 zfX W W.heap.size (.slice none 0 0) m [] ks N ⟨World.ownsRow_nil _ _ _ _,fun _ h=>by cases h⟩ hm zL (by simpa using hl)
theorem zjb{zs:List Int}(h:RowR W u zs n)(t:TypeId):MatR (W.alloc (.cells #[u] t)) (.slice (some ⟨W.heap.size,0,none⟩) 1 1) [zs] n:=by
 refine⟨_,1,rfl,Nat.le_refl _,fun _=>⟨W.heap.size,rfl,by simp,fun i ys hi=>?_⟩⟩;obtain rfl:i=0:=by
  have:=(List.getElem?_eq_some_iff.1 hi).1;simp at this;exact this
 obtain rfl:zs=ys:=by simpa using hi
 exact⟨u,by rw [World.cell?_alloc_new];rfl,h.below ((zB _ _).alloc zL _) zL⟩
end Go.Proofs.YtdedolkgcdlmeaaGreatDoor
