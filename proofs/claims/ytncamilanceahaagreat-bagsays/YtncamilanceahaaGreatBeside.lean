import Derived.ProofKit
import Derived.Lib.SmallJoins
import Derived.ChangeOld
import Derived.Deep.SlicePairs
import Derived.Test.YtncamilanceahaaGreatShare
set_option maxRecDepth 100000
set_option maxHeartbeats 1600000
namespace Go.Proofs.YtncamilanceahaaGreat
open Go.RowKit Limbs
variable{w W:World}{n k m B sb N base nv S0:Nat}{v:Value}{zs:List Int}
def Fresh (base:Nat)(u:Value):Prop:=∀ a l c,u=.slice (some a) l c→base≤a.block
theorem Fresh.mono{base':Nat}{u:Value}(h:Fresh base u)(hb:base'≤base):Fresh base' u:=fun a l c e=>Nat.le_trans hb (h a l c e)
theorem ziV{e:TypeId}{size:Nat}{xs:List Value}(h:W.ownsRow base e size v n xs):Fresh base v:=fun a l c hv=>by
 rcases h.2 with⟨rfl,-⟩ |⟨g,cap,cur,rfl,hb,-⟩
 ·cases hv
 ·simp only [zV,Option.some.injEq] at hv;obtain⟨rfl,-⟩:=hv;exact hb
theorem ziF {l:List (List Int)}{R:Nat→Option (List Int)}(hp:Pos R)(hE:Ech R n n)(ha:Alikes n (RowsOf R) (InL l))(hl:∀ us∈l,us.length=n)(hb:∀ us∈l,∀ j,j<n→ab (us.getD j 0)<bp nv){Q:Nat}(hQ:n≤Q∨l.length≤Q)(hn:Q≤16):
  ∀ i a r,i≤n→n-i≤a→tidyN R n i a=some r→∀ j,j<r.length→ab (r.getD j 0)<bp (Q*nv+2):=by
 obtain⟨q,hq,hq2,hbd⟩:=zjM hp hE ha l.length (fun k b=>(l.getD k []).getD b 0) (bp nv) (by have:=zQ nv;omega) (fun a b ha hb'=>Int.le_of_lt (hb _ (zaM ha) b hb'))
  (fun v hv hvl=>by
   obtain⟨k,hk,e⟩:=List.getElem_of_mem hv;exact⟨k,hk,fun b _=>by rw [zax hk,e]⟩)
  (fun k hk=>⟨l.getD k [],zaM hk,hl _ (zaM hk),fun _ _=>rfl⟩)
 intro i a r hi ha' e j hj;have e':tidyN R n n a=some r:=by rw [zdB hi zL ha'];exact e
 have hlen:=(hE.all (Nat.le_refl n) n).len a r e';have h1:=hbd a r e' j (by omega);have h2:=zhm (v:=nv) (show q≤Q by omega) hn;exact Int.lt_of_le_of_lt h1 h2
theorem zjP (n k:Nat):tidyN (fun _=>none) n k=fun _=>none:=by
 induction k with
 | zero=>rfl
 | succ k ih=>
  show tidyAt (tidyN (fun _=>none) n k) n (n-1-k)=_;rw [ih];funext i;unfold tidyAt;split <;> rfl
structure OneI (w wr:World)(sb n S0:Nat)(rows:Nat→Option (List Int))(ms:List (List Int))(k:Nat):Prop where
 st:StairO w wr sb n rows n (fun _=>S0)
 tid:∃ rows0,Ech rows0 n n∧Pos rows0∧rows=tidyN rows0 n n
 gen:Alikes n (RowsOf rows) (InL (ms.take k))
theorem OneI.ech{wr:World}{rows:Nat→Option (List Int)}{ms:List (List Int)}(h:OneI w wr sb n S0 rows ms k):Ech rows n n:=by
 obtain⟨r0,h1,-,rfl⟩:=h.tid;exact h1.all (Nat.le_refl n) n
theorem StairO.pos{rows:Nat→Option (List Int)}{len:Nat}{ns:Nat→Nat}(h:StairO w W sb m rows len ns)(hE:Ech rows len m):Pos rows:=fun i r e=>by
 obtain⟨P,-,-,-,-,h5⟩:=h.row i (hE.lt i r e) r e;exact h5
theorem zin (m i:Nat)(hi:i<m):(madeCells #[.slice none 0 0] m)[i]?=some (.slice none 0 0):=by
 simp [madeCells,hi,Nat.mod_one]
theorem StairO.made (w W:World)(hb:Below w.heap.size w W)(m len:Nat)(ns:Nat→Nat):StairO w (W.alloc (.cells (madeCells #[.slice none 0 0] m) 62)) W.heap.size m (fun _=>none) len ns where
 lt:=by simp
 low:=hb.size
 below:=hb.alloc hb.size _
 blk:=⟨_,_,heap_alloc_new W _⟩
 nil:=fun i hi _=>by
  rw [World.cell?_alloc_new];exact zin m i hi
 row:=fun i hi r e=>by cases e
theorem VecN.off(h:VecN w v zs n)(h0:0<zs.length)(hs:w.heap.size≤sb):∀ b o l c,v=.slice (some ⟨b,o,none⟩) l c→b≠sb:=by
 obtain⟨ao,cap,rfl,-,h2⟩:=h;obtain⟨b',off,rfl,hlt,-⟩:=h2 h0;intro b o l c e;simp only [zV,Option.some.injEq,Addr.mk.injEq,and_true] at e;omega
theorem ziu(hn1:1≤n)(hN:nbK n S0 nv n≤119000):238001+n *(S0+3)≤300000:=by
 by_cases h0:n=1
 ·subst h0;have h2:nbK 1 S0 nv 1=nv+(1-0+1) *(S0+3):=rfl;omega
 ·have h1:nbK n S0 nv 2≤nbK n S0 nv n:=zde (by omega);have h2:nbK n S0 nv 2=nv+(n-0+1) *(S0+3)+(n-1+1) *(S0+3):=rfl;have h3:(n-0+1) *(S0+3)=n *(S0+3)+(S0+3):=by rw [Nat.sub_zero,Nat.succ_mul]
  have h4:n-1+1=n:=by omega
  rw [h4] at h2;omega
theorem zjd (m:Nat)(hm:m≤1000)(W:World):(Instr.makeSlice 115 (.int .i64 (m:Int)) (.int .i64 (m:Int))).run Tryz.prog W=.ok (.slice (some ⟨W.heap.size,0,none⟩) m m) (W.alloc (.cells (madeCells #[.slice none 0 0] m) 62)):=by
 obtain⟨i0,hi,hz0,hz1,hz2⟩:=info_parts Tryz.infoVec;have h:=run_make (P:=Tryz.prog) W 115 62 i0 (.slice none 0 0) (by kernel_rfl) hi hz0 .i64 .i64 m m (by omega) (by omega) (by rw [hz2];omega) (by omega);rw [hz1,Int.toNat_natCast,Nat.mul_one] at h;exact h
theorem ziE (w:World)(v:Value)(ms:List (List Int))(n nv Q:Nat)(hQ:n≤Q∨ms.length≤Q)(hQ16:Q≤16)(hv:MatN w v ms nv)(hr:∀ us∈ms,us.length=n)(hn1:1≤n)(hn:n≤16)(hm:ms.length≤1000)(hN:nbK n (Q*nv+2) nv n≤119000):
  Calls Tryz.prog 40 #[v,.int .i64 (n:Int)] w fun e w'=>∃ u hs p,e=.returned u∧MatN w' u hs (Q*nv+2)∧hs.length≤n∧Below w.heap.size w w'∧FormL n hs p∧Alikes n (InL hs) (InL ms)∧Fresh w.heap.size u:=by
 obtain⟨j0,hj,hy0,hy1,hy2⟩:=info_parts Tryz.infoVec;have HJ:=hide hj;have HY0:=hide hy0;have HY1:=hide hy1;have HY2:=hide hy2;clear hj hy0 hy1 hy2;have HQ9:=hide hQ;clear hQ;have HV:=hide hv;have HR:=hide hr;have HN:=hide hN;have HRO:=hide (ziu hn1 hN);obtain⟨ao,cap,rfl,-,-⟩:=hv;clear hr hN;generalize hS0:Q*nv+2=S0 at *;have HS0:=hide hS0;clear hS0;have HBM:Hid (∀ us∈ms,∀ j,j<n→ab (us.getD j 0)<bp nv):=fun us hus j hj=>by
  obtain⟨i,hi,e⟩:=List.getElem_of_mem hus;obtain⟨b,off,cap',e1,hlt,u,hc,hu⟩:=HV.out.at i hi;rw [e] at hu;obtain⟨b',off',cap2,e2⟩:=hu.form (by rw [HR.out us hus];omega);subst e2;obtain⟨-,neg,o,l,c,-,-,hz⟩:=hu.at j (by rw [HR.out us hus];exact hj);exact hz.ab_lt
 have hmk:=zjd n (by omega);have HI0:Hid (OneI w (w.alloc (.cells (madeCells #[.slice none 0 0] n) 62)) w.heap.size n S0 (fun _=>none) ms 0):=hide
  ⟨StairO.made w w (zB _ _) n n _,⟨fun _=>none,⟨fun i r e=>(by cases e),fun i r e=>(by cases e),fun i r e=>(by cases e)⟩,fun i r e=>(by cases e),(zjP n n).symm⟩,.of (fun v hv _=>by obtain⟨i,e⟩:=hv;cases e) (fun v hv _=>by rw [List.take_zero] at hv;cases hv)⟩
 go_enter Tryz.func40,Tryz.ntmps40;go_wp2;clear hmk;go_loopw [13] (fun i wr=>∃ k:Nat,k≤ms.length∧i=.int .i64 k∧∃ rows,Hid (OneI w wr w.heap.size n S0 rows ms k)) (fun i _=>ms.length-(intOf i).toNat)
 case atStart=>exact⟨0,Nat.zero_le _,rfl,_,HI0⟩
 case round=>
  clear HI0;obtain⟨k,hk,rfl,rows,HI⟩:=hrel;by_cases hkl:k<ms.length
  ·obtain⟨b,off,_,e,hblt,u,cu0,hu⟩:=HV.out.at k hkl;simp only [zV,true_and] at e;obtain⟨rfl,rfl⟩:=e;have cu:wr.cell? ⟨b,off+k,none⟩=some u:=(HI.out.st.below.cell (p:=⟨b,off+k,none⟩) hblt).trans cu0;have hul:=HR.out _ (List.getElem_mem hkl);have HOF:=hide (hu.off (by omega) zL);have HU:=hide (hu.below HI.out.st.below zL);have HTK:Hid (ms.take (k+1)=ms.take k++[ms[k]]):=List.take_succ_eq_append_getElem hkl;obtain⟨vo,vcap,rfl,-,-⟩:=hu;have HUL:=hide hul;clear hul;have hvl:b<wr.heap.size:=zT hblt HI.out.st.below.size;have HIN:=hide (zh2 w wr w.heap.size n S0 nv rows _ ms[k] HI.out.st HI.out.ech HU.out HUL.out HOF.out (by omega) HN.out);clear cu0 HU HOF;go_wp2_with fail;refine HIN.out.mono ?_;rintro e w1 ⟨rfl,R,hst,hech,hal⟩;have hal':Alikes n (RowsOf R) (InL (ms.take (k+1))):=by
    rw [HTK.out];exact hal.trans (zdU HI.out.gen)
   have hpos:=hst.pos hech;have HTD:=hide (zjL w w1 w.heap.size n n S0 238001 R hst hech (Nat.le_refl n) (by omega) HRO.out (by
    rw [← HS0.out];exact ziF hpos hech hal' (fun us h=>HR.out us (List.mem_of_mem_take h)) (fun us h=>HBM.out us (List.mem_of_mem_take h)) (HQ9.out.imp id fun h=>Nat.le_trans (by rw [List.length_take];omega) h) hQ16))
   have HNX:Hid (∀ w2,StairO w w2 w.heap.size n (tidyN R n n) n (fun _=>S0)→OneI w w2 w.heap.size n S0 (tidyN R n n) ms (k+1)):=fun w2 h=>
    ⟨h,⟨R,hech,hpos,rfl⟩,(zdV hech (Nat.le_refl n) n).trans hal'⟩
   clear hst hech hal hal' hpos HIN HI cu;go_wp2_with fail;refine HTD.out.mono ?_;rintro e w2 ⟨rfl,hst2⟩;have HN2:=hide (HNX.out w2 hst2);clear hst2 HNX HTD;go_wp2;go_roundw
   case rel=>exact⟨k+1,by omega,by go_num,_,HN2⟩
   case measure=>simp [intOf];omega
  ·obtain rfl:k=ms.length:=by omega
   have HFO:Hid (∃ p,FormL n (rowsL rows n) p):=by
    obtain⟨r0,h1,h2,rfl⟩:=HI.out.tid;exact zjO h2 h1
   have HAL:Hid (Alikes n (InL (rowsL rows n)) (InL ms)):=by
    have:=HI.out.gen;rw [List.take_length] at this;exact(zfU HI.out.ech).trans this
   obtain⟨wo,rfl⟩:∃ wo:World,wo=wr:=⟨_,rfl⟩;go_wp2;go_loopw [7,26] (fun out i wr=>∃(q:Nat) (qs:List (Value × List Int)),q≤n∧i=.int .i64 q∧Hid (wr.ownsRow wo.heap.size 62 1 out qs.length (qs.map (·.1)))∧Hid (qs.map (·.2)=rowsL rows q)∧Hid (∀ p∈qs,VecN wo p.1 p.2 S0)∧Hid (Below wo.heap.size wo wr)) (fun _ i _=>n-(intOf i).toNat)
   case atStart=>exact⟨0,[],Nat.zero_le _,rfl,hide (World.ownsRow_nil _ _ _ _),hide rfl,hide (fun _ h=>by cases h),hide (zB _ _)⟩
   case round=>
    obtain⟨q,qs,hq,rfl,HOW,HQ,HQV,HB⟩:=hrel;have hlo:=HI.out.st.lt;have hql2:qs.length≤q:=by
     have h1:=congrArg List.length HQ.out;rw [zM] at h1;have h2:=zff rows q;omega
    by_cases hql:q<n
    ·have hlw:w.heap.size<wr.heap.size:=zT hlo HB.out.size;cases hrq:rows q with
     | none=>
      have c0:=(HB.out.cell (p:=⟨w.heap.size,q,none⟩) hlo).trans (HI.out.st.nil q hql hrq);have hbo:=zfl wr;have HQ':Hid (qs.map (·.2)=rowsL rows (q+1)):=HQ.out.trans (zfg hrq).symm;clear hrq HQ hql2;go_wp2;go_roundw
      case rel=>exact⟨q+1,qs,by omega,by go_num,HOW,HQ',HQV,HB⟩
      case measure=>simp [intOf];omega
     | some r=>
      obtain⟨P,hc,hvO,-,-,-⟩:=HI.out.st.row q hql r hrq;have c0:=(HB.out.cell (p:=⟨w.heap.size,q,none⟩) hlo).trans hc;have hbo:=zfo wr ⟨P,0,none⟩ r.length r.length;have HQ':Hid ((qs++[(Value.slice (some ⟨P,0,none⟩) r.length r.length,r)]).map (·.2)=rowsL rows (q+1)):=by
       show _=_;rw [List.map_append,HQ.out,zfh hrq];rfl
      have HQV':Hid (∀ p∈qs++[(Value.slice (some ⟨P,0,none⟩) r.length r.length,r)],VecN wo p.1 p.2 S0):=fun p hp=>by
       rcases List.mem_append.1 hp with h | h
       ·exact HQV.out p h
       ·rw [List.mem_singleton] at h;rw [h];exact hvO.vec
      have hown:=HOW.out;have hbs:=HB.out.size;have hj:=HJ.out;have hy0:=HY0.out;have hy1:=HY1.out;have hy2:=HY2.out;clear hrq HQ hc hvO HQV;go_wp2_with (at_builtin;refine wpList_append_lies _ rfl _ _ 31 rfl wo.heap.size 62 j0 (.slice none 0 0) 1 24 (by kernel_rfl) hj hy0 hy1 hy2 rfl (by decide) u7 qs.length (qs.map (·.1)) rfl (hown.alloc _) ⟨wr.heap.size,0,none⟩ 1 1 [.slice (some ⟨P,0,none⟩) r.length r.length] rfl rfl (World.news_of_block (heap_alloc_new wr _)) (fun u hu=>by rw [List.mem_singleton] at hu;rw [hu];rfl) (by decide) (by unfold maxLen;omega) (by omega) (by simp;omega) (wr.heap.size+1) (by simp) ?_);intro g cap' w5 hown5 hgrow5 hat5 hlt5;have HOW5:Hid (w5.ownsRow wo.heap.size 62 1 (.slice (some ⟨g,0,none⟩) (qs.length+1) cap') (qs++[(Value.slice (some ⟨P,0,none⟩) r.length r.length,r)]).length ((qs++[(Value.slice (some ⟨P,0,none⟩) r.length r.length,r)]).map (·.1))):=by
       show World.ownsRow ..;rw [List.length_append,List.length_singleton,List.map_append];exact hown5
      have HB5:=hide (HB.out.trans (zaC hown HB.out.size hgrow5));clear hown hown5 hgrow5 hat5 hlt5 hj hy0 hy1 hy2 HOW HB c0 hbo;go_wp2;go_roundw
      case rel=>exact⟨q+1,_,by omega,by go_num,HOW5,HQ',HQV',HB5⟩
      case measure=>simp [intOf];omega
    ·obtain rfl:q=n:=by omega
     have HF:Hid (MatN wr u7 (rowsL rows q) S0):=by
      have:=zeQ HOW.out (fun p hp=>(HQV.out p hp).below HB.out zL);rw [HQ.out] at this;exact this
     have HBB:=hide (HI.out.st.below.trans (HB.out.mono HI.out.st.below.size));have HFR:=hide ((ziV HOW.out).mono HI.out.st.below.size);clear HOW HQ HQV HB HI;go_wp2;go_ret;obtain⟨p,hp⟩:=HFO.out;exact⟨_,_,p,rfl,HF.out,zff _ _,HBB.out,hp,HAL.out,HFR.out⟩
theorem ziD (w:World)(v:Value)(ms:List (List Int))(n nv Q:Nat)(hQ:n≤Q∨ms.length≤Q)(hQ16:Q≤16)(hv:MatN w v ms nv)(hr:∀ us∈ms,us.length=n)(hn1:1≤n)(hn:n≤16)(hm:ms.length≤1000)(hN:nbK n (Q*nv+2) nv n≤100000):
  Calls Tryz.prog 40 #[v,.int .i64 (n:Int)] w fun e w'=>∃ u hs p,e=.returned u∧MatN w' u hs (Q*nv+2)∧hs.length≤n∧Below w.heap.size w w'∧FormL n hs p∧Alikes n (InL hs) (InL ms)∧Fresh w.heap.size u:=
 ziE w v ms n nv Q hQ hQ16 hv hr hn1 hn hm (Nat.le_trans hN (by omega))
theorem ziC (w:World)(v:Value)(ms:List (List Int))(n nv:Nat)(hv:MatN w v ms nv)(hr:∀ us∈ms,us.length=n)(hn1:1≤n)(hn:n≤16)(hm:ms.length≤1000)(hN:nbK n (n*nv+2) nv n≤100000):
  Calls Tryz.prog 40 #[v,.int .i64 (n:Int)] w fun e w'=>∃ u hs p,e=.returned u∧MatN w' u hs (n*nv+2)∧hs.length≤n∧Below w.heap.size w w'∧FormL n hs p∧Alikes n (InL hs) (InL ms)∧Fresh w.heap.size u:=
 ziD w v ms n nv n (.inl zL) hn hv hr hn1 hn hm hN
open Go.ChangeShapes Go.WideShapes Go.ChangeAt Go.Joins
theorem Tryz.cellsNum:Tryz.prog.cellsOf 90=2:=by kernel_rfl
theorem Tryz.cellsU32:Tryz.prog.cellsOf 112=1:=by kernel_rfl
theorem Tryz.own:ownKnob Tryz.prog.godebug=none:=by kernel_rfl
theorem Tryz.laidOut:laidOutB Tryz.prog=true:=by kernel_rfl
theorem Tryz.cellsSl:Tryz.prog.cellsOf 88=1:=by kernel_rfl
theorem Tryz.cellsBool:Tryz.prog.cellsOf 4=1:=by kernel_rfl
instance:Inhabited Raw:=⟨⟨false,.bool false,[]⟩⟩
def MatL (w:World)(v:Value)(rss:List (List Raw)):Prop:=
 ∃ ao cap,v=.slice ao rss.length cap∧rss.length≤cap∧(0<rss.length→∃ b off,ao=some ⟨b,off,none⟩∧b<w.heap.size∧∀ i rs,rss[i]?=some rs→∃ u,w.cell? ⟨b,off+i,none⟩=some u∧VecL w u rs)
theorem MatL.below{w':World}{rss:List (List Raw)}(h:MatL w v rss)(hb:Below B w w')(hB:w.heap.size≤B):MatL w' v rss:=by
 obtain⟨ao,cap,hv,h1,h2⟩:=h;refine⟨ao,cap,hv,h1,fun h0=>?_⟩;obtain⟨b,off,e,hlt,hc⟩:=h2 h0;refine⟨b,off,e,zT hlt hb.size,fun i zs hi=>?_⟩;obtain⟨u,h3,h4⟩:=hc i zs hi;exact⟨u,(hb.cell (p:=⟨b,off+i,none⟩) (zT hlt hB)).trans h3,h4.below hb hB⟩
theorem MatL.at{rss:List (List Raw)}(h:MatL W v rss)(i:Nat)(hi:i<rss.length):∃ b off cap,v=.slice (some ⟨b,off,none⟩) rss.length cap∧b<W.heap.size∧∃ u,W.cell? ⟨b,off+i,none⟩=some u∧VecL W u rss[i]:=by
 obtain⟨ao,cap,rfl,-,h2⟩:=h;obtain⟨b,off,rfl,hlt,hc⟩:=h2 (by omega);obtain⟨u,h3,h4⟩:=hc i rss[i] (by simp [hi]);exact⟨b,off,cap,rfl,hlt,u,h3,h4⟩
theorem NumL.raw{neg:Bool}{s:Value}{z:Int}(h:NumL w (.agg #[.bool neg,s]) z n):∃ zs,Lim w s zs∧isNum neg zs=true:=by
 obtain⟨neg',s',zs,e,hl,hn,h0,-,-⟩:=h;simp only [Value.agg.injEq,Array.mk.injEq,List.cons.injEq,Value.bool.injEq,and_true] at e;obtain⟨rfl,rfl⟩:=e;refine⟨zs,hl,?_⟩;unfold isNum;by_cases hz:zs.length=0
 ·rw [if_pos hz,h0 hz];rfl
 ·rw [if_neg hz,bne_iff_ne];rcases hn with h | h
  ·exact absurd h hz
  ·exact h
theorem VecN.raw(h:VecN w v zs n):∃ rs:List Raw,VecL w v rs∧rs.length=zs.length∧rs.all Raw.num=true:=by
 obtain⟨ao,cap,rfl,h1,h2⟩:=h;by_cases h0:0<zs.length
 ·obtain⟨b,off,rfl,hlt,hc⟩:=h2 h0;have key:∀ k,k≤zs.length→∃ rs:List Raw,rs.length=k∧rs.all Raw.num=true∧∀ i r,rs[i]?=some r→w.cell? ⟨b,off+i*2,none⟩=some (.bool r.neg)∧w.cell? ⟨b,off+i*2+1,none⟩=some r.s∧Lim w r.s r.zs:=by
   intro k
   induction k with
   | zero=>exact fun _=>⟨[],rfl,rfl,fun i r e=>by simp at e⟩
   | succ k ih=>
    intro hk;obtain⟨rs,e1,e2,e3⟩:=ih (by omega);obtain⟨neg,o,l,c,c0,c1,hn⟩:=hc k (by omega);obtain⟨zs',hl,hi⟩:=hn.raw;refine⟨rs++[⟨neg,.slice o l c,zs'⟩],by simp [e1],by simp [e2,Raw.num,hi],fun i r e=>?_⟩;by_cases hi:i<rs.length
    ·rw [List.getElem?_append_left hi] at e;exact e3 i r e
    ·rw [List.getElem?_append_right (by omega)] at e;have hik:i-rs.length=0:=by
      have:=(List.getElem?_eq_some_iff.1 e).1;simpa using this
     rw [hik] at e;simp only [List.getElem?_cons_zero,Option.some.injEq] at e;have:i=k:=by omega
     rw [this,← e];exact⟨c0,c1,hl⟩
  obtain⟨rs,e1,e2,e3⟩:=key zs.length zL;exact⟨rs,⟨_,cap,by rw [e1],by rw [e1];exact h1,fun _=>⟨b,off,rfl,hlt,e3⟩⟩,e1,e2⟩
 ·exact⟨[],⟨ao,cap,by rw [show zs.length=0 by omega];rfl,Nat.zero_le _,fun h=>absurd h (by simp)⟩,by simp;omega,rfl⟩
def chkRows (n:Int):List (List Raw)→Value
 | []=>.nilIface
 | rs::t=>if (rs.length:Int)≠n then .iface 66 (.int .i64 6) else if rs.all Raw.num=false then .iface 66 (.int .i64 3) else chkRows n t
def checkedM (rss:List (List Raw))(n:Int):Value:=
 if n<1∨8<n then .iface 66 (.int .i64 1) else if 12<rss.length then .iface 66 (.int .i64 2) else chkRows n rss
theorem zgH{n:Int}{rss:List (List Raw)}(hk:k<rss.length)(h1:(rss[k].length:Int)=n)(h2:rss[k].all Raw.num=true):chkRows n (rss.drop (k+1))=chkRows n (rss.drop k):=by
 rw [List.drop_eq_getElem_cons hk,chkRows,if_neg (by rw [h1];exact fun h=>h rfl),if_neg (by rw [h2];decide)]
theorem zgG{n:Int}{rss:List (List Raw)}(hk:k<rss.length)(h1:(rss[k].length:Int)≠n):chkRows n (rss.drop k)=.iface 66 (.int .i64 6):=by
 rw [List.drop_eq_getElem_cons hk,chkRows,if_pos h1]
theorem zgF{n:Int}{rss:List (List Raw)}(hk:k<rss.length)(h1:(rss[k].length:Int)=n)(h2:rss[k].all Raw.num=false):chkRows n (rss.drop k)=.iface 66 (.int .i64 3):=by
 rw [List.drop_eq_getElem_cons hk,chkRows,if_neg (by rw [h1];exact fun h=>h rfl),if_pos h2]
theorem zd5 {n:Int}:∀ {rss:List (List Raw)},chkRows n rss=.nilIface↔∀ rs∈rss,(rs.length:Int)=n∧rs.all Raw.num=true
 | []=>⟨fun _ rs h=>(by cases h),fun _=>rfl⟩
 | rs::t=>by
  rw [chkRows];by_cases h1:(rs.length:Int)=n
  ·rw [if_neg (fun h=>h h1)];rcases Bool.eq_false_or_eq_true (rs.all Raw.num) with h2 | h2
   rotate_left
   ·rw [if_pos h2];refine⟨fun h=>(by cases h),fun h=>?_⟩;have:=(h rs (by simp)).2;rw [h2] at this;cases this
   ·rw [if_neg (by rw [h2];decide),zd5];exact⟨fun h x hx=>by
     rcases List.mem_cons.1 hx with rfl | hx
     ·exact⟨h1,h2⟩
     ·exact h x hx,fun h x hx=>h x (List.mem_cons_of_mem _ hx)⟩
  ·rw [if_pos h1];exact⟨fun h=>(by cases h),fun h=>absurd (h rs (by simp)).1 h1⟩
theorem zgE{n:Int}{rss:List (List Raw)}:checkedM rss n=.nilIface↔1≤n∧n≤8∧rss.length≤12∧∀ rs∈rss,(rs.length:Int)=n∧rs.all Raw.num=true:=by
 unfold checkedM;by_cases h1:n<1∨8<n
 ·rw [if_pos h1];exact⟨fun h=>(by cases h),fun h=>by omega⟩
 ·rw [if_neg h1];by_cases h2:12<rss.length
  ·rw [if_pos h2];exact⟨fun h=>(by cases h),fun h=>by omega⟩
  ·rw [if_neg h2,zd5];exact⟨fun h=>⟨by omega,by omega,by omega,h⟩,fun h=>h.2.2.2⟩
theorem zgA (w:World)(v:Value)(rss:List (List Raw))(n:Int)(hv:MatL w v rss):
  Calls Tryz.prog 39 #[v,.int .i64 n] w fun e w'=>e=.returned (checkedM rss n)∧Below w.heap.size w w':=by
 have HV:=hide hv;obtain⟨ao,cap,rfl,-,-⟩:=hv;by_cases h1:n<1
 ·have e:checkedM rss n=.iface 66 (.int .i64 1):=if_pos (.inl h1);rw [e];clear e;go_enter Tryz.func39,Tryz.ntmps39;go_wp2;go_ret;exact⟨rfl,zB _ _⟩
 ·by_cases h2:8<n
  ·have e:checkedM rss n=.iface 66 (.int .i64 1):=if_pos (.inr h2);rw [e];clear e;go_enter Tryz.func39,Tryz.ntmps39;go_wp2;go_ret;exact⟨rfl,zB _ _⟩
  ·by_cases h3:12<rss.length
   ·have e:checkedM rss n=.iface 66 (.int .i64 2):=by unfold checkedM;rw [if_neg (by omega),if_pos h3]
    rw [e];have h3':(12:Int)<(rss.length:Int):=by omega
    clear e;go_enter Tryz.func39,Tryz.ntmps39;go_wp2;go_ret;exact⟨rfl,zB _ _⟩
   ·have e:checkedM rss n=chkRows n rss:=by unfold checkedM;rw [if_neg (by omega),if_neg h3]
    rw [e];have h3':¬((12:Int)<(rss.length:Int)):=by omega
    clear e;go_enter Tryz.func39,Tryz.ntmps39;go_wp2;go_loopw [20] (fun i wr=>∃ k:Nat,k≤rss.length∧i=.int .i64 k∧Hid (chkRows n (rss.drop k)=chkRows n rss)∧Below w.heap.size w wr) (fun i _=>rss.length-(intOf i).toNat)
    case atStart=>exact⟨0,Nat.zero_le _,rfl,by show _=_;rw [List.drop_zero],zB _ _⟩
    case round=>
     obtain⟨k,hk,rfl,HG,hbe⟩:=hrel;have HBE:=hide hbe;clear hbe;by_cases hkl:k<rss.length
     ·obtain⟨b,off,_,e,hlt,u,cu,hu⟩:=(HV.out.below HBE.out zL).at k hkl;simp only [zV,true_and] at e;obtain⟨rfl,rfl⟩:=e;have HU:=hide hu;have H1:=hide (fun h1 h2=>(zgH (n:=n) hkl h1 h2).trans HG.out);have H2:=hide (fun h1=>(HG.out.symm.trans (zgG (n:=n) hkl h1)));have H3:=hide (fun h1 h2=>(HG.out.symm.trans (zgF (n:=n) hkl h1 h2)));generalize rss[k]=rs at *;obtain⟨uo,ucap,rfl,-,-⟩:=hu;by_cases hsz:(rs.length:Int)=n
      ·have hb:((rs.length:Int) != n)=false:=by rw [bne_eq_false_iff_eq];exact hsz
       have hcv:checkedV rs=checked (rs.all Raw.num):=if_neg (by omega);have HCK:=hide (zgC wr _ rs HU.out);rw [hcv] at HCK;have HSZ:=hide hsz;clear hcv HU hsz;go_wp2_with fail;refine HCK.out.mono ?_;rintro e w1 ⟨rfl,hb1⟩;have HB1:=hide (HBE.out.trans (hb1.mono HBE.out.size));clear hb1 HCK;cases hn:rs.all Raw.num
       ·have HA:=hide (H3.out HSZ.out hn);have e:checked false=.iface 66 (.int .i64 3):=rfl;rw [e];clear H1 H2 H3 e hn;go_wp2;go_ret;exact⟨by rw [HA.out];rfl,HB1.out⟩
       ·have e:checked true=.nilIface:=rfl;rw [e];have HG':=hide (H1.out HSZ.out hn);clear H1 H2 H3 e hn HG;go_wp2;go_roundw
        case rel=>exact⟨k+1,by omega,by go_num,HG',HB1.out⟩
        case measure=>simp [intOf];omega
      ·have hb:((rs.length:Int) != n)=true:=by rw [bne_iff_ne];exact hsz
       have HA:=hide (H2.out hsz);clear H1 H2 H3;go_wp2;go_ret;exact⟨by rw [HA.out];rfl,HBE.out⟩
     ·obtain rfl:k=rss.length:=by omega
      have HA:Hid (chkRows n rss=.nilIface):=by
       have:=HG.out;rw [List.drop_length] at this;exact this.symm
      clear HG;go_wp2;go_ret;exact⟨by rw [HA.out];rfl,HBE.out⟩
theorem MatN.raw{zss:List (List Int)}(h:MatN w v zss n):∃ rss:List (List Raw),MatL w v rss∧rss.length=zss.length∧∀ i (h:i<zss.length) rs,rss[i]?=some rs→rs.length=zss[i].length∧rs.all Raw.num=true:=by
 obtain⟨ao,cap,rfl,h1,h2⟩:=h;by_cases h0:0<zss.length
 ·obtain⟨b,off,rfl,hlt,hc⟩:=h2 h0;have key:∀ k,k≤zss.length→∃ rss:List (List Raw),rss.length=k∧(∀ i (h:i<zss.length) rs,rss[i]?=some rs→rs.length=zss[i].length∧rs.all Raw.num=true)∧∀ i rs,rss[i]?=some rs→∃ u,w.cell? ⟨b,off+i,none⟩=some u∧VecL w u rs:=by
   intro k
   induction k with
   | zero=>exact fun _=>⟨[],rfl,fun i _ r e=>by simp at e,fun i r e=>by simp at e⟩
   | succ k ih=>
    intro hk;obtain⟨rss,e1,e2,e3⟩:=ih (by omega);obtain⟨u,cu,hu⟩:=hc k zss[k] (by simp);obtain⟨rs,hl,hlen,hnum⟩:=hu.raw;have two:∀ i r,(rss++[rs])[i]?=some r→rss[i]?=some r∨(i=k∧r=rs):=fun i r e=>by
     by_cases hi:i<rss.length
     ·rw [List.getElem?_append_left hi] at e;exact .inl e
     ·rw [List.getElem?_append_right (by omega)] at e;have hik:i-rss.length=0:=by
       have:=(List.getElem?_eq_some_iff.1 e).1;simpa using this
      rw [hik] at e;simp only [List.getElem?_cons_zero,Option.some.injEq] at e;exact .inr ⟨by omega,e.symm⟩
    refine⟨rss++[rs],by simp [e1],fun i hi r e=>?_,fun i r e=>?_⟩
    ·rcases two i r e with h |⟨rfl,rfl⟩
     ·exact e2 i hi r h
     ·exact⟨hlen,hnum⟩
    ·rcases two i r e with h |⟨rfl,rfl⟩
     ·exact e3 i r h
     ·exact⟨u,cu,hl⟩
  obtain⟨rss,e1,e2,e3⟩:=key zss.length zL;exact⟨rss,⟨_,cap,by rw [e1],by rw [e1];exact h1,fun _=>⟨b,off,rfl,hlt,e3⟩⟩,e1,e2⟩
 ·exact⟨[],⟨ao,cap,by rw [show zss.length=0 by omega];rfl,Nat.zero_le _,fun h=>absurd h (by simp)⟩,by simp;omega,fun i hi=>absurd hi (by omega)⟩
theorem zgB (w:World)(v:Value)(zss:List (List Int))(n nv:Nat)(hv:MatN w v zss nv)(hn1:1≤n)(hn:n≤8)(hl:zss.length≤12)(hr:∀ zs∈zss,zs.length=n):
  Calls Tryz.prog 39 #[v,.int .i64 (n:Int)] w fun e w'=>e=.returned .nilIface∧Below w.heap.size w w':=by
 obtain⟨rss,h1,h2,h3⟩:=hv.raw;have e:checkedM rss (n:Int)=.nilIface:=zgE.2 ⟨by omega,by omega,by omega,fun rs h=>by
  obtain⟨i,hi,e⟩:=List.getElem_of_mem h;obtain⟨h4,h5⟩:=h3 i (by omega) rs (by rw [List.getElem?_eq_getElem hi,e]);have:=hr _ (List.getElem_mem (show i<zss.length by omega));exact⟨by omega,h5⟩⟩
 have:=zgA w v rss n h1
 rwa [e] at this
def HermPost (w:World)(n nv:Nat)(ms:List (List Int))(e:Ending)(w':World):Prop:=
 ∃ u hs p,e=.returned (.tuple #[u,.nilIface])∧MatN w' u hs (n*nv+2)∧hs.length≤n∧Below w.heap.size w w'∧FormL n hs p∧Alikes n (InL hs) (InL ms)
def HermNew (w:World)(n nv:Nat)(ms:List (List Int))(e:Ending)(w':World):Prop:=
 ∃ u hs p,e=.returned (.tuple #[u,.nilIface])∧MatN w' u hs (n*nv+2)∧hs.length≤n∧Below w.heap.size w w'∧FormL n hs p∧Alikes n (InL hs) (InL ms)∧Fresh w.heap.size u
theorem zhZ (w:World)(v:Value)(ms:List (List Int))(n nv:Nat)(hv:MatN w v ms nv)(hr:∀ us∈ms,us.length=n)(hn1:1≤n)(hn:n≤8)(hm:ms.length≤12)(hN:nbK n (n*nv+2) nv n≤100000):
  Calls Tryz.prog 23 #[v,.int .i64 (n:Int)] w fun e w'=>HermNew w n nv ms e w':=by
 have HC:=hide (zgB w v ms n nv hv hn1 hn hm hr);have HO:=hide (fun w1 (hb:Below w.heap.size w w1)=>ziC w1 v ms n nv (hv.below hb zL) hr hn1 (by omega) (by omega) hN);obtain⟨ao,cap,rfl,-,-⟩:=hv;clear hr hN;go_enter Tryz.func23,Tryz.ntmps23;go_wp2_with fail;refine HC.out.mono ?_;rintro e w1 ⟨rfl,hb1⟩;have HB1:=hide hb1;clear hb1 HC;go_wp2_with fail;refine(HO.out w1 HB1.out).mono ?_;rintro e w2 ⟨u,hs,p,rfl,h1,h2,h3,h4,h5,h6⟩;have HP:=hide (show HermNew w n nv ms (.returned (.tuple #[u,.nilIface])) w2 from⟨u,hs,p,rfl,h1,h2,HB1.out.trans (h3.mono HB1.out.size),h4,h5,h6.mono HB1.out.size⟩);clear h1 h2 h3 h4 h5 h6 HO HB1;go_wp2;go_ret2;exact HP.out
theorem zhY (w:World)(v:Value)(ms:List (List Int))(n nv:Nat)(hv:MatN w v ms nv)(hr:∀ us∈ms,us.length=n)(hn1:1≤n)(hn:n≤8)(hm:ms.length≤12)(hN:nbK n (n*nv+2) nv n≤100000):
  Calls Tryz.prog 23 #[v,.int .i64 (n:Int)] w fun e w'=>HermPost w n nv ms e w':=
 (zhZ w v ms n nv hv hr hn1 hn hm hN).mono fun _ _ ⟨u,hs,p,h1,h2,h3,h4,h5,h6,_⟩=>⟨u,hs,p,h1,h2,h3,h4,h5,h6⟩
structure RowsI (w W:World)(B:Nat)(m:Nat)(rows:List (List Int))(k N:Nat):Prop where
 low:Below w.heap.size w W
 high:w.heap.size≤B
 lt:B<W.heap.size
 blk:∃ cs t,W.heap[B]?=some (.cells cs t)
 nil:∀ i,k≤i→i<m→W.cell? ⟨B,i,none⟩=some (.slice none 0 0)
 row:∀ i,i<k→∃ Q,W.cell? ⟨B,i,none⟩=some (.slice (some ⟨Q,0,none⟩) (rows.getD i []).length (rows.getD i []).length)∧VecN W (.slice (some ⟨Q,0,none⟩) (rows.getD i []).length (rows.getD i []).length) (rows.getD i []) N∧Q<W.heap.size∧Q≠B
theorem ziG (m i:Nat)(hi:i<m):(madeCells #[.slice none 0 0] m)[i]?=some (.slice none 0 0):=by
 simp [madeCells,hi,Nat.mod_one]
theorem RowsI.start{W0:World}(hb:Below w.heap.size w W0)(m:Nat)(rows:List (List Int))(N:Nat):RowsI w (W0.alloc (.cells (madeCells #[.slice none 0 0] m) 62)) W0.heap.size m rows 0 N:=by
 refine⟨hb.alloc hb.size _,hb.size,by simp,⟨_,_,heap_alloc_new W0 _⟩,fun i _ hi=>?_,fun i hi=>absurd hi (by omega)⟩;rw [World.cell?_alloc_new];exact ziG m i hi
theorem RowsI.later{W':World}{rows:List (List Int)}(h:RowsI w W B m rows k N)(hb:Below W.heap.size W W'):RowsI w W' B m rows k N where
 low:=h.low.trans (hb.mono h.low.size)
 high:=h.high
 lt:=zT h.lt hb.size
 blk:=by obtain⟨cs,t,e⟩:=h.blk;exact⟨cs,t,(hb.block _ (zm e)).trans e⟩
 nil:=fun i h1 h2=>(hb.cell (p:=⟨B,i,none⟩) h.lt).trans (h.nil i h1 h2)
 row:=fun i hi=>by
  obtain⟨Q,e,hv,hq,hne⟩:=h.row i hi;exact⟨Q,(hb.cell (p:=⟨B,i,none⟩) h.lt).trans e,hv.below hb zL,zT hq hb.size,hne⟩
theorem RowsI.thaw{rows:List (List Int)}(h:RowsI w W B m rows k N)(i:Nat):W.frozen? ⟨B,i,none⟩=false:=by
 obtain⟨cs,t,e⟩:=h.blk;simp [World.frozen?,e]
theorem RowsI.mat{rows:List (List Int)}(h:RowsI w W B m rows m N)(hm:rows.length=m):MatN W (.slice (some ⟨B,0,none⟩) m m) rows N:=by
 subst hm;refine⟨_,_,rfl,Nat.le_refl _,fun h0=>⟨_,_,rfl,h.lt,fun i zs hi=>?_⟩⟩;obtain⟨hi',e⟩:=List.getElem?_eq_some_iff.1 hi;obtain⟨Q,e1,hv,-,-⟩:=h.row i hi';rw [zax hi',e] at e1 hv;exact⟨_,by rw [Nat.zero_add];exact e1,hv⟩
end Go.Proofs.YtncamilanceahaaGreat
