import Derived.Shelf.Strings.OnBuilder
import Derived.Shelf.Strings.Count
import Derived.Shelf.Strings.Split
import Derived.Test.YtdedolkgcdlmeaaGreatDoorProg
import Derived.Lib.Split
import Derived.Lib.Join
import Derived.Test.YtdedolkgcdlmeaaGreatDoorTextZ
set_option maxRecDepth 100000
set_option maxHeartbeats 3200000
set_option linter.unusedSimpArgs false
namespace Go.Proofs
open Go.Shelf Go.RowKit
def Tryz.lays156_ren:Go.Shelf.Ren:=⟨fun | 156=>93 | 165=>122 | 166=>119 | 169=>121 | 240=>138 | 241=>140 | 276=>154 | 277=>156 | n=>n,fun | 31=>136 | 9=>9 | 3=>3 | 4=>4 | 0=>0 | 20=>20 | 72=>165 | 76=>167 | 70=>162 | 37=>163 | 75=>31 | 127=>185 | 164=>194 | 5=>5 | 80=>170 | n=>n,fun | n=>n⟩
theorem Tryz.lays156:Go.Proofs.Lays.n156 Tryz.prog Tryz.lays156_ren:={
 mixed:=by kernel_rfl
 f156:=Tryz.func93.trans (congrArg some (by kernel_rfl))
 f165:=Tryz.func122.trans (congrArg some (by kernel_rfl))
 f166:=Tryz.func119.trans (congrArg some (by kernel_rfl))
 f169:=Tryz.func121.trans (congrArg some (by kernel_rfl))
 f240:=Tryz.func138.trans (congrArg some (by kernel_rfl))
 f241:=Tryz.func140.trans (congrArg some (by kernel_rfl))
 f276:=Tryz.func154.trans (congrArg some (by kernel_rfl))
 f277:=Tryz.func156.trans (congrArg some (by kernel_rfl))
 t0:=Tryz.underlying0
 a0:=Tryz.isAgg0
 z0:=Tryz.sizeOf0
 v0:=Tryz.zeroValue0
 t3:=Tryz.underlying3
 a3:=Tryz.isAgg3
 z3:=Tryz.sizeOf3
 v3:=Tryz.zeroValue3
 t4:=Tryz.underlying4
 a4:=Tryz.isAgg4
 z4:=Tryz.sizeOf4
 v4:=Tryz.zeroValue4
 t9:=Tryz.underlying9
 a9:=Tryz.isAgg9
 z9:=Tryz.sizeOf9
 v9:=Tryz.zeroValue9
 t20:=Tryz.underlying20
 a20:=Tryz.isAgg20
 z20:=Tryz.sizeOf20
 v20:=Tryz.zeroValue20
 t31:=Tryz.underlying136
 a31:=Tryz.isAgg136
 z31:=Tryz.sizeOf136
 v31:=Tryz.zeroValue136
 t37:=Tryz.underlying163
 a37:=Tryz.isAgg163
 z37:=Tryz.sizeOf163
 v37:=Tryz.zeroValue163
 t70:=Tryz.underlying162
 a70:=Tryz.isAgg162
 z70:=Tryz.sizeOf162
 v70:=Tryz.zeroValue162
 t72:=Tryz.underlying165
 a72:=Tryz.isAgg165
 z72:=Tryz.sizeOf165
 v72:=Tryz.zeroValue165
 t75:=Tryz.underlying31
 a75:=Tryz.isAgg31
 z75:=Tryz.sizeOf31
 v75:=Tryz.zeroValue31
 t76:=Tryz.underlying167
 a76:=Tryz.isAgg167
 z76:=Tryz.sizeOf167
 v76:=Tryz.zeroValue167
 t127:=Tryz.underlying185
 a127:=Tryz.isAgg185
 z127:=Tryz.sizeOf185
 v127:=Tryz.zeroValue185
 t164:=Tryz.underlying194
 a164:=Tryz.isAgg194
 z164:=Tryz.sizeOf194
 v164:=Tryz.zeroValue194 }
theorem Tryz.Builder_Extra_156:Builder.Extra Tryz.prog Tryz.lays156_ren:={
 sizeBuilder:=by kernel_rfl
 liesBuilder:=by kernel_rfl
 t5:=Tryz.underlying5
 a5:=Tryz.isAgg5
 z5:=Tryz.sizeOf5
 v5:=Tryz.zeroValue5
 infoByte:=by kernel_rfl
 cellsByte:=by kernel_rfl
 sizeByte:=by kernel_rfl
 neB5:=by decide }
open Go.RowKit in
theorem Tryz.strings_Join (bk o c:Nat)(xs:List ByteArray)(sep:ByteArray)(w:World)(hcells:∀(j:Nat) x,xs[j]?=some x→w.cell? ⟨bk,o+j,none⟩=some (.string x))(hbk:bk<w.heap.size)(hN:xs.length≤140737488355328)(hcap:xs.length≤c)(hlen:(Lib.join (xs.map (·.data.toList)) sep.data.toList).length≤140737488355328):
  Calls Tryz.prog 93 #[.slice (some ⟨bk,o,none⟩) xs.length c,.string sep] w fun e w'=>e=.returned (.string ⟨(Lib.join (xs.map (·.data.toList)) sep.data.toList).toArray⟩)∧Below w.heap.size w w':=Any.strings_Join Tryz.lays156 Tryz.Builder_Extra_156 bk o c xs sep w hcells hbk hN hcap hlen
end Go.Proofs
/- Texts put together with one byte between, and cut at it again. No Go in it. -/
namespace Go.Proofs.YtdedolkgcdlmeaaGreatDoor
open Go
open Go.RowKit Limbs
variable{n m nv P k cap base:Nat}{w wr W:World}{v:Value}{zs:List Int}
theorem Tryz.infoStr:(Tryz.prog.info? 9).map (fun i=>(i.zero,i.size,i.bytes))=some (some (.string ByteArray.empty),1,16):=by kernel_rfl
theorem zkb (m:Nat)(hm:m≤1000)(W:World):(Instr.makeSlice 136 (.int .i64 (m:Int)) (.int .i64 (m:Int))).run Tryz.prog W=.ok (.slice (some ⟨W.heap.size,0,none⟩) m m) (W.alloc (.cells (Lib.cellsOf [] m) 9)):=by
 obtain⟨i0,hi,hz0,hz1,hz2⟩:=info_parts Tryz.infoStr;have h:=run_make (P:=Tryz.prog) W 136 9 i0 (.string ByteArray.empty) (by kernel_rfl) hi hz0 .i64 .i64 m m (by omega) (by omega) (by rw [hz2];omega) (by omega);rw [hz1,Int.toNat_natCast,Nat.mul_one] at h;rw [Lib.cellsOf_nil];exact h
def vtxt (zs:List Int):List UInt8:=40::(Lib.join (zs.map txt) [32]++[41])
def btxt (z:Int):ByteArray:=⟨(txt z).toArray⟩
theorem zez (zs:List Int):(zs.map btxt).map (·.data.toList)=zs.map txt:=by
 rw [List.map_map];apply List.map_congr_left;intro z _;simp [btxt]
def TxInv (w wr:World)(P:Nat)(zs:List Int)(k:Nat):Prop:=
 wr.heap[P]?=some (.cells (Lib.cellsOf ((zs.take k).map btxt) zs.length) 9)∧Below w.heap.size w wr
theorem TxInv.store(h:TxInv w wr P zs k)(hP:w.heap.size≤P)(hk:k<zs.length):TxInv w (wr.setCell ⟨P,k,none⟩ (.string (btxt (zs.getD k 0)))) P zs (k+1):=by
 obtain⟨h1,h2⟩:=h;have hl:((zs.take k).map btxt).length=k:=by rw [zM,List.length_take];omega
 have hs:=heap_setCell_same wr P k _ _ (.string (btxt (zs.getD k 0))) h1;refine⟨?_,h2.setCell (by exact hP) _⟩;have e:(Lib.cellsOf ((zs.take k).map btxt) zs.length).setIfInBounds k (.string (btxt (zs.getD k 0)))=Lib.cellsOf ((zs.take (k+1)).map btxt) zs.length:=by
  have:=Lib.cellsOf_set (done:=(zs.take k).map btxt) (N:=zs.length) (by omega) (btxt (zs.getD k 0));rw [hl] at this;rw [this,List.take_succ_eq_append_getElem hk,List.map_append];simp [List.getD_eq_getElem?_getD,hk]
 rw [← e];exact hs
theorem TxInv.full(h:TxInv w wr P zs zs.length):∀(j:Nat) x,(zs.map btxt)[j]?=some x→wr.cell? ⟨P,0+j,none⟩=some (.string x):=fun j x hx=>by
 have h1:=h.1;rw [List.take_length] at h1;have:=World.news_of_block h1 j (.string x) (by
  unfold Lib.cellsOf;rw [List.toList_toArray,List.getElem?_append_left (by rw [zM];exact(List.getElem?_eq_some_iff.1 hx).1),List.getElem?_map,hx];rfl)
 have e:(⟨P,0,none⟩:Addr).add j=⟨P,0+j,none⟩:=by unfold Addr.add;split <;> simp_all
 rwa [e] at this
theorem joined (l:List UInt8):(⟨#[40]⟩:ByteArray) ++⟨l.toArray⟩ ++⟨#[41]⟩=⟨(40::(l++[41])).toArray⟩:=by
 apply ByteArray.ext;simp
theorem zle (w:World)(v:Value)(zs:List Int)(n:Nat)(ht:Tab w)(hv:VecN w v zs n)(hn:n≤900000)(h0:0<zs.length)(h8:zs.length≤8)(hlen:(Lib.join (zs.map txt) [32]).length≤100000):
  Calls Tryz.prog 50 #[v] w fun e w'=>e=.returned (.string ⟨(vtxt zs).toArray⟩)∧Below w.heap.size w w':=by
 have HV:=hide hv;have HT:=hide ht;obtain⟨vb,voff,vcap,rfl⟩:=hv.form h0;clear hv ht;have hmk:=zkb zs.length (by omega);have HI:Hid (TxInv w (w.alloc (.cells (Lib.cellsOf [] zs.length) 9)) w.heap.size zs 0):=⟨heap_alloc_new w _,(zB _ _).alloc zL _⟩;go_enter Tryz.func50,Tryz.ntmps50;go_wp2;clear hmk;go_loopw [10] (fun i wr=>∃ k:Nat,k≤zs.length∧i=.int .i64 k∧TxInv w wr w.heap.size zs k) (fun i _=>zs.length-(intOf i).toNat)
 case atStart=>exact⟨0,Nat.zero_le _,rfl,HI.out⟩
 case round=>
  clear HI;obtain⟨k,hk,rfl,hinv⟩:=hrel;have HI:=hide hinv;clear hinv;by_cases hkl:k<zs.length
  ·obtain⟨la,an,ao,al,ac,a0,a1,na⟩:=(HV.out.below HI.out.2 zL).at k hkl;have NA:=hide na;have HST:=hide (fun(W:World) (h:TxInv w W w.heap.size zs k)=>h.store zL hkl);clear na;have HBT:=hide (show btxt (zs.getD k 0)=⟨(txt (zs.getD k 0)).toArray⟩ from rfl);generalize zs.getD k 0=z at *;go_wp2_with fail;refine(zkK wr _ z n (HT.out.below HI.out.2) NA.out hn).mono ?_;rintro e w1 ⟨rfl,hb⟩;have HI1:=hide (show TxInv w w1 w.heap.size zs k from⟨(hb.block _ (zj HI.out.1)).trans HI.out.1,HI.out.2.trans (hb.mono HI.out.2.size)⟩);have hll:((zs.take k).map btxt).length=k:=by rw [zM,List.length_take];omega
   have hcell:w1.cell? ⟨w.heap.size,k,none⟩=some (.string ByteArray.empty):=by
    have h:=Lib.cellsOf_next (done:=(zs.take k).map btxt) (N:=zs.length) (by omega);rw [hll] at h;have:=World.news_of_block HI1.out.1 k (.string ByteArray.empty) (by rw [← h];simp);have e:(⟨w.heap.size,0,none⟩:Addr).add k=⟨w.heap.size,k,none⟩:=by unfold Addr.add;split <;> simp_all
    rwa [e] at this
   have hfr:w1.frozen? ⟨w.heap.size,k,none⟩=false:=by
    have h:=HI1.out.1;simp [World.frozen?,h]
   have HN:=hide (HST.out w1 HI1.out);rw [HBT.out] at HN;clear hb HST HI HI1 HBT hll a0 a1;go_wp2;go_roundw
   case rel=>exact⟨k+1,by omega,by go_num,HN.out⟩
   case measure=>simp [intOf];omega
  ·obtain rfl:k=zs.length:=by omega
   have HJ:=hide (Go.Proofs.Tryz.strings_Join w.heap.size 0 zs.length (zs.map btxt) ⟨#[32]⟩ wr HI.out.full (zj HI.out.1) (by rw [zM];omega) (by rw [zM];exact Nat.le_refl _) (by rw [zez];show(Lib.join _ [32]).length≤_;omega));rw [zM,zez] at HJ;have HBE:=hide HI.out.2;clear HI;go_wp2_with fail;refine HJ.out.mono ?_;rintro e w1 ⟨rfl,hb⟩;have HF:=hide (show Below w.heap.size w w1 from HBE.out.trans (hb.mono HBE.out.size));have e1:(Lib.join (zs.map txt) (⟨#[32]⟩:ByteArray).data.toList)=Lib.join (zs.map txt) [32]:=rfl;rw [e1];have HVT:=hide (show vtxt zs=40::(Lib.join (zs.map txt) [32]++[41]) from rfl);have hsz:(⟨(Lib.join (zs.map txt) [32]).toArray⟩:ByteArray).size≤100000:=by show(Lib.join (zs.map txt) [32]).toArray.size≤_;simpa using hlen
   clear hb HJ HBE e1;generalize Lib.join (zs.map txt) [32]=l at *;have hsz2:((⟨#[40]⟩:ByteArray) ++⟨l.toArray⟩).size≤100001:=by rw [ByteArray.size_append];show 1+_≤_;omega
   go_wp2;go_ret;rw [joined,← HVT.out];exact⟨rfl,HF.out⟩
open Digs
theorem zcV (k:Nat):bp k≤dp (3*k):=by
 induction k with
 | zero=>exact(by decide:(1:Int)≤1)
 | succ k ih=>
  have e:3 *(k+1)=3*k+3:=by omega
  rw [e];show 4294967296*bp k≤dp (3*k+3);have e2:dp (3*k+3)=10000 *(10000 *(10000*dp (3*k))):=rfl;rw [e2];have:=zE k;omega
theorem RowR.fits(h:RowR w v zs n)(hz:∀ j,j<zs.length→-dp m<zs.getD j 0∧zs.getD j 0<dp m):RowR w v zs m:=by
 obtain⟨ao,cap,hv,h3,h4⟩:=h;refine⟨ao,cap,hv,h3,fun h0=>?_⟩;obtain⟨b,cur,fz',e,hh,hc⟩:=h4 h0;refine⟨b,cur,fz',e,hh,fun i hi=>?_⟩;obtain⟨s,o,l,c',h5,h6,h7⟩:=hc i hi;exact⟨s,o,l,c',h5,h6,h7.fits (hz i hi).1 (hz i hi).2⟩
theorem MatR.fits{zss:List (List Int)}(h:MatR w v zss n)(hz:∀ zs∈zss,∀ j,j<zs.length→-dp m<zs.getD j 0∧zs.getD j 0<dp m):MatR w v zss m:=by
 obtain⟨ao,cap,hv,h3,h4⟩:=h;refine⟨ao,cap,hv,h3,fun h0=>?_⟩;obtain⟨b,e,hlt,hc⟩:=h4 h0;refine⟨b,e,hlt,fun i zs hi=>?_⟩;obtain⟨u,h5,h6⟩:=hc i zs hi;exact⟨u,h5,h6.fits (hz zs (List.mem_of_getElem? hi))⟩
theorem MatN.small{zss:List (List Int)}(h:MatN w v zss n):∀ zs∈zss,∀ j,j<zs.length→-dp (3*n)<zs.getD j 0∧zs.getD j 0<dp (3*n):=fun zs hzs j hj=>by
 obtain⟨i,hi,e⟩:=List.getElem_of_mem hzs;obtain⟨b,off,cap',e1,hlt,u,hc,hu⟩:=h.at i hi;rw [e] at hu;obtain⟨b',off',cap2,e2⟩:=hu.form (by omega);subst e2;obtain⟨-,neg,o,l,c,-,-,hz⟩:=hu.at j hj;have h1:=hz.ab_lt;have h2:=zcV n;unfold ab at h1;split at h1 <;> omega
theorem VecN.drop{b off:Nat}{us:List Int}(h:VecN W (.slice (some ⟨b,off,none⟩) us.length cap) us nv)(hn:n+m=us.length)(hm:0<m):VecN W (.slice (some ⟨b,off+n*2,none⟩) m (cap-n)) (us.drop n) nv:=by
 have hc:us.length≤cap:=by
  obtain⟨_,_,e,h1,-⟩:=h;simp only [zV,true_and] at e;rw [e.2];exact h1
 have hl:(us.drop n).length=m:=by rw [List.length_drop];omega
 refine⟨_,_,by rw [hl],by rw [hl];omega,fun _=>⟨b,off+n*2,rfl,(h.at 0 (by omega)).1,fun i hi=>?_⟩⟩;rw [hl] at hi;obtain⟨-,neg,o,l,c,h1,h2,h3⟩:=h.at (n+i) (by omega);refine⟨neg,o,l,c,?_,?_,?_⟩
 ·rw [show off+n*2+i*2=off+(n+i)*2 by omega];exact h1
 ·rw [show off+n*2+i*2+1=off+(n+i)*2+1 by omega];exact h2
 ·rw [zbk];exact h3
theorem zeq (n:Nat)(ts:List (List Int))(k:Nat)(hk:k<ts.length):behindL n (ts.take (k+1))=behindL n (ts.take k) ++(if (n:Int)≤first ts[k] then [ts[k].drop n] else []):=by
 unfold behindL;rw [List.take_succ_eq_append_getElem hk,List.filter_append,List.map_append];by_cases h:(n:Int)≤first ts[k]
 ·rw [if_pos h,List.filter_cons_of_pos (by simpa using h)];rfl
 ·rw [if_neg h,List.filter_cons_of_neg (by simpa using h)];rfl
theorem zcT (n:Nat)(ts:List (List Int))(k:Nat):(behindL n (ts.take k)).length≤k:=by
 unfold behindL;rw [zM];exact Nat.le_trans (List.length_filter_le _ _) (by rw [List.length_take];omega)
theorem zcx{w3:World}{ps qs:List (Rn × Int)}{g:Nat}(e1:ps.length=m)(e2:qs.length=k)(h:GrowR wr base v ps n)(hz:∀ p∈qs,NumR wr p.1.val p.2 n)
  (hown:w3.ownsRow base 40 2 (.slice (some ⟨g,0,none⟩) (m+k) cap) (m+k) (ps.flatMap rcells++qs.flatMap rcells))
  (hg:wr.grownBy w3 v.ownBlock):GrowR w3 base (.slice (some ⟨g,0,none⟩) (m+k) cap) (ps++qs) n:=by
 subst e1 e2;exact zid h hz hown hg
theorem owns'{ps:List (Rn × Int)}(h:GrowR W base v ps n)(e:ps.length=m):W.ownsRow base 40 2 v m (ps.flatMap rcells):=by
 subst e;exact h.1
def MeetRPost (w:World)(n:Nat)(hs ks:List (List Int))(e:Ending)(w':World):Prop:=
 ∃ u ms p,e=.returned u∧MatQ False w' u ms 150∧FormL n ms p∧Both n ms hs ks∧Below w.heap.size w w'
theorem zd6{hs ks:List (List Int)}(h1:∀ r∈hs,r.length=n)(h2:∀ r∈ks,r.length=n):∀ r∈wideL n hs ks,r.length=n+n:=fun r hr=>by
 rcases List.mem_append.1 hr with h | h
 ·obtain⟨r',h',rfl⟩:=List.mem_map.1 h;rw [List.length_append,h1 r' h']
 ·obtain⟨r',h',rfl⟩:=List.mem_map.1 h;rw [List.length_append,h2 r' h',List.length_replicate]
theorem zgv{hs ks:List (List Int)}(l1:∀ r∈hs,r.length=n)(l2:∀ r∈ks,r.length=n)(h1:∀ r∈hs,∀ j,j<n→ab (r.getD j 0)<bp nv)(h2:∀ r∈ks,∀ j,j<n→ab (r.getD j 0)<bp nv):∀ r∈wideL n hs ks,∀ j,j<n+n→ab (r.getD j 0)<bp nv:=fun r hr j hj=>by
 rcases List.mem_append.1 hr with h | h
 ·obtain⟨r',h',rfl⟩:=List.mem_map.1 h;by_cases hjn:j<n
  ·rw [zaS _ _ _ (by rw [l1 r' h'];exact hjn)];exact h1 r' h' j hjn
  ·obtain⟨i,rfl⟩:∃ i,j=r'.length+i:=⟨j-n,by rw [l1 r' h'];omega⟩;rw [zaT];exact h1 r' h' i (by have:=l1 r' h';omega)
 ·obtain⟨r',h',rfl⟩:=List.mem_map.1 h;by_cases hjn:j<n
  ·rw [zaS _ _ _ (by rw [l2 r' h'];exact hjn)];exact h2 r' h' j hjn
  ·obtain⟨i,rfl⟩:∃ i,j=r'.length+i:=⟨j-n,by rw [l2 r' h'];omega⟩;rw [zaT,zal];exact zE nv
theorem zet{ts l:List (List Int)}{p:Nat→Nat}(F:FormL (n+n) ts p)(ha:Alikes (n+n) (InL ts) (InL l))(hl:∀ r∈l,r.length=n+n)(hb:∀ r∈l,∀ j,j<n+n→ab (r.getD j 0)<bp nv)(hn:n≤4):∀ zs∈behindL n ts,∀ j,j<zs.length→-dp (3 *((n+n)*nv+2))<zs.getD j 0∧zs.getD j 0<dp (3 *((n+n)*nv+2)):=fun zs hz j hj=>by
 have hB:=zdj F ha hl hb (by omega);unfold behindL at hz;obtain⟨t,ht,rfl⟩:=List.mem_map.1 hz;have hm:=(List.mem_filter.1 ht).1;rw [List.length_drop] at hj;have h1:=hB t hm (n+j) (by omega);rw [zbk];have h2:=zcV ((n+n)*nv+2);unfold ab at h1;omega
theorem zjd (w:World)(va vb:Value)(hs ks:List (List Int))(n a0:Nat)(p q:Nat→Nat)(ha:MatR w va hs a0)(hb:MatR w vb ks a0)(F:FormL n hs p)(G:FormL n ks q)(h1:1≤n)(h4:n≤4)(hd:dT a0 17≤1000000000)
  (ba:∀ r∈hs,∀ j,j<n→ab (r.getD j 0)<bp 6) (bb:∀ r∈ks,∀ j,j<n→ab (r.getD j 0)<bp 6):
  Calls Tryz.prog 34 #[va,vb,.int .i64 (n:Int)] w fun e w'=>MeetRPost w n hs ks e w':=by
 obtain⟨i0,hi,hz0,hz1,hz2⟩:=info_parts Tryz.infoRNum;obtain⟨j0,hj,hy0,hy1,hy2⟩:=info_parts Tryz.infoRRow;have HA:=hide ha;have HB:=hide hb;have HLA:=hide F.len;have HLB:=hide G.len;have hsl:=F.short;have ksl:=G.short;obtain⟨ao,acap,rfl,-,-⟩:=ha;obtain⟨bo,bcap,rfl,-,-⟩:=hb;have HBA:=hide ba;have HBB:=hide bb;have HDB:=hide hd;clear ba bb hd F G;go_enter Tryz.func34,Tryz.ntmps34;go_wp2;go_loopw [7,8,9] (fun out i sl9 wr=>∃(k:Nat) (qs:List (Value × List Int)),k≤hs.length∧i=.int .i64 k∧Hid (GrowM wr w.heap.size out qs a0)∧Hid (qs.map (·.2)=(hs.take k).map fun r=>r++r)∧Hid (Below w.heap.size w wr)) (fun _ i _ _=>hs.length-(intOf i).toNat)
 case atStart=>exact⟨0,[],Nat.zero_le _,rfl,hide ⟨World.ownsRow_nil _ _ _ _,fun _ h=>by cases h⟩,hide (by simp),hide (zB _ _)⟩
 case round=>
  obtain⟨k,qs,hk,rfl,HGM,HQ,HBE⟩:=hrel;have HQL:Hid (qs.length≤4):=by
   have:=congrArg List.length HQ.out;simp only [List.length_map,List.length_append,List.length_take] at this;show qs.length≤4;omega
  by_cases hkl:k<hs.length
  ·have HTT:=hide (show(hs.take (k+1)).map (fun r=>r++r)=(hs.take k).map (fun r=>r++r)++[hs[k]++hs[k]] by rw [List.take_succ_eq_append_getElem hkl,List.map_append];rfl);obtain⟨_,_,e,-,hc⟩:=HA.out;simp only [zV,true_and] at e;obtain⟨rfl,rfl⟩:=e;obtain⟨mb,rfl,hmlt,hc⟩:=hc (by omega);obtain⟨u,cu0,hu⟩:=hc k hs[k] (by simp [hkl]);clear hc;have cu:=(HBE.out.cell (p:=⟨mb,k,none⟩) hmlt).trans cu0;have hml:mb<wr.heap.size:=zT hmlt HBE.out.size;have hul:=HLA.out _ (List.getElem_mem hkl);have hu2:=hu.below HBE.out zL;clear hu cu0;generalize hs[k]=zs at *;obtain⟨P,cap,e,hPl,-⟩:=hu2.at 0 (by omega);subst e;obtain⟨rs,hrs,hce,hnr⟩:=hu2.rows;have HRS:=hide hrs;have HCE:=hide hce;have HNR:=hide hnr;have HRL:Hid (rs.length=n):=by
    have:=congrArg List.length hrs;rw [zM] at this;show rs.length=n;omega
   rw [hul] at cu;clear hu2 hrs hce hnr;go_wp2_with fail;refine zp (S:=fun w'=>w'.cell? ⟨mb,k,none⟩=some (.slice (some ⟨P,0,none⟩) n cap)) (k:=11) (by kernel_rfl) (by(try dsimp only);go_keep) (fun hHeld=>?_);refine zd 0 18 [] ?_;try simp only [zA]
   refine zd 1 19 [] ?_;try simp only [zA]
   refine zd 2 20 [] ?_;try simp only [zA]
   refine zd 3 21 [] ?_;try simp only [zA]
   refine zd 5 23 [] ?_;try simp only [zA]
   refine zd 6 24 [] ?_;try simp only [zA]
   refine zd 7 25 [] ?_;try simp only [zA]
   refine zd 8 26 [] ?_;try simp only [zA]
   refine ze 4 (by kernel_rfl) rfl (fun K hK=>?_);refine step_append_lies _ rfl _ _ 106 rfl wr.heap.size 40 i0 (.agg #[.int .i64 0,.slice none 0 0]) 2 32 (by kernel_rfl) hi hz0 hz1 hz2 rfl (by decide) (.slice none 0 0) 0 [] rfl (World.ownsRow_nil _ _ _ _) ⟨P,0,none⟩ n cap (rs.flatMap rcells) rfl (by rw [zbw,HRL.out]) (fun j u hu=>(World.cell?_drew _ _).trans (HCE.out j u hu)) (zcM rs) (by omega) (by unfold maxLen;omega) (by omega) (by simp) wr.heap.size (by simp) ?_;intro g cap1 w5 hown5 hgrow5 hat5 hlt5;have HG5:Hid (GrowR w5 wr.heap.size (.slice (some ⟨g,0,none⟩) n cap1) rs a0):=by have:=zcx rfl HRL.out (GrowR.nil wr.drew wr.heap.size a0) (fun p hp=>(HNR.out p hp).below (zB _ _).drew zL) hown5 hgrow5;simp only [List.length_nil,Nat.zero_add,List.nil_append] at this;exact this
   have hb5:Below wr.heap.size wr w5:=(zB _ _).drew.grown hgrow5 (by simp) (fun k hk=>by cases hk);have cu5:=(hb5.cell (p:=⟨mb,k,none⟩) hml).trans cu;have HB5:=hide hb5;clear hown5 hgrow5 hat5 hlt5 hb5;refine hK.out _ _ (fun _=>cu5) ?_;clear hK K;simp only [Act.put,List.setIfInBounds_toArray,List.set_cons_zero,List.set_cons_succ,Nat.zero_add];refine ze 9 (by kernel_rfl) rfl (fun K hK=>?_);refine step_append_lies _ rfl _ _ 106 rfl wr.heap.size 40 i0 (.agg #[.int .i64 0,.slice none 0 0]) 2 32 (by kernel_rfl) hi hz0 hz1 hz2 rfl (by decide) (.slice (some ⟨g,0,none⟩) n cap1) n (rs.flatMap rcells) rfl (owns' HG5.out HRL.out) ⟨P,0,none⟩ n cap (rs.flatMap rcells) rfl (by rw [zbw,HRL.out]) (fun j u hu=>(HB5.out.cell (p:=(⟨P,0,none⟩:Addr).add j) (by rw [show((⟨P,0,none⟩:Addr).add j)=⟨P,j,none⟩ by unfold Addr.add;split <;> simp_all];exact hPl)).trans (HCE.out j u hu)) (zcM rs) (by omega) (by unfold maxLen;omega) (by omega) HB5.out.size w5.heap.size rfl ?_;intro g2 cap2 w6 hown6 hgrow6 hat6 hlt6;have HG6:Hid (GrowR w6 wr.heap.size (.slice (some ⟨g2,0,none⟩) (n+n) cap2) (rs++rs) a0):=zcx HRL.out HRL.out HG5.out (fun p hp=>(HNR.out p hp).below HB5.out zL) hown6 hgrow6;have hb6:Below wr.heap.size wr w6:=HB5.out.grown hgrow6 HB5.out.size (fun k hk=>((HG5.out.1).lt k hk).1);have cu6:=(hb6.cell (p:=⟨mb,k,none⟩) hml).trans cu;have HB6:=hide hb6;clear hown6 hgrow6 hat6 hlt6 hb6 HG5 HB5;refine hK.out _ _ (fun _=>cu6) ?_;clear hK K;try simp only [zA]
   refine ze 10 (by kernel_rfl) rfl (fun K hK=>?_);go_simp;refine hK.out _ _ (fun _=>cu6) ?_;clear hK K;try simp only [zA]
   refine zn (by kernel_rfl) ?_;have HRR:Hid (RowR w6 (.slice (some ⟨g2,0,none⟩) (n+n) cap2) (zs++zs) a0):=by
    have:=HG6.out.row;rw [List.map_append,HRS.out] at this;exact this
   have HG2:=hide (HGM.out.later HB6.out);have HB2:=hide (HBE.out.trans (HB6.out.mono HBE.out.size));have HQ':Hid (∀ r:Value,(qs++[(r,zs++zs)]).map (·.2)=(hs.take (k+1)).map fun r=>r++r):=fun r=>by
    rw [List.map_append,HQ.out,HTT.out];rfl
   have hown:=HG2.out.1;have hbs:=HB2.out.size;clear HG6 HGM HBE HB6 HQ;go_wp2_with (at_builtin;refine wpList_append_lies _ rfl _ _ 43 rfl w.heap.size 106 j0 (.slice none 0 0) 1 24 (by kernel_rfl) hj hy0 hy1 hy2 rfl (by decide) u7 qs.length (qs.map (·.1)) rfl (hown.alloc _) ⟨w6.heap.size,0,none⟩ 1 1 [.slice (some ⟨g2,0,none⟩) (n+n) cap2] rfl rfl (World.news_of_block (heap_alloc_new w6 _)) (fun u hu=>by rw [List.mem_singleton] at hu;subst hu;rfl) (by decide) (by unfold maxLen;have:=HQL.out;omega) (by have:=HQL.out;omega) (by simp;omega) (w6.heap.size+1) (by simp) ?_);intro g3 cap3 w7 hown7 hgrow7 hat7 hlt7;have HN:=hide (zbm HG2.out HRR.out hown7 hgrow7);have HB7:=hide (HB2.out.trans (zP hown HB2.out.size hgrow7));have HQ7:=hide (HQ'.out (.slice (some ⟨g2,0,none⟩) (n+n) cap2));clear hown hown7 hgrow7 hat7 hlt7 HG2 HRR HB2 HQ';go_wp2;go_roundw
   case rel=>exact⟨k+1,_,by omega,by go_num,HN,HQ7,HB7⟩
   case measure=>simp [intOf];omega
  ·obtain rfl:k=hs.length:=by omega
   rw [List.take_length] at HQ;have HQ0:Hid (qs.map (·.2)=(hs.map fun r=>r++r) ++(ks.take 0).map fun r=>r++List.replicate n 0):=by
    show _=_;rw [HQ.out,List.take_zero,List.map_nil,List.append_nil]
   clear HQ HQL;go_wp2;go_loopw [7,10,11] (fun out i sl11 wr=>∃(k:Nat) (qs:List (Value × List Int)),k≤ks.length∧i=.int .i64 k∧Hid (GrowM wr w.heap.size out qs a0)∧Hid (qs.map (·.2)=(hs.map fun r=>r++r) ++(ks.take k).map fun r=>r++List.replicate n 0)∧Hid (Below w.heap.size w wr)) (fun _ i _ _=>ks.length-(intOf i).toNat)
   case atStart=>exact⟨0,qs,Nat.zero_le _,rfl,HGM,HQ0,HBE⟩
   case round=>
    clear HGM HQ0 HBE qs;obtain⟨k,qs,hk,rfl,HGM,HQ,HBE⟩:=hrel;have HQL:Hid (qs.length≤8):=by
     have:=congrArg List.length HQ.out;simp only [List.length_map,List.length_append,List.length_take] at this;show qs.length≤8;omega
    by_cases hkl:k<ks.length
    ·have HTT:=hide (show(ks.take (k+1)).map (fun r=>r++List.replicate n 0)=(ks.take k).map (fun r=>r++List.replicate n 0)++[ks[k]++List.replicate n 0] by rw [List.take_succ_eq_append_getElem hkl,List.map_append];rfl);obtain⟨_,_,e,-,hc⟩:=HB.out;simp only [zV,true_and] at e;obtain⟨rfl,rfl⟩:=e;obtain⟨mb,rfl,hmlt,hc⟩:=hc (by omega);obtain⟨u,cu0,hu⟩:=hc k ks[k] (by simp [hkl]);clear hc;have cu:=(HBE.out.cell (p:=⟨mb,k,none⟩) hmlt).trans cu0;have hml:mb<wr.heap.size:=zT hmlt HBE.out.size;have hul:=HLB.out _ (List.getElem_mem hkl);have hu2:=hu.below HBE.out zL;clear hu cu0;generalize ks[k]=zs at *;obtain⟨P,cap,e,hPl,-⟩:=hu2.at 0 (by omega);subst e;obtain⟨rs,hrs,hce,hnr⟩:=hu2.rows;have HRS:=hide hrs;have HCE:=hide hce;have HNR:=hide hnr;have HRL:Hid (rs.length=n):=by
      have:=congrArg List.length hrs;rw [zM] at this;show rs.length=n;omega
     rw [hul] at cu;clear hu2 hrs hce hnr;go_wp2_with (at_builtin;refine wpList_append_lies _ rfl _ _ 106 rfl wr.heap.size 40 i0 (.agg #[.int .i64 0,.slice none 0 0]) 2 32 (by kernel_rfl) hi hz0 hz1 hz2 rfl (by decide) (.slice none 0 0) 0 [] rfl (World.ownsRow_nil _ _ _ _) ⟨P,0,none⟩ n cap (rs.flatMap rcells) rfl (by rw [zbw,HRL.out]) (fun j u hu=>HCE.out j u hu) (zcM rs) (by omega) (by unfold maxLen;omega) (by omega) zL wr.heap.size rfl ?_);intro g cap1 w5 hown5 hgrow5 hat5 hlt5;have HG5:Hid (GrowR w5 wr.heap.size (.slice (some ⟨g,0,none⟩) n cap1) rs a0):=by
      have:=zcx (g:=g) (cap:=cap1) rfl HRL.out (GrowR.nil wr wr.heap.size a0) HNR.out (by simpa using hown5) hgrow5;simp only [List.length_nil,Nat.zero_add,List.nil_append] at this;exact this
     have HB5:=hide (show Below wr.heap.size wr w5 from(zB _ _).grown hgrow5 zL (fun k hk=>by cases hk));clear hown5 hgrow5 hat5 hlt5;obtain⟨g2,cap2,w6,hr6,hown6,hgrow6⟩:=zj3 (P:=Tryz.prog) w5 wr.heap.size 106 3 40 i0 .i64 .i64 (by kernel_rfl) (by kernel_rfl) hi hz0 hz1 hz2 g cap1 n (rs.flatMap rcells) (owns' HG5.out HRL.out) n (by omega) (by omega) HB5.out.size;have HG6:Hid (GrowR w6 wr.heap.size (.slice (some ⟨g2,0,none⟩) (n+n) cap2) (rs++List.replicate n (⟨0,none,0,0⟩,(0:Int))) a0):=zcx HRL.out (by simp) HG5.out (fun p hp=>by rw [List.eq_of_mem_replicate hp];exact NumR.nought w5 a0) hown6 hgrow6;have HB6:=hide (HB5.out.grown hgrow6 HB5.out.size (fun k hk=>((HG5.out.1).lt k hk).1));have HR6:=hide hr6;clear hown6 hgrow6 hr6 HG5 HB5;have HRR:Hid (RowR w6 (.slice (some ⟨g2,0,none⟩) (n+n) cap2) (zs++List.replicate n (0:Int)) a0):=by
      have:=HG6.out.row;rw [List.map_append,HRS.out,List.map_replicate] at this;exact this
     have HG2:=hide (HGM.out.later HB6.out);have HB2:=hide (HBE.out.trans (HB6.out.mono HBE.out.size));have HQ':Hid (∀ r:Value,(qs++[(r,zs++List.replicate n (0:Int))]).map (·.2)=(hs.map fun r=>r++r) ++(ks.take (k+1)).map fun r=>r++List.replicate n 0):=fun r=>by
      rw [List.map_append,HQ.out,HTT.out,← List.append_assoc];rfl
     have hown:=HG2.out.1;have hbs:=HB2.out.size;clear HG6 HGM HBE HB6 HQ;go_wp2_with (at_builtin;first | refine Lib.wpList_append_run _ rfl _ _ _ _ rfl _ _ rfl rfl _ _ (HR6.out _) ?_ | refine wpList_append_lies _ rfl _ _ 43 rfl w.heap.size 106 j0 (.slice none 0 0) 1 24 (by kernel_rfl) hj hy0 hy1 hy2 rfl (by decide) u7 qs.length (qs.map (·.1)) rfl (hown.alloc _) ⟨w6.heap.size,0,none⟩ 1 1 [.slice (some ⟨g2,0,none⟩) (n+n) cap2] rfl rfl (World.news_of_block (heap_alloc_new w6 _)) (fun u hu=>by rw [List.mem_singleton] at hu;subst hu;rfl) (by decide) (by unfold maxLen;have:=HQL.out;omega) (by have:=HQL.out;omega) (by simp;omega) (w6.heap.size+1) (by simp) ?_);intro g3 cap3 w7 hown7 hgrow7 hat7 hlt7;have HN:=hide (zbm HG2.out HRR.out hown7 hgrow7);have HB7:=hide (HB2.out.trans (zP hown HB2.out.size hgrow7));have HQ7:=hide (HQ'.out (.slice (some ⟨g2,0,none⟩) (n+n) cap2));clear hown hown7 hgrow7 hat7 hlt7 HG2 HRR HB2 HQ';go_wp2;go_roundw
     case rel=>exact⟨k+1,_,by omega,by go_num,HN,HQ7,HB7⟩
     case measure=>simp [intOf];omega
    ·obtain rfl:k=ks.length:=by omega
     have HW:Hid (MatR wr u7 (wideL n hs ks) a0):=by
      have:=HGM.out.mat;rw [HQ.out,List.take_length] at this;exact this
     have HWL:Hid ((wideL n hs ks).length≤8):=by
      show(hs.map _++ks.map _).length≤8;rw [List.length_append,zM,zM];omega
     clear HGM HQ HQL;obtain⟨uo,ul,uc,rfl⟩:∃ uo ul uc,u7=.slice uo ul uc:=by
      obtain⟨so,sc,e,-⟩:=HW.out;exact⟨_,_,_,e⟩
     go_wp2_with fail;rw [show(2 *(n:Int))=((n+n:Nat):Int) by omega];refine(zbR wr _ (wideL n hs ks) (n+n) a0 HW.out (zd6 HLA.out HLB.out) (by omega) (by omega) (by have:=HWL.out;omega) (Nat.le_trans (zt (by have:=HWL.out;omega)) HDB.out)).mono ?_;rintro e w6 ⟨u6,fs,p6,rfl,g1,g2,g3,g4,g5⟩;have HG1:=hide g1;have HF:=hide g3;have HAL:=hide g4;have HB6:=hide (HBE.out.trans (g5.mono HBE.out.size));have hfl:fs.length≤8:=by omega
     clear g1 g2 g3 g4 g5 HW;go_wp2_with fail;refine(zer w6 _ n n _ fs HG1.out HF.out h1 (by omega) (by omega)).mono ?_;rintro e w7 ⟨u7',rfl,k1,k2⟩;have HSM:=zet HF.out HAL.out (zd6 HLA.out HLB.out) (zgv HLA.out HLB.out HBA.out HBB.out) h4;have HM7:Hid (MatQ False w7 u7' (behindL n fs) 150):=k1.fits fun zs hz j hj=>by
      have h:=HSM zs hz j hj;have h2:dp (3 *((n+n)*6+2))≤dp 150:=zaB (by omega);omega
     have HB7:=hide (HB6.out.trans (k2.mono HB6.out.size));have HBL:Hid ((behindL n fs).length≤8):=by
      have:=zcT n fs fs.length;rw [List.take_length] at this;show _≤8;omega
     obtain⟨r,hr⟩:=zbF HF.out;have HFR:=hide hr;clear k1 k2 HB6 HG1 HSM hr;go_wp2_with fail;refine(zin w7 _ (behindL n fs) n 150 HM7.out HFR.out.len h1 (by omega) (by have:=HBL.out;omega) (Nat.le_trans (zt (j:=13) (by have:=HBL.out;omega)) (by decide))).mono ?_;rintro e w8 ⟨u8,ms,p8,rfl,m1,m2,m3,m4,m5⟩;obtain rfl:ms=behindL n fs:=zar m3 HFR.out m4;have HM8:Hid (MatQ False w8 u8 (behindL n fs) 150):=m1.fits fun zs hz j hj=>by
      have h:=zet HF.out HAL.out (zd6 HLA.out HLB.out) (zgv HLA.out HLB.out HBA.out HBB.out) h4 zs hz j hj;have h2:dp (3 *((n+n)*6+2))≤dp 150:=zaB (by omega);omega
     have HP:=hide (show MeetRPost w n hs ks (.returned u8) w8 from⟨_,_,r,rfl,HM8.out,HFR.out,fun v hv=>zfs HLA.out HLB.out HF.out HAL.out hv,HB7.out.trans (m5.mono HB7.out.size)⟩);clear m1 m2 m3 m4 m5 HB7 HM7 HM8 HF HAL HFR;go_wp2;go_ret;exact HP.out
end Go.Proofs.YtdedolkgcdlmeaaGreatDoor
