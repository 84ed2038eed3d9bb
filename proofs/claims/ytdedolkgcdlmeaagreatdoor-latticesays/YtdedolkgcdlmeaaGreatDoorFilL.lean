import Derived.Test.YtdedolkgcdlmeaaGreatDoorJoins
import Derived.Test.YtdedolkgcdlmeaaGreatDoorHermQ
set_option maxRecDepth 100000
set_option maxHeartbeats 3200000
set_option linter.unusedSimpArgs false
namespace Go.Proofs.YtdedolkgcdlmeaaGreatDoor
open Go.RowKit Limbs
variable{n m nv P k cap base:Nat}{w wr W:World}{v:Value}{zs:List Int}{p:Nat→Nat}
theorem Tryz.infoStr:(Tryz.prog.info? 9).map (fun i=>(i.zero,i.size,i.bytes))=some (some (.string ByteArray.empty),1,16):=by kernel_rfl
theorem zkg (m:Nat)(hm:m≤1000)(W:World):(Instr.makeSlice 136 (.int .i64 (m:Int)) (.int .i64 (m:Int))).run Tryz.prog W=.ok (.slice (some ⟨W.heap.size,0,none⟩) m m) (W.alloc (.cells (Lib.cellsOf [] m) 9)):=by
 obtain⟨i0,hi,hz0,hz1,hz2⟩:=info_parts Tryz.infoStr;have h:=run_make (P:=Tryz.prog) W 136 9 i0 (.string ByteArray.empty) (by kernel_rfl) hi hz0 .i64 .i64 m m (by omega) (by omega) (by rw [hz2];omega) (by omega);rw [hz1,Int.toNat_natCast,Nat.mul_one] at h;rw [Lib.cellsOf_nil];exact h
def vtxt (zs:List Int):List UInt8:=40::(Lib.join (zs.map txt) [32]++[41])
def btxt (z:Int):ByteArray:=⟨(txt z).toArray⟩
theorem zeL (zs:List Int):(zs.map btxt).map (·.data.toList)=zs.map txt:=by
 rw [List.map_map];apply List.map_congr_left;intro z _;simp [btxt]
def TxInv (w wr:World)(P:Nat)(zs:List Int)(k:Nat):Prop:=
 wr.heap[P]?=some (.cells (Lib.cellsOf ((zs.take k).map btxt) zs.length) 9)∧Below w.heap.size w wr
theorem TxInv.store(h:TxInv w wr P zs k)(hP:w.heap.size≤P)(hk:k<zs.length):TxInv w (wr.setCell ⟨P,k,none⟩ (.string (btxt (zs.getD k 0)))) P zs (k+1):=by
 obtain⟨h1,h2⟩:=h;have hl:((zs.take k).map btxt).length=k:=by rw [zM,List.length_take];omega
 have hs:=heap_setCell_same wr P k _ _ (.string (btxt (zs.getD k 0))) h1;refine⟨?_,h2.setCell (by exact hP) _⟩;have e:(Lib.cellsOf ((zs.take k).map btxt) zs.length).setIfInBounds k (.string (btxt (zs.getD k 0)))=Lib.cellsOf ((zs.take (k+1)).map btxt) zs.length:=by
  have:=Lib.cellsOf_set (done:=(zs.take k).map btxt) (N:=zs.length) (by omega) (btxt (zs.getD k 0));rw [hl] at this;rw [this,List.take_succ_eq_append_getElem hk,List.map_append];simp [List.getD_eq_getElem?_getD,hk]
 rw [← e];exact hs
theorem TxInv.full(h:TxInv w wr P zs zs.length):∀(j:Nat) x,(zs.map btxt)[j]?=some x→wr.cell? ⟨P,0+j,none⟩=some (.string x):=fun j x hx=>by
 have h1:=h.1;rw [List.take_length] at h1;have:=World.news_of_block h1 j (.string x) (by
  unfold Lib.cellsOf;rw [List.toList_toArray,List.getElem?_append_left (by rw [zM];exact(List.getElem?_eq_some_iff.1 hx).1),List.getElem?_map,hx];rfl)
 have e:(⟨P,0,none⟩:Addr).add j=⟨P,0+j,none⟩:=by unfold Addr.add;split <;> simp_all
 rwa [e] at this
theorem joined (l:List UInt8):(⟨#[40]⟩:ByteArray) ++⟨l.toArray⟩ ++⟨#[41]⟩=⟨(40::(l++[41])).toArray⟩:=by
 apply ByteArray.ext;simp
theorem zlh (w:World)(v:Value)(zs:List Int)(n:Nat)(ht:Tab w)(hv:VecN w v zs n)(hn:n≤900000)(h0:0<zs.length)(h8:zs.length≤8)(hlen:(Lib.join (zs.map txt) [32]).length≤100000):
  Calls Tryz.prog 50 #[v] w fun e w'=>e=.returned (.string ⟨(vtxt zs).toArray⟩)∧Below w.heap.size w w':=by
 have HV:=hide hv;have HT:=hide ht;obtain⟨vb,voff,vcap,rfl⟩:=hv.form h0;clear hv ht;have hmk:=zkg zs.length (by omega);have HI:Hid (TxInv w (w.alloc (.cells (Lib.cellsOf [] zs.length) 9)) w.heap.size zs 0):=⟨heap_alloc_new w _,(zB _ _).alloc zL _⟩;go_enter Tryz.func50,Tryz.ntmps50;go_wp2;clear hmk;go_loopw [10] (fun i wr=>∃ k:Nat,k≤zs.length∧i=.int .i64 k∧TxInv w wr w.heap.size zs k) (fun i _=>zs.length-(intOf i).toNat)
 case atStart=>exact⟨0,Nat.zero_le _,rfl,HI.out⟩
 case round=>
  clear HI;obtain⟨k,hk,rfl,hinv⟩:=hrel;have HI:=hide hinv;clear hinv;by_cases hkl:k<zs.length
  ·obtain⟨la,an,ao,al,ac,a0,a1,na⟩:=(HV.out.below HI.out.2 zL).at k hkl;have NA:=hide na;have HST:=hide (fun(W:World) (h:TxInv w W w.heap.size zs k)=>h.store zL hkl);clear na;have HBT:=hide (show btxt (zs.getD k 0)=⟨(txt (zs.getD k 0)).toArray⟩ from rfl);generalize zs.getD k 0=z at *;go_wp2_with fail;refine(zkP wr _ z n (HT.out.below HI.out.2) NA.out hn).mono ?_;rintro e w1 ⟨rfl,hb⟩;have HI1:=hide (show TxInv w w1 w.heap.size zs k from⟨(hb.block _ (zj HI.out.1)).trans HI.out.1,HI.out.2.trans (hb.mono HI.out.2.size)⟩);have hll:((zs.take k).map btxt).length=k:=by rw [zM,List.length_take];omega
   have hcell:w1.cell? ⟨w.heap.size,k,none⟩=some (.string ByteArray.empty):=by
    have h:=Lib.cellsOf_next (done:=(zs.take k).map btxt) (N:=zs.length) (by omega);rw [hll] at h;have:=World.news_of_block HI1.out.1 k (.string ByteArray.empty) (by rw [← h];simp);have e:(⟨w.heap.size,0,none⟩:Addr).add k=⟨w.heap.size,k,none⟩:=by unfold Addr.add;split <;> simp_all
    rwa [e] at this
   have hfr:w1.frozen? ⟨w.heap.size,k,none⟩=false:=by
    have h:=HI1.out.1;simp [World.frozen?,h]
   have HN:=hide (HST.out w1 HI1.out);rw [HBT.out] at HN;clear hb HST HI HI1 HBT hll a0 a1;go_wp2;go_roundw
   case rel=>exact⟨k+1,by omega,by go_num,HN.out⟩
   case measure=>simp [intOf];omega
  ·obtain rfl:k=zs.length:=by omega
   have HJ:=hide (Go.Proofs.Tryz.strings_Join w.heap.size 0 zs.length (zs.map btxt) ⟨#[32]⟩ wr HI.out.full (zj HI.out.1) (by rw [zM];omega) (by rw [zM];exact Nat.le_refl _) (by rw [zeL];show(Lib.join _ [32]).length≤_;omega));rw [zM,zeL] at HJ;have HBE:=hide HI.out.2;clear HI;go_wp2_with fail;refine HJ.out.mono ?_;rintro e w1 ⟨rfl,hb⟩;have HF:=hide (show Below w.heap.size w w1 from HBE.out.trans (hb.mono HBE.out.size));have e1:(Lib.join (zs.map txt) (⟨#[32]⟩:ByteArray).data.toList)=Lib.join (zs.map txt) [32]:=rfl;rw [e1];have HVT:=hide (show vtxt zs=40::(Lib.join (zs.map txt) [32]++[41]) from rfl);have hsz:(⟨(Lib.join (zs.map txt) [32]).toArray⟩:ByteArray).size≤100000:=by show(Lib.join (zs.map txt) [32]).toArray.size≤_;simpa using hlen
   clear hb HJ HBE e1;generalize Lib.join (zs.map txt) [32]=l at *;have hsz2:((⟨#[40]⟩:ByteArray) ++⟨l.toArray⟩).size≤100001:=by rw [ByteArray.size_append];show 1+_≤_;omega
   go_wp2;go_ret;rw [joined,← HVT.out];exact⟨rfl,HF.out⟩
open Digs
theorem zdo (k:Nat):bp k≤dp (3*k):=by
 induction k with
 | zero=>exact(by decide:(1:Int)≤1)
 | succ k ih=>
  have e:3 *(k+1)=3*k+3:=by omega
  rw [e];show 4294967296*bp k≤dp (3*k+3);have e2:dp (3*k+3)=10000 *(10000 *(10000*dp (3*k))):=rfl;rw [e2];have:=zK k;omega
theorem RowR.fits(h:RowR w v zs n)(hz:∀ j,j<zs.length→-dp m<zs.getD j 0∧zs.getD j 0<dp m):RowR w v zs m:=by
 obtain⟨ao,cap,hv,h3,h4⟩:=h;refine⟨ao,cap,hv,h3,fun h0=>?_⟩;obtain⟨b,cur,fz',e,hh,hc⟩:=h4 h0;refine⟨b,cur,fz',e,hh,fun i hi=>?_⟩;obtain⟨s,o,l,c',h5,h6,h7⟩:=hc i hi;exact⟨s,o,l,c',h5,h6,h7.fits (hz i hi).1 (hz i hi).2⟩
theorem MatR.fits{zss:List (List Int)}(h:MatR w v zss n)(hz:∀ zs∈zss,∀ j,j<zs.length→-dp m<zs.getD j 0∧zs.getD j 0<dp m):MatR w v zss m:=by
 obtain⟨ao,cap,hv,h3,h4⟩:=h;refine⟨ao,cap,hv,h3,fun h0=>?_⟩;obtain⟨b,e,hlt,hc⟩:=h4 h0;refine⟨b,e,hlt,fun i zs hi=>?_⟩;obtain⟨u,h5,h6⟩:=hc i zs hi;exact⟨u,h5,h6.fits (hz zs (List.mem_of_getElem? hi))⟩
theorem MatN.small{zss:List (List Int)}(h:MatN w v zss n):∀ zs∈zss,∀ j,j<zs.length→-dp (3*n)<zs.getD j 0∧zs.getD j 0<dp (3*n):=fun zs hzs j hj=>by
 obtain⟨i,hi,e⟩:=List.getElem_of_mem hzs;obtain⟨b,off,cap',e1,hlt,u,hc,hu⟩:=h.at i hi;rw [e] at hu;obtain⟨b',off',cap2,e2⟩:=hu.form (by omega);subst e2;obtain⟨-,neg,o,l,c,-,-,hz⟩:=hu.at j hj;have h1:=hz.ab_lt;have h2:=zdo n;unfold ab at h1;split at h1 <;> omega
theorem VecN.drop{b off:Nat}{us:List Int}(h:VecN W (.slice (some ⟨b,off,none⟩) us.length cap) us nv)(hn:n+m=us.length)(hm:0<m):VecN W (.slice (some ⟨b,off+n*2,none⟩) m (cap-n)) (us.drop n) nv:=by
 have hc:us.length≤cap:=by
  obtain⟨_,_,e,h1,-⟩:=h;simp only [zV,true_and] at e;rw [e.2];exact h1
 have hl:(us.drop n).length=m:=by rw [List.length_drop];omega
 refine⟨_,_,by rw [hl],by rw [hl];omega,fun _=>⟨b,off+n*2,rfl,(h.at 0 (by omega)).1,fun i hi=>?_⟩⟩;rw [hl] at hi;obtain⟨-,neg,o,l,c,h1,h2,h3⟩:=h.at (n+i) (by omega);refine⟨neg,o,l,c,?_,?_,?_⟩
 ·rw [show off+n*2+i*2=off+(n+i)*2 by omega];exact h1
 ·rw [show off+n*2+i*2+1=off+(n+i)*2+1 by omega];exact h2
 ·rw [zbs];exact h3
theorem zeD (n:Nat)(ts:List (List Int))(k:Nat)(hk:k<ts.length):behindL n (ts.take (k+1))=behindL n (ts.take k) ++(if (n:Int)≤first ts[k] then [ts[k].drop n] else []):=by
 unfold behindL;rw [List.take_succ_eq_append_getElem hk,List.filter_append,List.map_append];by_cases h:(n:Int)≤first ts[k]
 ·rw [if_pos h,List.filter_cons_of_pos (by simpa using h)];rfl
 ·rw [if_neg h,List.filter_cons_of_neg (by simpa using h)];rfl
theorem zdl (n:Nat)(ts:List (List Int))(k:Nat):(behindL n (ts.take k)).length≤k:=by
 unfold behindL;rw [zM];exact Nat.le_trans (List.length_filter_le _ _) (by rw [List.length_take];omega)
theorem zcF{w3:World}{ps qs:List (Rn × Int)}{g:Nat}(e1:ps.length=m)(e2:qs.length=k)(h:GrowR wr base v ps n)(hz:∀ p∈qs,NumR wr p.1.val p.2 n)
  (hown:w3.ownsRow base 40 2 (.slice (some ⟨g,0,none⟩) (m+k) cap) (m+k) (ps.flatMap rcells++qs.flatMap rcells))
  (hg:wr.grownBy w3 v.ownBlock):GrowR w3 base (.slice (some ⟨g,0,none⟩) (m+k) cap) (ps++qs) n:=by
 subst e1 e2;exact zik h hz hown hg
theorem owns'{ps:List (Rn × Int)}(h:GrowR W base v ps n)(e:ps.length=m):W.ownsRow base 40 2 v m (ps.flatMap rcells):=by
 subst e;exact h.1
def MeetRPost (w:World)(n:Nat)(hs ks:List (List Int))(e:Ending)(w':World):Prop:=
 ∃ u ms p,e=.returned u∧MatQ w' u ms 150∧FormL n ms p∧Both n ms hs ks∧Below w.heap.size w w'
theorem zeo{hs ks:List (List Int)}(h1:∀ r∈hs,r.length=n)(h2:∀ r∈ks,r.length=n):∀ r∈wideL n hs ks,r.length=n+n:=fun r hr=>by
 rcases List.mem_append.1 hr with h | h
 ·obtain⟨r',h',rfl⟩:=List.mem_map.1 h;rw [List.length_append,h1 r' h']
 ·obtain⟨r',h',rfl⟩:=List.mem_map.1 h;rw [List.length_append,h2 r' h',List.length_replicate]
theorem zgG{hs ks:List (List Int)}(l1:∀ r∈hs,r.length=n)(l2:∀ r∈ks,r.length=n)(h1:∀ r∈hs,∀ j,j<n→ab (r.getD j 0)<bp nv)(h2:∀ r∈ks,∀ j,j<n→ab (r.getD j 0)<bp nv):∀ r∈wideL n hs ks,∀ j,j<n+n→ab (r.getD j 0)<bp nv:=fun r hr j hj=>by
 rcases List.mem_append.1 hr with h | h
 ·obtain⟨r',h',rfl⟩:=List.mem_map.1 h;by_cases hjn:j<n
  ·rw [zaW _ _ _ (by rw [l1 r' h'];exact hjn)];exact h1 r' h' j hjn
  ·obtain⟨i,rfl⟩:∃ i,j=r'.length+i:=⟨j-n,by rw [l1 r' h'];omega⟩;rw [zaX];exact h1 r' h' i (by have:=l1 r' h';omega)
 ·obtain⟨r',h',rfl⟩:=List.mem_map.1 h;by_cases hjn:j<n
  ·rw [zaW _ _ _ (by rw [l2 r' h'];exact hjn)];exact h2 r' h' j hjn
  ·obtain⟨i,rfl⟩:∃ i,j=r'.length+i:=⟨j-n,by rw [l2 r' h'];omega⟩;rw [zaX,zan];exact zK nv
theorem zeF{ts l:List (List Int)}(F:FormL (n+n) ts p)(ha:Alikes (n+n) (InL ts) (InL l))(hl:∀ r∈l,r.length=n+n)(hb:∀ r∈l,∀ j,j<n+n→ab (r.getD j 0)<bp nv)(hn:n≤4):∀ zs∈behindL n ts,∀ j,j<zs.length→-dp (3 *((n+n)*nv+2))<zs.getD j 0∧zs.getD j 0<dp (3 *((n+n)*nv+2)):=fun zs hz j hj=>by
 have hB:=zdC F ha hl hb (by omega);unfold behindL at hz;obtain⟨t,ht,rfl⟩:=List.mem_map.1 hz;have hm:=(List.mem_filter.1 ht).1;rw [List.length_drop] at hj;have h1:=hB t hm (n+j) (by omega);rw [zbs];have h2:=zdo ((n+n)*nv+2);unfold ab at h1;omega
theorem zjl (w:World)(va vb:Value)(hs ks:List (List Int))(n a0:Nat)(p q:Nat→Nat)(ha:MatR w va hs a0)(hb:MatR w vb ks a0)(F:FormL n hs p)(G:FormL n ks q)(h1:1≤n)(h4:n≤4)(hd:dT a0 17≤1000000000)
  (ba:∀ r∈hs,∀ j,j<n→ab (r.getD j 0)<bp 6) (bb:∀ r∈ks,∀ j,j<n→ab (r.getD j 0)<bp 6):
  Calls Tryz.prog 34 #[va,vb,.int .i64 (n:Int)] w fun e w'=>MeetRPost w n hs ks e w':=by
 obtain⟨i0,hi,hz0,hz1,hz2⟩:=info_parts Tryz.infoRNum;obtain⟨j0,hj,hy0,hy1,hy2⟩:=info_parts Tryz.infoRRow;have HA:=hide ha;have HB:=hide hb;have HLA:=hide F.len;have HLB:=hide G.len;have hsl:=F.short;have ksl:=G.short;obtain⟨ao,acap,rfl,-,-⟩:=ha;obtain⟨bo,bcap,rfl,-,-⟩:=hb;have HBA:=hide ba;have HBB:=hide bb;have HDB:=hide hd;clear ba bb hd F G;go_enter Tryz.func34,Tryz.ntmps34;go_wp2;go_loopw [7,8,9] (fun out i sl9 wr=>∃(k:Nat) (qs:List (Value × List Int)),k≤hs.length∧i=.int .i64 k∧Hid (GrowM wr w.heap.size out qs a0)∧Hid (qs.map (·.2)=(hs.take k).map fun r=>r++r)∧Hid (Below w.heap.size w wr)) (fun _ i _ _=>hs.length-(intOf i).toNat)
 case atStart=>exact⟨0,[],Nat.zero_le _,rfl,hide ⟨World.ownsRow_nil _ _ _ _,fun _ h=>by cases h⟩,hide (by simp),hide (zB _ _)⟩
 case round=>
  obtain⟨k,qs,hk,rfl,HGM,HQ,HBE⟩:=hrel;have HQL:Hid (qs.length≤4):=by
   have:=congrArg List.length HQ.out;simp only [List.length_map,List.length_append,List.length_take] at this;show qs.length≤4;omega
  by_cases hkl:k<hs.length
  ·have HTT:=hide (show(hs.take (k+1)).map (fun r=>r++r)=(hs.take k).map (fun r=>r++r)++[hs[k]++hs[k]] by rw [List.take_succ_eq_append_getElem hkl,List.map_append];rfl);obtain⟨_,_,e,-,hc⟩:=HA.out;simp only [zV,true_and] at e;obtain⟨rfl,rfl⟩:=e;obtain⟨mb,rfl,hmlt,hc⟩:=hc (by omega);obtain⟨u,cu0,hu⟩:=hc k hs[k] (by simp [hkl]);clear hc;have cu:=(HBE.out.cell (p:=⟨mb,k,none⟩) hmlt).trans cu0;have hml:mb<wr.heap.size:=zT hmlt HBE.out.size;have hul:=HLA.out _ (List.getElem_mem hkl);have hu2:=hu.below HBE.out zL;clear hu cu0;generalize hs[k]=zs at *;obtain⟨P,cap,e,hPl,-⟩:=hu2.at 0 (by omega);subst e;obtain⟨rs,hrs,hce,hnr⟩:=hu2.rows;have HRS:=hide hrs;have HCE:=hide hce;have HNR:=hide hnr;have HRL:Hid (rs.length=n):=by
    have:=congrArg List.length hrs;rw [zM] at this;show rs.length=n;omega
   rw [hul] at cu;clear hu2 hrs hce hnr;go_wp2_with fail;refine zq (S:=fun w'=>w'.cell? ⟨mb,k,none⟩=some (.slice (some ⟨P,0,none⟩) n cap)) (k:=11) (by kernel_rfl) (by(try dsimp only);go_keep) (fun hHeld=>?_);refine zd 0 18 [] ?_;try simp only [zA]
   refine zd 1 19 [] ?_;try simp only [zA]
   refine zd 2 20 [] ?_;try simp only [zA]
   refine zd 3 21 [] ?_;try simp only [zA]
   refine zd 5 23 [] ?_;try simp only [zA]
   refine zd 6 24 [] ?_;try simp only [zA]
   refine zd 7 25 [] ?_;try simp only [zA]
   refine zd 8 26 [] ?_;try simp only [zA]
   refine ze 4 (by kernel_rfl) rfl (fun K hK=>?_);refine step_append_lies _ rfl _ _ 106 rfl wr.heap.size 40 i0 (.agg #[.int .i64 0,.slice none 0 0]) 2 32 (by kernel_rfl) hi hz0 hz1 hz2 rfl (by decide) (.slice none 0 0) 0 [] rfl (World.ownsRow_nil _ _ _ _) ⟨P,0,none⟩ n cap (rs.flatMap rcells) rfl (by rw [zbC,HRL.out]) (fun j u hu=>(World.cell?_drew _ _).trans (HCE.out j u hu)) (zcZ rs) (by omega) (by unfold maxLen;omega) (by omega) (by simp) wr.heap.size (by simp) ?_;intro g cap1 w5 hown5 hgrow5 hat5 hlt5;have HG5:Hid (GrowR w5 wr.heap.size (.slice (some ⟨g,0,none⟩) n cap1) rs a0):=by have:=zcF rfl HRL.out (GrowR.nil wr.drew wr.heap.size a0) (fun p hp=>(HNR.out p hp).below (zB _ _).drew zL) hown5 hgrow5;simp only [List.length_nil,Nat.zero_add,List.nil_append] at this;exact this
   have hb5:Below wr.heap.size wr w5:=(zB _ _).drew.grown hgrow5 (by simp) (fun k hk=>by cases hk);have cu5:=(hb5.cell (p:=⟨mb,k,none⟩) hml).trans cu;have HB5:=hide hb5;clear hown5 hgrow5 hat5 hlt5 hb5;refine hK.out _ _ (fun _=>cu5) ?_;clear hK K;simp only [Act.put,List.setIfInBounds_toArray,List.set_cons_zero,List.set_cons_succ,Nat.zero_add];refine ze 9 (by kernel_rfl) rfl (fun K hK=>?_);refine step_append_lies _ rfl _ _ 106 rfl wr.heap.size 40 i0 (.agg #[.int .i64 0,.slice none 0 0]) 2 32 (by kernel_rfl) hi hz0 hz1 hz2 rfl (by decide) (.slice (some ⟨g,0,none⟩) n cap1) n (rs.flatMap rcells) rfl (owns' HG5.out HRL.out) ⟨P,0,none⟩ n cap (rs.flatMap rcells) rfl (by rw [zbC,HRL.out]) (fun j u hu=>(HB5.out.cell (p:=(⟨P,0,none⟩:Addr).add j) (by rw [show((⟨P,0,none⟩:Addr).add j)=⟨P,j,none⟩ by unfold Addr.add;split <;> simp_all];exact hPl)).trans (HCE.out j u hu)) (zcZ rs) (by omega) (by unfold maxLen;omega) (by omega) HB5.out.size w5.heap.size rfl ?_;intro g2 cap2 w6 hown6 hgrow6 hat6 hlt6;have HG6:Hid (GrowR w6 wr.heap.size (.slice (some ⟨g2,0,none⟩) (n+n) cap2) (rs++rs) a0):=zcF HRL.out HRL.out HG5.out (fun p hp=>(HNR.out p hp).below HB5.out zL) hown6 hgrow6;have hb6:Below wr.heap.size wr w6:=HB5.out.grown hgrow6 HB5.out.size (fun k hk=>((HG5.out.1).lt k hk).1);have cu6:=(hb6.cell (p:=⟨mb,k,none⟩) hml).trans cu;have HB6:=hide hb6;clear hown6 hgrow6 hat6 hlt6 hb6 HG5 HB5;refine hK.out _ _ (fun _=>cu6) ?_;clear hK K;try simp only [zA]
   refine ze 10 (by kernel_rfl) rfl (fun K hK=>?_);go_simp;refine hK.out _ _ (fun _=>cu6) ?_;clear hK K;try simp only [zA]
   refine zk (by kernel_rfl) ?_;have HRR:Hid (RowR w6 (.slice (some ⟨g2,0,none⟩) (n+n) cap2) (zs++zs) a0):=by
    have:=HG6.out.row;rw [List.map_append,HRS.out] at this;exact this
   have HG2:=hide (HGM.out.later HB6.out);have HB2:=hide (HBE.out.trans (HB6.out.mono HBE.out.size));have HQ':Hid (∀ r:Value,(qs++[(r,zs++zs)]).map (·.2)=(hs.take (k+1)).map fun r=>r++r):=fun r=>by
    rw [List.map_append,HQ.out,HTT.out];rfl
   have hown:=HG2.out.1;have hbs:=HB2.out.size;clear HG6 HGM HBE HB6 HQ;go_wp2_with (at_builtin;refine wpList_append_lies _ rfl _ _ 43 rfl w.heap.size 106 j0 (.slice none 0 0) 1 24 (by kernel_rfl) hj hy0 hy1 hy2 rfl (by decide) u7 qs.length (qs.map (·.1)) rfl (hown.alloc _) ⟨w6.heap.size,0,none⟩ 1 1 [.slice (some ⟨g2,0,none⟩) (n+n) cap2] rfl rfl (World.news_of_block (heap_alloc_new w6 _)) (fun u hu=>by rw [List.mem_singleton] at hu;subst hu;rfl) (by decide) (by unfold maxLen;have:=HQL.out;omega) (by have:=HQL.out;omega) (by simp;omega) (w6.heap.size+1) (by simp) ?_);intro g3 cap3 w7 hown7 hgrow7 hat7 hlt7;have HN:=hide (zaY HG2.out HRR.out hown7 hgrow7);have HB7:=hide (HB2.out.trans (zw hown HB2.out.size hgrow7));have HQ7:=hide (HQ'.out (.slice (some ⟨g2,0,none⟩) (n+n) cap2));clear hown hown7 hgrow7 hat7 hlt7 HG2 HRR HB2 HQ';go_wp2;go_roundw
   case rel=>exact⟨k+1,_,by omega,by go_num,HN,HQ7,HB7⟩
   case measure=>simp [intOf];omega
  ·obtain rfl:k=hs.length:=by omega
   rw [List.take_length] at HQ;have HQ0:Hid (qs.map (·.2)=(hs.map fun r=>r++r) ++(ks.take 0).map fun r=>r++List.replicate n 0):=by
    show _=_;rw [HQ.out,List.take_zero,List.map_nil,List.append_nil]
   clear HQ HQL;go_wp2;go_loopw [7,10,11] (fun out i sl11 wr=>∃(k:Nat) (qs:List (Value × List Int)),k≤ks.length∧i=.int .i64 k∧Hid (GrowM wr w.heap.size out qs a0)∧Hid (qs.map (·.2)=(hs.map fun r=>r++r) ++(ks.take k).map fun r=>r++List.replicate n 0)∧Hid (Below w.heap.size w wr)) (fun _ i _ _=>ks.length-(intOf i).toNat)
   case atStart=>exact⟨0,qs,Nat.zero_le _,rfl,HGM,HQ0,HBE⟩
   case round=>
    clear HGM HQ0 HBE qs;obtain⟨k,qs,hk,rfl,HGM,HQ,HBE⟩:=hrel;have HQL:Hid (qs.length≤8):=by
     have:=congrArg List.length HQ.out;simp only [List.length_map,List.length_append,List.length_take] at this;show qs.length≤8;omega
    by_cases hkl:k<ks.length
    ·have HTT:=hide (show(ks.take (k+1)).map (fun r=>r++List.replicate n 0)=(ks.take k).map (fun r=>r++List.replicate n 0)++[ks[k]++List.replicate n 0] by rw [List.take_succ_eq_append_getElem hkl,List.map_append];rfl);obtain⟨_,_,e,-,hc⟩:=HB.out;simp only [zV,true_and] at e;obtain⟨rfl,rfl⟩:=e;obtain⟨mb,rfl,hmlt,hc⟩:=hc (by omega);obtain⟨u,cu0,hu⟩:=hc k ks[k] (by simp [hkl]);clear hc;have cu:=(HBE.out.cell (p:=⟨mb,k,none⟩) hmlt).trans cu0;have hml:mb<wr.heap.size:=zT hmlt HBE.out.size;have hul:=HLB.out _ (List.getElem_mem hkl);have hu2:=hu.below HBE.out zL;clear hu cu0;generalize ks[k]=zs at *;obtain⟨P,cap,e,hPl,-⟩:=hu2.at 0 (by omega);subst e;obtain⟨rs,hrs,hce,hnr⟩:=hu2.rows;have HRS:=hide hrs;have HCE:=hide hce;have HNR:=hide hnr;have HRL:Hid (rs.length=n):=by
      have:=congrArg List.length hrs;rw [zM] at this;show rs.length=n;omega
     rw [hul] at cu;clear hu2 hrs hce hnr;go_wp2_with (at_builtin;refine wpList_append_lies _ rfl _ _ 106 rfl wr.heap.size 40 i0 (.agg #[.int .i64 0,.slice none 0 0]) 2 32 (by kernel_rfl) hi hz0 hz1 hz2 rfl (by decide) (.slice none 0 0) 0 [] rfl (World.ownsRow_nil _ _ _ _) ⟨P,0,none⟩ n cap (rs.flatMap rcells) rfl (by rw [zbC,HRL.out]) (fun j u hu=>HCE.out j u hu) (zcZ rs) (by omega) (by unfold maxLen;omega) (by omega) zL wr.heap.size rfl ?_);intro g cap1 w5 hown5 hgrow5 hat5 hlt5;have HG5:Hid (GrowR w5 wr.heap.size (.slice (some ⟨g,0,none⟩) n cap1) rs a0):=by
      have:=zcF (g:=g) (cap:=cap1) rfl HRL.out (GrowR.nil wr wr.heap.size a0) HNR.out (by simpa using hown5) hgrow5;simp only [List.length_nil,Nat.zero_add,List.nil_append] at this;exact this
     have HB5:=hide (show Below wr.heap.size wr w5 from(zB _ _).grown hgrow5 zL (fun k hk=>by cases hk));clear hown5 hgrow5 hat5 hlt5;obtain⟨g2,cap2,w6,hr6,hown6,hgrow6⟩:=zj9 (P:=Tryz.prog) w5 wr.heap.size 106 3 40 i0 .i64 .i64 (by kernel_rfl) (by kernel_rfl) hi hz0 hz1 hz2 g cap1 n (rs.flatMap rcells) (owns' HG5.out HRL.out) n (by omega) (by omega) HB5.out.size;have HG6:Hid (GrowR w6 wr.heap.size (.slice (some ⟨g2,0,none⟩) (n+n) cap2) (rs++List.replicate n (⟨0,none,0,0⟩,(0:Int))) a0):=zcF HRL.out (by simp) HG5.out (fun p hp=>by rw [List.eq_of_mem_replicate hp];exact NumR.nought w5 a0) hown6 hgrow6;have HB6:=hide (HB5.out.grown hgrow6 HB5.out.size (fun k hk=>((HG5.out.1).lt k hk).1));have HR6:=hide hr6;clear hown6 hgrow6 hr6 HG5 HB5;have HRR:Hid (RowR w6 (.slice (some ⟨g2,0,none⟩) (n+n) cap2) (zs++List.replicate n (0:Int)) a0):=by
      have:=HG6.out.row;rw [List.map_append,HRS.out,List.map_replicate] at this;exact this
     have HG2:=hide (HGM.out.later HB6.out);have HB2:=hide (HBE.out.trans (HB6.out.mono HBE.out.size));have HQ':Hid (∀ r:Value,(qs++[(r,zs++List.replicate n (0:Int))]).map (·.2)=(hs.map fun r=>r++r) ++(ks.take (k+1)).map fun r=>r++List.replicate n 0):=fun r=>by
      rw [List.map_append,HQ.out,HTT.out,← List.append_assoc];rfl
     have hown:=HG2.out.1;have hbs:=HB2.out.size;clear HG6 HGM HBE HB6 HQ;go_wp2_with (at_builtin;first | refine Lib.wpList_append_run _ rfl _ _ _ _ rfl _ _ rfl rfl _ _ (HR6.out _) ?_ | refine wpList_append_lies _ rfl _ _ 43 rfl w.heap.size 106 j0 (.slice none 0 0) 1 24 (by kernel_rfl) hj hy0 hy1 hy2 rfl (by decide) u7 qs.length (qs.map (·.1)) rfl (hown.alloc _) ⟨w6.heap.size,0,none⟩ 1 1 [.slice (some ⟨g2,0,none⟩) (n+n) cap2] rfl rfl (World.news_of_block (heap_alloc_new w6 _)) (fun u hu=>by rw [List.mem_singleton] at hu;subst hu;rfl) (by decide) (by unfold maxLen;have:=HQL.out;omega) (by have:=HQL.out;omega) (by simp;omega) (w6.heap.size+1) (by simp) ?_);intro g3 cap3 w7 hown7 hgrow7 hat7 hlt7;have HN:=hide (zaY HG2.out HRR.out hown7 hgrow7);have HB7:=hide (HB2.out.trans (zw hown HB2.out.size hgrow7));have HQ7:=hide (HQ'.out (.slice (some ⟨g2,0,none⟩) (n+n) cap2));clear hown hown7 hgrow7 hat7 hlt7 HG2 HRR HB2 HQ';go_wp2;go_roundw
     case rel=>exact⟨k+1,_,by omega,by go_num,HN,HQ7,HB7⟩
     case measure=>simp [intOf];omega
    ·obtain rfl:k=ks.length:=by omega
     have HW:Hid (MatR wr u7 (wideL n hs ks) a0):=by
      have:=HGM.out.mat;rw [HQ.out,List.take_length] at this;exact this
     have HWL:Hid ((wideL n hs ks).length≤8):=by
      show(hs.map _++ks.map _).length≤8;rw [List.length_append,zM,zM];omega
     clear HGM HQ HQL;obtain⟨uo,ul,uc,rfl⟩:∃ uo ul uc,u7=.slice uo ul uc:=by
      obtain⟨so,sc,e,-⟩:=HW.out;exact⟨_,_,_,e⟩
     go_wp2_with fail;rw [show(2 *(n:Int))=((n+n:Nat):Int) by omega];refine(zbY wr _ (wideL n hs ks) (n+n) a0 HW.out (zeo HLA.out HLB.out) (by omega) (by omega) (by have:=HWL.out;omega) (Nat.le_trans (zm (by have:=HWL.out;omega)) HDB.out)).mono ?_;rintro e w6 ⟨u6,fs,p6,rfl,g1,g2,g3,g4,g5⟩;have HG1:=hide g1;have HF:=hide g3;have HAL:=hide g4;have HB6:=hide (HBE.out.trans (g5.mono HBE.out.size));have hfl:fs.length≤8:=by omega
     clear g1 g2 g3 g4 g5 HW;go_wp2_with fail;refine(zdm w6 _ n n _ fs HG1.out HF.out h1 (by omega) (by omega)).mono ?_;rintro e w7 ⟨u7',rfl,k1,k2⟩;have HSM:=zeF HF.out HAL.out (zeo HLA.out HLB.out) (zgG HLA.out HLB.out HBA.out HBB.out) h4;have HM7:Hid (MatQ w7 u7' (behindL n fs) 150):=k1.fits fun zs hz j hj=>by
      have h:=HSM zs hz j hj;have h2:dp (3 *((n+n)*6+2))≤dp 150:=zaF (by omega);omega
     have HB7:=hide (HB6.out.trans (k2.mono HB6.out.size));have HBL:Hid ((behindL n fs).length≤8):=by
      have:=zdl n fs fs.length;rw [List.take_length] at this;show _≤8;omega
     obtain⟨r,hr⟩:=zbL HF.out;have HFR:=hide hr;clear k1 k2 HB6 HG1 HSM hr;go_wp2_with fail;refine(zis w7 _ (behindL n fs) n 150 HM7.out HFR.out.len h1 (by omega) (by have:=HBL.out;omega) (Nat.le_trans (zm (j:=13) (by have:=HBL.out;omega)) (by decide))).mono ?_;rintro e w8 ⟨u8,ms,p8,rfl,m1,m2,m3,m4,m5⟩;obtain rfl:ms=behindL n fs:=zau m3 HFR.out m4;have HM8:Hid (MatQ w8 u8 (behindL n fs) 150):=m1.fits fun zs hz j hj=>by
      have h:=zeF HF.out HAL.out (zeo HLA.out HLB.out) (zgG HLA.out HLB.out HBA.out HBB.out) h4 zs hz j hj;have h2:dp (3 *((n+n)*6+2))≤dp 150:=zaF (by omega);omega
     have HP:=hide (show MeetRPost w n hs ks (.returned u8) w8 from⟨_,_,r,rfl,HM8.out,HFR.out,fun v hv=>zfG HLA.out HLB.out HF.out HAL.out hv,HB7.out.trans (m5.mono HB7.out.size)⟩);clear m1 m2 m3 m4 m5 HB7 HM7 HM8 HF HAL HFR;go_wp2;go_ret;exact HP.out
def ent (ts:List (List Int))(k b:Nat):Int:=(ts.getD k []).getD b 0
theorem zkF (c m:Nat)(f:Nat→Int)(h:∀ k,c≤k→k<c+m→f k=0):sumN (c+m) f=sumN c f:=by
 induction m with
 | zero=>rfl
 | succ m ih=>
  have e:sumN (c+(m+1)) f=sumN (c+m) f+f (c+m):=rfl;rw [e,ih fun k h1 h2=>h k h1 (by omega),h (c+m) (by omega) (by omega),Int.add_zero]
theorem zia{hs ks:List (List Int)}(F:FormL n hs p)(a:Alikes n (InL hs) (InL ks)):hs.length≤ks.length:=by
 obtain⟨C,hC⟩:=zbb (r:=hs.length) (n:=n) (mm:=ks.length) (H:=ent hs) (M:=ent ks) fun k hk=>by
  have hm:hs[k]∈hs:=List.getElem_mem hk;have g:=zav ((a hs[k]).1 (.base hm (F.len _ hm)));have e:ent hs k=fun b=>hs[k].getD b 0:=by funext b;unfold ent;rw [zn hk]
  rw [e];exact g
 exact zcY hs.length ks.length n (ent hs) (ent ks) C p F.form.lt (fun i k hi hki=>F.form.zero i (p k) hi (F.form.inc k i hki hi)) (fun i hi=>F.form.pos i hi) hC
section
variable {hs ts:List (List Int)}{n:Nat}{ph p:Nat→Nat}
theorem zgA (hs:List (List Int))(n j:Nat)(hj:j<n):Gens (hs.length+n) (InL (tracedL hs n)) ((tracedL hs n).getD j []):=
 .base (zP (by rw [zJ];exact hj)) (zbH hs n _ (zP (by rw [zJ];exact hj)))
theorem zk4 (hs:List (List Int))(n j b:Nat)(hj:j<n)(hb:b<hs.length):ent (tracedL hs n) j b=ent hs b j:=by
 unfold ent;rw [zcj hs n j hj,zaW _ _ _ (by rw [zM];exact hb),zby _ _ _ hb]
theorem zgB (hs:List (List Int))(n j b:Nat)(hj:j<n)(hb:b<n):ent (tracedL hs n) j (hs.length+b)=if b=j then 1 else 0:=by
 unfold ent;have g:=zaX (hs.map fun r=>r.getD j 0) (unitL n j) b;rw [zM] at g;rw [zcj hs n j hj,g,zaB n j b hb]
theorem zk2 (F:FormL (hs.length+n) ts p)(a:Alikes (hs.length+n) (InL ts) (InL (tracedL hs n))):ts.length=n:=by
 have h1:=zia F a;rw [zJ] at h1;obtain⟨C,hC⟩:=zbb (r:=n) (n:=hs.length+n) (mm:=ts.length) (H:=ent (tracedL hs n)) (M:=ent ts) fun k hk=>zav ((a _).2 (zgA hs n k hk));have h2:=zcY n ts.length (hs.length+n) (ent (tracedL hs n)) (ent ts) C (fun k=>hs.length+k) (fun k hk=>by omega)
  (fun i k hi hki=>by rw [zgB hs n i k hi (by omega),if_neg (by omega)]) (fun i hi=>by rw [zgB hs n i i hi hi,if_pos rfl];exact Int.le_refl 1) hC
 omega
theorem zgU (G:FormL n hs ph)(F:FormL (hs.length+n) ts p)(a:Alikes (hs.length+n) (InL ts) (InL (tracedL hs n))){c:Nat}(hc:c≤ts.length)(h1:∀ k,k<c→p k<hs.length)(h2:∀ k,c≤k→k<ts.length→hs.length≤p k):c=hs.length:=by
 have hle:∀ k,k<c→k≤p k:=fun k=>by
  induction k with
  | zero=>exact fun _=>Nat.zero_le _
  | succ k ih=>intro hk;have:=ih (by omega);have:=F.form.inc k (k+1) (by omega) (by omega);omega
 have hc1:c≤hs.length:=by
  by_cases h0:c=0
  ·omega
  ·have:=hle (c-1) (by omega);have:=h1 (c-1) (by omega);omega
 obtain⟨C,hC⟩:=zbb (r:=hs.length) (n:=hs.length) (mm:=c) (H:=fun i b=>ent hs b (ph (hs.length-1-i))) (M:=ent ts) fun i hi=>by
  have hj:ph (hs.length-1-i)<n:=G.form.lt _ (by omega);obtain⟨d,hd⟩:=zav ((a _).2 (zgA hs n _ hj));refine⟨d,fun b hb=>?_⟩;have e1:ent (tracedL hs n) (ph (hs.length-1-i)) b=sumN ts.length (fun k=>d k*ent ts k b):=hd b (by omega);rw [zk4 hs n _ b hj hb] at e1;show ent hs b (ph (hs.length-1-i))=_;rw [e1,show ts.length=c+(ts.length-c) by omega];refine zkF c _ _ fun k hk1 hk2=>?_;have h3:=h2 k hk1 (by omega);have e0:ent ts k b=0:=F.form.zero k b (by omega) (by omega);rw [e0,Int.mul_zero]
 have:=zcY hs.length c hs.length (fun i b=>ent hs b (ph (hs.length-1-i))) (ent ts) C (fun k=>hs.length-1-k) (fun k hk=>by omega)
  (fun i k hi hki=>G.form.zero (hs.length-1-k) (ph (hs.length-1-i)) (by omega) (G.form.inc _ _ (by omega) (by omega)))
  (fun i hi=>G.form.pos (hs.length-1-i) (by omega)) hC
 omega
theorem zg5 (F:FormL (hs.length+n) ts p):∃ c,c≤ts.length∧(∀ k,k<c→p k<hs.length)∧(∀ k,c≤k→k<ts.length→hs.length≤p k)∧behindL hs.length ts=(ts.drop c).map (·.drop hs.length):=by
 obtain⟨c,h0,h1,h2,e⟩:=zdA (n:=hs.length) F;exact⟨c,h0,h1,h2,by unfold behindL;rw [e]⟩
theorem zfo (G:FormL n hs ph)(F:FormL (hs.length+n) ts p)(a:Alikes (hs.length+n) (InL ts) (InL (tracedL hs n))):(behindL hs.length ts).length+hs.length=n:=by
 obtain⟨c,h0,h1,h2,e⟩:=zg5 F;have hc:=zgU G F a h0 h1 h2;have ht:=zk2 F a;rw [e,zM,List.length_drop];omega
end
structure KerOf (n:Nat)(ms ks:List (List Int)):Prop where
 form:∃ q,FormL n ks q
 all:∀ v:List Int,v.length=n→(Gens n (InL ks) v↔∀ r∈ms,dotL n r v=0)
theorem kerOf{ms us:List (List Int)}{q:Nat→Nat}(F:FormL (ms.length+n) us q)(a:Alikes (ms.length+n) (InL us) (InL (tracedL ms n))):KerOf n ms (behindL ms.length us):=
 ⟨zbL F,fun _ hv=>ziI F a hv⟩
end Go.Proofs.YtdedolkgcdlmeaaGreatDoor
