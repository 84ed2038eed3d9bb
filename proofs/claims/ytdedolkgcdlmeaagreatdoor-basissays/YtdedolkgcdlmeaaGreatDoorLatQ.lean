import Derived.Test.YtdedolkgcdlmeaaGreatDoorJoins
import Derived.Test.YtdedolkgcdlmeaaGreatDoorHermR
import Derived.Test.YtdedolkgcdlmeaaGreatDoorSameM
import Derived.Test.YtdedolkgcdlmeaaGreatDoorLatNo
set_option maxRecDepth 100000
set_option maxHeartbeats 3200000
set_option linter.unusedSimpArgs false
namespace Go.Proofs.YtdedolkgcdlmeaaGreatDoor
open Go.RowKit Limbs
variable {w wr:World}{zs:List Int}{v:Value}{n P m:Nat}{N c:Int}
theorem Tryz.infoStr:(Tryz.prog.info? 9).map (fun i=>(i.zero,i.size,i.bytes))=some (some (.string ByteArray.empty),1,16):=by kernel_rfl
theorem zlt (m:Nat)(hm:m≤1000)(W:World):(Instr.makeSlice 136 (.int .i64 (m:Int)) (.int .i64 (m:Int))).run Tryz.prog W=.ok (.slice (some ⟨W.heap.size,0,none⟩) m m) (W.alloc (.cells (Lib.cellsOf [] m) 9)):=by
 obtain⟨i0,hi,hz0,hz1,hz2⟩:=info_parts Tryz.infoStr;have h:=run_make (P:=Tryz.prog) W 136 9 i0 (.string ByteArray.empty) (by kernel_rfl) hi hz0 .i64 .i64 m m (by omega) (by omega) (by rw [hz2];omega) (by omega);rw [hz1,Int.toNat_natCast,Nat.mul_one] at h;rw [Lib.cellsOf_nil];exact h
def vtxt (zs:List Int):List UInt8:=40::(Lib.join (zs.map txt) [32]++[41])
def btxt (z:Int):ByteArray:=⟨(txt z).toArray⟩
theorem ze3 (zs:List Int):(zs.map btxt).map (·.data.toList)=zs.map txt:=by
 rw [List.map_map];apply List.map_congr_left;intro z _;simp [btxt]
def TxInv (w wr:World)(P:Nat)(zs:List Int)(k:Nat):Prop:=
 wr.heap[P]?=some (.cells (Lib.cellsOf ((zs.take k).map btxt) zs.length) 9)∧Below w.heap.size w wr
theorem TxInv.store{k:Nat}(h:TxInv w wr P zs k)(hP:w.heap.size≤P)(hk:k<zs.length):TxInv w (wr.setCell ⟨P,k,none⟩ (.string (btxt (zs.getD k 0)))) P zs (k+1):=by
 obtain⟨h1,h2⟩:=h;have hl:((zs.take k).map btxt).length=k:=by rw [zM,List.length_take];omega
 have hs:=heap_setCell_same wr P k _ _ (.string (btxt (zs.getD k 0))) h1;refine⟨?_,h2.setCell (by exact hP) _⟩;have e:(Lib.cellsOf ((zs.take k).map btxt) zs.length).setIfInBounds k (.string (btxt (zs.getD k 0)))=Lib.cellsOf ((zs.take (k+1)).map btxt) zs.length:=by
  have:=Lib.cellsOf_set (done:=(zs.take k).map btxt) (N:=zs.length) (by omega) (btxt (zs.getD k 0));rw [hl] at this;rw [this,List.take_succ_eq_append_getElem hk,List.map_append];simp [List.getD_eq_getElem?_getD,hk]
 rw [← e];exact hs
theorem TxInv.full(h:TxInv w wr P zs zs.length):∀(j:Nat) x,(zs.map btxt)[j]?=some x→wr.cell? ⟨P,0+j,none⟩=some (.string x):=fun j x hx=>by
 have h1:=h.1;rw [List.take_length] at h1;have:=World.news_of_block h1 j (.string x) (by
  unfold Lib.cellsOf;rw [List.toList_toArray,List.getElem?_append_left (by rw [zM];exact(List.getElem?_eq_some_iff.1 hx).1),List.getElem?_map,hx];rfl)
 have e:(⟨P,0,none⟩:Addr).add j=⟨P,0+j,none⟩:=by unfold Addr.add;split <;> simp_all
 rwa [e] at this
theorem joined (l:List UInt8):(⟨#[40]⟩:ByteArray) ++⟨l.toArray⟩ ++⟨#[41]⟩=⟨(40::(l++[41])).toArray⟩:=by
 apply ByteArray.ext;simp
theorem zmy (w:World)(v:Value)(zs:List Int)(n:Nat)(ht:Tab w)(hv:VecN w v zs n)(hn:n≤900000)(h0:0<zs.length)(h8:zs.length≤8)(hlen:(Lib.join (zs.map txt) [32]).length≤100000):
  Calls Tryz.prog 50 #[v] w fun e w'=>e=.returned (.string ⟨(vtxt zs).toArray⟩)∧Below w.heap.size w w':=by
 have HV:=hide hv;have HT:=hide ht;obtain⟨vb,voff,vcap,rfl⟩:=hv.form h0;clear hv ht;have hmk:=zlt zs.length (by omega);have HI:Hid (TxInv w (w.alloc (.cells (Lib.cellsOf [] zs.length) 9)) w.heap.size zs 0):=⟨heap_alloc_new w _,(zB _ _).alloc zL _⟩;go_enter Tryz.func50,Tryz.ntmps50;go_wp2;clear hmk;go_loopw [10] (fun i wr=>∃ k:Nat,k≤zs.length∧i=.int .i64 k∧TxInv w wr w.heap.size zs k) (fun i _=>zs.length-(intOf i).toNat)
 case atStart=>exact⟨0,Nat.zero_le _,rfl,HI.out⟩
 case round=>
  clear HI;obtain⟨k,hk,rfl,hinv⟩:=hrel;have HI:=hide hinv;clear hinv;by_cases hkl:k<zs.length
  ·obtain⟨la,an,ao,al,ac,a0,a1,na⟩:=(HV.out.below HI.out.2 zL).at k hkl;have NA:=hide na;have HST:=hide (fun(W:World) (h:TxInv w W w.heap.size zs k)=>h.store zL hkl);clear na;have HBT:=hide (show btxt (zs.getD k 0)=⟨(txt (zs.getD k 0)).toArray⟩ from rfl);generalize zs.getD k 0=z at *;go_wp2_with fail;refine(zl6 wr _ z n (HT.out.below HI.out.2) NA.out hn).mono ?_;rintro e w1 ⟨rfl,hb⟩;have HI1:=hide (show TxInv w w1 w.heap.size zs k from⟨(hb.block _ (zt HI.out.1)).trans HI.out.1,HI.out.2.trans (hb.mono HI.out.2.size)⟩);have hll:((zs.take k).map btxt).length=k:=by rw [zM,List.length_take];omega
   have hcell:w1.cell? ⟨w.heap.size,k,none⟩=some (.string ByteArray.empty):=by
    have h:=Lib.cellsOf_next (done:=(zs.take k).map btxt) (N:=zs.length) (by omega);rw [hll] at h;have:=World.news_of_block HI1.out.1 k (.string ByteArray.empty) (by rw [← h];simp);have e:(⟨w.heap.size,0,none⟩:Addr).add k=⟨w.heap.size,k,none⟩:=by unfold Addr.add;split <;> simp_all
    rwa [e] at this
   have hfr:w1.frozen? ⟨w.heap.size,k,none⟩=false:=by
    have h:=HI1.out.1;simp [World.frozen?,h]
   have HN:=hide (HST.out w1 HI1.out);rw [HBT.out] at HN;clear hb HST HI HI1 HBT hll a0 a1;go_wp2;go_roundw
   case rel=>exact⟨k+1,by omega,by go_num,HN.out⟩
   case measure=>simp [intOf];omega
  ·obtain rfl:k=zs.length:=by omega
   have HJ:=hide (Go.Proofs.Tryz.strings_Join w.heap.size 0 zs.length (zs.map btxt) ⟨#[32]⟩ wr HI.out.full (zt HI.out.1) (by rw [zM];omega) (by rw [zM];exact Nat.le_refl _) (by rw [ze3];show(Lib.join _ [32]).length≤_;omega));rw [zM,ze3] at HJ;have HBE:=hide HI.out.2;clear HI;go_wp2_with fail;refine HJ.out.mono ?_;rintro e w1 ⟨rfl,hb⟩;have HF:=hide (show Below w.heap.size w w1 from HBE.out.trans (hb.mono HBE.out.size));have e1:(Lib.join (zs.map txt) (⟨#[32]⟩:ByteArray).data.toList)=Lib.join (zs.map txt) [32]:=rfl;rw [e1];have HVT:=hide (show vtxt zs=40::(Lib.join (zs.map txt) [32]++[41]) from rfl);have hsz:(⟨(Lib.join (zs.map txt) [32]).toArray⟩:ByteArray).size≤100000:=by show(Lib.join (zs.map txt) [32]).toArray.size≤_;simpa using hlen
   clear hb HJ HBE e1;generalize Lib.join (zs.map txt) [32]=l at *;have hsz2:((⟨#[40]⟩:ByteArray) ++⟨l.toArray⟩).size≤100001:=by rw [ByteArray.size_append];show 1+_≤_;omega
   go_wp2;go_ret;rw [joined,← HVT.out];exact⟨rfl,HF.out⟩
open Digs
theorem ze2 (k:Nat):bp k≤dp (3*k):=by
 induction k with
 | zero=>exact(by decide:(1:Int)≤1)
 | succ k ih=>
  have e:3 *(k+1)=3*k+3:=by omega
  rw [e];show 4294967296*bp k≤dp (3*k+3);have e2:dp (3*k+3)=10000 *(10000 *(10000*dp (3*k))):=rfl;rw [e2];have:=zC k;omega
theorem RowR.fits(h:RowR w v zs n)(hz:∀ j,j<zs.length→-dp m<zs.getD j 0∧zs.getD j 0<dp m):RowR w v zs m:=by
 obtain⟨ao,cap,hv,h3,h4⟩:=h;refine⟨ao,cap,hv,h3,fun h0=>?_⟩;obtain⟨b,cur,fz',e,hh,hc⟩:=h4 h0;refine⟨b,cur,fz',e,hh,fun i hi=>?_⟩;obtain⟨s,o,l,c',h5,h6,h7⟩:=hc i hi;exact⟨s,o,l,c',h5,h6,h7.fits (hz i hi).1 (hz i hi).2⟩
theorem MatR.fits{zss:List (List Int)}(h:MatR w v zss n)(hz:∀ zs∈zss,∀ j,j<zs.length→-dp m<zs.getD j 0∧zs.getD j 0<dp m):MatR w v zss m:=by
 obtain⟨ao,cap,hv,h3,h4⟩:=h;refine⟨ao,cap,hv,h3,fun h0=>?_⟩;obtain⟨b,e,hlt,hc⟩:=h4 h0;refine⟨b,e,hlt,fun i zs hi=>?_⟩;obtain⟨u,h5,h6⟩:=hc i zs hi;exact⟨u,h5,h6.fits (hz zs (List.mem_of_getElem? hi))⟩
theorem MatN.small{zss:List (List Int)}(h:MatN w v zss n):∀ zs∈zss,∀ j,j<zs.length→-dp (3*n)<zs.getD j 0∧zs.getD j 0<dp (3*n):=fun zs hzs j hj=>by
 obtain⟨i,hi,e⟩:=List.getElem_of_mem hzs;obtain⟨b,off,cap',e1,hlt,u,hc,hu⟩:=h.at i hi;rw [e] at hu;obtain⟨b',off',cap2,e2⟩:=hu.form (by omega);subst e2;obtain⟨-,neg,o,l,c,-,-,hz⟩:=hu.at j hj;have h1:=hz.ab_lt;have h2:=ze2 n;unfold ab at h1;split at h1 <;> omega
def zsOf (rss:List (List Raw)):List (List Int):=rss.map (·.map Raw.z)
def errOf (c:Int):Value:=if c=0 then .nilIface else .iface 102 (.int .i64 c)
theorem zaf (c:Int)(h:0≤c)(W:World):Calls Tryz.prog 13 #[errOf c,.int .i64 c] W fun e w'=>e=.returned (.bool true)∧w'=W:=by
 unfold errOf;by_cases e:c=0
 ·rw [if_pos e,e];exact zg4 W
 ·rw [if_neg e];exact zlz c (by omega) W
def BF (N:Int)(rss:List (List Raw))(c:Int):Prop:=
 (¬(1≤N∧N≤4)∧c=1)∨((1≤N∧N≤4)∧N<(rss.length:Int)∧c=2)∨((1≤N∧N≤4)∧¬ N<(rss.length:Int)∧0<c∧checkedM rss N=.iface 102 (.int .i64 c)∧faultM rss N=c) ∨
  ((1≤N∧N≤4)∧¬ N<(rss.length:Int)∧checkedM rss N=.nilIface∧faultM rss N=0∧((c=3∧¬ ∃ p,FormL N.toNat (zsOf rss) p)∨(c=0∧∃ p,FormL N.toNat (zsOf rss) p)))
theorem BF.is (N:Int)(rss:List (List Raw)):∃ c,BF N rss c:=by
 by_cases h1:1≤N∧N≤4
 ·by_cases h2:N<(rss.length:Int)
  ·exact⟨2,.inr (.inl ⟨h1,h2,rfl⟩)⟩
  ·rcases zjc rss N with⟨h3,h4⟩ |⟨c,h3,h4,h5⟩
   ·by_cases h5:∃ p,FormL N.toNat (zsOf rss) p
    ·exact⟨0,.inr (.inr (.inr ⟨h1,h2,h3,h4,.inr ⟨rfl,h5⟩⟩))⟩
    ·exact⟨3,.inr (.inr (.inr ⟨h1,h2,h3,h4,.inl ⟨rfl,h5⟩⟩))⟩
   ·exact⟨c,.inr (.inr (.inl ⟨h1,h2,h3,h4,h5⟩))⟩
 ·exact⟨1,.inl ⟨h1,rfl⟩⟩
theorem BF.nonneg{rss:List (List Raw)}(h:BF N rss c):0≤c:=by
 rcases h with⟨-,h⟩ |⟨-,-,h⟩ |⟨-,-,h,-⟩ |⟨-,-,-,-,⟨h,-⟩ |⟨h,-⟩⟩ <;> omega
theorem BF.good{rss:List (List Raw)}(h:BF N rss c)(h0:c=0):(1≤N∧N≤4)∧¬ N<(rss.length:Int)∧checkedM rss N=.nilIface∧∃ p,FormL N.toNat (zsOf rss) p:=by
 rcases h with⟨-,h⟩ |⟨-,-,h⟩ |⟨-,-,h,-⟩ |⟨h1,h2,h3,-,⟨h,-⟩ |⟨-,h⟩⟩
 ·omega
 ·omega
 ·omega
 ·omega
 ·exact⟨h1,h2,h3,h⟩
theorem zbR (w:World)(u:Value)(N:Int)(rss:List (List Raw))(c:Int)(hu:MatL w u rss)(hlt:∀ rs∈rss,lightV rs=true)(hb:BF N rss c):
  Calls Tryz.prog 25 #[.agg #[.int .i64 N,u]] w fun e w'=>e=.returned (errOf c)∧Below w.heap.size w w':=by
 rcases hb with⟨hN,rfl⟩ |⟨hN,hM,rfl⟩ |⟨hN,hM,hc,hck,-⟩ |⟨hN,hM,hck,-,⟨rfl,hno⟩ |⟨rfl,hyes⟩⟩
 ·rw [show errOf 1=.iface 102 (.int .i64 1) from rfl];have HU:=hide hu;obtain⟨uo,ucap,rfl,-,-⟩:=hu;have HB0:=hide ((zB w.heap.size w).alloc zL (.cells #[.int .i64 N,.slice uo rss.length ucap] 55));have HC:=hide (zg w (.int .i64 N) (.slice uo rss.length ucap) 55 _ rfl);have HSZ:Hid (w.heap.size<(w.alloc (.cells #[.int .i64 N,.slice uo rss.length ucap] 55)).heap.size):=by show _<_;simp
  go_enter Tryz.func25,Tryz.ntmps25;go_wp2_with fail;generalize w.alloc (.cells #[.int .i64 N,.slice uo rss.length ucap] 55)=W0 at *;refine(zbg W0 N).mono ?_;rintro e w1 ⟨rfl,hb1⟩;have e:decide (1≤N∧N≤4)=false:=decide_eq_false hN;rw [e];clear e;have HB1:=hide (HB0.out.trans (hb1.mono HB0.out.size));have HD:=hide (HC.out.later hb1 HSZ.out);have HS1:=hide (zT HSZ.out hb1.size);obtain⟨c0,c1,z0,z1⟩:=HD.out;clear hb1 HC HSZ HB0;go_wp2;go_ret;exact⟨rfl,HB1.out⟩
 ·rw [show errOf 2=.iface 102 (.int .i64 2) from rfl];have HU:=hide hu;obtain⟨uo,ucap,rfl,-,-⟩:=hu;have HB0:=hide ((zB w.heap.size w).alloc zL (.cells #[.int .i64 N,.slice uo rss.length ucap] 55));have HC:=hide (zg w (.int .i64 N) (.slice uo rss.length ucap) 55 _ rfl);have HSZ:Hid (w.heap.size<(w.alloc (.cells #[.int .i64 N,.slice uo rss.length ucap] 55)).heap.size):=by show _<_;simp
  go_enter Tryz.func25,Tryz.ntmps25;go_wp2_with fail;generalize w.alloc (.cells #[.int .i64 N,.slice uo rss.length ucap] 55)=W0 at *;refine(zbg W0 N).mono ?_;rintro e w1 ⟨rfl,hb1⟩;have e:decide (1≤N∧N≤4)=true:=decide_eq_true hN;rw [e];clear e;have HB1:=hide (HB0.out.trans (hb1.mono HB0.out.size));have HD:=hide (HC.out.later hb1 HSZ.out);have HS1:=hide (zT HSZ.out hb1.size);obtain⟨c0,c1,z0,z1⟩:=HD.out;clear hb1 HC HSZ HB0;have g2:decide (N<(rss.length:Int))=true:=decide_eq_true (by omega);go_wp2;go_ret;exact⟨rfl,HB1.out⟩
 ·rw [show errOf c=.iface 102 (.int .i64 c) from if_neg (by omega)];have HU:=hide hu;obtain⟨uo,ucap,rfl,-,-⟩:=hu;have HB0:=hide ((zB w.heap.size w).alloc zL (.cells #[.int .i64 N,.slice uo rss.length ucap] 55));have HC:=hide (zg w (.int .i64 N) (.slice uo rss.length ucap) 55 _ rfl);have HSZ:Hid (w.heap.size<(w.alloc (.cells #[.int .i64 N,.slice uo rss.length ucap] 55)).heap.size):=by show _<_;simp
  go_enter Tryz.func25,Tryz.ntmps25;go_wp2_with fail;generalize w.alloc (.cells #[.int .i64 N,.slice uo rss.length ucap] 55)=W0 at *;refine(zbg W0 N).mono ?_;rintro e w1 ⟨rfl,hb1⟩;have e:decide (1≤N∧N≤4)=true:=decide_eq_true hN;rw [e];clear e;have HB1:=hide (HB0.out.trans (hb1.mono HB0.out.size));have HD:=hide (HC.out.later hb1 HSZ.out);have HS1:=hide (zT HSZ.out hb1.size);obtain⟨c0,c1,z0,z1⟩:=HD.out;clear hb1 HC HSZ HB0;have g2:decide (N<(rss.length:Int))=false:=decide_eq_false (by omega);go_wp2_with fail;refine(zcD w1 _ rss N (by exact HU.out.below HB1.out zL)).mono ?_;rintro e w2 ⟨rfl,hb2⟩;rw [hck];have HB2:=hide (HB1.out.trans (hb2.mono HB1.out.size));obtain⟨d0,d1,y0,y1⟩:=HD.out.later hb2 HS1.out;clear hb2 HB1 HD c0 c1 z0 z1;go_wp2;go_ret;exact⟨rfl,HB2.out⟩
 ·rw [show errOf 3=.iface 102 (.int .i64 3) from rfl];have HU:=hide hu;obtain⟨uo,ucap,rfl,-,-⟩:=hu;have HB0:=hide ((zB w.heap.size w).alloc zL (.cells #[.int .i64 N,.slice uo rss.length ucap] 55));have HC:=hide (zg w (.int .i64 N) (.slice uo rss.length ucap) 55 _ rfl);have HSZ:Hid (w.heap.size<(w.alloc (.cells #[.int .i64 N,.slice uo rss.length ucap] 55)).heap.size):=by show _<_;simp
  have HMN:Hid (MatN w (.slice uo (zsOf rss).length ucap) (zsOf rss) 8):=by
   have h:=HU.out.toN (n:=8) (fun rs h=>(zaP.1 hck).2.2.2 rs h |>.2) (fun rs h=>zaH (hlt rs h));have e:rss.length=(zsOf rss).length:=by unfold zsOf;rw [zM]
   rw [e] at h;exact h
  have HLN:Hid (∀ us∈zsOf rss,us.length=N.toNat):=fun us h=>by
   obtain⟨rs,h1,rfl⟩:=List.mem_map.1 h;rw [zM];have:=((zaP.1 hck).2.2.2 rs h1).1;omega
  have hzl:(zsOf rss).length=rss.length:=by unfold zsOf;rw [zM]
  rw [hzl] at HMN;have HLF:=hide (fun(W:World) (hb:Below w.heap.size w W)=>zfO W (.slice uo rss.length ucap) (zsOf rss) N.toNat 8 (HMN.out.below hb zL) HLN.out (by omega) (by omega) (by omega) false ⟨fun h=>absurd h (by decide),fun h=>absurd h hno⟩);clear hzl HMN HLN hno;go_enter Tryz.func25,Tryz.ntmps25;go_wp2_with fail;generalize w.alloc (.cells #[.int .i64 N,.slice uo rss.length ucap] 55)=W0 at *;refine(zbg W0 N).mono ?_;rintro e w1 ⟨rfl,hb1⟩;have e:decide (1≤N∧N≤4)=true:=decide_eq_true hN;rw [e];clear e;have HB1:=hide (HB0.out.trans (hb1.mono HB0.out.size));have HD:=hide (HC.out.later hb1 HSZ.out);have HS1:=hide (zT HSZ.out hb1.size);obtain⟨c0,c1,z0,z1⟩:=HD.out;clear hb1 HC HSZ HB0;have g2:decide (N<(rss.length:Int))=false:=decide_eq_false (by omega);go_wp2_with fail;refine(zcD w1 _ rss N (by exact HU.out.below HB1.out zL)).mono ?_;rintro e w2 ⟨rfl,hb2⟩;rw [hck];have HB2:=hide (HB1.out.trans (hb2.mono HB1.out.size));obtain⟨d0,d1,y0,y1⟩:=HD.out.later hb2 HS1.out;clear hb2 HB1 HD c0 c1 z0 z1;go_wp2_with fail;refine(HLF.out w2 HB2.out).mono ?_;rintro e w3 ⟨rfl,hb3⟩;have HB3:=hide (HB2.out.trans (hb3.mono HB2.out.size));clear hb3 d0 d1 y0 y1;go_wp2;go_ret;exact⟨rfl,HB3.out⟩
 ·rw [show errOf 0=.nilIface from rfl];have HU:=hide hu;obtain⟨uo,ucap,rfl,-,-⟩:=hu;have HB0:=hide ((zB w.heap.size w).alloc zL (.cells #[.int .i64 N,.slice uo rss.length ucap] 55));have HC:=hide (zg w (.int .i64 N) (.slice uo rss.length ucap) 55 _ rfl);have HSZ:Hid (w.heap.size<(w.alloc (.cells #[.int .i64 N,.slice uo rss.length ucap] 55)).heap.size):=by show _<_;simp
  have HMN:Hid (MatN w (.slice uo (zsOf rss).length ucap) (zsOf rss) 8):=by
   have h:=HU.out.toN (n:=8) (fun rs h=>(zaP.1 hck).2.2.2 rs h |>.2) (fun rs h=>zaH (hlt rs h));have e:rss.length=(zsOf rss).length:=by unfold zsOf;rw [zM]
   rw [e] at h;exact h
  have HLN:Hid (∀ us∈zsOf rss,us.length=N.toNat):=fun us h=>by
   obtain⟨rs,h1,rfl⟩:=List.mem_map.1 h;rw [zM];have:=((zaP.1 hck).2.2.2 rs h1).1;omega
  have hzl:(zsOf rss).length=rss.length:=by unfold zsOf;rw [zM]
  rw [hzl] at HMN;have HLF:=hide (fun(W:World) (hb:Below w.heap.size w W)=>zfO W (.slice uo rss.length ucap) (zsOf rss) N.toNat 8 (HMN.out.below hb zL) HLN.out (by omega) (by omega) (by omega) true ⟨fun _=>hyes,fun _=>rfl⟩);clear hzl HMN HLN hyes;go_enter Tryz.func25,Tryz.ntmps25;go_wp2_with fail;generalize w.alloc (.cells #[.int .i64 N,.slice uo rss.length ucap] 55)=W0 at *;refine(zbg W0 N).mono ?_;rintro e w1 ⟨rfl,hb1⟩;have e:decide (1≤N∧N≤4)=true:=decide_eq_true hN;rw [e];clear e;have HB1:=hide (HB0.out.trans (hb1.mono HB0.out.size));have HD:=hide (HC.out.later hb1 HSZ.out);have HS1:=hide (zT HSZ.out hb1.size);obtain⟨c0,c1,z0,z1⟩:=HD.out;clear hb1 HC HSZ HB0;have g2:decide (N<(rss.length:Int))=false:=decide_eq_false (by omega);go_wp2_with fail;refine(zcD w1 _ rss N (by exact HU.out.below HB1.out zL)).mono ?_;rintro e w2 ⟨rfl,hb2⟩;rw [hck];have HB2:=hide (HB1.out.trans (hb2.mono HB1.out.size));obtain⟨d0,d1,y0,y1⟩:=HD.out.later hb2 HS1.out;clear hb2 HB1 HD c0 c1 z0 z1;go_wp2_with fail;refine(HLF.out w2 HB2.out).mono ?_;rintro e w3 ⟨rfl,hb3⟩;have HB3:=hide (HB2.out.trans (hb3.mono HB2.out.size));clear hb3 d0 d1 y0 y1;go_wp2;go_ret;exact⟨rfl,HB3.out⟩
theorem zid (w:World)(v:Value)(zs:List Int)(nv:Nat)(hv:VecN w v zs nv)(h1:1≤zs.length)(h8:zs.length≤8):
  Calls Tryz.prog 94 #[v] w fun e w'=>e=.returned .nilIface∧Below w.heap.size w w':=by
 obtain⟨rs,hr,hl,ha⟩:=hv.raw;have e:checkedV rs=.nilIface:=by
  unfold checkedV;rw [if_neg (by omega),ha];rfl
 have:=zdp w v rs hr
 rwa [e] at this
theorem ze5 (w:World)(v x:Value)(n nv nx:Nat)(hs:List (List Int))(zs:List Int)(h:LatN w v n hs nv)(hx:VecN w x zs nx)(hz:zs.length=n)(h1:1≤n)(h4:n≤4):
  Calls Tryz.prog 88 #[v,x] w fun e w'=>e=.returned .nilIface∧Below w.heap.size w w':=by
 subst hz;have HL:=hide h;have HX:=hide hx;obtain⟨⟨u,rfl,⟨uo,ucap,rfl,-,-⟩⟩,-⟩:=h;obtain⟨xo,xcap,rfl,-,-⟩:=hx;have HB0:=hide ((zB w.heap.size w).alloc zL (.cells #[.int .i64 (zs.length:Int),.slice uo hs.length ucap] 55));have HC:=hide (zg w (.int .i64 (zs.length:Int)) (.slice uo hs.length ucap) 55 _ rfl);have HSZ:Hid (w.heap.size<(w.alloc (.cells #[.int .i64 (zs.length:Int),.slice uo hs.length ucap] 55)).heap.size):=by show _<_;simp
 go_enter Tryz.func88,Tryz.ntmps88;go_wp2_with fail;generalize w.alloc (.cells #[.int .i64 (zs.length:Int),.slice uo hs.length ucap] 55)=W0 at *;refine(zcC W0 _ _ nv hs (by exact HL.out.below HB0.out) h1 h4).mono ?_;rintro e w1 ⟨rfl,hb1⟩;have HB1:=hide (HB0.out.trans (hb1.mono HB0.out.size));obtain⟨c0,c1,z0,z1⟩:=HC.out.later hb1 HSZ.out;clear hb1 HC HSZ HB0;go_wp2_with fail;refine(zid w1 _ zs nx (by exact HX.out.below HB1.out zL) (by omega) (by omega)).mono ?_;rintro e w2 ⟨rfl,hb2⟩;have HB2:=hide (HB1.out.trans (hb2.mono HB1.out.size));clear hb2 HB1 c0 c1 z0 z1;go_wp2;go_ret;exact⟨rfl,HB2.out⟩
def InsPost (w:World)(n nv:Nat)(ms:List (List Int))(e:Ending)(w':World):Prop:=
 ∃ v hs,e=.returned (.tuple #[v,.nilIface])∧LatN w' v n hs (n*nv+2)∧Below w.heap.size w w'∧Alikes n (InL hs) (InL ms)∧∀ u,v=.agg #[.int .i64 (n:Int),u]→Fresh w.heap.size u
theorem zfJ (w:World)(v x:Value)(n nv:Nat)(hs:List (List Int))(zs:List Int)(h:LatN w v n hs nv)(hx:VecN w x zs nv)(hz:zs.length=n)(h1:1≤n)(h4:n≤4)(hN:nbK n (n*nv+2) nv n≤100000):
  Calls Tryz.prog 42 #[v,x] w fun e w'=>InsPost w n nv (hs++[zs]) e w':=by
 subst hz;have HL:=hide h;have HX:=hide hx;have HN:=hide hN;obtain⟨⟨u,rfl,hu⟩,p,hF⟩:=h;have HU:=hide hu;have hlen:=hF.short;have HR:Hid (∀ us∈hs++[zs],us.length=zs.length):=fun us hus=>by
  rcases List.mem_append.1 hus with hh | hh
  ·exact hF.len us hh
  ·rw [List.mem_singleton] at hh;rw [hh]
 obtain⟨uo,ucap,rfl,-,-⟩:=hu;obtain⟨xb,xoff,xcap,rfl⟩:=hx.form (by omega);clear hF hN hx;have HB0:=hide (((zB w.heap.size w).alloc zL (.cells #[.int .i64 (zs.length:Int),.slice uo hs.length ucap] 55)).alloc (by simp) (.cells #[.int .i64 0,.slice none 0 0] 55));have HC:=hide ((zg w (.int .i64 (zs.length:Int)) (.slice uo hs.length ucap) 55 _ rfl).later ((zB (w.heap.size+1) _).alloc (by simp) (.cells #[.int .i64 0,.slice none 0 0] 55)) (by omega));have HD:=hide (zg (w.alloc (.cells #[.int .i64 (zs.length:Int),.slice uo hs.length ucap] 55)) (.int .i64 0) (.slice none 0 0) 55 (w.heap.size+1) (by simp));have HSZ:Hid (w.heap.size+1<((w.alloc (.cells #[.int .i64 (zs.length:Int),.slice uo hs.length ucap] 55)).alloc (.cells #[.int .i64 0,.slice none 0 0] 55)).heap.size):=by show _<_;simp
 go_enter Tryz.func42,Tryz.ntmps42;obtain⟨c0,c1,z0,z1⟩:=HC.out;go_wp2_with fail;clear c0 c1 z0 z1;generalize ((w.alloc (.cells #[.int .i64 (zs.length:Int),.slice uo hs.length ucap] 55)).alloc (.cells #[.int .i64 0,.slice none 0 0] 55))=W0 at *;refine(ze5 W0 _ _ _ nv nv hs zs (by exact HL.out.below HB0.out) (by exact HX.out.below HB0.out zL) rfl h1 h4).mono ?_;rintro e w1 ⟨rfl,hb1⟩;have HB1:=hide (HB0.out.trans (hb1.mono HB0.out.size));obtain⟨c0,c1,z0,z1⟩:=HC.out.later hb1 (by have:=HSZ.out;omega);have HE:=hide (HD.out.later hb1 HSZ.out);have HS1:=hide (zT HSZ.out hb1.size);clear hb1 HC HD HSZ HB0;have HBA:=hide (((zB w1.heap.size w1).alloc zL (.cells #[.slice (some ⟨xb,xoff,none⟩) zs.length xcap] 72)).alloc (by simp) (.cells #[.slice uo hs.length ucap,.slice (some ⟨w1.heap.size,0,none⟩) 1 1] 23));have HT:Hid (TwoM ((w1.alloc (.cells #[.slice (some ⟨xb,xoff,none⟩) zs.length xcap] 72)).alloc (.cells #[.slice uo hs.length ucap,.slice (some ⟨w1.heap.size,0,none⟩) 1 1] 23)) (w1.heap.size+1) (.slice uo hs.length ucap) (.slice (some ⟨w1.heap.size,0,none⟩) 1 1) hs [zs] nv):=by
  have hb:=HBA.out;have e1:w1.heap.size+1=(w1.alloc (.cells #[.slice (some ⟨xb,xoff,none⟩) zs.length xcap] 72)).heap.size:=by simp
  have hbx:=(zB (w1.heap.size+1) (w1.alloc (.cells #[.slice (some ⟨xb,xoff,none⟩) zs.length xcap] 72))).alloc (by simp) (.cells #[.slice uo hs.length ucap,.slice (some ⟨w1.heap.size,0,none⟩) 1 1] 23);refine⟨by simp,?_,?_,(HU.out.below HB1.out zL).below hb zL,⟨_,1,rfl,Nat.le_refl _,fun _=>⟨w1.heap.size,0,rfl,(by simp;omega),fun i us hi=>?_⟩⟩⟩
  ·rw [e1,World.cell?_alloc_new];rfl
  ·rw [e1,World.cell?_alloc_new];rfl
  ·have hi0:i=0:=by have:=(List.getElem?_eq_some_iff.1 hi).1;simpa using this
   subst hi0;have:us=zs:=by simpa using hi.symm
   subst this;exact⟨_,(hbx.cell (p:=⟨w1.heap.size,0,none⟩) (by simp)).trans (by rw [World.cell?_alloc_new];rfl),(HX.out.below HB1.out zL).below hb zL⟩
 have HB2:=hide (HB1.out.trans (HBA.out.mono HB1.out.size));have HE2:=hide (HE.out.later HBA.out HS1.out);have HS2:=hide (zT HS1.out HBA.out.size);clear HE HS1 HBA HU HX HL HB1;go_wp2_with fail;generalize ((w1.alloc (.cells #[.slice (some ⟨xb,xoff,none⟩) zs.length xcap] 72)).alloc (.cells #[.slice uo hs.length ucap,.slice (some ⟨w1.heap.size,0,none⟩) 1 1] 23))=W2 at *;refine(zdH W2 _ _ _ hs [zs] zs.length nv (by exact HT.out) (by simp;omega) h1 (by omega) HR.out HN.out).mono ?_;rintro e w3 ⟨u',hs',p',rfl,hu',hb3,hF',hA',hfr⟩;have hpos:∀ us∈hs',0<us.length:=fun us hz=>by rw [hF'.len us hz];omega
 have HB3:=hide (HB2.out.trans (hb3.mono HB2.out.size));obtain⟨d0,d1,y0,y1⟩:=HE2.out.later hb3 HS2.out;have HP:Hid (InsPost w zs.length nv (hs++[zs]) (.returned (.tuple #[.agg #[.int .i64 (zs.length:Int),u'],.nilIface])) ((w3.setCell ⟨w.heap.size+1,0,none⟩ (.int .i64 (zs.length:Int))).setCell ⟨w.heap.size+1,1,none⟩ u')):=⟨_,hs',rfl,⟨⟨u',rfl,hu'.setBasis _ _ hpos d0 d1⟩,p',hF'⟩,(HB3.out.setCell (by simp) _).setCell (by simp) _,hA',fun x hx=>by simp at hx;rw [← hx];exact hfr.mono HB2.out.size⟩;obtain⟨vo,vcap,rfl,-,-⟩:=hu';clear hF' hA' hfr hpos hb3 HT HR HN HB2 HB3 HE2 HS2 c0 c1 z0 z1;go_wp2;exact bodyPost_ret (v:=.tuple #[.agg #[.int .i64 (zs.length:Int),.slice vo hs'.length vcap],.nilIface]) (by simp [results,Tryz.results42,go_sem,d0,d1]) rfl HP.out
theorem zJ (w:World)(a0 a1 b0 b1:Value)(t t':TypeId):Box ((w.alloc (.cells #[a0,a1] t)).alloc (.cells #[b0,b1] t')) w.heap.size a0 a1∧Box ((w.alloc (.cells #[a0,a1] t)).alloc (.cells #[b0,b1] t')) (w.heap.size+1) b0 b1∧Below w.heap.size w ((w.alloc (.cells #[a0,a1] t)).alloc (.cells #[b0,b1] t'))∧w.heap.size+1<((w.alloc (.cells #[a0,a1] t)).alloc (.cells #[b0,b1] t')).heap.size:=
 ⟨(zg w a0 a1 t _ rfl).later ((zB (w.heap.size+1) _).alloc (by simp) _) (by omega),zg _ b0 b1 t' _ (by simp),((zB w.heap.size w).alloc zL _).alloc (by simp) _,by simp⟩
theorem zbQ (w:World)(va vb:Value)(n nv mv:Nat)(hs ks:List (List Int))(ha:LatN w va n hs nv)(hb:LatN w vb n ks mv)(h1:1≤n)(h4:n≤4):
  Calls Tryz.prog 80 #[va,vb] w fun e w'=>e=.returned .nilIface∧Below w.heap.size w w':=by
 have HA:=hide ha;have HB:=hide hb;obtain⟨⟨u,rfl,⟨uo,ucap,rfl,-,-⟩⟩,-⟩:=ha;obtain⟨⟨v,rfl,⟨vo,vcap,rfl,-,-⟩⟩,-⟩:=hb;have HX:=hide (zJ w (.int .i64 (n:Int)) (.slice uo hs.length ucap) (.int .i64 (n:Int)) (.slice vo ks.length vcap) 55 55);obtain⟨⟨c0,c1,z0,z1⟩,⟨d0,d1,y0,y1⟩,-,-⟩:=HX.out;go_enter Tryz.func80,Tryz.ntmps80;go_wp2_with fail;clear c0 c1 z0 z1 d0 d1 y0 y1;generalize ((w.alloc (.cells #[.int .i64 (n:Int),.slice uo hs.length ucap] 55)).alloc (.cells #[.int .i64 (n:Int),.slice vo ks.length vcap] 55))=W0 at *;refine(zcC W0 _ n nv hs (by exact HA.out.below HX.out.2.2.1) h1 h4).mono ?_;rintro e w1 ⟨rfl,hb1⟩;have HB1:=hide (HX.out.2.2.1.trans (hb1.mono HX.out.2.2.1.size));have HC1:=hide (HX.out.1.later hb1 (by have:=HX.out.2.2.2;omega));have HD1:=hide (HX.out.2.1.later hb1 HX.out.2.2.2);have HL1:=hide (zT HX.out.2.2.2 hb1.size);obtain⟨d0,d1,y0,y1⟩:=HD1.out;clear hb1 HX;go_wp2_with fail;refine(zcC w1 _ n mv ks (by exact HB.out.below HB1.out) h1 h4).mono ?_;rintro e w2 ⟨rfl,hb2⟩;have HB2:=hide (HB1.out.trans (hb2.mono HB1.out.size));clear d0 d1 y0 y1;obtain⟨c0,c1,z0,z1⟩:=HC1.out.later hb2 (by have:=HL1.out;omega);obtain⟨d0,d1,y0,y1⟩:=HD1.out.later hb2 HL1.out;clear hb2 HB1 HC1 HD1;go_wp2;go_ret;exact⟨rfl,HB2.out⟩
theorem zlV (w:World)(va vb:Value)(n nv:Nat)(hs ks:List (List Int))(ha:LatN w va n hs nv)(hb:LatN w vb n ks nv)(h1:1≤n)(h4:n≤4)(hN:nbK n (n*nv+2) nv n≤100000):
  Calls Tryz.prog 30 #[va,vb] w fun e w'=>InsPost w n nv (hs++ks) e w':=by
 have HA:=hide ha;have HB:=hide hb;have HN:=hide hN;obtain⟨⟨u,rfl,hu⟩,p,hF⟩:=ha;obtain⟨⟨v,rfl,hv⟩,p',hF'⟩:=hb;have HU:=hide hu;have HV:=hide hv;have hl1:=hF.short;have hl2:=hF'.short;have HR:Hid (∀ us∈hs++ks,us.length=n):=fun us hus=>by
  rcases List.mem_append.1 hus with hh | hh
  ·exact hF.len us hh
  ·exact hF'.len us hh
 obtain⟨uo,ucap,rfl,-,-⟩:=hu;obtain⟨vo,vcap,rfl,-,-⟩:=hv;clear hF hF' hN;have HX:=hide (zJ w (.int .i64 (n:Int)) (.slice uo hs.length ucap) (.int .i64 (n:Int)) (.slice vo ks.length vcap) 55 55);have HY:=hide (zg ((w.alloc (.cells #[.int .i64 (n:Int),.slice uo hs.length ucap] 55)).alloc (.cells #[.int .i64 (n:Int),.slice vo ks.length vcap] 55)) (.int .i64 0) (.slice none 0 0) 55 (w.heap.size+1+1) (by simp));have HZ:=hide ((zB (w.heap.size+2) ((w.alloc (.cells #[.int .i64 (n:Int),.slice uo hs.length ucap] 55)).alloc (.cells #[.int .i64 (n:Int),.slice vo ks.length vcap] 55))).alloc (by simp) (.cells #[.int .i64 0,.slice none 0 0] 55));have HC:=hide (HX.out.1.later HZ.out (by omega));have HD:=hide (HX.out.2.1.later HZ.out (by omega));have HB0:=hide (HX.out.2.2.1.trans (HZ.out.mono (by omega)));have HSZ:Hid (w.heap.size+1+1<(((w.alloc (.cells #[.int .i64 (n:Int),.slice uo hs.length ucap] 55)).alloc (.cells #[.int .i64 (n:Int),.slice vo ks.length vcap] 55)).alloc (.cells #[.int .i64 0,.slice none 0 0] 55)).heap.size):=by show _<_;simp
 obtain⟨c0,c1,z0,z1⟩:=HC.out;obtain⟨d0,d1,y0,y1⟩:=HD.out;go_enter Tryz.func30,Tryz.ntmps30;go_wp2_with fail;clear c0 c1 z0 z1 d0 d1 y0 y1 HX HZ;generalize (((w.alloc (.cells #[.int .i64 (n:Int),.slice uo hs.length ucap] 55)).alloc (.cells #[.int .i64 (n:Int),.slice vo ks.length vcap] 55)).alloc (.cells #[.int .i64 0,.slice none 0 0] 55))=W0 at *;refine(zbQ W0 _ _ n nv nv hs ks (by exact HA.out.below HB0.out) (by exact HB.out.below HB0.out) h1 h4).mono ?_;rintro e w1 ⟨rfl,hb1⟩;have HB1:=hide (HB0.out.trans (hb1.mono HB0.out.size));obtain⟨c0,c1,z0,z1⟩:=HC.out.later hb1 (by have:=HSZ.out;omega);obtain⟨d0,d1,y0,y1⟩:=HD.out.later hb1 (by have:=HSZ.out;omega);have HE:=hide (HY.out.later hb1 HSZ.out);have HS1:=hide (zT HSZ.out hb1.size);clear hb1 HC HD HY HSZ HB0;have HBA:=hide ((zB w1.heap.size w1).alloc zL (.cells #[.slice uo hs.length ucap,.slice vo ks.length vcap] 23));have HT:Hid (TwoM (w1.alloc (.cells #[.slice uo hs.length ucap,.slice vo ks.length vcap] 23)) w1.heap.size (.slice uo hs.length ucap) (.slice vo ks.length vcap) hs ks nv):=
  ⟨by simp,by rw [World.cell?_alloc_new];rfl,by rw [World.cell?_alloc_new];rfl,(HU.out.below HB1.out zL).below HBA.out zL,(HV.out.below HB1.out zL).below HBA.out zL⟩
 have HB2:=hide (HB1.out.trans (HBA.out.mono HB1.out.size));have HE2:=hide (HE.out.later HBA.out HS1.out);have HS2:=hide (zT HS1.out HBA.out.size);clear HE HS1 HBA HU HV HA HB HB1;go_wp2_with fail;generalize w1.alloc (.cells #[.slice uo hs.length ucap,.slice vo ks.length vcap] 23)=W2 at *;refine(zdH W2 _ _ _ hs ks n nv (by exact HT.out) (by omega) h1 (by omega) HR.out HN.out).mono ?_;rintro e w3 ⟨u',hs',p',rfl,hu',hb3,hF',hA',hfr⟩;have hpos:∀ us∈hs',0<us.length:=fun us hz=>by rw [hF'.len us hz];omega
 have HB3:=hide (HB2.out.trans (hb3.mono HB2.out.size));clear c0 c1 z0 z1 d0 d1 y0 y1;obtain⟨d0,d1,y0,y1⟩:=HE2.out.later hb3 HS2.out;have HP:Hid (InsPost w n nv (hs++ks) (.returned (.tuple #[.agg #[.int .i64 (n:Int),u'],.nilIface])) ((w3.setCell ⟨w.heap.size+1+1,0,none⟩ (.int .i64 (n:Int))).setCell ⟨w.heap.size+1+1,1,none⟩ u')):=⟨_,hs',rfl,⟨⟨u',rfl,hu'.setBasis _ _ hpos d0 d1⟩,p',hF'⟩,(HB3.out.setCell (by simp;omega) _).setCell (by simp;omega) _,hA',fun x hx=>by simp at hx;rw [← hx];exact hfr.mono HB2.out.size⟩;obtain⟨ro,rcap,rfl,-,-⟩:=hu';clear hF' hA' hfr hpos hb3 HT HR HN HB2 HB3 HE2 HS2;go_wp2;exact bodyPost_ret (v:=.tuple #[.agg #[.int .i64 (n:Int),.slice ro hs'.length rcap],.nilIface]) (by simp [results,Tryz.results30,go_sem,d0,d1]) rfl HP.out
end Go.Proofs.YtdedolkgcdlmeaaGreatDoor
