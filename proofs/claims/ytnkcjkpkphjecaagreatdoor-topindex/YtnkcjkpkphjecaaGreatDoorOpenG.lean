import Derived.Shelf.LaysM
import Derived.Shelf.Strconv.Itoa3
import Derived.Test.YtnkcjkpkphjecaaGreatDoorProg
import Derived.Test.YtnkcjkpkphjecaaGreatDoorTextW
import Derived.Test.YtnkcjkpkphjecaaGreatDoorGrowV
import Derived.Shelf.Strings.OnBuilder
import Derived.Shelf.Strings.Count
import Derived.Shelf.Strings.Split
import Derived.Test.YtnkcjkpkphjecaaGreatDoorMul
import Derived.Lib.Split
import Derived.Lib.Join
import Derived.Test.YtnkcjkpkphjecaaGreatDoorOps2
import Derived.Test.YtnkcjkpkphjecaaGreatDoorShift
import Derived.Test.YtnkcjkpkphjecaaGreatDoorLatL
import Derived.Test.YtnkcjkpkphjecaaGreatDoorRefA
import Derived.Test.YtnkcjkpkphjecaaGreatDoorLatS
import Derived.Test.YtnkcjkpkphjecaaGreatDoorBeside
import Derived.Deep.SlicePairs
namespace Go.Proofs
open Go.Shelf Go.RowKit Go.Sort
def Tryz.laysM171_ren:Go.Shelf.Ren:=⟨fun | 171=>84 | 243=>107 | 246=>119 | 283=>125 | 284=>126 | 285=>127 | 286=>128 | 129=>131 | 317=>130 | 318=>132 | 319=>133 | 320=>134 | 337=>135 | 338=>136 | n=>n,fun | 3=>3 | 9=>9 | 2=>2 | 4=>4 | 171=>174 | 0=>0 | 53=>90 | 37=>136 | 5=>5 | 173=>177 | 212=>181 | 51=>91 | 20=>20 | 213=>182 | 46=>92 | 232=>184 | 233=>185 | n=>n,fun | 17=>2 | 18=>3 | 19=>4 | n=>n⟩
theorem Tryz.laysM171:Go.Proofs.LaysM.n171 Tryz.prog Tryz.laysM171_ren:={
 mixed:=by kernel_rfl
 f129:=Tryz.func131.trans (congrArg some (by kernel_rfl))
 f171:=Tryz.func84.trans (congrArg some (by kernel_rfl))
 f243:=Tryz.func107.trans (congrArg some (by kernel_rfl))
 f246:=Tryz.func119.trans (congrArg some (by kernel_rfl))
 f283:=Tryz.func125.trans (congrArg some (by kernel_rfl))
 f284:=Tryz.func126.trans (congrArg some (by kernel_rfl))
 f285:=Tryz.func127.trans (congrArg some (by kernel_rfl))
 f286:=Tryz.func128.trans (congrArg some (by kernel_rfl))
 f317:=Tryz.func130.trans (congrArg some (by kernel_rfl))
 f318:=Tryz.func132.trans (congrArg some (by kernel_rfl))
 f319:=Tryz.func133.trans (congrArg some (by kernel_rfl))
 f320:=Tryz.func134.trans (congrArg some (by kernel_rfl))
 f337:=Tryz.func135.trans (congrArg some (by kernel_rfl))
 f338:=Tryz.func136.trans (congrArg some (by kernel_rfl))
 t0:=Tryz.underlying0
 a0:=Tryz.isAgg0
 z0:=Tryz.sizeOf0
 v0:=Tryz.zeroValue0
 t2:=Tryz.underlying2
 a2:=Tryz.isAgg2
 z2:=Tryz.sizeOf2
 v2:=Tryz.zeroValue2
 t3:=Tryz.underlying3
 a3:=Tryz.isAgg3
 z3:=Tryz.sizeOf3
 v3:=Tryz.zeroValue3
 t4:=Tryz.underlying4
 a4:=Tryz.isAgg4
 z4:=Tryz.sizeOf4
 v4:=Tryz.zeroValue4
 t5:=Tryz.underlying5
 a5:=Tryz.isAgg5
 z5:=Tryz.sizeOf5
 v5:=Tryz.zeroValue5
 t9:=Tryz.underlying9
 a9:=Tryz.isAgg9
 z9:=Tryz.sizeOf9
 v9:=Tryz.zeroValue9
 t20:=Tryz.underlying20
 a20:=Tryz.isAgg20
 z20:=Tryz.sizeOf20
 v20:=Tryz.zeroValue20
 t37:=Tryz.underlying136
 a37:=Tryz.isAgg136
 z37:=Tryz.sizeOf136
 v37:=Tryz.zeroValue136
 t46:=Tryz.underlying92
 a46:=Tryz.isAgg92
 z46:=Tryz.sizeOf92
 v46:=Tryz.zeroValue92
 t51:=Tryz.underlying91
 a51:=Tryz.isAgg91
 z51:=Tryz.sizeOf91
 v51:=Tryz.zeroValue91
 t53:=Tryz.underlying90
 a53:=Tryz.isAgg90
 z53:=Tryz.sizeOf90
 v53:=Tryz.zeroValue90
 t171:=Tryz.underlying174
 a171:=Tryz.isAgg174
 z171:=Tryz.sizeOf174
 v171:=Tryz.zeroValue174
 t173:=Tryz.underlying177
 a173:=Tryz.isAgg177
 z173:=Tryz.sizeOf177
 v173:=Tryz.zeroValue177
 t212:=Tryz.underlying181
 a212:=Tryz.isAgg181
 z212:=Tryz.sizeOf181
 v212:=Tryz.zeroValue181
 t213:=Tryz.underlying182
 a213:=Tryz.isAgg182
 z213:=Tryz.sizeOf182
 t232:=Tryz.underlying184
 a232:=Tryz.isAgg184
 z232:=Tryz.sizeOf184
 v232:=Tryz.zeroValue184
 t233:=Tryz.underlying185
 a233:=Tryz.isAgg185
 z233:=Tryz.sizeOf185
 v233:=Tryz.zeroValue185
 g17:=by kernel_rfl
 g18:=by kernel_rfl
 g19:=by kernel_rfl
 i0:=by kernel_rfl
 i2:=by kernel_rfl
 i3:=by kernel_rfl
 i4:=by kernel_rfl
 i5:=by kernel_rfl
 i9:=by kernel_rfl
 i20:=by kernel_rfl
 i37:=by kernel_rfl
 i46:=by kernel_rfl
 i51:=by kernel_rfl
 i53:=by kernel_rfl
 i171:=by kernel_rfl
 i173:=by kernel_rfl
 i212:=by kernel_rfl
 i232:=by kernel_rfl
 i233:=by kernel_rfl
 m17:=by kernel_rfl
 m18:=by kernel_rfl
 m19:=by kernel_rfl }
open Go.RowKit Go.Sort Go.Lib in
theorem Tryz.strconv_Itoa (n : Int) (h0 : -9223372036854775808 ≤ n) (h1 : n ≤ 9223372036854775807) (w : World) (htab : Lib.TabIs Tryz.prog w "internal/strconv.uint64pow10" .u64 Lib.pow10Tab) :
  Calls Tryz.prog 84 #[.int .i64 n] w fun e w'=>e=.returned (.string ⟨(Lib.itoa n).toArray⟩)∧∃ k os,w'=grow (w.drewN k) os:=Any.strconv_Itoa Tryz.laysM171 n h0 h1 w htab
end Go.Proofs
/- The text of a number of any size, where the library's table of powers of ten is laid. -/
namespace Go.Proofs.YtnkcjkpkphjecaaGreatDoor
open Go.RowKit Limbs
def Tab (w : World) : Prop := Lib.TabIs Tryz.prog w "internal/strconv.uint64pow10" .u64 Lib.pow10Tab
theorem Tab.below {w w':World}(h:Tab w)(hb:Below w.heap.size w w'):Tab w':=by
 unfold Tab Lib.TabIs World.var? at h ⊢
 obtain ⟨g, hg⟩ : ∃ g, Tryz.prog.globalNamed "internal/strconv.uint64pow10" = some g := by
  cases hg : Tryz.prog.globalNamed "internal/strconv.uint64pow10" with
  | none=>rw [hg] at h;cases h
  | some g=>exact⟨g,rfl⟩
 rw [hg] at h ⊢
 simp only [Option.bind_some] at h ⊢
 have hlt:g < w.heap.size:=by
  rcases Nat.lt_or_ge g w.heap.size with h' | h'
  ·exact h'
  ·rw [Array.getElem?_eq_none h'] at h;cases h
 rw [hb.block g hlt]
 exact h
theorem ziS {w:World}(ht:Tab w)(z:Int):ItoaOk w z:=fun W k hb hk _=>by
 refine(Go.Proofs.Tryz.strconv_Itoa k (by omega) (by omega) W (ht.below hb)).mono ?_
 rintro e w' ⟨rfl,n,os,rfl⟩
 refine⟨by rw [Lib.itoa_nonneg],rfl,rfl,rfl,by simp [Go.Sort.grow],fun j hj=>?_⟩
 simp [Go.Sort.grow,Array.getElem?_append,hj]
theorem zkB (w:World)(va:Value)(z:Int)(n:Nat)(ht:Tab w)(ha:NumL w va z n)(hn:n≤900000)(hz:z≠0):
  Calls Tryz.prog 46 #[va] w fun e w'=>TextPost w z e w':=zkC w va z n ha hn hz (ziS ht z)
end Go.Proofs.YtnkcjkpkphjecaaGreatDoor
/- The text of any number, nought too. -/
namespace Go.Proofs.YtnkcjkpkphjecaaGreatDoor
open Go.RowKit Limbs
theorem zk1:txt 0=[48]:=by
 unfold txt Lib.itoa
 rw [if_neg (by decide),show(0:Int).toNat=0 from rfl,Lib.decDigits,dif_pos (by decide)]
 rfl
set_option maxRecDepth 100000 in
set_option maxHeartbeats 1600000 in
theorem zkE (w:World)(va:Value)(n:Nat)(ha:NumL w va 0 n):
  Calls Tryz.prog 46 #[va] w fun e w'=>TextPost w 0 e w':=by
 have HA:=hide ha
 obtain⟨⟨an,ao,al,ac⟩,rfl⟩:=ha.nm
 dsimp only at *
 clear ha
 have hb0:Box (w.alloc (.cells #[.bool an,.slice ao al ac] 42)) w.heap.size (.bool an) (.slice ao al ac):=zg w _ _ _ _ rfl
 have HW:Hid (Below w.heap.size w (w.alloc (.cells #[.bool an,.slice ao al ac] 42))):=(Below.refl _ _).alloc zL _
 obtain⟨k0,k1,-,-⟩:=hb0
 go_enter Tryz.func46,Tryz.ntmps46
 go_wp2_with fail
 refine(zap _ _ 0 n (HA.out.below HW.out zL)).mono ?_
 rintro e w1 ⟨rfl,hb⟩
 rw [decide_eq_true rfl]
 have HF:Hid (TextPost w 0 (.returned (.string ⟨#[48]⟩)) w1):=⟨by rw [zk1],HW.out.trans (hb.mono HW.out.size)⟩
 clear hb
 go_wp2
 go_ret
 exact HF.out
theorem zkA (w:World)(va:Value)(z:Int)(n:Nat)(ht:Tab w)(ha:NumL w va z n)(hn:n≤900000):
  Calls Tryz.prog 46 #[va] w fun e w'=>TextPost w z e w':=by
 by_cases hz:z=0
 ·subst hz;exact zkE w va n ha
 ·exact zkB w va z n ht ha hn hz
end Go.Proofs.YtnkcjkpkphjecaaGreatDoor
/- strings.Join, Count, Split, laid at this translation. -/
namespace Go.Proofs
open Go.Shelf Go.RowKit
def Tryz.lays156_ren:Go.Shelf.Ren:=⟨fun | 156=>47 | 165=>86 | 166=>83 | 169=>85 | 240=>106 | 241=>108 | 276=>118 | 277=>120 | n=>n,fun | 31=>102 | 9=>9 | 3=>3 | 4=>4 | 0=>0 | 20=>20 | 72=>138 | 76=>140 | 70=>135 | 37=>136 | 75=>37 | 127=>158 | 164=>167 | 5=>5 | 80=>143 | n=>n,fun | n=>n⟩
theorem Tryz.lays156:Go.Proofs.Lays.n156 Tryz.prog Tryz.lays156_ren:={
 mixed:=by kernel_rfl
 f156:=Tryz.func47.trans (congrArg some (by kernel_rfl))
 f165:=Tryz.func86.trans (congrArg some (by kernel_rfl))
 f166:=Tryz.func83.trans (congrArg some (by kernel_rfl))
 f169:=Tryz.func85.trans (congrArg some (by kernel_rfl))
 f240:=Tryz.func106.trans (congrArg some (by kernel_rfl))
 f241:=Tryz.func108.trans (congrArg some (by kernel_rfl))
 f276:=Tryz.func118.trans (congrArg some (by kernel_rfl))
 f277:=Tryz.func120.trans (congrArg some (by kernel_rfl))
 t0:=Tryz.underlying0
 a0:=Tryz.isAgg0
 z0:=Tryz.sizeOf0
 v0:=Tryz.zeroValue0
 t3:=Tryz.underlying3
 a3:=Tryz.isAgg3
 z3:=Tryz.sizeOf3
 v3:=Tryz.zeroValue3
 t4:=Tryz.underlying4
 a4:=Tryz.isAgg4
 z4:=Tryz.sizeOf4
 v4:=Tryz.zeroValue4
 t9:=Tryz.underlying9
 a9:=Tryz.isAgg9
 z9:=Tryz.sizeOf9
 v9:=Tryz.zeroValue9
 t20:=Tryz.underlying20
 a20:=Tryz.isAgg20
 z20:=Tryz.sizeOf20
 v20:=Tryz.zeroValue20
 t31:=Tryz.underlying102
 a31:=Tryz.isAgg102
 z31:=Tryz.sizeOf102
 v31:=Tryz.zeroValue102
 t37:=Tryz.underlying136
 a37:=Tryz.isAgg136
 z37:=Tryz.sizeOf136
 v37:=Tryz.zeroValue136
 t70:=Tryz.underlying135
 a70:=Tryz.isAgg135
 z70:=Tryz.sizeOf135
 v70:=Tryz.zeroValue135
 t72:=Tryz.underlying138
 a72:=Tryz.isAgg138
 z72:=Tryz.sizeOf138
 v72:=Tryz.zeroValue138
 t75:=Tryz.underlying37
 a75:=Tryz.isAgg37
 z75:=Tryz.sizeOf37
 v75:=Tryz.zeroValue37
 t76:=Tryz.underlying140
 a76:=Tryz.isAgg140
 z76:=Tryz.sizeOf140
 v76:=Tryz.zeroValue140
 t127:=Tryz.underlying158
 a127:=Tryz.isAgg158
 z127:=Tryz.sizeOf158
 v127:=Tryz.zeroValue158
 t164:=Tryz.underlying167
 a164:=Tryz.isAgg167
 z164:=Tryz.sizeOf167
 v164:=Tryz.zeroValue167 }
theorem Tryz.Builder_Extra_156:Builder.Extra Tryz.prog Tryz.lays156_ren:={
 sizeBuilder:=by kernel_rfl
 liesBuilder:=by kernel_rfl
 t5:=Tryz.underlying5
 a5:=Tryz.isAgg5
 z5:=Tryz.sizeOf5
 v5:=Tryz.zeroValue5
 infoByte:=by kernel_rfl
 cellsByte:=by kernel_rfl
 sizeByte:=by kernel_rfl
 neB5:=by decide }
open Go.RowKit in
theorem Tryz.strings_Join (bk o c:Nat)(xs:List ByteArray)(sep:ByteArray)(w:World)(hcells:∀(j:Nat) x,xs[j]?=some x→w.cell? ⟨bk,o+j,none⟩=some (.string x))(hbk:bk < w.heap.size)(hN:xs.length≤140737488355328)(hcap:xs.length≤c)(hlen:(Lib.join (xs.map (·.data.toList)) sep.data.toList).length≤140737488355328):
  Calls Tryz.prog 47 #[.slice (some ⟨bk,o,none⟩) xs.length c,.string sep] w fun e w'=>e=.returned (.string ⟨(Lib.join (xs.map (·.data.toList)) sep.data.toList).toArray⟩)∧Below w.heap.size w w':=Any.strings_Join Tryz.lays156 Tryz.Builder_Extra_156 bk o c xs sep w hcells hbk hN hcap hlen
end Go.Proofs
/- Texts put together with one byte between, and cut at it again. No Go in it. -/
namespace Go.Proofs.YtnkcjkpkphjecaaGreatDoor
open Go
end Go.Proofs.YtnkcjkpkphjecaaGreatDoor
/- A vector's text. -/
namespace Go.Proofs.YtnkcjkpkphjecaaGreatDoor
open Go.RowKit Limbs
theorem Tryz.infoStr:(Tryz.prog.info? 9).map (fun i=>(i.zero,i.size,i.bytes))=some (some (.string ByteArray.empty),1,16):=by kernel_rfl
theorem zj3 (m:Nat)(hm:m≤1000)(W:World):(Instr.makeSlice 102 (.int .i64 (m:Int)) (.int .i64 (m:Int))).run Tryz.prog W=.ok (.slice (some ⟨W.heap.size,0,none⟩) m m) (W.alloc (.cells (Lib.cellsOf [] m) 9)):=by
 obtain⟨i0,hi,hz0,hz1,hz2⟩:=info_parts Tryz.infoStr
 have h:=run_make (P:=Tryz.prog) W 102 9 i0 (.string ByteArray.empty) (by kernel_rfl) hi hz0 .i64 .i64 m m (by omega) (by omega) (by rw [hz2];omega) (by omega)
 rw [hz1,Int.toNat_natCast,Nat.mul_one] at h
 rw [Lib.cellsOf_nil]
 exact h
def vtxt (zs:List Int):List UInt8:=40 :: (Lib.join (zs.map txt) [32] ++ [41])
def btxt (z:Int):ByteArray:=⟨(txt z).toArray⟩
theorem zey (zs:List Int):(zs.map btxt).map (·.data.toList)=zs.map txt:=by
 rw [List.map_map]
 apply List.map_congr_left
 intro z _
 simp [btxt]
def TxInv (w wr:World)(P:Nat)(zs:List Int)(k:Nat):Prop:=
 wr.heap[P]?=some (.cells (Lib.cellsOf ((zs.take k).map btxt) zs.length) 9)∧Below w.heap.size w wr
theorem TxInv.store {w wr:World}{P:Nat}{zs:List Int}{k:Nat}(h:TxInv w wr P zs k)(hP:w.heap.size≤P)(hk:k < zs.length):TxInv w (wr.setCell ⟨P,k,none⟩ (.string (btxt (zs.getD k 0)))) P zs (k+1):=by
 obtain⟨h1,h2⟩:=h
 have hl:((zs.take k).map btxt).length=k:=by rw [List.length_map,List.length_take];omega
 have hs:=heap_setCell_same wr P k _ _ (.string (btxt (zs.getD k 0))) h1
 refine⟨?_,h2.setCell (by exact hP) _⟩
 have e:(Lib.cellsOf ((zs.take k).map btxt) zs.length).setIfInBounds k (.string (btxt (zs.getD k 0)))=Lib.cellsOf ((zs.take (k+1)).map btxt) zs.length:=by
  have:=Lib.cellsOf_set (done:=(zs.take k).map btxt) (N:=zs.length) (by omega) (btxt (zs.getD k 0))
  rw [hl] at this
  rw [this,List.take_succ_eq_append_getElem hk,List.map_append]
  simp [List.getD_eq_getElem?_getD,hk]
 rw [← e]
 exact hs
theorem TxInv.full {w wr:World}{P:Nat}{zs:List Int}(h:TxInv w wr P zs zs.length):∀(j:Nat) x,(zs.map btxt)[j]?=some x→wr.cell? ⟨P,0+j,none⟩=some (.string x):=fun j x hx=>by
 have h1:=h.1
 rw [List.take_length] at h1
 have:=World.news_of_block h1 j (.string x) (by
  unfold Lib.cellsOf
  rw [List.toList_toArray,List.getElem?_append_left (by rw [List.length_map];exact(List.getElem?_eq_some_iff.1 hx).1),List.getElem?_map,hx]
  rfl)
 have e:(⟨P,0,none⟩:Addr).add j=⟨P,0+j,none⟩:=by unfold Addr.add;split <;> simp_all
 rwa [e] at this
theorem joined (l:List UInt8):(⟨#[40]⟩:ByteArray) ++⟨l.toArray⟩ ++⟨#[41]⟩=⟨(40 :: (l ++ [41])).toArray⟩:=by
 apply ByteArray.ext
 simp
set_option maxRecDepth 100000 in
set_option maxHeartbeats 1600000 in
theorem zec (w:World)(v:Value)(zs:List Int)(n:Nat)(ht:Tab w)(hv:VecN w v zs n)(hn:n≤900000)(h0:0 < zs.length)(h8:zs.length≤8)(hlen:(Lib.join (zs.map txt) [32]).length≤100000):
  Calls Tryz.prog 26 #[v] w fun e w'=>e=.returned (.string ⟨(vtxt zs).toArray⟩)∧Below w.heap.size w w':=by
 have HV:=hide hv;have HT:=hide ht
 obtain⟨vb,voff,vcap,rfl⟩:=hv.form h0
 clear hv ht
 have hmk:=zj3 zs.length (by omega)
 have HI:Hid (TxInv w (w.alloc (.cells (Lib.cellsOf [] zs.length) 9)) w.heap.size zs 0):=⟨heap_alloc_new w _,(Below.refl _ _).alloc zL _⟩
 go_enter Tryz.func26,Tryz.ntmps26
 go_wp2
 clear hmk
 go_loopw [10] (fun i wr=>∃ k:Nat,k≤zs.length∧i=.int .i64 k∧TxInv w wr w.heap.size zs k) (fun i _=>zs.length - (intOf i).toNat)
 case atStart=>exact⟨0,Nat.zero_le _,rfl,HI.out⟩
 case round=>
  clear HI
  obtain⟨k,hk,rfl,hinv⟩:=hrel
  have HI:=hide hinv
  clear hinv
  by_cases hkl:k < zs.length
  ·obtain⟨la,an,ao,al,ac,a0,a1,na⟩:=(HV.out.below HI.out.2 zL).at k hkl
   have NA:=hide na
   have HST:=hide (fun(W:World) (h:TxInv w W w.heap.size zs k)=>h.store zL hkl)
   clear na
   have HBT:=hide (show btxt (zs.getD k 0)=⟨(txt (zs.getD k 0)).toArray⟩ from rfl)
   generalize zs.getD k 0=z at *
   go_wp2_with fail
   refine(zkA wr _ z n (HT.out.below HI.out.2) NA.out hn).mono ?_
   rintro e w1 ⟨rfl,hb⟩
   have HI1:=hide (show TxInv w w1 w.heap.size zs k from⟨(hb.block _ (zn HI.out.1)).trans HI.out.1,HI.out.2.trans (hb.mono HI.out.2.size)⟩)
   have hll:((zs.take k).map btxt).length=k:=by rw [List.length_map,List.length_take];omega
   have hcell:w1.cell? ⟨w.heap.size,k,none⟩=some (.string ByteArray.empty):=by
    have h:=Lib.cellsOf_next (done:=(zs.take k).map btxt) (N:=zs.length) (by omega)
    rw [hll] at h
    have:=World.news_of_block HI1.out.1 k (.string ByteArray.empty) (by rw [← h];simp)
    have e:(⟨w.heap.size,0,none⟩:Addr).add k=⟨w.heap.size,k,none⟩:=by unfold Addr.add;split <;> simp_all
    rwa [e] at this
   have hfr:w1.frozen? ⟨w.heap.size,k,none⟩=false:=by
    have h:=HI1.out.1
    simp [World.frozen?,h]
   have HN:=hide (HST.out w1 HI1.out)
   rw [HBT.out] at HN
   clear hb HST HI HI1 HBT hll a0 a1
   go_wp2
   go_roundw
   case rel=>exact⟨k+1,by omega,by go_num,HN.out⟩
   case measure=>simp [intOf];omega
  ·obtain rfl:k=zs.length:=by omega
   have HJ:=hide (Go.Proofs.Tryz.strings_Join w.heap.size 0 zs.length (zs.map btxt) ⟨#[32]⟩ wr HI.out.full (zn HI.out.1) (by rw [List.length_map];omega) (by rw [List.length_map];exact Nat.le_refl _) (by rw [zey];show(Lib.join _ [32]).length≤_;omega))
   rw [List.length_map,zey] at HJ
   have HBE:=hide HI.out.2
   clear HI
   go_wp2_with fail
   refine HJ.out.mono ?_
   rintro e w1 ⟨rfl,hb⟩
   have HF:=hide (show Below w.heap.size w w1 from HBE.out.trans (hb.mono HBE.out.size))
   have e1:(Lib.join (zs.map txt) (⟨#[32]⟩:ByteArray).data.toList)=Lib.join (zs.map txt) [32]:=rfl
   rw [e1]
   have HVT:=hide (show vtxt zs=40 :: (Lib.join (zs.map txt) [32] ++ [41]) from rfl)
   have hsz:(⟨(Lib.join (zs.map txt) [32]).toArray⟩:ByteArray).size≤100000:=by show(Lib.join (zs.map txt) [32]).toArray.size≤_;simpa using hlen
   clear hb HJ HBE e1
   generalize Lib.join (zs.map txt) [32]=l at *
   have hsz2:((⟨#[40]⟩:ByteArray) ++⟨l.toArray⟩).size≤100001:=by rw [ByteArray.size_append];show 1+_≤_;omega
   go_wp2
   go_ret
   rw [joined,← HVT.out]
   exact⟨rfl,HF.out⟩
end Go.Proofs.YtnkcjkpkphjecaaGreatDoor
/- A closed fact of lattices. -/
namespace Go.Proofs.YtnkcjkpkphjecaaGreatDoor
open Go.RowKit Limbs Digs
theorem zcU:txt 2=[50]:=by
 unfold txt Lib.itoa
 rw [if_neg (by decide),show(2:Int).toNat=2 from rfl,Lib.decDigits,dif_pos (by decide)]
 rfl
theorem zcV:txt 4=[52]:=by
 unfold txt Lib.itoa
 rw [if_neg (by decide),show(4:Int).toNat=4 from rfl,Lib.decDigits,dif_pos (by decide)]
 rfl
theorem text24:vtxt [2,4]=[40,50,32,52,41]:=by
 unfold vtxt
 rw [List.map_cons,List.map_cons,List.map_nil,zcU,zcV]
 rfl
theorem zjT {hs:List (List Int)}{p:Nat→Nat}(h:FormL 2 hs p)(ha:Alikes 2 (InL hs) (InL ([] ++ [[2,4]]))):hs=[[2,4]]:=by
 refine zcq h (p':=fun _=>0) ⟨fun r hr=>?_,⟨fun i k hik hk=>?_,fun i _=>by decide,fun i b hi hb=>by omega,fun i hi=>?_,fun i k hik hk=>?_⟩⟩ ha
 ·rw [List.mem_singleton] at hr;rw [hr];rfl
 ·simp only [List.length_singleton] at hk;omega
 ·simp only [List.length_singleton] at hi
  obtain rfl:i=0:=by omega
  decide
 ·simp only [List.length_singleton] at hk;omega
set_option linter.unusedSimpArgs false in
set_option maxRecDepth 100000 in
set_option maxHeartbeats 4000000 in
theorem zf4 (w:World)(ht:Tab w):Calls Tryz.prog 6 #[] w fun e w'=>e=.returned (.bool true)∧Below w.heap.size w w':=by
 have HT:=hide ht
 clear ht
 go_enter Tryz.func6,Tryz.ntmps6
 go_wp2_with fail
 refine(zfC w 2 6 (by decide) (by decide)).mono ?_
 rintro e w1 ⟨rfl,-,hb1⟩
 have HBX:=hide (zg w1 (.int .i64 2) (.slice none 0 0) 29 _ rfl)
 have HBE:=hide (hb1.trans (((Below.refl w1.heap.size w1).alloc zL (.cells #[.int .i64 2,.slice none 0 0] 29)).mono hb1.size))
 have HLE:=hide hb1.size
 have HL1:Hid (w1.heap.size < (w1.alloc (.cells #[.int .i64 2,.slice none 0 0] 29)).heap.size):=by show _ < _;simp
 obtain⟨c0,c1,z0,z1⟩:=HBX.out
 clear hb1
 go_wp2_with fail
 generalize w1.alloc (.cells #[.int .i64 2,.slice none 0 0] 29)=W1 at *
 have HBL:=hide ((Below.refl W1.heap.size W1).alloc zL (.cells #[.int .i64 2,.int .i64 4] 3))
 have d0:=(HBL.out.cell (p:=⟨w1.heap.size,0,none⟩) HL1.out).trans c0
 have d1:=(HBL.out.cell (p:=⟨w1.heap.size,1,none⟩) HL1.out).trans c1
 have HRS:Hid (RowS (W1.alloc (.cells #[.int .i64 2,.int .i64 4] 3)) (.slice (some ⟨W1.heap.size,0,none⟩) 2 2) [2,4]):=by
  refine⟨_,_,rfl,Nat.le_refl _,fun i=>?_,fun _=>⟨_,_,rfl,by simp,fun i hi=>?_⟩⟩
  ·match i with
   | 0=>decide
   | 1=>decide
   | i+2=>simp
  ·match i,hi with
   | 0,_=>rw [World.cell?_alloc_new];rfl
   | 1,_=>rw [World.cell?_alloc_new];rfl
 refine zp (S:=(fun w'=>w'.cell? ⟨w1.heap.size,0,none⟩=some (.int .i64 2)∧w'.cell? ⟨w1.heap.size,1,none⟩=some (.slice none 0 0))) (k:=5) (by kernel_rfl) (by(try dsimp only);go_keep) (fun hHeld=>?_)
 refine zc (v:=?_) 0 15 [3,4,5,6,7,8] rfl rfl (by kernel_rfl) (by kernel_rfl) (by kernel_rfl) (by kernel_rfl) (by kernel_rfl) (fun _ _ _ h=>h) (by rfl) ?_ (by assumption) ?_
 rotate_left
 ·(intro w hSw;(try dsimp only at hSw);go_simp;with_reducible rfl)
 try simp only [zA]
 refine zf 1 (by kernel_rfl) rfl (fun K hK=>?_)
 go_simp
 refine hK.out _ _ (fun _=>by exact⟨d0,d1⟩) ?_
 clear hK K
 try simp only [zA]
 refine zf 2 (by kernel_rfl) rfl (fun K hK=>?_)
 go_simp
 (refine(zcD _ _ [2,4] (by exact HRS.out.below (Below.refl _ _).drew zL) (by decide)).mono ?_;rintro e w3 ⟨P,rfl,ho⟩;have HB3:=hide (show Below W1.heap.size W1 w3 from HBL.out.drew.trans (ho.below.mono (by simp)));have HV3:=hide ho.vec;have e0:=(HB3.out.cell (p:=⟨w1.heap.size,0,none⟩) HL1.out).trans c0;have e1:=(HB3.out.cell (p:=⟨w1.heap.size,1,none⟩) HL1.out).trans c1;clear ho)
 go_wp2_with fail
 refine hK.out _ _ (fun _=>by exact⟨e0,e1⟩) ?_
 clear hK K
 try simp only [zA]
 refine zf 3 (by kernel_rfl) rfl (fun K hK=>?_)
 go_simp
 (refine(zfd _ _ _ 2 2 [] [2,4] (by exact⟨⟨_,rfl,zdI _ _⟩,_,zds _⟩) (by exact HV3.out) rfl (by decide) (by decide) (by decide)).mono ?_;rintro e w4 ⟨v4,hs,rfl,⟨⟨u4,rfl,hu4⟩,p4,hF4⟩,hb4,hA4,hfr4⟩;obtain rfl:=zjT hF4 hA4;have HU4:=hide hu4;have HFR:=hide (hfr4 _ rfl);have HB4:=hide (HB3.out.trans (hb4.mono HB3.out.size));obtain⟨f0,f1,x0,x1⟩:=HBX.out.later HB4.out HL1.out;have HL3:=hide (zT HL1.out HB3.out.size);obtain⟨o4,k4,rfl,-,-⟩:=hu4;clear hb4 hF4 hA4 hfr4)
 go_wp2_with fail
 refine hK.out _ _ (fun _=>by exact⟨f0,f1⟩) ?_
 clear hK K
 try simp only [zA]
 refine zf 4 (by kernel_rfl) rfl (fun K hK=>?_)
 go_simp
 refine hK.out _ _ (fun _=>by exact⟨f0,f1⟩) ?_
 clear hK K
 try simp only [zA]
 refine zcX 5 6 (by kernel_rfl) rfl rfl (fun K hK=>?_) (fun K hK=>?_)
 ·go_simp
  refine hK.out _ _ (fun h=>absurd h (by decide)) ?_
  clear hK K
  try simp only [zA]
  refine zcX 6 7 (by kernel_rfl) rfl rfl (fun K hK=>?_) (fun K hK=>?_)
  ·go_simp
   refine hK.out _ _ (fun h=>absurd h (by decide)) ?_
   clear hK K
   try simp only [zA]
   refine zf 7 (by kernel_rfl) rfl (fun K hK=>?_)
   go_simp
   refine hK.out _ _ (fun h=>absurd h (by decide)) ?_
   clear hK K
   try simp only [zA]
   refine zf 8 (by kernel_rfl) rfl (fun K hK=>?_)
   go_simp
   refine hK.out _ _ (fun h=>absurd h (by decide)) ?_
   clear hK K
   try simp only [zA]
   refine zl (by kernel_rfl) ?_
   have HM:=hide (HU4.out.setVar (.int .i64 2) (.slice o4 1 k4) (fun _=>HFR.out.sep HL3.out) f0 f1)
   obtain⟨g0,g1,-,-⟩:=(HBX.out.later HB4.out HL1.out).write (.int .i64 2) (.slice o4 1 k4)
   have HB5:=hide ((HBE.out.trans (HB4.out.mono HBE.out.size)).setCell (p:=⟨w1.heap.size,0,none⟩) (by exact HLE.out) (.int .i64 2) |>.setCell (p:=⟨w1.heap.size,1,none⟩) (by exact HLE.out) (.slice o4 1 k4))
   clear HU4 HFR HBX HB4 HB3 f0 f1 x0 x1 e0 e1 c0 c1 z0 z1 hHeld
   try rw [show([[2,4]]:List (List Int)).length=1 from rfl]
   generalize ((w4.setCell ⟨w1.heap.size,0,none⟩ (.int .i64 2)).setCell ⟨w1.heap.size,1,none⟩ (.slice o4 1 k4))=W5 at *
   obtain⟨ob,ooff,ocap,e,olt,uv,cv,hv⟩:=HM.out.at 0 (by decide)
   simp only [Value.slice.injEq,true_and] at e
   obtain⟨rfl,rfl⟩:=e
   rw [Nat.add_zero] at cv
   have HTX:Hid (Calls Tryz.prog 26 #[uv] W5 fun e w'=>e=.returned (.string ⟨#[40,50,32,52,41]⟩)∧Below W5.heap.size W5 w'):=by
    have:=zec W5 uv [2,4] _ (HT.out.below HB5.out) hv (by decide) (by decide) (by decide) (by
     rw [List.map_cons,List.map_cons,List.map_nil,zcU,zcV]
     decide)
    rw [text24] at this
    exact this
   obtain⟨vo,vcap,rfl,-,-⟩:=hv
   go_wp2_with fail
   refine HTX.out.mono ?_
   rintro e w6 ⟨rfl,hb6⟩
   have HB6:=hide (HB5.out.trans (hb6.mono HB5.out.size))
   clear hb6 HTX HB5 HM cv g0 g1
   go_wp2
   go_ret
   exact⟨rfl,HB6.out⟩
  ·go_simp
   refine hK.out _ _ (fun h=>absurd h (by decide)) ?_
   clear hK K
   try simp only [zA]
   refine zf 6 (by kernel_rfl) rfl (fun K hK=>?_)
   go_simp
   refine hK.out _ _ (fun h=>absurd h (by decide)) ?_
   clear hK K
   try simp only [zA]
   refine zf 8 (by kernel_rfl) rfl (fun K hK=>?_)
   go_simp
   refine hK.out _ _ (fun h=>absurd h (by decide)) ?_
   clear hK K
   try simp only [zA]
   refine zl (by kernel_rfl) ?_
   have HM:=hide (HU4.out.setVar (.int .i64 2) (.slice o4 1 k4) (fun _=>HFR.out.sep HL3.out) f0 f1)
   obtain⟨g0,g1,-,-⟩:=(HBX.out.later HB4.out HL1.out).write (.int .i64 2) (.slice o4 1 k4)
   have HB5:=hide ((HBE.out.trans (HB4.out.mono HBE.out.size)).setCell (p:=⟨w1.heap.size,0,none⟩) (by exact HLE.out) (.int .i64 2) |>.setCell (p:=⟨w1.heap.size,1,none⟩) (by exact HLE.out) (.slice o4 1 k4))
   clear HU4 HFR HBX HB4 HB3 f0 f1 x0 x1 e0 e1 c0 c1 z0 z1 hHeld
   try rw [show([[2,4]]:List (List Int)).length=1 from rfl]
   generalize ((w4.setCell ⟨w1.heap.size,0,none⟩ (.int .i64 2)).setCell ⟨w1.heap.size,1,none⟩ (.slice o4 1 k4))=W5 at *
   obtain⟨ob,ooff,ocap,e,olt,uv,cv,hv⟩:=HM.out.at 0 (by decide)
   simp only [Value.slice.injEq,true_and] at e
   obtain⟨rfl,rfl⟩:=e
   rw [Nat.add_zero] at cv
   have HTX:Hid (Calls Tryz.prog 26 #[uv] W5 fun e w'=>e=.returned (.string ⟨#[40,50,32,52,41]⟩)∧Below W5.heap.size W5 w'):=by
    have:=zec W5 uv [2,4] _ (HT.out.below HB5.out) hv (by decide) (by decide) (by decide) (by
     rw [List.map_cons,List.map_cons,List.map_nil,zcU,zcV]
     decide)
    rw [text24] at this
    exact this
   obtain⟨vo,vcap,rfl,-,-⟩:=hv
   go_wp2_with fail
   refine HTX.out.mono ?_
   rintro e w6 ⟨rfl,hb6⟩
   have HB6:=hide (HB5.out.trans (hb6.mono HB5.out.size))
   clear hb6 HTX HB5 HM cv g0 g1
   go_wp2
   go_ret
   exact⟨rfl,HB6.out⟩
 ·go_simp
  refine hK.out _ _ (fun h=>absurd h (by decide)) ?_
  clear hK K
  try simp only [zA]
  refine zf 5 (by kernel_rfl) rfl (fun K hK=>?_)
  go_simp
  refine hK.out _ _ (fun h=>absurd h (by decide)) ?_
  clear hK K
  try simp only [zA]
  refine zf 7 (by kernel_rfl) rfl (fun K hK=>?_)
  go_simp
  refine hK.out _ _ (fun h=>absurd h (by decide)) ?_
  clear hK K
  try simp only [zA]
  refine zf 8 (by kernel_rfl) rfl (fun K hK=>?_)
  go_simp
  refine hK.out _ _ (fun h=>absurd h (by decide)) ?_
  clear hK K
  try simp only [zA]
  refine zl (by kernel_rfl) ?_
  have HM:=hide (HU4.out.setVar (.int .i64 2) (.slice o4 1 k4) (fun _=>HFR.out.sep HL3.out) f0 f1)
  obtain⟨g0,g1,-,-⟩:=(HBX.out.later HB4.out HL1.out).write (.int .i64 2) (.slice o4 1 k4)
  have HB5:=hide ((HBE.out.trans (HB4.out.mono HBE.out.size)).setCell (p:=⟨w1.heap.size,0,none⟩) (by exact HLE.out) (.int .i64 2) |>.setCell (p:=⟨w1.heap.size,1,none⟩) (by exact HLE.out) (.slice o4 1 k4))
  clear HU4 HFR HBX HB4 HB3 f0 f1 x0 x1 e0 e1 c0 c1 z0 z1 hHeld
  try rw [show([[2,4]]:List (List Int)).length=1 from rfl]
  generalize ((w4.setCell ⟨w1.heap.size,0,none⟩ (.int .i64 2)).setCell ⟨w1.heap.size,1,none⟩ (.slice o4 1 k4))=W5 at *
  obtain⟨ob,ooff,ocap,e,olt,uv,cv,hv⟩:=HM.out.at 0 (by decide)
  simp only [Value.slice.injEq,true_and] at e
  obtain⟨rfl,rfl⟩:=e
  rw [Nat.add_zero] at cv
  have HTX:Hid (Calls Tryz.prog 26 #[uv] W5 fun e w'=>e=.returned (.string ⟨#[40,50,32,52,41]⟩)∧Below W5.heap.size W5 w'):=by
   have:=zec W5 uv [2,4] _ (HT.out.below HB5.out) hv (by decide) (by decide) (by decide) (by
    rw [List.map_cons,List.map_cons,List.map_nil,zcU,zcV]
    decide)
   rw [text24] at this
   exact this
  obtain⟨vo,vcap,rfl,-,-⟩:=hv
  go_wp2_with fail
  refine HTX.out.mono ?_
  rintro e w6 ⟨rfl,hb6⟩
  have HB6:=hide (HB5.out.trans (hb6.mono HB5.out.size))
  clear hb6 HTX HB5 HM cv g0 g1
  go_wp2
  go_ret
  exact⟨rfl,HB6.out⟩
end Go.Proofs.YtnkcjkpkphjecaaGreatDoor
/- What stands in variables, carried from world to world. -/
namespace Go.Proofs.YtnkcjkpkphjecaaGreatDoor
open Go.RowKit Limbs Digs
structure LatG (W:World)(v:Value)(n:Nat)(hs:List (List Int))(nv:Nat):Prop where
 lat:LatN W v n hs nv
theorem LatG.later {W W':World}{v:Value}{n:Nat}{hs:List (List Int)}{nv:Nat}(h:LatG W v n hs nv)(hb:Below W.heap.size W W'):LatG W' v n hs nv:=⟨h.lat.below hb⟩
theorem MadeGot.later {W W':World}{nI:Int}{rs:List (List Int)}{i:Int}{o:Option Addr}{l c:Nat}{ok:Bool}(h:MadeGot W nI rs i o l c ok)(hb:Below W.heap.size W W'):MadeGot W' nI rs i o l c ok:=h.keep fun _ _ _ _ _ h=>h.below hb
theorem ze4 {nI:Int}{rs:List (List Int)}(h:goodG nI rs=true):(1≤nI∧nI≤4∧rs.length≤8)∧∀ r∈rs,goodRow nI r=true:=by
 unfold goodG at h
 rw [Bool.and_eq_true,decide_eq_true_eq,List.all_eq_true] at h
 exact h
structure VecG (W:World)(v:Value)(zs:List Int)(n:Nat):Prop where
 vec:VecN W v zs n
theorem VecG.later {W W':World}{v:Value}{zs:List Int}{n:Nat}(h:VecG W v zs n)(hb:Below W.heap.size W W'):VecG W' v zs n:=⟨h.vec.below hb zL⟩
end Go.Proofs.YtnkcjkpkphjecaaGreatDoor
/- What the statements about sums and meets want besides. -/
namespace Go.Proofs.YtnkcjkpkphjecaaGreatDoor
open Go.RowKit Limbs
theorem MatN.mono {w:World}{v:Value}{zss:List (List Int)}{n m:Nat}(h:MatN w v zss n)(hm:n≤m):MatN w v zss m:=by
 obtain⟨ao,cap,hv,h1,h2⟩:=h
 refine⟨ao,cap,hv,h1,fun h0=>?_⟩
 obtain⟨b,off,e,hlt,hc⟩:=h2 h0
 refine⟨b,off,e,hlt,fun i zs hi=>?_⟩
 obtain⟨u,cu,hu⟩:=hc i zs hi
 exact⟨u,cu,hu.mono hm⟩
theorem LatN.mono {w:World}{v:Value}{n:Nat}{hs:List (List Int)}{nv m:Nat}(h:LatN w v n hs nv)(hm:nv≤m):LatN w v n hs m:=by
 obtain⟨⟨u,e,hu⟩,hp⟩:=h
 exact⟨⟨u,e,hu.mono hm⟩,hp⟩
theorem zfv (w:World)(v x:Value)(n nv nx:Nat)(hs:List (List Int))(zs:List Int)(hv:LatN w v n hs nv)(hx:VecN w x zs nx)(hz:zs.length=n)(h1:1≤n)(h4:n≤4)(hN:nx+n *(nv+2)≤90000)(b:Bool)(hb:b=true↔Gens n (InL hs) zs):
  Calls Tryz.prog 16 #[v,x] w fun e w'=>∃ u,e=.returned (.tuple #[u,.bool b,.nilIface])∧Below w.heap.size w w':=by
 obtain⟨hv,p,hF⟩:=hv
 refine(zjg w v x n nv nx hs p zs hv hF hx hz h1 h4 hN).mono fun e w' ⟨hbl,hc⟩=>?_
 rcases hc with⟨hg,P,rfl,-⟩ |⟨hg,rfl⟩
 ·obtain rfl:=hb.2 hg
  exact⟨_,rfl,hbl⟩
 ·cases b with
  | false=>exact⟨_,rfl,hbl⟩
  | true=>exact absurd (hb.1 rfl) hg
theorem LatN.sep {w:World}{n:Nat}{hs:List (List Int)}{nv:Nat}{u:Value}(h:LatN w (.agg #[.int .i64 (n:Int),u]) n hs nv){B:Nat}(hB:w.heap.size≤B):0 < hs.length→Sep u (some B):=fun h0 a l c e=>by
 obtain⟨⟨u',e',⟨ao,cap,rfl,-,h2⟩⟩,-⟩:=h
 simp only [Value.agg.injEq,Array.mk.injEq,List.cons.injEq,and_true,true_and] at e'
 obtain⟨b,off,rfl,hlt,-⟩:=h2 h0
 rw [e'] at e
 simp only [Value.slice.injEq,Option.some.injEq] at e
 rw [← e.1]
 simp only [ne_eq,Option.some.injEq]
 omega
theorem LatN.setVar {w:World}{n:Nat}{hs:List (List Int)}{nv B:Nat}{u:Value}{x:Int}{o:Option Addr}{l c:Nat}(h:LatN w (.agg #[.int .i64 (n:Int),u]) n hs nv)(y z:Value)(hsep:0 < hs.length→Sep u (some B))(c0:w.cell? ⟨B,0,none⟩=some (.int .i64 x))(c1:w.cell? ⟨B,1,none⟩=some (.slice o l c)):
  LatN ((w.setCell ⟨B,0,none⟩ y).setCell ⟨B,1,none⟩ z) (.agg #[.int .i64 (n:Int),u]) n hs nv:=by
 obtain⟨⟨u',e',hu⟩,hp⟩:=h
 simp only [Value.agg.injEq,Array.mk.injEq,List.cons.injEq,and_true,true_and] at e'
 subst e'
 exact⟨⟨_,rfl,hu.setVar y z hsep c0 c1⟩,hp⟩
theorem BoxL.other {W:World}{A B:Nat}{u0 u1:Value}(h:BoxL W A u0 u1)(hne:A≠B)(y z:Value):BoxL ((W.setCell ⟨B,0,none⟩ y).setCell ⟨B,1,none⟩ z) A u0 u1:=
 ⟨(h.1.other hne _ _).other hne _ _,by simpa using h.2⟩
theorem BoxL.write {W:World}{B:Nat}{u0 u1:Value}(h:BoxL W B u0 u1)(y z:Value):BoxL ((W.setCell ⟨B,0,none⟩ y).setCell ⟨B,1,none⟩ z) B y z:=
 ⟨h.1.write _ _,by simpa using h.2⟩
end Go.Proofs.YtnkcjkpkphjecaaGreatDoor
/- The rooms of an index. No walk in it. -/
namespace Go.Proofs.YtnkcjkpkphjecaaGreatDoor
open Go.RowKit Limbs Digs
instance (n nv:Nat):Decidable (RoomS n nv):=decidable_of_iff (nbK n (n * nv+2) nv n≤100000∧∀ r,r < n+1→nbK r (r *(n * nv+2)+2) (n * nv+2) r≤100000∧(r < n→nbK r (r *(r *(n * nv+2)+2)+2) (r *(n * nv+2)+2) r≤100000))
 ⟨fun⟨a,b⟩=>⟨a,fun h hh=>b h (by omega)⟩,fun⟨a,b⟩=>⟨a,fun h hh=>b h (by omega)⟩⟩
theorem roomS7:∀ m,1≤m→m≤4→RoomS m (6+1):=fun m _ h=>(by decide:∀ m,m < 5→RoomS m 7) m (by omega)
end Go.Proofs.YtnkcjkpkphjecaaGreatDoor
/- Rows of whole numbers that came in, in a struct: as they read. -/
namespace Go.Proofs.YtnkcjkpkphjecaaGreatDoor
open Go.ChangeShapes Go.WideShapes Go.ChangeAt Go.RowKit Go.Joins Limbs
theorem Tryz.cellsGens:Tryz.prog.cellsOf 24=2:=by kernel_rfl
theorem Tryz.cellsIntS:Tryz.prog.cellsOf 49=1:=by kernel_rfl
theorem Tryz.cellsInt:Tryz.prog.cellsOf 3=1:=by kernel_rfl
set_option maxRecDepth 100000 in
theorem zfM {H:Type}{enc:TypeId × Value→H}{W:World}{n:Nat}{v:Value}{y:DataW H × List MemPlace}
  (h:DataW.trod enc Tryz.prog W 0 (fun _=>true) true n 49 [v]=some y):∃ ks,RowS W v ks:=by
 rcases open_ints Tryz.underlying49 Tryz.underlying3 Tryz.cellsInt h with⟨hcs,_⟩ |⟨x,l,c,zs,hcs,_,hl,hm,hz,_,hcell,hwz⟩
 ·simp only [List.cons.injEq,and_true] at hcs
  subst hcs
  exact⟨[],none,0,rfl,Nat.le_refl _,fun i=>by simp,fun h=>absurd h (by simp)⟩
 ·simp only [List.cons.injEq,and_true] at hcs
  subst hcs
  have hz':zs.length=c:=by simpa using hz
  have hlen:(zs.take l).length=l:=by rw [List.length_take];omega
  refine⟨zs.take l,some x,c,by rw [hlen],by rw [hlen];exact hl,fun i=>?_,fun h0=>?_⟩
  ·by_cases hi:i < (zs.take l).length
   ·rw [List.getD_eq_getElem?_getD,List.getElem?_eq_getElem hi,Option.getD_some]
    have:=hwz _ (List.mem_of_mem_take (List.getElem_mem hi))
    simp [Lit.wf,IntKind.min,IntKind.max,IntKind.signed,IntKind.bits] at this
    rw [List.getElem_take]
    omega
   ·rw [List.getD_eq_getElem?_getD,List.getElem?_eq_none (by omega)]
    simp
  ·obtain⟨blk,off,spot⟩:=x
   rw [hlen] at h0
   have h00:=hcell 0 (by omega)
   have hspot:spot=none:=by simpa [Addr.add] using World.cell?_spot h00
   subst hspot
   refine⟨blk,off,rfl,World.block_lt_of_cell? W _ h00,fun i hi=>?_⟩
   rw [hlen] at hi
   have:=hcell i (by omega)
   rw [zaF zs l i (by omega)]
   by_cases hi0:i=0
   ·subst hi0;simpa [Addr.add] using this
   ·simpa [Addr.add,hi0] using this
set_option maxRecDepth 100000 in
theorem zcF {H:Type}{enc:TypeId × Value→H}{W:World}{r:Reach}{b0:Nat}{v:Value}{d:DataW H}{p:List MemPlace}
  (hv:Value.okWide Tryz.prog W r b0 24 v) (h:DataW.Trod enc Tryz.prog W 0 (fun _=>true) true 24 v d p):
  ∃ nI go gcap rs,v=.agg #[.int .i64 nI,.slice go rs.length gcap]∧RowsS W (.slice go rs.length gcap) rs:=by
 obtain⟨c0,c1,y0,y1,m,rfl,rfl,rfl,hy0,hy1⟩:=open_agg2 Tryz.underlying24 (by kernel_rfl) Tryz.cellsGens hv h
 obtain⟨nI,e0,-,-⟩:=DataW.trod_int Tryz.underlying3 hy0
 simp only [List.cons.injEq,and_true] at e0
 subst e0
 rcases Go.Deep.open_slice1 Tryz.underlying22 Tryz.cellsIntS hy1 with⟨hcs,_⟩ |⟨a,l,c,m,n,V,D,Pl,hcs,_,hl,hm,hmm,_,hc⟩
 ·simp only [List.cons.injEq,and_true] at hcs
  subst hcs
  exact⟨nI,none,0,[],rfl,none,0,rfl,by simp,fun h=>absurd h (by simp)⟩
 ·simp only [List.cons.injEq,and_true] at hcs
  subst hcs
  have hm':l≤m:=by simp at hmm;omega
  have each:∀ i,i < l→∃ ks:List Int,RowS W (V i) ks:=fun i hi=>zfM (hc i (by omega)).2
  obtain⟨q,hq⟩:=Go.Deep.choose_lt each
  have hlen:((List.range l).map q).length=l:=by simp
  refine⟨nI,some a,c,(List.range l).map q,by rw [hlen],some a,c,rfl,by rw [hlen];exact hl,fun h0=>?_⟩
  rw [hlen] at h0
  obtain⟨k0,-⟩:=hc 0 (by omega)
  obtain⟨blk,off,spot⟩:=a
  have hsp:spot=none:=by simpa [Addr.add] using World.cell?_spot k0
  subst hsp
  refine⟨blk,off,rfl,by simpa [Addr.add] using World.block_lt_of_cell? W _ k0,fun i rs hi=>?_⟩
  obtain⟨hi',e⟩:=List.getElem?_eq_some_iff.1 hi
  rw [hlen] at hi'
  have e':rs=q i:=by simpa using e.symm
  obtain⟨c0,-⟩:=hc i (by omega)
  rw [Go.WideShapes.add_plain] at c0
  rw [e']
  exact⟨_,c0,hq i hi'⟩
end Go.Proofs.YtnkcjkpkphjecaaGreatDoor
