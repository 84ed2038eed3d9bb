/- strconv.Itoa in general, laid at this translation. -/
import Derived.Shelf.LaysM
import Derived.Shelf.Strconv.Itoa3
import Derived.Test.YtdedolkgcdlmeaaGreatDoorProg
import Derived.Test.YtdedolkgcdlmeaaGreatDoorTextW
import Derived.Test.YtdedolkgcdlmeaaGreatDoorGcdA
import Derived.Shelf.Strings.OnBuilder
import Derived.Shelf.Strings.Count
import Derived.Shelf.Strings.Split
import Derived.Test.YtdedolkgcdlmeaaGreatDoorAddSub
import Derived.Lib.Split
import Derived.Lib.Join
import Derived.Test.YtdedolkgcdlmeaaGreatDoorMats
import Derived.Test.YtdedolkgcdlmeaaGreatDoorOpenV
import Derived.Test.YtdedolkgcdlmeaaGreatDoorMatLt
import Derived.Test.YtdedolkgcdlmeaaGreatDoorFold
import Derived.Test.YtdedolkgcdlmeaaGreatDoorVecW
import Derived.Test.YtdedolkgcdlmeaaGreatDoorRefComb

namespace Go.Proofs
open Go.Shelf Go.RowKit Go.Sort
def Tryz.laysM171_ren : Go.Shelf.Ren := ⟨fun | 171 => 120 | 243 => 139 | 246 => 155 | 283 => 161 | 284 => 162 | 285 => 163 | 286 => 164 | 129 => 166 | 317 => 165 | 318 => 167 | 319 => 168 | 320 => 169 | 337 => 170 | 338 => 171 | n => n, fun | 3 => 3 | 9 => 9 | 2 => 2 | 4 => 4 | 171 => 200 | 0 => 0 | 53 => 140 | 37 => 163 | 5 => 5 | 173 => 203 | 212 => 207 | 51 => 104 | 20 => 20 | 213 => 208 | 46 => 142 | 232 => 210 | 233 => 211 | n => n, fun | 17 => 2 | 18 => 3 | 19 => 4 | n => n⟩
theorem Tryz.laysM171 : Go.Proofs.LaysM.n171 Tryz.prog Tryz.laysM171_ren := {
 mixed := by kernel_rfl
 f129 := Tryz.func166.trans (congrArg some (by kernel_rfl))
 f171 := Tryz.func120.trans (congrArg some (by kernel_rfl))
 f243 := Tryz.func139.trans (congrArg some (by kernel_rfl))
 f246 := Tryz.func155.trans (congrArg some (by kernel_rfl))
 f283 := Tryz.func161.trans (congrArg some (by kernel_rfl))
 f284 := Tryz.func162.trans (congrArg some (by kernel_rfl))
 f285 := Tryz.func163.trans (congrArg some (by kernel_rfl))
 f286 := Tryz.func164.trans (congrArg some (by kernel_rfl))
 f317 := Tryz.func165.trans (congrArg some (by kernel_rfl))
 f318 := Tryz.func167.trans (congrArg some (by kernel_rfl))
 f319 := Tryz.func168.trans (congrArg some (by kernel_rfl))
 f320 := Tryz.func169.trans (congrArg some (by kernel_rfl))
 f337 := Tryz.func170.trans (congrArg some (by kernel_rfl))
 f338 := Tryz.func171.trans (congrArg some (by kernel_rfl))
 t0 := Tryz.underlying0
 a0 := Tryz.isAgg0
 z0 := Tryz.sizeOf0
 v0 := Tryz.zeroValue0
 t2 := Tryz.underlying2
 a2 := Tryz.isAgg2
 z2 := Tryz.sizeOf2
 v2 := Tryz.zeroValue2
 t3 := Tryz.underlying3
 a3 := Tryz.isAgg3
 z3 := Tryz.sizeOf3
 v3 := Tryz.zeroValue3
 t4 := Tryz.underlying4
 a4 := Tryz.isAgg4
 z4 := Tryz.sizeOf4
 v4 := Tryz.zeroValue4
 t5 := Tryz.underlying5
 a5 := Tryz.isAgg5
 z5 := Tryz.sizeOf5
 v5 := Tryz.zeroValue5
 t9 := Tryz.underlying9
 a9 := Tryz.isAgg9
 z9 := Tryz.sizeOf9
 v9 := Tryz.zeroValue9
 t20 := Tryz.underlying20
 a20 := Tryz.isAgg20
 z20 := Tryz.sizeOf20
 v20 := Tryz.zeroValue20
 t37 := Tryz.underlying163
 a37 := Tryz.isAgg163
 z37 := Tryz.sizeOf163
 v37 := Tryz.zeroValue163
 t46 := Tryz.underlying142
 a46 := Tryz.isAgg142
 z46 := Tryz.sizeOf142
 v46 := Tryz.zeroValue142
 t51 := Tryz.underlying104
 a51 := Tryz.isAgg104
 z51 := Tryz.sizeOf104
 v51 := Tryz.zeroValue104
 t53 := Tryz.underlying140
 a53 := Tryz.isAgg140
 z53 := Tryz.sizeOf140
 v53 := Tryz.zeroValue140
 t171 := Tryz.underlying200
 a171 := Tryz.isAgg200
 z171 := Tryz.sizeOf200
 v171 := Tryz.zeroValue200
 t173 := Tryz.underlying203
 a173 := Tryz.isAgg203
 z173 := Tryz.sizeOf203
 v173 := Tryz.zeroValue203
 t212 := Tryz.underlying207
 a212 := Tryz.isAgg207
 z212 := Tryz.sizeOf207
 v212 := Tryz.zeroValue207
 t213 := Tryz.underlying208
 a213 := Tryz.isAgg208
 z213 := Tryz.sizeOf208
 t232 := Tryz.underlying210
 a232 := Tryz.isAgg210
 z232 := Tryz.sizeOf210
 v232 := Tryz.zeroValue210
 t233 := Tryz.underlying211
 a233 := Tryz.isAgg211
 z233 := Tryz.sizeOf211
 v233 := Tryz.zeroValue211
 g17 := by kernel_rfl
 g18 := by kernel_rfl
 g19 := by kernel_rfl
 i0 := by kernel_rfl
 i2 := by kernel_rfl
 i3 := by kernel_rfl
 i4 := by kernel_rfl
 i5 := by kernel_rfl
 i9 := by kernel_rfl
 i20 := by kernel_rfl
 i37 := by kernel_rfl
 i46 := by kernel_rfl
 i51 := by kernel_rfl
 i53 := by kernel_rfl
 i171 := by kernel_rfl
 i173 := by kernel_rfl
 i212 := by kernel_rfl
 i232 := by kernel_rfl
 i233 := by kernel_rfl
 m17 := by kernel_rfl
 m18 := by kernel_rfl
 m19 := by kernel_rfl }
open Go.RowKit Go.Sort Go.Lib in
theorem Tryz.strconv_Itoa (n : Int) (h0 : -9223372036854775808 ≤ n) (h1 : n ≤ 9223372036854775807) (w : World) (htab : Lib.TabIs Tryz.prog w "internal/strconv.uint64pow10" .u64 Lib.pow10Tab) :
  Calls Tryz.prog 120 #[.int .i64 n] w fun e w' => e = .returned (.string ⟨(Lib.itoa n).toArray⟩) ∧ ∃ k os, w' = grow (w.drewN k) os := Any.strconv_Itoa Tryz.laysM171 n h0 h1 w htab
end Go.Proofs

/- The text of a number of any size, where the library's table of powers of ten is laid. -/
namespace Go.Proofs.YtdedolkgcdlmeaaGreatDoor
open Go.RowKit Limbs

def Tab (w : World) : Prop := Lib.TabIs Tryz.prog w "internal/strconv.uint64pow10" .u64 Lib.pow10Tab

theorem Tab.below {w w' : World} (h : Tab w) (hb : Below w.heap.size w w') : Tab w' := by
 unfold Tab Lib.TabIs World.var? at h ⊢
 obtain ⟨g, hg⟩ : ∃ g, Tryz.prog.globalNamed "internal/strconv.uint64pow10" = some g := by
  cases hg : Tryz.prog.globalNamed "internal/strconv.uint64pow10" with
  | none => rw [hg] at h; cases h
  | some g => exact ⟨g, rfl⟩
 rw [hg] at h ⊢
 simp only [Option.bind_some] at h ⊢
 have hlt : g < w.heap.size := by
  rcases Nat.lt_or_ge g w.heap.size with h' | h'
  ·exact h'
  ·rw [Array.getElem?_eq_none h'] at h; cases h
 rw [hb.block g hlt]
 exact h

theorem itoa_ok {w : World} (ht : Tab w) (z : Int) : ItoaOk w z := fun W k hb hk _ => by
 refine (Go.Proofs.Tryz.strconv_Itoa k (by omega) (by omega) W (ht.below hb)).mono ?_
 rintro e w' ⟨rfl, n, os, rfl⟩
 refine ⟨by rw [Lib.itoa_nonneg], rfl, rfl, rfl, by simp [Go.Sort.grow], fun j hj => ?_⟩
 simp [Go.Sort.grow, Array.getElem?_append, hj]

theorem text_any (w : World) (va : Value) (z : Int) (n : Nat) (ht : Tab w) (ha : NumL w va z n) (hn : n ≤ 900000) (hz : z ≠ 0) :
  Calls Tryz.prog 92 #[va] w fun e w' => TextPost w z e w' := text_gen w va z n ha hn hz (itoa_ok ht z)

end Go.Proofs.YtdedolkgcdlmeaaGreatDoor

/- The text of any number, nought too. -/
namespace Go.Proofs.YtdedolkgcdlmeaaGreatDoor
open Go.RowKit Limbs

theorem txt_zero : txt 0 = [48] := by
 unfold txt Lib.itoa
 rw [if_neg (by decide), show (0 : Int).toNat = 0 from rfl, Lib.decDigits, dif_pos (by decide)]
 rfl

set_option maxRecDepth 100000 in
set_option maxHeartbeats 1600000 in
theorem text_zero (w : World) (va : Value) (n : Nat) (ha : NumL w va 0 n) :
  Calls Tryz.prog 92 #[va] w fun e w' => TextPost w 0 e w' := by
 have HA := hide ha
 obtain ⟨⟨an, ao, al, ac⟩, rfl⟩ := ha.nm
 dsimp only at *
 clear ha
 have hb0 : Box (w.alloc (.cells #[.bool an, .slice ao al ac] 29)) w.heap.size (.bool an) (.slice ao al ac) := box_new w _ _ _ _ rfl
 have HW : Hid (Below w.heap.size w (w.alloc (.cells #[.bool an, .slice ao al ac] 29))) := (Below.refl _ _).alloc (Nat.le_refl _) _
 obtain ⟨k0, k1, -, -⟩ := hb0
 go_enter Tryz.func92, Tryz.ntmps92
 go_wp2_with fail
 refine (zero_any _ _ 0 n (HA.out.below HW.out (Nat.le_refl _))).mono ?_
 rintro e w1 ⟨rfl, hb⟩
 rw [decide_eq_true rfl]
 have HF : Hid (TextPost w 0 (.returned (.string ⟨#[48]⟩)) w1) := ⟨by rw [txt_zero], HW.out.trans (hb.mono HW.out.size)⟩
 clear hb
 go_wp2
 go_ret
 exact HF.out

theorem text_all (w : World) (va : Value) (z : Int) (n : Nat) (ht : Tab w) (ha : NumL w va z n) (hn : n ≤ 900000) :
  Calls Tryz.prog 92 #[va] w fun e w' => TextPost w z e w' := by
 by_cases hz : z = 0
 ·subst hz; exact text_zero w va n ha
 ·exact text_any w va z n ht ha hn hz

end Go.Proofs.YtdedolkgcdlmeaaGreatDoor

/- strings.Join, Count, Split, laid at this translation. -/
namespace Go.Proofs
open Go.Shelf Go.RowKit
def Tryz.lays156_ren : Go.Shelf.Ren := ⟨fun | 156 => 93 | 165 => 122 | 166 => 119 | 169 => 121 | 240 => 138 | 241 => 140 | 276 => 154 | 277 => 156 | n => n, fun | 31 => 136 | 9 => 9 | 3 => 3 | 4 => 4 | 0 => 0 | 20 => 20 | 72 => 165 | 76 => 167 | 70 => 162 | 37 => 163 | 75 => 31 | 127 => 185 | 164 => 194 | 5 => 5 | 80 => 170 | n => n, fun | n => n⟩
theorem Tryz.lays156 : Go.Proofs.Lays.n156 Tryz.prog Tryz.lays156_ren := {
 mixed := by kernel_rfl
 f156 := Tryz.func93.trans (congrArg some (by kernel_rfl))
 f165 := Tryz.func122.trans (congrArg some (by kernel_rfl))
 f166 := Tryz.func119.trans (congrArg some (by kernel_rfl))
 f169 := Tryz.func121.trans (congrArg some (by kernel_rfl))
 f240 := Tryz.func138.trans (congrArg some (by kernel_rfl))
 f241 := Tryz.func140.trans (congrArg some (by kernel_rfl))
 f276 := Tryz.func154.trans (congrArg some (by kernel_rfl))
 f277 := Tryz.func156.trans (congrArg some (by kernel_rfl))
 t0 := Tryz.underlying0
 a0 := Tryz.isAgg0
 z0 := Tryz.sizeOf0
 v0 := Tryz.zeroValue0
 t3 := Tryz.underlying3
 a3 := Tryz.isAgg3
 z3 := Tryz.sizeOf3
 v3 := Tryz.zeroValue3
 t4 := Tryz.underlying4
 a4 := Tryz.isAgg4
 z4 := Tryz.sizeOf4
 v4 := Tryz.zeroValue4
 t9 := Tryz.underlying9
 a9 := Tryz.isAgg9
 z9 := Tryz.sizeOf9
 v9 := Tryz.zeroValue9
 t20 := Tryz.underlying20
 a20 := Tryz.isAgg20
 z20 := Tryz.sizeOf20
 v20 := Tryz.zeroValue20
 t31 := Tryz.underlying136
 a31 := Tryz.isAgg136
 z31 := Tryz.sizeOf136
 v31 := Tryz.zeroValue136
 t37 := Tryz.underlying163
 a37 := Tryz.isAgg163
 z37 := Tryz.sizeOf163
 v37 := Tryz.zeroValue163
 t70 := Tryz.underlying162
 a70 := Tryz.isAgg162
 z70 := Tryz.sizeOf162
 v70 := Tryz.zeroValue162
 t72 := Tryz.underlying165
 a72 := Tryz.isAgg165
 z72 := Tryz.sizeOf165
 v72 := Tryz.zeroValue165
 t75 := Tryz.underlying31
 a75 := Tryz.isAgg31
 z75 := Tryz.sizeOf31
 v75 := Tryz.zeroValue31
 t76 := Tryz.underlying167
 a76 := Tryz.isAgg167
 z76 := Tryz.sizeOf167
 v76 := Tryz.zeroValue167
 t127 := Tryz.underlying185
 a127 := Tryz.isAgg185
 z127 := Tryz.sizeOf185
 v127 := Tryz.zeroValue185
 t164 := Tryz.underlying194
 a164 := Tryz.isAgg194
 z164 := Tryz.sizeOf194
 v164 := Tryz.zeroValue194 }
theorem Tryz.Builder_Extra_156 : Builder.Extra Tryz.prog Tryz.lays156_ren := {
 sizeBuilder := by kernel_rfl
 liesBuilder := by kernel_rfl
 t5 := Tryz.underlying5
 a5 := Tryz.isAgg5
 z5 := Tryz.sizeOf5
 v5 := Tryz.zeroValue5
 infoByte := by kernel_rfl
 cellsByte := by kernel_rfl
 sizeByte := by kernel_rfl
 neB5 := by decide }
open Go.RowKit in
theorem Tryz.strings_Join (bk o c : Nat) (xs : List ByteArray) (sep : ByteArray) (w : World) (hcells : ∀ (j : Nat) x, xs[j]? = some x → w.cell? ⟨bk, o + j, none⟩ = some (.string x)) (hbk : bk < w.heap.size) (hN : xs.length ≤ 140737488355328) (hcap : xs.length ≤ c) (hlen : (Lib.join (xs.map (·.data.toList)) sep.data.toList).length ≤ 140737488355328) :
  Calls Tryz.prog 93 #[.slice (some ⟨bk, o, none⟩) xs.length c, .string sep] w fun e w' => e = .returned (.string ⟨(Lib.join (xs.map (·.data.toList)) sep.data.toList).toArray⟩) ∧ Below w.heap.size w w' := Any.strings_Join Tryz.lays156 Tryz.Builder_Extra_156 bk o c xs sep w hcells hbk hN hcap hlen
end Go.Proofs

/- Texts put together with one byte between, and cut at it again. No Go in it. -/
namespace Go.Proofs.YtdedolkgcdlmeaaGreatDoor
open Go

end Go.Proofs.YtdedolkgcdlmeaaGreatDoor

/- A vector's text. -/
namespace Go.Proofs.YtdedolkgcdlmeaaGreatDoor
open Go.RowKit Limbs

theorem Tryz.infoStr : (Tryz.prog.info? 9).map (fun i => (i.zero, i.size, i.bytes)) = some (some (.string ByteArray.empty), 1, 16) := by kernel_rfl

theorem run_mkS (m : Nat) (hm : m ≤ 1000) (W : World) : (Instr.makeSlice 136 (.int .i64 (m : Int)) (.int .i64 (m : Int))).run Tryz.prog W = .ok (.slice (some ⟨W.heap.size, 0, none⟩) m m) (W.alloc (.cells (Lib.cellsOf [] m) 9)) := by
 obtain ⟨i0, hi, hz0, hz1, hz2⟩ := info_parts Tryz.infoStr
 have h := run_make (P := Tryz.prog) W 136 9 i0 (.string ByteArray.empty) (by kernel_rfl) hi hz0 .i64 .i64 m m (by omega) (by omega) (by rw [hz2]; omega) (by omega)
 rw [hz1, Int.toNat_natCast, Nat.mul_one] at h
 rw [Lib.cellsOf_nil]
 exact h

def vtxt (zs : List Int) : List UInt8 := 40 :: (Lib.join (zs.map txt) [32] ++ [41])

def btxt (z : Int) : ByteArray := ⟨(txt z).toArray⟩

theorem btxt_data (zs : List Int) : (zs.map btxt).map (·.data.toList) = zs.map txt := by
 rw [List.map_map]
 apply List.map_congr_left
 intro z _
 simp [btxt]

def TxInv (w wr : World) (P : Nat) (zs : List Int) (k : Nat) : Prop :=
 wr.heap[P]? = some (.cells (Lib.cellsOf ((zs.take k).map btxt) zs.length) 9) ∧ Below w.heap.size w wr

theorem TxInv.store {w wr : World} {P : Nat} {zs : List Int} {k : Nat} (h : TxInv w wr P zs k) (hP : w.heap.size ≤ P) (hk : k < zs.length) : TxInv w (wr.setCell ⟨P, k, none⟩ (.string (btxt (zs.getD k 0)))) P zs (k + 1) := by
 obtain ⟨h1, h2⟩ := h
 have hl : ((zs.take k).map btxt).length = k := by rw [List.length_map, List.length_take]; omega
 have hs := heap_setCell_same wr P k _ _ (.string (btxt (zs.getD k 0))) h1
 refine ⟨?_, h2.setCell (by exact hP) _⟩
 have e : (Lib.cellsOf ((zs.take k).map btxt) zs.length).setIfInBounds k (.string (btxt (zs.getD k 0))) = Lib.cellsOf ((zs.take (k + 1)).map btxt) zs.length := by
  have := Lib.cellsOf_set (done := (zs.take k).map btxt) (N := zs.length) (by omega) (btxt (zs.getD k 0))
  rw [hl] at this
  rw [this, List.take_succ_eq_append_getElem hk, List.map_append]
  simp [List.getD_eq_getElem?_getD, hk]
 rw [← e]
 exact hs

theorem TxInv.full {w wr : World} {P : Nat} {zs : List Int} (h : TxInv w wr P zs zs.length) : ∀ (j : Nat) x, (zs.map btxt)[j]? = some x → wr.cell? ⟨P, 0 + j, none⟩ = some (.string x) := fun j x hx => by
 have h1 := h.1
 rw [List.take_length] at h1
 have := World.news_of_block h1 j (.string x) (by
  unfold Lib.cellsOf
  rw [List.toList_toArray, List.getElem?_append_left (by rw [List.length_map]; exact (List.getElem?_eq_some_iff.1 hx).1), List.getElem?_map, hx]
  rfl)
 have e : (⟨P, 0, none⟩ : Addr).add j = ⟨P, 0 + j, none⟩ := by unfold Addr.add; split <;> simp_all
 rwa [e] at this

theorem joined (l : List UInt8) : (⟨#[40]⟩ : ByteArray) ++ ⟨l.toArray⟩ ++ ⟨#[41]⟩ = ⟨(40 :: (l ++ [41])).toArray⟩ := by
 apply ByteArray.ext
 simp

set_option maxRecDepth 100000 in
set_option maxHeartbeats 1600000 in
theorem vtext_any (w : World) (v : Value) (zs : List Int) (n : Nat) (ht : Tab w) (hv : VecN w v zs n) (hn : n ≤ 900000) (h0 : 0 < zs.length) (h8 : zs.length ≤ 8) (hlen : (Lib.join (zs.map txt) [32]).length ≤ 100000) :
  Calls Tryz.prog 50 #[v] w fun e w' => e = .returned (.string ⟨(vtxt zs).toArray⟩) ∧ Below w.heap.size w w' := by
 have HV := hide hv; have HT := hide ht
 obtain ⟨vb, voff, vcap, rfl⟩ := hv.form h0
 clear hv ht
 have hmk := run_mkS zs.length (by omega)
 have HI : Hid (TxInv w (w.alloc (.cells (Lib.cellsOf [] zs.length) 9)) w.heap.size zs 0) := ⟨heap_alloc_new w _, (Below.refl _ _).alloc (Nat.le_refl _) _⟩
 go_enter Tryz.func50, Tryz.ntmps50
 go_wp2
 clear hmk
 go_loopw [10] (fun i wr => ∃ k : Nat, k ≤ zs.length ∧ i = .int .i64 k ∧ TxInv w wr w.heap.size zs k) (fun i _ => zs.length - (intOf i).toNat)
 case atStart => exact ⟨0, Nat.zero_le _, rfl, HI.out⟩
 case round =>
  clear HI
  obtain ⟨k, hk, rfl, hinv⟩ := hrel
  have HI := hide hinv
  clear hinv
  by_cases hkl : k < zs.length
  ·obtain ⟨la, an, ao, al, ac, a0, a1, na⟩ := (HV.out.below HI.out.2 (Nat.le_refl _)).at k hkl
   have NA := hide na
   have HST := hide (fun (W : World) (h : TxInv w W w.heap.size zs k) => h.store (Nat.le_refl _) hkl)
   clear na
   have HBT := hide (show btxt (zs.getD k 0) = ⟨(txt (zs.getD k 0)).toArray⟩ from rfl)
   generalize zs.getD k 0 = z at *
   go_wp2_with fail
   refine (text_all wr _ z n (HT.out.below HI.out.2) NA.out hn).mono ?_
   rintro e w1 ⟨rfl, hb⟩
   have HI1 := hide (show TxInv w w1 w.heap.size zs k from ⟨(hb.block _ (heap_lt HI.out.1)).trans HI.out.1, HI.out.2.trans (hb.mono HI.out.2.size)⟩)
   have hll : ((zs.take k).map btxt).length = k := by rw [List.length_map, List.length_take]; omega
   have hcell : w1.cell? ⟨w.heap.size, k, none⟩ = some (.string ByteArray.empty) := by
    have h := Lib.cellsOf_next (done := (zs.take k).map btxt) (N := zs.length) (by omega)
    rw [hll] at h
    have := World.news_of_block HI1.out.1 k (.string ByteArray.empty) (by rw [← h]; simp)
    have e : (⟨w.heap.size, 0, none⟩ : Addr).add k = ⟨w.heap.size, k, none⟩ := by unfold Addr.add; split <;> simp_all
    rwa [e] at this
   have hfr : w1.frozen? ⟨w.heap.size, k, none⟩ = false := by
    have h := HI1.out.1
    simp [World.frozen?, h]
   have HN := hide (HST.out w1 HI1.out)
   rw [HBT.out] at HN
   clear hb HST HI HI1 HBT hll a0 a1
   go_wp2
   go_roundw
   case rel => exact ⟨k + 1, by omega, by go_num, HN.out⟩
   case measure => simp [intOf]; omega
  ·obtain rfl : k = zs.length := by omega
   have HJ := hide (Go.Proofs.Tryz.strings_Join w.heap.size 0 zs.length (zs.map btxt) ⟨#[32]⟩ wr HI.out.full (heap_lt HI.out.1) (by rw [List.length_map]; omega) (by rw [List.length_map]; exact Nat.le_refl _) (by rw [btxt_data]; show (Lib.join _ [32]).length ≤ _; omega))
   rw [List.length_map, btxt_data] at HJ
   have HBE := hide HI.out.2
   clear HI
   go_wp2_with fail
   refine HJ.out.mono ?_
   rintro e w1 ⟨rfl, hb⟩
   have HF := hide (show Below w.heap.size w w1 from HBE.out.trans (hb.mono HBE.out.size))
   have e1 : (Lib.join (zs.map txt) (⟨#[32]⟩ : ByteArray).data.toList) = Lib.join (zs.map txt) [32] := rfl
   rw [e1]
   have HVT := hide (show vtxt zs = 40 :: (Lib.join (zs.map txt) [32] ++ [41]) from rfl)
   have hsz : (⟨(Lib.join (zs.map txt) [32]).toArray⟩ : ByteArray).size ≤ 100000 := by show (Lib.join (zs.map txt) [32]).toArray.size ≤ _; simpa using hlen
   clear hb HJ HBE e1
   generalize Lib.join (zs.map txt) [32] = l at *
   have hsz2 : ((⟨#[40]⟩ : ByteArray) ++ ⟨l.toArray⟩).size ≤ 100001 := by rw [ByteArray.size_append]; show 1 + _ ≤ _; omega
   go_wp2
   go_ret
   rw [joined, ← HVT.out]
   exact ⟨rfl, HF.out⟩

end Go.Proofs.YtdedolkgcdlmeaaGreatDoor

/- Ahead of HermiteSays and KernelSays: closed facts, bounds. -/
namespace Go.Proofs.YtdedolkgcdlmeaaGreatDoor
open Go.RowKit Limbs Digs

theorem bp_dp (k : Nat) : bp k ≤ dp (3 * k) := by
 induction k with
 | zero => exact (by decide : (1 : Int) ≤ 1)
 | succ k ih =>
  have e : 3 * (k + 1) = 3 * k + 3 := by omega
  rw [e]
  show 4294967296 * bp k ≤ dp (3 * k + 3)
  have e2 : dp (3 * k + 3) = 10000 * (10000 * (10000 * dp (3 * k))) := rfl
  rw [e2]
  have := bp_pos k
  omega

theorem RowR.fits {w : World} {v : Value} {zs : List Int} {n m : Nat} (h : RowR w v zs n) (hz : ∀ j, j < zs.length → -dp m < zs.getD j 0 ∧ zs.getD j 0 < dp m) : RowR w v zs m := by
 obtain ⟨ao, cap, hv, h3, h4⟩ := h
 refine ⟨ao, cap, hv, h3, fun h0 => ?_⟩
 obtain ⟨b, cur, fz', e, hh, hc⟩ := h4 h0
 refine ⟨b, cur, fz', e, hh, fun i hi => ?_⟩
 obtain ⟨s, o, l, c', h5, h6, h7⟩ := hc i hi
 exact ⟨s, o, l, c', h5, h6, h7.fits (hz i hi).1 (hz i hi).2⟩

theorem MatR.fits {w : World} {v : Value} {zss : List (List Int)} {n m : Nat} (h : MatR w v zss n) (hz : ∀ zs ∈ zss, ∀ j, j < zs.length → -dp m < zs.getD j 0 ∧ zs.getD j 0 < dp m) : MatR w v zss m := by
 obtain ⟨ao, cap, hv, h3, h4⟩ := h
 refine ⟨ao, cap, hv, h3, fun h0 => ?_⟩
 obtain ⟨b, e, hlt, hc⟩ := h4 h0
 refine ⟨b, e, hlt, fun i zs hi => ?_⟩
 obtain ⟨u, h5, h6⟩ := hc i zs hi
 exact ⟨u, h5, h6.fits (hz zs (List.mem_of_getElem? hi))⟩

theorem MatN.small {w : World} {v : Value} {zss : List (List Int)} {n : Nat} (h : MatN w v zss n) : ∀ zs ∈ zss, ∀ j, j < zs.length → -dp (3 * n) < zs.getD j 0 ∧ zs.getD j 0 < dp (3 * n) := fun zs hzs j hj => by
 obtain ⟨i, hi, e⟩ := List.getElem_of_mem hzs
 obtain ⟨b, off, cap', e1, hlt, u, hc, hu⟩ := h.at i hi
 rw [e] at hu
 obtain ⟨b', off', cap2, e2⟩ := hu.form (by omega)
 subst e2
 obtain ⟨-, neg, o, l, c, -, -, hz⟩ := hu.at j hj
 have h1 := hz.ab_lt
 have h2 := bp_dp n
 unfold ab at h1
 split at h1 <;> omega

theorem closed_two {hs : List (List Int)} {p : Nat → Nat} (h : FormL 2 hs p) (ha : Alikes 2 (InL hs) (InL [[4, 6], [2, 4]])) : hs = [[2, 0], [0, 2]] := by
 refine formL_one h (p' := fun k => k) ⟨fun r hr => ?_, ⟨fun i k hik hk => hik, fun i hi => hi, fun i b hi hb => ?_, fun i hi => ?_, fun i k hik hk => ?_⟩⟩ ?_
 ·simp only [List.mem_cons, List.mem_nil_iff, or_false] at hr
  rcases hr with rfl | rfl <;> rfl
 ·have hi' : i < 2 := hi
  obtain rfl : i = 1 := by omega
  obtain rfl : b = 0 := by omega
  rfl
 ·have hi' : i < 2 := hi
  rcases (by omega : i = 0 ∨ i = 1) with rfl | rfl <;> decide
 ·have hk' : k < 2 := hk
  obtain rfl : i = 0 := by omega
  obtain rfl : k = 1 := by omega
  decide
 ·have g1 : Gens 2 (InL [[2, 0], [0, 2]]) [2, 0] := .base (List.mem_cons_self) rfl
  have g2 : Gens 2 (InL [[2, 0], [0, 2]]) [0, 2] := .base (List.mem_cons_of_mem _ (List.mem_singleton.2 rfl)) rfl
  have k1 : Gens 2 (InL [[4, 6], [2, 4]]) [4, 6] := .base (List.mem_cons_self) rfl
  have k2 : Gens 2 (InL [[4, 6], [2, 4]]) [2, 4] := .base (List.mem_cons_of_mem _ (List.mem_singleton.2 rfl)) rfl
  refine ha.trans (.of (fun v hv _ => ?_) (fun v hv _ => ?_))
  ·have hv' : v = [4, 6] ∨ v = [2, 4] := by simpa [InL] using hv
   rcases hv' with rfl | rfl
   ·exact Gens.comb 2 3 g1 g2
   ·exact Gens.comb 1 2 g1 g2
  ·have hv' : v = [2, 0] ∨ v = [0, 2] := by simpa [InL] using hv
   rcases hv' with rfl | rfl
   ·exact Gens.comb 2 (-3) k1 k2
   ·exact Gens.comb (-1) 2 k1 k2

theorem txt_two : txt 2 = [50] := by
 unfold txt Lib.itoa
 rw [if_neg (by decide), show (2 : Int).toNat = 2 from rfl, Lib.decDigits, dif_pos (by decide)]
 rfl

theorem text20 : vtxt [2, 0] = [40, 50, 32, 48, 41] := by
 unfold vtxt
 rw [List.map_cons, List.map_cons, List.map_nil, txt_zero, txt_two]
 rfl

theorem text02 : vtxt [0, 2] = [40, 48, 32, 50, 41] := by
 unfold vtxt
 rw [List.map_cons, List.map_cons, List.map_nil, txt_zero, txt_two]
 rfl

theorem two_rowsH (w : World) (va vb : Value) (xs ys : List Int) (n : Nat) (ha : VecN w va xs n) (hb : VecN w vb ys n) : MatN (w.alloc (.cells #[va, vb] 72)) (.slice (some ⟨w.heap.size, 0, none⟩) 2 2) [xs, ys] n := by
 have hbA : Below w.heap.size w (w.alloc (.cells #[va, vb] 72)) := (Below.refl _ _).alloc (Nat.le_refl _) _
 refine ⟨_, _, rfl, Nat.le_refl _, fun _ => ⟨_, _, rfl, by simp, fun i zs hi => ?_⟩⟩
 have hlt := (List.getElem?_eq_some_iff.1 hi).1
 match i, hlt with
 | 0, _ =>
  simp only [List.getElem?_cons_zero, Option.some.injEq] at hi
  subst hi
  exact ⟨va, by rw [World.cell?_alloc_new]; rfl, ha.below hbA (Nat.le_refl _)⟩
 | 1, _ =>
  simp only [List.getElem?_cons_succ, List.getElem?_cons_zero, Option.some.injEq] at hi
  subst hi
  exact ⟨vb, by rw [World.cell?_alloc_new]; rfl, hb.below hbA (Nat.le_refl _)⟩

theorem row_two (w : World) (x y : Int) (hx : -1000 ≤ x ∧ x ≤ 1000) (hy : -1000 ≤ y ∧ y ≤ 1000) : RowS (w.alloc (.cells #[.int .i64 x, .int .i64 y] 3)) (.slice (some ⟨w.heap.size, 0, none⟩) 2 2) [x, y] := by
 refine ⟨_, _, rfl, Nat.le_refl _, fun i => ?_, fun _ => ⟨_, _, rfl, by simp, fun i hi => ?_⟩⟩
 ·match i with
  | 0 => simp; omega
  | 1 => simp; omega
  | i + 2 => simp
 ·match i, hi with
  | 0, _ => rw [World.cell?_alloc_new]; rfl
  | 1, _ => rw [World.cell?_alloc_new]; rfl

set_option linter.unusedSimpArgs false in
set_option maxRecDepth 100000 in
set_option maxHeartbeats 3200000 in
theorem mats_any (w : World) (ht : Tab w) : Calls Tryz.prog 9 #[] w fun e w' => e = .returned (.bool true) ∧ Below w.heap.size w w' := by
 have HT := hide ht
 clear ht
 have HO1 := hide (ofV_any _ _ [4, 6] (row_two w 4 6 (by decide) (by decide)) (by decide))
 have HB0 : Hid (Below w.heap.size w (w.alloc (.cells #[.int .i64 4, .int .i64 6] 3))) := (Below.refl _ _).alloc (Nat.le_refl _) _
 go_enter Tryz.func9, Tryz.ntmps9
 go_wp2_with fail
 refine HO1.out.mono ?_
 rintro e w1 ⟨P1, rfl, ho1⟩
 have HV1 := hide ho1.vec
 have HB1 := hide (HB0.out.trans (ho1.below.mono (by simp)))
 rw [show ([4, 6] : List Int).length = 2 from rfl]
 have HO2 := hide (ofV_any _ _ [2, 4] (row_two w1 2 4 (by decide) (by decide)) (by decide))
 have HB1a : Hid (Below w1.heap.size w1 (w1.alloc (.cells #[.int .i64 2, .int .i64 4] 3))) := (Below.refl _ _).alloc (Nat.le_refl _) _
 clear ho1 HO1 HB0
 go_wp2_with fail
 refine HO2.out.mono ?_
 rintro e w2 ⟨P2, rfl, ho2⟩
 have hb12 := HB1a.out.trans (ho2.below.mono (by simp))
 have HV2 := hide ho2.vec
 have HV1' := hide (HV1.out.below hb12 (Nat.le_refl _))
 have HB2 := hide (HB1.out.trans (hb12.mono HB1.out.size))
 rw [show ([2, 4] : List Int).length = 2 from rfl]
 have HM2 := hide (two_rowsH w2 _ _ [4, 6] [2, 4] 2 HV1'.out HV2.out)
 have HHE : Hid (Calls Tryz.prog 48 #[.slice (some ⟨w2.heap.size, 0, none⟩) 2 2, .int .i64 2] (w2.alloc (.cells #[.slice (some ⟨P1, 0, none⟩) 2 2, .slice (some ⟨P2, 0, none⟩) 2 2] 72)) fun e w' => HermPost (w2.alloc (.cells #[.slice (some ⟨P1, 0, none⟩) 2 2, .slice (some ⟨P2, 0, none⟩) 2 2] 72)) 2 2 [[4, 6], [2, 4]] e w') :=
  hermite_any _ _ [[4, 6], [2, 4]] 2 2 HM2.out (fun us h => by simp only [List.mem_cons, List.mem_nil_iff, or_false] at h; rcases h with rfl | rfl <;> rfl) (by decide) (by decide) (by decide) (by decide)
 have HB2a : Hid (Below w2.heap.size w2 (w2.alloc (.cells #[.slice (some ⟨P1, 0, none⟩) 2 2, .slice (some ⟨P2, 0, none⟩) 2 2] 72))) := (Below.refl _ _).alloc (Nat.le_refl _) _
 clear ho2 hb12 HV2 HV1 HV1' HO2 HM2 HB1 HB1a
 go_wp2_with fail
 refine HHE.out.mono ?_
 rintro e w3 ⟨u3, hs, p, rfl, h1, h2, h3, h4, h5⟩
 obtain rfl := closed_two h4 h5
 have hb3 : Below w2.heap.size w2 w3 := HB2a.out.trans (h3.mono (by simp))
 have HB3 := hide (HB2.out.trans (hb3.mono HB2.out.size))
 obtain ⟨ob, ooff, ocap, rfl, olt, uv, cv, hv⟩ := h1.at 0 (by decide)
 obtain ⟨_, _, _, e, -, uv', cv', hv'⟩ := h1.at 1 (by decide)
 simp only [Value.slice.injEq, Option.some.injEq, Addr.mk.injEq, and_true, true_and] at e
 obtain ⟨⟨rfl, rfl⟩, rfl⟩ := e
 have HTX : Hid (Calls Tryz.prog 50 #[uv] w3 fun e w' => e = .returned (.string ⟨#[40, 50, 32, 48, 41]⟩) ∧ Below w3.heap.size w3 w') := by
  have := vtext_any w3 uv [2, 0] _ (HT.out.below HB3.out) hv (by decide) (by decide) (by decide) (by
   rw [List.map_cons, List.map_cons, List.map_nil, txt_zero, txt_two]
   decide)
  rw [text20] at this
  exact this
 have HTY : Hid (∀ w4, Below w3.heap.size w3 w4 → Calls Tryz.prog 50 #[uv'] w4 fun e w' => e = .returned (.string ⟨#[40, 48, 32, 50, 41]⟩) ∧ Below w4.heap.size w4 w') := fun w4 hb => by
  have := vtext_any w4 uv' [0, 2] _ ((HT.out.below HB3.out).below hb) (hv'.below hb (Nat.le_refl _)) (by decide) (by decide) (by decide) (by
   rw [List.map_cons, List.map_cons, List.map_nil, txt_zero, txt_two]
   decide)
  rw [text02] at this
  exact this
 rw [show ([[2, 0], [0, 2]] : List (List Int)).length = 2 from rfl]
 rw [Nat.add_zero] at cv
 obtain ⟨vo, vcap, rfl, -, -⟩ := hv
 obtain ⟨vo', vcap', rfl, -, -⟩ := hv'
 clear h1 h2 h3 h4 h5 HHE hb3 HB2a HB2
 go_wp2_with fail
 refine (same_zero w3).mono ?_
 rintro e w3' ⟨rfl, rfl⟩
 go_wp2_with fail
 refine HTX.out.mono ?_
 rintro e w4 ⟨rfl, hb4⟩
 have cv4 := (hb4.cell (p := ⟨ob, ooff + 1, none⟩) olt).trans cv'
 have HB4 := hide hb4
 have olt4 := Nat.lt_of_lt_of_le olt hb4.size
 clear hb4 cv cv' HTX
 go_wp2_with fail
 refine (HTY.out w4 HB4.out).mono ?_
 rintro e w5 ⟨rfl, hb5⟩
 have HB5 := hide (HB3.out.trans ((HB4.out.trans (hb5.mono HB4.out.size)).mono HB3.out.size))
 clear hb5 HTY
 go_wp2
 go_ret
 exact ⟨rfl, HB5.out⟩

end Go.Proofs.YtdedolkgcdlmeaaGreatDoor

/- Moves of a region that draws its order: what is held is asked behind some operations alone; operations that read no memory are taken first wherever they stand. -/
namespace Go.Proofs.YtdedolkgcdlmeaaGreatDoor
open Go

section
variable {P : Program} {ops : Array Oper} {Q : Exit → Act → World → Prop} {md : Region.Mode} {S : World → Prop} {A : Nat → Bool}

def wpUp (P : Program) (md : Region.Mode) (ops : Array Oper) (Q : Exit → Act → World → Prop) (S : World → Prop) (A : Nat → Bool) : Nat → Array Bool → Act → World → Prop
 | 0 => fun listed a w => Region.ready md ops listed = [] ∧ Q .normal a w
 | fuel + 1 => fun listed a w => (Region.ready md ops listed = [] → Q .normal a w) ∧
   ∀ j, j ∈ Region.ready md ops listed → wpOp P ops Q j (fun a' w' => (A j = true → S w') ∧ wpUp P md ops Q S A fuel (listed.setIfInBounds j true) a' w') a w

theorem any_of_up (fuel : Nat) : ∀ (listed : Array Bool) (a : Act) (w : World), wpUp P md ops Q S A fuel listed a w → wpAny P md ops Q fuel listed a w := by
 induction fuel with
 | zero => exact fun _ _ _ h => h
 | succ fuel ih => exact fun _ _ _ h => ⟨h.1, fun j hj => wpOp_mono (fun a' w' h' => ih _ a' w' h'.2) (h.2 j hj)⟩

def waitsA (md : Region.Mode) (ops : Array Oper) (A : Nat → Bool) (listed : Array Bool) (i : Nat) (ds : List Nat) : Bool :=
 ((List.range ops.size).all fun j => A j || ds.contains j || listed.getD j false) &&
  ds.all fun j => !listed.getD j false && match ops[j]? with
   | some o => o.after.any fun e => Region.binds md e && (e.on == i || ds.contains e.on)
   | none => true

theorem up_first {i : Nat} {oi : Oper} {v : Value} (hi : ops[i]? = some oi) (hsel : ∀ (j : Nat) (o : Oper) cs b, ops[j]? = some o → o.op ≠ .select cs b)
  (hQ : ∀ c a w, Q (.panic c) (a.put oi.dst v) w → Q (.panic c) a w) (ds : List Nat) (hds : ∀ j, j ∈ ds → ∀ o, ops[j]? = some o → ∃ e ∈ o.after, Region.binds md e = true ∧ (e.on = i ∨ e.on ∈ ds)) (fuel : Nat) :
  ∀ (listed : Array Bool) (a : Act) (w : World), (∀ j o, ops[j]? = some o → listed.getD j true = false → j ∉ ds → A j = true) →
   (∀ j oj, ops[j]? = some oj → j ≠ i → listed.getD j true = false → (∀ e ∈ oj.after, Region.binds md e = true → e.on ≠ i) → oi.apart ops oj = true) →
   i ∈ Region.ready md ops listed → (∀ j ∈ ds, listed.getD j false = false) → YieldsIf P ops S oi v a → S w →
   wpUp P md ops Q S A fuel (listed.setIfInBounds i true) (a.put oi.dst v) w → wpUp P md ops Q S A (fuel + 1) listed a w := by
 induction fuel with
 | zero =>
  intro listed a w _ _ hr _ hy hS H
  refine ⟨fun h0 => absurd hr (by rw [h0]; exact List.not_mem_nil), fun j hj => ?_⟩
  by_cases e : j = i
  ·subst e; exact hy.wpOp hi hS ⟨fun _ => hS, H⟩
  ·have := ready_mono hj e
   rw [H.1] at this
   cases this
 | succ fuel ih =>
  intro listed a w hlow hfree hr hun hy hS H
  refine ⟨fun h0 => absurd hr (by rw [h0]; exact List.not_mem_nil), fun j hj => ?_⟩
  by_cases e : j = i
  ·subst e; exact hy.wpOp hi hS ⟨fun _ => hS, H⟩
  ·obtain ⟨hj0, oj, hoj, hall⟩ := mem_ready.1 hj
   have hi0 := (mem_ready.1 hr).1
   have hi1 : listed.getD i false = true → False := fun h => by
    by_cases hl : i < listed.size
    ·simp [hl] at hi0 h; rw [hi0] at h; cases h
    ·simp [Array.getElem?_eq_none (Nat.le_of_not_lt hl)] at h
   have hnd : j ∉ ds := fun hd => by
    obtain ⟨ed, hed, hbd, hon⟩ := hds j hd oj hoj
    have h1 := hall ed hed hbd
    rcases hon with hon | hon
    ·rw [hon] at h1; exact hi1 h1
    ·rw [hun _ hon] at h1; cases h1
   have hnot : ∀ ed ∈ oj.after, Region.binds md ed = true → ed.on ≠ i := fun ed hed hbd heq => hi1 (by have := hall ed hed hbd; rwa [heq] at this)
   have h2 := wpOp_putIf hoj (hfree j oj hoj e hj0 hnot) (fun cs b => hsel i oi cs b hi) (fun cs b => hsel j oj cs b hoj) hQ hy (H.2 j (ready_mono hj e))
   refine wpOp_mono (fun a' w' h3 => ?_) h2
   have hS' := h3.2.1 (hlow j oj hoj hj0 hnd)
   have hback : ∀ m, (listed.setIfInBounds j true).getD m true = false → listed.getD m true = false := fun m hmu => by
    by_cases ejm : j = m
    ·subst ejm; exact hj0
    ·rwa [getD_set_ne true ejm] at hmu
   refine ⟨h3.2.1, ih (listed.setIfInBounds j true) a' w' (fun m om hm hmu => hlow m om hm (hback m hmu)) (fun m om hm hmi hmu hmn => hfree m om hm hmi (hback m hmu) hmn) (ready_mono hr (Ne.symm e)) (fun d hd => ?_) h3.1 hS' ?_⟩
   ·rw [getD_set_ne (i := j) (j := d) false (fun e' => hnd (by rw [e']; exact hd))]
    exact hun d hd
   ·rw [Array.setIfInBounds_comm _ _ e]
    exact h3.2.2

theorem up_free {i : Nat} {oi : Oper} {v : Value} (hi : ops[i]? = some oi) (hsel : ∀ (j : Nat) (o : Oper) cs b, ops[j]? = some o → o.op ≠ .select cs b)
  (hQ : ∀ c a w, Q (.panic c) (a.put oi.dst v) w → Q (.panic c) a w) (hA : A i = false) (fuel : Nat) :
  ∀ (listed : Array Bool) (a : Act) (w : World),
   (∀ j oj, ops[j]? = some oj → j ≠ i → listed.getD j true = false → (∀ e ∈ oj.after, Region.binds md e = true → e.on ≠ i) → oi.apart ops oj = true) →
   i ∈ Region.ready md ops listed → YieldsIf P ops (fun _ => True) oi v a →
   wpUp P md ops Q S A fuel (listed.setIfInBounds i true) (a.put oi.dst v) w → wpUp P md ops Q S A (fuel + 1) listed a w := by
 have hno : A i = true → S = S → ∀ w, S w := fun h => by rw [hA] at h; cases h
 induction fuel with
 | zero =>
  intro listed a w _ hr hy H
  refine ⟨fun h0 => absurd hr (by rw [h0]; exact List.not_mem_nil), fun j hj => ?_⟩
  by_cases e : j = i
  ·subst e; exact hy.wpOp hi trivial ⟨fun h => hno h rfl w, H⟩
  ·have := ready_mono hj e
   rw [H.1] at this
   cases this
 | succ fuel ih =>
  intro listed a w hfree hr hy H
  refine ⟨fun h0 => absurd hr (by rw [h0]; exact List.not_mem_nil), fun j hj => ?_⟩
  by_cases e : j = i
  ·subst e; exact hy.wpOp hi trivial ⟨fun h => hno h rfl w, H⟩
  ·obtain ⟨hj0, oj, hoj, hall⟩ := mem_ready.1 hj
   have hi0 := (mem_ready.1 hr).1
   have hi1 : listed.getD i false = true → False := fun h => by
    by_cases hl : i < listed.size
    ·simp [hl] at hi0 h; rw [hi0] at h; cases h
    ·simp [Array.getElem?_eq_none (Nat.le_of_not_lt hl)] at h
   have hnot : ∀ ed ∈ oj.after, Region.binds md ed = true → ed.on ≠ i := fun ed hed hbd heq => hi1 (by have := hall ed hed hbd; rwa [heq] at this)
   have h2 := wpOp_putIf hoj (hfree j oj hoj e hj0 hnot) (fun cs b => hsel i oi cs b hi) (fun cs b => hsel j oj cs b hoj) hQ hy (H.2 j (ready_mono hj e))
   refine wpOp_mono (fun a' w' h3 => ?_) h2
   refine ⟨h3.2.1, ih (listed.setIfInBounds j true) a' w' (fun m om hm hmi hmu hmn => hfree m om hm hmi ?_ hmn) (ready_mono hr (Ne.symm e)) h3.1 ?_⟩
   ·by_cases ejm : j = m
    ·subst ejm; exact hj0
    ·rwa [getD_set_ne true ejm] at hmu
   ·rw [Array.setIfInBounds_comm _ _ e]
    exact h3.2.2

theorem waitsA_spec {listed : Array Bool} {i : Nat} {ds : List Nat} (h : waitsA md ops A listed i ds = true) :
  (∀ j o, ops[j]? = some o → listed.getD j true = false → j ∉ ds → A j = true) ∧ (∀ j ∈ ds, listed.getD j false = false) ∧ ∀ j, j ∈ ds → ∀ o, ops[j]? = some o → ∃ e ∈ o.after, Region.binds md e = true ∧ (e.on = i ∨ e.on ∈ ds) := by
 simp only [waitsA, Bool.and_eq_true, List.all_eq_true] at h
 refine ⟨fun j o hj hl hn => ?_, fun j hj => ?_, fun j hj o ho => ?_⟩
 ·have h1 := h.1 j (List.mem_range.2 (Array.getElem?_eq_some_iff.1 hj).1)
  simp only [Bool.or_eq_true, List.contains_iff_mem] at h1
  rcases h1 with (h1 | h1) | h1
  ·exact h1
  ·exact absurd h1 hn
  ·by_cases hs : j < listed.size
   ·simp [hs] at hl h1; rw [hl] at h1; cases h1
   ·simp [Array.getElem?_eq_none (Nat.le_of_not_lt hs)] at h1
 ·have := (h.2 j hj).1
  simpa using this
 ·have h2 := (h.2 j hj).2
  rw [ho] at h2
  obtain ⟨e, he, hb⟩ := Array.any_eq_true'.1 h2
  simp only [Bool.and_eq_true, Bool.or_eq_true, beq_iff_eq, List.contains_iff_mem] at hb
  exact ⟨e, he, hb.1, hb.2⟩

theorem up_run (i d : Nat) (ds : List Nat) {oi : Oper} {v : Value} {fuel : Nat} {listed : Array Bool} {a : Act} {w : World} (hi : ops[i]? = some oi) (hd : oi.dst = some d)
  (hs : Region.noSelect ops = true) (hf : Region.free md ops listed i = true) (hr : (Region.ready md ops listed).contains i = true) (hw : waitsA md ops A listed i ds = true)
  (hQ : ∀ c a w, Q (.panic c) (a.put (some d) v) w → Q (.panic c) a w) (hwt : Region.wanted oi (yielded ops a.tmps) = true) (hy : ∀ w, S w → (execOp a.eval oi).run P w = .ok (.value v) w) (hS : S w)
  (h : wpUp P md ops Q S A fuel (listed.setIfInBounds i true) (a.put (some d) v) w) : wpUp P md ops Q S A (fuel + 1) listed a w :=
 have hw' := waitsA_spec hw
 up_first hi (Region.noSelect_spec hs) (by rw [hd]; exact hQ) ds hw'.2.2 fuel listed a w hw'.1 (Region.free_spec hi hf) (by simpa using hr)
  hw'.2.1 (.inl ⟨hwt, hy⟩) hS (by rw [hd]; exact h)

theorem up_pure (i d : Nat) {oi : Oper} {v : Value} {fuel : Nat} {listed : Array Bool} {a : Act} {w : World} (hi : ops[i]? = some oi) (hd : oi.dst = some d)
  (hs : Region.noSelect ops = true) (hf : Region.free md ops listed i = true) (hr : (Region.ready md ops listed).contains i = true) (hA : A i = false)
  (hQ : ∀ c a w, Q (.panic c) (a.put (some d) v) w → Q (.panic c) a w) (hwt : Region.wanted oi (yielded ops a.tmps) = true) (hy : ∀ w, (execOp a.eval oi).run P w = .ok (.value v) w)
  (h : wpUp P md ops Q S A fuel (listed.setIfInBounds i true) (a.put (some d) v) w) : wpUp P md ops Q S A (fuel + 1) listed a w :=
 up_free hi (Region.noSelect_spec hs) (by rw [hd]; exact hQ) hA fuel listed a w (Region.free_spec hi hf) (by simpa using hr) (.inl ⟨hwt, fun w _ => hy w⟩) (by rw [hd]; exact h)

theorem up_one (i : Nat) {o : Oper} {fuel : Nat} {listed : Array Bool} {a : Act} {w : World} (hr : Region.ready md ops listed = [i]) (ho : ops[i]? = some o)
  (h : ∀ K' : Act → World → Prop, Shut (∀ a w, (A i = true → S w) → wpUp P md ops Q S A fuel (listed.setIfInBounds i true) a w → K' a w) → if Region.wanted o (yielded ops a.tmps) = true then Oper.wp P o a w K' Q else K' (a.put o.dst undef) w) :
  wpUp P md ops Q S A (fuel + 1) listed a w := by
 refine ⟨fun h0 => absurd (hr.symm.trans h0) (by simp), fun j hj => ?_⟩
 rw [hr] at hj
 obtain rfl : j = i := by simpa using hj
 exact wpOp_step ho (fun K' hK => h K' (fun a w hS hW => hK a w ⟨hS, hW⟩))

theorem up_done {fuel : Nat} {listed : Array Bool} {a : Act} {w : World} (hr : Region.ready md ops listed = []) (h : Q .normal a w) : wpUp P md ops Q S A fuel listed a w := by
 cases fuel with
 | zero => exact ⟨hr, h⟩
 | succ fuel => exact ⟨fun _ => h, fun j hj => by rw [hr] at hj; cases hj⟩

theorem up_start {id : Nat} {a : Act} {w : World} (hm : P.follows .mixedOrders = true) (hS : S w.drew)
  (h : S w.drew → wpUp P .any ops Q S A ops.size (Array.replicate ops.size false) a w.drew) : (Code.region id ops true).wp P Q a w :=
 wp_region_any hm (any_of_up _ _ _ _ (h hS))

end

end Go.Proofs.YtdedolkgcdlmeaaGreatDoor

/- mat.common of 1 and 1; mat.chained of nothing but 1. -/
namespace Go.Proofs.YtdedolkgcdlmeaaGreatDoor
open Go.RowKit Limbs

theorem Box.alloc {W : World} {B : Nat} {u0 u1 : Value} (h : Box W B u0 u1) (hB : B < W.heap.size) (ob : Obj) : Box (W.alloc ob) B u0 u1 := h.later ((Below.refl W.heap.size W).alloc (Nat.le_refl _) ob) hB

theorem NumL.one {w : World} {v : Value} {n : Nat} (h : NumL w v 1 n) : NumL w v 1 2 := h.tight (by decide)

theorem ones_get (r k : Nat) (hk : k < r) : (List.replicate r (1 : Int)).getD k 0 = 1 := by
 rw [List.getD_eq_getElem?_getD, List.getElem?_replicate, if_pos hk]; rfl

end Go.Proofs.YtdedolkgcdlmeaaGreatDoor

/- How much of each row in the one form a vector is. -/
namespace Go.Proofs.YtdedolkgcdlmeaaGreatDoor
open Go.RowKit Limbs

def leftN (H : Nat → Nat → Int) (p : Nat → Nat) (v : Nat → Int) : Nat → Nat → Int
 | 0 => v
 | i + 1 => fun b => leftN H p v i b - leftN H p v i (p i) / H i (p i) * H i b

def oftenN (H : Nat → Nat → Int) (p : Nat → Nat) (v : Nat → Int) (i : Nat) : Int := leftN H p v i (p i) / H i (p i)

end Go.Proofs.YtdedolkgcdlmeaaGreatDoor
