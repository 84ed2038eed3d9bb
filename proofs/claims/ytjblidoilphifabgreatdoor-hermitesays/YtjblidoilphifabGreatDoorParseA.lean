/- strings.Join, Count, Split, laid at this translation. -/
import Derived.Shelf.Strings.OnBuilder
import Derived.Shelf.Strings.Count
import Derived.Shelf.Strings.Split
import Derived.Test.YtjblidoilphifabGreatDoorProg
import Derived.Test.YtjblidoilphifabGreatDoorTrim
import Derived.Lib.Split
import Derived.Lib.Join
import Derived.Test.YtjblidoilphifabGreatDoorDivOne
import Derived.Test.YtjblidoilphifabGreatDoorTextZ
import Derived.Test.YtjblidoilphifabGreatDoorDigs
import Derived.Lib.Strings

namespace Go.Proofs
open Go.Shelf Go.RowKit
def Tryz.lays156_ren : Go.Shelf.Ren := ⟨fun | 156 => 66 | 165 => 102 | 166 => 99 | 169 => 101 | 240 => 118 | 241 => 120 | 276 => 138 | 277 => 140 | n => n, fun | 31 => 80 | 9 => 9 | 3 => 3 | 4 => 4 | 0 => 0 | 20 => 20 | 72 => 127 | 76 => 129 | 70 => 124 | 37 => 125 | 75 => 35 | 127 => 148 | 164 => 165 | 5 => 5 | 80 => 132 | n => n, fun | n => n⟩
theorem Tryz.lays156 : Go.Proofs.Lays.n156 Tryz.prog Tryz.lays156_ren := {
  mixed := by kernel_rfl
  f156 := Tryz.func66.trans (congrArg some (by kernel_rfl))
  f165 := Tryz.func102.trans (congrArg some (by kernel_rfl))
  f166 := Tryz.func99.trans (congrArg some (by kernel_rfl))
  f169 := Tryz.func101.trans (congrArg some (by kernel_rfl))
  f240 := Tryz.func118.trans (congrArg some (by kernel_rfl))
  f241 := Tryz.func120.trans (congrArg some (by kernel_rfl))
  f276 := Tryz.func138.trans (congrArg some (by kernel_rfl))
  f277 := Tryz.func140.trans (congrArg some (by kernel_rfl))
  t0 := Tryz.underlying0
  a0 := Tryz.isAgg0
  z0 := Tryz.sizeOf0
  v0 := Tryz.zeroValue0
  t3 := Tryz.underlying3
  a3 := Tryz.isAgg3
  z3 := Tryz.sizeOf3
  v3 := Tryz.zeroValue3
  t4 := Tryz.underlying4
  a4 := Tryz.isAgg4
  z4 := Tryz.sizeOf4
  v4 := Tryz.zeroValue4
  t9 := Tryz.underlying9
  a9 := Tryz.isAgg9
  z9 := Tryz.sizeOf9
  v9 := Tryz.zeroValue9
  t20 := Tryz.underlying20
  a20 := Tryz.isAgg20
  z20 := Tryz.sizeOf20
  v20 := Tryz.zeroValue20
  t31 := Tryz.underlying80
  a31 := Tryz.isAgg80
  z31 := Tryz.sizeOf80
  v31 := Tryz.zeroValue80
  t37 := Tryz.underlying125
  a37 := Tryz.isAgg125
  z37 := Tryz.sizeOf125
  v37 := Tryz.zeroValue125
  t70 := Tryz.underlying124
  a70 := Tryz.isAgg124
  z70 := Tryz.sizeOf124
  v70 := Tryz.zeroValue124
  t72 := Tryz.underlying127
  a72 := Tryz.isAgg127
  z72 := Tryz.sizeOf127
  v72 := Tryz.zeroValue127
  t75 := Tryz.underlying35
  a75 := Tryz.isAgg35
  z75 := Tryz.sizeOf35
  v75 := Tryz.zeroValue35
  t76 := Tryz.underlying129
  a76 := Tryz.isAgg129
  z76 := Tryz.sizeOf129
  v76 := Tryz.zeroValue129
  t127 := Tryz.underlying148
  a127 := Tryz.isAgg148
  z127 := Tryz.sizeOf148
  v127 := Tryz.zeroValue148
  t164 := Tryz.underlying165
  a164 := Tryz.isAgg165
  z164 := Tryz.sizeOf165
  v164 := Tryz.zeroValue165 }
theorem Tryz.Builder_Extra_156 : Builder.Extra Tryz.prog Tryz.lays156_ren := {
  sizeBuilder := by kernel_rfl
  liesBuilder := by kernel_rfl
  t5 := Tryz.underlying5
  a5 := Tryz.isAgg5
  z5 := Tryz.sizeOf5
  v5 := Tryz.zeroValue5
  infoByte := by kernel_rfl
  cellsByte := by kernel_rfl
  sizeByte := by kernel_rfl
  neB5 := by decide }
open Go.RowKit in
theorem Tryz.strings_Join (bk o c : Nat) (xs : List ByteArray) (sep : ByteArray) (w : World) (hcells : ∀ (j : Nat) x, xs[j]? = some x → w.cell? ⟨bk, o + j, none⟩ = some (.string x)) (hbk : bk < w.heap.size) (hN : xs.length ≤ 140737488355328) (hcap : xs.length ≤ c) (hlen : (Lib.join (xs.map (·.data.toList)) sep.data.toList).length ≤ 140737488355328) :
    Calls Tryz.prog 66 #[.slice (some ⟨bk, o, none⟩) xs.length c, .string sep] w fun e w' => e = .returned (.string ⟨(Lib.join (xs.map (·.data.toList)) sep.data.toList).toArray⟩) ∧ Below w.heap.size w w' := Any.strings_Join Tryz.lays156 Tryz.Builder_Extra_156 bk o c xs sep w hcells hbk hN hcap hlen
def Tryz.lays138_ren : Go.Shelf.Ren := ⟨fun | 138 => 50 | 195 => 86 | 218 => 87 | 143 => 88 | 219 => 109 | 217 => 126 | 225 => 127 | 224 => 128 | 267 => 129 | 266 => 148 | 314 => 149 | n => n, fun | 9 => 9 | 3 => 3 | 4 => 4 | 5 => 5 | 0 => 0 | 46 => 138 | 146 => 160 | 51 => 86 | n => n, fun | 1 => 0 | n => n⟩
theorem Tryz.lays138 : Go.Proofs.Lays.n138 Tryz.prog Tryz.lays138_ren := {
  mixed := by kernel_rfl
  f138 := Tryz.func50.trans (congrArg some (by kernel_rfl))
  f143 := Tryz.func88.trans (congrArg some (by kernel_rfl))
  f195 := Tryz.func86.trans (congrArg some (by kernel_rfl))
  f217 := Tryz.func126.trans (congrArg some (by kernel_rfl))
  f218 := Tryz.func87.trans (congrArg some (by kernel_rfl))
  f219 := Tryz.func109.trans (congrArg some (by kernel_rfl))
  f224 := Tryz.func128.trans (congrArg some (by kernel_rfl))
  f225 := Tryz.func127.trans (congrArg some (by kernel_rfl))
  f266 := Tryz.func148.trans (congrArg some (by kernel_rfl))
  f267 := Tryz.func129.trans (congrArg some (by kernel_rfl))
  f314 := Tryz.func149.trans (congrArg some (by kernel_rfl))
  t0 := Tryz.underlying0
  a0 := Tryz.isAgg0
  z0 := Tryz.sizeOf0
  v0 := Tryz.zeroValue0
  t3 := Tryz.underlying3
  a3 := Tryz.isAgg3
  z3 := Tryz.sizeOf3
  v3 := Tryz.zeroValue3
  t4 := Tryz.underlying4
  a4 := Tryz.isAgg4
  z4 := Tryz.sizeOf4
  v4 := Tryz.zeroValue4
  t5 := Tryz.underlying5
  a5 := Tryz.isAgg5
  z5 := Tryz.sizeOf5
  v5 := Tryz.zeroValue5
  t9 := Tryz.underlying9
  a9 := Tryz.isAgg9
  z9 := Tryz.sizeOf9
  v9 := Tryz.zeroValue9
  t46 := Tryz.underlying138
  a46 := Tryz.isAgg138
  z46 := Tryz.sizeOf138
  v46 := Tryz.zeroValue138
  t51 := Tryz.underlying86
  a51 := Tryz.isAgg86
  z51 := Tryz.sizeOf86
  v51 := Tryz.zeroValue86
  t146 := Tryz.underlying160
  a146 := Tryz.isAgg160
  z146 := Tryz.sizeOf160
  v146 := Tryz.zeroValue160
  g1 := by kernel_rfl }
open Go.RowKit Go.Lib in
theorem Tryz.strings_Count_one (s : ByteArray) (c : UInt8) (w : World) :
    Calls Tryz.prog 50 #[.string s, .string ⟨#[c]⟩] w fun e w' => e = .returned (.int .i64 (Lib.countByte s.data.toList c)) ∧ w' = w := Any.strings_Count_one Tryz.lays138 s c w
def Tryz.lays146_ren : Go.Shelf.Ren := ⟨fun | 146 => 51 | 221 => 89 | 268 => 110 | 138 => 50 | 143 => 88 | 195 => 86 | 197 => 130 | 218 => 87 | 219 => 109 | 260 => 150 | 217 => 126 | 225 => 127 | 224 => 128 | 267 => 129 | 266 => 148 | 314 => 149 | n => n, fun | 9 => 9 | 31 => 80 | 3 => 3 | 4 => 4 | 0 => 0 | 105 => 157 | 21 => 21 | 5 => 5 | 46 => 138 | 119 => 181 | 139 => 184 | 138 => 183 | 146 => 160 | 51 => 86 | n => n, fun | 1 => 0 | 3 => 2 | 4 => 3 | n => n⟩
theorem Tryz.lays146 : Go.Proofs.Lays.n146 Tryz.prog Tryz.lays146_ren := {
  mixed := by kernel_rfl
  f138 := Tryz.func50.trans (congrArg some (by kernel_rfl))
  f143 := Tryz.func88.trans (congrArg some (by kernel_rfl))
  f146 := Tryz.func51.trans (congrArg some (by kernel_rfl))
  f195 := Tryz.func86.trans (congrArg some (by kernel_rfl))
  f197 := Tryz.func130.trans (congrArg some (by kernel_rfl))
  f217 := Tryz.func126.trans (congrArg some (by kernel_rfl))
  f218 := Tryz.func87.trans (congrArg some (by kernel_rfl))
  f219 := Tryz.func109.trans (congrArg some (by kernel_rfl))
  f221 := Tryz.func89.trans (congrArg some (by kernel_rfl))
  f224 := Tryz.func128.trans (congrArg some (by kernel_rfl))
  f225 := Tryz.func127.trans (congrArg some (by kernel_rfl))
  f260 := Tryz.func150.trans (congrArg some (by kernel_rfl))
  f266 := Tryz.func148.trans (congrArg some (by kernel_rfl))
  f267 := Tryz.func129.trans (congrArg some (by kernel_rfl))
  f268 := Tryz.func110.trans (congrArg some (by kernel_rfl))
  f314 := Tryz.func149.trans (congrArg some (by kernel_rfl))
  t0 := Tryz.underlying0
  a0 := Tryz.isAgg0
  z0 := Tryz.sizeOf0
  v0 := Tryz.zeroValue0
  t3 := Tryz.underlying3
  a3 := Tryz.isAgg3
  z3 := Tryz.sizeOf3
  v3 := Tryz.zeroValue3
  t4 := Tryz.underlying4
  a4 := Tryz.isAgg4
  z4 := Tryz.sizeOf4
  v4 := Tryz.zeroValue4
  t5 := Tryz.underlying5
  a5 := Tryz.isAgg5
  z5 := Tryz.sizeOf5
  v5 := Tryz.zeroValue5
  t9 := Tryz.underlying9
  a9 := Tryz.isAgg9
  z9 := Tryz.sizeOf9
  v9 := Tryz.zeroValue9
  t21 := Tryz.underlying21
  a21 := Tryz.isAgg21
  z21 := Tryz.sizeOf21
  v21 := Tryz.zeroValue21
  t31 := Tryz.underlying80
  a31 := Tryz.isAgg80
  z31 := Tryz.sizeOf80
  v31 := Tryz.zeroValue80
  t46 := Tryz.underlying138
  a46 := Tryz.isAgg138
  z46 := Tryz.sizeOf138
  v46 := Tryz.zeroValue138
  t51 := Tryz.underlying86
  a51 := Tryz.isAgg86
  z51 := Tryz.sizeOf86
  v51 := Tryz.zeroValue86
  t105 := Tryz.underlying157
  a105 := Tryz.isAgg157
  z105 := Tryz.sizeOf157
  v105 := Tryz.zeroValue157
  t119 := Tryz.underlying181
  a119 := Tryz.isAgg181
  z119 := Tryz.sizeOf181
  t138 := Tryz.underlying183
  a138 := Tryz.isAgg183
  z138 := Tryz.sizeOf183
  v138 := Tryz.zeroValue183
  t139 := Tryz.underlying184
  a139 := Tryz.isAgg184
  z139 := Tryz.sizeOf184
  v139 := Tryz.zeroValue184
  t146 := Tryz.underlying160
  a146 := Tryz.isAgg160
  z146 := Tryz.sizeOf160
  v146 := Tryz.zeroValue160
  g1 := by kernel_rfl
  g3 := by kernel_rfl
  g4 := by kernel_rfl }
open Go.RowKit Go.Lib in
theorem Tryz.strings_Split (s sep : ByteArray) (m : Int) (w : World) (hs : s.size < 4294967281) (hm : w.cell? ⟨0, 0, none⟩ = some (.int .i64 m)) (h1 : 1 ≤ sep.size) :
    Calls Tryz.prog 51 #[.string s, .string sep] w fun e w' =>
      e = .returned (.slice (some ⟨w.heap.size, 0, none⟩) (Lib.countB s sep + 1) (Lib.countB s sep + 1)) ∧ w' = w.alloc (.cells ((Lib.splitB sep 0 (Lib.countB s sep) s).map Value.string).toArray 9) := Any.strings_Split Tryz.lays146 (by kernel_rfl) s sep m w hs hm h1
end Go.Proofs

/- Texts put together with one byte between, and cut at it again. No Go in it. -/
namespace Go.Proofs.YtjblidoilphifabGreatDoor
open Go

theorem index_hit (c : UInt8) : ∀ (x r : List UInt8), c ∉ x → Lib.index (x ++ c :: r) [c] = x.length
  | [], r, _ => by simp [Lib.index, List.isPrefixOf]
  | b :: x, r, h => by
    have hb : (c == b) = false := by rw [beq_eq_false_iff_ne]; exact fun e => h (by rw [e]; exact List.mem_cons_self)
    have ih := index_hit c x r fun h' => h (List.mem_cons_of_mem _ h')
    rw [List.cons_append, Lib.index, ih]
    simp only [List.isPrefixOf, hb, Bool.false_and, Bool.false_eq_true, if_false]
    rw [if_neg (by rw [beq_iff_eq]; omega)]
    simp

theorem index_miss (c : UInt8) : ∀ x : List UInt8, c ∉ x → Lib.index x [c] = -1
  | [], _ => by simp [Lib.index]
  | b :: x, h => by
    have hb : (c == b) = false := by rw [beq_eq_false_iff_ne]; exact fun e => h (by rw [e]; exact List.mem_cons_self)
    have ih := index_miss c x fun h' => h (List.mem_cons_of_mem _ h')
    rw [Lib.index, ih]
    simp [List.isPrefixOf, hb]

theorem join_two (x y : List UInt8) (r : List (List UInt8)) (c : UInt8) : Lib.join (x :: y :: r) [c] = x ++ c :: Lib.join (y :: r) [c] := by
  rw [Lib.join_cons, Lib.join_cons]
  simp [Lib.joinTail]

theorem split_join (c : UInt8) : ∀ xs : List (List UInt8), xs ≠ [] → (∀ x ∈ xs, c ∉ x) → Lib.count (Lib.join xs [c]) [c] + 1 = xs.length ∧ Lib.splitK [c] 0 (xs.length - 1) (Lib.join xs [c]) = xs
  | [], h, _ => absurd rfl h
  | [x], _, hx => by
    rw [Lib.join_one, Lib.count_miss (index_miss c x (hx x (by simp)))]
    exact ⟨rfl, rfl⟩
  | x :: y :: r, _, hx => by
    have hc := hx x (by simp)
    obtain ⟨i1, i2⟩ := split_join c (y :: r) (by simp) fun z hz => hx z (List.mem_cons_of_mem _ hz)
    have hi := index_hit c x (Lib.join (y :: r) [c]) hc
    have hd : (x ++ c :: Lib.join (y :: r) [c]).drop (x.length + 1) = Lib.join (y :: r) [c] := by
      rw [List.drop_append, List.drop_eq_nil_of_le (by omega)]
      simp
    rw [join_two]
    constructor
    · rw [Lib.count_hit (by simp) hi, List.length_singleton, hd, List.length_cons, ← i1]
      omega
    · have e : (x :: y :: r).length - 1 = ((y :: r).length - 1) + 1 := by simp
      rw [e, Lib.splitK, hi, if_neg (by rw [beq_iff_eq]; omega), Int.toNat_natCast, Nat.add_zero, List.length_singleton, hd, i2]
      simp

end Go.Proofs.YtjblidoilphifabGreatDoor

/- A vector's text. -/
namespace Go.Proofs.YtjblidoilphifabGreatDoor
open Go.RowKit Limbs

theorem Tryz.infoStr : (Tryz.prog.info? 9).map (fun i => (i.zero, i.size, i.bytes)) = some (some (.string ByteArray.empty), 1, 16) := by kernel_rfl

theorem run_mkS (m : Nat) (hm : m ≤ 1000) (W : World) : (Instr.makeSlice 80 (.int .i64 (m : Int)) (.int .i64 (m : Int))).run Tryz.prog W = .ok (.slice (some ⟨W.heap.size, 0, none⟩) m m) (W.alloc (.cells (Lib.cellsOf [] m) 9)) := by
  obtain ⟨i0, hi, hz0, hz1, hz2⟩ := info_parts Tryz.infoStr
  have h := run_make (P := Tryz.prog) W 80 9 i0 (.string ByteArray.empty) (by kernel_rfl) hi hz0 .i64 .i64 m m (by omega) (by omega) (by rw [hz2]; omega) (by omega)
  rw [hz1, Int.toNat_natCast, Nat.mul_one] at h
  rw [Lib.cellsOf_nil]
  exact h

/-- the text of a vector -/
def vtxt (zs : List Int) : List UInt8 := 40 :: (Lib.join (zs.map txt) [32] ++ [41])

def btxt (z : Int) : ByteArray := ⟨(txt z).toArray⟩

theorem btxt_data (zs : List Int) : (zs.map btxt).map (·.data.toList) = zs.map txt := by
  rw [List.map_map]
  apply List.map_congr_left
  intro z _
  simp [btxt]

/-- At the loop's head: so many texts stand in the row. -/
def TxInv (w wr : World) (P : Nat) (zs : List Int) (k : Nat) : Prop :=
  wr.heap[P]? = some (.cells (Lib.cellsOf ((zs.take k).map btxt) zs.length) 9) ∧ Below w.heap.size w wr

theorem TxInv.store {w wr : World} {P : Nat} {zs : List Int} {k : Nat} (h : TxInv w wr P zs k) (hP : w.heap.size ≤ P) (hk : k < zs.length) : TxInv w (wr.setCell ⟨P, k, none⟩ (.string (btxt (zs.getD k 0)))) P zs (k + 1) := by
  obtain ⟨h1, h2⟩ := h
  have hl : ((zs.take k).map btxt).length = k := by rw [List.length_map, List.length_take]; omega
  have hs := heap_setCell_same wr P k _ _ (.string (btxt (zs.getD k 0))) h1
  refine ⟨?_, h2.setCell (by exact hP) _⟩
  have e : (Lib.cellsOf ((zs.take k).map btxt) zs.length).setIfInBounds k (.string (btxt (zs.getD k 0))) = Lib.cellsOf ((zs.take (k + 1)).map btxt) zs.length := by
    have := Lib.cellsOf_set (done := (zs.take k).map btxt) (N := zs.length) (by omega) (btxt (zs.getD k 0))
    rw [hl] at this
    rw [this, List.take_succ_eq_append_getElem hk, List.map_append]
    simp [List.getD_eq_getElem?_getD, hk]
  rw [← e]
  exact hs

theorem TxInv.full {w wr : World} {P : Nat} {zs : List Int} (h : TxInv w wr P zs zs.length) : ∀ (j : Nat) x, (zs.map btxt)[j]? = some x → wr.cell? ⟨P, 0 + j, none⟩ = some (.string x) := fun j x hx => by
  have h1 := h.1
  rw [List.take_length] at h1
  have := World.news_of_block h1 j (.string x) (by
    unfold Lib.cellsOf
    rw [List.toList_toArray, List.getElem?_append_left (by rw [List.length_map]; exact (List.getElem?_eq_some_iff.1 hx).1), List.getElem?_map, hx]
    rfl)
  have e : (⟨P, 0, none⟩ : Addr).add j = ⟨P, 0 + j, none⟩ := by unfold Addr.add; split <;> simp_all
  rwa [e] at this

theorem joined (l : List UInt8) : (⟨#[40]⟩ : ByteArray) ++ ⟨l.toArray⟩ ++ ⟨#[41]⟩ = ⟨(40 :: (l ++ [41])).toArray⟩ := by
  apply ByteArray.ext
  simp

set_option maxRecDepth 100000 in
set_option maxHeartbeats 1600000 in
theorem vtext_any (w : World) (v : Value) (zs : List Int) (n : Nat) (ht : Tab w) (hv : VecN w v zs n) (hn : n ≤ 900000) (h0 : 0 < zs.length) (h8 : zs.length ≤ 8) (hlen : (Lib.join (zs.map txt) [32]).length ≤ 100000) :
    Calls Tryz.prog 31 #[v] w fun e w' => e = .returned (.string ⟨(vtxt zs).toArray⟩) ∧ Below w.heap.size w w' := by
  have HV := hide hv; have HT := hide ht
  obtain ⟨vb, voff, vcap, rfl⟩ := hv.form h0
  clear hv ht
  have hmk := run_mkS zs.length (by omega)
  have HI : Hid (TxInv w (w.alloc (.cells (Lib.cellsOf [] zs.length) 9)) w.heap.size zs 0) := ⟨heap_alloc_new w _, (Below.refl _ _).alloc (Nat.le_refl _) _⟩
  go_enter Tryz.func31, Tryz.ntmps31
  go_wp2
  clear hmk
  go_loopw [10] (fun i wr => ∃ k : Nat, k ≤ zs.length ∧ i = .int .i64 k ∧ TxInv w wr w.heap.size zs k) (fun i _ => zs.length - (intOf i).toNat)
  case atStart => exact ⟨0, Nat.zero_le _, rfl, HI.out⟩
  case round =>
    clear HI
    obtain ⟨k, hk, rfl, hinv⟩ := hrel
    have HI := hide hinv
    clear hinv
    by_cases hkl : k < zs.length
    · obtain ⟨la, an, ao, al, ac, a0, a1, na⟩ := (HV.out.below HI.out.2 (Nat.le_refl _)).at k hkl
      have NA := hide na
      have HST := hide (fun (W : World) (h : TxInv w W w.heap.size zs k) => h.store (Nat.le_refl _) hkl)
      clear na
      have HBT := hide (show btxt (zs.getD k 0) = ⟨(txt (zs.getD k 0)).toArray⟩ from rfl)
      generalize zs.getD k 0 = z at *
      go_wp2_with fail
      refine (text_all wr _ z n (HT.out.below HI.out.2) NA.out hn).mono ?_
      rintro e w1 ⟨rfl, hb⟩
      have HI1 := hide (show TxInv w w1 w.heap.size zs k from ⟨(hb.block _ (heap_lt HI.out.1)).trans HI.out.1, HI.out.2.trans (hb.mono HI.out.2.size)⟩)
      have hll : ((zs.take k).map btxt).length = k := by rw [List.length_map, List.length_take]; omega
      have hcell : w1.cell? ⟨w.heap.size, k, none⟩ = some (.string ByteArray.empty) := by
        have h := Lib.cellsOf_next (done := (zs.take k).map btxt) (N := zs.length) (by omega)
        rw [hll] at h
        have := World.news_of_block HI1.out.1 k (.string ByteArray.empty) (by rw [← h]; simp)
        have e : (⟨w.heap.size, 0, none⟩ : Addr).add k = ⟨w.heap.size, k, none⟩ := by unfold Addr.add; split <;> simp_all
        rwa [e] at this
      have hfr : w1.frozen? ⟨w.heap.size, k, none⟩ = false := by
        have h := HI1.out.1
        simp [World.frozen?, h]
      have HN := hide (HST.out w1 HI1.out)
      rw [HBT.out] at HN
      clear hb HST HI HI1 HBT hll a0 a1
      go_wp2
      go_roundw
      case rel => exact ⟨k + 1, by omega, by go_num, HN.out⟩
      case measure => simp [intOf]; omega
    · obtain rfl : k = zs.length := by omega
      have HJ := hide (Go.Proofs.Tryz.strings_Join w.heap.size 0 zs.length (zs.map btxt) ⟨#[32]⟩ wr HI.out.full (heap_lt HI.out.1) (by rw [List.length_map]; omega) (by rw [List.length_map]; exact Nat.le_refl _) (by rw [btxt_data]; show (Lib.join _ [32]).length ≤ _; omega))
      rw [List.length_map, btxt_data] at HJ
      have HBE := hide HI.out.2
      clear HI
      go_wp2_with fail
      refine HJ.out.mono ?_
      rintro e w1 ⟨rfl, hb⟩
      have HF := hide (show Below w.heap.size w w1 from HBE.out.trans (hb.mono HBE.out.size))
      have e1 : (Lib.join (zs.map txt) (⟨#[32]⟩ : ByteArray).data.toList) = Lib.join (zs.map txt) [32] := rfl
      rw [e1]
      have HVT := hide (show vtxt zs = 40 :: (Lib.join (zs.map txt) [32] ++ [41]) from rfl)
      have hsz : (⟨(Lib.join (zs.map txt) [32]).toArray⟩ : ByteArray).size ≤ 100000 := by show (Lib.join (zs.map txt) [32]).toArray.size ≤ _; simpa using hlen
      clear hb HJ HBE e1
      generalize Lib.join (zs.map txt) [32] = l at *
      have hsz2 : ((⟨#[40]⟩ : ByteArray) ++ ⟨l.toArray⟩).size ≤ 100001 := by rw [ByteArray.size_append]; show 1 + _ ≤ _; omega
      go_wp2
      go_ret
      rw [joined, ← HVT.out]
      exact ⟨rfl, HF.out⟩

end Go.Proofs.YtjblidoilphifabGreatDoor

/- Ten times the limbs, and a digit more; are these digits? -/
namespace Go.Proofs.YtjblidoilphifabGreatDoor
open Go.RowKit Limbs

/-- So many limbs are done. -/
def DInv (w wr : World) (base : Nat) (v : Value) (zs : List Int) (d : Int) (k : Nat) (cy : Int) (ys : List Int) : Prop :=
  wr.ownsRow base 86 1 v zs.length (ys.map (Value.int .u32)) ∧ ys.length = zs.length ∧ LB ys ∧ ys.drop k = zs.drop k ∧ lv (ys.take k) + bp k * cy = 10 * lv (zs.take k) + d ∧ 0 ≤ cy ∧ cy ≤ 255 ∧ Below base w wr

theorem DInv.step {w wr : World} {base g cap : Nat} {zs ys : List Int} {d cy T : Int} {k : Nat} (h : DInv w wr base (.slice (some ⟨g, 0, none⟩) zs.length cap) zs d k cy ys) (hk : k < zs.length) (hT : T = cy + 10 * ys.getD k 0) :
    DInv w (wr.setCell ⟨g, k, none⟩ (.int .u32 (T % 4294967296))) base (.slice (some ⟨g, 0, none⟩) zs.length cap) zs d (k + 1) (T / 4294967296) (ys.set k (T % 4294967296)) := by
  obtain ⟨h1, h2, h3, h4, h5, h6, h7, h8⟩ := h
  have hz := h3 k
  have hst := h1.stored k (.int .u32 (T % 4294967296))
  have he : ys.getD k 0 = zs.getD k 0 := by
    have e1 := drop_cons_getD ys k (by omega)
    have e2 := drop_cons_getD zs k hk
    rw [h4] at e1
    rw [e1] at e2
    exact (List.cons.injEq _ _ _ _ ▸ e2).1
  have hlt := h1.lt g rfl
  refine ⟨by rw [List.map_set]; exact hst.1, by simp [h2], LB_set h3 k (by omega), ?_, ?_, by omega, by omega, h8.setCell (by simp; omega) _⟩
  · rw [drop_set_lt ys k (k + 1) _ (Nat.lt_succ_self k)]
    have e1 := congrArg (List.drop 1) h4
    rwa [List.drop_drop, List.drop_drop] at e1
  · rw [lv_take_succ, take_set_ge ys k k _ (Nat.le_refl _), getD_set _ _ _ _ (by omega), if_pos rfl, lv_take_succ]
    simp only [bp]
    have e1 : 4294967296 * bp k * (T / 4294967296) = bp k * (4294967296 * (T / 4294967296)) := by rw [Int.mul_comm 4294967296, Int.mul_assoc]
    have e2 : bp k * (T % 4294967296) + bp k * (4294967296 * (T / 4294967296)) = bp k * T := by rw [← Int.mul_add]; congr 1; omega
    have e3 : bp k * T = bp k * cy + bp k * (10 * ys.getD k 0) := by rw [hT, Int.mul_add]
    have e4 : bp k * (10 * ys.getD k 0) = 10 * (bp k * zs.getD k 0) := by rw [he, Int.mul_left_comm]
    rw [e1, Int.mul_add]
    omega

/-- More limbs, in memory that is the call's own. -/
def DigitPost (w : World) (base : Nat) (zs : List Int) (d : Int) (e : Ending) (w' : World) : Prop :=
  ∃ v' ys, e = .returned v' ∧ w'.ownsRow base 86 1 v' ys.length (ys.map (Value.int .u32)) ∧ LB ys ∧ lv ys = 10 * lv zs + d ∧ ys.length ≤ zs.length + 1 ∧ Below base w w'

theorem DInv.fin {w wr : World} {base : Nat} {v : Value} {zs ys : List Int} {d : Int} {cy : Int} (h : DInv w wr base v zs d zs.length cy ys) : lv ys + bp zs.length * cy = 10 * lv zs + d := by
  have := h.2.2.2.2.1
  rw [List.take_length, lv_take_ge ys (by rw [h.2.1]; exact Nat.le_refl _)] at this
  exact this

set_option maxRecDepth 100000 in
set_option maxHeartbeats 1600000 in
theorem appendDigit_any (w : World) (base : Nat) (v : Value) (zs : List Int) (d : Int) (h : w.ownsRow base 86 1 v zs.length (zs.map (Value.int .u32))) (hlb : LB zs) (hd0 : 0 ≤ d) (hd1 : d ≤ 255) (hl : zs.length ≤ 100000) (hbs : base ≤ w.heap.size) :
    Calls Tryz.prog 92 #[v, .int .u8 d] w fun e w' => DigitPost w base zs d e w' := by
  obtain ⟨j0, hj, hy0, hy1, hy2⟩ := info_parts Tryz.infoU32
  have H0 := hide h
  obtain ⟨o, cap, rfl⟩ : ∃ o cap, v = .slice o zs.length cap := by
    rcases h.2 with ⟨e, h0⟩ | ⟨g, cap, cur, e, -⟩
    · exact ⟨none, 0, by rw [h0]; exact e⟩
    · exact ⟨_, cap, e⟩
  clear h
  go_enter Tryz.func92, Tryz.ntmps92
  go_wp2
  go_loopw [5, 11] (fun c i wr => ∃ (k : Nat) (cy : Int) (ys : List Int), k ≤ zs.length ∧ i = .int .i64 k ∧ c = .int .u64 cy ∧ DInv w wr base (.slice o zs.length cap) zs d k cy ys) (fun _ i _ => zs.length - (intOf i).toNat)
  case atStart => exact ⟨0, d, zs, Nat.zero_le _, rfl, rfl, H0.out, rfl, hlb, rfl, by simp [lv, bp], hd0, hd1, Below.refl _ _⟩
  case round =>
    clear H0
    obtain ⟨k, cy, ys, hk, rfl, rfl, hinv⟩ := hrel
    have hc0 := hinv.2.2.2.2.2.1
    have hc1 := hinv.2.2.2.2.2.2.1
    by_cases hlt : k < zs.length
    · obtain ⟨g, cap', e, -, hgs⟩ := hinv.1.form (by omega)
      simp only [Value.slice.injEq, true_and] at e
      obtain ⟨rfl, rfl⟩ := e
      have hky : k < ys.length := by have := hinv.2.1; omega
      have hcell := hinv.1.cellAt k (by omega)
      rw [List.getElem?_map, List.getElem?_eq_getElem hky, Option.map_some, show ys[k]'hky = ys.getD k 0 by rw [List.getD_eq_getElem?_getD, List.getElem?_eq_getElem hky]; rfl] at hcell
      have hfr := hinv.1.frozenAt k
      have hz := hinv.2.2.1 k
      have HS := hide (hinv.step hlt rfl)
      clear hinv
      generalize ys.getD k 0 = z at *
      go_wp2
      go_roundw
      case rel => exact ⟨k + 1, _, _, by omega, by go_num, rfl, HS.out⟩
      case measure => simp [intOf]; omega
    · obtain rfl : k = zs.length := by omega
      have HFI := hide hinv.fin
      have hyl := hinv.2.1
      have HI := hide hinv
      by_cases hc : cy = 0
      · subst hc
        have HF : Hid (DigitPost w base zs d (.returned (.slice o zs.length cap)) wr) := by
          obtain ⟨h1, h2, h3, h4, h5, h6, h7, h8⟩ := HI.out
          exact ⟨_, ys, rfl, by rw [h2]; exact h1, h3, by have := HFI.out; omega, by omega, h8⟩
        clear HI hinv HFI
        go_wp2
        go_ret
        exact HF.out
      · have hcd : decide (0 < cy) = true := decide_eq_true (by omega)
        have hown := hinv.1
        have HBL := hide hinv.2.2.2.2.2.2.2
        clear hinv
        go_wp2_with (at_builtin; refine wpList_append_lies _ rfl _ _ 24 rfl base 86 j0 (.int .u32 0) 1 4 Tryz.underlying24 hj hy0 hy1 hy2 rfl (by decide) (.slice o zs.length cap) zs.length (ys.map (Value.int .u32)) rfl (hown.alloc _) ⟨wr.heap.size, 0, none⟩ 1 1 [.int .u32 cy] rfl rfl (World.news_of_block (heap_alloc_new wr _)) (fun u hu => by rw [List.mem_singleton] at hu; rw [hu]; rfl) (by decide) (by unfold maxLen; omega) (by omega) (by simp; have := HBL.out.size; omega) (wr.heap.size + 1) (by simp) ?_)
        intro g cap' w3 hown3 hgrow3 hat3 hlt3
        have HF : Hid (DigitPost w base zs d (.returned (.slice (some ⟨g, 0, none⟩) (zs.length + 1) cap')) w3) := by
          obtain ⟨h1, h2, h3, h4, h5, h6, h7, h8⟩ := HI.out
          refine ⟨_, ys ++ [cy], rfl, by rw [List.length_append, List.map_append, h2]; exact hown3, LB_snoc h3 (by omega), ?_, by simp; omega, h8.trans (below_app h1 (by have := h8.size; omega) hgrow3)⟩
          rw [lv_snoc, h2]; exact HFI.out
        clear hown3 hgrow3 hat3 hlt3 HI hown
        go_wp2
        go_ret
        exact HF.out

/-- A text's byte. -/
def byt (s : ByteArray) (k : Nat) : Int := if h : k < s.size then ((s[k]'h).toNat : Int) else 0

theorem byt_eq {s : ByteArray} {k : Nat} (h : k < s.size) : ((s[k]'h).toNat : Int) = byt s k := by simp [byt, h]

/-- Digits alone, one at least, no nought ahead of others. -/
def isDec (s : ByteArray) : Prop := (∀ k, k < s.size → 48 ≤ byt s k ∧ byt s k ≤ 57) ∧ (s = ⟨#[48]⟩ ∨ (s.size ≠ 0 ∧ byt s 0 ≠ 48))

theorem size_zero {s : ByteArray} (h : s.size = 0) : s = ⟨#[]⟩ := by
  cases s with
  | mk d =>
    congr 1
    exact Array.eq_empty_of_size_eq_zero h

theorem str_eq (s : ByteArray) (l : List UInt8) : s.toList = l ↔ s = ⟨l.toArray⟩ := by
  rw [Lib.toList_data]
  constructor
  · intro h; subst h; cases s; rfl
  · intro h; subst h; rfl

set_option maxRecDepth 100000 in
set_option maxHeartbeats 1600000 in
theorem decimal_any (w : World) (s : ByteArray) (hl : s.size ≤ 400) (b : Bool) (hb : b = true ↔ isDec s) :
    Calls Tryz.prog 91 #[.string s] w fun e w' => e = .returned (.bool b) ∧ w' = w := by
  have HB := hide hb; clear hb
  go_enter Tryz.func91, Tryz.ntmps91
  go_wp2
  go_loop [6] (fun i => ∃ k : Nat, k ≤ s.size ∧ i = .int .i64 k ∧ Hid (∀ j, j < k → 48 ≤ byt s j ∧ byt s j ≤ 57)) (fun i => s.size - (intOf i).toNat)
  case atStart => exact ⟨0, Nat.zero_le _, rfl, fun j hj => absurd hj (by omega)⟩
  case round =>
    obtain ⟨k, hk, rfl, HD⟩ := hrel
    by_cases hlt : k < s.size
    · by_cases hc : 48 ≤ byt s k ∧ byt s k ≤ 57
      · have h1 : decide (((s[k]'hlt).toNat : Int) < 48) = false := by rw [byt_eq hlt]; simp; omega
        have h2 : decide (57 < ((s[k]'hlt).toNat : Int)) = false := by rw [byt_eq hlt]; simp; omega
        have HD' : Hid (∀ j, j < k + 1 → 48 ≤ byt s j ∧ byt s j ≤ 57) := fun j hj => by
          rcases Nat.lt_succ_iff_lt_or_eq.1 hj with h | h
          · exact HD.out j h
          · subst h; exact hc
        clear hc
        go_wp2
        go_round
        case rel => exact ⟨k + 1, by omega, by go_num, HD'⟩
        case measure => simp [intOf]; omega
      · have hbf : b = false := by
          cases b with
          | false => rfl
          | true => exact absurd ((HB.out.1 rfl).1 k hlt) hc
        subst hbf
        by_cases h48 : byt s k < 48
        · have h1 : decide (((s[k]'hlt).toNat : Int) < 48) = true := by rw [byt_eq hlt]; simp; omega
          clear HB hc
          go_wp2
          go_ret
          exact ⟨rfl, rfl⟩
        · have h1 : decide (((s[k]'hlt).toNat : Int) < 48) = false := by rw [byt_eq hlt]; simp; omega
          have h2 : decide (57 < ((s[k]'hlt).toNat : Int)) = true := by rw [byt_eq hlt]; simp; omega
          clear HB hc
          go_wp2
          go_ret
          exact ⟨rfl, rfl⟩
    · obtain rfl : k = s.size := by omega
      have HB' := hide (show b = true ↔ (s = ⟨#[48]⟩ ∨ (s.size ≠ 0 ∧ byt s 0 ≠ 48)) from ⟨fun h => (HB.out.1 h).2, fun h => HB.out.2 ⟨HD.out, h⟩⟩)
      clear HB HD
      by_cases e1 : s = ⟨#[48]⟩
      · obtain rfl : b = true := HB'.out.2 (.inl e1)
        subst e1
        clear HB'
        go_wp2
        go_ret
        exact ⟨rfl, rfl⟩
      · by_cases e0 : s.size = 0
        · obtain rfl := size_zero e0
          have hbf : b = false := by
            cases b with
            | false => rfl
            | true => rcases HB'.out.1 rfl with h | h; exact absurd h e1; exact absurd rfl h.1
          subst hbf
          clear HB'
          go_wp2
          go_ret
          exact ⟨rfl, rfl⟩
        · have h0 : 0 < s.size := by omega
          have f1 : ¬ s.toList = [48] := fun h => e1 ((str_eq s _).1 h)
          have f2 : ¬ s.toList = [] := fun h => e0 (by rw [(str_eq s _).1 h]; rfl)
          have hb2 : b = ((((s[0]'h0).toNat : Int) != 48)) := by
            rw [byt_eq h0]
            cases b with
            | true => rcases HB'.out.1 rfl with h | h; exact absurd h e1; symm; rw [bne_iff_ne]; exact h.2
            | false => symm; rw [bne_eq_false_iff_eq]; by_cases h : byt s 0 = 48; exact h; exact absurd (HB'.out.2 (.inr ⟨e0, h⟩)) (by simp)
          have f3 : (s.toList == [48]) = false := by rw [beq_eq_false_iff_ne]; exact f1
          have f4 : s.toList.isEmpty = false := by rw [List.isEmpty_eq_false_iff]; exact f2
          subst hb2
          clear HB'
          go_wp2
          go_ret
          exact ⟨rfl, rfl⟩

end Go.Proofs.YtjblidoilphifabGreatDoor
