/- strconv.Itoa in general, laid at this translation. -/
import Derived.Shelf.LaysM
import Derived.Shelf.Strconv.Itoa3
import Derived.Test.YtmalhbkmfddhoaaDoorProg
import Derived.Shelf.Strings.OnBuilder
import Derived.Shelf.Strings.Count
import Derived.Shelf.Strings.Split
import Derived.Test.YtmalhbkmfddhoaaDoorBpB
import Derived.Lib.Split
import Derived.Lib.Join
import Derived.Test.YtmalhbkmfddhoaaDoorBiL
import Derived.Shelf.Small.Bits
import Derived.Shelf.Small.Wraps
import Derived.Shelf.Strings.BuilderK

namespace Go.Proofs
open Go.Shelf Go.RowKit Go.Sort
def Tryd.laysM171_ren : Go.Shelf.Ren := ⟨fun | 171 => 45 | 243 => 55 | 246 => 67 | 283 => 77 | 284 => 78 | 285 => 79 | 286 => 80 | 129 => 88 | 317 => 87 | 318 => 89 | 319 => 90 | 320 => 91 | 337 => 94 | 338 => 95 | n => n, fun | 3 => 3 | 9 => 9 | 2 => 2 | 4 => 4 | 171 => 121 | 0 => 0 | 53 => 113 | 37 => 53 | 5 => 5 | 173 => 124 | 212 => 134 | 51 => 110 | 20 => 20 | 213 => 135 | 46 => 54 | 232 => 143 | 233 => 144 | n => n, fun | 17 => 3 | 18 => 6 | 19 => 7 | n => n⟩
theorem Tryd.laysM171 : Go.Proofs.LaysM.n171 Tryd.prog Tryd.laysM171_ren := {
 mixed := by kernel_rfl
 f129 := Tryd.func88.trans (congrArg some (by kernel_rfl))
 f171 := Tryd.func45.trans (congrArg some (by kernel_rfl))
 f243 := Tryd.func55.trans (congrArg some (by kernel_rfl))
 f246 := Tryd.func67.trans (congrArg some (by kernel_rfl))
 f283 := Tryd.func77.trans (congrArg some (by kernel_rfl))
 f284 := Tryd.func78.trans (congrArg some (by kernel_rfl))
 f285 := Tryd.func79.trans (congrArg some (by kernel_rfl))
 f286 := Tryd.func80.trans (congrArg some (by kernel_rfl))
 f317 := Tryd.func87.trans (congrArg some (by kernel_rfl))
 f318 := Tryd.func89.trans (congrArg some (by kernel_rfl))
 f319 := Tryd.func90.trans (congrArg some (by kernel_rfl))
 f320 := Tryd.func91.trans (congrArg some (by kernel_rfl))
 f337 := Tryd.func94.trans (congrArg some (by kernel_rfl))
 f338 := Tryd.func95.trans (congrArg some (by kernel_rfl))
 t0 := Tryd.underlying0
 a0 := Tryd.isAgg0
 z0 := Tryd.sizeOf0
 v0 := Tryd.zeroValue0
 t2 := Tryd.underlying2
 a2 := Tryd.isAgg2
 z2 := Tryd.sizeOf2
 v2 := Tryd.zeroValue2
 t3 := Tryd.underlying3
 a3 := Tryd.isAgg3
 z3 := Tryd.sizeOf3
 v3 := Tryd.zeroValue3
 t4 := Tryd.underlying4
 a4 := Tryd.isAgg4
 z4 := Tryd.sizeOf4
 v4 := Tryd.zeroValue4
 t5 := Tryd.underlying5
 a5 := Tryd.isAgg5
 z5 := Tryd.sizeOf5
 v5 := Tryd.zeroValue5
 t9 := Tryd.underlying9
 a9 := Tryd.isAgg9
 z9 := Tryd.sizeOf9
 v9 := Tryd.zeroValue9
 t20 := Tryd.underlying20
 a20 := Tryd.isAgg20
 z20 := Tryd.sizeOf20
 v20 := Tryd.zeroValue20
 t37 := Tryd.underlying53
 a37 := Tryd.isAgg53
 z37 := Tryd.sizeOf53
 v37 := Tryd.zeroValue53
 t46 := Tryd.underlying54
 a46 := Tryd.isAgg54
 z46 := Tryd.sizeOf54
 v46 := Tryd.zeroValue54
 t51 := Tryd.underlying110
 a51 := Tryd.isAgg110
 z51 := Tryd.sizeOf110
 v51 := Tryd.zeroValue110
 t53 := Tryd.underlying113
 a53 := Tryd.isAgg113
 z53 := Tryd.sizeOf113
 v53 := Tryd.zeroValue113
 t171 := Tryd.underlying121
 a171 := Tryd.isAgg121
 z171 := Tryd.sizeOf121
 v171 := Tryd.zeroValue121
 t173 := Tryd.underlying124
 a173 := Tryd.isAgg124
 z173 := Tryd.sizeOf124
 v173 := Tryd.zeroValue124
 t212 := Tryd.underlying134
 a212 := Tryd.isAgg134
 z212 := Tryd.sizeOf134
 v212 := Tryd.zeroValue134
 t213 := Tryd.underlying135
 a213 := Tryd.isAgg135
 z213 := Tryd.sizeOf135
 t232 := Tryd.underlying143
 a232 := Tryd.isAgg143
 z232 := Tryd.sizeOf143
 v232 := Tryd.zeroValue143
 t233 := Tryd.underlying144
 a233 := Tryd.isAgg144
 z233 := Tryd.sizeOf144
 v233 := Tryd.zeroValue144
 g17 := by kernel_rfl
 g18 := by kernel_rfl
 g19 := by kernel_rfl
 i0 := by kernel_rfl
 i2 := by kernel_rfl
 i3 := by kernel_rfl
 i4 := by kernel_rfl
 i5 := by kernel_rfl
 i9 := by kernel_rfl
 i20 := by kernel_rfl
 i37 := by kernel_rfl
 i46 := by kernel_rfl
 i51 := by kernel_rfl
 i53 := by kernel_rfl
 i171 := by kernel_rfl
 i173 := by kernel_rfl
 i212 := by kernel_rfl
 i232 := by kernel_rfl
 i233 := by kernel_rfl
 m17 := by kernel_rfl
 m18 := by kernel_rfl
 m19 := by kernel_rfl }
open Go.RowKit Go.Sort Go.Lib in
theorem Tryd.strconv_Itoa (n : Int) (h0 : -9223372036854775808 ≤ n) (h1 : n ≤ 9223372036854775807) (w : World) (htab : Lib.TabIs Tryd.prog w "internal/strconv.uint64pow10" .u64 Lib.pow10Tab) :
  Calls Tryd.prog 45 #[.int .i64 n] w fun e w' => e = .returned (.string ⟨(Lib.itoa n).toArray⟩) ∧ ∃ k os, w' = grow (w.drewN k) os := Any.strconv_Itoa Tryd.laysM171 n h0 h1 w htab
end Go.Proofs

/- strings.Join, Count, Split, laid at this translation. -/
namespace Go.Proofs
open Go.Shelf Go.RowKit
def Tryd.lays156_ren : Go.Shelf.Ren := ⟨fun | 156 => 56 | 165 => 68 | 166 => 26 | 169 => 28 | 240 => 44 | 241 => 81 | 276 => 54 | 277 => 92 | n => n, fun | 31 => 89 | 9 => 9 | 3 => 3 | 4 => 4 | 0 => 0 | 20 => 20 | 72 => 66 | 76 => 67 | 70 => 64 | 37 => 53 | 75 => 27 | 127 => 86 | 164 => 96 | 5 => 5 | 80 => 70 | n => n, fun | n => n⟩
theorem Tryd.lays156 : Go.Proofs.Lays.n156 Tryd.prog Tryd.lays156_ren := {
 mixed := by kernel_rfl
 f156 := Tryd.func56.trans (congrArg some (by kernel_rfl))
 f165 := Tryd.func68.trans (congrArg some (by kernel_rfl))
 f166 := Tryd.func26.trans (congrArg some (by kernel_rfl))
 f169 := Tryd.func28.trans (congrArg some (by kernel_rfl))
 f240 := Tryd.func44.trans (congrArg some (by kernel_rfl))
 f241 := Tryd.func81.trans (congrArg some (by kernel_rfl))
 f276 := Tryd.func54.trans (congrArg some (by kernel_rfl))
 f277 := Tryd.func92.trans (congrArg some (by kernel_rfl))
 t0 := Tryd.underlying0
 a0 := Tryd.isAgg0
 z0 := Tryd.sizeOf0
 v0 := Tryd.zeroValue0
 t3 := Tryd.underlying3
 a3 := Tryd.isAgg3
 z3 := Tryd.sizeOf3
 v3 := Tryd.zeroValue3
 t4 := Tryd.underlying4
 a4 := Tryd.isAgg4
 z4 := Tryd.sizeOf4
 v4 := Tryd.zeroValue4
 t9 := Tryd.underlying9
 a9 := Tryd.isAgg9
 z9 := Tryd.sizeOf9
 v9 := Tryd.zeroValue9
 t20 := Tryd.underlying20
 a20 := Tryd.isAgg20
 z20 := Tryd.sizeOf20
 v20 := Tryd.zeroValue20
 t31 := Tryd.underlying89
 a31 := Tryd.isAgg89
 z31 := Tryd.sizeOf89
 v31 := Tryd.zeroValue89
 t37 := Tryd.underlying53
 a37 := Tryd.isAgg53
 z37 := Tryd.sizeOf53
 v37 := Tryd.zeroValue53
 t70 := Tryd.underlying64
 a70 := Tryd.isAgg64
 z70 := Tryd.sizeOf64
 v70 := Tryd.zeroValue64
 t72 := Tryd.underlying66
 a72 := Tryd.isAgg66
 z72 := Tryd.sizeOf66
 v72 := Tryd.zeroValue66
 t75 := Tryd.underlying27
 a75 := Tryd.isAgg27
 z75 := Tryd.sizeOf27
 v75 := Tryd.zeroValue27
 t76 := Tryd.underlying67
 a76 := Tryd.isAgg67
 z76 := Tryd.sizeOf67
 v76 := Tryd.zeroValue67
 t127 := Tryd.underlying86
 a127 := Tryd.isAgg86
 z127 := Tryd.sizeOf86
 v127 := Tryd.zeroValue86
 t164 := Tryd.underlying96
 a164 := Tryd.isAgg96
 z164 := Tryd.sizeOf96
 v164 := Tryd.zeroValue96 }
theorem Tryd.Builder_Extra_156 : Builder.Extra Tryd.prog Tryd.lays156_ren := {
 sizeBuilder := by kernel_rfl
 liesBuilder := by kernel_rfl
 t5 := Tryd.underlying5
 a5 := Tryd.isAgg5
 z5 := Tryd.sizeOf5
 v5 := Tryd.zeroValue5
 infoByte := by kernel_rfl
 cellsByte := by kernel_rfl
 sizeByte := by kernel_rfl
 neB5 := by decide }
open Go.RowKit in
theorem Tryd.strings_Join (bk o c : Nat) (xs : List ByteArray) (sep : ByteArray) (w : World) (hcells : ∀ (j : Nat) x, xs[j]? = some x → w.cell? ⟨bk, o + j, none⟩ = some (.string x)) (hbk : bk < w.heap.size) (hN : xs.length ≤ 140737488355328) (hcap : xs.length ≤ c) (hlen : (Lib.join (xs.map (·.data.toList)) sep.data.toList).length ≤ 140737488355328) :
  Calls Tryd.prog 56 #[.slice (some ⟨bk, o, none⟩) xs.length c, .string sep] w fun e w' => e = .returned (.string ⟨(Lib.join (xs.map (·.data.toList)) sep.data.toList).toArray⟩) ∧ Below w.heap.size w w' := Any.strings_Join Tryd.lays156 Tryd.Builder_Extra_156 bk o c xs sep w hcells hbk hN hcap hlen
def Tryd.lays138_ren : Go.Shelf.Ren := ⟨fun | 138 => 75 | 195 => 84 | 218 => 86 | 143 => 76 | 219 => 47 | 217 => 57 | 225 => 58 | 224 => 59 | 267 => 60 | 266 => 69 | 314 => 70 | n => n, fun | 9 => 9 | 3 => 3 | 4 => 4 | 5 => 5 | 0 => 0 | 46 => 54 | 146 => 111 | 51 => 110 | n => n, fun | 1 => 0 | n => n⟩
theorem Tryd.lays138 : Go.Proofs.Lays.n138 Tryd.prog Tryd.lays138_ren := {
 mixed := by kernel_rfl
 f138 := Tryd.func75.trans (congrArg some (by kernel_rfl))
 f143 := Tryd.func76.trans (congrArg some (by kernel_rfl))
 f195 := Tryd.func84.trans (congrArg some (by kernel_rfl))
 f217 := Tryd.func57.trans (congrArg some (by kernel_rfl))
 f218 := Tryd.func86.trans (congrArg some (by kernel_rfl))
 f219 := Tryd.func47.trans (congrArg some (by kernel_rfl))
 f224 := Tryd.func59.trans (congrArg some (by kernel_rfl))
 f225 := Tryd.func58.trans (congrArg some (by kernel_rfl))
 f266 := Tryd.func69.trans (congrArg some (by kernel_rfl))
 f267 := Tryd.func60.trans (congrArg some (by kernel_rfl))
 f314 := Tryd.func70.trans (congrArg some (by kernel_rfl))
 t0 := Tryd.underlying0
 a0 := Tryd.isAgg0
 z0 := Tryd.sizeOf0
 v0 := Tryd.zeroValue0
 t3 := Tryd.underlying3
 a3 := Tryd.isAgg3
 z3 := Tryd.sizeOf3
 v3 := Tryd.zeroValue3
 t4 := Tryd.underlying4
 a4 := Tryd.isAgg4
 z4 := Tryd.sizeOf4
 v4 := Tryd.zeroValue4
 t5 := Tryd.underlying5
 a5 := Tryd.isAgg5
 z5 := Tryd.sizeOf5
 v5 := Tryd.zeroValue5
 t9 := Tryd.underlying9
 a9 := Tryd.isAgg9
 z9 := Tryd.sizeOf9
 v9 := Tryd.zeroValue9
 t46 := Tryd.underlying54
 a46 := Tryd.isAgg54
 z46 := Tryd.sizeOf54
 v46 := Tryd.zeroValue54
 t51 := Tryd.underlying110
 a51 := Tryd.isAgg110
 z51 := Tryd.sizeOf110
 v51 := Tryd.zeroValue110
 t146 := Tryd.underlying111
 a146 := Tryd.isAgg111
 z146 := Tryd.sizeOf111
 v146 := Tryd.zeroValue111
 g1 := by kernel_rfl }
open Go.RowKit Go.Lib in
theorem Tryd.strings_Count_one (s : ByteArray) (c : UInt8) (w : World) :
  Calls Tryd.prog 75 #[.string s, .string ⟨#[c]⟩] w fun e w' => e = .returned (.int .i64 (Lib.countByte s.data.toList c)) ∧ w' = w := Any.strings_Count_one Tryd.lays138 s c w
end Go.Proofs

/- pack.numbers: numbers' texts, with blanks between. -/
namespace Go.Proofs.YtmalhbkmfddhoaaDoor
open Go.RowKit

def TabP (w : World) : Prop := Lib.TabIs Tryd.prog w "internal/strconv.uint64pow10" .u64 Lib.pow10Tab

theorem TabP.below {w w' : World} (h : TabP w) (hb : Below w.heap.size w w') : TabP w' := by
 unfold TabP Lib.TabIs World.var? at h ⊢
 obtain ⟨g, hg⟩ : ∃ g, Tryd.prog.globalNamed "internal/strconv.uint64pow10" = some g := by
  cases hg : Tryd.prog.globalNamed "internal/strconv.uint64pow10" with
  | none => rw [hg] at h; cases h
  | some g => exact ⟨g, rfl⟩
 rw [hg] at h ⊢
 simp only [Option.bind_some] at h ⊢
 have hlt : g < w.heap.size := by
  rcases Nat.lt_or_ge g w.heap.size with h' | h'
  ·exact h'
  ·rw [Array.getElem?_eq_none h'] at h; cases h
 rw [hb.block g hlt]
 exact h

def itoS (z : Int) : ByteArray := ⟨(Lib.itoa z).toArray⟩

theorem itoaP_any (W : World) (ht : TabP W) (z : Int) (h0 : -9223372036854775808 ≤ z) (h1 : z ≤ 9223372036854775807) :
  Calls Tryd.prog 45 #[.int .i64 z] W fun e w' => e = .returned (.string (itoS z)) ∧ Below W.heap.size W w' := by
 refine (Go.Proofs.Tryd.strconv_Itoa z h0 h1 W ht).mono ?_
 rintro e w' ⟨rfl, n, os, rfl⟩
 refine ⟨rfl, rfl, rfl, rfl, by simp [Go.Sort.grow], fun j hj => ?_⟩
 simp [Go.Sort.grow, Array.getElem?_append, hj]

theorem dec_len (u : Nat) (h : u < 1000) : 1 ≤ (Lib.decDigits u).length ∧ (Lib.decDigits u).length ≤ 3 := by
 rw [Lib.decDigits]
 split
 ·exact ⟨by simp, by simp⟩
 ·rw [Lib.decDigits]
  split
  ·exact ⟨by simp, by simp⟩
  ·rw [Lib.decDigits, dif_pos (by omega)]
   exact ⟨by simp, by simp⟩

theorem ito_len {z : Int} (h1 : -999 ≤ z) (h2 : z ≤ 999) : 1 ≤ (Lib.itoa z).length ∧ (Lib.itoa z).length ≤ 4 := by
 unfold Lib.itoa
 split
 ·have := dec_len z.natAbs (by omega)
  rw [List.length_cons]
  omega
 ·have := dec_len z.toNat (by omega)
  omega

theorem Tryd.infoStrP : (Tryd.prog.info? 9).map (fun i => (i.zero, i.size, i.bytes)) = some (some (.string ByteArray.empty), 1, 16) := by kernel_rfl

theorem run_mkSP (m : Nat) (hm : m ≤ 1000) (W : World) : (Instr.makeSlice 89 (.int .i64 (m : Int)) (.int .i64 (m : Int))).run Tryd.prog W = .ok (.slice (some ⟨W.heap.size, 0, none⟩) m m) (W.alloc (.cells (Lib.cellsOf [] m) 9)) := by
 obtain ⟨i0, hi, hz0, hz1, hz2⟩ := info_got Tryd.infoStrP
 have h := run_make (P := Tryd.prog) W 89 9 i0 (.string ByteArray.empty) (by kernel_rfl) hi hz0 .i64 .i64 m m (by omega) (by omega) (by rw [hz2]; omega) (by omega)
 rw [hz1, Int.toNat_natCast, Nat.mul_one] at h
 rw [Lib.cellsOf_nil]
 exact h

def numT (g : List Int) : List UInt8 := Lib.join (g.map Lib.itoa) [32]

theorem itoS_data (zs : List Int) : (zs.map itoS).map (·.data.toList) = zs.map Lib.itoa := by
 rw [List.map_map]
 apply List.map_congr_left
 intro z _
 simp [itoS]

def TxP (w wr : World) (P : Nat) (zs : List Int) (k : Nat) : Prop :=
 wr.heap[P]? = some (.cells (Lib.cellsOf ((zs.take k).map itoS) zs.length) 9) ∧ Below w.heap.size w wr

theorem TxP.store {w wr : World} {P : Nat} {zs : List Int} {k : Nat} (h : TxP w wr P zs k) (hP : w.heap.size ≤ P) (hk : k < zs.length) : TxP w (wr.setCell ⟨P, k, none⟩ (.string (itoS (zs.getD k 0)))) P zs (k + 1) := by
 obtain ⟨h1, h2⟩ := h
 have hl : ((zs.take k).map itoS).length = k := by rw [List.length_map, List.length_take]; omega
 have hs := heap_setCell_same wr P k _ _ (.string (itoS (zs.getD k 0))) h1
 refine ⟨?_, h2.setCell (by exact hP) _⟩
 have e : (Lib.cellsOf ((zs.take k).map itoS) zs.length).setIfInBounds k (.string (itoS (zs.getD k 0))) = Lib.cellsOf ((zs.take (k + 1)).map itoS) zs.length := by
  have := Lib.cellsOf_set (done := (zs.take k).map itoS) (N := zs.length) (by omega) (itoS (zs.getD k 0))
  rw [hl] at this
  rw [this, List.take_succ_eq_append_getElem hk, List.map_append]
  simp [List.getD_eq_getElem?_getD, hk]
 rw [← e]
 exact hs

theorem TxP.full {w wr : World} {P : Nat} {zs : List Int} (h : TxP w wr P zs zs.length) : ∀ (j : Nat) x, (zs.map itoS)[j]? = some x → wr.cell? ⟨P, 0 + j, none⟩ = some (.string x) := fun j x hx => by
 have h1 := h.1
 rw [List.take_length] at h1
 have := World.news_of_block h1 j (.string x) (by
  unfold Lib.cellsOf
  rw [List.toList_toArray, List.getElem?_append_left (by rw [List.length_map]; exact (List.getElem?_eq_some_iff.1 hx).1), List.getElem?_map, hx]
  rfl)
 have e : (⟨P, 0, none⟩ : Addr).add j = ⟨P, 0 + j, none⟩ := by unfold Addr.add; split <;> simp_all
 rwa [e] at this

set_option linter.unusedSimpArgs false in
set_option maxRecDepth 100000 in
set_option maxHeartbeats 1600000 in
theorem numbers_any (w : World) (v : Value) (g : List Int) (ht : TabP w) (hv : RowS w v g) (h0 : 0 < g.length) (h8 : g.length ≤ 100) (hlen : (numT g).length ≤ 100000) :
  Calls Tryd.prog 46 #[v] w fun e w' => e = .returned (.string ⟨(numT g).toArray⟩) ∧ Below w.heap.size w w' := by
 have HT := hide ht
 obtain ⟨ao, cap, rfl, hcap, hrange, hh⟩ := hv
 obtain ⟨vb, voff, rfl, hlt, hc⟩ := hh h0
 have HRG := hide hrange; have HC := hide hc; have HLT := hide hlt; have HLN := hide hlen
 clear ht hh hrange hc hlt hlen
 have hmk := run_mkSP g.length (by omega)
 have HI : Hid (TxP w (w.alloc (.cells (Lib.cellsOf [] g.length) 9)) w.heap.size g 0) := ⟨heap_alloc_new w _, (Below.refl _ _).alloc (Nat.le_refl _) _⟩
 go_enter Tryd.func46, Tryd.ntmps46
 go_wp2
 clear hmk
 go_loopw [10] (fun i wr => ∃ k : Nat, k ≤ g.length ∧ i = .int .i64 k ∧ TxP w wr w.heap.size g k) (fun i _ => g.length - (intOf i).toNat)
 case atStart => exact ⟨0, Nat.zero_le _, rfl, HI.out⟩
 case round =>
  clear HI
  obtain ⟨k, hk, rfl, hinv⟩ := hrel
  have HI := hide hinv
  clear hinv
  by_cases hkl : k < g.length
  ·have a0 := (HI.out.2.cell (p := ⟨vb, voff + k, none⟩) HLT.out).trans (HC.out k hkl)
   have HST := hide (fun (W : World) (h : TxP w W w.heap.size g k) => h.store (Nat.le_refl _) hkl)
   have hrz := HRG.out k
   generalize g.getD k 0 = z at *
   have HRZ := hide hrz
   clear hrz
   go_wp2_with fail
   refine (itoaP_any wr (HT.out.below HI.out.2) z HRZ.out.1 HRZ.out.2).mono ?_
   rintro e w1 ⟨rfl, hb⟩
   have HI1 := hide (show TxP w w1 w.heap.size g k from ⟨(hb.block _ (heap_lt HI.out.1)).trans HI.out.1, HI.out.2.trans (hb.mono HI.out.2.size)⟩)
   have hll : ((g.take k).map itoS).length = k := by rw [List.length_map, List.length_take]; omega
   have hcell : w1.cell? ⟨w.heap.size, k, none⟩ = some (.string ByteArray.empty) := by
    have h := Lib.cellsOf_next (done := (g.take k).map itoS) (N := g.length) (by omega)
    rw [hll] at h
    have := World.news_of_block HI1.out.1 k (.string ByteArray.empty) (by rw [← h]; simp)
    have e : (⟨w.heap.size, 0, none⟩ : Addr).add k = ⟨w.heap.size, k, none⟩ := by unfold Addr.add; split <;> simp_all
    rwa [e] at this
   have hfr : w1.frozen? ⟨w.heap.size, k, none⟩ = false := by
    have h := HI1.out.1
    simp [World.frozen?, h]
   have HN := hide (HST.out w1 HI1.out)
   clear hb HST HI HI1 hll a0
   go_wp2
   go_roundw
   case rel => exact ⟨k + 1, by omega, by go_num, HN.out⟩
   case measure => simp [intOf]; omega
  ·obtain rfl : k = g.length := by omega
   have HJ := hide (Go.Proofs.Tryd.strings_Join w.heap.size 0 g.length (g.map itoS) ⟨#[32]⟩ wr HI.out.full (heap_lt HI.out.1) (by rw [List.length_map]; omega) (by rw [List.length_map]; exact Nat.le_refl _) (by rw [itoS_data]; show (numT g).length ≤ _; have := HLN.out; omega))
   rw [List.length_map, itoS_data] at HJ
   have HBE := hide HI.out.2
   clear HI
   go_wp2_with fail
   refine HJ.out.mono ?_
   rintro e w1 ⟨rfl, hb⟩
   have HF := hide (show Below w.heap.size w w1 from HBE.out.trans (hb.mono HBE.out.size))
   have e1 : (Lib.join (g.map Lib.itoa) (⟨#[32]⟩ : ByteArray).data.toList) = numT g := rfl
   rw [e1]
   clear hb HJ HBE e1
   go_wp2
   go_ret
   exact ⟨rfl, HF.out⟩

end Go.Proofs.YtmalhbkmfddhoaaDoor

/- bag: a catalog's lattices, in memory of their own. -/
namespace Go.Proofs.YtmalhbkmfddhoaaDoor
open Go.RowKit

theorem run_mkN (m : Nat) (hm : m ≤ 1000) (W : World) : (Instr.makeSlice 23 (.int .i64 (m : Int)) (.int .i64 (m : Int))).run Tryd.prog W = .ok (.slice (some ⟨W.heap.size, 0, none⟩) m m) (W.alloc (.cells (madeCells #[.string ⟨#[]⟩, .int .i64 0, .slice none 0 0] (m * 3)) 50)) := by
 obtain ⟨i0, hi, hz0, hz1, hz2⟩ := info_got Tryd.infoNamed
 have h := run_make (P := Tryd.prog) W 23 50 i0 (.agg #[.string ⟨#[]⟩, .int .i64 0, .slice none 0 0]) (by kernel_rfl) hi hz0 .i64 .i64 m m (by omega) (by omega) (by rw [hz2]; omega) (by omega)
 rw [hz1, Int.toNat_natCast] at h
 exact h

theorem made_three (m : Nat) : (madeCells #[.string ⟨#[]⟩, .int .i64 0, .slice none 0 0] (m * 3)).toList = (List.replicate m [Value.string ⟨#[]⟩, .int .i64 0, .slice none 0 0]).flatten := by
 induction m with
 | zero => simp [madeCells]
 | succ m ih =>
  have e : (madeCells #[.string ⟨#[]⟩, .int .i64 0, .slice none 0 0] ((m + 1) * 3)).toList = (madeCells #[.string ⟨#[]⟩, .int .i64 0, .slice none 0 0] (m * 3)).toList ++ [Value.string ⟨#[]⟩, .int .i64 0, .slice none 0 0] := by
   unfold madeCells
   rw [Array.toList_map, Array.toList_map, Array.toList_range, Array.toList_range, show (m + 1) * 3 = m * 3 + 1 + 1 + 1 by omega, List.range_succ, List.range_succ, List.range_succ]
   simp only [List.map_append, List.map_cons, List.map_nil, List.append_assoc, List.cons_append, List.nil_append]
   have h0 : m * 3 % 3 = 0 := by omega
   have h1 : (m * 3 + 1) % 3 = 1 := by omega
   have h2 : (m * 3 + 1 + 1) % 3 = 2 := by omega
   simp [h0, h1, h2]
  rw [e, ih, List.replicate_succ', List.flatten_append]; simp

structure FillN (w wr : World) (base P n k : Nat) (rs : List Nc) : Prop where
 own : wr.ownsRow base 50 3 (.slice (some ⟨P, 0, none⟩) n n) n (rs.flatMap Nc.cells ++ (List.replicate (n - k) [Value.string ⟨#[]⟩, .int .i64 0, .slice none 0 0]).flatten)
 len : rs.length = k
 ins : ∀ q ∈ rs, NcFresh (P + 1) wr q
 below : Below w.heap.size w wr

theorem FillN.start (w W : World) (n : Nat) (hb : Below w.heap.size w W) (hn : n ≤ maxLen) : FillN w (W.alloc (.cells (madeCells #[.string ⟨#[]⟩, .int .i64 0, .slice none 0 0] (n * 3)) 50)) W.heap.size W.heap.size n 0 [] where
 own := by
  refine ⟨by rw [List.flatMap_nil, List.nil_append, Nat.sub_zero, ← made_three, Array.length_toList, size_madeCells], .inr ⟨W.heap.size, n, _, rfl, Nat.le_refl _, heap_alloc_new W _, Nat.le_refl _, hn, by rw [size_madeCells], ?_⟩⟩
  rw [made_three, List.flatMap_nil, List.nil_append, Nat.sub_zero]
  exact List.take_of_length_le (by rw [← made_three, Array.length_toList, size_madeCells]; exact Nat.le_refl _)
 len := rfl
 ins := fun _ h => by cases h
 below := hb.alloc hb.size _

theorem FillN.later {w wr w' : World} {base P n k : Nat} {rs : List Nc} (h : FillN w wr base P n k rs) (hb : Below wr.heap.size wr w') : FillN w w' base P n k rs :=
 ⟨ownsRow_later h.own hb, h.len, fun g hg => (h.ins g hg).later hb, h.below.trans (hb.mono h.below.size)⟩

theorem FillN.cell {w wr : World} {base P n k : Nat} {rs : List Nc} (h : FillN w wr base P n k rs) (hk : k < n) : wr.cell? ⟨P, k * 3, none⟩ = some (.string ⟨#[]⟩) ∧ wr.cell? ⟨P, k * 3 + 1, none⟩ = some (.int .i64 0) ∧ wr.cell? ⟨P, k * 3 + 2, none⟩ = some (.slice none 0 0) ∧ ∀ j, wr.frozen? ⟨P, j, none⟩ = false := by
 obtain ⟨g, cap, e, -, hc⟩ := own_at h.own (by omega)
 simp only [Value.slice.injEq, Option.some.injEq, Addr.mk.injEq, and_true, true_and] at e
 obtain ⟨rfl, rfl⟩ := e
 have hl : (rs.flatMap Nc.cells).length = k * 3 := by rw [nccells_len, h.len]
 have key : ∀ j, j < 3 → (rs.flatMap Nc.cells ++ (List.replicate (n - k) [Value.string ⟨#[]⟩, .int .i64 0, .slice none 0 0]).flatten)[k * 3 + j]? = [Value.string ⟨#[]⟩, .int .i64 0, .slice none 0 0][j]? := fun j hj => by
  rw [List.getElem?_append_right (by omega), hl, show n - k = (n - k - 1) + 1 by omega, List.replicate_succ, List.flatten_cons, List.getElem?_append_left (by simp; omega), show k * 3 + j - k * 3 = j by omega]
 exact ⟨hc _ _ ((key 0 (by omega)).trans rfl), hc _ _ ((key 1 (by omega)).trans rfl), hc _ _ ((key 2 (by omega)).trans rfl), own_free h.own⟩

theorem FillN.put {w wr : World} {base P n k : Nat} {rs : List Nc} (h : FillN w wr base P n k rs) (hk : k < n) (hP : w.heap.size ≤ P) {q : Nc} (hq : NcFresh (P + 1) wr q) : FillN w (((wr.setCell ⟨P, k * 3, none⟩ (.string q.x.name)).setCell ⟨P, k * 3 + 1, none⟩ (.int .i64 q.x.n)).setCell ⟨P, k * 3 + 2, none⟩ (.slice q.o q.l q.c)) base P n (k + 1) (rs ++ [q]) where
 own := by
  have hl : (rs.flatMap Nc.cells).length = k * 3 := by rw [nccells_len, h.len]
  have h1 := own_set (own_set (own_set h.own (k * 3) (.string q.x.name)) (k * 3 + 1) (.int .i64 q.x.n)) (k * 3 + 2) (.slice q.o q.l q.c)
  have e : ((((rs.flatMap Nc.cells ++ (List.replicate (n - k) [Value.string ⟨#[]⟩, .int .i64 0, .slice none 0 0]).flatten).set (k * 3) (.string q.x.name)).set (k * 3 + 1) (.int .i64 q.x.n)).set (k * 3 + 2) (.slice q.o q.l q.c)) = (rs ++ [q]).flatMap Nc.cells ++ (List.replicate (n - (k + 1)) [Value.string ⟨#[]⟩, .int .i64 0, .slice none 0 0]).flatten := by
   rw [List.set_append_right _ _ (by omega), List.set_append_right _ _ (by omega), List.set_append_right _ _ (by omega), hl, Nat.sub_self, show k * 3 + 1 - k * 3 = 1 by omega, show k * 3 + 2 - k * 3 = 2 by omega, show n - k = (n - (k + 1)) + 1 by omega, List.replicate_succ, List.flatten_cons, List.flatMap_append, List.append_assoc]
   simp [Nc.cells]
  rw [e] at h1
  exact h1
 len := by rw [List.length_append, h.len]; rfl
 ins := fun x hx => by
  rcases List.mem_append.1 hx with h' | h'
  ·exact (((h.ins x h').set (p := ⟨P, k * 3, none⟩) (Nat.lt_succ_self P) _).set (p := ⟨P, k * 3 + 1, none⟩) (Nat.lt_succ_self P) _).set (p := ⟨P, k * 3 + 2, none⟩) (Nat.lt_succ_self P) _
  ·rw [List.mem_singleton] at h'; subst h'
   exact ((hq.set (p := ⟨P, k * 3, none⟩) (Nat.lt_succ_self P) _).set (p := ⟨P, k * 3 + 1, none⟩) (Nat.lt_succ_self P) _).set (p := ⟨P, k * 3 + 2, none⟩) (Nat.lt_succ_self P) _
 below := ((h.below.setCell (p := ⟨P, k * 3, none⟩) hP _).setCell (p := ⟨P, k * 3 + 1, none⟩) hP _).setCell (p := ⟨P, k * 3 + 2, none⟩) hP _

theorem FillN.cat {w wr : World} {base P n : Nat} {rs : List Nc} (h : FillN w wr base P n n rs) : CatN wr (.slice (some ⟨P, 0, none⟩) n n) rs := by
 have ho := h.own
 rw [Nat.sub_self, List.replicate_zero, List.flatten_nil, List.append_nil] at ho
 have hl := h.len
 subst hl
 exact catN_of_owns ho (fun q hq => (h.ins q hq).ins)

theorem One.other {W : World} {B : Nat} {u : Value} (h : One W B u) {p : Addr} (hp : p.block ≠ B) (x : Value) : One (W.setCell p x) B u :=
 ⟨(World.cell?_setCell_other _ _ _ _ (fun e => hp (by rw [e]))).trans h.1, by simpa using h.2.1, by simpa using h.2.2⟩

def CatPost (w : World) (cs : List Nmd) (e : Ending) (w' : World) : Prop := ∃ u rs, e = .returned u ∧ CatN w' u rs ∧ rs.map (·.x) = cs ∧ Below w.heap.size w w'

def CatNew (w : World) (cs : List Nmd) (e : Ending) (w' : World) : Prop := ∃ P n rs, e = .returned (.slice (some ⟨P, 0, none⟩) n n) ∧ w.heap.size < P ∧ FillN w w' P P n n rs ∧ rs.map (·.x) = cs

set_option linter.unusedSimpArgs false in
set_option maxRecDepth 100000 in
set_option maxHeartbeats 1600000 in
theorem lattices_any3 (w : World) (v : Value) (qs : List Nc) (h : CatV w v qs) (hq : qs.length ≤ 100) (hok : ∀ x ∈ qs.map (·.x), NmOk x) :
  Calls Tryd.prog 5 #[v] w fun e w' => CatNew w (qs.map (·.x)) e w' := by
 obtain ⟨u, rfl, hu⟩ := h
 obtain ⟨ao, cap, rfl, hcap, -⟩ := id hu
 have HQ := hide hu; have HOK := hide hok
 have hm := run_mkN qs.length (by omega)
 have hb1 := alloc_below w (.cells #[.slice ao qs.length cap] 25)
 have X1 := hide (One.new w (.slice ao qs.length cap) 25)
 have HB := hide hb1
 have HS : Hid ((w.alloc (.cells #[.slice ao qs.length cap] 25)).heap.size = w.heap.size + 1) := by show _ = _; simp
 obtain ⟨c0, -, -⟩ := X1.out
 clear hu hok hb1
 go_enter Tryd.func5, Tryd.ntmps5
 go_wp2_with fail
 generalize w.alloc (.cells #[.slice ao qs.length cap] 25) = W0 at *
 have HF0 := hide (FillN.start w W0 qs.length HB.out (by unfold maxLen; omega))
 have hbM := alloc_below W0 (.cells (madeCells #[.string ⟨#[]⟩, .int .i64 0, .slice none 0 0] (qs.length * 3)) 50)
 have X1M := hide (X1.out.later hbM)
 clear X1 hbM c0
 obtain ⟨c0, -, -⟩ := X1M.out
 rw [HS.out] at HF0
 generalize W0.alloc (.cells (madeCells #[.string ⟨#[]⟩, .int .i64 0, .slice none 0 0] (qs.length * 3)) 50) = W1 at *
 obtain ⟨P, hP⟩ : ∃ P, w.heap.size + 1 = P := ⟨_, rfl⟩
 rw [hP] at HF0
 rw [hP]
 have HPB : Hid (P = w.heap.size + 1) := hP.symm
 have HN : Hid (FillN w W1 P P qs.length 0 []) := HF0.out
 clear HF0 HB HS hm hP
 go_wp2_with fail
 go_loopw [12] (fun i wr => ∃ (k : Nat) (rs : List Nc), k ≤ qs.length ∧ i = .int .i64 k ∧ Hid (FillN w wr P P qs.length k rs) ∧ Hid (rs.map (·.x) = (qs.map (·.x)).take k) ∧ Hid (One wr w.heap.size (.slice ao qs.length cap))) (fun i _ => qs.length - (intOf i).toNat)
 case atStart => exact ⟨0, [], Nat.zero_le _, rfl, HN, hide (by simp), X1M⟩
 case round =>
  clear HN X1M c0
  obtain ⟨k, rs, hk, rfl, HFI, HP, X1⟩ := hrel
  obtain ⟨c0, -, -⟩ := X1.out
  by_cases hkl : k < qs.length
  ·have HQ1 := hide (HQ.out.below HFI.out.below)
   obtain ⟨b, off, cap', e⟩ := HQ1.out.form (by omega)
   simp only [Value.slice.injEq, true_and] at e
   obtain ⟨rfl, rfl⟩ := e
   obtain ⟨hlt, d0, d1, d2, hin⟩ := HQ1.out.at k hkl
   have hx := HOK.out qs[k].x (List.mem_map.2 ⟨_, List.getElem_mem hkl, rfl⟩)
   have HCO := hide (copied_any wr qs[k] hin (by have := hx.few; omega) (fun g hg => by
    have h1 := (genF_ok.1 (hx.gens g hg)).1
    have h2 := hx.n
    refine ⟨by omega, fun e => ?_⟩
    rw [e] at h1
    simp at h1
    omega))
   have HP' : Hid (∀ q : Nc, q.x = qs[k].x → (rs ++ [q]).map (·.x) = (qs.map (·.x)).take (k + 1)) := fun q e => by
    rw [List.map_append, HP.out, List.take_succ_eq_append_getElem (by rw [List.length_map]; exact hkl), List.getElem_map]; simp [e]
   clear hin hx HQ1 HP
   generalize qs[k] = q at *
   obtain ⟨⟨nm, n, gens⟩, go, gl, gc⟩ := q
   go_wp2_with fail
   refine HCO.out.mono ?_
   rintro e w2 ⟨⟨⟨nm2, n2, gens2⟩, go2, gl2, gc2⟩, rfl, hx2, hfr, hb⟩
   have HF2 := hide (HFI.out.later hb); have X2 := hide (X1.out.later hb)
   obtain ⟨y0, y1, y2, y3⟩ := HF2.out.cell hkl
   have f0 := y3 (k * 3); have f1 := y3 (k * 3 + 1); have f2 := y3 (k * 3 + 2)
   have hPw := HFI.out.own.lt P rfl
   have HN3 := hide (HF2.out.put hkl (by have := HPB.out; omega) (hfr.mono (base' := P + 1) (by omega)))
   have X3 := hide (((X2.out.other (p := ⟨P, k * 3, none⟩) (by show P ≠ w.heap.size; have := HPB.out; omega) (.string nm2)).other (p := ⟨P, k * 3 + 1, none⟩) (by show P ≠ w.heap.size; have := HPB.out; omega) (.int .i64 n2)).other (p := ⟨P, k * 3 + 2, none⟩) (by show P ≠ w.heap.size; have := HPB.out; omega) (.slice go2 gl2 gc2))
   have HP2 := hide (HP'.out _ hx2)
   clear hfr hb hx2 HFI HF2 X1 X2 c0 d0 d1 d2 y3 HCO HP' hPw
   simp only [Nc.val]
   go_wp2
   go_roundw
   case rel => exact ⟨k + 1, _, by omega, by go_num, HN3, HP2, X3⟩
   case measure => simp [intOf]; omega
  ·obtain rfl : k = qs.length := by omega
   have hpp := HP.out
   rw [List.take_of_length_le (by rw [List.length_map]; exact Nat.le_refl _)] at hpp
   have HPP := hide hpp
   clear hpp HP c0
   go_wp2
   go_ret
   exact ⟨P, qs.length, rs, rfl, by have := HPB.out; omega, HFI.out, HPP.out⟩

theorem lattices_any2 (w : World) (v : Value) (qs : List Nc) (h : CatV w v qs) (hq : qs.length ≤ 100) (hok : ∀ x ∈ qs.map (·.x), NmOk x) :
  Calls Tryd.prog 5 #[v] w fun e w' => CatPost w (qs.map (·.x)) e w' := by
 refine (lattices_any3 w v qs h hq hok).mono ?_
 rintro e w' ⟨P, n, rs, rfl, -, hf, hx⟩
 exact ⟨_, rs, rfl, hf.cat, hx, hf.below⟩

end Go.Proofs.YtmalhbkmfddhoaaDoor

/- Library functions' contracts, laid at this translation: strconv.Itoa, bits.LeadingZeros32, strings.CutPrefix, the Builder's writes and its text. -/
namespace Go.Proofs
open Go.Shelf Go.RowKit Go.Sort
def Tryd.lays171_ren : Go.Shelf.Ren := ⟨fun | 171 => 45 | 243 => 55 | 246 => 67 | 283 => 77 | 284 => 78 | 285 => 79 | 286 => 80 | 129 => 88 | 317 => 87 | 318 => 89 | 319 => 90 | 320 => 91 | 337 => 94 | 338 => 95 | n => n, fun | 3 => 3 | 9 => 9 | 2 => 2 | 4 => 4 | 171 => 121 | 0 => 0 | 53 => 113 | 37 => 53 | 5 => 5 | 173 => 124 | 212 => 134 | 51 => 110 | 20 => 20 | 213 => 135 | 46 => 54 | 232 => 143 | 233 => 144 | n => n, fun | 17 => 3 | 18 => 6 | 19 => 7 | n => n⟩
theorem Tryd.lays171 : Go.Proofs.Lays.n171 Tryd.prog Tryd.lays171_ren := {
 mixed := by kernel_rfl
 f129 := Tryd.func88.trans (congrArg some (by kernel_rfl))
 f171 := Tryd.func45.trans (congrArg some (by kernel_rfl))
 f243 := Tryd.func55.trans (congrArg some (by kernel_rfl))
 f246 := Tryd.func67.trans (congrArg some (by kernel_rfl))
 f283 := Tryd.func77.trans (congrArg some (by kernel_rfl))
 f284 := Tryd.func78.trans (congrArg some (by kernel_rfl))
 f285 := Tryd.func79.trans (congrArg some (by kernel_rfl))
 f286 := Tryd.func80.trans (congrArg some (by kernel_rfl))
 f317 := Tryd.func87.trans (congrArg some (by kernel_rfl))
 f318 := Tryd.func89.trans (congrArg some (by kernel_rfl))
 f319 := Tryd.func90.trans (congrArg some (by kernel_rfl))
 f320 := Tryd.func91.trans (congrArg some (by kernel_rfl))
 f337 := Tryd.func94.trans (congrArg some (by kernel_rfl))
 f338 := Tryd.func95.trans (congrArg some (by kernel_rfl))
 t0 := Tryd.underlying0
 a0 := Tryd.isAgg0
 z0 := Tryd.sizeOf0
 v0 := Tryd.zeroValue0
 t2 := Tryd.underlying2
 a2 := Tryd.isAgg2
 z2 := Tryd.sizeOf2
 v2 := Tryd.zeroValue2
 t3 := Tryd.underlying3
 a3 := Tryd.isAgg3
 z3 := Tryd.sizeOf3
 v3 := Tryd.zeroValue3
 t4 := Tryd.underlying4
 a4 := Tryd.isAgg4
 z4 := Tryd.sizeOf4
 v4 := Tryd.zeroValue4
 t5 := Tryd.underlying5
 a5 := Tryd.isAgg5
 z5 := Tryd.sizeOf5
 v5 := Tryd.zeroValue5
 t9 := Tryd.underlying9
 a9 := Tryd.isAgg9
 z9 := Tryd.sizeOf9
 v9 := Tryd.zeroValue9
 t20 := Tryd.underlying20
 a20 := Tryd.isAgg20
 z20 := Tryd.sizeOf20
 v20 := Tryd.zeroValue20
 t37 := Tryd.underlying53
 a37 := Tryd.isAgg53
 z37 := Tryd.sizeOf53
 v37 := Tryd.zeroValue53
 t46 := Tryd.underlying54
 a46 := Tryd.isAgg54
 z46 := Tryd.sizeOf54
 v46 := Tryd.zeroValue54
 t51 := Tryd.underlying110
 a51 := Tryd.isAgg110
 z51 := Tryd.sizeOf110
 v51 := Tryd.zeroValue110
 t53 := Tryd.underlying113
 a53 := Tryd.isAgg113
 z53 := Tryd.sizeOf113
 v53 := Tryd.zeroValue113
 t171 := Tryd.underlying121
 a171 := Tryd.isAgg121
 z171 := Tryd.sizeOf121
 v171 := Tryd.zeroValue121
 t173 := Tryd.underlying124
 a173 := Tryd.isAgg124
 z173 := Tryd.sizeOf124
 v173 := Tryd.zeroValue124
 t212 := Tryd.underlying134
 a212 := Tryd.isAgg134
 z212 := Tryd.sizeOf134
 v212 := Tryd.zeroValue134
 t213 := Tryd.underlying135
 a213 := Tryd.isAgg135
 z213 := Tryd.sizeOf135
 t232 := Tryd.underlying143
 a232 := Tryd.isAgg143
 z232 := Tryd.sizeOf143
 v232 := Tryd.zeroValue143
 t233 := Tryd.underlying144
 a233 := Tryd.isAgg144
 z233 := Tryd.sizeOf144
 v233 := Tryd.zeroValue144
 g17 := by kernel_rfl
 g18 := by kernel_rfl
 g19 := by kernel_rfl }
open Go.RowKit Go.Sort Go.Lib in
theorem Tryd.strconv_Itoa_small (i : Nat) (hi : i < 100) (w : World) :
  Calls Tryd.prog 45 #[.int .i64 i] w fun e w' => e = .returned (.string ⟨(Lib.decDigits i).toArray⟩) ∧ w' = w := Any.strconv_Itoa_small Tryd.lays171 i hi w
def Tryd.lays169_ren : Go.Shelf.Ren := ⟨fun | 169 => 28 | n => n, fun | 70 => 64 | 9 => 9 | 0 => 0 | 72 => 66 | 37 => 53 | 127 => 86 | 3 => 3 | 5 => 5 | n => n, fun | n => n⟩
theorem Tryd.lays169 : Go.Proofs.Lays.n169 Tryd.prog Tryd.lays169_ren := {
 mixed := by kernel_rfl
 f169 := Tryd.func28.trans (congrArg some (by kernel_rfl))
 t0 := Tryd.underlying0
 a0 := Tryd.isAgg0
 z0 := Tryd.sizeOf0
 v0 := Tryd.zeroValue0
 t3 := Tryd.underlying3
 a3 := Tryd.isAgg3
 z3 := Tryd.sizeOf3
 v3 := Tryd.zeroValue3
 t9 := Tryd.underlying9
 a9 := Tryd.isAgg9
 z9 := Tryd.sizeOf9
 v9 := Tryd.zeroValue9
 t37 := Tryd.underlying53
 a37 := Tryd.isAgg53
 z37 := Tryd.sizeOf53
 v37 := Tryd.zeroValue53
 t70 := Tryd.underlying64
 a70 := Tryd.isAgg64
 z70 := Tryd.sizeOf64
 v70 := Tryd.zeroValue64
 t72 := Tryd.underlying66
 a72 := Tryd.isAgg66
 z72 := Tryd.sizeOf66
 v72 := Tryd.zeroValue66
 t127 := Tryd.underlying86
 a127 := Tryd.isAgg86
 z127 := Tryd.sizeOf86
 v127 := Tryd.zeroValue86 }
theorem Tryd.Builder_Extra_169 : Builder.Extra Tryd.prog Tryd.lays169_ren := {
 sizeBuilder := by kernel_rfl
 liesBuilder := by kernel_rfl
 t5 := Tryd.underlying5
 a5 := Tryd.isAgg5
 z5 := Tryd.sizeOf5
 v5 := Tryd.zeroValue5
 infoByte := by kernel_rfl
 cellsByte := by kernel_rfl
 sizeByte := by kernel_rfl
 neB5 := by decide }
open Go.RowKit in
theorem Tryd.Builder_String_any_k (B b : Nat) (l : List UInt8) (w : World) (h : Lib.IsBuilderF 66 5 B b (Lib.byteCells l) w) (hBw : B ≤ w.heap.size) :
  Calls Tryd.prog 28 #[.pointer (some ⟨b, 0, none⟩)] w fun e w' => e = .returned (.string ⟨l.toArray⟩) ∧ (Lib.IsBuilderF 66 5 B b (Lib.byteCells l) w' ∧ Below B w w' ∧ Lib.OthersKept 5 (some b) w w') := Any.Builder_String_any_k Tryd.lays169 Tryd.Builder_Extra_169 B b l w h hBw
def Tryd.lays166_ren : Go.Shelf.Ren := ⟨fun | 166 => 26 | 240 => 44 | 276 => 54 | n => n, fun | 0 => 0 | 3 => 3 | 4 => 4 | 5 => 5 | 9 => 9 | 20 => 20 | 37 => 53 | 70 => 64 | 72 => 66 | 75 => 27 | 80 => 70 | 164 => 96 | n => n, fun | n => n⟩
theorem Tryd.lays166 : Go.Proofs.Lays.n166 Tryd.prog Tryd.lays166_ren := {
 mixed := by kernel_rfl
 f166 := Tryd.func26.trans (congrArg some (by kernel_rfl))
 f240 := Tryd.func44.trans (congrArg some (by kernel_rfl))
 f276 := Tryd.func54.trans (congrArg some (by kernel_rfl))
 t0 := Tryd.underlying0
 a0 := Tryd.isAgg0
 z0 := Tryd.sizeOf0
 v0 := Tryd.zeroValue0
 t3 := Tryd.underlying3
 a3 := Tryd.isAgg3
 z3 := Tryd.sizeOf3
 v3 := Tryd.zeroValue3
 t4 := Tryd.underlying4
 a4 := Tryd.isAgg4
 z4 := Tryd.sizeOf4
 v4 := Tryd.zeroValue4
 t9 := Tryd.underlying9
 a9 := Tryd.isAgg9
 z9 := Tryd.sizeOf9
 v9 := Tryd.zeroValue9
 t20 := Tryd.underlying20
 a20 := Tryd.isAgg20
 z20 := Tryd.sizeOf20
 v20 := Tryd.zeroValue20
 t37 := Tryd.underlying53
 a37 := Tryd.isAgg53
 z37 := Tryd.sizeOf53
 v37 := Tryd.zeroValue53
 t70 := Tryd.underlying64
 a70 := Tryd.isAgg64
 z70 := Tryd.sizeOf64
 v70 := Tryd.zeroValue64
 t72 := Tryd.underlying66
 a72 := Tryd.isAgg66
 z72 := Tryd.sizeOf66
 v72 := Tryd.zeroValue66
 t75 := Tryd.underlying27
 a75 := Tryd.isAgg27
 z75 := Tryd.sizeOf27
 v75 := Tryd.zeroValue27
 t164 := Tryd.underlying96
 a164 := Tryd.isAgg96
 z164 := Tryd.sizeOf96
 v164 := Tryd.zeroValue96 }
theorem Tryd.Builder_Extra_166 : Builder.Extra Tryd.prog Tryd.lays166_ren := {
 sizeBuilder := by kernel_rfl
 liesBuilder := by kernel_rfl
 t5 := Tryd.underlying5
 a5 := Tryd.isAgg5
 z5 := Tryd.sizeOf5
 v5 := Tryd.zeroValue5
 infoByte := by kernel_rfl
 cellsByte := by kernel_rfl
 sizeByte := by kernel_rfl
 neB5 := by decide }
open Go.RowKit in
theorem Tryd.Builder_WriteString_k (B b : Nat) (bs : List Value) (s : ByteArray) (w : World) (h : Lib.IsBuilderF 66 5 B b bs w) (hlen : bs.length + s.size ≤ 140737488355328) (hBw : B ≤ w.heap.size) :
  Calls Tryd.prog 26 #[.pointer (some ⟨b, 0, none⟩), .string s] w fun e w' => e = .returned (.tuple #[.int .i64 s.size, .nilIface]) ∧ (Lib.BuilderAtF 66 5 B b (.pointer (some ⟨b, 0, none⟩)) (bs ++ Lib.strCells s) w' ∧ Below B w w' ∧ Lib.OthersKept 5 (some b) w w') := Any.Builder_WriteString_k Tryd.lays166 Tryd.Builder_Extra_166 B b bs s w h hlen hBw
end Go.Proofs
