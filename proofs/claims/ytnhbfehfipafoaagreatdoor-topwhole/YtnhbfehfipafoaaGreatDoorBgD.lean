/- strings.Join, Count, Split, laid at this translation. -/
import Derived.Shelf.Strings.OnBuilder
import Derived.Shelf.Strings.Count
import Derived.Shelf.Strings.Split
import Derived.Test.YtnhbfehfipafoaaGreatDoorProg
import Derived.Test.YtnhbfehfipafoaaGreatDoorUpP
import Derived.Test.YtnhbfehfipafoaaGreatDoorStrM
import Derived.Test.YtnhbfehfipafoaaGreatDoorShelfI
import Derived.Lib.Split
import Derived.Lib.Join
import Derived.Test.YtnhbfehfipafoaaGreatDoorBgC

namespace Go.Proofs
open Go.Shelf Go.RowKit
def Tryz.lays156_ren : Go.Shelf.Ren := ⟨fun | 156 => 136 | 165 => 154 | 166 => 85 | 169 => 86 | 240 => 109 | 241 => 168 | 276 => 130 | 277 => 179 | n => n, fun | 31 => 126 | 9 => 9 | 3 => 3 | 4 => 4 | 0 => 0 | 20 => 20 | 72 => 149 | 76 => 121 | 70 => 147 | 37 => 142 | 75 => 27 | 127 => 172 | 164 => 188 | 5 => 5 | 80 => 151 | n => n, fun | n => n⟩
theorem Tryz.lays156 : Go.Proofs.Lays.n156 Tryz.prog Tryz.lays156_ren := {
 mixed := by kernel_rfl
 f156 := Tryz.func136.trans (congrArg some (by kernel_rfl))
 f165 := Tryz.func154.trans (congrArg some (by kernel_rfl))
 f166 := Tryz.func85.trans (congrArg some (by kernel_rfl))
 f169 := Tryz.func86.trans (congrArg some (by kernel_rfl))
 f240 := Tryz.func109.trans (congrArg some (by kernel_rfl))
 f241 := Tryz.func168.trans (congrArg some (by kernel_rfl))
 f276 := Tryz.func130.trans (congrArg some (by kernel_rfl))
 f277 := Tryz.func179.trans (congrArg some (by kernel_rfl))
 t0 := Tryz.underlying0
 a0 := Tryz.isAgg0
 z0 := Tryz.sizeOf0
 v0 := Tryz.zeroValue0
 t3 := Tryz.underlying3
 a3 := Tryz.isAgg3
 z3 := Tryz.sizeOf3
 v3 := Tryz.zeroValue3
 t4 := Tryz.underlying4
 a4 := Tryz.isAgg4
 z4 := Tryz.sizeOf4
 v4 := Tryz.zeroValue4
 t9 := Tryz.underlying9
 a9 := Tryz.isAgg9
 z9 := Tryz.sizeOf9
 v9 := Tryz.zeroValue9
 t20 := Tryz.underlying20
 a20 := Tryz.isAgg20
 z20 := Tryz.sizeOf20
 v20 := Tryz.zeroValue20
 t31 := Tryz.underlying126
 a31 := Tryz.isAgg126
 z31 := Tryz.sizeOf126
 v31 := Tryz.zeroValue126
 t37 := Tryz.underlying142
 a37 := Tryz.isAgg142
 z37 := Tryz.sizeOf142
 v37 := Tryz.zeroValue142
 t70 := Tryz.underlying147
 a70 := Tryz.isAgg147
 z70 := Tryz.sizeOf147
 v70 := Tryz.zeroValue147
 t72 := Tryz.underlying149
 a72 := Tryz.isAgg149
 z72 := Tryz.sizeOf149
 v72 := Tryz.zeroValue149
 t75 := Tryz.underlying27
 a75 := Tryz.isAgg27
 z75 := Tryz.sizeOf27
 v75 := Tryz.zeroValue27
 t76 := Tryz.underlying121
 a76 := Tryz.isAgg121
 z76 := Tryz.sizeOf121
 v76 := Tryz.zeroValue121
 t127 := Tryz.underlying172
 a127 := Tryz.isAgg172
 z127 := Tryz.sizeOf172
 v127 := Tryz.zeroValue172
 t164 := Tryz.underlying188
 a164 := Tryz.isAgg188
 z164 := Tryz.sizeOf188
 v164 := Tryz.zeroValue188 }
theorem Tryz.Builder_Extra_156 : Builder.Extra Tryz.prog Tryz.lays156_ren := {
 sizeBuilder := by kernel_rfl
 liesBuilder := by kernel_rfl
 t5 := Tryz.underlying5
 a5 := Tryz.isAgg5
 z5 := Tryz.sizeOf5
 v5 := Tryz.zeroValue5
 infoByte := by kernel_rfl
 cellsByte := by kernel_rfl
 sizeByte := by kernel_rfl
 neB5 := by decide }
open Go.RowKit in
theorem Tryz.strings_Join (bk o c : Nat) (xs : List ByteArray) (sep : ByteArray) (w : World) (hcells : ∀ (j : Nat) x, xs[j]? = some x → w.cell? ⟨bk, o + j, none⟩ = some (.string x)) (hbk : bk < w.heap.size) (hN : xs.length ≤ 140737488355328) (hcap : xs.length ≤ c) (hlen : (Lib.join (xs.map (·.data.toList)) sep.data.toList).length ≤ 140737488355328) :
  Calls Tryz.prog 136 #[.slice (some ⟨bk, o, none⟩) xs.length c, .string sep] w fun e w' => e = .returned (.string ⟨(Lib.join (xs.map (·.data.toList)) sep.data.toList).toArray⟩) ∧ Below w.heap.size w w' := Any.strings_Join Tryz.lays156 Tryz.Builder_Extra_156 bk o c xs sep w hcells hbk hN hcap hlen
def Tryz.lays138_ren : Go.Shelf.Ren := ⟨fun | 138 => 162 | 195 => 171 | 218 => 173 | 143 => 163 | 219 => 131 | 217 => 143 | 225 => 144 | 224 => 145 | 267 => 146 | 266 => 156 | 314 => 157 | n => n, fun | 9 => 9 | 3 => 3 | 4 => 4 | 5 => 5 | 0 => 0 | 46 => 184 | 146 => 216 | 51 => 89 | n => n, fun | 1 => 0 | n => n⟩
theorem Tryz.lays138 : Go.Proofs.Lays.n138 Tryz.prog Tryz.lays138_ren := {
 mixed := by kernel_rfl
 f138 := Tryz.func162.trans (congrArg some (by kernel_rfl))
 f143 := Tryz.func163.trans (congrArg some (by kernel_rfl))
 f195 := Tryz.func171.trans (congrArg some (by kernel_rfl))
 f217 := Tryz.func143.trans (congrArg some (by kernel_rfl))
 f218 := Tryz.func173.trans (congrArg some (by kernel_rfl))
 f219 := Tryz.func131.trans (congrArg some (by kernel_rfl))
 f224 := Tryz.func145.trans (congrArg some (by kernel_rfl))
 f225 := Tryz.func144.trans (congrArg some (by kernel_rfl))
 f266 := Tryz.func156.trans (congrArg some (by kernel_rfl))
 f267 := Tryz.func146.trans (congrArg some (by kernel_rfl))
 f314 := Tryz.func157.trans (congrArg some (by kernel_rfl))
 t0 := Tryz.underlying0
 a0 := Tryz.isAgg0
 z0 := Tryz.sizeOf0
 v0 := Tryz.zeroValue0
 t3 := Tryz.underlying3
 a3 := Tryz.isAgg3
 z3 := Tryz.sizeOf3
 v3 := Tryz.zeroValue3
 t4 := Tryz.underlying4
 a4 := Tryz.isAgg4
 z4 := Tryz.sizeOf4
 v4 := Tryz.zeroValue4
 t5 := Tryz.underlying5
 a5 := Tryz.isAgg5
 z5 := Tryz.sizeOf5
 v5 := Tryz.zeroValue5
 t9 := Tryz.underlying9
 a9 := Tryz.isAgg9
 z9 := Tryz.sizeOf9
 v9 := Tryz.zeroValue9
 t46 := Tryz.underlying184
 a46 := Tryz.isAgg184
 z46 := Tryz.sizeOf184
 v46 := Tryz.zeroValue184
 t51 := Tryz.underlying89
 a51 := Tryz.isAgg89
 z51 := Tryz.sizeOf89
 v51 := Tryz.zeroValue89
 t146 := Tryz.underlying216
 a146 := Tryz.isAgg216
 z146 := Tryz.sizeOf216
 v146 := Tryz.zeroValue216
 g1 := by kernel_rfl }
open Go.RowKit Go.Lib in
theorem Tryz.strings_Count_one (s : ByteArray) (c : UInt8) (w : World) :
  Calls Tryz.prog 162 #[.string s, .string ⟨#[c]⟩] w fun e w' => e = .returned (.int .i64 (Lib.countByte s.data.toList c)) ∧ w' = w := Any.strings_Count_one Tryz.lays138 s c w
end Go.Proofs

/- pack.numbers: numbers' texts, with blanks between. -/
namespace Go.Proofs.YtnhbfehfipafoaaGreatDoor
open Go.RowKit

def TabP (w : World) : Prop := Lib.TabIs Tryz.prog w "internal/strconv.uint64pow10" .u64 Lib.pow10Tab

theorem TabP.below {w w' : World} (h : TabP w) (hb : Below w.heap.size w w') : TabP w' := by
 unfold TabP Lib.TabIs World.var? at h ⊢
 obtain ⟨g, hg⟩ : ∃ g, Tryz.prog.globalNamed "internal/strconv.uint64pow10" = some g := by
  cases hg : Tryz.prog.globalNamed "internal/strconv.uint64pow10" with
  | none => rw [hg] at h; cases h
  | some g => exact ⟨g, rfl⟩
 rw [hg] at h ⊢
 simp only [Option.bind_some] at h ⊢
 have hlt : g < w.heap.size := by
  rcases Nat.lt_or_ge g w.heap.size with h' | h'
  ·exact h'
  ·rw [Array.getElem?_eq_none h'] at h; cases h
 rw [hb.block g hlt]
 exact h

def itoS (z : Int) : ByteArray := ⟨(Lib.itoa z).toArray⟩

theorem itoaP_any (W : World) (ht : TabP W) (z : Int) (h0 : -9223372036854775808 ≤ z) (h1 : z ≤ 9223372036854775807) :
  Calls Tryz.prog 114 #[.int .i64 z] W fun e w' => e = .returned (.string (itoS z)) ∧ Below W.heap.size W w' := by
 refine (Go.Proofs.Tryz.strconv_Itoa z h0 h1 W ht).mono ?_
 rintro e w' ⟨rfl, n, os, rfl⟩
 refine ⟨rfl, rfl, rfl, rfl, by simp [Go.Sort.grow], fun j hj => ?_⟩
 simp [Go.Sort.grow, Array.getElem?_append, hj]

theorem dec_len (u : Nat) (h : u < 1000) : 1 ≤ (Lib.decDigits u).length ∧ (Lib.decDigits u).length ≤ 3 := by
 rw [Lib.decDigits]
 split
 ·exact ⟨by simp, by simp⟩
 ·rw [Lib.decDigits]
  split
  ·exact ⟨by simp, by simp⟩
  ·rw [Lib.decDigits, dif_pos (by omega)]
   exact ⟨by simp, by simp⟩

theorem ito_len {z : Int} (h1 : -999 ≤ z) (h2 : z ≤ 999) : 1 ≤ (Lib.itoa z).length ∧ (Lib.itoa z).length ≤ 4 := by
 unfold Lib.itoa
 split
 ·have := dec_len z.natAbs (by omega)
  rw [List.length_cons]
  omega
 ·have := dec_len z.toNat (by omega)
  omega

def numT (g : List Int) : List UInt8 := Lib.join (g.map Lib.itoa) [32]

theorem itoS_data (zs : List Int) : (zs.map itoS).map (·.data.toList) = zs.map Lib.itoa := by
 rw [List.map_map]
 apply List.map_congr_left
 intro z _
 simp [itoS]

def TxP (w wr : World) (P : Nat) (zs : List Int) (k : Nat) : Prop :=
 wr.heap[P]? = some (.cells (Lib.cellsOf ((zs.take k).map itoS) zs.length) 9) ∧ Below w.heap.size w wr

theorem TxP.store {w wr : World} {P : Nat} {zs : List Int} {k : Nat} (h : TxP w wr P zs k) (hP : w.heap.size ≤ P) (hk : k < zs.length) : TxP w (wr.setCell ⟨P, k, none⟩ (.string (itoS (zs.getD k 0)))) P zs (k + 1) := by
 obtain ⟨h1, h2⟩ := h
 have hl : ((zs.take k).map itoS).length = k := by rw [List.length_map, List.length_take]; omega
 have hs := heap_setCell_same wr P k _ _ (.string (itoS (zs.getD k 0))) h1
 refine ⟨?_, h2.setCell (by exact hP) _⟩
 have e : (Lib.cellsOf ((zs.take k).map itoS) zs.length).setIfInBounds k (.string (itoS (zs.getD k 0))) = Lib.cellsOf ((zs.take (k + 1)).map itoS) zs.length := by
  have := Lib.cellsOf_set (done := (zs.take k).map itoS) (N := zs.length) (by omega) (itoS (zs.getD k 0))
  rw [hl] at this
  rw [this, List.take_succ_eq_append_getElem hk, List.map_append]
  simp [List.getD_eq_getElem?_getD, hk]
 rw [← e]
 exact hs

theorem TxP.full {w wr : World} {P : Nat} {zs : List Int} (h : TxP w wr P zs zs.length) : ∀ (j : Nat) x, (zs.map itoS)[j]? = some x → wr.cell? ⟨P, 0 + j, none⟩ = some (.string x) := fun j x hx => by
 have h1 := h.1
 rw [List.take_length] at h1
 have := World.news_of_block h1 j (.string x) (by
  unfold Lib.cellsOf
  rw [List.toList_toArray, List.getElem?_append_left (by rw [List.length_map]; exact (List.getElem?_eq_some_iff.1 hx).1), List.getElem?_map, hx]
  rfl)
 have e : (⟨P, 0, none⟩ : Addr).add j = ⟨P, 0 + j, none⟩ := by unfold Addr.add; split <;> simp_all
 rwa [e] at this

set_option linter.unusedSimpArgs false in
set_option maxRecDepth 100000 in
set_option maxHeartbeats 1600000 in
theorem numbers_any (w : World) (v : Value) (g : List Int) (ht : TabP w) (hv : RowS w v g) (h0 : 0 < g.length) (h8 : g.length ≤ 100) (hlen : (numT g).length ≤ 100000) :
  Calls Tryz.prog 115 #[v] w fun e w' => e = .returned (.string ⟨(numT g).toArray⟩) ∧ Below w.heap.size w w' := by
 have HT := hide ht
 obtain ⟨ao, cap, rfl, hcap, hrange, hh⟩ := hv
 obtain ⟨vb, voff, rfl, hlt, hc⟩ := hh h0
 have HRG := hide hrange; have HC := hide hc; have HLT := hide hlt; have HLN := hide hlen
 clear ht hh hrange hc hlt hlen
 have hmk := run_mkSP g.length (by omega)
 have HI : Hid (TxP w (w.alloc (.cells (Lib.cellsOf [] g.length) 9)) w.heap.size g 0) := ⟨heap_alloc_new w _, (Below.refl _ _).alloc (Nat.le_refl _) _⟩
 go_enter Tryz.func115, Tryz.ntmps115
 go_wp2
 clear hmk
 go_loopw [10] (fun i wr => ∃ k : Nat, k ≤ g.length ∧ i = .int .i64 k ∧ TxP w wr w.heap.size g k) (fun i _ => g.length - (intOf i).toNat)
 case atStart => exact ⟨0, Nat.zero_le _, rfl, HI.out⟩
 case round =>
  clear HI
  obtain ⟨k, hk, rfl, hinv⟩ := hrel
  have HI := hide hinv
  clear hinv
  by_cases hkl : k < g.length
  ·have a0 := (HI.out.2.cell (p := ⟨vb, voff + k, none⟩) HLT.out).trans (HC.out k hkl)
   have HST := hide (fun (W : World) (h : TxP w W w.heap.size g k) => h.store (Nat.le_refl _) hkl)
   have hrz := HRG.out k
   generalize g.getD k 0 = z at *
   have HRZ := hide hrz
   clear hrz
   go_wp2_with fail
   refine (itoaP_any wr (HT.out.below HI.out.2) z HRZ.out.1 HRZ.out.2).mono ?_
   rintro e w1 ⟨rfl, hb⟩
   have HI1 := hide (show TxP w w1 w.heap.size g k from ⟨(hb.block _ (heap_lt HI.out.1)).trans HI.out.1, HI.out.2.trans (hb.mono HI.out.2.size)⟩)
   have hll : ((g.take k).map itoS).length = k := by rw [List.length_map, List.length_take]; omega
   have hcell : w1.cell? ⟨w.heap.size, k, none⟩ = some (.string ByteArray.empty) := by
    have h := Lib.cellsOf_next (done := (g.take k).map itoS) (N := g.length) (by omega)
    rw [hll] at h
    have := World.news_of_block HI1.out.1 k (.string ByteArray.empty) (by rw [← h]; simp)
    have e : (⟨w.heap.size, 0, none⟩ : Addr).add k = ⟨w.heap.size, k, none⟩ := by unfold Addr.add; split <;> simp_all
    rwa [e] at this
   have hfr : w1.frozen? ⟨w.heap.size, k, none⟩ = false := by
    have h := HI1.out.1
    simp [World.frozen?, h]
   have HN := hide (HST.out w1 HI1.out)
   clear hb HST HI HI1 hll a0
   go_wp2
   go_roundw
   case rel => exact ⟨k + 1, by omega, by go_num, HN.out⟩
   case measure => simp [intOf]; omega
  ·obtain rfl : k = g.length := by omega
   have HJ := hide (Go.Proofs.Tryz.strings_Join w.heap.size 0 g.length (g.map itoS) ⟨#[32]⟩ wr HI.out.full (heap_lt HI.out.1) (by rw [List.length_map]; omega) (by rw [List.length_map]; exact Nat.le_refl _) (by rw [itoS_data]; show (numT g).length ≤ _; have := HLN.out; omega))
   rw [List.length_map, itoS_data] at HJ
   have HBE := hide HI.out.2
   clear HI
   go_wp2_with fail
   refine HJ.out.mono ?_
   rintro e w1 ⟨rfl, hb⟩
   have HF := hide (show Below w.heap.size w w1 from HBE.out.trans (hb.mono HBE.out.size))
   have e1 : (Lib.join (g.map Lib.itoa) (⟨#[32]⟩ : ByteArray).data.toList) = numT g := rfl
   rw [e1]
   clear hb HJ HBE e1
   go_wp2
   go_ret
   exact ⟨rfl, HF.out⟩

end Go.Proofs.YtnhbfehfipafoaaGreatDoor

/- Where a name stands in a catalog: binary search. -/
namespace Go.Proofs.YtnhbfehfipafoaaGreatDoor
open Go.RowKit

structure PlV (w : World) (b2 b3 : Nat) (ao : Option Addr) (cap : Nat) (qs : List Nc) (s : ByteArray) : Prop where
 c2 : w.cell? ⟨b2, 0, none⟩ = some (.slice ao qs.length cap)
 l2 : b2 < w.heap.size
 c3 : w.cell? ⟨b3, 0, none⟩ = some (.string s)
 l3 : b3 < w.heap.size
 cat : CatN w (.slice ao qs.length cap) qs

theorem PlV.below {w w' : World} {b2 b3 : Nat} {ao : Option Addr} {cap : Nat} {qs : List Nc} {s : ByteArray} (h : PlV w b2 b3 ao cap qs s) (hb : Below w.heap.size w w') : PlV w' b2 b3 ao cap qs s :=
 ⟨(hb.cell (p := ⟨b2, 0, none⟩) h.l2).trans h.c2, Nat.lt_of_lt_of_le h.l2 hb.size, (hb.cell (p := ⟨b3, 0, none⟩) h.l3).trans h.c3, Nat.lt_of_lt_of_le h.l3 hb.size, h.cat.below hb⟩

set_option linter.unusedSimpArgs false in
set_option maxRecDepth 100000 in
set_option maxHeartbeats 1600000 in
theorem place1_any (w : World) (b2 b3 : Nat) (ao : Option Addr) (cap : Nat) (qs : List Nc) (s : ByteArray) (h : PlV w b2 b3 ao cap qs s) (k : Nat) (hk : k < qs.length) (hq : qs.length ≤ 1000000) :
  Calls Tryz.prog 122 #[.int .i64 (k : Int), .pointer (some ⟨b2, 0, none⟩), .pointer (some ⟨b3, 0, none⟩)] w fun e w' => e = .returned (.bool (!nlt qs[k].x.name s)) ∧ Below w.heap.size w w' := by
 obtain ⟨c2, l2, c3, l3, hc⟩ := h
 obtain ⟨b, off, cap', e⟩ := hc.form (by omega)
 simp only [Value.slice.injEq, true_and] at e
 obtain ⟨rfl, rfl⟩ := e
 obtain ⟨hlt, d0, -, -, -⟩ := hc.at k hk
 have HB := hide ((Below.refl w.heap.size w).drew)
 clear hc
 unfold nlt
 generalize qs[k].x.name = nm at *
 go_enter Tryz.func122, Tryz.ntmps122
 go_wp2_with fail
 go_region_held3 (fun w' => w'.cell? ⟨b2, 0, none⟩ = some (.slice (some ⟨b, off, none⟩) qs.length cap) ∧ w'.cell? ⟨b3, 0, none⟩ = some (.string s) ∧ w'.cell? ⟨b, off + k * 3, none⟩ = some (.string nm)) (go_keep) (fail)
 go_wp2
 go_ret
 exact ⟨rfl, HB.out⟩

theorem half_two (i j : Nat) : ((i : Int) + (j : Int)) / 2 = (((i + j) / 2 : Nat) : Int) := by omega

set_option linter.unusedSimpArgs false in
set_option maxRecDepth 100000 in
set_option maxHeartbeats 1600000 in
theorem search_any (w : World) (b2 b3 : Nat) (ao : Option Addr) (cap : Nat) (qs : List Nc) (s : ByteArray) (h : PlV w b2 b3 ao cap qs s) (hq : qs.length ≤ 1000000) (hs : (qs.map (·.x)).Pairwise (fun x y => nlt x.name y.name = true)) :
  Calls Tryz.prog 121 #[.int .i64 (qs.length : Int), .func (.func 122) #[] #[.pointer (some ⟨b2, 0, none⟩), .pointer (some ⟨b3, 0, none⟩)]] w fun e w' => e = .returned (.int .i64 (placeL (qs.map (·.x)) s : Nat)) ∧ Below w.heap.size w w' := by
 have HP := hide h; have HS := hide hs
 clear h hs
 go_enter Tryz.func121, Tryz.ntmps121
 go_wp2
 go_loopw [5, 6] (fun i j wr => ∃ a b : Nat, a ≤ placeL (qs.map (·.x)) s ∧ placeL (qs.map (·.x)) s ≤ b ∧ b ≤ qs.length ∧ i = .int .i64 a ∧ j = .int .i64 b ∧ Hid (Below w.heap.size w wr)) (fun i j _ => (intOf j).toNat - (intOf i).toNat)
 case atStart => exact ⟨0, qs.length, Nat.zero_le _, by have := placeL_le (qs.map (·.x)) s; rwa [List.length_map] at this, Nat.le_refl _, rfl, rfl, hide (Below.refl _ _)⟩
 case round =>
  obtain ⟨a, b, ha, hb, hbl, rfl, rfl, HB⟩ := hrel
  by_cases hab : a < b
  ·have hm1 : (a + b) / 2 < b := by omega
   have hm2 : a ≤ (a + b) / 2 := by omega
   have e2 := half_two a b
   have HP1 := hide (HP.out.below HB.out)
   have hcal := place1_any wr b2 b3 ao cap qs s HP1.out ((a + b) / 2) (by omega) hq
   have HC := hide hcal
   have HLo : Hid (nlt qs[(a + b) / 2].x.name s = true → (a + b) / 2 + 1 ≤ placeL (qs.map (·.x)) s) := fun h => by
    by_cases h' : (a + b) / 2 + 1 ≤ placeL (qs.map (·.x)) s
    ·exact h'
    ·have := placeL_from HS.out (s := s) (i := (a + b) / 2) (by omega) (by rw [List.length_map]; omega)
     rw [List.getElem_map, h] at this; cases this
   have HUp : Hid (nlt qs[(a + b) / 2].x.name s = false → placeL (qs.map (·.x)) s ≤ (a + b) / 2) := fun h => by
    by_cases h' : placeL (qs.map (·.x)) s ≤ (a + b) / 2
    ·exact h'
    ·obtain ⟨h1, h2⟩ := placeL_before (cs := qs.map (·.x)) (s := s) (i := (a + b) / 2) (by omega)
     rw [List.getElem_map, h] at h2; cases h2
   clear hcal
   generalize placeL (qs.map (·.x)) s = P at *
   generalize nlt qs[(a + b) / 2].x.name s = r at *
   generalize (a + b) / 2 = m at *
   go_wp2_with fail
   refine HC.out.mono ?_
   rintro e w2 ⟨rfl, hb2⟩
   have HB2 := hide (HB.out.trans (hb2.mono HB.out.size))
   clear hb2 HC HP1 e2
   cases r with
   | true =>
    have hlo := HLo.out rfl
    clear HLo HUp
    go_wp2
    go_roundw
    case rel => exact ⟨m + 1, b, hlo, hb, hbl, by go_num, rfl, HB2⟩
    case measure => simp [intOf]; omega
   | false =>
    have hup := HUp.out rfl
    clear HLo HUp
    go_wp2
    go_roundw
    case rel => exact ⟨a, m, ha, hup, by omega, rfl, rfl, HB2⟩
    case measure => simp [intOf]; omega
  ·have hP : placeL (qs.map (·.x)) s = a := by omega
   have HPP := hide hP
   clear hP
   go_wp2
   go_ret
   exact ⟨by rw [HPP.out]; rfl, HB.out⟩

def CatV (w : World) (v : Value) (qs : List Nc) : Prop := ∃ u, v = .agg #[u] ∧ CatN w u qs

theorem CatV.below {W W' : World} {v : Value} {qs : List Nc} (h : CatV W v qs) (hb : Below W.heap.size W W') : CatV W' v qs := by
 obtain ⟨u, e, h⟩ := h
 exact ⟨u, e, h.below hb⟩

theorem one_new (W : World) (u : Value) (t : TypeId) : (W.alloc (.cells #[u] t)).cell? ⟨W.heap.size, 0, none⟩ = some u := by
 rw [World.cell?_alloc_new]; rfl

set_option linter.unusedSimpArgs false in
set_option maxRecDepth 100000 in
set_option maxHeartbeats 1600000 in
theorem place_any (w : World) (v : Value) (qs : List Nc) (s : ByteArray) (h : CatV w v qs) (hq : qs.length ≤ 1000000) (hs : (qs.map (·.x)).Pairwise (fun x y => nlt x.name y.name = true)) :
  Calls Tryz.prog 98 #[v, .string s] w fun e w' => e = .returned (.tuple #[.int .i64 (placeL (qs.map (·.x)) s : Nat), .bool (hasL (qs.map (·.x)) s)]) ∧ Below w.heap.size w w' := by
 obtain ⟨u, rfl, hu⟩ := h
 obtain ⟨ao, cap, rfl, -⟩ := id hu
 have hb1 := alloc_below w (.cells #[.slice ao qs.length cap] 53)
 have hb2 := alloc_below (w.alloc (.cells #[.slice ao qs.length cap] 53)) (.cells #[.string s] 9)
 have hb12 := hb1.trans (hb2.mono hb1.size)
 have HP : Hid (PlV ((w.alloc (.cells #[.slice ao qs.length cap] 53)).alloc (.cells #[.string s] 9)) w.heap.size (w.heap.size + 1) ao cap qs s) := by
  refine ⟨(hb2.cell (p := ⟨w.heap.size, 0, none⟩) (by simp)).trans (one_new _ _ _), by simp; omega, ?_, by simp, hu.below hb12⟩
  have := one_new (w.alloc (.cells #[.slice ao qs.length cap] 53)) (.string s) 9
  have e : (w.alloc (.cells #[.slice ao qs.length cap] 53)).heap.size = w.heap.size + 1 := by simp
  rwa [e] at this
 have HB := hide hb12
 obtain ⟨p2, -, p3, -, -⟩ := HP.out
 have HL := placeL_le (qs.map (·.x)) s
 rw [List.length_map] at HL
 have HSE := hide (fun (W0 : World) (hP : PlV W0 w.heap.size (w.heap.size + 1) ao cap qs s) => search_any W0 _ _ ao cap qs s hP hq hs)
 have HH : Hid (∀ h : placeL (qs.map (·.x)) s < qs.length, hasL (qs.map (·.x)) s = decide (qs[placeL (qs.map (·.x)) s].x.name = s)) := fun hlt => by
  by_cases h : hasL (qs.map (·.x)) s = true
  ·rw [h]
   obtain ⟨h1, h2⟩ := (hasL_iff hs).1 h
   rw [List.getElem_map] at h2
   exact (decide_eq_true h2).symm
  ·rw [Bool.not_eq_true] at h
   rw [h]
   refine (decide_eq_false fun h' => ?_).symm
   have : hasL (qs.map (·.x)) s = true := (hasL_iff hs).2 ⟨by rw [List.length_map]; exact hlt, by rw [List.getElem_map]; exact h'⟩
   rw [h] at this; cases this
 have HNo : Hid (¬ placeL (qs.map (·.x)) s < qs.length → hasL (qs.map (·.x)) s = false) := fun hlt => by
  cases h : hasL (qs.map (·.x)) s with
  | false => rfl
  | true =>
   obtain ⟨h1, -⟩ := (hasL_iff hs).1 h
   rw [List.length_map] at h1
   exact absurd h1 hlt
 clear hb1 hb2 hb12 hs hu
 generalize placeL (qs.map (·.x)) s = P at *
 generalize hasL (qs.map (·.x)) s = r at *
 go_enter Tryz.func98, Tryz.ntmps98
 go_wp2_with fail
 generalize ((w.alloc (.cells #[.slice ao qs.length cap] 53)).alloc (.cells #[.string s] 9)) = W0 at *
 refine (HSE.out W0 HP.out).mono ?_
 rintro e w1 ⟨rfl, hb1⟩
 have HP1 := hide (HP.out.below hb1)
 have HB1 := hide (HB.out.trans (hb1.mono HB.out.size))
 have HBD := hide (HB1.out.drew)
 clear hb1 p2 p3 HP HB
 obtain ⟨p2, -, p3, -, hcat⟩ := HP1.out
 by_cases hlt : P < qs.length
 ·obtain ⟨b, off, cap', e⟩ := hcat.form (by omega)
  simp only [Value.slice.injEq, true_and] at e
  obtain ⟨rfl, rfl⟩ := e
  obtain ⟨hbl, d0, -, -, -⟩ := hcat.at _ hlt
  have HE : Hid ((qs[P].x.name.toList == s.toList) = r) := (toList_beq _ _).trans (HH.out hlt).symm
  clear hcat HH HNo
  generalize qs[P].x.name = nm at *
  go_wp2_with fail
  go_region_held3 (fun w' => w'.cell? ⟨w.heap.size, 0, none⟩ = some (.slice (some ⟨b, off, none⟩) qs.length cap) ∧ w'.cell? ⟨w.heap.size + 1, 0, none⟩ = some (.string s) ∧ w'.cell? ⟨b, off + P * 3, none⟩ = some (.string nm)) (go_keep) (fail)
  go_wp2
  go_ret2
  exact ⟨by rw [HE.out]; rfl, HBD.out⟩
 ·obtain rfl := HNo.out hlt
  clear hcat HH HNo
  go_wp2_with fail
  refine wp_region_held_drew (S := (fun w' => w'.cell? ⟨w.heap.size, 0, none⟩ = some (.slice ao qs.length cap) ∧ w'.cell? ⟨w.heap.size + 1, 0, none⟩ = some (.string s))) (by kernel_rfl) (by (try dsimp only); go_keep) (fun hHeld => ?_)
  refine held_run (v := ?_) 0 12 rfl rfl (by kernel_rfl) (by kernel_rfl) (by kernel_rfl) (fun _ _ _ h => h) (by rfl) ?_ (by assumption) ?_
  rotate_left
  ·(intro w hSw; (try dsimp only at hSw); go_simp; with_reducible rfl)
  simp only [Act.put, List.setIfInBounds_toArray, List.set_cons_zero, List.set_cons_succ]
  refine held_run (v := ?_) 1 13 rfl rfl (by kernel_rfl) (by kernel_rfl) (by kernel_rfl) (fun _ _ _ h => h) (by rfl) ?_ (by assumption) ?_
  rotate_left
  ·(intro w hSw; (try dsimp only at hSw); go_simp; with_reducible rfl)
  simp only [Act.put, List.setIfInBounds_toArray, List.set_cons_zero, List.set_cons_succ]
  refine held_run (v := ?_) 2 14 rfl rfl (by kernel_rfl) (by kernel_rfl) (by kernel_rfl) (fun _ _ _ h => h) (by rfl) ?_ (by assumption) ?_
  rotate_left
  ·(intro w hSw; (try dsimp only at hSw); go_simp; with_reducible rfl)
  simp only [Act.put, List.setIfInBounds_toArray, List.set_cons_zero, List.set_cons_succ]
  refine held_run (v := ?_) 3 15 rfl rfl (by kernel_rfl) (by kernel_rfl) (by kernel_rfl) (fun _ _ _ h => h) (by rfl) ?_ (by assumption) ?_
  rotate_left
  ·(intro w hSw; (try dsimp only at hSw); go_simp; with_reducible rfl)
  simp only [Act.put, List.setIfInBounds_toArray, List.set_cons_zero, List.set_cons_succ]
  refine held_run (v := ?_) 4 16 rfl rfl (by kernel_rfl) (by kernel_rfl) (by kernel_rfl) (fun _ _ _ h => h) (by rfl) ?_ (by assumption) ?_
  rotate_left
  ·(intro w hSw; (try dsimp only at hSw); go_simp; with_reducible rfl)
  simp only [Act.put, List.setIfInBounds_toArray, List.set_cons_zero, List.set_cons_succ]
  refine held_run (v := ?_) 5 17 rfl rfl (by kernel_rfl) (by kernel_rfl) (by kernel_rfl) (fun _ _ _ h => h) (by rfl) ?_ (by assumption) ?_
  rotate_left
  ·(intro w hSw; (try dsimp only at hSw); go_simp; with_reducible rfl)
  simp only [Act.put, List.setIfInBounds_toArray, List.set_cons_zero, List.set_cons_succ]
  refine held_run (v := ?_) 6 18 rfl rfl (by kernel_rfl) (by kernel_rfl) (by kernel_rfl) (fun _ _ _ h => h) (by rfl) ?_ (by assumption) ?_
  rotate_left
  ·(intro w hSw; (try dsimp only at hSw); go_simp; with_reducible rfl)
  simp only [Act.put, List.setIfInBounds_toArray, List.set_cons_zero, List.set_cons_succ]
  refine held_skip 7 19 rfl rfl (by kernel_rfl) (by kernel_rfl) (by kernel_rfl) (fun _ _ _ h => h) (by rfl) (by assumption) ?_
  simp only [Act.put, List.setIfInBounds_toArray, List.set_cons_zero, List.set_cons_succ]
  refine held_skip 8 20 rfl rfl (by kernel_rfl) (by kernel_rfl) (by kernel_rfl) (fun _ _ _ h => h) (by rfl) (by assumption) ?_
  simp only [Act.put, List.setIfInBounds_toArray, List.set_cons_zero, List.set_cons_succ]
  refine held_skip 9 21 rfl rfl (by kernel_rfl) (by kernel_rfl) (by kernel_rfl) (fun _ _ _ h => h) (by rfl) (by assumption) ?_
  simp only [Act.put, List.setIfInBounds_toArray, List.set_cons_zero, List.set_cons_succ]
  refine held_skip 10 22 rfl rfl (by kernel_rfl) (by kernel_rfl) (by kernel_rfl) (fun _ _ _ h => h) (by rfl) (by assumption) ?_
  simp only [Act.put, List.setIfInBounds_toArray, List.set_cons_zero, List.set_cons_succ]
  refine held_skip 11 23 rfl rfl (by kernel_rfl) (by kernel_rfl) (by kernel_rfl) (fun _ _ _ h => h) (by rfl) (by assumption) ?_
  simp only [Act.put, List.setIfInBounds_toArray, List.set_cons_zero, List.set_cons_succ]
  refine held_skip 12 24 rfl rfl (by kernel_rfl) (by kernel_rfl) (by kernel_rfl) (fun _ _ _ h => h) (by rfl) (by assumption) ?_
  simp only [Act.put, List.setIfInBounds_toArray, List.set_cons_zero, List.set_cons_succ]
  refine held_skip 13 25 rfl rfl (by kernel_rfl) (by kernel_rfl) (by kernel_rfl) (fun _ _ _ h => h) (by rfl) (by assumption) ?_
  simp only [Act.put, List.setIfInBounds_toArray, List.set_cons_zero, List.set_cons_succ]
  refine held_skip 14 26 rfl rfl (by kernel_rfl) (by kernel_rfl) (by kernel_rfl) (fun _ _ _ h => h) (by rfl) (by assumption) ?_
  simp only [Act.put, List.setIfInBounds_toArray, List.set_cons_zero, List.set_cons_succ]
  refine held_run (v := ?_) 15 27 rfl rfl (by kernel_rfl) (by kernel_rfl) (by kernel_rfl) (fun _ _ _ h => h) (by rfl) ?_ (by assumption) ?_
  rotate_left
  ·(intro w hSw; (try dsimp only at hSw); go_simp; with_reducible rfl)
  simp only [Act.put, List.setIfInBounds_toArray, List.set_cons_zero, List.set_cons_succ]
  refine held_run (v := ?_) 16 4 rfl rfl (by kernel_rfl) (by kernel_rfl) (by kernel_rfl) (fun _ _ _ h => h) (by rfl) ?_ (by assumption) ?_
  rotate_left
  ·(intro w hSw; (try dsimp only at hSw); go_simp; with_reducible rfl)
  simp only [Act.put, List.setIfInBounds_toArray, List.set_cons_zero, List.set_cons_succ]
  refine held_run (v := ?_) 17 5 rfl rfl (by kernel_rfl) (by kernel_rfl) (by kernel_rfl) (fun _ _ _ h => h) (by rfl) ?_ (by assumption) ?_
  rotate_left
  ·(intro w hSw; (try dsimp only at hSw); go_simp; with_reducible rfl)
  simp only [Act.put, List.setIfInBounds_toArray, List.set_cons_zero, List.set_cons_succ]
  refine wpAnyH_done (by kernel_rfl) ?_ _
  go_wp2
  go_ret2
  exact ⟨rfl, HBD.out⟩

end Go.Proofs.YtnhbfehfipafoaaGreatDoor
