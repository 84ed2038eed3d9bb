/- strings.Cut, SplitN, strconv.Atoi, laid at this translation. -/
import Derived.Shelf.Strings.Cut
import Derived.Shelf.Strings.Split
import Derived.Shelf.Strconv.Atoi
import Derived.Test.YtjdnhdcaifogmaaGreatDoorProg
import Derived.Test.YtjdnhdcaifogmaaGreatDoorBpL
import Derived.Test.YtjdnhdcaifogmaaGreatDoorBpG
import Derived.Test.YtjdnhdcaifogmaaGreatDoorBgG

namespace Go.Proofs
open Go.Shelf Go.RowKit
def Tryz.lays145_ren : Go.Shelf.Ren := ⟨fun | 145 => 25 | 220 => 49 | 219 => 68 | 217 => 80 | 225 => 81 | 224 => 82 | 267 => 83 | 266 => 98 | 314 => 99 | n => n, fun | 9 => 9 | 4 => 4 | 59 => 68 | 3 => 3 | 5 => 5 | 46 => 80 | 146 => 144 | 51 => 143 | n => n, fun | 1 => 0 | n => n⟩
theorem Tryz.lays145 : Go.Proofs.Lays.n145 Tryz.prog Tryz.lays145_ren := {
 mixed := by kernel_rfl
 f145 := Tryz.func25.trans (congrArg some (by kernel_rfl))
 f217 := Tryz.func80.trans (congrArg some (by kernel_rfl))
 f219 := Tryz.func68.trans (congrArg some (by kernel_rfl))
 f220 := Tryz.func49.trans (congrArg some (by kernel_rfl))
 f224 := Tryz.func82.trans (congrArg some (by kernel_rfl))
 f225 := Tryz.func81.trans (congrArg some (by kernel_rfl))
 f266 := Tryz.func98.trans (congrArg some (by kernel_rfl))
 f267 := Tryz.func83.trans (congrArg some (by kernel_rfl))
 f314 := Tryz.func99.trans (congrArg some (by kernel_rfl))
 t3 := Tryz.underlying3
 a3 := Tryz.isAgg3
 z3 := Tryz.sizeOf3
 v3 := Tryz.zeroValue3
 t4 := Tryz.underlying4
 a4 := Tryz.isAgg4
 z4 := Tryz.sizeOf4
 v4 := Tryz.zeroValue4
 t5 := Tryz.underlying5
 a5 := Tryz.isAgg5
 z5 := Tryz.sizeOf5
 v5 := Tryz.zeroValue5
 t9 := Tryz.underlying9
 a9 := Tryz.isAgg9
 z9 := Tryz.sizeOf9
 v9 := Tryz.zeroValue9
 t46 := Tryz.underlying80
 a46 := Tryz.isAgg80
 z46 := Tryz.sizeOf80
 v46 := Tryz.zeroValue80
 t51 := Tryz.underlying143
 a51 := Tryz.isAgg143
 z51 := Tryz.sizeOf143
 v51 := Tryz.zeroValue143
 t59 := Tryz.underlying68
 a59 := Tryz.isAgg68
 z59 := Tryz.sizeOf68
 v59 := Tryz.zeroValue68
 t146 := Tryz.underlying144
 a146 := Tryz.isAgg144
 z146 := Tryz.sizeOf144
 v146 := Tryz.zeroValue144
 g1 := by kernel_rfl }
open Go.RowKit Go.Lib in
theorem Tryz.strings_Cut (s sep : ByteArray) (m : Int) (w : World) (hs : s.size < 4294967281) (hm : w.cell? ⟨0, 0, none⟩ = some (.int .i64 m)) :
  Calls Tryz.prog 25 #[.string s, .string sep] w fun e w' => e = .returned (.tuple #[.string ⟨(Lib.cut s.data.toList sep.data.toList).1.toArray⟩, .string ⟨(Lib.cut s.data.toList sep.data.toList).2.1.toArray⟩, .bool (Lib.cut s.data.toList sep.data.toList).2.2]) ∧ ∃ n, w' = w.drewN n := Any.strings_Cut Tryz.lays145 s sep m w hs hm
def Tryz.lays147_ren : Go.Shelf.Ren := ⟨fun | 147 => 71 | 221 => 89 | 268 => 103 | 138 => 104 | 143 => 105 | 195 => 114 | 197 => 115 | 218 => 116 | 219 => 68 | 260 => 119 | 217 => 80 | 225 => 81 | 224 => 82 | 267 => 83 | 266 => 98 | 314 => 99 | n => n, fun | 9 => 9 | 3 => 3 | 31 => 72 | 4 => 4 | 0 => 0 | 105 => 162 | 21 => 21 | 5 => 5 | 46 => 80 | 119 => 167 | 139 => 170 | 138 => 169 | 146 => 144 | 51 => 143 | n => n, fun | 1 => 0 | 3 => 6 | 4 => 7 | n => n⟩
theorem Tryz.lays147 : Go.Proofs.Lays.n147 Tryz.prog Tryz.lays147_ren := {
 mixed := by kernel_rfl
 f138 := Tryz.func104.trans (congrArg some (by kernel_rfl))
 f143 := Tryz.func105.trans (congrArg some (by kernel_rfl))
 f147 := Tryz.func71.trans (congrArg some (by kernel_rfl))
 f195 := Tryz.func114.trans (congrArg some (by kernel_rfl))
 f197 := Tryz.func115.trans (congrArg some (by kernel_rfl))
 f217 := Tryz.func80.trans (congrArg some (by kernel_rfl))
 f218 := Tryz.func116.trans (congrArg some (by kernel_rfl))
 f219 := Tryz.func68.trans (congrArg some (by kernel_rfl))
 f221 := Tryz.func89.trans (congrArg some (by kernel_rfl))
 f224 := Tryz.func82.trans (congrArg some (by kernel_rfl))
 f225 := Tryz.func81.trans (congrArg some (by kernel_rfl))
 f260 := Tryz.func119.trans (congrArg some (by kernel_rfl))
 f266 := Tryz.func98.trans (congrArg some (by kernel_rfl))
 f267 := Tryz.func83.trans (congrArg some (by kernel_rfl))
 f268 := Tryz.func103.trans (congrArg some (by kernel_rfl))
 f314 := Tryz.func99.trans (congrArg some (by kernel_rfl))
 t0 := Tryz.underlying0
 a0 := Tryz.isAgg0
 z0 := Tryz.sizeOf0
 v0 := Tryz.zeroValue0
 t3 := Tryz.underlying3
 a3 := Tryz.isAgg3
 z3 := Tryz.sizeOf3
 v3 := Tryz.zeroValue3
 t4 := Tryz.underlying4
 a4 := Tryz.isAgg4
 z4 := Tryz.sizeOf4
 v4 := Tryz.zeroValue4
 t5 := Tryz.underlying5
 a5 := Tryz.isAgg5
 z5 := Tryz.sizeOf5
 v5 := Tryz.zeroValue5
 t9 := Tryz.underlying9
 a9 := Tryz.isAgg9
 z9 := Tryz.sizeOf9
 v9 := Tryz.zeroValue9
 t21 := Tryz.underlying21
 a21 := Tryz.isAgg21
 z21 := Tryz.sizeOf21
 v21 := Tryz.zeroValue21
 t31 := Tryz.underlying72
 a31 := Tryz.isAgg72
 z31 := Tryz.sizeOf72
 v31 := Tryz.zeroValue72
 t46 := Tryz.underlying80
 a46 := Tryz.isAgg80
 z46 := Tryz.sizeOf80
 v46 := Tryz.zeroValue80
 t51 := Tryz.underlying143
 a51 := Tryz.isAgg143
 z51 := Tryz.sizeOf143
 v51 := Tryz.zeroValue143
 t105 := Tryz.underlying162
 a105 := Tryz.isAgg162
 z105 := Tryz.sizeOf162
 v105 := Tryz.zeroValue162
 t119 := Tryz.underlying167
 a119 := Tryz.isAgg167
 z119 := Tryz.sizeOf167
 t138 := Tryz.underlying169
 a138 := Tryz.isAgg169
 z138 := Tryz.sizeOf169
 v138 := Tryz.zeroValue169
 t139 := Tryz.underlying170
 a139 := Tryz.isAgg170
 z139 := Tryz.sizeOf170
 v139 := Tryz.zeroValue170
 t146 := Tryz.underlying144
 a146 := Tryz.isAgg144
 z146 := Tryz.sizeOf144
 v146 := Tryz.zeroValue144
 g1 := by kernel_rfl
 g3 := by kernel_rfl
 g4 := by kernel_rfl }
open Go.RowKit Go.Lib in
theorem Tryz.strings_SplitN (s sep : ByteArray) (n : Nat) (m : Int) (w : World) (hs : s.size < 4294967281) (hm : w.cell? ⟨0, 0, none⟩ = some (.int .i64 m)) (h1 : 1 ≤ sep.size) (hn : 1 ≤ n) (hn63 : n ≤ 9223372036854775807) :
  Calls Tryz.prog 71 #[.string s, .string sep, .int .i64 n] w fun e w' =>
   e = .returned (.slice (some ⟨w.heap.size, 0, none⟩) (Lib.splitB sep 0 (min n (s.size + 1) - 1) s).length (min n (s.size + 1))) ∧ w' = w.alloc (.cells (Lib.cellsOf (Lib.splitB sep 0 (min n (s.size + 1) - 1) s) (min n (s.size + 1))) 9) := Any.strings_SplitN Tryz.lays147 (by kernel_rfl) s sep n m w hs hm h1 hn hn63
def Tryz.lays172_ren : Go.Shelf.Ren := ⟨fun | 172 => 50 | 244 => 69 | 245 => 70 | 247 => 84 | 279 => 85 | 280 => 86 | 281 => 87 | 282 => 88 | 287 => 100 | 316 => 101 | 171 => 45 | 205 => 102 | 321 => 112 | 322 => 113 | 243 => 65 | 246 => 78 | 283 => 93 | 284 => 94 | 285 => 95 | 286 => 96 | 129 => 107 | 317 => 106 | 318 => 108 | 319 => 109 | 320 => 110 | 337 => 117 | 338 => 118 | n => n, fun | 9 => 9 | 3 => 3 | 75 => 34 | 76 => 61 | 4 => 4 | 5 => 5 | 167 => 129 | 37 => 58 | 0 => 0 | 85 => 130 | 2 => 2 | 168 => 132 | 53 => 113 | 175 => 146 | 46 => 80 | 210 => 150 | 127 => 92 | 145 => 161 | 143 => 159 | 21 => 21 | 171 => 138 | 173 => 141 | 212 => 154 | 51 => 143 | 20 => 20 | 213 => 155 | 232 => 165 | 233 => 166 | 80 => 32 | n => n, fun | 15 => 1 | 16 => 2 | 17 => 3 | 18 => 4 | 19 => 5 | n => n⟩
theorem Tryz.lays172 : Go.Proofs.Lays.n172 Tryz.prog Tryz.lays172_ren := {
 mixed := by kernel_rfl
 f129 := Tryz.func107.trans (congrArg some (by kernel_rfl))
 f171 := Tryz.func45.trans (congrArg some (by kernel_rfl))
 f172 := Tryz.func50.trans (congrArg some (by kernel_rfl))
 f205 := Tryz.func102.trans (congrArg some (by kernel_rfl))
 f243 := Tryz.func65.trans (congrArg some (by kernel_rfl))
 f244 := Tryz.func69.trans (congrArg some (by kernel_rfl))
 f245 := Tryz.func70.trans (congrArg some (by kernel_rfl))
 f246 := Tryz.func78.trans (congrArg some (by kernel_rfl))
 f247 := Tryz.func84.trans (congrArg some (by kernel_rfl))
 f279 := Tryz.func85.trans (congrArg some (by kernel_rfl))
 f280 := Tryz.func86.trans (congrArg some (by kernel_rfl))
 f281 := Tryz.func87.trans (congrArg some (by kernel_rfl))
 f282 := Tryz.func88.trans (congrArg some (by kernel_rfl))
 f283 := Tryz.func93.trans (congrArg some (by kernel_rfl))
 f284 := Tryz.func94.trans (congrArg some (by kernel_rfl))
 f285 := Tryz.func95.trans (congrArg some (by kernel_rfl))
 f286 := Tryz.func96.trans (congrArg some (by kernel_rfl))
 f287 := Tryz.func100.trans (congrArg some (by kernel_rfl))
 f316 := Tryz.func101.trans (congrArg some (by kernel_rfl))
 f317 := Tryz.func106.trans (congrArg some (by kernel_rfl))
 f318 := Tryz.func108.trans (congrArg some (by kernel_rfl))
 f319 := Tryz.func109.trans (congrArg some (by kernel_rfl))
 f320 := Tryz.func110.trans (congrArg some (by kernel_rfl))
 f321 := Tryz.func112.trans (congrArg some (by kernel_rfl))
 f322 := Tryz.func113.trans (congrArg some (by kernel_rfl))
 f337 := Tryz.func117.trans (congrArg some (by kernel_rfl))
 f338 := Tryz.func118.trans (congrArg some (by kernel_rfl))
 t0 := Tryz.underlying0
 a0 := Tryz.isAgg0
 z0 := Tryz.sizeOf0
 v0 := Tryz.zeroValue0
 t2 := Tryz.underlying2
 a2 := Tryz.isAgg2
 z2 := Tryz.sizeOf2
 v2 := Tryz.zeroValue2
 t3 := Tryz.underlying3
 a3 := Tryz.isAgg3
 z3 := Tryz.sizeOf3
 v3 := Tryz.zeroValue3
 t4 := Tryz.underlying4
 a4 := Tryz.isAgg4
 z4 := Tryz.sizeOf4
 v4 := Tryz.zeroValue4
 t5 := Tryz.underlying5
 a5 := Tryz.isAgg5
 z5 := Tryz.sizeOf5
 v5 := Tryz.zeroValue5
 t9 := Tryz.underlying9
 a9 := Tryz.isAgg9
 z9 := Tryz.sizeOf9
 v9 := Tryz.zeroValue9
 t20 := Tryz.underlying20
 a20 := Tryz.isAgg20
 z20 := Tryz.sizeOf20
 v20 := Tryz.zeroValue20
 t21 := Tryz.underlying21
 a21 := Tryz.isAgg21
 z21 := Tryz.sizeOf21
 v21 := Tryz.zeroValue21
 t37 := Tryz.underlying58
 a37 := Tryz.isAgg58
 z37 := Tryz.sizeOf58
 v37 := Tryz.zeroValue58
 t46 := Tryz.underlying80
 a46 := Tryz.isAgg80
 z46 := Tryz.sizeOf80
 v46 := Tryz.zeroValue80
 t51 := Tryz.underlying143
 a51 := Tryz.isAgg143
 z51 := Tryz.sizeOf143
 v51 := Tryz.zeroValue143
 t53 := Tryz.underlying113
 a53 := Tryz.isAgg113
 z53 := Tryz.sizeOf113
 v53 := Tryz.zeroValue113
 t75 := Tryz.underlying34
 a75 := Tryz.isAgg34
 z75 := Tryz.sizeOf34
 v75 := Tryz.zeroValue34
 t76 := Tryz.underlying61
 a76 := Tryz.isAgg61
 z76 := Tryz.sizeOf61
 v76 := Tryz.zeroValue61
 t85 := Tryz.underlying130
 a85 := Tryz.isAgg130
 z85 := Tryz.sizeOf130
 v85 := Tryz.zeroValue130
 t127 := Tryz.underlying92
 a127 := Tryz.isAgg92
 z127 := Tryz.sizeOf92
 v127 := Tryz.zeroValue92
 t143 := Tryz.underlying159
 a143 := Tryz.isAgg159
 z143 := Tryz.sizeOf159
 v143 := Tryz.zeroValue159
 t145 := Tryz.underlying161
 a145 := Tryz.isAgg161
 z145 := Tryz.sizeOf161
 v145 := Tryz.zeroValue161
 t167 := Tryz.underlying129
 a167 := Tryz.isAgg129
 z167 := Tryz.sizeOf129
 v167 := Tryz.zeroValue129
 t168 := Tryz.underlying132
 a168 := Tryz.isAgg132
 z168 := Tryz.sizeOf132
 v168 := Tryz.zeroValue132
 t171 := Tryz.underlying138
 a171 := Tryz.isAgg138
 z171 := Tryz.sizeOf138
 v171 := Tryz.zeroValue138
 t173 := Tryz.underlying141
 a173 := Tryz.isAgg141
 z173 := Tryz.sizeOf141
 v173 := Tryz.zeroValue141
 t175 := Tryz.underlying146
 a175 := Tryz.isAgg146
 z175 := Tryz.sizeOf146
 v175 := Tryz.zeroValue146
 t210 := Tryz.underlying150
 a210 := Tryz.isAgg150
 z210 := Tryz.sizeOf150
 v210 := Tryz.zeroValue150
 t212 := Tryz.underlying154
 a212 := Tryz.isAgg154
 z212 := Tryz.sizeOf154
 v212 := Tryz.zeroValue154
 t213 := Tryz.underlying155
 a213 := Tryz.isAgg155
 z213 := Tryz.sizeOf155
 t232 := Tryz.underlying165
 a232 := Tryz.isAgg165
 z232 := Tryz.sizeOf165
 v232 := Tryz.zeroValue165
 t233 := Tryz.underlying166
 a233 := Tryz.isAgg166
 z233 := Tryz.sizeOf166
 v233 := Tryz.zeroValue166
 g15 := by kernel_rfl
 g16 := by kernel_rfl
 g17 := by kernel_rfl
 g18 := by kernel_rfl
 g19 := by kernel_rfl }
open Go.RowKit in
theorem Tryz.strconv_Atoi (s : ByteArray) (n : Int) (hl : s.size ≤ 18) (h : Lib.atoi s.data.toList = some n) (w : World) :
  Calls Tryz.prog 50 #[.string s] w fun e w' => e = .returned (.tuple #[.int .i64 n, .nilIface]) ∧ ∃ t, w' = Lib.bytesWorld w 5 t := Any.strconv_Atoi Tryz.lays172 s n hl h w
end Go.Proofs

/- A generator's text, split up: without memory. -/
namespace Go.Proofs.YtjdnhdcaifogmaaGreatDoor
open Go.RowKit

def bytesP (p : List UInt8) : ByteArray := ⟨p.toArray⟩

theorem extract_bytes (l : List UInt8) (i j : Nat) : (bytesP l).extract i j = bytesP ((l.take j).drop i) := by
 apply ByteArray.ext
 apply Array.toList_inj.1
 rw [ByteArray.data_extract, Array.toList_extract]
 simp [bytesP, List.extract, List.drop_take]

theorem splitB_join (c : UInt8) : ∀ (xs : List (List UInt8)), xs ≠ [] → (∀ x ∈ xs, c ∉ x) → ∀ k, xs.length ≤ k + 1 → Lib.splitB ⟨#[c]⟩ 0 k (bytesP (Lib.join xs [c])) = xs.map bytesP
 | [], h, _, _, _ => absurd rfl h
 | [x], _, hx, k, _ => by
  rw [Lib.join_one]
  exact Lib.splitB_miss _ _ _ _ (index_miss c x (hx x (by simp)))
 | x :: y :: r, _, hx, k, hk => by
  have hc := hx x (by simp)
  obtain ⟨k', rfl⟩ : ∃ k', k = k' + 1 := ⟨k - 1, by simp at hk; omega⟩
  have ih := splitB_join c (y :: r) (by simp) (fun z hz => hx z (List.mem_cons_of_mem _ hz)) k' (by simp at hk ⊢; omega)
  have hi : Lib.indexB (bytesP (Lib.join (x :: y :: r) [c])) ⟨#[c]⟩ = x.length := by
   show Lib.index (Lib.join (x :: y :: r) [c]) [c] = _
   rw [join_two]
   exact index_hit c x _ hc
  rw [Lib.splitB_hit _ _ _ _ _ hi, Nat.add_zero, extract_bytes, extract_bytes]
  have e1 : ((Lib.join (x :: y :: r) [c]).take x.length).drop 0 = x := by rw [join_two, List.drop_zero]; simp
  have e2 : ((Lib.join (x :: y :: r) [c]).take (bytesP (Lib.join (x :: y :: r) [c])).size).drop (x.length + (⟨#[c]⟩ : ByteArray).size) = Lib.join (y :: r) [c] := by
   have hs : (bytesP (Lib.join (x :: y :: r) [c])).size = (Lib.join (x :: y :: r) [c]).length := by show (Lib.join _ _).toArray.size = _; rw [List.size_toArray]
   rw [hs, List.take_length, join_two]
   show List.drop (x.length + 1) _ = _
   rw [List.drop_append, List.drop_eq_nil_of_le (by omega)]
   simp
  rw [e1, e2, ih]
  rfl

theorem split_numT (g : List Int) (h0 : 0 < g.length) (h4 : g.length ≤ 4) : Lib.splitB ⟨#[32]⟩ 0 (min 5 ((bytesP (numT g)).size + 1) - 1) (bytesP (numT g)) = g.map itoS := by
 have hne : g.map Lib.itoa ≠ [] := by intro e; have := congrArg List.length e; simp at this; subst this; simp at h0
 have hx : ∀ x ∈ g.map Lib.itoa, (32 : UInt8) ∉ x := fun x hx h => by
  obtain ⟨z, -, rfl⟩ := List.mem_map.1 hx
  exact (numC_not (ito_chars z 32 h)).1 rfl
 have hlen : ∀ xs : List (List UInt8), (∀ x ∈ xs, x ≠ []) → xs.length ≤ (Lib.join xs [32]).length + 1 := fun xs => by
  induction xs with
  | nil => intro _; simp
  | cons x t ih =>
   intro hh
   match t, ih with
   | [], _ => simp
   | y :: r, ih =>
    have := ih (fun z hz => hh z (List.mem_cons_of_mem _ hz))
    have hx1 : 0 < x.length := List.length_pos_iff.2 (hh x (by simp))
    rw [join_two, List.length_append, List.length_cons, List.length_cons]
    simp only [List.length_cons] at this ⊢
    omega
 have hl := hlen (g.map Lib.itoa) (fun x hx => by
  obtain ⟨z, -, rfl⟩ := List.mem_map.1 hx
  unfold Lib.itoa
  split
  ·simp
  ·exact dec_ne _)
 have hs : (bytesP (numT g)).size = (Lib.join (g.map Lib.itoa) [32]).length := by show (numT g).toArray.size = _; rw [List.size_toArray]; rfl
 rw [List.length_map] at hl
 have := splitB_join 32 (g.map Lib.itoa) hne hx (min 5 ((bytesP (numT g)).size + 1) - 1) (by rw [List.length_map, hs]; omega)
 unfold numT at this ⊢
 rw [this, List.map_map]
 rfl

end Go.Proofs.YtjdnhdcaifogmaaGreatDoor

/- pack: has each part of an operation room in its bytes? -/
namespace Go.Proofs.YtjdnhdcaifogmaaGreatDoor
open Go.RowKit

set_option linter.unusedSimpArgs false in
set_option maxRecDepth 100000 in
set_option maxHeartbeats 1600000 in
theorem shapedP_any (w : World) (o : OpV) (vo : Option Addr) (vc : Nat) :
  Calls Tryz.prog 31 #[.agg #[.int .i64 o.kind, .string o.name, .int .i64 o.n, .slice vo o.v.length vc]] w fun e w' => e = .returned (.bool (shapeB o)) ∧ Below w.heap.size w w' := by
 have hf := FourV.new w (.int .i64 o.kind) (.string o.name) (.int .i64 o.n) (.slice vo o.v.length vc) 46
 have HB0 := hide (alloc_below w (.cells #[.int .i64 o.kind, .string o.name, .int .i64 o.n, .slice vo o.v.length vc] 46))
 obtain ⟨c0, c1, c2, c3, -⟩ := hf
 generalize hr : shapeB o = r
 unfold shapeB at hr
 generalize o.kind = k at *
 generalize o.n = n at *
 generalize o.v.length = l at *
 by_cases hk : 1 ≤ k ∧ k ≤ 4
 ·rw [decide_eq_true hk, Bool.true_and] at hr
  cases hn : nmOk o.name with
  | false =>
   rw [hn, Bool.false_and, Bool.false_and] at hr
   subst hr
   rcases (by omega : k = 1 ∨ k = 2 ∨ k = 3 ∨ k = 4) with rfl | rfl | rfl | rfl <;>
   ·clear hk
    go_enter Tryz.func31, Tryz.ntmps31
    go_wp2_with fail
    refine (name_any o.name _).mono ?_
    rintro e w1 ⟨rfl, rfl⟩
    rw [hn]
    go_wp2
    go_ret
    exact ⟨rfl, HB0.out⟩
  | true =>
   rw [hn, Bool.true_and] at hr
   have H : Hid (r = (decide (0 ≤ n ∧ n ≤ 4) && decide (l ≤ 4))) := hr.symm
   clear hr
   obtain ⟨b0, h0⟩ : ∃ b0, decide ((0 : Int) ≤ n) = b0 := ⟨_, rfl⟩
   obtain ⟨b1, h1⟩ : ∃ b1, decide (n ≤ 4) = b1 := ⟨_, rfl⟩
   obtain ⟨b2, h2⟩ : ∃ b2, decide ((l : Int) ≤ 4) = b2 := ⟨_, rfl⟩
   have HE : Hid (r = (b0 && b1 && b2)) := by
    show _ = _
    rw [H.out, ← h0, ← h1, ← h2]
    by_cases a0 : 0 ≤ n <;> by_cases a1 : n ≤ 4 <;> by_cases a2 : l ≤ 4 <;> simp [a0, a1, a2] <;> omega
   clear H
   rcases (by omega : k = 1 ∨ k = 2 ∨ k = 3 ∨ k = 4) with rfl | rfl | rfl | rfl <;>
   ·clear hk
    go_enter Tryz.func31, Tryz.ntmps31
    go_wp2_with fail
    refine (name_any o.name _).mono ?_
    rintro e w1 ⟨rfl, rfl⟩
    rw [hn]
    clear hn
    cases b0 <;> cases b1 <;> cases b2 <;>
    ·go_wp2
     go_ret
     exact ⟨by rw [HE.out]; rfl, HB0.out⟩
 ·rw [decide_eq_false hk, Bool.false_and, Bool.false_and, Bool.false_and] at hr
  subst hr
  have g1 : (k == 1) = false := beq_eq_false_iff_ne.2 (by omega)
  have g2 : (k == 2) = false := beq_eq_false_iff_ne.2 (by omega)
  have g3 : (k == 3) = false := beq_eq_false_iff_ne.2 (by omega)
  have g4 : (k == 4) = false := beq_eq_false_iff_ne.2 (by omega)
  clear hk
  go_enter Tryz.func31, Tryz.ntmps31
  go_wp2
  go_ret
  exact ⟨rfl, HB0.out⟩

end Go.Proofs.YtjdnhdcaifogmaaGreatDoor

/- pack.Op: an operation as bytes. -/
namespace Go.Proofs.YtjdnhdcaifogmaaGreatDoor
open Go.RowKit

theorem getD_at {l : List Int} {k : Nat} (h : k < l.length) : l.getD k 0 = l[k] := by rw [List.getD_eq_getElem?_getD, List.getElem?_eq_getElem h]; rfl

theorem shapeB_few {o : OpV} (h : shapeB o = true) : o.name.size ≤ 8 ∧ o.v.length ≤ 4 := by
 unfold shapeB at h
 simp only [Bool.and_eq_true, decide_eq_true_eq] at h
 exact ⟨(of_decide_eq_true h.1.1.2).2.1, h.2⟩

set_option linter.unusedSimpArgs false in
set_option maxRecDepth 100000 in
set_option maxHeartbeats 1600000 in
theorem packOp_any (w : World) (o : OpV) (vo : Option Addr) (vc : Nat) (hv : RowS w (.slice vo o.v.length vc) o.v) :
  Calls Tryz.prog 14 #[.agg #[.int .i64 o.kind, .string o.name, .int .i64 o.n, .slice vo o.v.length vc]] w fun e w' => e = .returned (.tuple #[.string (opS o), errV (opF o)]) ∧ Below w.heap.size w w' := by
 have X1 := hide (FourV.new w (.int .i64 o.kind) (.string o.name) (.int .i64 o.n) (.slice vo o.v.length vc) 46)
 have HB := hide (alloc_below w (.cells #[.int .i64 o.kind, .string o.name, .int .i64 o.n, .slice vo o.v.length vc] 46))
 have HV := hide hv
 obtain ⟨c0, c1, c2, c3, -⟩ := X1.out
 obtain ⟨F, hF⟩ : ∃ F, opF o = F := ⟨_, rfl⟩
 obtain ⟨T, hT⟩ : ∃ T, opS o = T := ⟨_, rfl⟩
 rw [hF, hT]
 have HF := hide hF; have HT := hide hT
 clear hv hF hT
 go_enter Tryz.func14, Tryz.ntmps14
 go_wp2_with fail
 generalize w.alloc (.cells #[.int .i64 o.kind, .string o.name, .int .i64 o.n, .slice vo o.v.length vc] 46) = W at *
 refine (shapedP_any W o vo vc).mono ?_
 rintro e w1 ⟨rfl, hb1⟩
 have X2 := hide (X1.out.later hb1); have HB1 := hide (HB.out.trans (hb1.mono HB.out.size))
 clear X1 HB hb1 c0 c1 c2 c3
 obtain ⟨c0, c1, c2, c3, -⟩ := X2.out
 cases hs : shapeB o with
 | false =>
  have h3 : opF o = 3 := by unfold opF; rw [if_pos hs]
  have hS : opS o = ⟨#[]⟩ := by unfold opS; rw [if_neg (by rw [h3]; decide)]
  obtain rfl : F = 3 := HF.out.symm.trans h3
  obtain rfl : T = ⟨#[]⟩ := HT.out.symm.trans hS
  clear HF HT hS hs h3
  go_wp2
  go_ret2
  exact ⟨rfl, HB1.out⟩
 | true =>
  obtain ⟨hn8, hl4⟩ := shapeB_few hs
  have HS := hide hs
  clear hs
  obtain ⟨l, hl⟩ : ∃ l, o.v.length = l := ⟨_, rfl⟩
  rw [hl] at c3 hl4 X2
  have HV1 := HV.out.below HB1.out (Nat.le_refl _)
  rw [hl] at HV1
  have HW := hide HV1
  clear HV HV1
  have hwl : w.heap.size < w1.heap.size := X2.out.2.2.2.2
  have bA := BufB.two w1 o.kind (o.name.size : Int)
  have hA := alloc_below w1 (.cells #[.int .u8 (o.kind % 256), .int .u8 ((o.name.size : Int) % 256)] 5)
  obtain ⟨-, d1, d2, d3, -⟩ := X2.out.later hA
  generalize hWA : w1.alloc (.cells #[.int .u8 (o.kind % 256), .int .u8 ((o.name.size : Int) % 256)] 5) = A1 at *
  obtain ⟨o1, k1, A2, hr1, bB, hbB⟩ := bA.str hA.size o.name 58 (by simp; omega)
  obtain ⟨n1, hn1⟩ : ∃ n, ([lowB o.kind, lowB (o.name.size : Int)] ++ o.name.data.toList).length = n := ⟨_, rfl⟩
  rw [hn1] at hr1 bB
  have HR1 := hide hr1
  have e2 := (hbB.cell (p := ⟨w.heap.size, 2, none⟩) hwl).trans d2; have e3 := (hbB.cell (p := ⟨w.heap.size, 3, none⟩) hwl).trans d3
  have hbl := hbB.size
  obtain ⟨o2, k2, A3, hr2, bC, hbC⟩ := bB.more (Nat.le_trans hA.size hbB.size) [lowB o.n, lowB (l : Int)] #[.int .u8 (o.n % 256), .int .u8 ((l : Int) % 256)] (by simp [Lib.byteCells, lowB_nat]) 58 5 (by simp; omega)
  obtain ⟨n2, hn2⟩ : ∃ n, (([lowB o.kind, lowB (o.name.size : Int)] ++ o.name.data.toList) ++ [lowB o.n, lowB (l : Int)]).length = n := ⟨_, rfl⟩
  have hhead : ([lowB o.kind, lowB (o.name.size : Int)] ++ o.name.data.toList) ++ [lowB o.n, lowB (l : Int)] = headB o := by unfold headB; rw [hl]
  rw [hn2] at hr2 bC
  rw [hhead] at bC hn2
  have HR2 := hide hr2
  have f3 := (hbC.cell (p := ⟨w.heap.size, 3, none⟩) hwl).trans e3
  have hB3 := hA.trans (hbB.trans (hbC.mono (Nat.le_refl _)))
  have HBUF := hide bC; have HBL := hide hB3; have HN2 := hide hn2; have HLL := hide hl
  skip
  have HH2 : Hid (n2 ≤ 12) := by show n2 ≤ 12; rw [← hn2]; unfold headB; simp; omega
  subst hWA
  have HN8 := hide hn8; have HL4 := hide hl4
  have HWL := hide hwl
  clear hn8 hl4 hbl hwl
  clear bA hA hr1 bB hbB hn1 hr2 bC hbC hn2 hhead hl
  go_wp2_with (at_builtin; first | refine Lib.wpList_append_run _ rfl _ _ _ _ rfl _ _ rfl rfl _ _ HR1.out ?_ | refine Lib.wpList_append_run _ rfl _ _ _ _ rfl _ _ rfl rfl _ _ HR2.out ?_)
  clear d1 d2 d3 e2 e3 HR1 HR2 c0 c1 c2 c3 f3
  go_loopw [4, 35] (fun out i wr => ∃ (k : Nat) (oo : Option Addr) (nn cc : Nat), k ≤ l ∧ i = .int .i64 k ∧ out = .slice oo nn cc ∧ Hid (nn = n2 + k * 2) ∧ Hid (BufB w1.heap.size wr (.slice oo nn cc) (headB o ++ (o.v.take k).flatMap twoB)) ∧ Hid ((o.v.take k).any (fun z => decide (z < -999 ∨ 999 < z)) = false) ∧ Hid (Below w1.heap.size w1 wr)) (fun _ i _ => l - (intOf i).toNat)
  case atStart => exact ⟨0, _, _, _, Nat.zero_le _, rfl, rfl, hide (by omega), hide (by rw [List.take_zero, List.flatMap_nil, List.append_nil]; exact HBUF.out), hide (by rw [List.take_zero]; rfl), HBL⟩
  case round =>
   clear HBUF HBL
   obtain ⟨k, oo, nn, cc, hk, rfl, rfl, HNN, HBUF, HANY, HBL⟩ := hrel
   obtain ⟨-, -, -, c3, -⟩ := X2.out.later HBL.out
   have hl4 := HL4.out
   by_cases hkl : k < l
   ·have HKL : Hid (k < o.v.length) := by show _ < _; rw [HLL.out]; exact hkl
    obtain ⟨_, _, e, -, -, hh⟩ := HW.out
    simp only [Value.slice.injEq] at e
    obtain ⟨rfl, -, rfl⟩ := e
    obtain ⟨b, off, rfl, hlt, hc⟩ := hh (by have := HKL.out; omega)
    have cz1 := hc k HKL.out
    have cz := (HBL.out.cell (p := ⟨b, off + k, none⟩) hlt).trans cz1
    clear hh hc cz1
    have HTK : Hid (o.v.take (k + 1) = o.v.take k ++ [o.v.getD k 0]) := by
     show _ = _
     rw [List.take_succ_eq_append_getElem HKL.out, getD_at HKL.out]
    have HMEM : Hid (o.v.getD k 0 ∈ o.v) := by
     show _ ∈ _
     rw [getD_at HKL.out]
     exact List.getElem_mem _
    generalize o.v.getD k 0 = z at *
    by_cases hbig : z < -999 ∨ 999 < z
    ·have HF1 : Hid (F = 1) := by
      show F = 1
      rw [← HF.out]
      unfold opF
      rw [if_neg (by rw [HS.out]; decide), if_pos (show bigB o = true from List.any_eq_true.2 ⟨z, HMEM.out, decide_eq_true hbig⟩)]
     have HT1 : Hid (T = ⟨#[]⟩) := by
      show T = _
      rw [← HT.out]
      unfold opS
      rw [if_neg (by rw [HF.out, HF1.out]; decide)]
     obtain rfl : F = 1 := HF1.out
     obtain rfl : T = ⟨#[]⟩ := HT1.out
     by_cases h1 : z < -999
     ·have g1 : decide (z < -999) = true := decide_eq_true h1
      clear hbig HF HT HF1 HT1 h1
      go_wp2
      go_ret2
      exact ⟨rfl, HB1.out.trans (HBL.out.mono HB1.out.size)⟩
     ·have g1 : decide (z < -999) = false := decide_eq_false h1
      have g2 : decide (999 < z) = true := decide_eq_true (by omega)
      clear hbig HF HT HF1 HT1 h1
      go_wp2
      go_ret2
      exact ⟨rfl, HB1.out.trans (HBL.out.mono HB1.out.size)⟩
    ·have gz1 : decide (z < -999) = false := decide_eq_false (by omega)
     have gz2 : decide (999 < z) = false := decide_eq_false (by omega)
     have HBG := hide hbig
     have hbz := HBL.out.size
     have hwl := HWL.out
     have bD : BufB w1.heap.size wr.drew (.slice oo nn cc) (headB o ++ (o.v.take k).flatMap twoB) := BufB.later HBUF.out (Below.refl _ _).drew
     obtain ⟨o3, k3, W', hr4, bE, hbE⟩ := BufB.more (W := wr.drew) (m := twoB z) bD (by show w1.heap.size ≤ wr.heap.size; exact hbz) #[.int .u8 (z % 256), .int .u8 (z / 256 % 256)] (by simp [Lib.byteCells, twoB, lowB_nat]) 58 5 (by have h1 := HNN.out; have h2 := HH2.out; have h3 : (headB o ++ (o.v.take k).flatMap twoB).length = nn := HBUF.out.len.symm; rw [h3]; show nn + 2 ≤ _; omega)
     have hbA := alloc_below wr.drew (.cells #[.int .u8 (z % 256), .int .u8 (z / 256 % 256)] 5)
     have kl : w.heap.size < wr.heap.size := by omega
     have f0 := (hbA.cell (p := ⟨w.heap.size, 3, none⟩) kl).trans c3; have f1 := (hbA.cell (p := ⟨b, off + k, none⟩) (Nat.lt_of_lt_of_le hlt hbz)).trans cz
     obtain ⟨n3, hn3⟩ : ∃ n, ((headB o ++ (o.v.take k).flatMap twoB) ++ twoB z).length = n := ⟨_, rfl⟩
     rw [hn3] at hr4 bE
     have h2 : (twoB z).length = 2 := rfl
     rw [h2] at hr4
     have HR4 := hide hr4
     have g0 := (hbE.cell (p := ⟨w.heap.size, 3, none⟩) hwl).trans c3
     have g1 := (hbE.cell (p := ⟨b, off + k, none⟩) hlt).trans cz
     have HBE2 : Hid (BufB w1.heap.size W' (.slice o3 n3 k3) (headB o ++ (o.v.take (k + 1)).flatMap twoB)) := by
      show BufB _ _ _ _
      rw [HTK.out, List.flatMap_append, List.flatMap_cons, List.flatMap_nil, List.append_nil, ← List.append_assoc]
      exact bE
     have HN3 : Hid (n3 = n2 + (k + 1) * 2) := by
      have h1 := HNN.out; have h3 : (headB o ++ (o.v.take k).flatMap twoB).length = nn := HBUF.out.len.symm
      show n3 = _
      rw [← hn3, List.length_append, h3]
      show nn + 2 = _
      omega
     have HANY2 : Hid ((o.v.take (k + 1)).any (fun z => decide (z < -999 ∨ 999 < z)) = false) := by
      show _ = _
      rw [HTK.out, List.any_append, HANY.out, Bool.false_or, List.any_cons, List.any_nil, Bool.or_false]
      exact decide_eq_false HBG.out
     have HBL2 := hide (HBL.out.trans (((Below.refl w1.heap.size wr).drew).trans hbE))
     clear hr4 bE hbE hbA bD hn3 h2 hbig HBUF HNN HANY HBL HTK HMEM hlt
     go_wp2_with fail
     refine up_start (A := fun j => !decide (j = 0 ∨ j = 1 ∨ j = 3 ∨ j = 7 ∨ j = 9 ∨ j = 16)) (S := (fun w' => w'.cell? ⟨w.heap.size, 3, none⟩ = some (.slice (some ⟨b, off, none⟩) l vc) ∧ w'.cell? ⟨b, off + k, none⟩ = some (.int .i64 z))) (by kernel_rfl) (by exact ⟨c3, cz⟩) (fun hHeld => ?_)
     refine up_pure (v := ?_) 0 53 rfl rfl (by kernel_rfl) (by kernel_rfl) (by kernel_rfl) (by kernel_rfl) (fun _ _ _ h => h) (by rfl) ?_ ?_
     rotate_left
     ·(intro w; go_simp; with_reducible rfl)
     simp only [Act.put, List.setIfInBounds_toArray, List.set_cons_zero, List.set_cons_succ]
     refine up_pure (v := ?_) 1 54 rfl rfl (by kernel_rfl) (by kernel_rfl) (by kernel_rfl) (by kernel_rfl) (fun _ _ _ h => h) (by rfl) ?_ ?_
     rotate_left
     ·(intro w; go_simp; with_reducible rfl)
     simp only [Act.put, List.setIfInBounds_toArray, List.set_cons_zero, List.set_cons_succ]
     refine up_pure (v := ?_) 3 56 rfl rfl (by kernel_rfl) (by kernel_rfl) (by kernel_rfl) (by kernel_rfl) (fun _ _ _ h => h) (by rfl) ?_ ?_
     rotate_left
     ·(intro w; go_simp; with_reducible rfl)
     simp only [Act.put, List.setIfInBounds_toArray, List.set_cons_zero, List.set_cons_succ]
     refine up_pure (v := ?_) 7 60 rfl rfl (by kernel_rfl) (by kernel_rfl) (by kernel_rfl) (by kernel_rfl) (fun _ _ _ h => h) (by rfl) ?_ ?_
     rotate_left
     ·(intro w; go_simp; with_reducible rfl)
     simp only [Act.put, List.setIfInBounds_toArray, List.set_cons_zero, List.set_cons_succ]
     refine up_pure (v := ?_) 9 62 rfl rfl (by kernel_rfl) (by kernel_rfl) (by kernel_rfl) (by kernel_rfl) (fun _ _ _ h => h) (by rfl) ?_ ?_
     rotate_left
     ·(intro w; go_simp; with_reducible rfl)
     simp only [Act.put, List.setIfInBounds_toArray, List.set_cons_zero, List.set_cons_succ]
     refine up_run (v := ?_) 2 55 [16] rfl rfl (by kernel_rfl) (by kernel_rfl) (by kernel_rfl) (by kernel_rfl) (fun _ _ _ h => h) (by rfl) ?_ (by assumption) ?_
     rotate_left
     ·(intro w hSw; (try dsimp only at hSw); obtain ⟨hS1, hS2⟩ := hSw; go_simp; with_reducible rfl)
     simp only [Act.put, List.setIfInBounds_toArray, List.set_cons_zero, List.set_cons_succ]
     refine up_run (v := ?_) 4 57 [16] rfl rfl (by kernel_rfl) (by kernel_rfl) (by kernel_rfl) (by kernel_rfl) (fun _ _ _ h => h) (by rfl) ?_ (by assumption) ?_
     rotate_left
     ·(intro w hSw; (try dsimp only at hSw); obtain ⟨hS1, hS2⟩ := hSw; go_simp; with_reducible rfl)
     simp only [Act.put, List.setIfInBounds_toArray, List.set_cons_zero, List.set_cons_succ]
     refine up_run (v := ?_) 5 58 [16] rfl rfl (by kernel_rfl) (by kernel_rfl) (by kernel_rfl) (by kernel_rfl) (fun _ _ _ h => h) (by rfl) ?_ (by assumption) ?_
     rotate_left
     ·(intro w hSw; (try dsimp only at hSw); obtain ⟨hS1, hS2⟩ := hSw; go_simp; with_reducible rfl)
     simp only [Act.put, List.setIfInBounds_toArray, List.set_cons_zero, List.set_cons_succ]
     refine up_run (v := ?_) 6 59 [16] rfl rfl (by kernel_rfl) (by kernel_rfl) (by kernel_rfl) (by kernel_rfl) (fun _ _ _ h => h) (by rfl) ?_ (by assumption) ?_
     rotate_left
     ·(intro w hSw; (try dsimp only at hSw); obtain ⟨hS1, hS2⟩ := hSw; go_simp; with_reducible rfl)
     simp only [Act.put, List.setIfInBounds_toArray, List.set_cons_zero, List.set_cons_succ]
     refine up_run (v := ?_) 8 61 [16] rfl rfl (by kernel_rfl) (by kernel_rfl) (by kernel_rfl) (by kernel_rfl) (fun _ _ _ h => h) (by rfl) ?_ (by assumption) ?_
     rotate_left
     ·(intro w hSw; (try dsimp only at hSw); obtain ⟨hS1, hS2⟩ := hSw; go_simp; with_reducible rfl)
     simp only [Act.put, List.setIfInBounds_toArray, List.set_cons_zero, List.set_cons_succ]
     refine up_run (v := ?_) 10 63 [16] rfl rfl (by kernel_rfl) (by kernel_rfl) (by kernel_rfl) (by kernel_rfl) (fun _ _ _ h => h) (by rfl) ?_ (by assumption) ?_
     rotate_left
     ·(intro w hSw; (try dsimp only at hSw); obtain ⟨hS1, hS2⟩ := hSw; go_simp; with_reducible rfl)
     simp only [Act.put, List.setIfInBounds_toArray, List.set_cons_zero, List.set_cons_succ]
     refine up_run (v := ?_) 11 64 [16] rfl rfl (by kernel_rfl) (by kernel_rfl) (by kernel_rfl) (by kernel_rfl) (fun _ _ _ h => h) (by rfl) ?_ (by assumption) ?_
     rotate_left
     ·(intro w hSw; (try dsimp only at hSw); obtain ⟨hS1, hS2⟩ := hSw; go_simp; with_reducible rfl)
     simp only [Act.put, List.setIfInBounds_toArray, List.set_cons_zero, List.set_cons_succ]
     refine up_run (v := ?_) 12 65 [16] rfl rfl (by kernel_rfl) (by kernel_rfl) (by kernel_rfl) (by kernel_rfl) (fun _ _ _ h => h) (by rfl) ?_ (by assumption) ?_
     rotate_left
     ·(intro w hSw; (try dsimp only at hSw); obtain ⟨hS1, hS2⟩ := hSw; go_simp; with_reducible rfl)
     simp only [Act.put, List.setIfInBounds_toArray, List.set_cons_zero, List.set_cons_succ]
     refine up_run (v := ?_) 13 66 [16] rfl rfl (by kernel_rfl) (by kernel_rfl) (by kernel_rfl) (by kernel_rfl) (fun _ _ _ h => h) (by rfl) ?_ (by assumption) ?_
     rotate_left
     ·(intro w hSw; (try dsimp only at hSw); obtain ⟨hS1, hS2⟩ := hSw; go_simp; with_reducible rfl)
     simp only [Act.put, List.setIfInBounds_toArray, List.set_cons_zero, List.set_cons_succ]
     refine up_one 14 (by kernel_rfl) rfl (fun K hK => ?_)
     go_simp
     refine hK.out _ _ (fun _ => ⟨f0, f1⟩) ?_
     clear hK K
     try simp only [Act.put, List.setIfInBounds_toArray, List.set_cons_zero, List.set_cons_succ]
     refine up_one 15 (by kernel_rfl) rfl (fun K hK => ?_)
     refine step_append_run rfl (.tmp 53) (.tmp 67) 58 58 rfl _ _ rfl rfl _ _ HR4.out ?_
     refine hK.out _ _ (fun _ => ⟨g0, g1⟩) ?_
     clear hK K
     try simp only [Act.put, List.setIfInBounds_toArray, List.set_cons_zero, List.set_cons_succ]
     refine up_one 16 (by kernel_rfl) rfl (fun K hK => ?_)
     go_simp
     refine hK.out _ _ (fun h => absurd h (by decide)) ?_
     clear hK K
     try simp only [Act.put, List.setIfInBounds_toArray, List.set_cons_zero, List.set_cons_succ]
     refine up_done (by kernel_rfl) ?_
     go_wp2
     go_roundw
     case rel => exact ⟨k + 1, _, _, _, by omega, by go_num, rfl, HN3, HBE2, HANY2, HBL2⟩
     case measure => simp [intOf]; omega
   ·obtain rfl : k = l := by omega
    have HTA : Hid (o.v.take k = o.v) := by show _ = _; rw [← HLL.out, List.take_length]
    have HF0 : Hid (F = 0) := by
     show F = 0
     rw [← HF.out]
     unfold opF
     rw [if_neg (by rw [HS.out]; decide), if_neg]
     have h := HANY.out
     rw [HTA.out] at h
     rw [show bigB o = false from h]
     decide
    have HT0 : Hid (T = ⟨(opB o).toArray⟩) := by
     show T = _
     rw [← HT.out]
     unfold opS
     rw [if_pos (HF.out.trans HF0.out)]
    have HBU : Hid (BufB w1.heap.size wr (.slice oo (opB o).length cc) (opB o)) := by
     have h := HBUF.out
     rw [HTA.out] at h
     have h2 := h.len
     show BufB _ _ _ _
     unfold opB
     rw [← h2]
     exact h
    have HNO : Hid ((opB o).length = nn) := by
     have h := HBUF.out.len
     rw [HTA.out] at h
     exact h.symm
    have hcv := HBU.out.back (by unfold opB headB; simp)
    rw [HNO.out] at hcv
    obtain rfl : F = 0 := HF0.out
    obtain rfl : T = ⟨(opB o).toArray⟩ := HT0.out
    clear HF HT HF0 HT0 HBU HNO HTA HBUF HNN HANY HH2 hkl hk
    go_wp2
    go_ret2
    exact ⟨rfl, HB1.out.trans (HBL.out.mono HB1.out.size)⟩

end Go.Proofs.YtjdnhdcaifogmaaGreatDoor
