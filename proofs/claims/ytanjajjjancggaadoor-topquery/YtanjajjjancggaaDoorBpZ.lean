/- strings.IndexAny, strconv.Atoi, laid at this translation. -/
import Derived.Shelf.Small.Strs
import Derived.Shelf.Strings.Runes
import Derived.Shelf.Strings.IndexAnyAll
import Derived.Shelf.Strconv.Atoi
import Derived.Test.YtanjajjjancggaaDoorProg
import Derived.Test.YtanjajjjancggaaDoorRows
import Derived.WalkKit
import Derived.WalkSpells
import Derived.WalkLawsBesides
import Derived.Laws.AppendOwn
import Derived.OwnWalk
import Derived.Deep.RegionHeld3
import Derived.Lib.Strings
import Derived.Lib.IndexAny
import Derived.Lib.ItoaNum
import Derived.Deep.AppendLies
import Derived.Lib.AppendZeros
import Derived.Lib.AppendStr

namespace Go.Proofs
open Go.Shelf Go.RowKit
def Tryd.lays137_ren : Go.Shelf.Ren := ⟨fun | 137 => 60 | 217 => 72 | 266 => 77 | n => n, fun | 9 => 9 | 5 => 5 | 3 => 3 | n => n, fun | n => n⟩
theorem Tryd.lays137 : Go.Proofs.Lays.n137 Tryd.prog Tryd.lays137_ren := {
 mixed := by kernel_rfl
 f137 := Tryd.func60.trans (congrArg some (by kernel_rfl))
 f217 := Tryd.func72.trans (congrArg some (by kernel_rfl))
 f266 := Tryd.func77.trans (congrArg some (by kernel_rfl))
 t3 := Tryd.underlying3
 a3 := Tryd.isAgg3
 z3 := Tryd.sizeOf3
 v3 := Tryd.zeroValue3
 t5 := Tryd.underlying5
 a5 := Tryd.isAgg5
 z5 := Tryd.sizeOf5
 v5 := Tryd.zeroValue5
 t9 := Tryd.underlying9
 a9 := Tryd.isAgg9
 z9 := Tryd.sizeOf9
 v9 := Tryd.zeroValue9 }
open Go.RowKit in
theorem Tryd.strings_IndexByte (s : ByteArray) (c : Int) (w : World) :
  Calls Tryd.prog 60 #[.string s, .int .u8 c] w fun e w' => e = .returned (.int .i64 (Lib.indexByte s.data.toList c.toNat.toUInt8)) ∧ w' = w := Any.strings_IndexByte Tryd.lays137 s c w
def Tryd.lays152_ren : Go.Shelf.Ren := ⟨fun | 152 => 47 | 137 => 60 | 119 => 61 | 224 => 62 | 225 => 63 | 217 => 72 | 266 => 77 | n => n, fun | 9 => 9 | 21 => 21 | 3 => 3 | 4 => 4 | 5 => 5 | 0 => 0 | 46 => 96 | n => n, fun | n => n⟩
theorem Tryd.lays152 : Go.Proofs.Lays.n152 Tryd.prog Tryd.lays152_ren := {
 mixed := by kernel_rfl
 f119 := Tryd.func61.trans (congrArg some (by kernel_rfl))
 f137 := Tryd.func60.trans (congrArg some (by kernel_rfl))
 f152 := Tryd.func47.trans (congrArg some (by kernel_rfl))
 f217 := Tryd.func72.trans (congrArg some (by kernel_rfl))
 f224 := Tryd.func62.trans (congrArg some (by kernel_rfl))
 f225 := Tryd.func63.trans (congrArg some (by kernel_rfl))
 f266 := Tryd.func77.trans (congrArg some (by kernel_rfl))
 t0 := Tryd.underlying0
 a0 := Tryd.isAgg0
 z0 := Tryd.sizeOf0
 v0 := Tryd.zeroValue0
 t3 := Tryd.underlying3
 a3 := Tryd.isAgg3
 z3 := Tryd.sizeOf3
 v3 := Tryd.zeroValue3
 t4 := Tryd.underlying4
 a4 := Tryd.isAgg4
 z4 := Tryd.sizeOf4
 v4 := Tryd.zeroValue4
 t5 := Tryd.underlying5
 a5 := Tryd.isAgg5
 z5 := Tryd.sizeOf5
 v5 := Tryd.zeroValue5
 t9 := Tryd.underlying9
 a9 := Tryd.isAgg9
 z9 := Tryd.sizeOf9
 v9 := Tryd.zeroValue9
 t21 := Tryd.underlying21
 a21 := Tryd.isAgg21
 z21 := Tryd.sizeOf21
 v21 := Tryd.zeroValue21
 t46 := Tryd.underlying96
 a46 := Tryd.isAgg96
 z46 := Tryd.sizeOf96
 v46 := Tryd.zeroValue96 }
open Go.RowKit Go.Lib in
theorem Tryd.strings_IndexRune_ascii (s : ByteArray) (r : Int) (w : World) (h0 : 0 ≤ r) (h1 : r < 128) :
  Calls Tryd.prog 47 #[.string s, .int .i32 r] w fun e w' => e = .returned (.int .i64 (Lib.indexByte s.data.toList r.toNat.toUInt8)) ∧ w' = w := Any.strings_IndexRune_ascii Tryd.lays152 s r w h0 h1
def Tryd.lays153_ren : Go.Shelf.Ren := ⟨fun | 153 => 41 | 152 => 47 | 226 => 48 | 227 => 49 | 228 => 50 | 137 => 60 | 119 => 61 | 224 => 62 | 225 => 63 | 217 => 72 | 266 => 77 | n => n, fun | 9 => 9 | 3 => 3 | 4 => 4 | 5 => 5 | 21 => 21 | 117 => 79 | 116 => 78 | 0 => 0 | 46 => 96 | 124 => 97 | n => n, fun | n => n⟩
theorem Tryd.lays153 : Go.Proofs.Lays.n153 Tryd.prog Tryd.lays153_ren := {
 mixed := by kernel_rfl
 f119 := Tryd.func61.trans (congrArg some (by kernel_rfl))
 f137 := Tryd.func60.trans (congrArg some (by kernel_rfl))
 f152 := Tryd.func47.trans (congrArg some (by kernel_rfl))
 f153 := Tryd.func41.trans (congrArg some (by kernel_rfl))
 f217 := Tryd.func72.trans (congrArg some (by kernel_rfl))
 f224 := Tryd.func62.trans (congrArg some (by kernel_rfl))
 f225 := Tryd.func63.trans (congrArg some (by kernel_rfl))
 f226 := Tryd.func48.trans (congrArg some (by kernel_rfl))
 f227 := Tryd.func49.trans (congrArg some (by kernel_rfl))
 f228 := Tryd.func50.trans (congrArg some (by kernel_rfl))
 f266 := Tryd.func77.trans (congrArg some (by kernel_rfl))
 t0 := Tryd.underlying0
 a0 := Tryd.isAgg0
 z0 := Tryd.sizeOf0
 v0 := Tryd.zeroValue0
 t3 := Tryd.underlying3
 a3 := Tryd.isAgg3
 z3 := Tryd.sizeOf3
 v3 := Tryd.zeroValue3
 t4 := Tryd.underlying4
 a4 := Tryd.isAgg4
 z4 := Tryd.sizeOf4
 v4 := Tryd.zeroValue4
 t5 := Tryd.underlying5
 a5 := Tryd.isAgg5
 z5 := Tryd.sizeOf5
 v5 := Tryd.zeroValue5
 t9 := Tryd.underlying9
 a9 := Tryd.isAgg9
 z9 := Tryd.sizeOf9
 v9 := Tryd.zeroValue9
 t21 := Tryd.underlying21
 a21 := Tryd.isAgg21
 z21 := Tryd.sizeOf21
 v21 := Tryd.zeroValue21
 t46 := Tryd.underlying96
 a46 := Tryd.isAgg96
 z46 := Tryd.sizeOf96
 v46 := Tryd.zeroValue96
 t116 := Tryd.underlying78
 a116 := Tryd.isAgg78
 z116 := Tryd.sizeOf78
 t117 := Tryd.underlying79
 a117 := Tryd.isAgg79
 z117 := Tryd.sizeOf79
 v117 := Tryd.zeroValue79
 t124 := Tryd.underlying97
 a124 := Tryd.isAgg97
 z124 := Tryd.sizeOf97
 v124 := Tryd.zeroValue97 }
open Go.RowKit Go.Lib in
theorem Tryd.strings_IndexAny (hv116 : ∀ w, (zeroValue 78).run Tryd.prog w = .ok (.agg (Array.replicate 256 (.bool false))) w) (s chars : ByteArray) (w : World) (hs : s.size < 4294967281) (hcs : chars.size < 4294967281) (has : ∀ (j : Nat) b, s.data.toList[j]? = some b → b.toNat < 128) (hac : ∀ (j : Nat) b, chars.data.toList[j]? = some b → b.toNat < 128) :
  Calls Tryd.prog 41 #[.string s, .string chars] w fun e w' => e = .returned (.int .i64 (Lib.indexAny s.data.toList chars.data.toList)) ∧ Below w.heap.size w w' := Any.strings_IndexAny Tryd.lays153 hv116 (by kernel_rfl) s chars w hs hcs has hac
def Tryd.lays172_ren : Go.Shelf.Ren := ⟨fun | 172 => 34 | 244 => 42 | 245 => 43 | 247 => 51 | 279 => 52 | 280 => 53 | 281 => 54 | 282 => 55 | 287 => 64 | 316 => 65 | 171 => 25 | 205 => 66 | 321 => 73 | 322 => 74 | 243 => 36 | 246 => 44 | 283 => 56 | 284 => 57 | 285 => 58 | 286 => 59 | 129 => 68 | 317 => 67 | 318 => 69 | 319 => 70 | 320 => 71 | 337 => 75 | 338 => 76 | n => n, fun | 9 => 9 | 3 => 3 | 75 => 29 | 76 => 64 | 4 => 4 | 5 => 5 | 167 => 82 | 37 => 67 | 0 => 0 | 85 => 83 | 2 => 2 | 168 => 85 | 53 => 68 | 175 => 98 | 46 => 96 | 210 => 102 | 127 => 110 | 145 => 113 | 143 => 111 | 21 => 21 | 171 => 88 | 173 => 91 | 212 => 105 | 51 => 106 | 20 => 20 | 213 => 107 | 232 => 115 | 233 => 116 | 80 => 117 | n => n, fun | 15 => 0 | 16 => 1 | 17 => 2 | 18 => 4 | 19 => 5 | n => n⟩
theorem Tryd.lays172 : Go.Proofs.Lays.n172 Tryd.prog Tryd.lays172_ren := {
 mixed := by kernel_rfl
 f129 := Tryd.func68.trans (congrArg some (by kernel_rfl))
 f171 := Tryd.func25.trans (congrArg some (by kernel_rfl))
 f172 := Tryd.func34.trans (congrArg some (by kernel_rfl))
 f205 := Tryd.func66.trans (congrArg some (by kernel_rfl))
 f243 := Tryd.func36.trans (congrArg some (by kernel_rfl))
 f244 := Tryd.func42.trans (congrArg some (by kernel_rfl))
 f245 := Tryd.func43.trans (congrArg some (by kernel_rfl))
 f246 := Tryd.func44.trans (congrArg some (by kernel_rfl))
 f247 := Tryd.func51.trans (congrArg some (by kernel_rfl))
 f279 := Tryd.func52.trans (congrArg some (by kernel_rfl))
 f280 := Tryd.func53.trans (congrArg some (by kernel_rfl))
 f281 := Tryd.func54.trans (congrArg some (by kernel_rfl))
 f282 := Tryd.func55.trans (congrArg some (by kernel_rfl))
 f283 := Tryd.func56.trans (congrArg some (by kernel_rfl))
 f284 := Tryd.func57.trans (congrArg some (by kernel_rfl))
 f285 := Tryd.func58.trans (congrArg some (by kernel_rfl))
 f286 := Tryd.func59.trans (congrArg some (by kernel_rfl))
 f287 := Tryd.func64.trans (congrArg some (by kernel_rfl))
 f316 := Tryd.func65.trans (congrArg some (by kernel_rfl))
 f317 := Tryd.func67.trans (congrArg some (by kernel_rfl))
 f318 := Tryd.func69.trans (congrArg some (by kernel_rfl))
 f319 := Tryd.func70.trans (congrArg some (by kernel_rfl))
 f320 := Tryd.func71.trans (congrArg some (by kernel_rfl))
 f321 := Tryd.func73.trans (congrArg some (by kernel_rfl))
 f322 := Tryd.func74.trans (congrArg some (by kernel_rfl))
 f337 := Tryd.func75.trans (congrArg some (by kernel_rfl))
 f338 := Tryd.func76.trans (congrArg some (by kernel_rfl))
 t0 := Tryd.underlying0
 a0 := Tryd.isAgg0
 z0 := Tryd.sizeOf0
 v0 := Tryd.zeroValue0
 t2 := Tryd.underlying2
 a2 := Tryd.isAgg2
 z2 := Tryd.sizeOf2
 v2 := Tryd.zeroValue2
 t3 := Tryd.underlying3
 a3 := Tryd.isAgg3
 z3 := Tryd.sizeOf3
 v3 := Tryd.zeroValue3
 t4 := Tryd.underlying4
 a4 := Tryd.isAgg4
 z4 := Tryd.sizeOf4
 v4 := Tryd.zeroValue4
 t5 := Tryd.underlying5
 a5 := Tryd.isAgg5
 z5 := Tryd.sizeOf5
 v5 := Tryd.zeroValue5
 t9 := Tryd.underlying9
 a9 := Tryd.isAgg9
 z9 := Tryd.sizeOf9
 v9 := Tryd.zeroValue9
 t20 := Tryd.underlying20
 a20 := Tryd.isAgg20
 z20 := Tryd.sizeOf20
 v20 := Tryd.zeroValue20
 t21 := Tryd.underlying21
 a21 := Tryd.isAgg21
 z21 := Tryd.sizeOf21
 v21 := Tryd.zeroValue21
 t37 := Tryd.underlying67
 a37 := Tryd.isAgg67
 z37 := Tryd.sizeOf67
 v37 := Tryd.zeroValue67
 t46 := Tryd.underlying96
 a46 := Tryd.isAgg96
 z46 := Tryd.sizeOf96
 v46 := Tryd.zeroValue96
 t51 := Tryd.underlying106
 a51 := Tryd.isAgg106
 z51 := Tryd.sizeOf106
 v51 := Tryd.zeroValue106
 t53 := Tryd.underlying68
 a53 := Tryd.isAgg68
 z53 := Tryd.sizeOf68
 v53 := Tryd.zeroValue68
 t75 := Tryd.underlying29
 a75 := Tryd.isAgg29
 z75 := Tryd.sizeOf29
 v75 := Tryd.zeroValue29
 t76 := Tryd.underlying64
 a76 := Tryd.isAgg64
 z76 := Tryd.sizeOf64
 v76 := Tryd.zeroValue64
 t85 := Tryd.underlying83
 a85 := Tryd.isAgg83
 z85 := Tryd.sizeOf83
 v85 := Tryd.zeroValue83
 t127 := Tryd.underlying110
 a127 := Tryd.isAgg110
 z127 := Tryd.sizeOf110
 v127 := Tryd.zeroValue110
 t143 := Tryd.underlying111
 a143 := Tryd.isAgg111
 z143 := Tryd.sizeOf111
 v143 := Tryd.zeroValue111
 t145 := Tryd.underlying113
 a145 := Tryd.isAgg113
 z145 := Tryd.sizeOf113
 v145 := Tryd.zeroValue113
 t167 := Tryd.underlying82
 a167 := Tryd.isAgg82
 z167 := Tryd.sizeOf82
 v167 := Tryd.zeroValue82
 t168 := Tryd.underlying85
 a168 := Tryd.isAgg85
 z168 := Tryd.sizeOf85
 v168 := Tryd.zeroValue85
 t171 := Tryd.underlying88
 a171 := Tryd.isAgg88
 z171 := Tryd.sizeOf88
 v171 := Tryd.zeroValue88
 t173 := Tryd.underlying91
 a173 := Tryd.isAgg91
 z173 := Tryd.sizeOf91
 v173 := Tryd.zeroValue91
 t175 := Tryd.underlying98
 a175 := Tryd.isAgg98
 z175 := Tryd.sizeOf98
 v175 := Tryd.zeroValue98
 t210 := Tryd.underlying102
 a210 := Tryd.isAgg102
 z210 := Tryd.sizeOf102
 v210 := Tryd.zeroValue102
 t212 := Tryd.underlying105
 a212 := Tryd.isAgg105
 z212 := Tryd.sizeOf105
 v212 := Tryd.zeroValue105
 t213 := Tryd.underlying107
 a213 := Tryd.isAgg107
 z213 := Tryd.sizeOf107
 t232 := Tryd.underlying115
 a232 := Tryd.isAgg115
 z232 := Tryd.sizeOf115
 v232 := Tryd.zeroValue115
 t233 := Tryd.underlying116
 a233 := Tryd.isAgg116
 z233 := Tryd.sizeOf116
 v233 := Tryd.zeroValue116
 g15 := by kernel_rfl
 g16 := by kernel_rfl
 g17 := by kernel_rfl
 g18 := by kernel_rfl
 g19 := by kernel_rfl }
open Go.RowKit in
theorem Tryd.strconv_Atoi (s : ByteArray) (n : Int) (hl : s.size ≤ 18) (h : Lib.atoi s.data.toList = some n) (w : World) :
  Calls Tryd.prog 34 #[.string s] w fun e w' => e = .returned (.tuple #[.int .i64 n, .nilIface]) ∧ ∃ t, w' = Lib.bytesWorld w 5 t := Any.strconv_Atoi Tryd.lays172 s n hl h w
end Go.Proofs

/- What all texts lean on: memory that stays, bytes of a text, rows of whole numbers. -/
namespace Go.Proofs.YtanjajjjancggaaDoor
open Go.RowKit

theorem hide {p : Prop} (h : p) : Hid p := h

theorem heap_lt {w : World} {b : Nat} {o : Obj} (h : w.heap[b]? = some o) : b < w.heap.size := by
 rcases Nat.lt_or_ge b w.heap.size with hlt | hge
 ·exact hlt
 ·rw [Array.getElem?_eq_none hge] at h; cases h

def byt (s : ByteArray) (k : Nat) : Int := if h : k < s.size then ((s[k]'h).toNat : Int) else 0

theorem byt_eq {s : ByteArray} {k : Nat} (h : k < s.size) : ((s[k]'h).toNat : Int) = byt s k := by simp [byt, h]

def RowS (w : World) (v : Value) (ks : List Int) : Prop :=
 ∃ ao cap, v = .slice ao ks.length cap ∧ ks.length ≤ cap ∧ (∀ i, -9223372036854775808 ≤ ks.getD i 0 ∧ ks.getD i 0 ≤ 9223372036854775807) ∧
  (0 < ks.length → ∃ b off, ao = some ⟨b, off, none⟩ ∧ b < w.heap.size ∧ ∀ i, i < ks.length → w.cell? ⟨b, off + i, none⟩ = some (.int .i64 (ks.getD i 0)))

theorem RowS.below {C : Nat} {w w' : World} {v : Value} {ks : List Int} (h : RowS w v ks) (hb : Below C w w') (hC : w.heap.size ≤ C) : RowS w' v ks := by
 obtain ⟨ao, cap, hv, h1, hk, h2⟩ := h
 refine ⟨ao, cap, hv, h1, hk, fun h0 => ?_⟩
 obtain ⟨b, off, e, hlt, hc⟩ := h2 h0
 exact ⟨b, off, e, Nat.lt_of_lt_of_le hlt hb.size, fun i hi => (hb.cell (p := ⟨b, off + i, none⟩) (Nat.lt_of_lt_of_le hlt hC)).trans (hc i hi)⟩

def RowsS (w : World) (v : Value) (rs : List (List Int)) : Prop :=
 ∃ ao cap, v = .slice ao rs.length cap ∧ rs.length ≤ cap ∧ (0 < rs.length → ∃ b off, ao = some ⟨b, off, none⟩ ∧ b < w.heap.size ∧ ∀ i r, rs[i]? = some r → ∃ u, w.cell? ⟨b, off + i, none⟩ = some u ∧ RowS w u r)

theorem RowsS.below {w w' : World} {v : Value} {rs : List (List Int)} (h : RowsS w v rs) (hb : Below w.heap.size w w') : RowsS w' v rs := by
 obtain ⟨ao, cap, hv, h1, h2⟩ := h
 refine ⟨ao, cap, hv, h1, fun h0 => ?_⟩
 obtain ⟨b, off, e, hlt, hc⟩ := h2 h0
 refine ⟨b, off, e, Nat.lt_of_lt_of_le hlt hb.size, fun i r hi => ?_⟩
 obtain ⟨u, h3, h4⟩ := hc i r hi
 exact ⟨u, (hb.cell (p := ⟨b, off + i, none⟩) hlt).trans h3, h4.below hb (Nat.le_refl _)⟩

theorem RowsS.at {w : World} {v : Value} {rs : List (List Int)} (h : RowsS w v rs) (i : Nat) (hi : i < rs.length) : ∃ b off cap, v = .slice (some ⟨b, off, none⟩) rs.length cap ∧ b < w.heap.size ∧ ∃ u, w.cell? ⟨b, off + i, none⟩ = some u ∧ RowS w u rs[i] := by
 obtain ⟨ao, cap, hv, h1, h2⟩ := h
 obtain ⟨b, off, e, hlt, hc⟩ := h2 (by omega)
 subst e
 exact ⟨b, off, cap, hv, hlt, hc i rs[i] (by simp [hi])⟩

end Go.Proofs.YtanjajjjancggaaDoor

/- Moves of a region that draws its order, for operations whose guard says no. -/
namespace Go.Proofs.YtanjajjjancggaaDoor
open Go

variable {P : Program} {ops : Array Oper} {Q : Exit → Act → World → Prop} {md : Region.Mode} {S : World → Prop}

end Go.Proofs.YtanjajjjancggaaDoor

/- Expressions: what they are, and how they lie in memory. -/
namespace Go.Proofs.YtanjajjjancggaaDoor
open Go.RowKit

inductive Ex where
 | mk (kind n : Int) (s : ByteArray) (a : List Ex)

def Ex.kind : Ex → Int | .mk k _ _ _ => k
def Ex.n : Ex → Int | .mk _ n _ _ => n
def Ex.s : Ex → ByteArray | .mk _ _ s _ => s
def Ex.a : Ex → List Ex | .mk _ _ _ a => a

@[reducible] def exC (kind n : Int) (s : ByteArray) (v : Value) : List Value := [.int .i64 kind, .int .i64 n, .string s, v]

def ExD (W : World) : Nat → Ex → List Value → Prop
 | 0, _, _ => False
 | d + 1, .mk kind n s a, cs => ∃ o cap, cs = exC kind n s (.slice o a.length cap) ∧ a.length ≤ cap ∧ a.length ≤ 9223372036854775807 ∧
     (0 < a.length → ∃ b off, o = some ⟨b, off, none⟩ ∧ b < W.heap.size ∧ ∀ (i : Nat) (x : Ex), a[i]? = some x → ∃ ys, ExD W d x ys ∧ ∀ (j : Nat) (u : Value), ys[j]? = some u → W.cell? ⟨b, off + i * 4 + j, none⟩ = some u)

theorem ExD.below {W W' : World} (hb : Below W.heap.size W W') : ∀ {d : Nat} {e : Ex} {cs : List Value}, ExD W d e cs → ExD W' d e cs
 | 0, _, _, h => h.elim
 | d + 1, .mk kind n s a, cs, h => by
  unfold ExD at h ⊢
  obtain ⟨o, cap, e, h1, h2, h3⟩ := h
  refine ⟨o, cap, e, h1, h2, fun h0 => ?_⟩
  obtain ⟨b, off, e, hlt, h4⟩ := h3 h0
  refine ⟨b, off, e, Nat.lt_of_lt_of_le hlt hb.size, fun i x hi => ?_⟩
  obtain ⟨ys, h5, h6⟩ := h4 i x hi
  exact ⟨ys, ExD.below hb h5, fun j u hj => (hb.cell (p := ⟨b, off + i * 4 + j, none⟩) hlt).trans (h6 j u hj)⟩

theorem ExD.up {W : World} : ∀ {d : Nat} {e : Ex} {cs : List Value}, ExD W d e cs → ExD W (d + 1) e cs
 | 0, _, _, h => h.elim
 | d + 1, .mk kind n s a, cs, h => by
  rw [ExD] at h ⊢
  obtain ⟨o, cap, e, h1, h2, h3⟩ := h
  refine ⟨o, cap, e, h1, h2, fun h0 => ?_⟩
  obtain ⟨b, off, e, hlt, h4⟩ := h3 h0
  refine ⟨b, off, e, hlt, fun i x hi => ?_⟩
  obtain ⟨ys, h5, h6⟩ := h4 i x hi
  exact ⟨ys, ExD.up h5, h6⟩

theorem ExD.mono {W : World} {d d' : Nat} {e : Ex} {cs : List Value} (h : ExD W d e cs) (hd : d ≤ d') : ExD W d' e cs := by
 obtain ⟨k, rfl⟩ := Nat.exists_eq_add_of_le hd
 clear hd
 induction k with
 | zero => exact h
 | succ k ih => exact ih.up

def ExV (W : World) (e : Ex) (cs : List Value) : Prop := ∃ d, ExD W d e cs

theorem ExV.below {W W' : World} {e : Ex} {cs : List Value} (h : ExV W e cs) (hb : Below W.heap.size W W') : ExV W' e cs := by
 obtain ⟨d, h⟩ := h
 exact ⟨d, h.below hb⟩

theorem ExD.shape {W : World} {d : Nat} {kind n : Int} {s : ByteArray} {a : List Ex} {cs : List Value} (h : ExD W d (.mk kind n s a) cs) : ∃ d' o cap, d = d' + 1 ∧ cs = exC kind n s (.slice o a.length cap) ∧ a.length ≤ 9223372036854775807 ∧
  ∀ (i : Nat) (x : Ex), a[i]? = some x → ∃ b off ys k m z v, o = some ⟨b, off, none⟩ ∧ b < W.heap.size ∧ ys = exC k m z v ∧ ExD W d' x ys ∧ W.cell? ⟨b, off + i * 4, none⟩ = some (.int .i64 k) ∧ W.cell? ⟨b, off + i * 4 + 1, none⟩ = some (.int .i64 m) ∧ W.cell? ⟨b, off + i * 4 + 2, none⟩ = some (.string z) ∧ W.cell? ⟨b, off + i * 4 + 3, none⟩ = some v ∧ ∃ o' n' c', v = .slice o' n' c' := by
 cases d with
 | zero => exact h.elim
 | succ d' =>
  rw [ExD] at h
  obtain ⟨o, cap, e, h1, h2, h3⟩ := h
  refine ⟨d', o, cap, rfl, e, h2, fun i x hi => ?_⟩
  obtain ⟨b, off, e, hlt, h4⟩ := h3 (by have := (List.getElem?_eq_some_iff.1 hi).1; omega)
  obtain ⟨ys, h5, h6⟩ := h4 i x hi
  obtain ⟨k, m, z, xa⟩ := x
  cases d' with
  | zero => exact h5.elim
  | succ d' =>
   obtain ⟨o', cap', ey, -⟩ := id h5
   subst ey
   exact ⟨b, off, _, k, m, z, _, e, hlt, rfl, h5, h6 0 _ rfl, h6 1 _ rfl, h6 2 _ rfl, h6 3 _ rfl, _, _, _, rfl⟩

def heavyE : Ex → Nat → Nat
 | .mk _ _ s a, most => go most (1 + s.size) a
where
 go (most n : Nat) : List Ex → Nat
 | [] => n
 | x :: t => if n ≤ most then go most (n + heavyE x most) t else n

end Go.Proofs.YtanjajjjancggaaDoor

/- Catalogs, by themselves: names in their order, operations, what they leave. -/
namespace Go.Proofs.YtanjajjjancggaaDoor

structure Nmd where
 name : ByteArray
 n : Int
 gens : List (List Int)

structure OpV where
 kind : Int
 name : ByteArray
 n : Int
 v : List Int

def nlt (a b : ByteArray) : Bool := Op.bytesLess a.toList b.toList

def nmOk (s : ByteArray) : Bool := decide (1 ≤ s.size ∧ s.size ≤ 8 ∧ ∀ i, i < s.size → (97 ≤ byt s i ∧ byt s i ≤ 122) ∨ (48 ≤ byt s i ∧ byt s i ≤ 57 ∧ i ≠ 0))

def genF (v : List Int) (n : Int) : Nat := if (v.length : Int) = n then (if v.all (fun z => decide (-999 ≤ z ∧ z ≤ 999)) then 0 else 1) else 6

def opOk (o : OpV) : Bool := nmOk o.name && (decide (o.kind = 1 ∧ o.v.length = 0) || decide (o.kind = 2 ∧ o.n = 0 ∧ o.v.length = 0) || decide ((o.kind = 3 ∨ o.kind = 4) ∧ o.n = 0))

def placeL (cs : List Nmd) (s : ByteArray) : Nat := cs.findIdx (fun x => !nlt x.name s)

def hasL (cs : List Nmd) (s : ByteArray) : Bool := cs.any (fun x => decide (x.name = s))

def applyC (cs : List Nmd) (o : OpV) : Nat × List Nmd :=
 if opOk o = false then (3, [])
 else if o.kind = 1 then
  if ¬ (1 ≤ o.n ∧ o.n ≤ 4) then (1, [])
  else if hasL cs o.name then (8, [])
  else if 8 ≤ cs.length then (2, [])
  else (0, cs.take (placeL cs o.name) ++ (⟨o.name, o.n, []⟩ :: cs.drop (placeL cs o.name)))
 else if hasL cs o.name = false then (7, [])
 else if o.kind = 2 then (0, cs.take (placeL cs o.name) ++ cs.drop (placeL cs o.name + 1))
 else match cs[placeL cs o.name]? with
  | none => (7, [])
  | some x =>
   if genF o.v x.n ≠ 0 then (genF o.v x.n, [])
   else if o.kind = 3 then (if 10 ≤ x.gens.length then (2, []) else (0, cs.set (placeL cs o.name) ⟨x.name, x.n, x.gens ++ [o.v]⟩))
   else (if x.gens.contains o.v then (0, cs.set (placeL cs o.name) ⟨x.name, x.n, x.gens.erase o.v⟩) else (7, []))

structure NmOk (x : Nmd) : Prop where
 name : nmOk x.name = true
 n : 1 ≤ x.n ∧ x.n ≤ 4
 few : x.gens.length ≤ 10
 gens : ∀ g ∈ x.gens, genF g x.n = 0

structure CatOk (cs : List Nmd) : Prop where
 rise : cs.Pairwise (fun x y => nlt x.name y.name = true)
 few : cs.length ≤ 8
 all : ∀ x ∈ cs, NmOk x

end Go.Proofs.YtanjajjjancggaaDoor

/- Expressions: what may be, what they are made of, their texts: the pure part. -/
namespace Go.Proofs.YtanjajjjancggaaDoor
open Go.RowKit

def fillB : List UInt8 := [102, 105, 108, 108]
def wholeB : List UInt8 := [119, 104, 111, 108, 101]

def calledS (s : ByteArray) : Bool := nmOk s && !(s.toList == [102, 105, 108, 108]) && !(s.toList == [119, 104, 111, 108, 101])

def usedE (k n : Int) (s : ByteArray) (m : Nat) : Bool :=
 if k = 1 then calledS s && n == 0 && m == 0
 else if k = 2 ∨ k = 3 then s.toList.isEmpty && n == 0 && m == 2
 else if k = 4 then s.toList.isEmpty && n == 0 && m == 1
 else if k = 5 then s.toList.isEmpty && decide (1 ≤ n) && decide (n ≤ 4) && m == 0
 else false

mutual
def shapedE : Ex → Bool
 | .mk k n s a => usedE k n s a.length && shapedL a
def shapedL : List Ex → Bool
 | [] => true
 | x :: t => shapedE x && shapedL t
end

mutual
def roomE : Ex → Nat → Int → Int
 | .mk _ _ _ a, d, m => if d = 0 then -1 else roomL a (d - 1) (m - 1)
def roomL : List Ex → Nat → Int → Int
 | [], _, m => m
 | x :: t, d, m => if 0 ≤ m then roomL t d (roomE x d m) else m
end

mutual
theorem roomE_le : ∀ (e : Ex) (d : Nat) (m : Int), 0 ≤ m → -1 ≤ roomE e d m ∧ roomE e d m < m
 | .mk k n s a, d, m, h => by
  rw [roomE]
  split
  ·omega
  ·have := roomL_le a (d - 1) (m - 1) (by omega)
   omega
theorem roomL_le : ∀ (l : List Ex) (d : Nat) (m : Int), -1 ≤ m → -1 ≤ roomL l d m ∧ roomL l d m ≤ m
 | [], d, m, h => by rw [roomL]; omega
 | x :: t, d, m, h => by
  rw [roomL]
  split
  ·rename_i h0
   have h1 := roomE_le x d m h0
   have h2 := roomL_le t d _ h1.1
   omega
  ·omega
end

inductive Qx where
 | name (s : ByteArray)
 | two (k : Bool) (a b : Qx)
 | fill (a : Qx)
 | whole (n : Nat)

def kindQ (k : Bool) : Int := if k then 3 else 2

def Qx.ex : Qx → Ex
 | .name s => .mk 1 0 s []
 | .two k a b => .mk (kindQ k) 0 ⟨#[]⟩ [a.ex, b.ex]
 | .fill a => .mk 4 0 ⟨#[]⟩ [a.ex]
 | .whole n => .mk 5 n ⟨#[]⟩ []

def Qx.ok : Qx → Prop
 | .name s => calledS s = true
 | .two _ a b => a.ok ∧ b.ok
 | .fill a => a.ok
 | .whole n => 1 ≤ n ∧ n ≤ 4

def Qx.deep : Qx → Nat
 | .name _ => 1
 | .two _ a b => max a.deep b.deep + 1
 | .fill a => a.deep + 1
 | .whole _ => 1

def signB (k : Bool) : UInt8 := if k then 38 else 43
def spacedB (k : Bool) : List UInt8 := [32, signB k, 32]

def Qx.text : Qx → List UInt8
 | .name s => s.data.toList
 | .two k a b => 40 :: (a.text ++ (spacedB k ++ (b.text ++ [41])))
 | .fill a => fillB ++ 32 :: a.text
 | .whole n => wholeB ++ 32 :: Lib.decDigits n

theorem and3 {a b c : Bool} (h : (a && b && c) = true) : a = true ∧ b = true ∧ c = true := by
 cases a <;> cases b <;> cases c <;> simp_all

theorem empty_str {s : ByteArray} (h : s.toList.isEmpty = true) : s = ⟨#[]⟩ := by
 rw [Lib.toList_data, List.isEmpty_iff] at h
 obtain ⟨d⟩ := s
 have : d = #[] := by simpa using h
 rw [this]

theorem shaped_q : ∀ (e : Ex), shapedE e = true → ∃ q : Qx, q.ok ∧ q.ex = e
 | .mk k n s a, h => by
  rw [shapedE, Bool.and_eq_true] at h
  obtain ⟨h1, h2⟩ := h
  unfold usedE at h1
  split at h1
  ·rename_i hk
   obtain ⟨h3, h4, h5⟩ := and3 h1
   rw [beq_iff_eq] at h4 h5
   have : a = [] := List.eq_nil_of_length_eq_zero h5
   subst this hk h4
   exact ⟨.name s, h3, rfl⟩
  ·split at h1
   ·rename_i hk
    obtain ⟨h3, h4, h5⟩ := and3 h1
    rw [beq_iff_eq] at h4 h5
    have h3 := empty_str h3
    obtain ⟨x, y, rfl⟩ : ∃ x y, a = [x, y] := by
     match a, h5 with
     | [x, y], _ => exact ⟨x, y, rfl⟩
    rw [shapedL, shapedL, shapedL, Bool.and_true, Bool.and_eq_true] at h2
    obtain ⟨p, hp, ep⟩ := shaped_q x h2.1
    obtain ⟨q, hq, eq⟩ := shaped_q y h2.2
    subst h3 h4
    rcases hk with rfl | rfl
    ·exact ⟨.two false p q, ⟨hp, hq⟩, by rw [Qx.ex, ep, eq]; rfl⟩
    ·exact ⟨.two true p q, ⟨hp, hq⟩, by rw [Qx.ex, ep, eq]; rfl⟩
   ·split at h1
    ·rename_i hk
     obtain ⟨h3, h4, h5⟩ := and3 h1
     rw [beq_iff_eq] at h4 h5
     have h3 := empty_str h3
     obtain ⟨x, rfl⟩ : ∃ x, a = [x] := by
      match a, h5 with
      | [x], _ => exact ⟨x, rfl⟩
     rw [shapedL, shapedL, Bool.and_true] at h2
     obtain ⟨p, hp, ep⟩ := shaped_q x h2
     subst h3 h4 hk
     exact ⟨.fill p, hp, by rw [Qx.ex, ep]⟩
    ·split at h1
     ·rename_i hk
      rw [Bool.and_eq_true] at h1
      obtain ⟨h6, h5⟩ := h1
      obtain ⟨h3, h4, h4'⟩ := and3 h6
      rw [beq_iff_eq] at h5
      have h3 := empty_str h3
      have h4 := of_decide_eq_true h4
      have h4' := of_decide_eq_true h4'
      have : a = [] := List.eq_nil_of_length_eq_zero h5
      subst this hk h3
      obtain ⟨m, rfl⟩ := Int.eq_ofNat_of_zero_le (show 0 ≤ n by omega)
      exact ⟨.whole m, ⟨by omega, by omega⟩, rfl⟩
     ·cases h1

theorem empty_toList : (⟨#[]⟩ : ByteArray).toList.isEmpty = true := by rw [Lib.toList_data]; rfl

theorem q_shaped : ∀ (q : Qx), q.ok → shapedE q.ex = true
 | .name s, h => by
  rw [Qx.ex, shapedE, shapedL]
  unfold usedE
  rw [if_pos rfl, show calledS s = true from h]
  rfl
 | .two k a b, h => by
  rw [Qx.ex, shapedE, shapedL, shapedL, shapedL, q_shaped a h.1, q_shaped b h.2]
  unfold usedE
  rw [empty_toList]
  cases k <;> rfl
 | .fill a, h => by
  rw [Qx.ex, shapedE, shapedL, shapedL, q_shaped a h]
  unfold usedE
  rw [empty_toList]
  rfl
 | .whole n, h => by
  rw [Qx.ex, shapedE, shapedL]
  unfold usedE
  rw [if_neg (by decide), if_neg (by decide), if_neg (by decide), if_pos rfl]
  have h1 : decide ((1 : Int) ≤ (n : Int)) = true := decide_eq_true (by have := h.1; omega)
  have h2 : decide ((n : Int) ≤ 4) = true := decide_eq_true (by have := h.2; omega)
  rw [h1, h2, empty_toList]
  rfl

theorem room_deep : ∀ (q : Qx) (d : Nat) (m : Int), 0 ≤ m → 0 ≤ roomE q.ex d m → q.deep ≤ d
 | .name s, d, m, h0, h => by
  rw [Qx.ex, roomE] at h
  split at h
  ·omega
  ·rw [Qx.deep]; omega
 | .two k a b, d, m, h0, h => by
  rw [Qx.ex, roomE] at h
  split at h
  ·omega
  ·rename_i hd
   rw [roomL] at h
   split at h
   ·rename_i h1
    rw [roomL] at h
    split at h
    ·rename_i h2
     rw [roomL] at h
     have ha := room_deep a (d - 1) (m - 1) h1 h2
     have hb := room_deep b (d - 1) _ h2 h
     rw [Qx.deep]
     omega
    ·omega
   ·omega
 | .fill a, d, m, h0, h => by
  rw [Qx.ex, roomE] at h
  split at h
  ·omega
  ·rename_i hd
   rw [roomL] at h
   split at h
   ·rename_i h1
    rw [roomL] at h
    have ha := room_deep a (d - 1) (m - 1) h1 h
    rw [Qx.deep]
    omega
   ·omega
 | .whole n, d, m, h0, h => by
  rw [Qx.ex, roomE] at h
  split at h
  ·omega
  ·rw [Qx.deep]; omega

def faultE (e : Ex) : Nat := if roomE e 6 20 < 0 then 2 else if shapedE e = true then 0 else 3

theorem fault_q {e : Ex} (h : faultE e = 0) : ∃ q : Qx, q.ok ∧ q.ex = e ∧ q.deep ≤ 6 := by
 unfold faultE at h
 split at h
 ·cases h
 ·split at h
  ·rename_i h1 h2
   obtain ⟨q, hq, rfl⟩ := shaped_q e h2
   exact ⟨q, hq, rfl, room_deep q 6 20 (by decide) (by omega)⟩
  ·cases h

end Go.Proofs.YtanjajjjancggaaDoor

/- Catalogs in memory: named lattices in a row. -/
namespace Go.Proofs.YtanjajjjancggaaDoor
open Go.RowKit

structure Nc where
 x : Nmd
 o : Option Addr
 l : Nat
 c : Nat

def Nc.cells (q : Nc) : List Value := [.string q.x.name, .int .i64 q.x.n, .slice q.o q.l q.c]
def Nc.val (q : Nc) : Value := .agg #[.string q.x.name, .int .i64 q.x.n, .slice q.o q.l q.c]

end Go.Proofs.YtanjajjjancggaaDoor

/- Names, sizes and generators of catalogs: what the program's and the reference's words say of them. -/
namespace Go.Proofs.YtanjajjjancggaaDoor
open Go.RowKit

def nmTo (s : ByteArray) (k : Nat) : Prop := ∀ i, i < k → (97 ≤ byt s i ∧ byt s i ≤ 122) ∨ (48 ≤ byt s i ∧ byt s i ≤ 57 ∧ i ≠ 0)

theorem nmOk_true {s : ByteArray} (h1 : 1 ≤ s.size) (h8 : s.size ≤ 8) (h : nmTo s s.size) : nmOk s = true := decide_eq_true ⟨h1, h8, h⟩

theorem nmOk_at {s : ByteArray} {k : Nat} (hk : k < s.size) (h : ¬ ((97 ≤ byt s k ∧ byt s k ≤ 122) ∨ (48 ≤ byt s k ∧ byt s k ≤ 57 ∧ k ≠ 0))) : nmOk s = false := decide_eq_false fun h' => h (h'.2.2 k hk)

theorem nmOk_len {s : ByteArray} (h : ¬ (1 ≤ s.size ∧ s.size ≤ 8)) : nmOk s = false := decide_eq_false fun h' => h ⟨h'.1, h'.2.1⟩

set_option linter.unusedSimpArgs false in
set_option maxRecDepth 100000 in
set_option maxHeartbeats 1600000 in
theorem name_any (s : ByteArray) (w : World) : Calls Tryd.prog 45 #[.string s] w fun e w' => e = .returned (.bool (nmOk s)) ∧ w' = w := by
 by_cases h1 : (s.size : Int) < 1
 ·have g1 : decide ((s.size : Int) < 1) = true := decide_eq_true h1
  rw [nmOk_len (by omega)]
  go_enter Tryd.func45, Tryd.ntmps45
  go_wp2
  go_ret
  exact ⟨rfl, rfl⟩
 have g1 : decide ((s.size : Int) < 1) = false := decide_eq_false h1
 by_cases h8 : 8 < (s.size : Int)
 ·have g2 : decide (8 < (s.size : Int)) = true := decide_eq_true h8
  rw [nmOk_len (by omega)]
  go_enter Tryd.func45, Tryd.ntmps45
  go_wp2
  go_ret
  exact ⟨rfl, rfl⟩
 have g2 : decide (8 < (s.size : Int)) = false := decide_eq_false h8
 have hs8 : s.size ≤ 8 := by omega
 generalize hr : nmOk s = r
 have HR := hide hr
 clear hr
 go_enter Tryd.func45, Tryd.ntmps45
 go_wp2
 go_loopw [16] (fun i wr => ∃ k : Nat, k ≤ s.size ∧ i = .int .i64 k ∧ Hid (nmTo s k) ∧ wr = w) (fun i _ => s.size - (intOf i).toNat)
 case atStart => exact ⟨0, Nat.zero_le _, rfl, hide (fun i hi => absurd hi (by omega)), rfl⟩
 case round =>
  obtain ⟨k, hk, rfl, HT, hw⟩ := hrel
  subst wr
  by_cases hlt : k < s.size
  ·have hb := byt_eq hlt
   by_cases a1 : 97 ≤ byt s k ∧ byt s k ≤ 122
   ·have e1 : decide (97 ≤ ((s[k]'hlt).toNat : Int)) = true := by rw [hb]; simp; omega
    have e2 : decide (((s[k]'hlt).toNat : Int) ≤ 122) = true := by rw [hb]; simp; omega
    have HT' : Hid (nmTo s (k + 1)) := fun i hi => by
     by_cases h : i < k
     ·exact HT.out i h
     ·obtain rfl : i = k := by omega
      exact .inl a1
    cases d1 : decide (48 ≤ ((s[k]'hlt).toNat : Int)) with
    | false =>
     go_wp2
     go_roundw
     case rel => exact ⟨k + 1, by omega, by go_num, HT', by first | rfl | trivial⟩
     case measure => simp [intOf]; omega
    | true =>
     go_wp2
     go_roundw
     case rel => exact ⟨k + 1, by omega, by go_num, HT', by first | rfl | trivial⟩
     case measure => simp [intOf]; omega
   ·have HA : Hid (¬ (97 ≤ byt s k ∧ byt s k ≤ 122)) := a1
    by_cases a2 : 48 ≤ byt s k ∧ byt s k ≤ 57
    ·have e1 : decide (48 ≤ ((s[k]'hlt).toNat : Int)) = true := by rw [hb]; simp; omega
     have e2 : decide (((s[k]'hlt).toNat : Int) ≤ 57) = true := by rw [hb]; simp; omega
     have e3 : decide (97 ≤ ((s[k]'hlt).toNat : Int)) = false := by rw [hb]; simp; omega
     by_cases h0 : k = 0
     ·subst h0
      obtain rfl : false = r := (nmOk_at hlt (by rintro (h | h); exact HA.out h; exact h.2.2 rfl)).symm.trans HR.out
      go_wp2
      go_ret
      exact ⟨rfl, rfl⟩
     ·have e4 : ((k : Int) == 0) = false := beq_eq_false_iff_ne.2 (by omega)
      have HT' : Hid (nmTo s (k + 1)) := fun i hi => by
       by_cases h : i < k
       ·exact HT.out i h
       ·obtain rfl : i = k := by omega
        exact .inr ⟨a2.1, a2.2, h0⟩
      go_wp2
      go_roundw
      case rel => exact ⟨k + 1, by omega, by go_num, HT', by first | rfl | trivial⟩
      case measure => simp [intOf]; omega
    ·obtain rfl : false = r := (nmOk_at hlt (by rintro (h | h); exact HA.out h; exact a2 ⟨h.1, h.2.1⟩)).symm.trans HR.out
     by_cases b1 : 97 ≤ byt s k
     ·have e1 : decide (97 ≤ ((s[k]'hlt).toNat : Int)) = true := by rw [hb]; simp; omega
      have e2 : decide (((s[k]'hlt).toNat : Int) ≤ 122) = false := by rw [hb]; simp; omega
      have e3 : decide (48 ≤ ((s[k]'hlt).toNat : Int)) = true := by rw [hb]; simp; omega
      have e4 : decide (((s[k]'hlt).toNat : Int) ≤ 57) = false := by rw [hb]; simp; omega
      clear hb a1 a2 b1
      go_wp2
      go_ret
      exact ⟨rfl, rfl⟩
     ·have e1 : decide (97 ≤ ((s[k]'hlt).toNat : Int)) = false := by rw [hb]; simp; omega
      by_cases b2 : 48 ≤ byt s k
      ·have e3 : decide (48 ≤ ((s[k]'hlt).toNat : Int)) = true := by rw [hb]; simp; omega
       have e4 : decide (((s[k]'hlt).toNat : Int) ≤ 57) = false := by rw [hb]; simp; omega
       clear hb a1 a2 b1 b2
       go_wp2
       go_ret
       exact ⟨rfl, rfl⟩
      ·have e3 : decide (48 ≤ ((s[k]'hlt).toNat : Int)) = false := by rw [hb]; simp; omega
       clear hb a1 a2 b1 b2
       go_wp2
       go_ret
       exact ⟨rfl, rfl⟩
  ·obtain rfl : k = s.size := by omega
   obtain rfl : true = r := (nmOk_true (by omega) hs8 HT.out).symm.trans HR.out
   go_wp2
   go_ret
   exact ⟨rfl, rfl⟩

def sizeOk (n : Int) : Bool := decide (1 ≤ n ∧ n ≤ 4)

end Go.Proofs.YtanjajjjancggaaDoor

/- Small things that operations and catalogs share. -/
namespace Go.Proofs.YtanjajjjancggaaDoor
open Go.RowKit

def errV (c : Nat) : Value := if c = 0 then .nilIface else .iface 44 (.int .i64 (c : Int))

theorem alloc_below (W : World) (ob : Obj) : Below W.heap.size W (W.alloc ob) := (Below.refl _ _).alloc (Nat.le_refl _) _

def FourV (W : World) (B : Nat) (u0 u1 u2 u3 : Value) : Prop := W.cell? ⟨B, 0, none⟩ = some u0 ∧ W.cell? ⟨B, 1, none⟩ = some u1 ∧ W.cell? ⟨B, 2, none⟩ = some u2 ∧ W.cell? ⟨B, 3, none⟩ = some u3 ∧ B < W.heap.size

theorem FourV.later {W W' : World} {B : Nat} {u0 u1 u2 u3 : Value} (h : FourV W B u0 u1 u2 u3) (hb : Below W.heap.size W W') : FourV W' B u0 u1 u2 u3 :=
 ⟨(hb.cell (p := ⟨B, 0, none⟩) h.2.2.2.2).trans h.1, (hb.cell (p := ⟨B, 1, none⟩) h.2.2.2.2).trans h.2.1, (hb.cell (p := ⟨B, 2, none⟩) h.2.2.2.2).trans h.2.2.1, (hb.cell (p := ⟨B, 3, none⟩) h.2.2.2.2).trans h.2.2.2.1, Nat.lt_of_lt_of_le h.2.2.2.2 hb.size⟩

theorem FourV.new (W : World) (u0 u1 u2 u3 : Value) (t : TypeId) : FourV (W.alloc (.cells #[u0, u1, u2, u3] t)) W.heap.size u0 u1 u2 u3 :=
 ⟨by rw [World.cell?_alloc_new]; rfl, by rw [World.cell?_alloc_new]; rfl, by rw [World.cell?_alloc_new]; rfl, by rw [World.cell?_alloc_new]; rfl, by simp⟩

end Go.Proofs.YtanjajjjancggaaDoor
