/- strings.IndexAny, strconv.Atoi, laid at this translation. -/
import Derived.Shelf.Small.Strs
import Derived.Shelf.Strings.Runes
import Derived.Shelf.Strings.IndexAnyAll
import Derived.Shelf.Strconv.Atoi
import Derived.Test.YtanjajjjancggaaDoorProg
import Derived.Test.YtanjajjjancggaaDoorRows
import Derived.WalkKit
import Derived.WalkSpells
import Derived.WalkLawsBesides
import Derived.Laws.AppendOwn
import Derived.OwnWalk
import Derived.Deep.RegionHeld3
import Derived.Lib.Strings

namespace Go.Proofs
open Go.Shelf Go.RowKit
def Tryd.lays137_ren : Go.Shelf.Ren := ⟨fun | 137 => 60 | 217 => 72 | 266 => 77 | n => n, fun | 9 => 9 | 5 => 5 | 3 => 3 | n => n, fun | n => n⟩
theorem Tryd.lays137 : Go.Proofs.Lays.n137 Tryd.prog Tryd.lays137_ren := {
 mixed := by kernel_rfl
 f137 := Tryd.func60.trans (congrArg some (by kernel_rfl))
 f217 := Tryd.func72.trans (congrArg some (by kernel_rfl))
 f266 := Tryd.func77.trans (congrArg some (by kernel_rfl))
 t3 := Tryd.underlying3
 a3 := Tryd.isAgg3
 z3 := Tryd.sizeOf3
 v3 := Tryd.zeroValue3
 t5 := Tryd.underlying5
 a5 := Tryd.isAgg5
 z5 := Tryd.sizeOf5
 v5 := Tryd.zeroValue5
 t9 := Tryd.underlying9
 a9 := Tryd.isAgg9
 z9 := Tryd.sizeOf9
 v9 := Tryd.zeroValue9 }
open Go.RowKit in
theorem Tryd.strings_IndexByte (s : ByteArray) (c : Int) (w : World) :
  Calls Tryd.prog 60 #[.string s, .int .u8 c] w fun e w' => e = .returned (.int .i64 (Lib.indexByte s.data.toList c.toNat.toUInt8)) ∧ w' = w := Any.strings_IndexByte Tryd.lays137 s c w
def Tryd.lays152_ren : Go.Shelf.Ren := ⟨fun | 152 => 47 | 137 => 60 | 119 => 61 | 224 => 62 | 225 => 63 | 217 => 72 | 266 => 77 | n => n, fun | 9 => 9 | 21 => 21 | 3 => 3 | 4 => 4 | 5 => 5 | 0 => 0 | 46 => 96 | n => n, fun | n => n⟩
theorem Tryd.lays152 : Go.Proofs.Lays.n152 Tryd.prog Tryd.lays152_ren := {
 mixed := by kernel_rfl
 f119 := Tryd.func61.trans (congrArg some (by kernel_rfl))
 f137 := Tryd.func60.trans (congrArg some (by kernel_rfl))
 f152 := Tryd.func47.trans (congrArg some (by kernel_rfl))
 f217 := Tryd.func72.trans (congrArg some (by kernel_rfl))
 f224 := Tryd.func62.trans (congrArg some (by kernel_rfl))
 f225 := Tryd.func63.trans (congrArg some (by kernel_rfl))
 f266 := Tryd.func77.trans (congrArg some (by kernel_rfl))
 t0 := Tryd.underlying0
 a0 := Tryd.isAgg0
 z0 := Tryd.sizeOf0
 v0 := Tryd.zeroValue0
 t3 := Tryd.underlying3
 a3 := Tryd.isAgg3
 z3 := Tryd.sizeOf3
 v3 := Tryd.zeroValue3
 t4 := Tryd.underlying4
 a4 := Tryd.isAgg4
 z4 := Tryd.sizeOf4
 v4 := Tryd.zeroValue4
 t5 := Tryd.underlying5
 a5 := Tryd.isAgg5
 z5 := Tryd.sizeOf5
 v5 := Tryd.zeroValue5
 t9 := Tryd.underlying9
 a9 := Tryd.isAgg9
 z9 := Tryd.sizeOf9
 v9 := Tryd.zeroValue9
 t21 := Tryd.underlying21
 a21 := Tryd.isAgg21
 z21 := Tryd.sizeOf21
 v21 := Tryd.zeroValue21
 t46 := Tryd.underlying96
 a46 := Tryd.isAgg96
 z46 := Tryd.sizeOf96
 v46 := Tryd.zeroValue96 }
open Go.RowKit Go.Lib in
theorem Tryd.strings_IndexRune_ascii (s : ByteArray) (r : Int) (w : World) (h0 : 0 ≤ r) (h1 : r < 128) :
  Calls Tryd.prog 47 #[.string s, .int .i32 r] w fun e w' => e = .returned (.int .i64 (Lib.indexByte s.data.toList r.toNat.toUInt8)) ∧ w' = w := Any.strings_IndexRune_ascii Tryd.lays152 s r w h0 h1
def Tryd.lays153_ren : Go.Shelf.Ren := ⟨fun | 153 => 41 | 152 => 47 | 226 => 48 | 227 => 49 | 228 => 50 | 137 => 60 | 119 => 61 | 224 => 62 | 225 => 63 | 217 => 72 | 266 => 77 | n => n, fun | 9 => 9 | 3 => 3 | 4 => 4 | 5 => 5 | 21 => 21 | 117 => 79 | 116 => 78 | 0 => 0 | 46 => 96 | 124 => 97 | n => n, fun | n => n⟩
theorem Tryd.lays153 : Go.Proofs.Lays.n153 Tryd.prog Tryd.lays153_ren := {
 mixed := by kernel_rfl
 f119 := Tryd.func61.trans (congrArg some (by kernel_rfl))
 f137 := Tryd.func60.trans (congrArg some (by kernel_rfl))
 f152 := Tryd.func47.trans (congrArg some (by kernel_rfl))
 f153 := Tryd.func41.trans (congrArg some (by kernel_rfl))
 f217 := Tryd.func72.trans (congrArg some (by kernel_rfl))
 f224 := Tryd.func62.trans (congrArg some (by kernel_rfl))
 f225 := Tryd.func63.trans (congrArg some (by kernel_rfl))
 f226 := Tryd.func48.trans (congrArg some (by kernel_rfl))
 f227 := Tryd.func49.trans (congrArg some (by kernel_rfl))
 f228 := Tryd.func50.trans (congrArg some (by kernel_rfl))
 f266 := Tryd.func77.trans (congrArg some (by kernel_rfl))
 t0 := Tryd.underlying0
 a0 := Tryd.isAgg0
 z0 := Tryd.sizeOf0
 v0 := Tryd.zeroValue0
 t3 := Tryd.underlying3
 a3 := Tryd.isAgg3
 z3 := Tryd.sizeOf3
 v3 := Tryd.zeroValue3
 t4 := Tryd.underlying4
 a4 := Tryd.isAgg4
 z4 := Tryd.sizeOf4
 v4 := Tryd.zeroValue4
 t5 := Tryd.underlying5
 a5 := Tryd.isAgg5
 z5 := Tryd.sizeOf5
 v5 := Tryd.zeroValue5
 t9 := Tryd.underlying9
 a9 := Tryd.isAgg9
 z9 := Tryd.sizeOf9
 v9 := Tryd.zeroValue9
 t21 := Tryd.underlying21
 a21 := Tryd.isAgg21
 z21 := Tryd.sizeOf21
 v21 := Tryd.zeroValue21
 t46 := Tryd.underlying96
 a46 := Tryd.isAgg96
 z46 := Tryd.sizeOf96
 v46 := Tryd.zeroValue96
 t116 := Tryd.underlying78
 a116 := Tryd.isAgg78
 z116 := Tryd.sizeOf78
 t117 := Tryd.underlying79
 a117 := Tryd.isAgg79
 z117 := Tryd.sizeOf79
 v117 := Tryd.zeroValue79
 t124 := Tryd.underlying97
 a124 := Tryd.isAgg97
 z124 := Tryd.sizeOf97
 v124 := Tryd.zeroValue97 }
open Go.RowKit Go.Lib in
theorem Tryd.strings_IndexAny (hv116 : ∀ w, (zeroValue 78).run Tryd.prog w = .ok (.agg (Array.replicate 256 (.bool false))) w) (s chars : ByteArray) (w : World) (hs : s.size < 4294967281) (hcs : chars.size < 4294967281) (has : ∀ (j : Nat) b, s.data.toList[j]? = some b → b.toNat < 128) (hac : ∀ (j : Nat) b, chars.data.toList[j]? = some b → b.toNat < 128) :
  Calls Tryd.prog 41 #[.string s, .string chars] w fun e w' => e = .returned (.int .i64 (Lib.indexAny s.data.toList chars.data.toList)) ∧ Below w.heap.size w w' := Any.strings_IndexAny Tryd.lays153 hv116 (by kernel_rfl) s chars w hs hcs has hac
def Tryd.lays172_ren : Go.Shelf.Ren := ⟨fun | 172 => 34 | 244 => 42 | 245 => 43 | 247 => 51 | 279 => 52 | 280 => 53 | 281 => 54 | 282 => 55 | 287 => 64 | 316 => 65 | 171 => 25 | 205 => 66 | 321 => 73 | 322 => 74 | 243 => 36 | 246 => 44 | 283 => 56 | 284 => 57 | 285 => 58 | 286 => 59 | 129 => 68 | 317 => 67 | 318 => 69 | 319 => 70 | 320 => 71 | 337 => 75 | 338 => 76 | n => n, fun | 9 => 9 | 3 => 3 | 75 => 29 | 76 => 64 | 4 => 4 | 5 => 5 | 167 => 82 | 37 => 67 | 0 => 0 | 85 => 83 | 2 => 2 | 168 => 85 | 53 => 68 | 175 => 98 | 46 => 96 | 210 => 102 | 127 => 110 | 145 => 113 | 143 => 111 | 21 => 21 | 171 => 88 | 173 => 91 | 212 => 105 | 51 => 106 | 20 => 20 | 213 => 107 | 232 => 115 | 233 => 116 | 80 => 117 | n => n, fun | 15 => 0 | 16 => 1 | 17 => 2 | 18 => 4 | 19 => 5 | n => n⟩
theorem Tryd.lays172 : Go.Proofs.Lays.n172 Tryd.prog Tryd.lays172_ren := {
 mixed := by kernel_rfl
 f129 := Tryd.func68.trans (congrArg some (by kernel_rfl))
 f171 := Tryd.func25.trans (congrArg some (by kernel_rfl))
 f172 := Tryd.func34.trans (congrArg some (by kernel_rfl))
 f205 := Tryd.func66.trans (congrArg some (by kernel_rfl))
 f243 := Tryd.func36.trans (congrArg some (by kernel_rfl))
 f244 := Tryd.func42.trans (congrArg some (by kernel_rfl))
 f245 := Tryd.func43.trans (congrArg some (by kernel_rfl))
 f246 := Tryd.func44.trans (congrArg some (by kernel_rfl))
 f247 := Tryd.func51.trans (congrArg some (by kernel_rfl))
 f279 := Tryd.func52.trans (congrArg some (by kernel_rfl))
 f280 := Tryd.func53.trans (congrArg some (by kernel_rfl))
 f281 := Tryd.func54.trans (congrArg some (by kernel_rfl))
 f282 := Tryd.func55.trans (congrArg some (by kernel_rfl))
 f283 := Tryd.func56.trans (congrArg some (by kernel_rfl))
 f284 := Tryd.func57.trans (congrArg some (by kernel_rfl))
 f285 := Tryd.func58.trans (congrArg some (by kernel_rfl))
 f286 := Tryd.func59.trans (congrArg some (by kernel_rfl))
 f287 := Tryd.func64.trans (congrArg some (by kernel_rfl))
 f316 := Tryd.func65.trans (congrArg some (by kernel_rfl))
 f317 := Tryd.func67.trans (congrArg some (by kernel_rfl))
 f318 := Tryd.func69.trans (congrArg some (by kernel_rfl))
 f319 := Tryd.func70.trans (congrArg some (by kernel_rfl))
 f320 := Tryd.func71.trans (congrArg some (by kernel_rfl))
 f321 := Tryd.func73.trans (congrArg some (by kernel_rfl))
 f322 := Tryd.func74.trans (congrArg some (by kernel_rfl))
 f337 := Tryd.func75.trans (congrArg some (by kernel_rfl))
 f338 := Tryd.func76.trans (congrArg some (by kernel_rfl))
 t0 := Tryd.underlying0
 a0 := Tryd.isAgg0
 z0 := Tryd.sizeOf0
 v0 := Tryd.zeroValue0
 t2 := Tryd.underlying2
 a2 := Tryd.isAgg2
 z2 := Tryd.sizeOf2
 v2 := Tryd.zeroValue2
 t3 := Tryd.underlying3
 a3 := Tryd.isAgg3
 z3 := Tryd.sizeOf3
 v3 := Tryd.zeroValue3
 t4 := Tryd.underlying4
 a4 := Tryd.isAgg4
 z4 := Tryd.sizeOf4
 v4 := Tryd.zeroValue4
 t5 := Tryd.underlying5
 a5 := Tryd.isAgg5
 z5 := Tryd.sizeOf5
 v5 := Tryd.zeroValue5
 t9 := Tryd.underlying9
 a9 := Tryd.isAgg9
 z9 := Tryd.sizeOf9
 v9 := Tryd.zeroValue9
 t20 := Tryd.underlying20
 a20 := Tryd.isAgg20
 z20 := Tryd.sizeOf20
 v20 := Tryd.zeroValue20
 t21 := Tryd.underlying21
 a21 := Tryd.isAgg21
 z21 := Tryd.sizeOf21
 v21 := Tryd.zeroValue21
 t37 := Tryd.underlying67
 a37 := Tryd.isAgg67
 z37 := Tryd.sizeOf67
 v37 := Tryd.zeroValue67
 t46 := Tryd.underlying96
 a46 := Tryd.isAgg96
 z46 := Tryd.sizeOf96
 v46 := Tryd.zeroValue96
 t51 := Tryd.underlying106
 a51 := Tryd.isAgg106
 z51 := Tryd.sizeOf106
 v51 := Tryd.zeroValue106
 t53 := Tryd.underlying68
 a53 := Tryd.isAgg68
 z53 := Tryd.sizeOf68
 v53 := Tryd.zeroValue68
 t75 := Tryd.underlying29
 a75 := Tryd.isAgg29
 z75 := Tryd.sizeOf29
 v75 := Tryd.zeroValue29
 t76 := Tryd.underlying64
 a76 := Tryd.isAgg64
 z76 := Tryd.sizeOf64
 v76 := Tryd.zeroValue64
 t85 := Tryd.underlying83
 a85 := Tryd.isAgg83
 z85 := Tryd.sizeOf83
 v85 := Tryd.zeroValue83
 t127 := Tryd.underlying110
 a127 := Tryd.isAgg110
 z127 := Tryd.sizeOf110
 v127 := Tryd.zeroValue110
 t143 := Tryd.underlying111
 a143 := Tryd.isAgg111
 z143 := Tryd.sizeOf111
 v143 := Tryd.zeroValue111
 t145 := Tryd.underlying113
 a145 := Tryd.isAgg113
 z145 := Tryd.sizeOf113
 v145 := Tryd.zeroValue113
 t167 := Tryd.underlying82
 a167 := Tryd.isAgg82
 z167 := Tryd.sizeOf82
 v167 := Tryd.zeroValue82
 t168 := Tryd.underlying85
 a168 := Tryd.isAgg85
 z168 := Tryd.sizeOf85
 v168 := Tryd.zeroValue85
 t171 := Tryd.underlying88
 a171 := Tryd.isAgg88
 z171 := Tryd.sizeOf88
 v171 := Tryd.zeroValue88
 t173 := Tryd.underlying91
 a173 := Tryd.isAgg91
 z173 := Tryd.sizeOf91
 v173 := Tryd.zeroValue91
 t175 := Tryd.underlying98
 a175 := Tryd.isAgg98
 z175 := Tryd.sizeOf98
 v175 := Tryd.zeroValue98
 t210 := Tryd.underlying102
 a210 := Tryd.isAgg102
 z210 := Tryd.sizeOf102
 v210 := Tryd.zeroValue102
 t212 := Tryd.underlying105
 a212 := Tryd.isAgg105
 z212 := Tryd.sizeOf105
 v212 := Tryd.zeroValue105
 t213 := Tryd.underlying107
 a213 := Tryd.isAgg107
 z213 := Tryd.sizeOf107
 t232 := Tryd.underlying115
 a232 := Tryd.isAgg115
 z232 := Tryd.sizeOf115
 v232 := Tryd.zeroValue115
 t233 := Tryd.underlying116
 a233 := Tryd.isAgg116
 z233 := Tryd.sizeOf116
 v233 := Tryd.zeroValue116
 g15 := by kernel_rfl
 g16 := by kernel_rfl
 g17 := by kernel_rfl
 g18 := by kernel_rfl
 g19 := by kernel_rfl }
open Go.RowKit in
theorem Tryd.strconv_Atoi (s : ByteArray) (n : Int) (hl : s.size ≤ 18) (h : Lib.atoi s.data.toList = some n) (w : World) :
  Calls Tryd.prog 34 #[.string s] w fun e w' => e = .returned (.tuple #[.int .i64 n, .nilIface]) ∧ ∃ t, w' = Lib.bytesWorld w 5 t := Any.strconv_Atoi Tryd.lays172 s n hl h w
end Go.Proofs

/- What all texts lean on: memory that stays, bytes of a text, rows of whole numbers. -/
namespace Go.Proofs.YtanjajjjancggaaDoor
open Go.RowKit

theorem hide {p : Prop} (h : p) : Hid p := h

theorem heap_lt {w : World} {b : Nat} {o : Obj} (h : w.heap[b]? = some o) : b < w.heap.size := by
 rcases Nat.lt_or_ge b w.heap.size with hlt | hge
 ·exact hlt
 ·rw [Array.getElem?_eq_none hge] at h; cases h

def byt (s : ByteArray) (k : Nat) : Int := if h : k < s.size then ((s[k]'h).toNat : Int) else 0

theorem byt_eq {s : ByteArray} {k : Nat} (h : k < s.size) : ((s[k]'h).toNat : Int) = byt s k := by simp [byt, h]

def RowS (w : World) (v : Value) (ks : List Int) : Prop :=
 ∃ ao cap, v = .slice ao ks.length cap ∧ ks.length ≤ cap ∧ (∀ i, -9223372036854775808 ≤ ks.getD i 0 ∧ ks.getD i 0 ≤ 9223372036854775807) ∧
  (0 < ks.length → ∃ b off, ao = some ⟨b, off, none⟩ ∧ b < w.heap.size ∧ ∀ i, i < ks.length → w.cell? ⟨b, off + i, none⟩ = some (.int .i64 (ks.getD i 0)))

theorem RowS.below {C : Nat} {w w' : World} {v : Value} {ks : List Int} (h : RowS w v ks) (hb : Below C w w') (hC : w.heap.size ≤ C) : RowS w' v ks := by
 obtain ⟨ao, cap, hv, h1, hk, h2⟩ := h
 refine ⟨ao, cap, hv, h1, hk, fun h0 => ?_⟩
 obtain ⟨b, off, e, hlt, hc⟩ := h2 h0
 exact ⟨b, off, e, Nat.lt_of_lt_of_le hlt hb.size, fun i hi => (hb.cell (p := ⟨b, off + i, none⟩) (Nat.lt_of_lt_of_le hlt hC)).trans (hc i hi)⟩

def RowsS (w : World) (v : Value) (rs : List (List Int)) : Prop :=
 ∃ ao cap, v = .slice ao rs.length cap ∧ rs.length ≤ cap ∧ (0 < rs.length → ∃ b off, ao = some ⟨b, off, none⟩ ∧ b < w.heap.size ∧ ∀ i r, rs[i]? = some r → ∃ u, w.cell? ⟨b, off + i, none⟩ = some u ∧ RowS w u r)

theorem RowsS.below {w w' : World} {v : Value} {rs : List (List Int)} (h : RowsS w v rs) (hb : Below w.heap.size w w') : RowsS w' v rs := by
 obtain ⟨ao, cap, hv, h1, h2⟩ := h
 refine ⟨ao, cap, hv, h1, fun h0 => ?_⟩
 obtain ⟨b, off, e, hlt, hc⟩ := h2 h0
 refine ⟨b, off, e, Nat.lt_of_lt_of_le hlt hb.size, fun i r hi => ?_⟩
 obtain ⟨u, h3, h4⟩ := hc i r hi
 exact ⟨u, (hb.cell (p := ⟨b, off + i, none⟩) hlt).trans h3, h4.below hb (Nat.le_refl _)⟩

theorem RowsS.at {w : World} {v : Value} {rs : List (List Int)} (h : RowsS w v rs) (i : Nat) (hi : i < rs.length) : ∃ b off cap, v = .slice (some ⟨b, off, none⟩) rs.length cap ∧ b < w.heap.size ∧ ∃ u, w.cell? ⟨b, off + i, none⟩ = some u ∧ RowS w u rs[i] := by
 obtain ⟨ao, cap, hv, h1, h2⟩ := h
 obtain ⟨b, off, e, hlt, hc⟩ := h2 (by omega)
 subst e
 exact ⟨b, off, cap, hv, hlt, hc i rs[i] (by simp [hi])⟩

end Go.Proofs.YtanjajjjancggaaDoor

/- Moves of a region that draws its order, for operations whose guard says no. -/
namespace Go.Proofs.YtanjajjjancggaaDoor
open Go

variable {P : Program} {ops : Array Oper} {Q : Exit → Act → World → Prop} {md : Region.Mode} {S : World → Prop}

end Go.Proofs.YtanjajjjancggaaDoor

/- Expressions: what they are, and how they lie in memory. -/
namespace Go.Proofs.YtanjajjjancggaaDoor
open Go.RowKit

inductive Ex where
 | mk (kind n : Int) (s : ByteArray) (a : List Ex)

def Ex.kind : Ex → Int | .mk k _ _ _ => k
def Ex.n : Ex → Int | .mk _ n _ _ => n
def Ex.s : Ex → ByteArray | .mk _ _ s _ => s
def Ex.a : Ex → List Ex | .mk _ _ _ a => a

@[reducible] def exC (kind n : Int) (s : ByteArray) (v : Value) : List Value := [.int .i64 kind, .int .i64 n, .string s, v]

def ExD (W : World) : Nat → Ex → List Value → Prop
 | 0, _, _ => False
 | d + 1, .mk kind n s a, cs => ∃ o cap, cs = exC kind n s (.slice o a.length cap) ∧ a.length ≤ cap ∧ a.length ≤ 9223372036854775807 ∧
     (0 < a.length → ∃ b off, o = some ⟨b, off, none⟩ ∧ b < W.heap.size ∧ ∀ (i : Nat) (x : Ex), a[i]? = some x → ∃ ys, ExD W d x ys ∧ ∀ (j : Nat) (u : Value), ys[j]? = some u → W.cell? ⟨b, off + i * 4 + j, none⟩ = some u)

theorem ExD.below {W W' : World} (hb : Below W.heap.size W W') : ∀ {d : Nat} {e : Ex} {cs : List Value}, ExD W d e cs → ExD W' d e cs
 | 0, _, _, h => h.elim
 | d + 1, .mk kind n s a, cs, h => by
  unfold ExD at h ⊢
  obtain ⟨o, cap, e, h1, h2, h3⟩ := h
  refine ⟨o, cap, e, h1, h2, fun h0 => ?_⟩
  obtain ⟨b, off, e, hlt, h4⟩ := h3 h0
  refine ⟨b, off, e, Nat.lt_of_lt_of_le hlt hb.size, fun i x hi => ?_⟩
  obtain ⟨ys, h5, h6⟩ := h4 i x hi
  exact ⟨ys, ExD.below hb h5, fun j u hj => (hb.cell (p := ⟨b, off + i * 4 + j, none⟩) hlt).trans (h6 j u hj)⟩

theorem ExD.up {W : World} : ∀ {d : Nat} {e : Ex} {cs : List Value}, ExD W d e cs → ExD W (d + 1) e cs
 | 0, _, _, h => h.elim
 | d + 1, .mk kind n s a, cs, h => by
  rw [ExD] at h ⊢
  obtain ⟨o, cap, e, h1, h2, h3⟩ := h
  refine ⟨o, cap, e, h1, h2, fun h0 => ?_⟩
  obtain ⟨b, off, e, hlt, h4⟩ := h3 h0
  refine ⟨b, off, e, hlt, fun i x hi => ?_⟩
  obtain ⟨ys, h5, h6⟩ := h4 i x hi
  exact ⟨ys, ExD.up h5, h6⟩

theorem ExD.mono {W : World} {d d' : Nat} {e : Ex} {cs : List Value} (h : ExD W d e cs) (hd : d ≤ d') : ExD W d' e cs := by
 obtain ⟨k, rfl⟩ := Nat.exists_eq_add_of_le hd
 clear hd
 induction k with
 | zero => exact h
 | succ k ih => exact ih.up

def ExV (W : World) (e : Ex) (cs : List Value) : Prop := ∃ d, ExD W d e cs

theorem ExV.below {W W' : World} {e : Ex} {cs : List Value} (h : ExV W e cs) (hb : Below W.heap.size W W') : ExV W' e cs := by
 obtain ⟨d, h⟩ := h
 exact ⟨d, h.below hb⟩

theorem ExD.shape {W : World} {d : Nat} {kind n : Int} {s : ByteArray} {a : List Ex} {cs : List Value} (h : ExD W d (.mk kind n s a) cs) : ∃ d' o cap, d = d' + 1 ∧ cs = exC kind n s (.slice o a.length cap) ∧ a.length ≤ 9223372036854775807 ∧
  ∀ (i : Nat) (x : Ex), a[i]? = some x → ∃ b off ys k m z v, o = some ⟨b, off, none⟩ ∧ b < W.heap.size ∧ ys = exC k m z v ∧ ExD W d' x ys ∧ W.cell? ⟨b, off + i * 4, none⟩ = some (.int .i64 k) ∧ W.cell? ⟨b, off + i * 4 + 1, none⟩ = some (.int .i64 m) ∧ W.cell? ⟨b, off + i * 4 + 2, none⟩ = some (.string z) ∧ W.cell? ⟨b, off + i * 4 + 3, none⟩ = some v ∧ ∃ o' n' c', v = .slice o' n' c' := by
 cases d with
 | zero => exact h.elim
 | succ d' =>
  rw [ExD] at h
  obtain ⟨o, cap, e, h1, h2, h3⟩ := h
  refine ⟨d', o, cap, rfl, e, h2, fun i x hi => ?_⟩
  obtain ⟨b, off, e, hlt, h4⟩ := h3 (by have := (List.getElem?_eq_some_iff.1 hi).1; omega)
  obtain ⟨ys, h5, h6⟩ := h4 i x hi
  obtain ⟨k, m, z, xa⟩ := x
  cases d' with
  | zero => exact h5.elim
  | succ d' =>
   obtain ⟨o', cap', ey, -⟩ := id h5
   subst ey
   exact ⟨b, off, _, k, m, z, _, e, hlt, rfl, h5, h6 0 _ rfl, h6 1 _ rfl, h6 2 _ rfl, h6 3 _ rfl, _, _, _, rfl⟩

def heavyE : Ex → Nat → Nat
 | .mk _ _ s a, most => go most (1 + s.size) a
where
 go (most n : Nat) : List Ex → Nat
 | [] => n
 | x :: t => if n ≤ most then go most (n + heavyE x most) t else n

end Go.Proofs.YtanjajjjancggaaDoor

/- Catalogs, by themselves: names in their order, operations, what they leave. -/
namespace Go.Proofs.YtanjajjjancggaaDoor

structure Nmd where
 name : ByteArray
 n : Int
 gens : List (List Int)

structure OpV where
 kind : Int
 name : ByteArray
 n : Int
 v : List Int

def nlt (a b : ByteArray) : Bool := Op.bytesLess a.toList b.toList

def nmOk (s : ByteArray) : Bool := decide (1 ≤ s.size ∧ s.size ≤ 8 ∧ ∀ i, i < s.size → (97 ≤ byt s i ∧ byt s i ≤ 122) ∨ (48 ≤ byt s i ∧ byt s i ≤ 57 ∧ i ≠ 0))

def genF (v : List Int) (n : Int) : Nat := if (v.length : Int) = n then (if v.all (fun z => decide (-999 ≤ z ∧ z ≤ 999)) then 0 else 1) else 6

def opOk (o : OpV) : Bool := nmOk o.name && (decide (o.kind = 1 ∧ o.v.length = 0) || decide (o.kind = 2 ∧ o.n = 0 ∧ o.v.length = 0) || decide ((o.kind = 3 ∨ o.kind = 4) ∧ o.n = 0))

def placeL (cs : List Nmd) (s : ByteArray) : Nat := cs.findIdx (fun x => !nlt x.name s)

def hasL (cs : List Nmd) (s : ByteArray) : Bool := cs.any (fun x => decide (x.name = s))

def applyC (cs : List Nmd) (o : OpV) : Nat × List Nmd :=
 if opOk o = false then (3, [])
 else if o.kind = 1 then
  if ¬ (1 ≤ o.n ∧ o.n ≤ 4) then (1, [])
  else if hasL cs o.name then (8, [])
  else if 8 ≤ cs.length then (2, [])
  else (0, cs.take (placeL cs o.name) ++ (⟨o.name, o.n, []⟩ :: cs.drop (placeL cs o.name)))
 else if hasL cs o.name = false then (7, [])
 else if o.kind = 2 then (0, cs.take (placeL cs o.name) ++ cs.drop (placeL cs o.name + 1))
 else match cs[placeL cs o.name]? with
  | none => (7, [])
  | some x =>
   if genF o.v x.n ≠ 0 then (genF o.v x.n, [])
   else if o.kind = 3 then (if 10 ≤ x.gens.length then (2, []) else (0, cs.set (placeL cs o.name) ⟨x.name, x.n, x.gens ++ [o.v]⟩))
   else (if x.gens.contains o.v then (0, cs.set (placeL cs o.name) ⟨x.name, x.n, x.gens.erase o.v⟩) else (7, []))

structure NmOk (x : Nmd) : Prop where
 name : nmOk x.name = true
 n : 1 ≤ x.n ∧ x.n ≤ 4
 few : x.gens.length ≤ 10
 gens : ∀ g ∈ x.gens, genF g x.n = 0

structure CatOk (cs : List Nmd) : Prop where
 rise : cs.Pairwise (fun x y => nlt x.name y.name = true)
 few : cs.length ≤ 8
 all : ∀ x ∈ cs, NmOk x

end Go.Proofs.YtanjajjjancggaaDoor
