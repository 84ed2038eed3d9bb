/- strings.Cut, SplitN, strconv.Atoi, laid at this translation. -/
import Derived.Shelf.Strings.Cut
import Derived.Shelf.Strings.Split
import Derived.Shelf.Strconv.Atoi
import Derived.Test.YtjdnhdcaifogmaaGreatDoorProg
import Derived.Test.YtjdnhdcaifogmaaGreatDoorBpL
import Derived.Test.YtjdnhdcaifogmaaGreatDoorBpG
import Derived.Test.YtjdnhdcaifogmaaGreatDoorBgO
import Derived.Lib.SmallJoins
import Derived.Shelf.Strconv.AtoiAll
import Derived.Orders

namespace Go.Proofs
open Go.Shelf Go.RowKit
def Tryz.lays145_ren : Go.Shelf.Ren := ⟨fun | 145 => 25 | 220 => 49 | 219 => 68 | 217 => 80 | 225 => 81 | 224 => 82 | 267 => 83 | 266 => 98 | 314 => 99 | n => n, fun | 9 => 9 | 4 => 4 | 59 => 68 | 3 => 3 | 5 => 5 | 46 => 80 | 146 => 144 | 51 => 143 | n => n, fun | 1 => 0 | n => n⟩
theorem Tryz.lays145 : Go.Proofs.Lays.n145 Tryz.prog Tryz.lays145_ren := {
 mixed := by kernel_rfl
 f145 := Tryz.func25.trans (congrArg some (by kernel_rfl))
 f217 := Tryz.func80.trans (congrArg some (by kernel_rfl))
 f219 := Tryz.func68.trans (congrArg some (by kernel_rfl))
 f220 := Tryz.func49.trans (congrArg some (by kernel_rfl))
 f224 := Tryz.func82.trans (congrArg some (by kernel_rfl))
 f225 := Tryz.func81.trans (congrArg some (by kernel_rfl))
 f266 := Tryz.func98.trans (congrArg some (by kernel_rfl))
 f267 := Tryz.func83.trans (congrArg some (by kernel_rfl))
 f314 := Tryz.func99.trans (congrArg some (by kernel_rfl))
 t3 := Tryz.underlying3
 a3 := Tryz.isAgg3
 z3 := Tryz.sizeOf3
 v3 := Tryz.zeroValue3
 t4 := Tryz.underlying4
 a4 := Tryz.isAgg4
 z4 := Tryz.sizeOf4
 v4 := Tryz.zeroValue4
 t5 := Tryz.underlying5
 a5 := Tryz.isAgg5
 z5 := Tryz.sizeOf5
 v5 := Tryz.zeroValue5
 t9 := Tryz.underlying9
 a9 := Tryz.isAgg9
 z9 := Tryz.sizeOf9
 v9 := Tryz.zeroValue9
 t46 := Tryz.underlying80
 a46 := Tryz.isAgg80
 z46 := Tryz.sizeOf80
 v46 := Tryz.zeroValue80
 t51 := Tryz.underlying143
 a51 := Tryz.isAgg143
 z51 := Tryz.sizeOf143
 v51 := Tryz.zeroValue143
 t59 := Tryz.underlying68
 a59 := Tryz.isAgg68
 z59 := Tryz.sizeOf68
 v59 := Tryz.zeroValue68
 t146 := Tryz.underlying144
 a146 := Tryz.isAgg144
 z146 := Tryz.sizeOf144
 v146 := Tryz.zeroValue144
 g1 := by kernel_rfl }
open Go.RowKit Go.Lib in
theorem Tryz.strings_Cut (s sep : ByteArray) (m : Int) (w : World) (hs : s.size < 4294967281) (hm : w.cell? ⟨0, 0, none⟩ = some (.int .i64 m)) :
  Calls Tryz.prog 25 #[.string s, .string sep] w fun e w' => e = .returned (.tuple #[.string ⟨(Lib.cut s.data.toList sep.data.toList).1.toArray⟩, .string ⟨(Lib.cut s.data.toList sep.data.toList).2.1.toArray⟩, .bool (Lib.cut s.data.toList sep.data.toList).2.2]) ∧ ∃ n, w' = w.drewN n := Any.strings_Cut Tryz.lays145 s sep m w hs hm
def Tryz.lays147_ren : Go.Shelf.Ren := ⟨fun | 147 => 71 | 221 => 89 | 268 => 103 | 138 => 104 | 143 => 105 | 195 => 114 | 197 => 115 | 218 => 116 | 219 => 68 | 260 => 119 | 217 => 80 | 225 => 81 | 224 => 82 | 267 => 83 | 266 => 98 | 314 => 99 | n => n, fun | 9 => 9 | 3 => 3 | 31 => 72 | 4 => 4 | 0 => 0 | 105 => 162 | 21 => 21 | 5 => 5 | 46 => 80 | 119 => 167 | 139 => 170 | 138 => 169 | 146 => 144 | 51 => 143 | n => n, fun | 1 => 0 | 3 => 6 | 4 => 7 | n => n⟩
theorem Tryz.lays147 : Go.Proofs.Lays.n147 Tryz.prog Tryz.lays147_ren := {
 mixed := by kernel_rfl
 f138 := Tryz.func104.trans (congrArg some (by kernel_rfl))
 f143 := Tryz.func105.trans (congrArg some (by kernel_rfl))
 f147 := Tryz.func71.trans (congrArg some (by kernel_rfl))
 f195 := Tryz.func114.trans (congrArg some (by kernel_rfl))
 f197 := Tryz.func115.trans (congrArg some (by kernel_rfl))
 f217 := Tryz.func80.trans (congrArg some (by kernel_rfl))
 f218 := Tryz.func116.trans (congrArg some (by kernel_rfl))
 f219 := Tryz.func68.trans (congrArg some (by kernel_rfl))
 f221 := Tryz.func89.trans (congrArg some (by kernel_rfl))
 f224 := Tryz.func82.trans (congrArg some (by kernel_rfl))
 f225 := Tryz.func81.trans (congrArg some (by kernel_rfl))
 f260 := Tryz.func119.trans (congrArg some (by kernel_rfl))
 f266 := Tryz.func98.trans (congrArg some (by kernel_rfl))
 f267 := Tryz.func83.trans (congrArg some (by kernel_rfl))
 f268 := Tryz.func103.trans (congrArg some (by kernel_rfl))
 f314 := Tryz.func99.trans (congrArg some (by kernel_rfl))
 t0 := Tryz.underlying0
 a0 := Tryz.isAgg0
 z0 := Tryz.sizeOf0
 v0 := Tryz.zeroValue0
 t3 := Tryz.underlying3
 a3 := Tryz.isAgg3
 z3 := Tryz.sizeOf3
 v3 := Tryz.zeroValue3
 t4 := Tryz.underlying4
 a4 := Tryz.isAgg4
 z4 := Tryz.sizeOf4
 v4 := Tryz.zeroValue4
 t5 := Tryz.underlying5
 a5 := Tryz.isAgg5
 z5 := Tryz.sizeOf5
 v5 := Tryz.zeroValue5
 t9 := Tryz.underlying9
 a9 := Tryz.isAgg9
 z9 := Tryz.sizeOf9
 v9 := Tryz.zeroValue9
 t21 := Tryz.underlying21
 a21 := Tryz.isAgg21
 z21 := Tryz.sizeOf21
 v21 := Tryz.zeroValue21
 t31 := Tryz.underlying72
 a31 := Tryz.isAgg72
 z31 := Tryz.sizeOf72
 v31 := Tryz.zeroValue72
 t46 := Tryz.underlying80
 a46 := Tryz.isAgg80
 z46 := Tryz.sizeOf80
 v46 := Tryz.zeroValue80
 t51 := Tryz.underlying143
 a51 := Tryz.isAgg143
 z51 := Tryz.sizeOf143
 v51 := Tryz.zeroValue143
 t105 := Tryz.underlying162
 a105 := Tryz.isAgg162
 z105 := Tryz.sizeOf162
 v105 := Tryz.zeroValue162
 t119 := Tryz.underlying167
 a119 := Tryz.isAgg167
 z119 := Tryz.sizeOf167
 t138 := Tryz.underlying169
 a138 := Tryz.isAgg169
 z138 := Tryz.sizeOf169
 v138 := Tryz.zeroValue169
 t139 := Tryz.underlying170
 a139 := Tryz.isAgg170
 z139 := Tryz.sizeOf170
 v139 := Tryz.zeroValue170
 t146 := Tryz.underlying144
 a146 := Tryz.isAgg144
 z146 := Tryz.sizeOf144
 v146 := Tryz.zeroValue144
 g1 := by kernel_rfl
 g3 := by kernel_rfl
 g4 := by kernel_rfl }
open Go.RowKit Go.Lib in
theorem Tryz.strings_SplitN (s sep : ByteArray) (n : Nat) (m : Int) (w : World) (hs : s.size < 4294967281) (hm : w.cell? ⟨0, 0, none⟩ = some (.int .i64 m)) (h1 : 1 ≤ sep.size) (hn : 1 ≤ n) (hn63 : n ≤ 9223372036854775807) :
  Calls Tryz.prog 71 #[.string s, .string sep, .int .i64 n] w fun e w' =>
   e = .returned (.slice (some ⟨w.heap.size, 0, none⟩) (Lib.splitB sep 0 (min n (s.size + 1) - 1) s).length (min n (s.size + 1))) ∧ w' = w.alloc (.cells (Lib.cellsOf (Lib.splitB sep 0 (min n (s.size + 1) - 1) s) (min n (s.size + 1))) 9) := Any.strings_SplitN Tryz.lays147 (by kernel_rfl) s sep n m w hs hm h1 hn hn63
def Tryz.lays172_ren : Go.Shelf.Ren := ⟨fun | 172 => 50 | 244 => 69 | 245 => 70 | 247 => 84 | 279 => 85 | 280 => 86 | 281 => 87 | 282 => 88 | 287 => 100 | 316 => 101 | 171 => 45 | 205 => 102 | 321 => 112 | 322 => 113 | 243 => 65 | 246 => 78 | 283 => 93 | 284 => 94 | 285 => 95 | 286 => 96 | 129 => 107 | 317 => 106 | 318 => 108 | 319 => 109 | 320 => 110 | 337 => 117 | 338 => 118 | n => n, fun | 9 => 9 | 3 => 3 | 75 => 34 | 76 => 61 | 4 => 4 | 5 => 5 | 167 => 129 | 37 => 58 | 0 => 0 | 85 => 130 | 2 => 2 | 168 => 132 | 53 => 113 | 175 => 146 | 46 => 80 | 210 => 150 | 127 => 92 | 145 => 161 | 143 => 159 | 21 => 21 | 171 => 138 | 173 => 141 | 212 => 154 | 51 => 143 | 20 => 20 | 213 => 155 | 232 => 165 | 233 => 166 | 80 => 32 | n => n, fun | 15 => 1 | 16 => 2 | 17 => 3 | 18 => 4 | 19 => 5 | n => n⟩
theorem Tryz.lays172 : Go.Proofs.Lays.n172 Tryz.prog Tryz.lays172_ren := {
 mixed := by kernel_rfl
 f129 := Tryz.func107.trans (congrArg some (by kernel_rfl))
 f171 := Tryz.func45.trans (congrArg some (by kernel_rfl))
 f172 := Tryz.func50.trans (congrArg some (by kernel_rfl))
 f205 := Tryz.func102.trans (congrArg some (by kernel_rfl))
 f243 := Tryz.func65.trans (congrArg some (by kernel_rfl))
 f244 := Tryz.func69.trans (congrArg some (by kernel_rfl))
 f245 := Tryz.func70.trans (congrArg some (by kernel_rfl))
 f246 := Tryz.func78.trans (congrArg some (by kernel_rfl))
 f247 := Tryz.func84.trans (congrArg some (by kernel_rfl))
 f279 := Tryz.func85.trans (congrArg some (by kernel_rfl))
 f280 := Tryz.func86.trans (congrArg some (by kernel_rfl))
 f281 := Tryz.func87.trans (congrArg some (by kernel_rfl))
 f282 := Tryz.func88.trans (congrArg some (by kernel_rfl))
 f283 := Tryz.func93.trans (congrArg some (by kernel_rfl))
 f284 := Tryz.func94.trans (congrArg some (by kernel_rfl))
 f285 := Tryz.func95.trans (congrArg some (by kernel_rfl))
 f286 := Tryz.func96.trans (congrArg some (by kernel_rfl))
 f287 := Tryz.func100.trans (congrArg some (by kernel_rfl))
 f316 := Tryz.func101.trans (congrArg some (by kernel_rfl))
 f317 := Tryz.func106.trans (congrArg some (by kernel_rfl))
 f318 := Tryz.func108.trans (congrArg some (by kernel_rfl))
 f319 := Tryz.func109.trans (congrArg some (by kernel_rfl))
 f320 := Tryz.func110.trans (congrArg some (by kernel_rfl))
 f321 := Tryz.func112.trans (congrArg some (by kernel_rfl))
 f322 := Tryz.func113.trans (congrArg some (by kernel_rfl))
 f337 := Tryz.func117.trans (congrArg some (by kernel_rfl))
 f338 := Tryz.func118.trans (congrArg some (by kernel_rfl))
 t0 := Tryz.underlying0
 a0 := Tryz.isAgg0
 z0 := Tryz.sizeOf0
 v0 := Tryz.zeroValue0
 t2 := Tryz.underlying2
 a2 := Tryz.isAgg2
 z2 := Tryz.sizeOf2
 v2 := Tryz.zeroValue2
 t3 := Tryz.underlying3
 a3 := Tryz.isAgg3
 z3 := Tryz.sizeOf3
 v3 := Tryz.zeroValue3
 t4 := Tryz.underlying4
 a4 := Tryz.isAgg4
 z4 := Tryz.sizeOf4
 v4 := Tryz.zeroValue4
 t5 := Tryz.underlying5
 a5 := Tryz.isAgg5
 z5 := Tryz.sizeOf5
 v5 := Tryz.zeroValue5
 t9 := Tryz.underlying9
 a9 := Tryz.isAgg9
 z9 := Tryz.sizeOf9
 v9 := Tryz.zeroValue9
 t20 := Tryz.underlying20
 a20 := Tryz.isAgg20
 z20 := Tryz.sizeOf20
 v20 := Tryz.zeroValue20
 t21 := Tryz.underlying21
 a21 := Tryz.isAgg21
 z21 := Tryz.sizeOf21
 v21 := Tryz.zeroValue21
 t37 := Tryz.underlying58
 a37 := Tryz.isAgg58
 z37 := Tryz.sizeOf58
 v37 := Tryz.zeroValue58
 t46 := Tryz.underlying80
 a46 := Tryz.isAgg80
 z46 := Tryz.sizeOf80
 v46 := Tryz.zeroValue80
 t51 := Tryz.underlying143
 a51 := Tryz.isAgg143
 z51 := Tryz.sizeOf143
 v51 := Tryz.zeroValue143
 t53 := Tryz.underlying113
 a53 := Tryz.isAgg113
 z53 := Tryz.sizeOf113
 v53 := Tryz.zeroValue113
 t75 := Tryz.underlying34
 a75 := Tryz.isAgg34
 z75 := Tryz.sizeOf34
 v75 := Tryz.zeroValue34
 t76 := Tryz.underlying61
 a76 := Tryz.isAgg61
 z76 := Tryz.sizeOf61
 v76 := Tryz.zeroValue61
 t85 := Tryz.underlying130
 a85 := Tryz.isAgg130
 z85 := Tryz.sizeOf130
 v85 := Tryz.zeroValue130
 t127 := Tryz.underlying92
 a127 := Tryz.isAgg92
 z127 := Tryz.sizeOf92
 v127 := Tryz.zeroValue92
 t143 := Tryz.underlying159
 a143 := Tryz.isAgg159
 z143 := Tryz.sizeOf159
 v143 := Tryz.zeroValue159
 t145 := Tryz.underlying161
 a145 := Tryz.isAgg161
 z145 := Tryz.sizeOf161
 v145 := Tryz.zeroValue161
 t167 := Tryz.underlying129
 a167 := Tryz.isAgg129
 z167 := Tryz.sizeOf129
 v167 := Tryz.zeroValue129
 t168 := Tryz.underlying132
 a168 := Tryz.isAgg132
 z168 := Tryz.sizeOf132
 v168 := Tryz.zeroValue132
 t171 := Tryz.underlying138
 a171 := Tryz.isAgg138
 z171 := Tryz.sizeOf138
 v171 := Tryz.zeroValue138
 t173 := Tryz.underlying141
 a173 := Tryz.isAgg141
 z173 := Tryz.sizeOf141
 v173 := Tryz.zeroValue141
 t175 := Tryz.underlying146
 a175 := Tryz.isAgg146
 z175 := Tryz.sizeOf146
 v175 := Tryz.zeroValue146
 t210 := Tryz.underlying150
 a210 := Tryz.isAgg150
 z210 := Tryz.sizeOf150
 v210 := Tryz.zeroValue150
 t212 := Tryz.underlying154
 a212 := Tryz.isAgg154
 z212 := Tryz.sizeOf154
 v212 := Tryz.zeroValue154
 t213 := Tryz.underlying155
 a213 := Tryz.isAgg155
 z213 := Tryz.sizeOf155
 t232 := Tryz.underlying165
 a232 := Tryz.isAgg165
 z232 := Tryz.sizeOf165
 v232 := Tryz.zeroValue165
 t233 := Tryz.underlying166
 a233 := Tryz.isAgg166
 z233 := Tryz.sizeOf166
 v233 := Tryz.zeroValue166
 g15 := by kernel_rfl
 g16 := by kernel_rfl
 g17 := by kernel_rfl
 g18 := by kernel_rfl
 g19 := by kernel_rfl }
open Go.RowKit in
theorem Tryz.strconv_Atoi (s : ByteArray) (n : Int) (hl : s.size ≤ 18) (h : Lib.atoi s.data.toList = some n) (w : World) :
  Calls Tryz.prog 50 #[.string s] w fun e w' => e = .returned (.tuple #[.int .i64 n, .nilIface]) ∧ ∃ t, w' = Lib.bytesWorld w 5 t := Any.strconv_Atoi Tryz.lays172 s n hl h w
end Go.Proofs

/- A generator's text, split up: without memory. -/
namespace Go.Proofs.YtjdnhdcaifogmaaGreatDoor
open Go.RowKit

def bytesP (p : List UInt8) : ByteArray := ⟨p.toArray⟩

theorem extract_bytes (l : List UInt8) (i j : Nat) : (bytesP l).extract i j = bytesP ((l.take j).drop i) := by
 apply ByteArray.ext
 apply Array.toList_inj.1
 rw [ByteArray.data_extract, Array.toList_extract]
 simp [bytesP, List.extract, List.drop_take]

end Go.Proofs.YtjdnhdcaifogmaaGreatDoor

/- pack: has each part of an operation room in its bytes? -/
namespace Go.Proofs.YtjdnhdcaifogmaaGreatDoor
open Go.RowKit

end Go.Proofs.YtjdnhdcaifogmaaGreatDoor

/- pack.Op: an operation as bytes. -/
namespace Go.Proofs.YtjdnhdcaifogmaaGreatDoor
open Go.RowKit

theorem getD_at {l : List Int} {k : Nat} (h : k < l.length) : l.getD k 0 = l[k] := by rw [List.getD_eq_getElem?_getD, List.getElem?_eq_getElem h]; rfl

end Go.Proofs.YtjdnhdcaifogmaaGreatDoor

/- pack.unpacked: what bytes say. -/
namespace Go.Proofs.YtjdnhdcaifogmaaGreatDoor
open Go.RowKit

def s16 (x : Int) : Int := if x < 32768 then x else x - 65536

def unB (s : ByteArray) : Option OpV :=
 if s.size < 2 then none
 else if s.size < (byt s 1).toNat + 4 then none
 else if s.size - ((byt s 1).toNat + 4) ≠ 2 * (byt s ((byt s 1).toNat + 3)).toNat then none
 else some ⟨byt s 0, s.extract 2 ((byt s 1).toNat + 2), byt s ((byt s 1).toNat + 2), (List.range (byt s ((byt s 1).toNat + 3)).toNat).map fun i => s16 (byt (s.extract ((byt s 1).toNat + 4) s.size) (2 * i) + 256 * byt (s.extract ((byt s 1).toNat + 4) s.size) (2 * i + 1))⟩

def RowAt (base : Nat) (W : World) (o : Option Addr) (n c : Nat) (ks : List Int) : Prop := W.ownsRow base 3 1 (.slice o n c) ks.length (ks.map (Value.int .i64)) ∧ ∀ k ∈ ks, -32768 ≤ k ∧ k ≤ 32767

def UnPost (w : World) (s : ByteArray) (e : Ending) (w' : World) : Prop :=
 ((unB s = none ∧ e = .returned (.tuple #[.agg #[.int .i64 0, .string ⟨#[]⟩, .int .i64 0, .slice none 0 0], .bool false])) ∨
  ∃ (o : OpV) (vo : Option Addr) (vc : Nat), unB s = some o ∧ e = .returned (.tuple #[.agg #[.int .i64 o.kind, .string o.name, .int .i64 o.n, .slice vo o.v.length vc], .bool true]) ∧ ∃ base, w.heap.size ≤ base ∧ RowAt base w' vo o.v.length vc o.v) ∧ Below w.heap.size w w'

def BoxQ (W : World) (B : Nat) (u0 u1 u2 u3 : Value) : Prop := FourV W B u0 u1 u2 u3 ∧ ∀ k, W.frozen? ⟨B, k, none⟩ = false

theorem BoxQ.later {W W' : World} {B : Nat} {u0 u1 u2 u3 : Value} (h : BoxQ W B u0 u1 u2 u3) (hb : Below W.heap.size W W') : BoxQ W' B u0 u1 u2 u3 :=
 ⟨h.1.later hb, fun k => (hb.frozen (p := ⟨B, k, none⟩) h.1.2.2.2.2).trans (h.2 k)⟩

theorem BoxQ.new (W : World) (u0 u1 u2 u3 : Value) (t : TypeId) : BoxQ (W.alloc (.cells #[u0, u1, u2, u3] t)) W.heap.size u0 u1 u2 u3 := ⟨FourV.new W u0 u1 u2 u3 t, fun k => by simp⟩

theorem BoxQ.laterC {W W' : World} {B C : Nat} {u0 u1 u2 u3 : Value} (h : BoxQ W B u0 u1 u2 u3) (hb : Below C W W') (hC : B < C) : BoxQ W' B u0 u1 u2 u3 :=
 ⟨⟨(hb.cell (p := ⟨B, 0, none⟩) hC).trans h.1.1, (hb.cell (p := ⟨B, 1, none⟩) hC).trans h.1.2.1, (hb.cell (p := ⟨B, 2, none⟩) hC).trans h.1.2.2.1, (hb.cell (p := ⟨B, 3, none⟩) hC).trans h.1.2.2.2.1, Nat.lt_of_lt_of_le h.1.2.2.2.2 hb.size⟩, fun k => (hb.frozen (p := ⟨B, k, none⟩) hC).trans (h.2 k)⟩

theorem RowAt.len {base : Nat} {W : World} {o : Option Addr} {n c : Nat} {ks : List Int} (h : RowAt base W o n c ks) : n = ks.length := by
 obtain ⟨o', c', e, -⟩ := owns_form h.1
 simp only [Value.slice.injEq] at e
 exact e.2.1

theorem RowAt.later {base : Nat} {W W' : World} {o : Option Addr} {n c : Nat} {ks : List Int} (h : RowAt base W o n c ks) (hb : Below W.heap.size W W') : RowAt base W' o n c ks := ⟨ownsRow_later h.1 hb, h.2⟩

theorem RowAt.row {base : Nat} {W : World} {o : Option Addr} {n c : Nat} {ks : List Int} (h : RowAt base W o n c ks) : RowS W (.slice o n c) ks := by
 obtain ⟨o', c', e, hn⟩ := owns_form h.1
 have hl := h.len
 subst hl
 obtain ⟨ho, hk⟩ := h
 refine ⟨o, c, rfl, by simp only [Value.slice.injEq] at e; omega, fun i => ?_, fun h0 => ?_⟩
 ·by_cases hi : i < ks.length
  ·rw [getD_at hi]
   have := hk _ (List.getElem_mem hi)
   omega
  ·rw [List.getD_eq_getElem?_getD, List.getElem?_eq_none (by omega)]
   decide
 ·rcases ho.2 with ⟨e, -⟩ | ⟨g, cap, cur, e, -, hg, -⟩
  ·simp only [Value.slice.injEq] at e
   omega
  ·simp only [Value.slice.injEq, true_and] at e
   obtain ⟨rfl, rfl⟩ := e
   refine ⟨g, 0, rfl, heap_lt hg, fun i hi => ?_⟩
   have := World.ownsRow.cells (g := g) ho rfl i _ (show (ks.map (Value.int .i64))[i]? = some (.int .i64 (ks.getD i 0)) by rw [List.getElem?_map, List.getElem?_eq_getElem hi, getD_at hi]; rfl)
   rw [Go.WideShapes.add_plain] at this
   exact this

theorem RowAt.set {base : Nat} {W : World} {o : Option Addr} {n c : Nat} {ks : List Int} (h : RowAt base W o n c ks) {p : Addr} (hp : p.block < base) (v : Value) : RowAt base (W.setCell p v) o n c ks := by
 refine ⟨⟨h.1.1, ?_⟩, h.2⟩
 rcases h.1.2 with hn | ⟨g, cap, cur, e, hbg, hg, hr⟩
 ·exact .inl hn
 ·exact .inr ⟨g, cap, cur, e, hbg, (heap_setCell_other _ _ _ _ (by omega)).trans hg, hr⟩

theorem BoxQ.setOther {W : World} {B : Nat} {u0 u1 u2 u3 : Value} (h : BoxQ W B u0 u1 u2 u3) {p : Addr} (hp : p.block ≠ B) (v : Value) : BoxQ (W.setCell p v) B u0 u1 u2 u3 := by
 obtain ⟨⟨h0, h1, h2, h3, h4⟩, h5⟩ := h
 have n : ∀ k, p ≠ (⟨B, k, none⟩ : Addr) := fun k e => hp (by rw [e])
 exact ⟨⟨(World.cell?_setCell_other _ _ _ _ (n 0)).trans h0, (World.cell?_setCell_other _ _ _ _ (n 1)).trans h1, (World.cell?_setCell_other _ _ _ _ (n 2)).trans h2, (World.cell?_setCell_other _ _ _ _ (n 3)).trans h3, by simpa using h4⟩, fun k => by simpa using h5 k⟩

theorem Tryz.infoIntP : (Tryz.prog.info? 3).map (fun i => (i.zero, i.size, i.bytes)) = some (some (.int .i64 0), 1, 8) := by kernel_rfl

theorem RowAt.snoc {W : World} {base : Nat} {o : Option Addr} {n c : Nat} {ks : List Int} (h : RowAt base W o n c ks) (hbase : base ≤ W.heap.size) (z : Int) (hz : -32768 ≤ z ∧ z ≤ 32767) (hn : n ≤ 1000) :
  ∃ o' c' W', (Builtin.append_ #[44, 44] 44 #[.slice o n c, .slice (some ⟨W.heap.size, 0, none⟩) 1 1]).run Tryz.prog (W.alloc (.cells #[.int .i64 z] 3)) = .ok (.slice o' (n + 1) c') W' ∧ RowAt base W' o' (n + 1) c' (ks ++ [z]) ∧ Below base W W' := by
 obtain ⟨j0, hj, hy0, hy1, hy2⟩ := info_got Tryz.infoIntP
 have hl := h.len
 subst hl
 obtain ⟨o', c', W', hr, hown, hb⟩ := own_snoc W base hbase 44 44 3 j0 (.int .i64 0) 1 8 (by kernel_rfl) hj hy0 hy1 hy2 rfl (by decide) _ _ _ h.1 #[.int .i64 z] 3 rfl (fun y hy => by
  rw [List.mem_singleton] at hy
  rw [hy]; rfl) (by unfold maxLen; omega) (by omega)
 refine ⟨o', c', W', hr, ⟨?_, fun k hk => ?_⟩, hb⟩
 ·rw [List.map_append, List.length_append]
  exact hown
 ·rcases List.mem_append.1 hk with h1 | h1
  ·exact h.2 k h1
  ·rw [List.mem_singleton.1 h1]; exact hz

end Go.Proofs.YtjdnhdcaifogmaaGreatDoor

/- pack.withGen: a generator more, of its text. -/
namespace Go.Proofs.YtjdnhdcaifogmaaGreatDoor
open Go.RowKit

def MaxL (w : World) : Prop := ∃ m, w.cell? ⟨0, 0, none⟩ = some (.int .i64 m) ∧ 0 < w.heap.size

theorem MaxL.below {w w' : World} (h : MaxL w) (hb : Below w.heap.size w w') : MaxL w' := by
 obtain ⟨m, h1, h2⟩ := h
 exact ⟨m, (hb.cell (p := ⟨0, 0, none⟩) h2).trans h1, Nat.lt_of_lt_of_le h2 hb.size⟩

def FillI (base : Nat) (W : World) (P : Nat) (g : List Int) (k : Nat) : Prop :=
 W.ownsRow base 3 1 (.slice (some ⟨P, 0, none⟩) g.length g.length) g.length ((g.take k).map (Value.int .i64) ++ List.replicate (g.length - k) (.int .i64 0))

theorem FillI.start (W : World) (g : List Int) (hn : g.length ≤ 1000) : FillI W.heap.size (W.alloc (.cells (madeCells #[.int .i64 0] g.length) 3)) W.heap.size g 0 := by
 refine ⟨by simp, .inr ⟨W.heap.size, g.length, _, rfl, Nat.le_refl _, heap_alloc_new W _, Nat.le_refl _, by unfold maxLen; omega, by rw [size_madeCells, Nat.mul_one], ?_⟩⟩
 rw [toList_madeCells_one]; simp

theorem FillI.cell {base : Nat} {W : World} {P : Nat} {g : List Int} {k : Nat} (h : FillI base W P g k) (hk : k < g.length) : W.cell? ⟨P, k, none⟩ = some (.int .i64 0) ∧ W.frozen? ⟨P, k, none⟩ = false := by
 obtain ⟨gg, cap, e, -, hc⟩ := own_at h (by omega)
 simp only [Value.slice.injEq, Option.some.injEq, Addr.mk.injEq, and_true, true_and] at e
 obtain ⟨rfl, rfl⟩ := e
 refine ⟨hc k _ ?_, own_free h k⟩
 have hl : ((g.take k).map (Value.int .i64)).length = k := by rw [List.length_map, List.length_take]; omega
 rw [List.getElem?_append_right (by omega), hl, Nat.sub_self, List.getElem?_replicate, if_pos (by omega)]

theorem FillI.put {base : Nat} {W : World} {P : Nat} {g : List Int} {k : Nat} (h : FillI base W P g k) (hk : k < g.length) : FillI base (W.setCell ⟨P, k, none⟩ (.int .i64 (g.getD k 0))) P g (k + 1) := by
 have hl : ((g.take k).map (Value.int .i64)).length = k := by rw [List.length_map, List.length_take]; omega
 have := own_set h k (.int .i64 (g.getD k 0))
 rw [List.set_append_right _ _ (by omega), hl, Nat.sub_self, show g.length - k = (g.length - (k + 1)) + 1 by omega, List.replicate_succ, List.set_cons_zero] at this
 unfold FillI
 rw [List.take_succ_eq_append_getElem hk, List.map_append, List.append_assoc, ← getD_at hk]
 exact this

theorem FillI.row {base : Nat} {W : World} {P : Nat} {g : List Int} (h : FillI base W P g g.length) (hg : ∀ z ∈ g, -32768 ≤ z ∧ z ≤ 32767) : RowS W (.slice (some ⟨P, 0, none⟩) g.length g.length) g := by
 unfold FillI at h
 rw [List.take_length, Nat.sub_self, List.replicate_zero, List.append_nil] at h
 exact RowAt.row (base := base) ⟨h, hg⟩

end Go.Proofs.YtjdnhdcaifogmaaGreatDoor

/- A catalog laid line by line: without memory. -/
namespace Go.Proofs.YtjdnhdcaifogmaaGreatDoor
open Go.RowKit

end Go.Proofs.YtjdnhdcaifogmaaGreatDoor

/- pack.withLine: the lattice of a line that is right. -/
namespace Go.Proofs.YtjdnhdcaifogmaaGreatDoor
open Go.RowKit

def tailT : List (List Int) → List UInt8
 | [] => []
 | g :: t => numT g ++ t.flatMap genT

def strSz : Value → Nat
 | .string s => s.size
 | _ => 0

end Go.Proofs.YtjdnhdcaifogmaaGreatDoor

/- pack.withLine: the lattice of a line that is right: its walk. -/
namespace Go.Proofs.YtjdnhdcaifogmaaGreatDoor
open Go.RowKit

theorem catN_noRowP {W : World} {u : Value} {ps : List Nc} (h : CatN W u ps) {g : List Int} (hg : g ≠ []) : ¬ RowS W u g := fun hr => by
 obtain ⟨ao, cap, e, -, hh⟩ := h
 obtain ⟨bo, cap', e2, -, -, hh2⟩ := hr
 rw [e] at e2
 simp only [Value.slice.injEq] at e2
 obtain ⟨rfl, hl, -⟩ := e2
 have h0 : 0 < g.length := List.length_pos_iff.2 hg
 obtain ⟨b, off, rfl, -, hc⟩ := hh (by omega)
 obtain ⟨b', off', e3, -, hc2⟩ := hh2 h0
 simp only [Option.some.injEq, Addr.mk.injEq, and_true] at e3
 obtain ⟨rfl, rfl⟩ := e3
 have k1 := (hc 0 ps[0] (List.getElem?_eq_getElem (by omega))).1
 have k2 := hc2 0 h0
 rw [Nat.zero_mul, Nat.add_zero] at k1
 rw [Nat.add_zero, k1] at k2
 cases k2

theorem RowS.setVarP {W : World} {v : Value} {ks : List Int} (h : RowS W v ks) {p : Addr} {o : Option Addr} {l c : Nat} (hc : W.cell? p = some (.slice o l c)) (x : Value) : RowS (W.setCell p x) v ks := by
 obtain ⟨ao, cap, e, hn, h6, hh⟩ := h
 refine ⟨ao, cap, e, hn, h6, fun h0 => ?_⟩
 obtain ⟨b, off, e', hlt, hcell⟩ := hh h0
 refine ⟨b, off, e', by simpa using hlt, fun i hi => (World.cell?_setCell_other _ _ _ _ fun e => ?_).trans (hcell i hi)⟩
 have := hcell i hi
 rw [← e, hc] at this; cases this

theorem CatN.setVarP {W : World} {v : Value} {qs : List Nc} (h : CatN W v qs) (hne : NonE qs) {B : Nat} {u : Value} {ps : List Nc} (hc : W.cell? ⟨B, 0, none⟩ = some u) (hu : CatN W u ps) (x : Value) : CatN (W.setCell ⟨B, 0, none⟩ x) v qs := by
 have hno := fun g (hg : g ≠ []) => catN_noRowP (g := g) hu hg
 obtain ⟨uo, uc, rfl, -⟩ := hu
 obtain ⟨ao, cap, e, hn, hh⟩ := h
 refine ⟨ao, cap, e, hn, fun h0 => ?_⟩
 obtain ⟨b, off, e', hlt, hcell⟩ := hh h0
 refine ⟨b, off, e', by simpa using hlt, fun i q hi => ?_⟩
 obtain ⟨h1, h2, h3, h4⟩ := hcell i q hi
 refine ⟨(World.cell?_setCell_other _ _ _ _ fun e => ?_).trans h1, (World.cell?_setCell_other _ _ _ _ fun e => ?_).trans h2, (World.cell?_setCell_other _ _ _ _ fun e => ?_).trans h3, ?_⟩
 ·rw [← e, hc] at h1; cases h1
 ·rw [← e, hc] at h2; cases h2
 ·have := congrArg Addr.off e
  simp at this
 ·have hq := hne q (List.mem_of_getElem? hi)
  obtain ⟨go, gc, ge, gn, gh⟩ := h4
  refine ⟨go, gc, ge, gn, fun g0 => ?_⟩
  obtain ⟨gb, goff, ge', glt, gcell⟩ := gh g0
  refine ⟨gb, goff, ge', by simpa using glt, fun j r hj => ?_⟩
  obtain ⟨u2, hu2, hr2⟩ := gcell j r hj
  refine ⟨u2, (World.cell?_setCell_other _ _ _ _ fun e => ?_).trans hu2, hr2.setVarP hc x⟩
  rw [← e, hc] at hu2
  simp only [Option.some.injEq] at hu2
  rw [← hu2] at hr2
  exact hno r (hq r (List.mem_of_getElem? hj)) hr2

end Go.Proofs.YtjdnhdcaifogmaaGreatDoor

/- pack.Parse: a catalog of its text. -/
namespace Go.Proofs.YtjdnhdcaifogmaaGreatDoor
open Go.RowKit

theorem bytesP_size (l : List UInt8) : (bytesP l).size = l.length := by
 show l.toArray.size = _
 rw [List.size_toArray]

end Go.Proofs.YtjdnhdcaifogmaaGreatDoor

/- strconv.Atoi of any text, laid at this translation. -/
namespace Go.Proofs
open Go.Shelf Go.RowKit

end Go.Proofs

/- pack.withGen of any text: a catalog, or an error. -/
namespace Go.Proofs.YtjdnhdcaifogmaaGreatDoor
open Go.RowKit

def ErrSet (w : World) : Prop := (∃ e, w.cell? ⟨1, 0, none⟩ = some e ∧ (e = .nilIface ∨ ∃ te pe, e = .iface te pe) ∧ 1 < w.heap.size) ∧ ∃ e, w.cell? ⟨2, 0, none⟩ = some e ∧ (e = .nilIface ∨ ∃ te pe, e = .iface te pe) ∧ 2 < w.heap.size

theorem ErrSet.below {w w' : World} (h : ErrSet w) (hb : Below w.heap.size w w') : ErrSet w' := by
 obtain ⟨⟨e1, h1, h2, h3⟩, e2, k1, k2, k3⟩ := h
 exact ⟨⟨e1, (hb.cell (p := ⟨1, 0, none⟩) h3).trans h1, h2, Nat.lt_of_lt_of_le h3 hb.size⟩, e2, (hb.cell (p := ⟨2, 0, none⟩) k3).trans k1, k2, Nat.lt_of_lt_of_le k3 hb.size⟩

def CatA (w : World) (e : Ending) (w' : World) : Prop :=
 ((∃ te pe, e = .returned (.tuple #[.agg #[.slice none 0 0], .iface te pe])) ∨ ∃ o n k qs, e = .returned (.tuple #[.agg #[.slice o n k], .nilIface]) ∧ CatN w' (.slice o n k) qs ∧ CatOk (qs.map (·.x))) ∧ Below w.heap.size w w'

def FillA (base : Nat) (W : World) (P m : Nat) (zs : List Int) : Prop :=
 W.heap[P]? = some (.cells ((zs.map (Value.int .i64) ++ List.replicate (m - zs.length) (Value.int .i64 0)).toArray) 3 (0, 0)) ∧ zs.length ≤ m ∧ base ≤ P ∧ ∀ z ∈ zs, -9223372036854775808 ≤ z ∧ z ≤ 9223372036854775807

theorem FillA.start (W : World) (m : Nat) : FillA W.heap.size (W.alloc (.cells (madeCells #[.int .i64 0] m) 3)) W.heap.size m [] := by
 refine ⟨?_, Nat.zero_le _, Nat.le_refl _, fun z hz => absurd hz (by simp)⟩
 have h := heap_alloc_new W (.cells (madeCells #[.int .i64 0] m) 3)
 have e : madeCells #[Value.int .i64 0] m = (List.replicate m (Value.int .i64 0)).toArray := by
  apply Array.toList_inj.1
  rw [toList_madeCells_one]
 rw [h, e]
 simp

theorem FillA.cell {base : Nat} {W : World} {P m : Nat} {zs : List Int} (h : FillA base W P m zs) (hk : zs.length < m) : W.cell? ⟨P, zs.length, none⟩ = some (.int .i64 0) ∧ W.frozen? ⟨P, zs.length, none⟩ = false := by
 refine ⟨?_, by simp [World.frozen?, h.1]⟩
 rw [cell_of_row W P zs.length _ _ _ h.1, List.getElem?_toArray, List.getElem?_append_right (by rw [List.length_map]; exact Nat.le_refl _), List.length_map, Nat.sub_self, List.getElem?_replicate, if_pos (by omega)]

theorem FillA.put {base : Nat} {W : World} {P m : Nat} {zs : List Int} (h : FillA base W P m zs) (hk : zs.length < m) (z : Int) (hz : -9223372036854775808 ≤ z ∧ z ≤ 9223372036854775807) : FillA base (W.setCell ⟨P, zs.length, none⟩ (.int .i64 z)) P m (zs ++ [z]) := by
 refine ⟨?_, by rw [List.length_append, List.length_singleton]; omega, h.2.2.1, fun y hy => ?_⟩
 ·rw [heap_setCell_same W P zs.length _ _ (.int .i64 z) h.1, List.setIfInBounds_toArray, List.set_append_right _ _ (by rw [List.length_map]; exact Nat.le_refl _), List.length_map, Nat.sub_self, show m - zs.length = (m - (zs.length + 1)) + 1 by omega, List.replicate_succ, List.set_cons_zero, List.length_append, List.length_singleton, List.map_append]
  simp
 ·rcases List.mem_append.1 hy with hy | hy
  ·exact h.2.2.2 y hy
  ·rw [List.mem_singleton] at hy
   rw [hy]; exact hz

theorem FillA.later {base : Nat} {W W' : World} {P m : Nat} {zs : List Int} (h : FillA base W P m zs) (hb : Below W.heap.size W W') : FillA base W' P m zs := ⟨(hb.block P (heap_lt h.1)).trans h.1, h.2⟩

theorem FillA.row {base : Nat} {W : World} {P : Nat} {zs : List Int} (h : FillA base W P zs.length zs) : RowS W (.slice (some ⟨P, 0, none⟩) zs.length zs.length) zs := by
 refine ⟨_, _, rfl, Nat.le_refl _, fun i => ?_, fun h0 => ⟨P, 0, rfl, heap_lt h.1, fun i hi => ?_⟩⟩
 ·by_cases hi : i < zs.length
  ·rw [getD_at hi]
   exact h.2.2.2 _ (List.getElem_mem hi)
  ·rw [List.getD_eq_getElem?_getD, List.getElem?_eq_none (by omega)]
   simp
 ·rw [Nat.zero_add, cell_of_row W P i _ _ _ h.1, List.getElem?_toArray, List.getElem?_append_left (by rw [List.length_map]; exact hi), List.getElem?_map, List.getElem?_eq_getElem hi, getD_at hi]
  rfl

end Go.Proofs.YtjdnhdcaifogmaaGreatDoor

/- pack.withLine of any text: a catalog, or an error. -/
namespace Go.Proofs.YtjdnhdcaifogmaaGreatDoor
open Go.RowKit

def CondA (W : World) (o : Option Addr) (n k : Nat) (qs : List Nc) (ev : Value) : Prop :=
 (ev = .nilIface ∧ CatN W (.slice o n k) qs ∧ CatOk (qs.map (·.x))) ∨ ((∃ te pe, ev = .iface te pe) ∧ o = none ∧ n = 0 ∧ k = 0)

theorem CondA.setVar {W : World} {o : Option Addr} {n k : Nat} {qs ps : List Nc} {ev u : Value} {B : Nat} (h : CondA W o n k qs ev) (hc : W.cell? ⟨B, 0, none⟩ = some u) (hu : CatN W u ps) (x : Value) : CondA (W.setCell ⟨B, 0, none⟩ x) o n k qs ev := by
 rcases h with ⟨h1, h2, h3⟩ | h
 ·exact .inl ⟨h1, h2.setVarP (nonE_of_ok h3.all) hc hu x, h3⟩
 ·exact .inr h

def boolM : Value → Nat
 | .bool true => 1
 | _ => 0

end Go.Proofs.YtjdnhdcaifogmaaGreatDoor

/- pack.Parse of any text. -/
namespace Go.Proofs.YtjdnhdcaifogmaaGreatDoor
open Go.RowKit

end Go.Proofs.YtjdnhdcaifogmaaGreatDoor

/- Errors that are the same. -/
namespace Go.Proofs.YtjdnhdcaifogmaaGreatDoor
open Go.RowKit

end Go.Proofs.YtjdnhdcaifogmaaGreatDoor

/- The closed fact: a catalog's text. -/
namespace Go.Proofs.YtjdnhdcaifogmaaGreatDoor
open Go.RowKit

end Go.Proofs.YtjdnhdcaifogmaaGreatDoor

/- Values by their numbers; operations that have come up. -/
namespace Go.Proofs.YtjdnhdcaifogmaaGreatDoor
open Go.RowKit

def upd (c : Nat → Value) (i : Nat) (v : Value) : Nat → Value := fun j => if j = i then v else c j

theorem upd_self (c : Nat → Value) (i : Nat) (v : Value) : upd c i v i = v := if_pos rfl

theorem upd_ne (c : Nat → Value) {i j : Nat} (v : Value) (h : j ≠ i) : upd c i v j = c j := if_neg h

theorem listed_not {L : Array Bool} {i : Nat} (h : L.getD i true = false) : ¬ L.getD i false = true := fun h' => by
 by_cases hl : i < L.size
 ·simp [hl] at h h'; rw [h] at h'; cases h'
 ·simp [Array.getElem?_eq_none (Nat.le_of_not_lt hl)] at h'

theorem listed_old {L : Array Bool} {i j : Nat} (hne : i ≠ j) (h : (L.setIfInBounds i true).getD j false = true) : L.getD j false = true := by rwa [getD_set_ne false hne] at h

theorem listed_new {L : Array Bool} {i : Nat} (h : L.getD i true = false) : (L.setIfInBounds i true).getD i false = true := by
 have hl : i < L.size := by
  by_cases hl : i < L.size
  ·exact hl
  ·simp [Array.getElem?_eq_none (Nat.le_of_not_lt hl)] at h
 simp [hl]

end Go.Proofs.YtjdnhdcaifogmaaGreatDoor

/- Regions that draw their order, and make, and call: what each operation answered stands while others come up; the last one may write. -/
namespace Go.Proofs.YtjdnhdcaifogmaaGreatDoor
open Go.RowKit

structure FS (deps : Nat → List Nat) (kv : Nat → Option Value) (Sp : Nat → (Nat → Value) → World → Prop) (w : World) (L : Array Bool) (c : Nat → Value) (W : World) : Prop where
 below : Below w.heap.size w W
 plain : ∀ i v, L.getD i false = true → kv i = some v → c i = v
 spec : ∀ i, L.getD i false = true → Sp i c W
 closed : ∀ i, L.getD i false = true → ∀ j ∈ deps i, L.getD j false = true

structure Stays (deps : Nat → List Nat) (Sp : Nat → (Nat → Value) → World → Prop) : Prop where
 later : ∀ i c W W', Below W.heap.size W W' → Sp i c W → Sp i c W'
 other : ∀ i j c v W, j ≠ i → i ∉ deps j → Sp j c W → Sp j (upd c i v) W

variable {deps : Nat → List Nat} {kv : Nat → Option Value} {Sp : Nat → (Nat → Value) → World → Prop} {Fin : (Nat → Value) → World → Prop} {w W W' : World} {L : Array Bool} {c : Nat → Value}

theorem FS.start (w : World) (n : Nat) (c : Nat → Value) : FS deps kv Sp w (Array.replicate n false) c w.drew where
 below := (Below.refl _ _).drew
 plain := fun i _ h => by simp [Array.getD] at h
 spec := fun i h => by simp [Array.getD] at h
 closed := fun i h => by simp [Array.getD] at h

theorem FS.made (h : FS deps kv Sp w L c W) (hst : Stays deps Sp) {i : Nat} (hn : L.getD i true = false) (hd : ∀ j ∈ deps i, L.getD j false = true) (hb : Below W.heap.size W W') {v : Value} (hk : ∀ u, kv i = some u → v = u) (hnew : Sp i (upd c i v) W') :
  FS deps kv Sp w (L.setIfInBounds i true) (upd c i v) W' where
 below := h.below.trans (hb.mono h.below.size)
 plain := fun j u hj hu => by
  by_cases e : j = i
  ·subst e; rw [upd_self]; exact hk u hu
  ·rw [upd_ne _ _ e]; exact h.plain j u (listed_old (fun e' => e e'.symm) hj) hu
 spec := fun j hj => by
  by_cases e : j = i
  ·subst e; exact hnew
  ·have hj' := listed_old (fun e' => e e'.symm) hj
   exact hst.other _ _ _ _ _ e (fun hm => listed_not hn (h.closed j hj' i hm)) (hst.later _ _ _ _ hb (h.spec j hj'))
 closed := fun j hj k hjk => by
  by_cases ek : i = k
  ·subst ek; exact listed_new hn
  ·rw [getD_set_ne false ek]
   by_cases e : j = i
   ·subst e; exact hd k hjk
   ·exact h.closed j (listed_old (fun e' => e e'.symm) hj) k hjk

def FSx (deps : Nat → List Nat) (kv : Nat → Option Value) (Sp : Nat → (Nat → Value) → World → Prop) (Fin : (Nat → Value) → World → Prop) (w : World) (m : Nat) (L : Array Bool) (c : Nat → Value) (W : World) : Prop :=
 (L.getD m false = false ∧ FS deps kv Sp w L c W) ∨ ((∀ i, i ≤ m → L.getD i false = true) ∧ Fin c W)

theorem FSx.start (w : World) (n m : Nat) (c : Nat → Value) : FSx deps kv Sp Fin w m (Array.replicate n false) c w.drew :=
 .inl ⟨by simp [Array.getD], FS.start w n c⟩

theorem FS.next {m i : Nat} (h : FS deps kv Sp w (L.setIfInBounds i true) c W) (hne : i ≠ m) (hm : L.getD m false = false) : FSx deps kv Sp Fin w m (L.setIfInBounds i true) c W :=
 .inl ⟨by rw [getD_set_ne false hne]; exact hm, h⟩

theorem FSx.last {m : Nat} (hall : ∀ j, j < m → L.getD j false = true) (hn : L.getD m true = false) (hf : Fin c W) : FSx deps kv Sp Fin w m (L.setIfInBounds m true) c W :=
 .inr ⟨fun j hj => by
  by_cases e : m = j
  ·subst e; exact listed_new hn
  ·rw [getD_set_ne false e]; exact hall j (by omega), hf⟩

theorem FSx.fin {m : Nat} (h : FSx deps kv Sp Fin w m L c W) (hall : L.getD m false = true) : Fin c W := by
 rcases h with ⟨h, -⟩ | ⟨-, h⟩
 ·rw [hall] at h; cases h
 ·exact h

theorem FS.put {deps : Nat → List Nat} {kv : Nat → Option Value} {Sp Sp' : Nat → (Nat → Value) → World → Prop} {w W W' : World} {L : Array Bool} {c : Nat → Value} (h : FS deps kv Sp w L c W) {i : Nat} (hn : L.getD i true = false) (hd : ∀ j ∈ deps i, L.getD j false = true) (hB : Below w.heap.size w W') {v : Value} (hk : ∀ u, kv i = some u → v = u)
  (hkeep : ∀ j, j ≠ i → L.getD j false = true → Sp j c W → Sp' j (upd c i v) W') (hnew : Sp' i (upd c i v) W') : FS deps kv Sp' w (L.setIfInBounds i true) (upd c i v) W' where
 below := hB
 plain := fun j u hj hu => by
  by_cases e : j = i
  ·subst e; rw [upd_self]; exact hk u hu
  ·rw [upd_ne _ _ e]; exact h.plain j u (listed_old (fun e' => e e'.symm) hj) hu
 spec := fun j hj => by
  by_cases e : j = i
  ·subst e; exact hnew
  ·have hj' := listed_old (fun e' => e e'.symm) hj
   exact hkeep j e hj' (h.spec j hj')
 closed := fun j hj k hjk => by
  by_cases ek : i = k
  ·subst ek; exact listed_new hn
  ·rw [getD_set_ne false ek]
   by_cases e : j = i
   ·subst e; exact hd k hjk
   ·exact h.closed j (listed_old (fun e' => e e'.symm) hj) k hjk

end Go.Proofs.YtjdnhdcaifogmaaGreatDoor
