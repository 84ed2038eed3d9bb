/- Small things that operations and catalogs share. -/
import Derived.Test.YtjdnhdcaifogmaaGreatDoorBgB
import Derived.Lib.AppendZeros
import Derived.Lib.AppendStr
import Derived.Deep.AppendLies
import Derived.Lib.UnsafeStr
import Derived.Laws.IdiomStrings
import Derived.Lib.Split
import Derived.Laws.MakeOwn
import Derived.Shelf.LaysM
import Derived.Shelf.Strconv.Itoa3
import Derived.Test.YtjdnhdcaifogmaaGreatDoorProg
import Derived.Shelf.Strings.OnBuilder
import Derived.Shelf.Strings.Count
import Derived.Shelf.Strings.Split
import Derived.Lib.Join

namespace Go.Proofs.YtjdnhdcaifogmaaGreatDoor
open Go.RowKit

def errV (c : Nat) : Value := if c = 0 then .nilIface else .iface 71 (.int .i64 (c : Int))

theorem alloc_below (W : World) (ob : Obj) : Below W.heap.size W (W.alloc ob) := (Below.refl _ _).alloc (Nat.le_refl _) _

theorem owns_form {W : World} {base : Nat} {e : TypeId} {sz : Nat} {v : Value} {n : Nat} {xs : List Value} (h : W.ownsRow base e sz v n xs) : ∃ o c, v = .slice o n c ∧ n ≤ c := by
 rcases h.2 with ⟨rfl, rfl⟩ | ⟨g, cap, cur, rfl, -, -, hle, -⟩
 ·exact ⟨_, _, rfl, Nat.le_refl _⟩
 ·exact ⟨_, _, rfl, hle⟩

theorem info_got {P : Program} {t : TypeId} {z : Value} {s b : Nat} (h : (P.info? t).map (fun i => (i.zero, i.size, i.bytes)) = some (some z, s, b)) : ∃ i, P.info? t = some i ∧ i.zero = some z ∧ i.size = s ∧ i.bytes = b := by
 cases e : P.info? t with
 | none => rw [e] at h; cases h
 | some i =>
  rw [e] at h
  simp only [Option.map_some, Option.some.injEq, Prod.mk.injEq] at h
  exact ⟨i, rfl, h.1, h.2.1, h.2.2⟩

def FourV (W : World) (B : Nat) (u0 u1 u2 u3 : Value) : Prop := W.cell? ⟨B, 0, none⟩ = some u0 ∧ W.cell? ⟨B, 1, none⟩ = some u1 ∧ W.cell? ⟨B, 2, none⟩ = some u2 ∧ W.cell? ⟨B, 3, none⟩ = some u3 ∧ B < W.heap.size

theorem FourV.later {W W' : World} {B : Nat} {u0 u1 u2 u3 : Value} (h : FourV W B u0 u1 u2 u3) (hb : Below W.heap.size W W') : FourV W' B u0 u1 u2 u3 :=
 ⟨(hb.cell (p := ⟨B, 0, none⟩) h.2.2.2.2).trans h.1, (hb.cell (p := ⟨B, 1, none⟩) h.2.2.2.2).trans h.2.1, (hb.cell (p := ⟨B, 2, none⟩) h.2.2.2.2).trans h.2.2.1, (hb.cell (p := ⟨B, 3, none⟩) h.2.2.2.2).trans h.2.2.2.1, Nat.lt_of_lt_of_le h.2.2.2.2 hb.size⟩

theorem FourV.new (W : World) (u0 u1 u2 u3 : Value) (t : TypeId) : FourV (W.alloc (.cells #[u0, u1, u2, u3] t)) W.heap.size u0 u1 u2 u3 :=
 ⟨by rw [World.cell?_alloc_new]; rfl, by rw [World.cell?_alloc_new]; rfl, by rw [World.cell?_alloc_new]; rfl, by rw [World.cell?_alloc_new]; rfl, by simp⟩

theorem step_append_run {P : Program} {ops : Array Oper} {o : Oper} {a : Act} {w : World} {K : Act → World → Prop} {Q : Exit → Act → World → Prop} {E : Prop} (hg : o.guard = none) (s x : Operand) (t tn : TypeId)
  (ho : o.op = .call { callee := .builtin .append, args := #[s, x], argTypes := #[t, tn] }) (vs vx : Value) (hs : a.eval s = vs) (hx : a.eval x = vx)
  (v' : Value) (w' : World) (hr : (Builtin.append_ #[t, tn] o.type #[vs, vx]).run P w = .ok v' w') (hK : K (a.put o.dst v') w') :
  if Region.wanted o (yielded ops a.tmps) = true then Oper.wp P o a w K Q else E := by
 rw [if_pos (by simp [Region.wanted, hg])]
 exact Lib.wp_append_run w s x t tn ho vs vx hs hx v' w' hr hK

theorem own_snoc {P : Program} (W : World) (base : Nat) (hbase : base ≤ W.heap.size) (t ty e : TypeId) (i : TypeInfo) (z : Value) (sz by' : Nat) (ht : P.underlying t = some (.slice e)) (hi : P.info? e = some i) (hz : i.zero = some z)
  (hsize : i.size = sz) (hby : i.bytes = by') (hzs : z.cells.size = sz) (hsz : 0 < sz) (v : Value) (n : Nat) (xs : List Value) (hown : W.ownsRow base e sz v n xs)
  (ys : Array Value) (tb : TypeId) (hl : ys.size = sz) (h1 : ∀ y ∈ ys.toList, y.oneCell' = true) (h63 : n + 1 ≤ maxLen) (hbytes : (n + 1) * by' ≤ 140737488355328) :
  ∃ o c W', (Builtin.append_ #[t, t] ty #[v, .slice (some ⟨W.heap.size, 0, none⟩) 1 1]).run P (W.alloc (.cells ys tb)) = .ok (.slice o (n + 1) c) W' ∧ W'.ownsRow base e sz (.slice o (n + 1) c) (n + 1) (xs ++ ys.toList) ∧ Below base W W' := by
 obtain ⟨v', W', hr, hown', hg, -⟩ := run_append_own (P := P) (W.alloc (.cells ys tb)) base t ty e i z sz by' ht hi hz hsize hby hzs hsz v n xs (hown.alloc _) ⟨W.heap.size, 0, none⟩ 1 1 ys.toList (by rw [Array.length_toList, hl, Nat.one_mul]) (World.news_of_block (heap_alloc_new W _)) h1 h63 hbytes (by simp; omega)
 obtain ⟨o, c, rfl, -⟩ := owns_form hown'
 exact ⟨o, c, W', hr, hown', owns_below hown hbase hg⟩

end Go.Proofs.YtjdnhdcaifogmaaGreatDoor

/- Bytes under construction: an operation's bytes, without memory; a list of bytes of one's own that grows. -/
namespace Go.Proofs.YtjdnhdcaifogmaaGreatDoor
open Go.RowKit

def lowB (z : Int) : UInt8 := UInt8.ofNat (z % 256).toNat

theorem lowB_nat (z : Int) : ((lowB z).toNat : Int) = z % 256 := by
 unfold lowB
 have h0 : 0 ≤ z % 256 := Int.emod_nonneg _ (by decide)
 have h1 : z % 256 < 256 := Int.emod_lt_of_pos _ (by decide)
 rw [UInt8.toNat_ofNat']
 omega

def twoB (z : Int) : List UInt8 := [lowB z, lowB (z / 256)]

def shapeB (o : OpV) : Bool := decide (1 ≤ o.kind ∧ o.kind ≤ 4) && nmOk o.name && decide (0 ≤ o.n ∧ o.n ≤ 4) && decide (o.v.length ≤ 4)

def bigB (o : OpV) : Bool := o.v.any fun z => decide (z < -999 ∨ 999 < z)

def opF (o : OpV) : Nat := if shapeB o = false then 3 else if bigB o then 1 else 0

def headB (o : OpV) : List UInt8 := [lowB o.kind, lowB o.name.size] ++ o.name.data.toList ++ [lowB o.n, lowB o.v.length]

def opB (o : OpV) : List UInt8 := headB o ++ o.v.flatMap twoB

def opS (o : OpV) : ByteArray := if opF o = 0 then ⟨(opB o).toArray⟩ else ⟨#[]⟩

theorem Tryz.infoU8 : (Tryz.prog.info? 5).map (fun i => (i.zero, i.size, i.bytes)) = some (some (.int .u8 0), 1, 1) := by kernel_rfl

def BufB (base : Nat) (W : World) (v : Value) (l : List UInt8) : Prop := W.ownsRow base 5 1 v l.length (Lib.byteCells l)

theorem BufB.form {base : Nat} {W : World} {v : Value} {l : List UInt8} (h : BufB base W v l) : ∃ o c, v = .slice o l.length c := by
 obtain ⟨o, c, e, -⟩ := owns_form h
 exact ⟨o, c, e⟩

theorem BufB.len {base : Nat} {W : World} {o : Option Addr} {n c : Nat} {l : List UInt8} (h : BufB base W (.slice o n c) l) : n = l.length := by
 obtain ⟨o', c', e⟩ := h.form
 simp only [Value.slice.injEq] at e
 exact e.2.1

theorem BufB.later {base : Nat} {W W' : World} {v : Value} {l : List UInt8} (h : BufB base W v l) (hb : Below W.heap.size W W') : BufB base W' v l := ownsRow_later h hb

theorem cell_lowB (z : Int) : Value.int .u8 ((lowB z).toNat : Int) = .int .u8 (z % 256) := by rw [lowB_nat]

theorem BufB.two (W : World) (a b : Int) : BufB W.heap.size (W.alloc (.cells #[.int .u8 (a % 256), .int .u8 (b % 256)] 5)) (.slice (some ⟨W.heap.size, 0, none⟩) 2 2) [lowB a, lowB b] := by
 refine ⟨by simp [Lib.byteCells], .inr ⟨W.heap.size, 2, _, rfl, Nat.le_refl _, heap_alloc_new W _, Nat.le_refl _, by unfold maxLen; decide, rfl, ?_⟩⟩
 simp only [Lib.byteCells, List.map_cons, List.map_nil, cell_lowB]
 rfl

theorem BufB.str {W : World} {base : Nat} {v : Value} {l : List UInt8} (h : BufB base W v l) (hbase : base ≤ W.heap.size) (s : ByteArray) (ty : TypeId) (hl : l.length + s.size ≤ 1000000) :
  ∃ o c W', (Builtin.append_ #[58, 9] ty #[v, .string s]).run Tryz.prog W = .ok (.slice o (l ++ s.data.toList).length c) W' ∧ BufB base W' (.slice o (l ++ s.data.toList).length c) (l ++ s.data.toList) ∧ Below base W W' := by
 obtain ⟨j0, hj, hy0, hy1, hy2⟩ := info_got Tryz.infoU8
 obtain ⟨v', W', hr, hown, hg, -⟩ := Lib.run_append_own_string (P := Tryz.prog) W base 58 9 ty 5 j0 (by kernel_rfl) (by kernel_rfl) hj hy0 hy1 hy2 v l.length _ h s (by unfold maxLen; omega) (by omega) hbase
 have e1 : l.length + s.size = (l ++ s.data.toList).length := by rw [List.length_append, Array.length_toList]; rfl
 have e2 : Lib.byteCells l ++ Lib.strCells s = Lib.byteCells (l ++ s.data.toList) := by simp [Lib.byteCells, Lib.strCells]
 rw [e1, e2] at hown
 obtain ⟨o, c, rfl, -⟩ := owns_form hown
 exact ⟨o, c, W', hr, hown, (Below.refl base W).grown hg hbase (fun k hk => (World.ownsRow.lt h k hk).1)⟩

theorem BufB.more {W : World} {base : Nat} {v : Value} {l : List UInt8} (h : BufB base W v l) (hbase : base ≤ W.heap.size) (m : List UInt8) (cs : Array Value) (hcs : cs.toList = Lib.byteCells m) (ty tb : TypeId) (hl : l.length + m.length ≤ 1000000) :
  ∃ o c W', (Builtin.append_ #[58, 58] ty #[v, .slice (some ⟨W.heap.size, 0, none⟩) m.length m.length]).run Tryz.prog (W.alloc (.cells cs tb)) = .ok (.slice o (l ++ m).length c) W' ∧ BufB base W' (.slice o (l ++ m).length c) (l ++ m) ∧ Below base W W' := by
 obtain ⟨j0, hj, hy0, hy1, hy2⟩ := info_got Tryz.infoU8
 obtain ⟨v', W', hr, hown, hg, -⟩ := run_append_own (P := Tryz.prog) (W.alloc (.cells cs tb)) base 58 ty 5 j0 (.int .u8 0) 1 1 (by kernel_rfl) hj hy0 hy1 hy2 rfl (by decide) v l.length _ (World.ownsRow.alloc h _) ⟨W.heap.size, 0, none⟩ m.length m.length (Lib.byteCells m) (by simp [Lib.byteCells]) (by rw [← hcs]; exact World.news_of_block (heap_alloc_new W _)) (fun y hy => by
  simp only [Lib.byteCells, List.mem_map] at hy
  obtain ⟨b, -, rfl⟩ := hy
  rfl) (by unfold maxLen; omega) (by omega) (by simp; omega)
 have e1 : l.length + m.length = (l ++ m).length := by rw [List.length_append]
 have e2 : Lib.byteCells l ++ Lib.byteCells m = Lib.byteCells (l ++ m) := by simp [Lib.byteCells]
 rw [e1, e2] at hown
 obtain ⟨o, c, rfl, -⟩ := owns_form hown
 exact ⟨o, c, W', hr, hown, owns_below h hbase hg⟩

theorem BufB.back {W : World} {base : Nat} {o : Option Addr} {c : Nat} {l : List UInt8} (h : BufB base W (.slice o l.length c) l) (h0 : 0 < l.length) : (convert 58 9 (.slice o l.length c)).run Tryz.prog W = .ok (.string ⟨l.toArray⟩) W := by
 rcases h.2 with ⟨e, -⟩ | ⟨g, cap, cur, e, -, hg, -, -, -, -⟩
 ·simp only [Value.slice.injEq] at e
  omega
 ·simp only [Value.slice.injEq, true_and] at e
  obtain ⟨rfl, rfl⟩ := e
  refine run_convert_bytes_back W 58 9 5 ⟨g, 0, none⟩ c l (by kernel_rfl) (by kernel_rfl) (by kernel_rfl) fun j hj => ?_
  have := World.ownsRow.cells (g := g) h rfl j _ (show (Lib.byteCells l)[j]? = some (.int .u8 (l[j].toNat : Int)) by simp [Lib.byteCells, hj])
  exact this

end Go.Proofs.YtjdnhdcaifogmaaGreatDoor

/- A list of texts is made. -/
namespace Go.Proofs.YtjdnhdcaifogmaaGreatDoor
open Go.RowKit

theorem Tryz.infoStrP : (Tryz.prog.info? 9).map (fun i => (i.zero, i.size, i.bytes)) = some (some (.string ByteArray.empty), 1, 16) := by kernel_rfl

theorem run_mkSP (m : Nat) (hm : m ≤ 1000) (W : World) : (Instr.makeSlice 72 (.int .i64 (m : Int)) (.int .i64 (m : Int))).run Tryz.prog W = .ok (.slice (some ⟨W.heap.size, 0, none⟩) m m) (W.alloc (.cells (Lib.cellsOf [] m) 9)) := by
 obtain ⟨i0, hi, hz0, hz1, hz2⟩ := info_got Tryz.infoStrP
 have h := run_make (P := Tryz.prog) W 72 9 i0 (.string ByteArray.empty) (by kernel_rfl) hi hz0 .i64 .i64 m m (by omega) (by omega) (by rw [hz2]; omega) (by omega)
 rw [hz1, Int.toNat_natCast, Nat.mul_one] at h
 rw [Lib.cellsOf_nil]
 exact h

end Go.Proofs.YtjdnhdcaifogmaaGreatDoor

/- strconv.Itoa in general, laid at this translation. -/
namespace Go.Proofs
open Go.Shelf Go.RowKit Go.Sort
def Tryz.laysM171_ren : Go.Shelf.Ren := ⟨fun | 171 => 45 | 243 => 65 | 246 => 78 | 283 => 93 | 284 => 94 | 285 => 95 | 286 => 96 | 129 => 107 | 317 => 106 | 318 => 108 | 319 => 109 | 320 => 110 | 337 => 117 | 338 => 118 | n => n, fun | 3 => 3 | 9 => 9 | 2 => 2 | 4 => 4 | 171 => 138 | 0 => 0 | 53 => 113 | 37 => 58 | 5 => 5 | 173 => 141 | 212 => 154 | 51 => 143 | 20 => 20 | 213 => 155 | 46 => 80 | 232 => 165 | 233 => 166 | n => n, fun | 17 => 3 | 18 => 4 | 19 => 5 | n => n⟩
theorem Tryz.laysM171 : Go.Proofs.LaysM.n171 Tryz.prog Tryz.laysM171_ren := {
 mixed := by kernel_rfl
 f129 := Tryz.func107.trans (congrArg some (by kernel_rfl))
 f171 := Tryz.func45.trans (congrArg some (by kernel_rfl))
 f243 := Tryz.func65.trans (congrArg some (by kernel_rfl))
 f246 := Tryz.func78.trans (congrArg some (by kernel_rfl))
 f283 := Tryz.func93.trans (congrArg some (by kernel_rfl))
 f284 := Tryz.func94.trans (congrArg some (by kernel_rfl))
 f285 := Tryz.func95.trans (congrArg some (by kernel_rfl))
 f286 := Tryz.func96.trans (congrArg some (by kernel_rfl))
 f317 := Tryz.func106.trans (congrArg some (by kernel_rfl))
 f318 := Tryz.func108.trans (congrArg some (by kernel_rfl))
 f319 := Tryz.func109.trans (congrArg some (by kernel_rfl))
 f320 := Tryz.func110.trans (congrArg some (by kernel_rfl))
 f337 := Tryz.func117.trans (congrArg some (by kernel_rfl))
 f338 := Tryz.func118.trans (congrArg some (by kernel_rfl))
 t0 := Tryz.underlying0
 a0 := Tryz.isAgg0
 z0 := Tryz.sizeOf0
 v0 := Tryz.zeroValue0
 t2 := Tryz.underlying2
 a2 := Tryz.isAgg2
 z2 := Tryz.sizeOf2
 v2 := Tryz.zeroValue2
 t3 := Tryz.underlying3
 a3 := Tryz.isAgg3
 z3 := Tryz.sizeOf3
 v3 := Tryz.zeroValue3
 t4 := Tryz.underlying4
 a4 := Tryz.isAgg4
 z4 := Tryz.sizeOf4
 v4 := Tryz.zeroValue4
 t5 := Tryz.underlying5
 a5 := Tryz.isAgg5
 z5 := Tryz.sizeOf5
 v5 := Tryz.zeroValue5
 t9 := Tryz.underlying9
 a9 := Tryz.isAgg9
 z9 := Tryz.sizeOf9
 v9 := Tryz.zeroValue9
 t20 := Tryz.underlying20
 a20 := Tryz.isAgg20
 z20 := Tryz.sizeOf20
 v20 := Tryz.zeroValue20
 t37 := Tryz.underlying58
 a37 := Tryz.isAgg58
 z37 := Tryz.sizeOf58
 v37 := Tryz.zeroValue58
 t46 := Tryz.underlying80
 a46 := Tryz.isAgg80
 z46 := Tryz.sizeOf80
 v46 := Tryz.zeroValue80
 t51 := Tryz.underlying143
 a51 := Tryz.isAgg143
 z51 := Tryz.sizeOf143
 v51 := Tryz.zeroValue143
 t53 := Tryz.underlying113
 a53 := Tryz.isAgg113
 z53 := Tryz.sizeOf113
 v53 := Tryz.zeroValue113
 t171 := Tryz.underlying138
 a171 := Tryz.isAgg138
 z171 := Tryz.sizeOf138
 v171 := Tryz.zeroValue138
 t173 := Tryz.underlying141
 a173 := Tryz.isAgg141
 z173 := Tryz.sizeOf141
 v173 := Tryz.zeroValue141
 t212 := Tryz.underlying154
 a212 := Tryz.isAgg154
 z212 := Tryz.sizeOf154
 v212 := Tryz.zeroValue154
 t213 := Tryz.underlying155
 a213 := Tryz.isAgg155
 z213 := Tryz.sizeOf155
 t232 := Tryz.underlying165
 a232 := Tryz.isAgg165
 z232 := Tryz.sizeOf165
 v232 := Tryz.zeroValue165
 t233 := Tryz.underlying166
 a233 := Tryz.isAgg166
 z233 := Tryz.sizeOf166
 v233 := Tryz.zeroValue166
 g17 := by kernel_rfl
 g18 := by kernel_rfl
 g19 := by kernel_rfl
 i0 := by kernel_rfl
 i2 := by kernel_rfl
 i3 := by kernel_rfl
 i4 := by kernel_rfl
 i5 := by kernel_rfl
 i9 := by kernel_rfl
 i20 := by kernel_rfl
 i37 := by kernel_rfl
 i46 := by kernel_rfl
 i51 := by kernel_rfl
 i53 := by kernel_rfl
 i171 := by kernel_rfl
 i173 := by kernel_rfl
 i212 := by kernel_rfl
 i232 := by kernel_rfl
 i233 := by kernel_rfl
 m17 := by kernel_rfl
 m18 := by kernel_rfl
 m19 := by kernel_rfl }
open Go.RowKit Go.Sort Go.Lib in
theorem Tryz.strconv_Itoa (n : Int) (h0 : -9223372036854775808 ≤ n) (h1 : n ≤ 9223372036854775807) (w : World) (htab : Lib.TabIs Tryz.prog w "internal/strconv.uint64pow10" .u64 Lib.pow10Tab) :
  Calls Tryz.prog 45 #[.int .i64 n] w fun e w' => e = .returned (.string ⟨(Lib.itoa n).toArray⟩) ∧ ∃ k os, w' = grow (w.drewN k) os := Any.strconv_Itoa Tryz.laysM171 n h0 h1 w htab
end Go.Proofs

/- strings.Join, Count, Split, laid at this translation. -/
namespace Go.Proofs
open Go.Shelf Go.RowKit
def Tryz.lays156_ren : Go.Shelf.Ren := ⟨fun | 156 => 66 | 165 => 79 | 166 => 21 | 169 => 23 | 240 => 44 | 241 => 97 | 276 => 64 | 277 => 111 | n => n, fun | 31 => 72 | 9 => 9 | 3 => 3 | 4 => 4 | 0 => 0 | 20 => 20 | 72 => 60 | 76 => 61 | 70 => 57 | 37 => 58 | 75 => 34 | 127 => 92 | 164 => 110 | 5 => 5 | 80 => 32 | n => n, fun | n => n⟩
theorem Tryz.lays156 : Go.Proofs.Lays.n156 Tryz.prog Tryz.lays156_ren := {
 mixed := by kernel_rfl
 f156 := Tryz.func66.trans (congrArg some (by kernel_rfl))
 f165 := Tryz.func79.trans (congrArg some (by kernel_rfl))
 f166 := Tryz.func21.trans (congrArg some (by kernel_rfl))
 f169 := Tryz.func23.trans (congrArg some (by kernel_rfl))
 f240 := Tryz.func44.trans (congrArg some (by kernel_rfl))
 f241 := Tryz.func97.trans (congrArg some (by kernel_rfl))
 f276 := Tryz.func64.trans (congrArg some (by kernel_rfl))
 f277 := Tryz.func111.trans (congrArg some (by kernel_rfl))
 t0 := Tryz.underlying0
 a0 := Tryz.isAgg0
 z0 := Tryz.sizeOf0
 v0 := Tryz.zeroValue0
 t3 := Tryz.underlying3
 a3 := Tryz.isAgg3
 z3 := Tryz.sizeOf3
 v3 := Tryz.zeroValue3
 t4 := Tryz.underlying4
 a4 := Tryz.isAgg4
 z4 := Tryz.sizeOf4
 v4 := Tryz.zeroValue4
 t9 := Tryz.underlying9
 a9 := Tryz.isAgg9
 z9 := Tryz.sizeOf9
 v9 := Tryz.zeroValue9
 t20 := Tryz.underlying20
 a20 := Tryz.isAgg20
 z20 := Tryz.sizeOf20
 v20 := Tryz.zeroValue20
 t31 := Tryz.underlying72
 a31 := Tryz.isAgg72
 z31 := Tryz.sizeOf72
 v31 := Tryz.zeroValue72
 t37 := Tryz.underlying58
 a37 := Tryz.isAgg58
 z37 := Tryz.sizeOf58
 v37 := Tryz.zeroValue58
 t70 := Tryz.underlying57
 a70 := Tryz.isAgg57
 z70 := Tryz.sizeOf57
 v70 := Tryz.zeroValue57
 t72 := Tryz.underlying60
 a72 := Tryz.isAgg60
 z72 := Tryz.sizeOf60
 v72 := Tryz.zeroValue60
 t75 := Tryz.underlying34
 a75 := Tryz.isAgg34
 z75 := Tryz.sizeOf34
 v75 := Tryz.zeroValue34
 t76 := Tryz.underlying61
 a76 := Tryz.isAgg61
 z76 := Tryz.sizeOf61
 v76 := Tryz.zeroValue61
 t127 := Tryz.underlying92
 a127 := Tryz.isAgg92
 z127 := Tryz.sizeOf92
 v127 := Tryz.zeroValue92
 t164 := Tryz.underlying110
 a164 := Tryz.isAgg110
 z164 := Tryz.sizeOf110
 v164 := Tryz.zeroValue110 }
theorem Tryz.Builder_Extra_156 : Builder.Extra Tryz.prog Tryz.lays156_ren := {
 sizeBuilder := by kernel_rfl
 liesBuilder := by kernel_rfl
 t5 := Tryz.underlying5
 a5 := Tryz.isAgg5
 z5 := Tryz.sizeOf5
 v5 := Tryz.zeroValue5
 infoByte := by kernel_rfl
 cellsByte := by kernel_rfl
 sizeByte := by kernel_rfl
 neB5 := by decide }
open Go.RowKit in
theorem Tryz.strings_Join (bk o c : Nat) (xs : List ByteArray) (sep : ByteArray) (w : World) (hcells : ∀ (j : Nat) x, xs[j]? = some x → w.cell? ⟨bk, o + j, none⟩ = some (.string x)) (hbk : bk < w.heap.size) (hN : xs.length ≤ 140737488355328) (hcap : xs.length ≤ c) (hlen : (Lib.join (xs.map (·.data.toList)) sep.data.toList).length ≤ 140737488355328) :
  Calls Tryz.prog 66 #[.slice (some ⟨bk, o, none⟩) xs.length c, .string sep] w fun e w' => e = .returned (.string ⟨(Lib.join (xs.map (·.data.toList)) sep.data.toList).toArray⟩) ∧ Below w.heap.size w w' := Any.strings_Join Tryz.lays156 Tryz.Builder_Extra_156 bk o c xs sep w hcells hbk hN hcap hlen
def Tryz.lays138_ren : Go.Shelf.Ren := ⟨fun | 138 => 104 | 195 => 114 | 218 => 116 | 143 => 105 | 219 => 68 | 217 => 80 | 225 => 81 | 224 => 82 | 267 => 83 | 266 => 98 | 314 => 99 | n => n, fun | 9 => 9 | 3 => 3 | 4 => 4 | 5 => 5 | 0 => 0 | 46 => 80 | 146 => 144 | 51 => 143 | n => n, fun | 1 => 0 | n => n⟩
theorem Tryz.lays138 : Go.Proofs.Lays.n138 Tryz.prog Tryz.lays138_ren := {
 mixed := by kernel_rfl
 f138 := Tryz.func104.trans (congrArg some (by kernel_rfl))
 f143 := Tryz.func105.trans (congrArg some (by kernel_rfl))
 f195 := Tryz.func114.trans (congrArg some (by kernel_rfl))
 f217 := Tryz.func80.trans (congrArg some (by kernel_rfl))
 f218 := Tryz.func116.trans (congrArg some (by kernel_rfl))
 f219 := Tryz.func68.trans (congrArg some (by kernel_rfl))
 f224 := Tryz.func82.trans (congrArg some (by kernel_rfl))
 f225 := Tryz.func81.trans (congrArg some (by kernel_rfl))
 f266 := Tryz.func98.trans (congrArg some (by kernel_rfl))
 f267 := Tryz.func83.trans (congrArg some (by kernel_rfl))
 f314 := Tryz.func99.trans (congrArg some (by kernel_rfl))
 t0 := Tryz.underlying0
 a0 := Tryz.isAgg0
 z0 := Tryz.sizeOf0
 v0 := Tryz.zeroValue0
 t3 := Tryz.underlying3
 a3 := Tryz.isAgg3
 z3 := Tryz.sizeOf3
 v3 := Tryz.zeroValue3
 t4 := Tryz.underlying4
 a4 := Tryz.isAgg4
 z4 := Tryz.sizeOf4
 v4 := Tryz.zeroValue4
 t5 := Tryz.underlying5
 a5 := Tryz.isAgg5
 z5 := Tryz.sizeOf5
 v5 := Tryz.zeroValue5
 t9 := Tryz.underlying9
 a9 := Tryz.isAgg9
 z9 := Tryz.sizeOf9
 v9 := Tryz.zeroValue9
 t46 := Tryz.underlying80
 a46 := Tryz.isAgg80
 z46 := Tryz.sizeOf80
 v46 := Tryz.zeroValue80
 t51 := Tryz.underlying143
 a51 := Tryz.isAgg143
 z51 := Tryz.sizeOf143
 v51 := Tryz.zeroValue143
 t146 := Tryz.underlying144
 a146 := Tryz.isAgg144
 z146 := Tryz.sizeOf144
 v146 := Tryz.zeroValue144
 g1 := by kernel_rfl }
open Go.RowKit Go.Lib in
theorem Tryz.strings_Count_one (s : ByteArray) (c : UInt8) (w : World) :
  Calls Tryz.prog 104 #[.string s, .string ⟨#[c]⟩] w fun e w' => e = .returned (.int .i64 (Lib.countByte s.data.toList c)) ∧ w' = w := Any.strings_Count_one Tryz.lays138 s c w
end Go.Proofs

/- pack.numbers: numbers' texts, with blanks between. -/
namespace Go.Proofs.YtjdnhdcaifogmaaGreatDoor
open Go.RowKit

def TabP (w : World) : Prop := Lib.TabIs Tryz.prog w "internal/strconv.uint64pow10" .u64 Lib.pow10Tab

theorem TabP.below {w w' : World} (h : TabP w) (hb : Below w.heap.size w w') : TabP w' := by
 unfold TabP Lib.TabIs World.var? at h ⊢
 obtain ⟨g, hg⟩ : ∃ g, Tryz.prog.globalNamed "internal/strconv.uint64pow10" = some g := by
  cases hg : Tryz.prog.globalNamed "internal/strconv.uint64pow10" with
  | none => rw [hg] at h; cases h
  | some g => exact ⟨g, rfl⟩
 rw [hg] at h ⊢
 simp only [Option.bind_some] at h ⊢
 have hlt : g < w.heap.size := by
  rcases Nat.lt_or_ge g w.heap.size with h' | h'
  ·exact h'
  ·rw [Array.getElem?_eq_none h'] at h; cases h
 rw [hb.block g hlt]
 exact h

def itoS (z : Int) : ByteArray := ⟨(Lib.itoa z).toArray⟩

theorem itoaP_any (W : World) (ht : TabP W) (z : Int) (h0 : -9223372036854775808 ≤ z) (h1 : z ≤ 9223372036854775807) :
  Calls Tryz.prog 45 #[.int .i64 z] W fun e w' => e = .returned (.string (itoS z)) ∧ Below W.heap.size W w' := by
 refine (Go.Proofs.Tryz.strconv_Itoa z h0 h1 W ht).mono ?_
 rintro e w' ⟨rfl, n, os, rfl⟩
 refine ⟨rfl, rfl, rfl, rfl, by simp [Go.Sort.grow], fun j hj => ?_⟩
 simp [Go.Sort.grow, Array.getElem?_append, hj]

theorem dec_len (u : Nat) (h : u < 1000) : 1 ≤ (Lib.decDigits u).length ∧ (Lib.decDigits u).length ≤ 3 := by
 rw [Lib.decDigits]
 split
 ·exact ⟨by simp, by simp⟩
 ·rw [Lib.decDigits]
  split
  ·exact ⟨by simp, by simp⟩
  ·rw [Lib.decDigits, dif_pos (by omega)]
   exact ⟨by simp, by simp⟩

theorem ito_len {z : Int} (h1 : -999 ≤ z) (h2 : z ≤ 999) : 1 ≤ (Lib.itoa z).length ∧ (Lib.itoa z).length ≤ 4 := by
 unfold Lib.itoa
 split
 ·have := dec_len z.natAbs (by omega)
  rw [List.length_cons]
  omega
 ·have := dec_len z.toNat (by omega)
  omega

def numT (g : List Int) : List UInt8 := Lib.join (g.map Lib.itoa) [32]

theorem itoS_data (zs : List Int) : (zs.map itoS).map (·.data.toList) = zs.map Lib.itoa := by
 rw [List.map_map]
 apply List.map_congr_left
 intro z _
 simp [itoS]

def TxP (w wr : World) (P : Nat) (zs : List Int) (k : Nat) : Prop :=
 wr.heap[P]? = some (.cells (Lib.cellsOf ((zs.take k).map itoS) zs.length) 9) ∧ Below w.heap.size w wr

theorem TxP.store {w wr : World} {P : Nat} {zs : List Int} {k : Nat} (h : TxP w wr P zs k) (hP : w.heap.size ≤ P) (hk : k < zs.length) : TxP w (wr.setCell ⟨P, k, none⟩ (.string (itoS (zs.getD k 0)))) P zs (k + 1) := by
 obtain ⟨h1, h2⟩ := h
 have hl : ((zs.take k).map itoS).length = k := by rw [List.length_map, List.length_take]; omega
 have hs := heap_setCell_same wr P k _ _ (.string (itoS (zs.getD k 0))) h1
 refine ⟨?_, h2.setCell (by exact hP) _⟩
 have e : (Lib.cellsOf ((zs.take k).map itoS) zs.length).setIfInBounds k (.string (itoS (zs.getD k 0))) = Lib.cellsOf ((zs.take (k + 1)).map itoS) zs.length := by
  have := Lib.cellsOf_set (done := (zs.take k).map itoS) (N := zs.length) (by omega) (itoS (zs.getD k 0))
  rw [hl] at this
  rw [this, List.take_succ_eq_append_getElem hk, List.map_append]
  simp [List.getD_eq_getElem?_getD, hk]
 rw [← e]
 exact hs

theorem TxP.full {w wr : World} {P : Nat} {zs : List Int} (h : TxP w wr P zs zs.length) : ∀ (j : Nat) x, (zs.map itoS)[j]? = some x → wr.cell? ⟨P, 0 + j, none⟩ = some (.string x) := fun j x hx => by
 have h1 := h.1
 rw [List.take_length] at h1
 have := World.news_of_block h1 j (.string x) (by
  unfold Lib.cellsOf
  rw [List.toList_toArray, List.getElem?_append_left (by rw [List.length_map]; exact (List.getElem?_eq_some_iff.1 hx).1), List.getElem?_map, hx]
  rfl)
 have e : (⟨P, 0, none⟩ : Addr).add j = ⟨P, 0 + j, none⟩ := by unfold Addr.add; split <;> simp_all
 rwa [e] at this

set_option linter.unusedSimpArgs false in
set_option maxRecDepth 100000 in
set_option maxHeartbeats 1600000 in
theorem numbers_any (w : World) (v : Value) (g : List Int) (ht : TabP w) (hv : RowS w v g) (h0 : 0 < g.length) (h8 : g.length ≤ 100) (hlen : (numT g).length ≤ 100000) :
  Calls Tryz.prog 46 #[v] w fun e w' => e = .returned (.string ⟨(numT g).toArray⟩) ∧ Below w.heap.size w w' := by
 have HT := hide ht
 obtain ⟨ao, cap, rfl, hcap, hrange, hh⟩ := hv
 obtain ⟨vb, voff, rfl, hlt, hc⟩ := hh h0
 have HRG := hide hrange; have HC := hide hc; have HLT := hide hlt; have HLN := hide hlen
 clear ht hh hrange hc hlt hlen
 have hmk := run_mkSP g.length (by omega)
 have HI : Hid (TxP w (w.alloc (.cells (Lib.cellsOf [] g.length) 9)) w.heap.size g 0) := ⟨heap_alloc_new w _, (Below.refl _ _).alloc (Nat.le_refl _) _⟩
 go_enter Tryz.func46, Tryz.ntmps46
 go_wp2
 clear hmk
 go_loopw [10] (fun i wr => ∃ k : Nat, k ≤ g.length ∧ i = .int .i64 k ∧ TxP w wr w.heap.size g k) (fun i _ => g.length - (intOf i).toNat)
 case atStart => exact ⟨0, Nat.zero_le _, rfl, HI.out⟩
 case round =>
  clear HI
  obtain ⟨k, hk, rfl, hinv⟩ := hrel
  have HI := hide hinv
  clear hinv
  by_cases hkl : k < g.length
  ·have a0 := (HI.out.2.cell (p := ⟨vb, voff + k, none⟩) HLT.out).trans (HC.out k hkl)
   have HST := hide (fun (W : World) (h : TxP w W w.heap.size g k) => h.store (Nat.le_refl _) hkl)
   have hrz := HRG.out k
   generalize g.getD k 0 = z at *
   have HRZ := hide hrz
   clear hrz
   go_wp2_with fail
   refine (itoaP_any wr (HT.out.below HI.out.2) z HRZ.out.1 HRZ.out.2).mono ?_
   rintro e w1 ⟨rfl, hb⟩
   have HI1 := hide (show TxP w w1 w.heap.size g k from ⟨(hb.block _ (heap_lt HI.out.1)).trans HI.out.1, HI.out.2.trans (hb.mono HI.out.2.size)⟩)
   have hll : ((g.take k).map itoS).length = k := by rw [List.length_map, List.length_take]; omega
   have hcell : w1.cell? ⟨w.heap.size, k, none⟩ = some (.string ByteArray.empty) := by
    have h := Lib.cellsOf_next (done := (g.take k).map itoS) (N := g.length) (by omega)
    rw [hll] at h
    have := World.news_of_block HI1.out.1 k (.string ByteArray.empty) (by rw [← h]; simp)
    have e : (⟨w.heap.size, 0, none⟩ : Addr).add k = ⟨w.heap.size, k, none⟩ := by unfold Addr.add; split <;> simp_all
    rwa [e] at this
   have hfr : w1.frozen? ⟨w.heap.size, k, none⟩ = false := by
    have h := HI1.out.1
    simp [World.frozen?, h]
   have HN := hide (HST.out w1 HI1.out)
   clear hb HST HI HI1 hll a0
   go_wp2
   go_roundw
   case rel => exact ⟨k + 1, by omega, by go_num, HN.out⟩
   case measure => simp [intOf]; omega
  ·obtain rfl : k = g.length := by omega
   have HJ := hide (Go.Proofs.Tryz.strings_Join w.heap.size 0 g.length (g.map itoS) ⟨#[32]⟩ wr HI.out.full (heap_lt HI.out.1) (by rw [List.length_map]; omega) (by rw [List.length_map]; exact Nat.le_refl _) (by rw [itoS_data]; show (numT g).length ≤ _; have := HLN.out; omega))
   rw [List.length_map, itoS_data] at HJ
   have HBE := hide HI.out.2
   clear HI
   go_wp2_with fail
   refine HJ.out.mono ?_
   rintro e w1 ⟨rfl, hb⟩
   have HF := hide (show Below w.heap.size w w1 from HBE.out.trans (hb.mono HBE.out.size))
   have e1 : (Lib.join (g.map Lib.itoa) (⟨#[32]⟩ : ByteArray).data.toList) = numT g := rfl
   rw [e1]
   clear hb HJ HBE e1
   go_wp2
   go_ret
   exact ⟨rfl, HF.out⟩

end Go.Proofs.YtjdnhdcaifogmaaGreatDoor
