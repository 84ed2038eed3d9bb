/- Library functions' contracts, laid at this translation: strconv.Itoa, bits.LeadingZeros32, strings.CutPrefix, the Builder's writes and its text. -/
import Derived.Shelf.Small.Bits
import Derived.Shelf.Small.Wraps
import Derived.Shelf.Strings.BuilderK
import Derived.Shelf.Strconv.Itoa3
import Derived.Test.YtmeefloajhffbaaDoorProg
import Derived.Test.YtmeefloajhffbaaDoorGroups

namespace Go.Proofs
open Go.Shelf Go.RowKit Go.Sort
def Tryd.lays171_ren : Go.Shelf.Ren := ⟨fun | 171 => 29 | 243 => 51 | 246 => 70 | 283 => 80 | 284 => 81 | 285 => 82 | 286 => 83 | 129 => 87 | 317 => 86 | 318 => 88 | 319 => 89 | 320 => 90 | 337 => 91 | 338 => 92 | n => n, fun | 3 => 3 | 9 => 9 | 2 => 2 | 4 => 4 | 171 => 113 | 0 => 0 | 53 => 71 | 37 => 60 | 5 => 5 | 173 => 116 | 212 => 122 | 51 => 69 | 20 => 20 | 213 => 123 | 46 => 73 | 232 => 125 | 233 => 126 | n => n, fun | 17 => 1 | 18 => 2 | 19 => 3 | n => n⟩
theorem Tryd.lays171 : Go.Proofs.Lays.n171 Tryd.prog Tryd.lays171_ren := {
  mixed := by kernel_rfl
  f129 := Tryd.func87.trans (congrArg some (by kernel_rfl))
  f171 := Tryd.func29.trans (congrArg some (by kernel_rfl))
  f243 := Tryd.func51.trans (congrArg some (by kernel_rfl))
  f246 := Tryd.func70.trans (congrArg some (by kernel_rfl))
  f283 := Tryd.func80.trans (congrArg some (by kernel_rfl))
  f284 := Tryd.func81.trans (congrArg some (by kernel_rfl))
  f285 := Tryd.func82.trans (congrArg some (by kernel_rfl))
  f286 := Tryd.func83.trans (congrArg some (by kernel_rfl))
  f317 := Tryd.func86.trans (congrArg some (by kernel_rfl))
  f318 := Tryd.func88.trans (congrArg some (by kernel_rfl))
  f319 := Tryd.func89.trans (congrArg some (by kernel_rfl))
  f320 := Tryd.func90.trans (congrArg some (by kernel_rfl))
  f337 := Tryd.func91.trans (congrArg some (by kernel_rfl))
  f338 := Tryd.func92.trans (congrArg some (by kernel_rfl))
  t0 := Tryd.underlying0
  a0 := Tryd.isAgg0
  z0 := Tryd.sizeOf0
  v0 := Tryd.zeroValue0
  t2 := Tryd.underlying2
  a2 := Tryd.isAgg2
  z2 := Tryd.sizeOf2
  v2 := Tryd.zeroValue2
  t3 := Tryd.underlying3
  a3 := Tryd.isAgg3
  z3 := Tryd.sizeOf3
  v3 := Tryd.zeroValue3
  t4 := Tryd.underlying4
  a4 := Tryd.isAgg4
  z4 := Tryd.sizeOf4
  v4 := Tryd.zeroValue4
  t5 := Tryd.underlying5
  a5 := Tryd.isAgg5
  z5 := Tryd.sizeOf5
  v5 := Tryd.zeroValue5
  t9 := Tryd.underlying9
  a9 := Tryd.isAgg9
  z9 := Tryd.sizeOf9
  v9 := Tryd.zeroValue9
  t20 := Tryd.underlying20
  a20 := Tryd.isAgg20
  z20 := Tryd.sizeOf20
  v20 := Tryd.zeroValue20
  t37 := Tryd.underlying60
  a37 := Tryd.isAgg60
  z37 := Tryd.sizeOf60
  v37 := Tryd.zeroValue60
  t46 := Tryd.underlying73
  a46 := Tryd.isAgg73
  z46 := Tryd.sizeOf73
  v46 := Tryd.zeroValue73
  t51 := Tryd.underlying69
  a51 := Tryd.isAgg69
  z51 := Tryd.sizeOf69
  v51 := Tryd.zeroValue69
  t53 := Tryd.underlying71
  a53 := Tryd.isAgg71
  z53 := Tryd.sizeOf71
  v53 := Tryd.zeroValue71
  t171 := Tryd.underlying113
  a171 := Tryd.isAgg113
  z171 := Tryd.sizeOf113
  v171 := Tryd.zeroValue113
  t173 := Tryd.underlying116
  a173 := Tryd.isAgg116
  z173 := Tryd.sizeOf116
  v173 := Tryd.zeroValue116
  t212 := Tryd.underlying122
  a212 := Tryd.isAgg122
  z212 := Tryd.sizeOf122
  v212 := Tryd.zeroValue122
  t213 := Tryd.underlying123
  a213 := Tryd.isAgg123
  z213 := Tryd.sizeOf123
  t232 := Tryd.underlying125
  a232 := Tryd.isAgg125
  z232 := Tryd.sizeOf125
  v232 := Tryd.zeroValue125
  t233 := Tryd.underlying126
  a233 := Tryd.isAgg126
  z233 := Tryd.sizeOf126
  v233 := Tryd.zeroValue126
  g17 := by kernel_rfl
  g18 := by kernel_rfl
  g19 := by kernel_rfl }
open Go.RowKit Go.Sort Go.Lib in
theorem Tryd.strconv_Itoa_small (i : Nat) (hi : i < 100) (w : World) :
    Calls Tryd.prog 29 #[.int .i64 i] w fun e w' => e = .returned (.string ⟨(Lib.decDigits i).toArray⟩) ∧ w' = w := Any.strconv_Itoa_small Tryd.lays171 i hi w

def Tryd.lays133_ren : Go.Shelf.Ren := ⟨fun | 133 => 61 | 128 => 77 | n => n, fun | 51 => 69 | 3 => 3 | 4 => 4 | 46 => 73 | 5 => 5 | 9 => 9 | n => n, fun | n => n⟩
theorem Tryd.lays133 : Go.Proofs.Lays.n133 Tryd.prog Tryd.lays133_ren := {
  mixed := by kernel_rfl
  f128 := Tryd.func77.trans (congrArg some (by kernel_rfl))
  f133 := Tryd.func61.trans (congrArg some (by kernel_rfl))
  t3 := Tryd.underlying3
  a3 := Tryd.isAgg3
  z3 := Tryd.sizeOf3
  v3 := Tryd.zeroValue3
  t4 := Tryd.underlying4
  a4 := Tryd.isAgg4
  z4 := Tryd.sizeOf4
  v4 := Tryd.zeroValue4
  t5 := Tryd.underlying5
  a5 := Tryd.isAgg5
  z5 := Tryd.sizeOf5
  v5 := Tryd.zeroValue5
  t9 := Tryd.underlying9
  a9 := Tryd.isAgg9
  z9 := Tryd.sizeOf9
  v9 := Tryd.zeroValue9
  t46 := Tryd.underlying73
  a46 := Tryd.isAgg73
  z46 := Tryd.sizeOf73
  v46 := Tryd.zeroValue73
  t51 := Tryd.underlying69
  a51 := Tryd.isAgg69
  z51 := Tryd.sizeOf69
  v51 := Tryd.zeroValue69 }
theorem Tryd.bits_LeadingZeros32 (x : Int) (w : World) (h0 : 0 ≤ x) (h1 : x ≤ 4294967295) :
    Calls Tryd.prog 61 #[.int .u32 x] w fun e w' => e = .returned (.int .i64 (32 - (Lib.bitLen x.toNat : Int))) ∧ w' = w := Any.bits_LeadingZeros32 Tryd.lays133 x w h0 h1
def Tryd.lays169_ren : Go.Shelf.Ren := ⟨fun | 169 => 30 | n => n, fun | 70 => 59 | 9 => 9 | 0 => 0 | 72 => 62 | 37 => 60 | 127 => 85 | 3 => 3 | 5 => 5 | n => n, fun | n => n⟩
theorem Tryd.lays169 : Go.Proofs.Lays.n169 Tryd.prog Tryd.lays169_ren := {
  mixed := by kernel_rfl
  f169 := Tryd.func30.trans (congrArg some (by kernel_rfl))
  t0 := Tryd.underlying0
  a0 := Tryd.isAgg0
  z0 := Tryd.sizeOf0
  v0 := Tryd.zeroValue0
  t3 := Tryd.underlying3
  a3 := Tryd.isAgg3
  z3 := Tryd.sizeOf3
  v3 := Tryd.zeroValue3
  t9 := Tryd.underlying9
  a9 := Tryd.isAgg9
  z9 := Tryd.sizeOf9
  v9 := Tryd.zeroValue9
  t37 := Tryd.underlying60
  a37 := Tryd.isAgg60
  z37 := Tryd.sizeOf60
  v37 := Tryd.zeroValue60
  t70 := Tryd.underlying59
  a70 := Tryd.isAgg59
  z70 := Tryd.sizeOf59
  v70 := Tryd.zeroValue59
  t72 := Tryd.underlying62
  a72 := Tryd.isAgg62
  z72 := Tryd.sizeOf62
  v72 := Tryd.zeroValue62
  t127 := Tryd.underlying85
  a127 := Tryd.isAgg85
  z127 := Tryd.sizeOf85
  v127 := Tryd.zeroValue85 }
theorem Tryd.Builder_Extra_169 : Builder.Extra Tryd.prog Tryd.lays169_ren := {
  sizeBuilder := by kernel_rfl
  liesBuilder := by kernel_rfl
  t5 := Tryd.underlying5
  a5 := Tryd.isAgg5
  z5 := Tryd.sizeOf5
  v5 := Tryd.zeroValue5
  infoByte := by kernel_rfl
  cellsByte := by kernel_rfl
  sizeByte := by kernel_rfl
  neB5 := by decide }
open Go.RowKit in
theorem Tryd.Builder_String_any_k (B b : Nat) (l : List UInt8) (w : World) (h : Lib.IsBuilderF 62 5 B b (Lib.byteCells l) w) (hBw : B ≤ w.heap.size) :
    Calls Tryd.prog 30 #[.pointer (some ⟨b, 0, none⟩)] w fun e w' => e = .returned (.string ⟨l.toArray⟩) ∧ (Lib.IsBuilderF 62 5 B b (Lib.byteCells l) w' ∧ Below B w w' ∧ Lib.OthersKept 5 (some b) w w') := Any.Builder_String_any_k Tryd.lays169 Tryd.Builder_Extra_169 B b l w h hBw
def Tryd.lays167_ren : Go.Shelf.Ren := ⟨fun | 167 => 27 | 240 => 50 | 276 => 69 | n => n, fun | 0 => 0 | 3 => 3 | 4 => 4 | 5 => 5 | 9 => 9 | 20 => 20 | 37 => 60 | 70 => 59 | 72 => 62 | 75 => 28 | 80 => 67 | 164 => 101 | n => n, fun | n => n⟩
theorem Tryd.lays167 : Go.Proofs.Lays.n167 Tryd.prog Tryd.lays167_ren := {
  mixed := by kernel_rfl
  f167 := Tryd.func27.trans (congrArg some (by kernel_rfl))
  f240 := Tryd.func50.trans (congrArg some (by kernel_rfl))
  f276 := Tryd.func69.trans (congrArg some (by kernel_rfl))
  t0 := Tryd.underlying0
  a0 := Tryd.isAgg0
  z0 := Tryd.sizeOf0
  v0 := Tryd.zeroValue0
  t4 := Tryd.underlying4
  a4 := Tryd.isAgg4
  z4 := Tryd.sizeOf4
  v4 := Tryd.zeroValue4
  t5 := Tryd.underlying5
  a5 := Tryd.isAgg5
  z5 := Tryd.sizeOf5
  v5 := Tryd.zeroValue5
  t9 := Tryd.underlying9
  a9 := Tryd.isAgg9
  z9 := Tryd.sizeOf9
  v9 := Tryd.zeroValue9
  t20 := Tryd.underlying20
  a20 := Tryd.isAgg20
  z20 := Tryd.sizeOf20
  v20 := Tryd.zeroValue20
  t37 := Tryd.underlying60
  a37 := Tryd.isAgg60
  z37 := Tryd.sizeOf60
  v37 := Tryd.zeroValue60
  t70 := Tryd.underlying59
  a70 := Tryd.isAgg59
  z70 := Tryd.sizeOf59
  v70 := Tryd.zeroValue59
  t72 := Tryd.underlying62
  a72 := Tryd.isAgg62
  z72 := Tryd.sizeOf62
  v72 := Tryd.zeroValue62
  t75 := Tryd.underlying28
  a75 := Tryd.isAgg28
  z75 := Tryd.sizeOf28
  v75 := Tryd.zeroValue28
  t164 := Tryd.underlying101
  a164 := Tryd.isAgg101
  z164 := Tryd.sizeOf101
  v164 := Tryd.zeroValue101 }
theorem Tryd.Builder_Extra_167 : Builder.Extra Tryd.prog Tryd.lays167_ren := {
  sizeBuilder := by kernel_rfl
  liesBuilder := by kernel_rfl
  t5 := Tryd.underlying5
  a5 := Tryd.isAgg5
  z5 := Tryd.sizeOf5
  v5 := Tryd.zeroValue5
  infoByte := by kernel_rfl
  cellsByte := by kernel_rfl
  sizeByte := by kernel_rfl
  neB5 := by decide }
open Go.RowKit in
theorem Tryd.Builder_WriteByte_k (B b : Nat) (bs : List Value) (c : Int) (w : World) (h : Lib.IsBuilderF 62 5 B b bs w) (hlen : bs.length + 1 ≤ 140737488355328) (hBw : B ≤ w.heap.size) :
    Calls Tryd.prog 27 #[.pointer (some ⟨b, 0, none⟩), .int .u8 c] w fun e w' => e = .returned .nilIface ∧ (Lib.BuilderAtF 62 5 B b (.pointer (some ⟨b, 0, none⟩)) (bs ++ [.int .u8 c]) w' ∧ Below B w w' ∧ Lib.OthersKept 5 (some b) w w') := Any.Builder_WriteByte_k Tryd.lays167 Tryd.Builder_Extra_167 B b bs c w h hlen hBw
def Tryd.lays166_ren : Go.Shelf.Ren := ⟨fun | 166 => 28 | 240 => 50 | 276 => 69 | n => n, fun | 0 => 0 | 3 => 3 | 4 => 4 | 5 => 5 | 9 => 9 | 20 => 20 | 37 => 60 | 70 => 59 | 72 => 62 | 75 => 28 | 80 => 67 | 164 => 101 | n => n, fun | n => n⟩
theorem Tryd.lays166 : Go.Proofs.Lays.n166 Tryd.prog Tryd.lays166_ren := {
  mixed := by kernel_rfl
  f166 := Tryd.func28.trans (congrArg some (by kernel_rfl))
  f240 := Tryd.func50.trans (congrArg some (by kernel_rfl))
  f276 := Tryd.func69.trans (congrArg some (by kernel_rfl))
  t0 := Tryd.underlying0
  a0 := Tryd.isAgg0
  z0 := Tryd.sizeOf0
  v0 := Tryd.zeroValue0
  t3 := Tryd.underlying3
  a3 := Tryd.isAgg3
  z3 := Tryd.sizeOf3
  v3 := Tryd.zeroValue3
  t4 := Tryd.underlying4
  a4 := Tryd.isAgg4
  z4 := Tryd.sizeOf4
  v4 := Tryd.zeroValue4
  t9 := Tryd.underlying9
  a9 := Tryd.isAgg9
  z9 := Tryd.sizeOf9
  v9 := Tryd.zeroValue9
  t20 := Tryd.underlying20
  a20 := Tryd.isAgg20
  z20 := Tryd.sizeOf20
  v20 := Tryd.zeroValue20
  t37 := Tryd.underlying60
  a37 := Tryd.isAgg60
  z37 := Tryd.sizeOf60
  v37 := Tryd.zeroValue60
  t70 := Tryd.underlying59
  a70 := Tryd.isAgg59
  z70 := Tryd.sizeOf59
  v70 := Tryd.zeroValue59
  t72 := Tryd.underlying62
  a72 := Tryd.isAgg62
  z72 := Tryd.sizeOf62
  v72 := Tryd.zeroValue62
  t75 := Tryd.underlying28
  a75 := Tryd.isAgg28
  z75 := Tryd.sizeOf28
  v75 := Tryd.zeroValue28
  t164 := Tryd.underlying101
  a164 := Tryd.isAgg101
  z164 := Tryd.sizeOf101
  v164 := Tryd.zeroValue101 }
theorem Tryd.Builder_Extra_166 : Builder.Extra Tryd.prog Tryd.lays166_ren := {
  sizeBuilder := by kernel_rfl
  liesBuilder := by kernel_rfl
  t5 := Tryd.underlying5
  a5 := Tryd.isAgg5
  z5 := Tryd.sizeOf5
  v5 := Tryd.zeroValue5
  infoByte := by kernel_rfl
  cellsByte := by kernel_rfl
  sizeByte := by kernel_rfl
  neB5 := by decide }
open Go.RowKit in
theorem Tryd.Builder_WriteString_k (B b : Nat) (bs : List Value) (s : ByteArray) (w : World) (h : Lib.IsBuilderF 62 5 B b bs w) (hlen : bs.length + s.size ≤ 140737488355328) (hBw : B ≤ w.heap.size) :
    Calls Tryd.prog 28 #[.pointer (some ⟨b, 0, none⟩), .string s] w fun e w' => e = .returned (.tuple #[.int .i64 s.size, .nilIface]) ∧ (Lib.BuilderAtF 62 5 B b (.pointer (some ⟨b, 0, none⟩)) (bs ++ Lib.strCells s) w' ∧ Below B w w' ∧ Lib.OthersKept 5 (some b) w w') := Any.Builder_WriteString_k Tryd.lays166 Tryd.Builder_Extra_166 B b bs s w h hlen hBw
end Go.Proofs

/- Long division: the arithmetic. -/
namespace Go.Proofs.YtmeefloajhffbaaDoor
open Go.RowKit Limbs

theorem two_cast (L : Nat) : ((2 ^ L : Nat) : Int) = (2 : Int) ^ L := by norm_cast

set_option maxRecDepth 10000 in
theorem lz_any (x : Int) (h0 : 1 ≤ x) (h1 : x < 4294967296) : ∃ (s : Nat) (P Q : Int), Pow s P Q ∧ x * P < 4294967296 ∧ ∀ w, Calls Tryd.prog 61 #[.int .u32 x] w fun e w' => e = .returned (.int .i64 (s : Int)) ∧ w' = w := by
  obtain ⟨k, rfl⟩ := Int.eq_ofNat_of_zero_le (show 0 ≤ x by omega)
  obtain ⟨b1, -, b3⟩ := Lib.bitLenAux_bounds 64 k (by omega) (by omega)
  have b4 : Lib.bitLen k ≤ 32 := Lib.bitLen_le k 32 (by omega) (by omega)
  change 1 ≤ Lib.bitLen k at b1
  change k < 2 ^ Lib.bitLen k at b3
  have hc := fun w => Go.Proofs.Tryd.bits_LeadingZeros32 (k : Int) w (by omega) (by omega)
  rw [Int.toNat_natCast] at hc
  generalize Lib.bitLen k = L at *
  obtain ⟨P, Q, hP⟩ := pow_any (32 - L) (by omega)
  refine ⟨32 - L, P, Q, hP, ?_, fun w => ?_⟩
  · have e : ((2 ^ L : Nat) : Int) * P = 4294967296 := by
      have e0 := two_cast L
      rw [← hP.eq, e0, ← Int.pow_add, show L + (32 - L) = 32 by omega]; decide
    rw [← e]
    have hk : (k : Int) < ((2 ^ L : Nat) : Int) := Int.ofNat_lt.2 b3
    exact Int.mul_lt_mul_of_pos_right hk (by have := hP.pos; omega)
  · have := hc w
    rwa [show (32 : Int) - (L : Int) = ((32 - L : Nat) : Int) by omega] at this

theorem seg_le {zs : List Int} (h : LB zs) (off k : Nat) (hk : off + k ≤ zs.length) : seg zs off k ≤ lv (zs.drop off) := by
  have e := lv_split (zs.drop off) k (by rw [List.length_drop]; omega)
  have n0 := lv_nonneg (LB_drop (LB_drop h off) k)
  have : 0 ≤ bp k * lv ((zs.drop off).drop k) := Int.mul_nonneg (by have := bp_pos k; omega) n0
  unfold seg
  omega

theorem long_pre {zs : List Int} {at_ n : Nat} {D : Int} (hz : LB zs) (hn : at_ + n + 1 ≤ zs.length) (hlow : lv (zs.drop (at_ + 1)) < D) : seg zs at_ (n + 1) < D * 4294967296 := by
  have h1 := seg_le hz at_ (n + 1) (by omega)
  rw [drop_cons_getD zs at_ (by omega)] at h1
  simp only [lv] at h1
  have h2 := hz at_
  omega

theorem high_zero {zs : List Int} {k n : Nat} {D : Int} (hz : LB zs) (hn : k + n ≤ zs.length) (hlow : lv (zs.drop k) < D) (hD : D ≤ bp n) : lv (zs.drop (k + n)) = 0 := by
  have e := lv_split (zs.drop k) n (by rw [List.length_drop]; omega)
  rw [List.drop_drop] at e
  have n0 := lv_nonneg (LB_drop hz (k + n))
  have t0 := lv_take_nonneg (LB_drop hz k) n
  rcases Int.lt_or_le (lv (zs.drop (k + n))) 1 with h | h
  · omega
  · have := bp_pos n
    have : bp n * 1 ≤ bp n * lv (zs.drop (k + n)) := Int.mul_le_mul_of_nonneg_left h (by omega)
    omega

theorem long_step {zs ys qs : List Int} {k n : Nat} {D q VAL : Int} (hz : LB zs) (hn : k + n + 1 ≤ zs.length) (hq : k < qs.length)
    (hval : VAL = D * (bp (k + 1) * lv (qs.drop (k + 1))) + lv zs) (hlow : lv (zs.drop (k + 1)) < D) (hD : D ≤ bp n)
    (ho : Only zs ys k (n + 1)) (hst : seg zs k (n + 1) = q * D + seg ys k (n + 1)) (hlt : seg ys k (n + 1) < D) :
    VAL = D * (bp k * lv ((qs.set k q).drop k)) + lv ys ∧ lv (ys.drop k) < D := by
  have hZ := high_zero hz (by omega) hlow hD
  have e1 := lv_split zs k (by omega)
  have e2 := lv_split ys k (by rw [ho.len]; omega)
  have f1 := lv_split (zs.drop k) (n + 1) (by rw [List.length_drop]; omega)
  have f2 := lv_split (ys.drop k) (n + 1) (by rw [List.length_drop, ho.len]; omega)
  rw [List.drop_drop] at f1 f2
  rw [ho.high] at f2
  rw [show k + (n + 1) = k + 1 + n by omega, hZ, Int.mul_zero, Int.add_zero] at f1 f2
  rw [ho.low] at e2
  change lv (zs.drop k) = seg zs k (n + 1) at f1
  change lv (ys.drop k) = seg ys k (n + 1) at f2
  refine ⟨?_, by omega⟩
  rw [drop_cons_getD (qs.set k q) k (by rw [List.length_set]; exact hq), drop_set_lt _ _ _ _ (show k < k + 1 by omega), getD_set _ _ _ _ hq, if_pos rfl]
  simp only [lv]
  rw [f1, hst] at e1
  rw [f2] at e2
  rw [hval, e1, e2, Int.mul_add (bp k), Int.mul_add (bp k), Int.mul_add D]
  have g1 : D * (bp (k + 1) * lv (qs.drop (k + 1))) = D * (bp k * (4294967296 * lv (qs.drop (k + 1)))) := by simp only [bp]; ac_rfl
  have g2 : D * (bp k * q) = bp k * (q * D) := by ac_rfl
  rw [g1, g2]
  omega

theorem long_start {zs a b : List Int} {M : Nat} {P : Int} (hz : LB zs) (ha : LB a) (hb : LB b) (nb : Nrm b) (h0 : 0 < b.length) (hM : M + b.length = a.length + 1) (hl : zs.length = a.length + 1) (hv : lv zs = lv a * P) (hP : 1 ≤ P) : lv (zs.drop M) < lv b * P := by
  have e := lv_split zs M (by omega)
  have t0 := lv_take_nonneg hz M
  have h1 := lv_lt ha
  have h2 := nrm_low hb nb h0
  have hp := bp_pos M
  have h3 : bp (b.length - 1) * bp M = bp a.length := by rw [← bp_add]; congr 1; omega
  have h4 : bp (b.length - 1) * bp M ≤ lv b * bp M := Int.mul_le_mul_of_nonneg_right h2 (by omega)
  have h5 : lv a * P < lv b * bp M * P := Int.mul_lt_mul_of_pos_right (by omega) (by omega)
  have h6 : bp M * lv (zs.drop M) < bp M * (lv b * P) := by
    have : bp M * (lv b * P) = lv b * bp M * P := by ac_rfl
    omega
  exact Int.lt_of_mul_lt_mul_left h6 (by omega)

theorem long_end {A V q Z P : Int} (hP : 1 ≤ P) (h : A * P = V * P * q + Z) (h0 : 0 ≤ Z) (h1 : Z < V * P) : A = V * q + Z / P ∧ 0 ≤ Z / P ∧ Z / P < V := by
  have e : Z = (A - V * q) * P := by
    have : V * P * q = V * q * P := by ac_rfl
    rw [Int.sub_mul]; omega
  have d : Z / P = A - V * q := by rw [e]; exact Int.mul_ediv_cancel _ (by omega)
  refine ⟨by omega, Int.ediv_nonneg h0 (by omega), ?_⟩
  rw [Int.ediv_lt_iff_lt_mul (by omega : 0 < P)]
  exact h1

theorem div_len {d b : List Int} {P : Int} (hd : LB d) (nd : Nrm d) (hb : LB b) (nb : Nrm b) (h0 : 0 < b.length) (hP : 1 ≤ P) (hv : lv d = lv b * P) (hx : b.getD (b.length - 1) 0 * P < 4294967296) (hPP : ∃ Q, P * Q = 4294967296) :
    d.length = b.length ∧ lv d < bp b.length := by
  have h1 := nrm_low hb nb h0
  have e := lv_split b (b.length - 1) (by omega)
  rw [drop_cons_getD b (b.length - 1) (by omega), List.drop_eq_nil_of_le (by omega)] at e
  simp only [lv, Int.mul_zero, Int.add_zero] at e
  have t1 := lv_take_lt hb (b.length - 1)
  have hp := bp_pos (b.length - 1)
  obtain ⟨Q, hQ⟩ := hPP
  have hx2 : (b.getD (b.length - 1) 0 + 1) * P ≤ 4294967296 := by
    rw [← hQ, Int.mul_comm P Q] at hx ⊢
    have := Int.lt_of_mul_lt_mul_right hx (by omega)
    exact Int.mul_le_mul_of_nonneg_right (by omega) (by omega)
  have b1 : bp b.length = bp (b.length - 1) * 4294967296 := by
    conv => lhs; rw [← Nat.sub_add_cancel (show 1 ≤ b.length by omega)]
    simp only [bp]; rw [Int.mul_comm]
  have h2 : lv b * P < bp b.length := by
    have g1 : lv b * P < bp (b.length - 1) * (b.getD (b.length - 1) 0 + 1) * P := Int.mul_lt_mul_of_pos_right (by rw [Int.mul_add, Int.mul_one]; omega) (by omega)
    have g2 : bp (b.length - 1) * ((b.getD (b.length - 1) 0 + 1) * P) ≤ bp (b.length - 1) * 4294967296 := Int.mul_le_mul_of_nonneg_left hx2 (by omega)
    rw [← Int.mul_assoc] at g2
    omega
  have h3 : lv b * 1 ≤ lv b * P := Int.mul_le_mul_of_nonneg_left hP (by omega)
  refine ⟨?_, by omega⟩
  have l1 := length_le_of_lt hd nd (n := b.length) (by omega)
  rcases Nat.lt_or_ge d.length b.length with h | h
  · have l2 := lv_lt hd
    have l3 : bp d.length ≤ bp (b.length - 1) := bp_mono (by omega)
    omega
  · omega

end Go.Proofs.YtmeefloajhffbaaDoor

/- Limbs divided by limbs: where there is nothing to do, and by one limb. -/
namespace Go.Proofs.YtmeefloajhffbaaDoor
open Go.RowKit Limbs

/-- How often, and what is left, without noughts behind. -/
def DivPost (w : World) (a b : List Int) (e : Ending) (w' : World) : Prop :=
  ∃ v1 v2 qs rs, e = .returned (.tuple #[v1, v2]) ∧ Lim w' v1 qs ∧ Lim w' v2 rs ∧ Nrm qs ∧ Nrm rs ∧ lv a = lv b * lv qs + lv rs ∧ lv rs < lv b ∧ qs.length ≤ a.length ∧ rs.length ≤ b.length ∧ Below w.heap.size w w'

theorem Lim.nil (w : World) : Lim w (.slice none 0 0) [] := ⟨none, 0, rfl, Nat.le_refl _, by simp, LB_nil, fun h => absurd h (by simp)⟩

theorem Nrm.nil : Nrm [] := .inl rfl

theorem below_grown {B : Nat} {w W W' : World} {g : Nat} (h : Below B w W) (hg : W.grownBy W' (some g)) (hB : B ≤ g) (hs : B ≤ W.heap.size) : Below B w W' where
  os := hg.os.trans h.os
  tape := hg.tape.trans h.tape
  output := hg.output.trans h.output
  size := Nat.le_trans h.size hg.size
  block := fun j hj => (hg.block j (by omega) (by simp; omega)).trans (h.block j hj)

set_option maxRecDepth 100000 in
set_option maxHeartbeats 800000 in
theorem divLimbs_less (w : World) (va vb : Value) (a b : List Int) (ha : Lim w va a) (hb : Lim w vb b) (na : Nrm a) (nb : Nrm b) (hlt : lv a < lv b) :
    Calls Tryd.prog 43 #[va, vb] w fun e w' => DivPost w a b e w' := by
  have HA := hide ha; have HB := hide hb
  obtain ⟨ao, acap, rfl, hacap, halen, halb, -⟩ := ha
  obtain ⟨bo, bcap, rfl, hbcap, hblen, hblb, -⟩ := hb
  have hc := cmpI_lt hlt
  have HF := hide (show lv a = lv b * lv [] + lv a by simp [lv])
  have HL := hide (show a.length ≤ b.length by
    by_cases h : b.length < a.length
    · have := lv_lt_of_length hblb halb na h; omega
    · omega)
  go_enter Tryd.func43, Tryd.ntmps43
  go_wp2_with fail
  refine (compareLimbs_any w _ _ a b HA.out HB.out na nb).mono ?_
  rintro e w1 ⟨rfl, hb1⟩
  rw [hc]
  go_wp2_with fail
  refine (freshLimbs_any w1 _ a (HA.out.below hb1 (Nat.le_refl _))).mono ?_
  rintro e w2 ⟨rfl, hr2, hb2⟩
  go_wp2
  go_ret2
  exact ⟨_, _, [], a, rfl, Lim.nil _, hr2.lim _ (Nat.le_refl _) halen, Nrm.nil, na, HF.out, hlt, by simp, HL.out, hb1.trans (hb2.mono hb1.size)⟩

theorem row_one (w : World) (r : Int) (hr : 0 ≤ r ∧ r < 4294967296) : Row (w.alloc (.cells #[.int .u32 r] 69)) w.heap.size [r] := by
  refine ⟨by simp, LB_cons hr LB_nil, fun j hj => ?_⟩
  obtain rfl : j = 0 := by simpa using hj
  exact ⟨by rw [World.cell?_alloc_new]; simp, World.frozen?_alloc_new _ _ _ _⟩

set_option maxRecDepth 100000 in
set_option maxHeartbeats 800000 in
theorem divLimbs_one (w : World) (va vb : Value) (a b : List Int) (ha : Lim w va a) (hb : Lim w vb b) (na : Nrm a) (nb : Nrm b) (hge : lv b ≤ lv a) (h1 : b.length = 1) :
    Calls Tryd.prog 43 #[va, vb] w fun e w' => DivPost w a b e w' := by
  have HA := hide ha; have HB := hide hb
  obtain ⟨ao, acap, rfl, hacap, halen, halb, -⟩ := ha
  obtain ⟨bo, bcap, rfl, hbcap, hblen, hblb, hbc⟩ := hb
  obtain ⟨bb, boff, rfl, hbb, hbc⟩ := hbc (by omega)
  obtain ⟨y, rfl⟩ : ∃ y, b = [y] := by
    match b, h1 with
    | [y], _ => exact ⟨y, rfl⟩
  have hb0 := hbc 0 (by simp)
  have hy : 0 < y ∧ y < 4294967296 := by
    have h2 := hblb 0
    have h3 : y ≠ 0 := by rcases nb with h | h <;> simp at h; exact h
    simp at h2
    omega
  simp only [List.getD_cons_zero, Nat.add_zero] at hb0
  clear hbc
  have hcm : ¬ cmpI (lv a) (lv [y]) < 0 := by
    by_cases h : lv [y] < lv a
    · rw [cmpI_gt h]; decide
    · rw [cmpI_eq (by omega)]; decide
  go_enter Tryd.func43, Tryd.ntmps43
  go_wp2_with fail
  refine (compareLimbs_any w _ _ a [y] HA.out HB.out na nb).mono ?_
  rintro e w1 ⟨rfl, hb1⟩
  generalize cmpI (lv a) (lv [y]) = c at *
  go_wp2_with fail
  refine (freshLimbs_any w1 _ a (HA.out.below hb1 (Nat.le_refl _))).mono ?_
  rintro e w2 ⟨rfl, hr2, hb2⟩
  have hB2 := hb1.trans (hb2.mono hb1.size)
  have hcb : w2.cell? ⟨bb, boff, none⟩ = some (.int .u32 y) := (hB2.cell (p := ⟨bb, boff, none⟩) hbb).trans hb0
  go_wp2_with fail
  refine (divByLimb_any w2 w1.heap.size a.length a y hr2 halen hy.1 hy.2).mono ?_
  rintro e w3 ⟨r, qs, rfl, hr0, hr1, hql, hrow, hgr, hval⟩
  have hB3 := below_grown hB2 hgr hb1.size hB2.size
  have HV := hide hval
  clear hval hgr hr2 hcb
  go_wp2_with fail
  refine (trim_at w3 _ _ qs a.length hql (by have := hrow.lim a.length (by omega) (by omega); rwa [hql] at this)).mono ?_
  rintro e w4 ⟨m, hm, rfl, hlm, hnm, rfl⟩
  have HLM := hide hlm
  clear hlm
  have hone := row_one w4 r ⟨hr0, by omega⟩
  go_wp2_with fail
  refine (trim_at _ _ _ [r] 1 rfl (hone.lim 1 (by simp) (by simp))).mono ?_
  rintro e w5 ⟨k, hk, rfl, hlk, hnk, rfl⟩
  have HLK := hide hlk
  clear hlk
  have hq' : Lim w4 (.slice (some ⟨w1.heap.size, 0, none⟩) m a.length) (qs.take m) := by
    have := (hrow.lim a.length (by omega) (by omega)).take m hm
    exact this
  have hr' := (hone.lim 1 (by simp) (by simp)).take k hk
  have hba := (Below.refl w4.heap.size w4).alloc (Nat.le_refl _) (.cells #[.int .u32 r] 69)
  have hA : lv a = lv [y] * lv (qs.take m) + lv ([r].take k) := by rw [HLM.out, HLK.out, HV.out]; simp [lv]
  have hR : lv ([r].take k) < lv [y] := by rw [HLK.out]; simpa [lv] using hr1
  have HF := hide (show DivPost w a [y] (.returned (.tuple #[.slice (some ⟨w1.heap.size, 0, none⟩) m a.length, .slice (some ⟨w4.heap.size, 0, none⟩) k 1])) (w4.alloc (.cells #[.int .u32 r] 69)) from
    ⟨_, _, _, _, rfl, hq'.below hba (Nat.le_refl _), hr', hnm, hnk, hA, hR, by rw [List.length_take]; omega, by rw [List.length_take]; simp; omega, hB3.trans (hba.mono hB3.size)⟩)
  clear hq' hr' hba hA hR hone hrow
  go_wp2
  go_ret2
  exact HF.out

end Go.Proofs.YtmeefloajhffbaaDoor
