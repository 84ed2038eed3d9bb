/- Texts of catalogs, cut up and read again: without memory. -/
import Derived.Test.YtnhbfehfipafoaaGreatDoorJoins
import Derived.Lib.Atoi
import Derived.Lib.IndexMore
import Derived.Shelf.Strings.Cut
import Derived.Shelf.Strings.Split
import Derived.Shelf.Strconv.Atoi
import Derived.Test.YtnhbfehfipafoaaGreatDoorProg
import Derived.Test.YtnhbfehfipafoaaGreatDoorBpD
import Derived.Lib.SmallJoins

namespace Go.Proofs.YtnhbfehfipafoaaGreatDoor
open Go.RowKit

theorem index_hit2 (c d : UInt8) : ∀ (x r : List UInt8), c ∉ x → Lib.index (x ++ c :: d :: r) [c, d] = x.length
 | [], r, _ => by simp [Lib.index, List.isPrefixOf]
 | b :: x, r, h => by
  have hb : (c == b) = false := by rw [beq_eq_false_iff_ne]; exact fun e => h (by rw [e]; exact List.mem_cons_self)
  have ih := index_hit2 c d x r fun h' => h (List.mem_cons_of_mem _ h')
  rw [List.cons_append, Lib.index, ih]
  simp only [List.isPrefixOf, hb, Bool.false_and, Bool.false_eq_true, if_false]
  rw [if_neg (by rw [beq_iff_eq]; omega)]
  simp

theorem index_miss2 (c d : UInt8) : ∀ x : List UInt8, c ∉ x → Lib.index x [c, d] = -1
 | [], _ => by simp [Lib.index]
 | b :: x, h => by
  have hb : (c == b) = false := by rw [beq_eq_false_iff_ne]; exact fun e => h (by rw [e]; exact List.mem_cons_self)
  have ih := index_miss2 c d x fun h' => h (List.mem_cons_of_mem _ h')
  rw [Lib.index, ih]
  simp [List.isPrefixOf, hb]

theorem cut_hit (c : UInt8) (x r : List UInt8) (h : c ∉ x) : Lib.cut (x ++ c :: r) [c] = (x, r, true) := by
 unfold Lib.cut
 rw [index_hit c x r h, if_pos (by omega), Int.toNat_natCast]
 refine Prod.ext (by simp) (Prod.ext ?_ rfl)
 show List.drop (x.length + 1) (x ++ c :: r) = r
 rw [List.drop_append, List.drop_eq_nil_of_le (by omega)]
 simp

theorem cut_hit2 (c d : UInt8) (x r : List UInt8) (h : c ∉ x) : Lib.cut (x ++ c :: d :: r) [c, d] = (x, r, true) := by
 unfold Lib.cut
 rw [index_hit2 c d x r h, if_pos (by omega), Int.toNat_natCast]
 refine Prod.ext (by simp) (Prod.ext ?_ rfl)
 show List.drop (x.length + 2) (x ++ c :: d :: r) = r
 rw [List.drop_append, List.drop_eq_nil_of_le (by omega)]
 simp

theorem cut_miss2 (c d : UInt8) (x : List UInt8) (h : c ∉ x) : Lib.cut x [c, d] = (x, [], false) := by
 unfold Lib.cut
 rw [index_miss2 c d x h, if_neg (by decide)]

def numC (c : UInt8) : Prop := c = 45 ∨ (48 ≤ c.toNat ∧ c.toNat ≤ 57)

theorem dec_chars (u : Nat) : ∀ c ∈ Lib.decDigits u, 48 ≤ c.toNat ∧ c.toNat ≤ 57 := by
 induction u using Nat.strongRecOn with
 | ind u ih =>
  intro c hc
  rw [Lib.decDigits] at hc
  split at hc
  ·rw [List.mem_singleton] at hc
   subst hc
   rw [UInt8.toNat_ofNat']
   omega
  ·rcases List.mem_append.1 hc with h | h
   ·exact ih (u / 10) (by omega) c h
   ·rw [List.mem_singleton] at h
    subst h
    rw [UInt8.toNat_ofNat']
    omega

theorem ito_chars (z : Int) : ∀ c ∈ Lib.itoa z, numC c := by
 intro c hc
 unfold Lib.itoa at hc
 split at hc
 ·rcases List.mem_cons.1 hc with h | h
  ·exact .inl h
  ·exact .inr (dec_chars _ c h)
 ·exact .inr (dec_chars _ c hc)

theorem numC_not {c : UInt8} (h : numC c) : c ≠ 32 ∧ c ≠ 59 ∧ c ≠ 10 := by
 rcases h with rfl | h
 ·decide
 ·exact ⟨fun e => by subst e; exact absurd h (by decide), fun e => by subst e; exact absurd h (by decide), fun e => by subst e; exact absurd h (by decide)⟩

theorem decFrom_snoc (l : List UInt8) : ∀ (acc n d : Nat) (b : UInt8), Lib.decFrom acc l = some n → Lib.digitVal b = some d → Lib.decFrom acc (l ++ [b]) = some (n * 10 + d) := by
 induction l with
 | nil =>
  intro acc n d b h hb
  simp only [Lib.decFrom, Option.some.injEq] at h
  subst h
  simp [Lib.decFrom, hb]
 | cons a t ih =>
  intro acc n d b h hb
  rw [List.cons_append]
  unfold Lib.decFrom at h ⊢
  cases ha : Lib.digitVal a with
  | none => rw [ha] at h; cases h
  | some e =>
   rw [ha] at h
   exact ih _ _ _ _ h hb

theorem digit_val (d : Nat) (h : d < 10) : Lib.digitVal (UInt8.ofNat (48 + d)) = some d := by
 unfold Lib.digitVal
 rw [UInt8.toNat_ofNat', if_pos (by omega)]
 congr 1
 omega

theorem dec_read (u : Nat) : Lib.decFrom 0 (Lib.decDigits u) = some u := by
 induction u using Nat.strongRecOn with
 | ind u ih =>
  rw [Lib.decDigits]
  split
  ·rename_i h
   have := decFrom_snoc [] 0 0 u (UInt8.ofNat (48 + u)) rfl (digit_val u h)
   simpa using this
  ·rename_i h
   have := decFrom_snoc (Lib.decDigits (u / 10)) 0 (u / 10) (u % 10) (UInt8.ofNat (48 + u % 10)) (ih (u / 10) (by omega)) (digit_val (u % 10) (by omega))
   rw [this]
   congr 1
   omega

theorem dec_ne (u : Nat) : Lib.decDigits u ≠ [] := by
 rw [Lib.decDigits]
 split
 ·simp
 ·simp

theorem decNat_read (u : Nat) : Lib.decNat (Lib.decDigits u) = some u := by
 unfold Lib.decNat
 rw [if_neg (by simpa using dec_ne u)]
 exact dec_read u

theorem atoi_itoa (z : Int) : Lib.atoi (Lib.itoa z) = some z := by
 unfold Lib.itoa
 split
 ·rename_i h
  simp only [Lib.atoi, beq_self_eq_true, if_true, decNat_read, Option.map_some]
  congr 1
  omega
 ·rename_i h
  have hc := dec_chars z.toNat
  have hr := decNat_read z.toNat
  cases hd : Lib.decDigits z.toNat with
  | nil => exact absurd hd (dec_ne _)
  | cons b r =>
   rw [hd] at hc hr
   have hb := hc b (by simp)
   have h45 : (b == 45) = false := by rw [beq_eq_false_iff_ne]; intro e; subst e; exact absurd hb (by decide)
   have h43 : (b == 43) = false := by rw [beq_eq_false_iff_ne]; intro e; subst e; exact absurd hb (by decide)
   simp only [Lib.atoi, h45, h43, hr, Bool.false_eq_true, if_false, Option.map_some]
   congr 1
   omega

theorem join_chars (c : UInt8) (hc : c ≠ 32) : ∀ xs : List (List UInt8), (∀ x ∈ xs, c ∉ x) → c ∉ Lib.join xs [32]
 | [], _ => by simp [Lib.join]
 | [x], h => by rw [Lib.join_one]; exact h x (by simp)
 | x :: y :: r, h => by
  rw [join_two, List.mem_append, List.mem_cons]
  have h1 := h x (by simp)
  have h2 := join_chars c hc (y :: r) (fun z hz => h z (List.mem_cons_of_mem _ hz))
  simp only [h1, hc, h2, or_self, not_false_eq_true]

theorem numT_not (c : UInt8) (hc : c = 59 ∨ c = 10) (g : List Int) : c ∉ numT g := by
 unfold numT
 refine join_chars c (by rcases hc with rfl | rfl <;> decide) _ (fun x hx h => ?_)
 obtain ⟨z, -, rfl⟩ := List.mem_map.1 hx
 have := numC_not (ito_chars z c h)
 rcases hc with rfl | rfl
 ·exact this.2.1 rfl
 ·exact this.2.2 rfl

theorem name_not (s : ByteArray) (h : nmOk s = true) (c : UInt8) (hc : c.toNat < 48) : c ∉ s.data.toList := fun hm => by
 obtain ⟨-, -, h3⟩ := of_decide_eq_true h
 obtain ⟨i, hi, e⟩ := List.mem_iff_getElem.1 hm
 have hi' : i < s.size := by simpa using hi
 have h4 := h3 i hi'
 have hb : byt s i = (c.toNat : Int) := by
  unfold byt
  rw [dif_pos hi']
  have : s[i]'hi' = c := by rw [← e]; rfl
  rw [this]
 omega

end Go.Proofs.YtnhbfehfipafoaaGreatDoor

/- strings.Cut, SplitN, strconv.Atoi, laid at this translation. -/
namespace Go.Proofs
open Go.Shelf Go.RowKit
def Tryz.lays145_ren : Go.Shelf.Ren := ⟨fun | 145 => 87 | 220 => 110 | 219 => 131 | 217 => 143 | 225 => 144 | 224 => 145 | 267 => 146 | 266 => 156 | 314 => 157 | n => n, fun | 9 => 9 | 4 => 4 | 59 => 152 | 3 => 3 | 5 => 5 | 46 => 184 | 146 => 216 | 51 => 89 | n => n, fun | 1 => 0 | n => n⟩
theorem Tryz.lays145 : Go.Proofs.Lays.n145 Tryz.prog Tryz.lays145_ren := {
 mixed := by kernel_rfl
 f145 := Tryz.func87.trans (congrArg some (by kernel_rfl))
 f217 := Tryz.func143.trans (congrArg some (by kernel_rfl))
 f219 := Tryz.func131.trans (congrArg some (by kernel_rfl))
 f220 := Tryz.func110.trans (congrArg some (by kernel_rfl))
 f224 := Tryz.func145.trans (congrArg some (by kernel_rfl))
 f225 := Tryz.func144.trans (congrArg some (by kernel_rfl))
 f266 := Tryz.func156.trans (congrArg some (by kernel_rfl))
 f267 := Tryz.func146.trans (congrArg some (by kernel_rfl))
 f314 := Tryz.func157.trans (congrArg some (by kernel_rfl))
 t3 := Tryz.underlying3
 a3 := Tryz.isAgg3
 z3 := Tryz.sizeOf3
 v3 := Tryz.zeroValue3
 t4 := Tryz.underlying4
 a4 := Tryz.isAgg4
 z4 := Tryz.sizeOf4
 v4 := Tryz.zeroValue4
 t5 := Tryz.underlying5
 a5 := Tryz.isAgg5
 z5 := Tryz.sizeOf5
 v5 := Tryz.zeroValue5
 t9 := Tryz.underlying9
 a9 := Tryz.isAgg9
 z9 := Tryz.sizeOf9
 v9 := Tryz.zeroValue9
 t46 := Tryz.underlying184
 a46 := Tryz.isAgg184
 z46 := Tryz.sizeOf184
 v46 := Tryz.zeroValue184
 t51 := Tryz.underlying89
 a51 := Tryz.isAgg89
 z51 := Tryz.sizeOf89
 v51 := Tryz.zeroValue89
 t59 := Tryz.underlying152
 a59 := Tryz.isAgg152
 z59 := Tryz.sizeOf152
 v59 := Tryz.zeroValue152
 t146 := Tryz.underlying216
 a146 := Tryz.isAgg216
 z146 := Tryz.sizeOf216
 v146 := Tryz.zeroValue216
 g1 := by kernel_rfl }
open Go.RowKit Go.Lib in
theorem Tryz.strings_Cut (s sep : ByteArray) (m : Int) (w : World) (hs : s.size < 4294967281) (hm : w.cell? ⟨0, 0, none⟩ = some (.int .i64 m)) :
  Calls Tryz.prog 87 #[.string s, .string sep] w fun e w' => e = .returned (.tuple #[.string ⟨(Lib.cut s.data.toList sep.data.toList).1.toArray⟩, .string ⟨(Lib.cut s.data.toList sep.data.toList).2.1.toArray⟩, .bool (Lib.cut s.data.toList sep.data.toList).2.2]) ∧ ∃ n, w' = w.drewN n := Any.strings_Cut Tryz.lays145 s sep m w hs hm
def Tryz.lays147_ren : Go.Shelf.Ren := ⟨fun | 147 => 134 | 221 => 152 | 268 => 161 | 138 => 162 | 143 => 163 | 195 => 171 | 197 => 172 | 218 => 173 | 219 => 131 | 260 => 180 | 217 => 143 | 225 => 144 | 224 => 145 | 267 => 146 | 266 => 156 | 314 => 157 | n => n, fun | 9 => 9 | 3 => 3 | 31 => 126 | 4 => 4 | 0 => 0 | 105 => 234 | 21 => 21 | 5 => 5 | 46 => 184 | 119 => 242 | 139 => 245 | 138 => 244 | 146 => 216 | 51 => 89 | n => n, fun | 1 => 0 | 3 => 4 | 4 => 5 | n => n⟩
theorem Tryz.lays147 : Go.Proofs.Lays.n147 Tryz.prog Tryz.lays147_ren := {
 mixed := by kernel_rfl
 f138 := Tryz.func162.trans (congrArg some (by kernel_rfl))
 f143 := Tryz.func163.trans (congrArg some (by kernel_rfl))
 f147 := Tryz.func134.trans (congrArg some (by kernel_rfl))
 f195 := Tryz.func171.trans (congrArg some (by kernel_rfl))
 f197 := Tryz.func172.trans (congrArg some (by kernel_rfl))
 f217 := Tryz.func143.trans (congrArg some (by kernel_rfl))
 f218 := Tryz.func173.trans (congrArg some (by kernel_rfl))
 f219 := Tryz.func131.trans (congrArg some (by kernel_rfl))
 f221 := Tryz.func152.trans (congrArg some (by kernel_rfl))
 f224 := Tryz.func145.trans (congrArg some (by kernel_rfl))
 f225 := Tryz.func144.trans (congrArg some (by kernel_rfl))
 f260 := Tryz.func180.trans (congrArg some (by kernel_rfl))
 f266 := Tryz.func156.trans (congrArg some (by kernel_rfl))
 f267 := Tryz.func146.trans (congrArg some (by kernel_rfl))
 f268 := Tryz.func161.trans (congrArg some (by kernel_rfl))
 f314 := Tryz.func157.trans (congrArg some (by kernel_rfl))
 t0 := Tryz.underlying0
 a0 := Tryz.isAgg0
 z0 := Tryz.sizeOf0
 v0 := Tryz.zeroValue0
 t3 := Tryz.underlying3
 a3 := Tryz.isAgg3
 z3 := Tryz.sizeOf3
 v3 := Tryz.zeroValue3
 t4 := Tryz.underlying4
 a4 := Tryz.isAgg4
 z4 := Tryz.sizeOf4
 v4 := Tryz.zeroValue4
 t5 := Tryz.underlying5
 a5 := Tryz.isAgg5
 z5 := Tryz.sizeOf5
 v5 := Tryz.zeroValue5
 t9 := Tryz.underlying9
 a9 := Tryz.isAgg9
 z9 := Tryz.sizeOf9
 v9 := Tryz.zeroValue9
 t21 := Tryz.underlying21
 a21 := Tryz.isAgg21
 z21 := Tryz.sizeOf21
 v21 := Tryz.zeroValue21
 t31 := Tryz.underlying126
 a31 := Tryz.isAgg126
 z31 := Tryz.sizeOf126
 v31 := Tryz.zeroValue126
 t46 := Tryz.underlying184
 a46 := Tryz.isAgg184
 z46 := Tryz.sizeOf184
 v46 := Tryz.zeroValue184
 t51 := Tryz.underlying89
 a51 := Tryz.isAgg89
 z51 := Tryz.sizeOf89
 v51 := Tryz.zeroValue89
 t105 := Tryz.underlying234
 a105 := Tryz.isAgg234
 z105 := Tryz.sizeOf234
 v105 := Tryz.zeroValue234
 t119 := Tryz.underlying242
 a119 := Tryz.isAgg242
 z119 := Tryz.sizeOf242
 t138 := Tryz.underlying244
 a138 := Tryz.isAgg244
 z138 := Tryz.sizeOf244
 v138 := Tryz.zeroValue244
 t139 := Tryz.underlying245
 a139 := Tryz.isAgg245
 z139 := Tryz.sizeOf245
 v139 := Tryz.zeroValue245
 t146 := Tryz.underlying216
 a146 := Tryz.isAgg216
 z146 := Tryz.sizeOf216
 v146 := Tryz.zeroValue216
 g1 := by kernel_rfl
 g3 := by kernel_rfl
 g4 := by kernel_rfl }
open Go.RowKit Go.Lib in
theorem Tryz.strings_SplitN (s sep : ByteArray) (n : Nat) (m : Int) (w : World) (hs : s.size < 4294967281) (hm : w.cell? ⟨0, 0, none⟩ = some (.int .i64 m)) (h1 : 1 ≤ sep.size) (hn : 1 ≤ n) (hn63 : n ≤ 9223372036854775807) :
  Calls Tryz.prog 134 #[.string s, .string sep, .int .i64 n] w fun e w' =>
   e = .returned (.slice (some ⟨w.heap.size, 0, none⟩) (Lib.splitB sep 0 (min n (s.size + 1) - 1) s).length (min n (s.size + 1))) ∧ w' = w.alloc (.cells (Lib.cellsOf (Lib.splitB sep 0 (min n (s.size + 1) - 1) s) (min n (s.size + 1))) 9) := Any.strings_SplitN Tryz.lays147 (by kernel_rfl) s sep n m w hs hm h1 hn hn63
def Tryz.lays172_ren : Go.Shelf.Ren := ⟨fun | 172 => 111 | 244 => 132 | 245 => 133 | 247 => 147 | 279 => 148 | 280 => 149 | 281 => 150 | 282 => 151 | 287 => 158 | 316 => 159 | 171 => 114 | 205 => 160 | 321 => 169 | 322 => 170 | 243 => 135 | 246 => 153 | 283 => 164 | 284 => 165 | 285 => 166 | 286 => 167 | 129 => 175 | 317 => 174 | 318 => 176 | 319 => 177 | 320 => 178 | 337 => 181 | 338 => 182 | n => n, fun | 9 => 9 | 3 => 3 | 75 => 27 | 76 => 121 | 4 => 4 | 5 => 5 | 167 => 205 | 37 => 142 | 0 => 0 | 85 => 206 | 2 => 2 | 168 => 208 | 53 => 40 | 175 => 218 | 46 => 184 | 210 => 222 | 127 => 172 | 145 => 233 | 143 => 231 | 21 => 21 | 171 => 225 | 173 => 228 | 212 => 237 | 51 => 89 | 20 => 20 | 213 => 238 | 232 => 246 | 233 => 84 | 80 => 151 | n => n, fun | 15 => 1 | 16 => 2 | 17 => 3 | 18 => 6 | 19 => 7 | n => n⟩
theorem Tryz.lays172 : Go.Proofs.Lays.n172 Tryz.prog Tryz.lays172_ren := {
 mixed := by kernel_rfl
 f129 := Tryz.func175.trans (congrArg some (by kernel_rfl))
 f171 := Tryz.func114.trans (congrArg some (by kernel_rfl))
 f172 := Tryz.func111.trans (congrArg some (by kernel_rfl))
 f205 := Tryz.func160.trans (congrArg some (by kernel_rfl))
 f243 := Tryz.func135.trans (congrArg some (by kernel_rfl))
 f244 := Tryz.func132.trans (congrArg some (by kernel_rfl))
 f245 := Tryz.func133.trans (congrArg some (by kernel_rfl))
 f246 := Tryz.func153.trans (congrArg some (by kernel_rfl))
 f247 := Tryz.func147.trans (congrArg some (by kernel_rfl))
 f279 := Tryz.func148.trans (congrArg some (by kernel_rfl))
 f280 := Tryz.func149.trans (congrArg some (by kernel_rfl))
 f281 := Tryz.func150.trans (congrArg some (by kernel_rfl))
 f282 := Tryz.func151.trans (congrArg some (by kernel_rfl))
 f283 := Tryz.func164.trans (congrArg some (by kernel_rfl))
 f284 := Tryz.func165.trans (congrArg some (by kernel_rfl))
 f285 := Tryz.func166.trans (congrArg some (by kernel_rfl))
 f286 := Tryz.func167.trans (congrArg some (by kernel_rfl))
 f287 := Tryz.func158.trans (congrArg some (by kernel_rfl))
 f316 := Tryz.func159.trans (congrArg some (by kernel_rfl))
 f317 := Tryz.func174.trans (congrArg some (by kernel_rfl))
 f318 := Tryz.func176.trans (congrArg some (by kernel_rfl))
 f319 := Tryz.func177.trans (congrArg some (by kernel_rfl))
 f320 := Tryz.func178.trans (congrArg some (by kernel_rfl))
 f321 := Tryz.func169.trans (congrArg some (by kernel_rfl))
 f322 := Tryz.func170.trans (congrArg some (by kernel_rfl))
 f337 := Tryz.func181.trans (congrArg some (by kernel_rfl))
 f338 := Tryz.func182.trans (congrArg some (by kernel_rfl))
 t0 := Tryz.underlying0
 a0 := Tryz.isAgg0
 z0 := Tryz.sizeOf0
 v0 := Tryz.zeroValue0
 t2 := Tryz.underlying2
 a2 := Tryz.isAgg2
 z2 := Tryz.sizeOf2
 v2 := Tryz.zeroValue2
 t3 := Tryz.underlying3
 a3 := Tryz.isAgg3
 z3 := Tryz.sizeOf3
 v3 := Tryz.zeroValue3
 t4 := Tryz.underlying4
 a4 := Tryz.isAgg4
 z4 := Tryz.sizeOf4
 v4 := Tryz.zeroValue4
 t5 := Tryz.underlying5
 a5 := Tryz.isAgg5
 z5 := Tryz.sizeOf5
 v5 := Tryz.zeroValue5
 t9 := Tryz.underlying9
 a9 := Tryz.isAgg9
 z9 := Tryz.sizeOf9
 v9 := Tryz.zeroValue9
 t20 := Tryz.underlying20
 a20 := Tryz.isAgg20
 z20 := Tryz.sizeOf20
 v20 := Tryz.zeroValue20
 t21 := Tryz.underlying21
 a21 := Tryz.isAgg21
 z21 := Tryz.sizeOf21
 v21 := Tryz.zeroValue21
 t37 := Tryz.underlying142
 a37 := Tryz.isAgg142
 z37 := Tryz.sizeOf142
 v37 := Tryz.zeroValue142
 t46 := Tryz.underlying184
 a46 := Tryz.isAgg184
 z46 := Tryz.sizeOf184
 v46 := Tryz.zeroValue184
 t51 := Tryz.underlying89
 a51 := Tryz.isAgg89
 z51 := Tryz.sizeOf89
 v51 := Tryz.zeroValue89
 t53 := Tryz.underlying40
 a53 := Tryz.isAgg40
 z53 := Tryz.sizeOf40
 v53 := Tryz.zeroValue40
 t75 := Tryz.underlying27
 a75 := Tryz.isAgg27
 z75 := Tryz.sizeOf27
 v75 := Tryz.zeroValue27
 t76 := Tryz.underlying121
 a76 := Tryz.isAgg121
 z76 := Tryz.sizeOf121
 v76 := Tryz.zeroValue121
 t85 := Tryz.underlying206
 a85 := Tryz.isAgg206
 z85 := Tryz.sizeOf206
 v85 := Tryz.zeroValue206
 t127 := Tryz.underlying172
 a127 := Tryz.isAgg172
 z127 := Tryz.sizeOf172
 v127 := Tryz.zeroValue172
 t143 := Tryz.underlying231
 a143 := Tryz.isAgg231
 z143 := Tryz.sizeOf231
 v143 := Tryz.zeroValue231
 t145 := Tryz.underlying233
 a145 := Tryz.isAgg233
 z145 := Tryz.sizeOf233
 v145 := Tryz.zeroValue233
 t167 := Tryz.underlying205
 a167 := Tryz.isAgg205
 z167 := Tryz.sizeOf205
 v167 := Tryz.zeroValue205
 t168 := Tryz.underlying208
 a168 := Tryz.isAgg208
 z168 := Tryz.sizeOf208
 v168 := Tryz.zeroValue208
 t171 := Tryz.underlying225
 a171 := Tryz.isAgg225
 z171 := Tryz.sizeOf225
 v171 := Tryz.zeroValue225
 t173 := Tryz.underlying228
 a173 := Tryz.isAgg228
 z173 := Tryz.sizeOf228
 v173 := Tryz.zeroValue228
 t175 := Tryz.underlying218
 a175 := Tryz.isAgg218
 z175 := Tryz.sizeOf218
 v175 := Tryz.zeroValue218
 t210 := Tryz.underlying222
 a210 := Tryz.isAgg222
 z210 := Tryz.sizeOf222
 v210 := Tryz.zeroValue222
 t212 := Tryz.underlying237
 a212 := Tryz.isAgg237
 z212 := Tryz.sizeOf237
 v212 := Tryz.zeroValue237
 t213 := Tryz.underlying238
 a213 := Tryz.isAgg238
 z213 := Tryz.sizeOf238
 t232 := Tryz.underlying246
 a232 := Tryz.isAgg246
 z232 := Tryz.sizeOf246
 v232 := Tryz.zeroValue246
 t233 := Tryz.underlying84
 a233 := Tryz.isAgg84
 z233 := Tryz.sizeOf84
 v233 := Tryz.zeroValue84
 g15 := by kernel_rfl
 g16 := by kernel_rfl
 g17 := by kernel_rfl
 g18 := by kernel_rfl
 g19 := by kernel_rfl }
open Go.RowKit in
theorem Tryz.strconv_Atoi (s : ByteArray) (n : Int) (hl : s.size ≤ 18) (h : Lib.atoi s.data.toList = some n) (w : World) :
  Calls Tryz.prog 111 #[.string s] w fun e w' => e = .returned (.tuple #[.int .i64 n, .nilIface]) ∧ ∃ t, w' = Lib.bytesWorld w 5 t := Any.strconv_Atoi Tryz.lays172 s n hl h w
end Go.Proofs

/- A generator's text, split up: without memory. -/
namespace Go.Proofs.YtnhbfehfipafoaaGreatDoor
open Go.RowKit

def bytesP (p : List UInt8) : ByteArray := ⟨p.toArray⟩

theorem extract_bytes (l : List UInt8) (i j : Nat) : (bytesP l).extract i j = bytesP ((l.take j).drop i) := by
 apply ByteArray.ext
 apply Array.toList_inj.1
 rw [ByteArray.data_extract, Array.toList_extract]
 simp [bytesP, List.extract, List.drop_take]

theorem splitB_join (c : UInt8) : ∀ (xs : List (List UInt8)), xs ≠ [] → (∀ x ∈ xs, c ∉ x) → ∀ k, xs.length ≤ k + 1 → Lib.splitB ⟨#[c]⟩ 0 k (bytesP (Lib.join xs [c])) = xs.map bytesP
 | [], h, _, _, _ => absurd rfl h
 | [x], _, hx, k, _ => by
  rw [Lib.join_one]
  exact Lib.splitB_miss _ _ _ _ (index_miss c x (hx x (by simp)))
 | x :: y :: r, _, hx, k, hk => by
  have hc := hx x (by simp)
  obtain ⟨k', rfl⟩ : ∃ k', k = k' + 1 := ⟨k - 1, by simp at hk; omega⟩
  have ih := splitB_join c (y :: r) (by simp) (fun z hz => hx z (List.mem_cons_of_mem _ hz)) k' (by simp at hk ⊢; omega)
  have hi : Lib.indexB (bytesP (Lib.join (x :: y :: r) [c])) ⟨#[c]⟩ = x.length := by
   show Lib.index (Lib.join (x :: y :: r) [c]) [c] = _
   rw [join_two]
   exact index_hit c x _ hc
  rw [Lib.splitB_hit _ _ _ _ _ hi, Nat.add_zero, extract_bytes, extract_bytes]
  have e1 : ((Lib.join (x :: y :: r) [c]).take x.length).drop 0 = x := by rw [join_two, List.drop_zero]; simp
  have e2 : ((Lib.join (x :: y :: r) [c]).take (bytesP (Lib.join (x :: y :: r) [c])).size).drop (x.length + (⟨#[c]⟩ : ByteArray).size) = Lib.join (y :: r) [c] := by
   have hs : (bytesP (Lib.join (x :: y :: r) [c])).size = (Lib.join (x :: y :: r) [c]).length := by show (Lib.join _ _).toArray.size = _; rw [List.size_toArray]
   rw [hs, List.take_length, join_two]
   show List.drop (x.length + 1) _ = _
   rw [List.drop_append, List.drop_eq_nil_of_le (by omega)]
   simp
  rw [e1, e2, ih]
  rfl

theorem split_numT (g : List Int) (h0 : 0 < g.length) (h4 : g.length ≤ 4) : Lib.splitB ⟨#[32]⟩ 0 (min 5 ((bytesP (numT g)).size + 1) - 1) (bytesP (numT g)) = g.map itoS := by
 have hne : g.map Lib.itoa ≠ [] := by intro e; have := congrArg List.length e; simp at this; subst this; simp at h0
 have hx : ∀ x ∈ g.map Lib.itoa, (32 : UInt8) ∉ x := fun x hx h => by
  obtain ⟨z, -, rfl⟩ := List.mem_map.1 hx
  exact (numC_not (ito_chars z 32 h)).1 rfl
 have hlen : ∀ xs : List (List UInt8), (∀ x ∈ xs, x ≠ []) → xs.length ≤ (Lib.join xs [32]).length + 1 := fun xs => by
  induction xs with
  | nil => intro _; simp
  | cons x t ih =>
   intro hh
   match t, ih with
   | [], _ => simp
   | y :: r, ih =>
    have := ih (fun z hz => hh z (List.mem_cons_of_mem _ hz))
    have hx1 : 0 < x.length := List.length_pos_iff.2 (hh x (by simp))
    rw [join_two, List.length_append, List.length_cons, List.length_cons]
    simp only [List.length_cons] at this ⊢
    omega
 have hl := hlen (g.map Lib.itoa) (fun x hx => by
  obtain ⟨z, -, rfl⟩ := List.mem_map.1 hx
  unfold Lib.itoa
  split
  ·simp
  ·exact dec_ne _)
 have hs : (bytesP (numT g)).size = (Lib.join (g.map Lib.itoa) [32]).length := by show (numT g).toArray.size = _; rw [List.size_toArray]; rfl
 rw [List.length_map] at hl
 have := splitB_join 32 (g.map Lib.itoa) hne hx (min 5 ((bytesP (numT g)).size + 1) - 1) (by rw [List.length_map, hs]; omega)
 unfold numT at this ⊢
 rw [this, List.map_map]
 rfl

end Go.Proofs.YtnhbfehfipafoaaGreatDoor

/- pack.withGen: a generator more, of its text. -/
namespace Go.Proofs.YtnhbfehfipafoaaGreatDoor
open Go.RowKit

def MaxL (w : World) : Prop := ∃ m, w.cell? ⟨0, 0, none⟩ = some (.int .i64 m) ∧ 0 < w.heap.size

theorem MaxL.below {w w' : World} (h : MaxL w) (hb : Below w.heap.size w w') : MaxL w' := by
 obtain ⟨m, h1, h2⟩ := h
 exact ⟨m, (hb.cell (p := ⟨0, 0, none⟩) h2).trans h1, Nat.lt_of_lt_of_le h2 hb.size⟩

theorem run_mkIP (m : Nat) (hm : m ≤ 1000) (W : World) : (Instr.makeSlice 41 (.int .i64 (m : Int)) (.int .i64 (m : Int))).run Tryz.prog W = .ok (.slice (some ⟨W.heap.size, 0, none⟩) m m) (W.alloc (.cells (madeCells #[.int .i64 0] m) 3)) := by
 obtain ⟨i0, hi, hz0, hz1, hz2⟩ := info_got Tryz.infoIntP
 have h := run_make (P := Tryz.prog) W 41 3 i0 (.int .i64 0) (by kernel_rfl) hi hz0 .i64 .i64 m m (by omega) (by omega) (by rw [hz2]; omega) (by omega)
 rw [hz1, Int.toNat_natCast, Nat.mul_one] at h
 exact h

def FillI (base : Nat) (W : World) (P : Nat) (g : List Int) (k : Nat) : Prop :=
 W.ownsRow base 3 1 (.slice (some ⟨P, 0, none⟩) g.length g.length) g.length ((g.take k).map (Value.int .i64) ++ List.replicate (g.length - k) (.int .i64 0))

theorem FillI.start (W : World) (g : List Int) (hn : g.length ≤ 1000) : FillI W.heap.size (W.alloc (.cells (madeCells #[.int .i64 0] g.length) 3)) W.heap.size g 0 := by
 refine ⟨by simp, .inr ⟨W.heap.size, g.length, _, rfl, Nat.le_refl _, heap_alloc_new W _, Nat.le_refl _, by unfold maxLen; omega, by rw [size_madeCells, Nat.mul_one], ?_⟩⟩
 rw [toList_madeCells_one]; simp

theorem FillI.cell {base : Nat} {W : World} {P : Nat} {g : List Int} {k : Nat} (h : FillI base W P g k) (hk : k < g.length) : W.cell? ⟨P, k, none⟩ = some (.int .i64 0) ∧ W.frozen? ⟨P, k, none⟩ = false := by
 obtain ⟨gg, cap, e, -, hc⟩ := own_at h (by omega)
 simp only [Value.slice.injEq, Option.some.injEq, Addr.mk.injEq, and_true, true_and] at e
 obtain ⟨rfl, rfl⟩ := e
 refine ⟨hc k _ ?_, own_free h k⟩
 have hl : ((g.take k).map (Value.int .i64)).length = k := by rw [List.length_map, List.length_take]; omega
 rw [List.getElem?_append_right (by omega), hl, Nat.sub_self, List.getElem?_replicate, if_pos (by omega)]

theorem FillI.put {base : Nat} {W : World} {P : Nat} {g : List Int} {k : Nat} (h : FillI base W P g k) (hk : k < g.length) : FillI base (W.setCell ⟨P, k, none⟩ (.int .i64 (g.getD k 0))) P g (k + 1) := by
 have hl : ((g.take k).map (Value.int .i64)).length = k := by rw [List.length_map, List.length_take]; omega
 have := own_set h k (.int .i64 (g.getD k 0))
 rw [List.set_append_right _ _ (by omega), hl, Nat.sub_self, show g.length - k = (g.length - (k + 1)) + 1 by omega, List.replicate_succ, List.set_cons_zero] at this
 unfold FillI
 rw [List.take_succ_eq_append_getElem hk, List.map_append, List.append_assoc, ← getD_at hk]
 exact this

theorem FillI.row {base : Nat} {W : World} {P : Nat} {g : List Int} (h : FillI base W P g g.length) (hg : ∀ z ∈ g, -32768 ≤ z ∧ z ≤ 32767) : RowS W (.slice (some ⟨P, 0, none⟩) g.length g.length) g := by
 unfold FillI at h
 rw [List.take_length, Nat.sub_self, List.replicate_zero, List.append_nil] at h
 exact RowAt.row (base := base) ⟨h, hg⟩

theorem catRes_store {w w0 W : World} {r : Nat × List Nmd} {e : Ending} {B : Nat} (h : CatRes w0 r e W) (hb : Below w.heap.size w w0) (hB : One W B (.slice none 0 0)) (hlow : w.heap.size ≤ B) (hrok : r.1 = 0 → ∀ x ∈ r.2, NmOk x) :
  ∃ o l k ev, e = .returned (.tuple #[.agg #[.slice o l k], ev]) ∧ CatRes w r e (W.setCell ⟨B, 0, none⟩ (.slice o l k)) := by
 obtain ⟨h | ⟨h1, u, qs, h2, h3, v, rfl, h4⟩, hb2⟩ := h
 ·exact ⟨none, 0, 0, _, h.2, .inl h, (hb.trans (hb2.mono hb.size)).setCell (p := ⟨B, 0, none⟩) hlow _⟩
 ·obtain ⟨o, c, rfl, -⟩ := id h4
  exact ⟨o, _, c, _, h2, .inr ⟨h1, _, qs, h2, h3, _, rfl, h4.setOne (nonE_of_ok (by rw [h3]; exact hrok h1)) hB.1 _⟩, (hb.trans (hb2.mono hb.size)).setCell (p := ⟨B, 0, none⟩) hlow _⟩

set_option linter.unusedSimpArgs false in
set_option maxRecDepth 100000 in
set_option maxHeartbeats 1600000 in
theorem withGen_ok (w : World) (v : Value) (qs : List Nc) (nm gen : ByteArray) (g : List Int) (h : CatV w v qs) (hok : CatOk (qs.map (·.x))) (hm : MaxL w) (hgen : gen = bytesP (numT g)) (h0 : 0 < g.length) (h4 : g.length ≤ 4) (hz : ∀ z ∈ g, -999 ≤ z ∧ z ≤ 999) :
  Calls Tryz.prog 112 #[v, .string nm, .string gen] w fun e w' => CatRes w (applyC (qs.map (·.x)) ⟨3, nm, 0, g⟩) e w' := by
 obtain ⟨u, rfl, hu⟩ := h
 obtain ⟨ao, cap, rfl, hcap, -⟩ := id hu
 obtain ⟨r, hr⟩ : ∃ r, applyC (qs.map (·.x)) ⟨3, nm, 0, g⟩ = r := ⟨_, rfl⟩
 rw [hr]
 have hsz : gen.size ≤ 20 := by
  rw [hgen]
  show (numT g).toArray.size ≤ 20
  rw [List.size_toArray]
  have := join_len (g.map Lib.itoa) (fun x hx => by
   obtain ⟨z, hz', rfl⟩ := List.mem_map.1 hx
   exact (ito_len (hz z hz').1 (hz z hz').2).2)
  rw [List.length_map] at this
  unfold numT
  omega
 have HR := hide hr; have HU := hide hu; have HOK := hide hok; have HM := hide hm; have HZ := hide hz; have HGEN := hide hgen; have HSZ := hide hsz
 have hb1 := alloc_below w (.cells #[.slice ao qs.length cap] 53)
 have hb2 := alloc_below (w.alloc (.cells #[.slice ao qs.length cap] 53)) (.cells #[.slice none 0 0] 53)
 have X3 := hide ((One.new w (.slice ao qs.length cap) 53).later hb2)
 have hx6 := One.new (w.alloc (.cells #[.slice ao qs.length cap] 53)) (.slice none 0 0) 53
 have hs1 : (w.alloc (.cells #[.slice ao qs.length cap] 53)).heap.size = w.heap.size + 1 := by simp
 rw [hs1] at hx6
 have X6 := hide hx6
 have HB := hide (hb1.trans (hb2.mono hb1.size))
 clear hb1 hb2 hx6 hs1 hr hu hok hm hz hgen hsz hcap
 go_enter Tryz.func112, Tryz.ntmps112
 go_wp2_with fail
 generalize (w.alloc (.cells #[.slice ao qs.length cap] 53)).alloc (.cells #[.slice none 0 0] 53) = W2 at *
 obtain ⟨m, hm1, -⟩ := HM.out.below HB.out
 refine (Go.Proofs.Tryz.strings_SplitN gen ⟨#[32]⟩ 5 m W2 (by have := HSZ.out; omega) hm1 (by decide) (by decide) (by decide)).mono ?_
 rintro e W3 ⟨rfl, hW3⟩
 have hsp : Lib.splitB ⟨#[32]⟩ 0 (min 5 (gen.size + 1) - 1) gen = g.map itoS := by rw [HGEN.out]; exact split_numT g h0 h4
 rw [hsp] at hW3
 rw [hsp, List.length_map]
 obtain ⟨cp, hcp⟩ : ∃ cp, min 5 (gen.size + 1) = cp := ⟨_, rfl⟩
 rw [hcp] at hW3
 rw [hcp]
 have HCELL : Hid (∀ j, j < g.length → W3.cell? ⟨W2.heap.size, j, none⟩ = some (.string (itoS (g.getD j 0)))) := fun j hj => by
  rw [hW3]
  have := World.news_of_block (heap_alloc_new W2 (.cells (Lib.cellsOf (g.map itoS) cp) 9)) j (.string (itoS (g.getD j 0))) (by
   unfold Lib.cellsOf
   rw [List.toList_toArray, List.getElem?_append_left (by rw [List.length_map, List.length_map]; exact hj), List.getElem?_map, List.getElem?_map, List.getElem?_eq_getElem hj, getD_at hj]
   rfl)
  have e : (⟨W2.heap.size, 0, none⟩ : Addr).add j = ⟨W2.heap.size, j, none⟩ := by unfold Addr.add; split <;> simp_all
  rwa [e] at this
 have hbS : Below W2.heap.size W2 W3 := by rw [hW3]; exact alloc_below W2 _
 have hlt8 : W2.heap.size < W3.heap.size := by rw [hW3]; simp
 have X3b := hide (X3.out.later hbS); have X6b := hide (X6.out.later hbS); have HB3 := hide (HB.out.trans (hbS.mono HB.out.size))
 clear hW3 hbS X3 X6 HB hsp hcp hm1
 generalize W2.heap.size = P8 at *
 have hmk := run_mkIP g.length (by omega)
 have HF0 := hide (FillI.start W3 g (by omega))
 have HB40 := hide (alloc_below W3 (.cells (madeCells #[.int .i64 0] g.length) 3))
 go_wp2_with fail
 clear hmk
 generalize W3.alloc (.cells (madeCells #[.int .i64 0] g.length) 3) = W4 at *
 go_loopw [20] (fun i wr => ∃ k : Nat, k ≤ g.length ∧ i = .int .i64 k ∧ Hid (FillI W3.heap.size wr W3.heap.size g k) ∧ Hid (Below W3.heap.size W3 wr)) (fun i _ => g.length - (intOf i).toNat)
 case atStart => exact ⟨0, Nat.zero_le _, rfl, HF0, HB40⟩
 case round =>
  clear HF0 HB40
  obtain ⟨k, hk, rfl, HFI, HBW⟩ := hrel
  by_cases hkl : k < g.length
  ·have c8 := (HBW.out.cell (p := ⟨P8, k, none⟩) hlt8).trans (HCELL.out k hkl)
   have HPUT : Hid (∀ W, FillI W3.heap.size W W3.heap.size g k → FillI W3.heap.size (W.setCell ⟨W3.heap.size, k, none⟩ (.int .i64 (g.getD k 0))) W3.heap.size g (k + 1)) := fun W hW => hW.put hkl
   have hzr := HZ.out (g.getD k 0) (by rw [getD_at hkl]; exact List.getElem_mem _)
   generalize g.getD k 0 = z at *
   have HZR := hide hzr
   clear hzr
   go_wp2_with fail
   clear c8
   refine (Go.Proofs.Tryz.strconv_Atoi (itoS z) z (by have := (ito_len HZR.out.1 HZR.out.2).2; show (Lib.itoa z).toArray.size ≤ 18; rw [List.size_toArray]; omega) (by show Lib.atoi (Lib.itoa z) = some z; exact atoi_itoa z) wr).mono ?_
   rintro e w5 ⟨rfl, tt, hw5⟩
   have hb5 : Below wr.heap.size wr w5 := by rw [hw5]; exact Go.Joins.below_bytesWorld _ wr _ tt (Nat.le_refl _)
   have hf5 : FillI W3.heap.size w5 W3.heap.size g k := ownsRow_later HFI.out hb5
   obtain ⟨y0, y1⟩ := hf5.cell hkl
   have HF5 := hide (HPUT.out w5 hf5)
   have HB5 := hide ((HBW.out.trans (hb5.mono HBW.out.size)).setCell (p := ⟨W3.heap.size, k, none⟩) (Nat.le_refl _) (.int .i64 z))
   clear hw5 hb5 hf5 HFI HBW HPUT
   go_wp2
   go_roundw
   case rel => exact ⟨k + 1, by omega, by go_num, HF5, HB5⟩
   case measure => simp [intOf]; omega
  ·obtain rfl : k = g.length := by omega
   have HROW := hide (HFI.out.row (fun z hz => by have := HZ.out z hz; omega))
   have X3c := hide (X3b.out.later HBW.out); have X6c := hide (X6b.out.later HBW.out); have HBc := hide (HB3.out.trans (HBW.out.mono HB3.out.size))
   obtain ⟨c3, -, -⟩ := X3c.out
   go_wp2_with fail
   clear c3
   refine (apply_any wr _ qs ⟨3, nm, 0, g⟩ (some ⟨W3.heap.size, 0, none⟩) g.length ⟨_, rfl, HU.out.below HBc.out⟩ HOK.out HROW.out (by show g.length ≤ 100; omega)).mono ?_
   rintro e w5 hres
   rw [HR.out] at hres
   have X6d := hide (X6c.out.later hres.2)
   obtain ⟨o, l, k', ev, rfl, hfin⟩ := catRes_store hres HBc.out X6d.out (by omega) (fun h0 => by have h1 := HR.out; rw [← h1] at h0 ⊢; exact (applyC_ok HOK.out _ h0).all)
   have HFIN := hide hfin
   clear hres hfin
   obtain ⟨r0, r1, -⟩ := X6d.out
   go_wp2
   exact bodyPost_ret (v := .tuple #[.agg #[.slice o l k'], ev]) (by simp [results, Tryz.results112, go_sem, r0]) rfl HFIN.out

end Go.Proofs.YtnhbfehfipafoaaGreatDoor

/- A catalog laid line by line: without memory. -/
namespace Go.Proofs.YtnhbfehfipafoaaGreatDoor
open Go.RowKit

theorem catOk_less {ps : List Nmd} {x : Nmd} (h : CatOk (ps ++ [x])) : ∀ y ∈ ps, nlt y.name x.name = true := fun y hy =>
 (List.pairwise_append.1 h.rise).2.2 y hy x (by simp)

theorem catOk_left {ps : List Nmd} {x : Nmd} (h : CatOk (ps ++ [x])) : CatOk ps :=
 ⟨(List.pairwise_append.1 h.rise).1, by have := h.few; rw [List.length_append] at this; omega, fun y hy => h.all y (List.mem_append_left _ hy)⟩

theorem catOk_last {ps : List Nmd} {x y : Nmd} (h : CatOk (ps ++ [x])) (hn : y.name = x.name) (hy : NmOk y) : CatOk (ps ++ [y]) := by
 have h1 := catOk_less h
 refine ⟨List.pairwise_append.2 ⟨(List.pairwise_append.1 h.rise).1, List.pairwise_singleton _ _, fun a ha b hb => ?_⟩, by have := h.few; simpa using this, fun z hz => ?_⟩
 ·rw [List.mem_singleton] at hb; subst hb; rw [hn]; exact h1 a ha
 ·rcases List.mem_append.1 hz with h2 | h2
  ·exact h.all z (List.mem_append_left _ h2)
  ·rw [List.mem_singleton] at h2; subst h2; exact hy

theorem placeL_end {ps : List Nmd} {s : ByteArray} (h : ∀ y ∈ ps, nlt y.name s = true) : placeL ps s = ps.length := by
 unfold placeL
 exact List.findIdx_eq_length_of_false (fun y hy => by rw [h y hy]; rfl)

theorem placeL_last {ps : List Nmd} {y : Nmd} (h : ∀ z ∈ ps, nlt z.name y.name = true) : placeL (ps ++ [y]) y.name = ps.length := by
 have h1 := placeL_end h
 unfold placeL at h1 ⊢
 rw [List.findIdx_append, h1, if_neg (by omega)]
 simp [List.findIdx_cons, nlt_irr]

theorem hasL_not {ps : List Nmd} {s : ByteArray} (h : ∀ y ∈ ps, nlt y.name s = true) : hasL ps s = false := by
 unfold hasL
 rw [List.any_eq_false]
 intro y hy e
 have e' : y.name = s := by simpa using e
 have := h y hy
 rw [e', nlt_irr] at this
 cases this

theorem last_create {ps : List Nmd} {x : Nmd} (h : CatOk (ps ++ [x])) : applyC ps ⟨1, x.name, x.n, []⟩ = (0, ps ++ [⟨x.name, x.n, []⟩]) := by
 have hx := h.all x (by simp)
 have h1 := catOk_less h
 have hl : ¬ 8 ≤ ps.length := by have := h.few; rw [List.length_append] at this; simp at this; omega
 have ho : opOk ⟨1, x.name, x.n, []⟩ = true := by unfold opOk; rw [hx.name]; simp
 unfold applyC
 rw [if_neg (by rw [ho]; decide), if_pos rfl, if_neg (by have := hx.n; dsimp only; omega), if_neg (by rw [hasL_not h1]; decide), if_neg hl, placeL_end h1, List.take_length, List.drop_length]

theorem last_put {ps : List Nmd} {nm : ByteArray} {n : Int} {gs : List (List Int)} {g : List Int} (h : CatOk (ps ++ [⟨nm, n, gs ++ [g]⟩])) : applyC (ps ++ [⟨nm, n, gs⟩]) ⟨3, nm, 0, g⟩ = (0, ps ++ [⟨nm, n, gs ++ [g]⟩]) := by
 have hx := h.all ⟨nm, n, gs ++ [g]⟩ (by simp)
 have h1 : ∀ y ∈ ps, nlt y.name nm = true := catOk_less h
 have hP : placeL (ps ++ [⟨nm, n, gs⟩]) nm = ps.length := placeL_last (y := ⟨nm, n, gs⟩) h1
 have hh : hasL (ps ++ [⟨nm, n, gs⟩]) nm = true := by unfold hasL; simp
 have hg : genF g n = 0 := hx.gens g (by simp)
 have hl : ¬ 10 ≤ gs.length := by have := hx.few; simp at this; omega
 have hnm : nmOk nm = true := hx.name
 have ho : opOk ⟨3, nm, 0, g⟩ = true := by unfold opOk; rw [hnm]; simp
 unfold applyC
 rw [if_neg (by rw [ho]; decide), if_neg (show ¬ (3 : Int) = 1 by decide)]
 dsimp only
 rw [hh, if_neg (by decide), if_neg (by decide), hP, List.getElem?_append_right (Nat.le_refl _), Nat.sub_self]
 dsimp only [List.getElem?_cons_zero]
 rw [if_neg (by rw [hg]; decide), if_pos rfl, if_neg hl]
 simp

end Go.Proofs.YtnhbfehfipafoaaGreatDoor
