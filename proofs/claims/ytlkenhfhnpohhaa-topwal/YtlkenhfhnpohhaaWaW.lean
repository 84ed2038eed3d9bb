/- Regions that draw their order, and make, and call: what each operation answered stands while others come up; the last one may write. -/
import Derived.Test.YtlkenhfhnpohhaaUpd
import Derived.Test.YtlkenhfhnpohhaaWaP
import Derived.Test.YtlkenhfhnpohhaaRegions
import Derived.Test.YtlkenhfhnpohhaaWaJ
import Derived.Test.YtlkenhfhnpohhaaTl2
import Derived.Deep.Cut
import Derived.Deep.CutRange
import Derived.Deep.CutBlock

namespace Go.Proofs.Ytlkenhfhnpohhaa
open Go.RowKit

structure FS (deps : Nat → List Nat) (kv : Nat → Option Value) (Sp : Nat → (Nat → Value) → World → Prop) (w : World) (L : Array Bool) (c : Nat → Value) (W : World) : Prop where
 below : Below w.heap.size w W
 plain : ∀ i v, L.getD i false = true → kv i = some v → c i = v
 spec : ∀ i, L.getD i false = true → Sp i c W
 closed : ∀ i, L.getD i false = true → ∀ j ∈ deps i, L.getD j false = true

structure Stays (deps : Nat → List Nat) (Sp : Nat → (Nat → Value) → World → Prop) : Prop where
 later : ∀ i c W W', Below W.heap.size W W' → Sp i c W → Sp i c W'
 other : ∀ i j c v W, j ≠ i → i ∉ deps j → Sp j c W → Sp j (upd c i v) W

variable {deps : Nat → List Nat} {kv : Nat → Option Value} {Sp : Nat → (Nat → Value) → World → Prop} {Fin : (Nat → Value) → World → Prop} {w W W' : World} {L : Array Bool} {c : Nat → Value}

theorem FS.start (w : World) (n : Nat) (c : Nat → Value) : FS deps kv Sp w (Array.replicate n false) c w.drew where
 below := (Below.refl _ _).drew
 plain := fun i _ h => by simp [Array.getD] at h
 spec := fun i h => by simp [Array.getD] at h
 closed := fun i h => by simp [Array.getD] at h

theorem FS.made (h : FS deps kv Sp w L c W) (hst : Stays deps Sp) {i : Nat} (hn : L.getD i true = false) (hd : ∀ j ∈ deps i, L.getD j false = true) (hb : Below W.heap.size W W') {v : Value} (hk : ∀ u, kv i = some u → v = u) (hnew : Sp i (upd c i v) W') :
  FS deps kv Sp w (L.setIfInBounds i true) (upd c i v) W' where
 below := h.below.trans (hb.mono h.below.size)
 plain := fun j u hj hu => by
  by_cases e : j = i
  ·subst e; rw [upd_self]; exact hk u hu
  ·rw [upd_ne _ _ e]; exact h.plain j u (listed_old (fun e' => e e'.symm) hj) hu
 spec := fun j hj => by
  by_cases e : j = i
  ·subst e; exact hnew
  ·have hj' := listed_old (fun e' => e e'.symm) hj
   exact hst.other _ _ _ _ _ e (fun hm => listed_not hn (h.closed j hj' i hm)) (hst.later _ _ _ _ hb (h.spec j hj'))
 closed := fun j hj k hjk => by
  by_cases ek : i = k
  ·subst ek; exact listed_new hn
  ·rw [getD_set_ne false ek]
   by_cases e : j = i
   ·subst e; exact hd k hjk
   ·exact h.closed j (listed_old (fun e' => e e'.symm) hj) k hjk

def FSx (deps : Nat → List Nat) (kv : Nat → Option Value) (Sp : Nat → (Nat → Value) → World → Prop) (Fin : (Nat → Value) → World → Prop) (w : World) (m : Nat) (L : Array Bool) (c : Nat → Value) (W : World) : Prop :=
 (L.getD m false = false ∧ FS deps kv Sp w L c W) ∨ ((∀ i, i ≤ m → L.getD i false = true) ∧ Fin c W)

theorem FSx.start (w : World) (n m : Nat) (c : Nat → Value) : FSx deps kv Sp Fin w m (Array.replicate n false) c w.drew :=
 .inl ⟨by simp [Array.getD], FS.start w n c⟩

theorem FSx.pre {m : Nat} (h : FSx deps kv Sp Fin w m L c W) {i : Nat} (hi : i ≤ m) (hn : L.getD i true = false) : L.getD m false = false ∧ FS deps kv Sp w L c W := by
 rcases h with h | ⟨h, -⟩
 ·exact h
 ·exact absurd (h i hi) (listed_not hn)

theorem FSx.last {m : Nat} (hall : ∀ j, j < m → L.getD j false = true) (hn : L.getD m true = false) (hf : Fin c W) : FSx deps kv Sp Fin w m (L.setIfInBounds m true) c W :=
 .inr ⟨fun j hj => by
  by_cases e : m = j
  ·subst e; exact listed_new hn
  ·rw [getD_set_ne false e]; exact hall j (by omega), hf⟩

theorem FSx.fin {m : Nat} (h : FSx deps kv Sp Fin w m L c W) (hall : L.getD m false = true) : Fin c W := by
 rcases h with ⟨h, -⟩ | ⟨-, h⟩
 ·rw [hall] at h; cases h
 ·exact h

theorem FS.put {deps : Nat → List Nat} {kv : Nat → Option Value} {Sp Sp' : Nat → (Nat → Value) → World → Prop} {w W W' : World} {L : Array Bool} {c : Nat → Value} (h : FS deps kv Sp w L c W) {i : Nat} (hn : L.getD i true = false) (hd : ∀ j ∈ deps i, L.getD j false = true) (hB : Below w.heap.size w W') {v : Value} (hk : ∀ u, kv i = some u → v = u)
  (hkeep : ∀ j, j ≠ i → L.getD j false = true → Sp j c W → Sp' j (upd c i v) W') (hnew : Sp' i (upd c i v) W') : FS deps kv Sp' w (L.setIfInBounds i true) (upd c i v) W' where
 below := hB
 plain := fun j u hj hu => by
  by_cases e : j = i
  ·subst e; rw [upd_self]; exact hk u hu
  ·rw [upd_ne _ _ e]; exact h.plain j u (listed_old (fun e' => e e'.symm) hj) hu
 spec := fun j hj => by
  by_cases e : j = i
  ·subst e; exact hnew
  ·have hj' := listed_old (fun e' => e e'.symm) hj
   exact hkeep j e hj' (h.spec j hj')
 closed := fun j hj k hjk => by
  by_cases ek : i = k
  ·subst ek; exact listed_new hn
  ·rw [getD_set_ne false ek]
   by_cases e : j = i
   ·subst e; exact hd k hjk
   ·exact h.closed j (listed_old (fun e' => e e'.symm) hj) k hjk

end Go.Proofs.Ytlkenhfhnpohhaa

/- The region that copies a list of deeds and puts one behind it: what is known as it comes up. -/
namespace Go.Proofs.Ytlkenhfhnpohhaa
open Go.RowKit

theorem rowStays (base n : Nat) (xs : List Value) (x : Value) (fl : Bool) : Stays rowD (rowS base n xs x fl) where
 later := fun i c W W' hb h => by
  obtain ⟨h1, h6, h7, h8⟩ := h
  refine ⟨fun e hf => ?_, fun e hf => ?_, fun e => ?_, h8⟩
  ·obtain ⟨o, k, a1, a2⟩ := h1 e hf
   exact ⟨o, k, a1, ownsKeep a2 (fun b _ _ hx => hb.block b (heap_lt hx))⟩
  ·obtain ⟨B, a1, a2, a3⟩ := h6 e hf
   exact ⟨B, a1, (hb.cell (p := ⟨B, 0, none⟩) a3).trans a2, Nat.lt_of_lt_of_le a3 hb.size⟩
  ·obtain ⟨o, k, a1, a2⟩ := h7 e
   exact ⟨o, k, a1, ownsKeep a2 (fun b _ _ hx => hb.block b (heap_lt hx))⟩
 other := fun i j c v W hne hm h => by
  obtain ⟨h1, h6, h7, h8⟩ := h
  refine ⟨fun e hf => ?_, fun e hf => ?_, fun e => ?_, fun e => ?_⟩
  ·subst e
   rw [upd_ne _ _ hne]; exact h1 rfl hf
  ·subst e
   rw [upd_ne _ _ hne]; exact h6 rfl hf
  ·subst e
   rw [upd_ne _ _ hne]; exact h7 rfl
  ·subst e
   have h : ¬ i = 7 := by simpa [rowD] using hm
   rw [upd_ne _ _ hne, upd_ne _ _ (fun e => h e.symm)]; exact h8 rfl

theorem row_put {base n : Nat} {xs : List Value} {x : Value} {kv : Nat → Option Value} (hk7 : kv 7 = none) {w W : World} {L : Array Bool} {c : Nat → Value} (R : FS rowD kv (rowS base n xs x false) w L c W) (hbase : base = w.heap.size) (hn : L.getD 7 true = false) (h1 : L.getD 1 false = true) (h6 : L.getD 6 false = true) (hx : x.oneCell' = true) (hn2 : n ≤ 1000) :
  ∃ o k B o' k' W', c 1 = .slice o n k ∧ c 6 = .slice (some ⟨B, 0, none⟩) 1 1 ∧ (Builtin.append_ #[33, 33] 33 #[.slice o n k, .slice (some ⟨B, 0, none⟩) 1 1]).run Try.prog W = .ok (.slice o' (n + 1) k') W' ∧ FS rowD kv (rowS base n xs x true) w (L.setIfInBounds 7 true) (upd c 7 (.slice o' (n + 1) k')) W' := by
 obtain ⟨o, k, e1, a1⟩ := (R.spec 1 h1).1 rfl rfl
 obtain ⟨B, e6, b1, b2⟩ := (R.spec 6 h6).2.1 rfl rfl
 obtain ⟨o', k', W', hr, hown, hb⟩ := put_want W base o n k xs a1 (by rw [hbase]; exact R.below.size) B x b1 hx hn2
 refine ⟨o, k, B, o', k', W', e1, e6, hr, R.put hn (fun j hj => ?_) (R.below.trans (hbase ▸ hb)) (fun u hu => by rw [hk7] at hu; cases hu) (fun j hj hl hs => ?_) ?_⟩
 ·simp [rowD] at hj
  rcases hj with rfl | rfl
  ·exact h1
  ·exact h6
 ·refine ⟨fun _ hf => Bool.noConfusion hf, fun _ hf => Bool.noConfusion hf, fun e => absurd e hj, fun e => ?_⟩
  subst e
  exact absurd (R.closed 8 hl 7 (by simp [rowD])) (listed_not hn)
 ·exact ⟨fun e => absurd e (by decide), fun e => absurd e (by decide), fun _ => ⟨o', k', upd_self .., hown⟩, fun e => absurd e (by decide)⟩

theorem row_copy {base n : Nat} {xs : List Value} {x v : Value} {fl : Bool} {kv : Nat → Option Value} (hk1 : kv 1 = none) (hk0 : kv 0 = some v) {w W : World} {L : Array Bool} {c : Nat → Value} (R : FS rowD kv (rowS base n xs x fl) w L c W) (hbase : base = w.heap.size) (hn : L.getD 1 true = false) (h0 : L.getD 0 false = true) (hv : W.ownsRow 0 47 1 v n xs) (hx : ∀ x ∈ xs, x.oneCell' = true) (hn2 : n ≤ 1000) :
  c 0 = v ∧ ∃ o k W', (Builtin.append_ #[33, 33] 33 #[.slice none 0 0, v]).run Try.prog W = .ok (.slice o n k) W' ∧ FS rowD kv (rowS base n xs x fl) w (L.setIfInBounds 1 true) (upd c 1 (.slice o n k)) W' := by
 refine ⟨R.plain 0 v h0 hk0, ?_⟩
 obtain ⟨o, k, W', hr, hown, hb⟩ := copy_want W v n xs hv hx hn2 base (by rw [hbase]; exact R.below.size)
 refine ⟨o, k, W', hr, R.made (rowStays ..) hn (fun j hj => ?_) hb (fun u hu => by rw [hk1] at hu; cases hu) ⟨fun _ _ => ⟨o, k, upd_self .., hown⟩, fun e => absurd e (by decide), fun e => absurd e (by decide), fun e => absurd e (by decide)⟩⟩
 simp [rowD] at hj
 subst hj
 exact h0

theorem row_fin {base n : Nat} {xs : List Value} {x : Value} {fl : Bool} {kv : Nat → Option Value} {w W : World} {L : Array Bool} {c : Nat → Value} (R : FS rowD kv (rowS base n xs x fl) w L c W) (hall : ∀ i, i < 9 → L.getD i false = true) :
  ∃ o k, c 8 = .slice o (n + 1) k ∧ W.ownsRow base 47 1 (.slice o (n + 1) k) (n + 1) (xs ++ [x]) := by
 obtain ⟨o, k, e7, h⟩ := (R.spec 7 (hall 7 (by omega))).2.2.1 rfl
 have e8 := (R.spec 8 (hall 8 (by omega))).2.2.2 rfl
 exact ⟨o, k, e8.trans e7, h⟩

set_option maxRecDepth 100000 in
theorem number_errno (n : Int) (w : World) : Calls Try.prog 21 #[errno n] w fun e w' => e = .returned (.int .i64 n) ∧ w' = w := by
 have ha : (Instr.typeAssert (.iface 58 (.int .i64 n)) 28 58 true).run Try.prog w = .ok (.tuple #[.int .i64 n, .bool true]) w := by kernel_rfl
 show Calls _ _ #[.iface 58 (.int .i64 n)] _ _
 go_enter Try.func21, Try.ntmps21
 go_wp2
 go_ret
 exact ⟨rfl, rfl⟩

end Go.Proofs.Ytlkenhfhnpohhaa

/- A deed goes in, as TopWal's walk sees it. -/
namespace Go.Proofs.Ytlkenhfhnpohhaa
open Go.RowKit

theorem addP_wal {w w' : World} {bs B L en : Nat} {E : Dsk} {os : List OpV} {ws : List (List OpV)} {e : Ending} (h : AddP w bs B L E 1 en 59 5 os e w') (hi : WalI E en ws) :
  ∃ E14 E' en', e = .returned E14 ∧ KeptW bs w w' ∧ DiskO w' bs B E' ∧ LogM w' L B (1 : Nat) (59 : Nat) 5 (en' : Nat) ∧
   ((E14 = .nilIface ∧ WalI E' en' (ws ++ [os])) ∨ (∃ z : Int, z ≠ 9 ∧ E14 = errno z ∧ WalI E' en' ws) ∨ (E14 = errno 9 ∧ WalZ E' ws (ws ++ [os]))) := by
 obtain ⟨h, hk⟩ := h
 rcases h with ⟨hf, he, hd, hl⟩ | ⟨hf, he, hd, hl⟩
 ·by_cases h9 : addF os (59 - en) = 9
  ·exact ⟨_, E, en, he, hk, hd, hl, .inr (.inr ⟨by rw [h9]; rfl, hi.full⟩)⟩
  ·exact ⟨_, E, en, he, hk, hd, hl, .inr (.inl ⟨_, by omega, rfl, hi⟩)⟩
 ·cases ht : (addD 5 1 en 59 os E).2 with
  | true =>
   rw [ht] at he hl
   rw [if_pos rfl] at hl
   exact ⟨_, _, _, he, hk, hd, hl, .inl ⟨rfl, hi.added hf ht⟩⟩
  | false =>
   rw [ht] at he hl
   rw [if_neg (by decide)] at hl
   exact ⟨_, _, _, he, hk, hd, hl, .inr (.inr ⟨rfl, hi.fell hf ht⟩)⟩

theorem opsN_one {w : World} {v : Value} {os : List OpC} (h : OpsN w v os) : v.oneCell' = true := by
 obtain ⟨ao, cap, rfl, -⟩ := h
 rfl

theorem WantT.ones {w W : World} {v : Value} {wd : List (Value × List OpC)} (h : WantT w W v wd) : ∀ x ∈ wd.map (·.1), x.oneCell' = true := fun x hx => by
 obtain ⟨p, hp, rfl⟩ := List.mem_map.1 hx
 exact opsN_one (h.2.1 p hp)

theorem WantT.snoc {w W W' : World} {base : Nat} {v v' x : Value} {os : List OpC} {wd : List (Value × List OpC)} (h : WantT w W v wd) (ho : OpsN w x os) (hb : Below W.heap.size W W') (hr : W'.ownsRow base 47 1 v' (wd.length + 1) (wd.map (·.1) ++ [x])) : WantT w W' v' (wd ++ [(x, os)]) :=
 ⟨by simpa using ownsLess hr (Nat.zero_le _), fun p hp => by
  rcases List.mem_append.1 hp with hp | hp
  ·exact h.2.1 p hp
  ·rw [List.mem_singleton] at hp
   subst hp
   exact ho, h.2.2.trans (hb.mono h.2.2.size)⟩

theorem opsD_snoc (wd : List (Value × List OpC)) (x : Value) (os : List OpC) : opsD (wd ++ [(x, os)]) = opsD wd ++ [os.map (·.o)] := by
 unfold opsD
 rw [List.map_append]
 rfl

def fewW (m : Nat) (wd : List (Value × List OpC)) : Prop := wd.length ≤ m ∧ ∀ p ∈ wd, p.2.length ≤ 6 ∧ ∀ q ∈ p.2, q.o.v.length ≤ 10

theorem fewW_nil (m : Nat) : fewW m [] := ⟨Nat.zero_le _, fun p hp => absurd hp (by simp)⟩

theorem fewW.mono {m n : Nat} {wd : List (Value × List OpC)} (h : fewW m wd) (hn : m ≤ n) : fewW n wd := ⟨Nat.le_trans h.1 hn, h.2⟩

theorem fewW.snoc {m : Nat} {wd : List (Value × List OpC)} (h : fewW m wd) {x : Value} {os : List OpC} (hl : lightL os 6 = true) : fewW (m + 1) (wd ++ [(x, os)]) :=
 ⟨by simp [h.1], fun p hp => by
  rcases List.mem_append.1 hp with hp | hp
  ·exact h.2 p hp
  ·rw [List.mem_singleton] at hp
   subst hp
   have := lightL_ok hl
   exact ⟨this.1, fun q hq => (this.2 q hq).2⟩⟩

theorem fewW.short {m : Nat} {wd : List (Value × List OpC)} (h : fewW m wd) (hm : m ≤ 1000) : shortD wd :=
 ⟨Nat.le_trans h.1 hm, fun p hp => ⟨by have := (h.2 p hp).1; omega, fun q hq => by have := (h.2 p hp).2 q hq; omega⟩⟩

theorem DeedsN.at {w : World} {v : Value} {dl : List (Value × List OpC)} (h : DeedsN w v dl) {k : Nat} (hk : k < dl.length) : ∃ b off cap, v = .slice (some ⟨b, off, none⟩) dl.length cap ∧ b < w.heap.size ∧ w.cell? ⟨b, off + k, none⟩ = some dl[k].1 ∧ OpsN w dl[k].1 dl[k].2 := by
 obtain ⟨ao, cap, rfl, -, hh⟩ := h
 obtain ⟨b, off, rfl, hlt, hc⟩ := hh (by omega)
 obtain ⟨h1, h2⟩ := hc k dl[k] (List.getElem?_eq_getElem hk)
 exact ⟨b, off, cap, rfl, hlt, h1, h2⟩

end Go.Proofs.Ytlkenhfhnpohhaa

/- The reference: are two operations the same? -/
namespace Go.Proofs.Ytlkenhfhnpohhaa
open Go.RowKit

end Go.Proofs.Ytlkenhfhnpohhaa

/- TopWal: the deeds go in, one by one. -/
namespace Go.Proofs.Ytlkenhfhnpohhaa
open Go.RowKit

set_option linter.unusedSimpArgs false in
set_option maxRecDepth 100000 in
set_option maxHeartbeats 3200000 in
theorem topWal_A (w W : World) (kv : Value) (lo : Option Addr) (lcap B L bs : Nat) (E0 : Dsk) (dl : List (Value × List OpC)) (hdl : DeedsN w (.slice lo dl.length lcap) dl) (hl8 : dl.length ≤ 8) (hbe : Below w.heap.size w W) (hbs : w.heap.size ≤ bs) (hbW : bs ≤ W.heap.size) (hLb : bs ≤ L) (hd : DiskO W bs B E0) (hlog : LogM W L B (1 : Nat) (59 : Nat) 5 (0 : Nat)) (hi : WalI E0 0 []) (hB : ∀ (W' : World) (v1 v2 : Value) (wd ld : List (Value × List OpC)) (E : Dsk), Below w.heap.size w W' → bs ≤ W'.heap.size → DiskO W' bs B E → WalZ E (opsD wd) (opsD ld) → WantT w W' v1 wd → WantT w W' v2 ld → fewW 8 wd → fewW 8 ld → ∀ {sl1 sl3 sl4 sl5 sl6 sl8 sl10 sl13 sl14 sl15 sl16 sl17 sl18 sl19 sl20 sl21 sl22 sl23 sl24 sl25 sl26 sl27 sl28 sl29 sl30 sl31 sl32 sl33 sl34 sl35 sl36 sl37 sl38 sl39 sl40 sl41 sl42 sl43 sl44 sl45 sl46 sl47 sl48 sl49 sl50 sl51 sl52 sl53 sl54 sl55 sl56 sl57 sl58 sl59 sl60 sl61 sl62 sl63 sl64 sl65 sl66 sl67 sl68 sl69 sl70 sl71 sl72 sl73 sl74 sl75 sl76 sl77 sl78 sl79 sl80 sl81 sl82 sl83 sl84 sl85 sl86 sl87 sl88 sl89 sl90 sl91 sl92 sl93 sl94 sl95 sl96 sl97 sl98 sl99 sl100 sl101 sl102 sl103 sl104 sl105 sl106 sl107 sl108 sl109 sl110 sl111 sl112 sl113 sl114 sl115 sl116 sl117 sl118 sl119 sl120 sl121 sl122 sl123 sl124 sl125 sl126 sl127 sl128 sl129 sl130 sl131 sl132 sl133 sl134 sl135 sl136 sl137 sl138 sl139 sl140 sl141 sl142 sl143 : Value}, (Code.tail (Code.tail (Code.tail (Code.tail (Code.tail (Code.tail (Code.tail (Code.tail (Code.tail (Code.tail ((Try.f4.body).getD .skip))))))))))).wp Try.prog (bodyPost Try.prog Try.f4 (fun e w' => e = .returned (.bool true) ∧ Below w.heap.size w w')) ⟨#[(.slice lo dl.length lcap), sl1, kv, sl3, sl4, sl5, sl6, (.pointer (some ⟨B, 0, none⟩)), sl8, (.pointer (some ⟨L, 0, none⟩)), sl10, v1, v2, sl13, sl14, sl15, sl16, sl17, sl18, sl19, sl20, sl21, sl22, sl23, sl24, sl25, sl26, sl27, sl28, sl29, sl30, sl31, sl32, sl33, sl34, sl35, sl36, sl37, sl38, sl39, sl40, sl41, sl42, sl43, sl44, sl45, sl46, sl47, sl48, sl49, sl50, sl51, sl52, sl53, sl54, sl55, sl56, sl57, sl58, sl59, sl60, sl61, sl62, sl63, sl64, sl65, sl66, sl67, sl68, sl69, sl70, sl71, sl72, sl73, sl74, sl75, sl76, sl77, sl78, sl79, sl80, sl81, sl82, sl83, sl84, sl85, sl86, sl87, sl88, sl89, sl90, sl91, sl92, sl93, sl94, sl95, sl96, sl97, sl98, sl99, sl100, sl101, sl102, sl103, sl104, sl105, sl106, sl107, sl108, sl109, sl110, sl111, sl112, sl113, sl114, sl115, sl116, sl117, sl118, sl119, sl120, sl121, sl122, sl123, sl124, sl125, sl126, sl127, sl128, sl129, sl130, sl131, sl132, sl133, sl134, sl135, sl136, sl137, sl138, sl139, sl140, sl141, sl142, sl143], []⟩ W') {sl1 sl3 sl4 sl5 sl6 sl8 sl10 sl13 sl14 sl15 sl16 sl17 sl18 sl19 sl20 sl21 sl22 sl23 sl24 sl25 sl26 sl27 sl28 sl29 sl30 sl31 sl32 sl33 sl34 sl35 sl36 sl37 sl38 sl39 sl40 sl41 sl42 sl43 sl44 sl45 sl46 sl47 sl48 sl49 sl50 sl51 sl52 sl53 sl54 sl55 sl56 sl57 sl58 sl59 sl60 sl61 sl62 sl63 sl64 sl65 sl66 sl67 sl68 sl69 sl70 sl71 sl72 sl73 sl74 sl75 sl76 sl77 sl78 sl79 sl80 sl81 sl82 sl83 sl84 sl85 sl86 sl87 sl88 sl89 sl90 sl91 sl92 sl93 sl94 sl95 sl96 sl97 sl98 sl99 sl100 sl101 sl102 sl103 sl104 sl105 sl106 sl107 sl108 sl109 sl110 sl111 sl112 sl113 sl114 sl115 sl116 sl117 sl118 sl119 sl120 sl121 sl122 sl123 sl124 sl125 sl126 sl127 sl128 sl129 sl130 sl131 sl132 sl133 sl134 sl135 sl136 sl137 sl138 sl139 sl140 sl141 sl142 sl143 : Value} :
  (Code.tail (Code.tail (Code.tail (Code.tail (Code.tail (Code.tail (Code.tail (Code.tail (Code.tail ((Try.f4.body).getD .skip)))))))))).wp Try.prog (bodyPost Try.prog Try.f4 (fun e w' => e = .returned (.bool true) ∧ Below w.heap.size w w')) ⟨#[(.slice lo dl.length lcap), sl1, kv, sl3, sl4, sl5, sl6, (.pointer (some ⟨B, 0, none⟩)), sl8, (.pointer (some ⟨L, 0, none⟩)), sl10, (.slice none 0 0), (.slice none 0 0), sl13, sl14, sl15, sl16, sl17, sl18, sl19, sl20, sl21, sl22, sl23, sl24, sl25, sl26, sl27, sl28, sl29, sl30, sl31, sl32, sl33, sl34, sl35, sl36, sl37, sl38, sl39, sl40, sl41, sl42, sl43, sl44, sl45, sl46, sl47, sl48, sl49, sl50, sl51, sl52, sl53, sl54, sl55, sl56, sl57, sl58, sl59, sl60, sl61, sl62, sl63, sl64, sl65, sl66, sl67, sl68, sl69, sl70, sl71, sl72, sl73, sl74, sl75, sl76, sl77, sl78, sl79, sl80, sl81, sl82, sl83, sl84, sl85, sl86, sl87, sl88, sl89, sl90, sl91, sl92, sl93, sl94, sl95, sl96, sl97, sl98, sl99, sl100, sl101, sl102, sl103, sl104, sl105, sl106, sl107, sl108, sl109, sl110, sl111, sl112, sl113, sl114, sl115, sl116, sl117, sl118, sl119, sl120, sl121, sl122, sl123, sl124, sl125, sl126, sl127, sl128, sl129, sl130, sl131, sl132, sl133, sl134, sl135, sl136, sl137, sl138, sl139, sl140, sl141, sl142, sl143], []⟩ W := by
 simp only [Code.tail, Try.f4, Option.getD_some]
 have HB := hide hB; have HDL := hide hdl; have HV := hide (wantT_nil w W hbe); have HD := hide hd; have HL := hide hlog; have HI := hide hi; have HW := hide hbW
 clear hB hdl hbe hd hlog hi hbW
 go_upto_block 0 with fail
 go_cut [11, 12, 13, 14] from 60 to 92 (fun v1 v2 _ _ wc => ∃ wd ld E, bs ≤ wc.heap.size ∧ DiskO wc bs B E ∧ WalZ E (opsD wd) (opsD ld) ∧ WantT w wc v1 wd ∧ WantT w wc v2 ld ∧ fewW 8 wd ∧ fewW 8 ld)
 case first =>
  clear HB
  go_wp2_with fail
  go_loopw [11, 12, 13] (fun v1 v2 i wr => ∃ (k en : Nat) (wd ld : List (Value × List OpC)) (E : Dsk), k ≤ dl.length ∧ i = .int .i64 k ∧ Hid (bs ≤ wr.heap.size) ∧ Hid (DiskO wr bs B E) ∧ Hid (LogM wr L B (1 : Nat) (59 : Nat) 5 (en : Nat)) ∧ Hid (WalI E en (opsD wd)) ∧ Hid (WantT w wr v1 wd) ∧ Hid (WantT w wr v2 ld) ∧ Hid (fewW k wd) ∧ Hid (fewW k ld)) (fun _ _ i _ => dl.length - (intOf i).toNat)
  case atStart => exact ⟨0, 0, [], [], E0, Nat.zero_le _, rfl, HW, HD, HL, HI, HV, HV, hide (fewW_nil 0), hide (fewW_nil 0)⟩
  case round =>
   clear HD HL HI HV HW
   obtain ⟨k, en, wd, ld, E, hk, rfl, HW, HD, HL, HI, HV1, HV2, HF1, HF2⟩ := hrel
   by_cases hkl : k < dl.length
   ·obtain ⟨b, off, cap', e, hlt0, a0, hO⟩ := HDL.out.at hkl
    simp only [Value.slice.injEq, true_and] at e
    obtain ⟨rfl, rfl⟩ := e
    obtain ⟨⟨x, os⟩, hq⟩ : ∃ q, dl[k] = q := ⟨_, rfl⟩
    rw [hq] at a0 hO
    dsimp only at a0 hO
    clear hq
    have HO := hide hO
    obtain ⟨xo, xc, rfl, -⟩ := hO
    have a1 := (HV1.out.2.2.cell (p := ⟨b, off + k, none⟩) hlt0).trans a0
    go_wp2_with fail
    refine (lightOps_any _ _ os 6 (HO.out.below HV1.out.2.2) (by decide)).mono ?_
    rintro e w0 ⟨rfl, rfl⟩
    obtain ⟨lb, hlb⟩ : ∃ lb, lightL os 6 = lb := ⟨_, rfl⟩
    rw [hlb]
    have HLB := hide hlb
    clear hlb
    cases lb with
    | false =>
     have hbz := hide HV1.out.2.2
     go_wp2
     go_ret
     exact ⟨rfl, hbz.out⟩
    | true =>
     go_wp2_with fail
     refine (logAdd_any _ bs B L E 60 0 1 en 59 5 _ os HD.out HL.out HI.out.well (by decide) (by decide) (by decide) HI.out.en_le (by decide) HW.out hLb (HO.out.below HV1.out.2.2)).mono ?_
     rintro e w1 hA
     obtain ⟨E14, E', en', rfl, hkw, hd', hl', hcase⟩ := addP_wal hA HI.out
     have hbk := hkw.below HW.out
     have hlt1 : b < w1.heap.size := Nat.lt_of_lt_of_le hlt0 (Nat.le_trans HV1.out.2.2.size hbk.size)
     have HV1 := hide (HV1.out.keptW hkw hbs HW.out); have HV2 := hide (HV2.out.keptW hkw hbs HW.out)
     have HW := hide (Nat.le_trans HW.out hbk.size); have HD := hide hd'; have HL := hide hl'; have HC := hide hcase
     clear a1 hA hkw hd' hl' hcase hbk
     have a1 := (HV1.out.2.2.cell (p := ⟨b, off + k, none⟩) hlt0).trans a0
     go_wp2_with fail
     refine region_inv (by kernel_rfl) (by kernel_rfl) (fun Ls a' w' => ∃ (c : Nat → Value) (fl : Bool), a' = (⟨#[(.slice (some ⟨b, off, none⟩) dl.length lcap), sl1, kv, sl3, sl4, sl5, u6, (.pointer (some ⟨B, 0, none⟩)), sl8, (.pointer (some ⟨L, 0, none⟩)), sl10, u11, c 8, (.int .i64 (k : Int)), E14, sl15, sl16, sl17, sl18, sl19, sl20, sl21, sl22, sl23, sl24, sl25, sl26, sl27, sl28, sl29, sl30, sl31, sl32, sl33, sl34, sl35, sl36, sl37, sl38, sl39, sl40, sl41, sl42, sl43, sl44, sl45, sl46, sl47, sl48, sl49, sl50, sl51, sl52, sl53, sl54, sl55, sl56, sl57, sl58, sl59, (.int .i64 (k : Int)), (.slice (some ⟨b, off, none⟩) dl.length lcap), (.int .i64 (dl.length : Int)), (.bool true), u64, u65, (.slice (some ⟨b, off, none⟩) dl.length lcap), (.int .i64 (k : Int)), (.pointer (some ⟨b, off + k, none⟩)), (.slice xo os.length xc), (.bool true), (.bool false), (.pointer (some ⟨L, 0, none⟩)), (.slice (some ⟨b, off, none⟩) dl.length lcap), (.int .i64 (k : Int)), (.pointer (some ⟨b, off + k, none⟩)), (.slice xo os.length xc), E14, c 0, c 1, c 2, c 3, c 4, c 5, c 6, c 7, u86, u87, u88, u89, u90, u91, u92, sl93, sl94, sl95, sl96, sl97, sl98, sl99, sl100, sl101, sl102, sl103, sl104, sl105, sl106, sl107, sl108, sl109, sl110, sl111, sl112, sl113, sl114, sl115, sl116, sl117, sl118, sl119, sl120, sl121, sl122, sl123, sl124, sl125, sl126, sl127, sl128, sl129, sl130, sl131, sl132, sl133, sl134, sl135, sl136, sl137, sl138, sl139, sl140, sl141, sl142, sl143], []⟩ : Act) ∧ Ls.getD 7 false = fl ∧ FS rowD (fun i => List.getD [some u11, none, some (.slice (some ⟨b, off, none⟩) dl.length lcap), some (.int .i64 (k : Int)), some (.pointer (some ⟨b, off + k, none⟩)), some (.slice xo os.length xc), none, none, none] i none) (rowS w1.heap.size wd.length (wd.map (·.1)) (.slice xo os.length xc) fl) w1 Ls c w') ⟨fun i => List.getD [u78, u79, u80, u81, u82, u83, u84, u85, u12] i undef, false, rfl, by simp [Array.getD], FS.start _ _ _⟩ ?_ ?_
     ·rintro Ls a' w' i o ⟨c, fl, rfl, hbf, R⟩ ho hn hdep K hK
      have hi : i < 9 := (Array.getElem?_eq_some_iff.1 ho).1
      have hst := rowStays w1.heap.size wd.length (wd.map (·.1)) (.slice xo os.length xc) fl
      rcases (by omega : i = 0 ∨ i = 1 ∨ i = 2 ∨ i = 3 ∨ i = 4 ∨ i = 5 ∨ i = 6 ∨ i = 7 ∨ i = 8) with rfl | rfl | rfl | rfl | rfl | rfl | rfl | rfl | rfl
      ·obtain rfl := Option.some.inj ho
       have R' := R.made hst hn (fun j hj => absurd hj (by simp [rowD])) (Below.refl _ _) (v := u11) (fun u h => Option.some.inj h) (rowS_p (by decide) (by decide) (by decide) (by decide))
       clear R
       go_simp
       exact hK.out _ _ ⟨_, fl, by simp [upd], by rw [getD_set_ne false (by decide)]; exact hbf, R'⟩
      ·obtain rfl := Option.some.inj ho
       obtain ⟨e0, o, kk, w2, hr, R'⟩ := row_copy (v := u11) rfl rfl R rfl hn (hdep ⟨0, .data⟩ (by simp) rfl) (HV1.out.later R.below).1 HV1.out.ones (by have := HF1.out.1; omega)
       clear R
       refine step_append_run rfl (.const (.slice none 0 0)) (.tmp 78) 33 33 rfl _ _ rfl e0 _ _ hr ?_
       try simp only [Act.put, List.setIfInBounds_toArray, List.set_cons_zero, List.set_cons_succ]
       exact hK.out _ _ ⟨_, fl, by simp [upd], by rw [getD_set_ne false (by decide)]; exact hbf, R'⟩
      ·obtain rfl := Option.some.inj ho
       have R' := R.made hst hn (fun j hj => absurd hj (by simp [rowD])) (Below.refl _ _) (v := (.slice (some ⟨b, off, none⟩) dl.length lcap)) (fun u h => Option.some.inj h) (rowS_p (by decide) (by decide) (by decide) (by decide))
       clear R
       go_simp
       exact hK.out _ _ ⟨_, fl, by simp [upd], by rw [getD_set_ne false (by decide)]; exact hbf, R'⟩
      ·obtain rfl := Option.some.inj ho
       have R' := R.made hst hn (fun j hj => absurd hj (by simp [rowD])) (Below.refl _ _) (v := (.int .i64 (k : Int))) (fun u h => Option.some.inj h) (rowS_p (by decide) (by decide) (by decide) (by decide))
       clear R
       go_simp
       exact hK.out _ _ ⟨_, fl, by simp [upd], by rw [getD_set_ne false (by decide)]; exact hbf, R'⟩
      ·obtain rfl := Option.some.inj ho
       have e2 : c 2 = (.slice (some ⟨b, off, none⟩) dl.length lcap) := R.plain 2 _ (hdep ⟨2, .data⟩ (by simp) rfl) rfl
       have e3 : c 3 = (.int .i64 (k : Int)) := R.plain 3 _ (hdep ⟨3, .data⟩ (by simp) rfl) rfl
       have R' := R.made hst hn (fun j hj => by simp [rowD] at hj; rcases hj with rfl | rfl <;> exact hdep ⟨_, .data⟩ (by simp) rfl) (Below.refl _ _) (v := (.pointer (some ⟨b, off + k, none⟩))) (fun u h => Option.some.inj h) (rowS_p (by decide) (by decide) (by decide) (by decide))
       clear R
       rw [e2, e3]
       go_simp
       exact hK.out _ _ ⟨_, fl, by simp [upd, e2, e3], by rw [getD_set_ne false (by decide)]; exact hbf, R'⟩
      ·obtain rfl := Option.some.inj ho
       have q0 := (R.below.cell (p := ⟨b, off + k, none⟩) hlt1).trans a1
       have e4 : c 4 = (.pointer (some ⟨b, off + k, none⟩)) := R.plain 4 _ (hdep ⟨4, .data⟩ (by simp) rfl) rfl
       have R' := R.made hst hn (fun j hj => by simp [rowD] at hj; subst hj; exact hdep ⟨_, .data⟩ (by simp) rfl) (Below.refl _ _) (v := (.slice xo os.length xc)) (fun u h => Option.some.inj h) (rowS_p (by decide) (by decide) (by decide) (by decide))
       clear R
       rw [e4]
       go_simp
       exact hK.out _ _ ⟨_, fl, by simp [upd, e4], by rw [getD_set_ne false (by decide)]; exact hbf, R'⟩
      ·obtain rfl := Option.some.inj ho
       have e5 : c 5 = (.slice xo os.length xc) := R.plain 5 _ (hdep ⟨5, .data⟩ (by simp) rfl) rfl
       have hb6 := alloc_below w' (.cells #[(.slice xo os.length xc)] 47)
       have R' := R.made hst hn (fun j hj => by simp [rowD] at hj; subst hj; exact hdep ⟨_, .data⟩ (by simp) rfl) hb6 (v := .slice (some ⟨w'.heap.size, 0, none⟩) 1 1) (fun u h => by cases h) ⟨fun e => absurd e (by decide), fun _ _ => ⟨w'.heap.size, upd_self .., (by rw [World.cell?_alloc_new]; rfl), by simp⟩, fun e => absurd e (by decide), fun e => absurd e (by decide)⟩
       clear R hb6
       rw [e5]
       go_simp
       exact hK.out _ _ ⟨_, fl, by simp [upd, e5], by rw [getD_set_ne false (by decide)]; exact hbf, R'⟩
      ·obtain rfl := Option.some.inj ho
       have hb0 : fl = false := by
        cases fl with
        | false => rfl
        | true => exact absurd hbf (listed_not hn)
       subst hb0
       obtain ⟨o1, k1, BB, o', k', w2, e1, e6, hr, R'⟩ := row_put rfl R rfl hn (hdep ⟨1, .data⟩ (by simp) rfl) (hdep ⟨6, .data⟩ (by simp) rfl) rfl (by have := HF1.out.1; omega)
       clear R
       refine step_append_run rfl (.tmp 79) (.tmp 84) 33 33 rfl _ _ e1 e6 _ _ hr ?_
       try simp only [Act.put, List.setIfInBounds_toArray, List.set_cons_zero, List.set_cons_succ]
       exact hK.out _ _ ⟨_, true, by simp [upd], by first | exact listed_new hn | simp [hn], R'⟩
      ·obtain rfl := Option.some.inj ho
       have R' := R.made hst hn (fun j hj => by simp [rowD] at hj; subst hj; exact hdep ⟨_, .data⟩ (by simp) rfl) (Below.refl _ _) (v := c 7) (fun u h => by cases h) ⟨fun e => absurd e (by decide), fun e => absurd e (by decide), fun e => absurd e (by decide), fun _ => show upd c 8 (c 7) 8 = upd c 8 (c 7) 7 by rw [upd_self, upd_ne _ _ (by decide)]⟩
       clear R
       go_simp
       exact hK.out _ _ ⟨_, fl, by simp [upd], by rw [getD_set_ne false (by decide)]; exact hbf, R'⟩
     rintro Ls a' w2 ⟨c, fl, rfl, hbf, R⟩ hall
     obtain ⟨o8, k8, e8, hown⟩ := row_fin R (fun i hi => hall i hi)
     have hb2 := R.below
     clear R hall hbf
     rw [e8]
     have HV3 := hide (HV1.out.snoc HO.out hb2 hown); have HF3 := hide (HF1.out.snoc (x := (.slice xo os.length xc)) HLB.out)
     have HV1b := hide (HV1.out.later hb2); have HDb := hide (HD.out.later hb2); have HLb := hide (HL.out.later hb2); have HWb := hide (Nat.le_trans HW.out hb2.size)
     clear hb2 hown HV1 HV2 HD HL HW a0 a1 hlt1
     rcases HC.out with ⟨rfl, hI⟩ | ⟨z, hz, rfl, hI⟩ | ⟨rfl, hZ⟩
     ·have HI2 : Hid (WalI E' en' (opsD (wd ++ [(.slice xo os.length xc, os)]))) := hide (by rw [opsD_snoc]; exact hI)
      clear hI HC HI
      go_wp2_with fail
      go_roundw
      case rel => exact ⟨k + 1, en', _, _, E', by omega, by go_num, HWb, HDb, HLb, HI2, HV3, HV3, HF3, HF3⟩
      case measure => simp [intOf]; omega
     ·have HI2 := hide hI
      clear hI HC HI
      go_wp2_with fail
      refine (number_errno z _).mono ?_
      rintro e w4 ⟨rfl, rfl⟩
      have hz9 : decide (z = 9) = false := decide_eq_false hz
      go_wp2_with fail
      go_roundw
      case rel => exact ⟨k + 1, en', _, _, E', by omega, by go_num, HWb, HDb, HLb, HI2, HV1b, HV1b, hide (HF1.out.mono (by omega)), hide (HF1.out.mono (by omega))⟩
      case measure => simp [intOf]; omega
     ·have HZ2 : Hid (WalZ E' (opsD wd) (opsD (wd ++ [(.slice xo os.length xc, os)]))) := hide (by rw [opsD_snoc]; exact hZ)
      clear hZ HC HI
      go_wp2_with fail
      refine (number_errno 9 _).mono ?_
      rintro e w4 ⟨rfl, rfl⟩
      go_wp2_with fail
      go_meet
      case rel => exact ⟨wd, _, E', HWb.out, HDb.out, HZ2.out, HV1b.out, HV3.out, HF1.out.mono (by omega), HF3.out.mono (by omega)⟩
   ·obtain rfl : k = dl.length := by omega
    go_wp2_with fail
    go_meet
    case rel => exact ⟨wd, ld, E, HW.out, HD.out, HI.out.full, HV1.out, HV2.out, HF1.out.mono hl8, HF2.out.mono hl8⟩
 case rest =>
  obtain ⟨wd, ld, E, h1, h2, h3, h4, h5, h6, h7⟩ := hcut
  apply_assumption
  exact HB.out _ _ _ wd ld E h4.2.2 h1 h2 h3 h4 h5 h6 h7

end Go.Proofs.Ytlkenhfhnpohhaa
