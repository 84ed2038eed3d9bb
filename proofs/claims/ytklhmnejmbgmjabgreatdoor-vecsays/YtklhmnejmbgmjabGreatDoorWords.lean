/- A vector that grows at its end; texts that do. -/
import Derived.Test.YtklhmnejmbgmjabGreatDoorVecO
import Derived.Test.YtklhmnejmbgmjabGreatDoorRefG
import Derived.Test.YtklhmnejmbgmjabGreatDoorPieces

namespace Go.Proofs.YtklhmnejmbgmjabGreatDoor
open Go.RowKit Limbs Digs

/-- Limbs that don't lie in that block. -/
def apart (og : Option Nat) (s : Value) : Prop := ∀ a l c, s = .slice (some a) l c → 0 < l → some a.block ≠ og

theorem Lim.grown {W W' : World} {row : Option Nat} {s : Value} {zs : List Int} (h : Lim W s zs) (hg : W.grownBy W' row) (hne : apart row s) : Lim W' s zs := by
  obtain ⟨ao, cap, rfl, h1, h2, h3, h4⟩ := h
  refine ⟨ao, cap, rfl, h1, h2, h3, fun h0 => ?_⟩
  obtain ⟨b, off, rfl, hlt, hc⟩ := h4 h0
  have hb := hne _ _ _ rfl h0
  exact ⟨b, off, rfl, Nat.lt_of_lt_of_le hlt hg.size, fun i hi => hg.cell (hc i hi) hb⟩

def Nm.val (r : Nm) : Value := .agg #[.bool r.neg, .slice r.o r.l r.c]
def Nm.sl (r : Nm) : Value := .slice r.o r.l r.c
def ncells (p : Nm × Int) : List Value := [.bool p.1.neg, .slice p.1.o p.1.l p.1.c]

theorem NumL.grown {W W' : World} {row : Option Nat} {r : Nm} {z : Int} {n : Nat} (h : NumL W r.val z n) (hg : W.grownBy W' row) (hne : apart row r.sl) : NumL W' r.val z n := by
  obtain ⟨neg, s, zs, e, hl, h3⟩ := h
  simp only [Nm.val, Value.agg.injEq, Array.mk.injEq, List.cons.injEq, Value.bool.injEq, and_true] at e
  obtain ⟨rfl, rfl⟩ := e
  exact ⟨_, _, zs, rfl, hl.grown hg hne, h3⟩

theorem NumL.inside {W : World} {r : Nm} {z : Int} {n : Nat} (h : NumL W r.val z n) : ∀ a l c, r.sl = .slice (some a) l c → 0 < l → a.block < W.heap.size := fun a l c e h0 => by
  obtain ⟨neg, s, zs, e1, hl, -⟩ := h
  simp only [Nm.val, Value.agg.injEq, Array.mk.injEq, List.cons.injEq, Value.bool.injEq, and_true] at e1
  obtain ⟨rfl, rfl⟩ := e1
  obtain ⟨ao, cap, e2, -, -, -, h4⟩ := hl
  unfold Nm.sl at e
  rw [e] at e2
  simp only [Value.slice.injEq] at e2
  obtain ⟨rfl, rfl, rfl⟩ := e2
  obtain ⟨b, off, e3, hlt, -⟩ := h4 h0
  simp only [Option.some.injEq] at e3
  rw [e3]
  exact hlt

/-- A row of numbers in memory of its own, that may grow. -/
def Grow (W : World) (base : Nat) (v : Value) (ps : List (Nm × Int)) (n : Nat) : Prop :=
  W.ownsRow base 26 2 v ps.length (ps.flatMap ncells) ∧ ∀ p ∈ ps, NumL W p.1.val p.2 n ∧ apart v.ownBlock p.1.sl

theorem Grow.nil (W : World) (base n : Nat) : Grow W base (.slice none 0 0) [] n := ⟨World.ownsRow_nil _ _ _ _, fun _ h => by cases h⟩

theorem Grow.later {W W' : World} {base : Nat} {v : Value} {ps : List (Nm × Int)} {n : Nat} (h : Grow W base v ps n) (hb : Below W.heap.size W W') : Grow W' base v ps n := by
  refine ⟨?_, fun p hp => ⟨(h.2 p hp).1.below hb (Nat.le_refl _), (h.2 p hp).2⟩⟩
  refine ⟨h.1.1, ?_⟩
  rcases h.1.2 with hn | ⟨g, cap, cur, e, hbg, hh, rest⟩
  · exact .inl hn
  · exact .inr ⟨g, cap, cur, e, hbg, (hb.block _ (heap_lt hh)).trans hh, rest⟩

theorem Grow.fresh {W W0 : World} {base : Nat} {v : Value} {ps : List (Nm × Int)} {n : Nat} (h : Grow W base v ps n) (hs : W.heap.size ≤ W0.heap.size) {s : Value} (hn : NewSl W0 s) : apart v.ownBlock s := fun a l c e _ hb => by
  have h1 := hn a l c e
  have h2 := (h.1.lt _ hb.symm).2
  omega

theorem grow_snoc {base : Nat} {wr w3 : World} {v : Value} {ps : List (Nm × Int)} {n : Nat} {r : Nm} {z : Int} {g cap : Nat} {ob : Obj} (h : Grow wr base v ps n) (hz : NumL wr r.val z n) (ha : apart v.ownBlock r.sl)
    (hown : w3.ownsRow base 26 2 (.slice (some ⟨g, 0, none⟩) (ps.length + 1) cap) (ps.length + 1) (ps.flatMap ncells ++ ncells (r, z)))
    (hg : (wr.alloc ob).grownBy w3 v.ownBlock) (hat : v.ownBlock = some g ∨ g = wr.heap.size + 1) : Grow w3 base (.slice (some ⟨g, 0, none⟩) (ps.length + 1) cap) (ps ++ [(r, z)]) n := by
  refine ⟨by rw [List.length_append, List.length_singleton, List.flatMap_append, List.flatMap_singleton]; exact hown, fun p hp => ?_⟩
  have key : ∀ p : Nm × Int, NumL wr p.1.val p.2 n → apart v.ownBlock p.1.sl → NumL w3 p.1.val p.2 n ∧ apart (some g) p.1.sl := fun p h1 h2 => by
    refine ⟨(h1.below ((Below.refl _ _).alloc (Nat.le_refl _) ob) (Nat.le_refl _)).grown hg h2, fun a l c e h0 hb => ?_⟩
    rcases hat with h | h
    · exact h2 a l c e h0 (hb.trans h.symm)
    · have := h1.inside a l c e h0
      simp only [Option.some.injEq] at hb
      omega
  rcases List.mem_append.1 hp with h' | h'
  · exact key p (h.2 p h').1 (h.2 p h').2
  · rw [List.mem_singleton] at h'
    rw [h']
    exact key (r, z) hz ha

theorem grow_below {base : Nat} {wr w3 : World} {v : Value} {ps : List (Nm × Int)} {n : Nat} {ob : Obj} (h : Grow wr base v ps n) (hB : base ≤ wr.heap.size) (hg : (wr.alloc ob).grownBy w3 v.ownBlock) : Below base wr w3 :=
  ((Below.refl _ _).alloc hB _).grown hg (by simp; omega) (fun k hk => (h.1.lt k hk).1)

theorem ncells_at (ps : List (Nm × Int)) : ∀ i (h : i < ps.length), (ps.flatMap ncells)[i * 2]? = some (.bool ps[i].1.neg) ∧ (ps.flatMap ncells)[i * 2 + 1]? = some (.slice ps[i].1.o ps[i].1.l ps[i].1.c) := by
  induction ps with
  | nil => intro i h; exact absurd h (by simp)
  | cons p ps ih =>
    intro i h
    rw [List.flatMap_cons]
    cases i with
    | zero => exact ⟨rfl, rfl⟩
    | succ i =>
      obtain ⟨h1, h2⟩ := ih i (by simpa using h)
      have e1 : (i + 1) * 2 = i * 2 + 2 := by omega
      rw [e1, show i * 2 + 2 + 1 = i * 2 + 1 + 2 by omega, List.getElem?_append_right (by simp [ncells]), List.getElem?_append_right (by simp [ncells])]
      exact ⟨h1, h2⟩

/-- It is a vector of these numbers. -/
theorem Grow.vec {W : World} {base : Nat} {v : Value} {ps : List (Nm × Int)} {n : Nat} (h : Grow W base v ps n) : VecN W v (ps.map (·.2)) n := by
  obtain ⟨⟨-, h1⟩, h2⟩ := h
  have hlen : (ps.map (·.2)).length = ps.length := List.length_map ..
  rcases h1 with ⟨rfl, hn⟩ | ⟨g, cap, cur, rfl, hb, hh, hc1, hc2, hc3, hc4⟩
  · exact ⟨none, 0, by rw [hlen, hn], by rw [hlen]; omega, fun h0 => absurd h0 (by rw [hlen]; omega)⟩
  · refine ⟨_, cap, by rw [hlen], by rw [hlen]; exact hc1, fun h0 => ⟨g, 0, rfl, heap_lt hh, fun i hi => ?_⟩⟩
    rw [hlen] at hi
    obtain ⟨e1, e2⟩ := ncells_at ps i hi
    have hcell : ∀ k u, k < ps.length * 2 → (ps.flatMap ncells)[k]? = some u → W.cell? ⟨g, 0 + k, none⟩ = some u := fun k u hk hu => by
      have := World.news_of_block hh k u (by rw [← hc4, List.getElem?_take, if_pos hk] at hu; exact hu)
      have e : (⟨g, 0, none⟩ : Addr).add k = ⟨g, 0 + k, none⟩ := by unfold Addr.add; split <;> simp_all
      rwa [e] at this
    refine ⟨ps[i].1.neg, ps[i].1.o, ps[i].1.l, ps[i].1.c, hcell _ _ (by omega) e1, hcell _ _ (by omega) e2, ?_⟩
    have e3 : (ps.map (·.2)).getD i 0 = ps[i].2 := by
      rw [List.getD_eq_getElem?_getD, List.getElem?_map, List.getElem?_eq_getElem hi]; rfl
    rw [e3]
    exact (h2 _ (List.getElem_mem hi)).1

end Go.Proofs.YtklhmnejmbgmjabGreatDoor

/- The reference's words of a text: the pieces between blanks. -/
namespace Go.Proofs.YtklhmnejmbgmjabGreatDoor
open Go.RowKit Limbs Digs

/-- Up to this place so many words are found; the next one begins there. -/
def WInv (L : List UInt8) (k f : Nat) (ws : List ByteArray) : Prop :=
  f ≤ k ∧ (k ≤ L.length → (pieces L).map bytes = ws ++ (pieces (L.drop f)).map bytes ∧ (32 : UInt8) ∉ (L.drop f).take (k - f)) ∧ (k = L.length + 1 → ws = (pieces L).map bytes)

theorem WInv.start (L : List UInt8) : WInv L 0 0 [] := ⟨Nat.le_refl _, fun _ => ⟨by simp, by simp⟩, fun h => absurd h (by omega)⟩

theorem pieces_count (L : List UInt8) : (pieces L).length ≤ L.length + 1 := by
  induction L with
  | nil => simp [pieces]
  | cons c l ih =>
    unfold pieces
    split
    · simp; omega
    · split
      · simp
      · rename_i e; rw [e] at ih; simp at ih ⊢; omega

theorem WInv.len {L : List UInt8} {k f : Nat} {ws : List ByteArray} (h : WInv L k f ws) (hk1 : k ≤ L.length + 1) : ws.length ≤ L.length + 1 := by
  have hp := pieces_count L
  obtain ⟨-, h1, h2⟩ := h
  by_cases hk : k ≤ L.length
  · have := congrArg List.length (h1 hk).1
    rw [List.length_map, List.length_append] at this
    omega
  · rw [h2 (by omega), List.length_map]; exact hp

theorem WInv.last {L : List UInt8} {f : Nat} {ws : List ByteArray} (h : WInv L L.length f ws) : WInv L (L.length + 1) (L.length + 1) (ws ++ [bytes ((L.drop f).take (L.length - f))]) := by
  obtain ⟨h0, h1, -⟩ := h
  obtain ⟨h2, h3⟩ := h1 (Nat.le_refl _)
  refine ⟨Nat.le_refl _, fun h => absurd h (by omega), fun _ => ?_⟩
  have e : (L.drop f).take (L.length - f) = L.drop f := List.take_of_length_le (by rw [List.length_drop]; exact Nat.le_refl _)
  rw [e] at h3 ⊢
  rw [h2, pieces_plain _ h3]
  rfl

theorem WInv.hit {L : List UInt8} {k f : Nat} {ws : List ByteArray} (h : WInv L k f ws) (hk : k < L.length) (h32 : L[k] = 32) : WInv L (k + 1) (k + 1) (ws ++ [bytes ((L.drop f).take (k - f))]) := by
  obtain ⟨h0, h1, -⟩ := h
  obtain ⟨h2, h3⟩ := h1 (Nat.le_of_lt hk)
  refine ⟨Nat.le_refl _, fun _ => ⟨?_, by simp⟩, fun h => absurd h (by omega)⟩
  have e : L.drop f = (L.drop f).take (k - f) ++ 32 :: L.drop (k + 1) := by
    conv => lhs; rw [← List.take_append_drop (k - f) (L.drop f)]
    congr 1
    rw [List.drop_drop, show f + (k - f) = k by omega, List.drop_eq_getElem_cons hk, h32]
  rw [h2]
  conv => lhs; rw [e, pieces_cut _ _ h3]
  simp

theorem WInv.miss {L : List UInt8} {k f : Nat} {ws : List ByteArray} (h : WInv L k f ws) (hk : k < L.length) (h32 : L[k] ≠ 32) : WInv L (k + 1) f ws := by
  obtain ⟨h0, h1, -⟩ := h
  obtain ⟨h2, h3⟩ := h1 (Nat.le_of_lt hk)
  refine ⟨by omega, fun _ => ⟨h2, ?_⟩, fun h => absurd h (by omega)⟩
  have hl : k - f < (L.drop f).length := by rw [List.length_drop]; omega
  rw [show k + 1 - f = (k - f) + 1 by omega, List.take_succ_eq_append_getElem hl]
  intro hm
  rcases List.mem_append.1 hm with h' | h'
  · exact h3 h'
  · rw [List.mem_singleton, List.getElem_drop] at h'
    have e : f + (k - f) = k := by omega
    simp only [e] at h'
    exact h32 h'.symm

/-- Texts in a row. -/
def StrRow (w : World) (v : Value) (ws : List ByteArray) : Prop :=
  ∃ ao cap, v = .slice ao ws.length cap ∧ ws.length ≤ cap ∧ (0 < ws.length → ∃ b, ao = some ⟨b, 0, none⟩ ∧ b < w.heap.size ∧ ∀ i, i < ws.length → w.cell? ⟨b, i, none⟩ = some (.string (ws.getD i ByteArray.empty)))

theorem StrRow.owns {w : World} {base : Nat} {v : Value} {ws : List ByteArray} (h : w.ownsRow base 9 1 v ws.length (ws.map Value.string)) : StrRow w v ws := by
  rcases h.2 with ⟨rfl, hn⟩ | ⟨g, cap, cur, rfl, hb, hh, hc1, hc2, hc3, hc4⟩
  · exact ⟨none, 0, by rw [hn], by omega, fun h0 => absurd h0 (by omega)⟩
  · refine ⟨_, cap, rfl, hc1, fun h0 => ⟨g, rfl, heap_lt hh, fun i hi => ?_⟩⟩
    have := World.news_of_block hh i (.string (ws.getD i ByteArray.empty)) (by
      have e : (ws.map Value.string)[i]? = some (.string (ws.getD i ByteArray.empty)) := by
        rw [List.getElem?_map, List.getElem?_eq_getElem hi, List.getD_eq_getElem?_getD, List.getElem?_eq_getElem hi]; rfl
      rw [← hc4, List.getElem?_take, if_pos (by omega)] at e
      exact e)
    have e : (⟨g, 0, none⟩ : Addr).add i = ⟨g, i, none⟩ := by unfold Addr.add; split <;> simp_all
    rwa [e] at this

set_option maxRecDepth 100000 in
set_option maxHeartbeats 1600000 in
theorem words_any (w : World) (s : ByteArray) (hs : s.size ≤ 1000) :
    Calls Tryz.prog 53 #[.string s, .int .u8 32] w fun e w' => ∃ v, e = .returned v ∧ StrRow w' v ((pieces s.data.toList).map bytes) ∧ Below w.heap.size w w' := by
  obtain ⟨i0, hi, hz0, hz1, hz2⟩ := info_parts Tryz.infoStr
  have HW0 := hide (WInv.start s.data.toList)
  have hsl : s.data.toList.length = s.size := rfl
  go_enter Tryz.func53, Tryz.ntmps53
  go_wp2
  go_loopw [5, 6, 7] (fun l fr i wr => ∃ (k f : Nat) (ws : List ByteArray), k ≤ s.size + 1 ∧ i = .int .i64 k ∧ fr = .int .i64 f ∧ f ≤ k ∧ wr.ownsRow w.heap.size 9 1 l ws.length (ws.map Value.string) ∧ Hid (WInv s.data.toList k f ws) ∧ Below w.heap.size w wr) (fun _ _ i _ => s.size + 1 - (intOf i).toNat)
  case atStart => exact ⟨0, 0, [], Nat.zero_le _, rfl, rfl, Nat.le_refl _, World.ownsRow_nil _ _ _ _, HW0, Below.refl _ _⟩
  case round =>
    clear HW0
    obtain ⟨k, f, ws, hk, rfl, rfl, hfk, hown, HW, hbe⟩ := hrel
    have hwl := HW.out.len (by omega)
    have HBE := hide hbe
    clear hbe
    by_cases hkl : k = s.size + 1
    · subst hkl
      have HF : Hid (StrRow wr u5 ((pieces s.data.toList).map bytes)) := by
        have e := HW.out.2.2 (by omega)
        rw [← e]
        exact StrRow.owns hown
      clear HW hown
      go_wp2
      go_ret
      exact ⟨_, rfl, HF.out, HBE.out⟩
    · have hk2 : k ≤ s.size := by omega
      by_cases hke : k = s.size
      · subst hke
        have HX : Hid (s.extract f s.size = bytes ((s.data.toList.drop f).take (s.size - f))) := Lib.extract_eq ..
        have HL := hide HW.out.last
        rw [hsl] at HL
        go_wp2_with (at_builtin; refine wpList_append_lies _ rfl _ _ 80 rfl w.heap.size 9 i0 (.string ByteArray.empty) 1 16 (by kernel_rfl) hi hz0 hz1 hz2 rfl (by decide) u5 ws.length (ws.map Value.string) rfl (hown.alloc _) ⟨wr.heap.size, 0, none⟩ 1 1 [.string (s.extract f s.size)] rfl rfl (World.news_of_block (heap_alloc_new wr _)) (fun u hu => by rw [List.mem_singleton] at hu; rw [hu]; rfl) (by decide) (by unfold maxLen; omega) (by omega) (by simp; have := HBE.out.size; omega) (wr.heap.size + 1) (by simp) ?_)
        intro g cap w3 hown3 hgrow3 hat3 hlt3
        have HO3 : Hid (w3.ownsRow w.heap.size 9 1 (.slice (some ⟨g, 0, none⟩) (ws.length + 1) cap) (ws ++ [bytes ((s.data.toList.drop f).take (s.size - f))]).length ((ws ++ [bytes ((s.data.toList.drop f).take (s.size - f))]).map Value.string)) := by
          rw [HX.out] at hown3
          rw [List.length_append, List.length_singleton, List.map_append]
          exact hown3
        have HB3 := hide (HBE.out.trans (below_app hown HBE.out.size hgrow3))
        clear hown hown3 hgrow3 hat3 hlt3 HX HBE HW
        go_wp2
        go_roundw
        case rel => exact ⟨s.size + 1, s.size + 1, _, by omega, by go_num, by go_num, Nat.le_refl _, HO3.out, HL, HB3.out⟩
        case measure => simp [intOf]
      · have hk3 : k < s.size := by omega
        have hk4 : k < s.data.toList.length := hk3
        have eb : ((s[k]'hk3).toNat : Int) = (s.data.toList[k].toNat : Int) := rfl
        have hne : ((k : Int) == (s.size : Int)) = false := by rw [beq_eq_false_iff_ne]; omega
        by_cases h32 : s.data.toList[k] = 32
        · have HX : Hid (s.extract f k = bytes ((s.data.toList.drop f).take (k - f))) := Lib.extract_eq ..
          have HL := hide (HW.out.hit hk4 h32)
          have e1 : ((s[k]'hk3).toNat : Int) = 32 := by rw [eb, h32]; rfl
          have hk5 : ((k : Int) = (s.size : Int)) = False := by simp; omega
          clear eb h32
          go_wp2_with (at_builtin; refine wpList_append_lies _ rfl _ _ 80 rfl w.heap.size 9 i0 (.string ByteArray.empty) 1 16 (by kernel_rfl) hi hz0 hz1 hz2 rfl (by decide) u5 ws.length (ws.map Value.string) rfl (hown.alloc _) ⟨wr.heap.size, 0, none⟩ 1 1 [.string (s.extract f k)] rfl rfl (World.news_of_block (heap_alloc_new wr _)) (fun u hu => by rw [List.mem_singleton] at hu; rw [hu]; rfl) (by decide) (by unfold maxLen; omega) (by omega) (by simp; have := HBE.out.size; omega) (wr.heap.size + 1) (by simp) ?_)
          intro g cap w3 hown3 hgrow3 hat3 hlt3
          have HO3 : Hid (w3.ownsRow w.heap.size 9 1 (.slice (some ⟨g, 0, none⟩) (ws.length + 1) cap) (ws ++ [bytes ((s.data.toList.drop f).take (k - f))]).length ((ws ++ [bytes ((s.data.toList.drop f).take (k - f))]).map Value.string)) := by
            rw [HX.out] at hown3
            rw [List.length_append, List.length_singleton, List.map_append]
            exact hown3
          have HB3 := hide (HBE.out.trans (below_app hown HBE.out.size hgrow3))
          clear hown hown3 hgrow3 hat3 hlt3 HX HBE HW
          go_wp2
          go_roundw
          case rel => exact ⟨k + 1, k + 1, _, by omega, by go_num, by go_num, Nat.le_refl _, HO3.out, HL, HB3.out⟩
          case measure => simp [intOf]; omega
        · have HL := hide (HW.out.miss hk4 h32)
          have e1 : ((s[k]'hk3).toNat : Int) ≠ 32 := by
            rw [eb]
            intro h
            apply h32
            apply UInt8.toNat_inj.1
            have : (32 : UInt8).toNat = 32 := rfl
            omega
          have e2 : (((s[k]'hk3).toNat : Int) == 32) = false := by rw [beq_eq_false_iff_ne]; exact e1
          have HOW := hide hown
          clear eb h32 HW hown e1
          go_wp2
          go_roundw
          case rel => exact ⟨k + 1, f, ws, by omega, by go_num, rfl, by omega, HOW.out, HL, HBE.out⟩
          case measure => simp [intOf]; omega

end Go.Proofs.YtklhmnejmbgmjabGreatDoor
