/- The reference's words of a text: the pieces between a byte. -/
import Derived.Test.YtjdnhdcaifogmaaGreatDoorBpC
import Derived.Test.YtjdnhdcaifogmaaGreatDoorBpG
import Derived.Test.YtjdnhdcaifogmaaGreatDoorRows
import Derived.Test.YtjdnhdcaifogmaaGreatDoorBgB
import Derived.Test.YtjdnhdcaifogmaaGreatDoorBpL
import Derived.WalkKit
import Derived.WalkSpells
import Derived.WalkLawsBesides
import Derived.Deep.QuietTactic
import Derived.BigQuiet
import Derived.Deep.RegionHeld3
import Derived.Deep.DrawnRows
import Derived.Laws.CopyOwn

namespace Go.Proofs.YtjdnhdcaifogmaaGreatDoor
open Go.RowKit

def pcs (c : UInt8) : List UInt8 → List (List UInt8)
 | [] => [[]]
 | a :: l => if a = c then [] :: pcs c l else (match pcs c l with
  | [] => [[a]]
  | p :: ps => (a :: p) :: ps)

theorem pcs_ne (c : UInt8) (l : List UInt8) : pcs c l ≠ [] := by
 cases l with
 | nil => simp [pcs]
 | cons a l =>
  unfold pcs
  split
  ·simp
  ·split <;> simp

theorem pcs_plain (c : UInt8) (x : List UInt8) (h : c ∉ x) : pcs c x = [x] := by
 induction x with
 | nil => rfl
 | cons a x ih =>
  have hc : a ≠ c := fun e => h (by rw [e]; exact List.mem_cons_self)
  rw [pcs, if_neg hc, ih fun h' => h (List.mem_cons_of_mem _ h')]

theorem pcs_cut (c : UInt8) (x r : List UInt8) (h : c ∉ x) : pcs c (x ++ c :: r) = x :: pcs c r := by
 induction x with
 | nil => rw [List.nil_append, pcs, if_pos rfl]
 | cons a x ih =>
  have hc : a ≠ c := fun e => h (by rw [e]; exact List.mem_cons_self)
  rw [List.cons_append, pcs, if_neg hc, ih fun h' => h (List.mem_cons_of_mem _ h')]

theorem pcs_count (c : UInt8) (L : List UInt8) : (pcs c L).length ≤ L.length + 1 := by
 induction L with
 | nil => simp [pcs]
 | cons a l ih =>
  unfold pcs
  split
  ·simp; omega
  ·split
   ·simp
   ·rename_i e; rw [e] at ih; simp at ih ⊢; omega

theorem pcs_size (c : UInt8) (L : List UInt8) : ∀ p ∈ pcs c L, p.length ≤ L.length := by
 induction L with
 | nil => intro p hp; simp [pcs] at hp; rw [hp]; exact Nat.le_refl _
 | cons a l ih =>
  intro p hp
  unfold pcs at hp
  split at hp
  ·rcases List.mem_cons.1 hp with rfl | hp
   ·simp
   ·have := ih p hp; simp; omega
  ·split at hp
   ·rw [List.mem_singleton] at hp; rw [hp]; simp
   ·rename_i q qs e
    rcases List.mem_cons.1 hp with rfl | hp
    ·have := ih q (by rw [e]; exact List.mem_cons_self); simp; omega
    ·have := ih p (by rw [e]; exact List.mem_cons_of_mem _ hp); simp; omega

def WInvC (c : UInt8) (L : List UInt8) (k f : Nat) (ws : List ByteArray) : Prop :=
 f ≤ k ∧ (k ≤ L.length → (pcs c L).map bytesP = ws ++ (pcs c (L.drop f)).map bytesP ∧ c ∉ (L.drop f).take (k - f)) ∧ (k = L.length + 1 → ws = (pcs c L).map bytesP)

theorem WInvC.start (c : UInt8) (L : List UInt8) : WInvC c L 0 0 [] := ⟨Nat.le_refl _, fun _ => ⟨by simp, by simp⟩, fun h => absurd h (by omega)⟩

theorem WInvC.len {c : UInt8} {L : List UInt8} {k f : Nat} {ws : List ByteArray} (h : WInvC c L k f ws) (hk1 : k ≤ L.length + 1) : ws.length ≤ L.length + 1 := by
 have hp := pcs_count c L
 obtain ⟨-, h1, h2⟩ := h
 by_cases hk : k ≤ L.length
 ·have := congrArg List.length (h1 hk).1
  rw [List.length_map, List.length_append] at this
  omega
 ·rw [h2 (by omega), List.length_map]; exact hp

theorem WInvC.last {c : UInt8} {L : List UInt8} {f : Nat} {ws : List ByteArray} (h : WInvC c L L.length f ws) : WInvC c L (L.length + 1) (L.length + 1) (ws ++ [bytesP ((L.drop f).take (L.length - f))]) := by
 obtain ⟨h0, h1, -⟩ := h
 obtain ⟨h2, h3⟩ := h1 (Nat.le_refl _)
 refine ⟨Nat.le_refl _, fun h => absurd h (by omega), fun _ => ?_⟩
 have e : (L.drop f).take (L.length - f) = L.drop f := List.take_of_length_le (by rw [List.length_drop]; exact Nat.le_refl _)
 rw [e] at h3 ⊢
 rw [h2, pcs_plain _ _ h3]
 rfl

theorem WInvC.hit {c : UInt8} {L : List UInt8} {k f : Nat} {ws : List ByteArray} (h : WInvC c L k f ws) (hk : k < L.length) (h32 : L[k] = c) : WInvC c L (k + 1) (k + 1) (ws ++ [bytesP ((L.drop f).take (k - f))]) := by
 obtain ⟨h0, h1, -⟩ := h
 obtain ⟨h2, h3⟩ := h1 (Nat.le_of_lt hk)
 refine ⟨Nat.le_refl _, fun _ => ⟨?_, by simp⟩, fun h => absurd h (by omega)⟩
 have e : L.drop f = (L.drop f).take (k - f) ++ c :: L.drop (k + 1) := by
  conv => lhs; rw [← List.take_append_drop (k - f) (L.drop f)]
  congr 1
  rw [List.drop_drop, show f + (k - f) = k by omega, List.drop_eq_getElem_cons hk, h32]
 rw [h2]
 conv => lhs; rw [e, pcs_cut _ _ _ h3]
 simp

theorem WInvC.miss {c : UInt8} {L : List UInt8} {k f : Nat} {ws : List ByteArray} (h : WInvC c L k f ws) (hk : k < L.length) (h32 : L[k] ≠ c) : WInvC c L (k + 1) f ws := by
 obtain ⟨h0, h1, -⟩ := h
 obtain ⟨h2, h3⟩ := h1 (Nat.le_of_lt hk)
 refine ⟨by omega, fun _ => ⟨h2, ?_⟩, fun h => absurd h (by omega)⟩
 have hl : k - f < (L.drop f).length := by rw [List.length_drop]; omega
 rw [show k + 1 - f = (k - f) + 1 by omega, List.take_succ_eq_append_getElem hl]
 intro hm
 rcases List.mem_append.1 hm with h' | h'
 ·exact h3 h'
 ·rw [List.mem_singleton, List.getElem_drop] at h'
  have e : f + (k - f) = k := by omega
  simp only [e] at h'
  exact h32 h'.symm

def StrsN (w : World) (v : Value) (ss : List ByteArray) : Prop :=
 ∃ ao cap, v = .slice ao ss.length cap ∧ ss.length ≤ cap ∧ (0 < ss.length → ∃ b off, ao = some ⟨b, off, none⟩ ∧ b < w.heap.size ∧ ∀ i s, ss[i]? = some s → w.cell? ⟨b, off + i, none⟩ = some (.string s))

theorem StrsN.below {w w' : World} {v : Value} {ss : List ByteArray} (h : StrsN w v ss) (hb : Below w.heap.size w w') : StrsN w' v ss := by
 obtain ⟨ao, cap, e, hn, h⟩ := h
 refine ⟨ao, cap, e, hn, fun h0 => ?_⟩
 obtain ⟨b, off, e, hlt, h⟩ := h h0
 exact ⟨b, off, e, Nat.lt_of_lt_of_le hlt hb.size, fun i p hp => (hb.cell (p := ⟨b, off + i, none⟩) hlt).trans (h i p hp)⟩

theorem StrsN.at {w : World} {v : Value} {ss : List ByteArray} (h : StrsN w v ss) {k : Nat} {s : ByteArray} (hs : ss[k]? = some s) : ∃ b off cap, v = .slice (some ⟨b, off, none⟩) ss.length cap ∧ b < w.heap.size ∧ w.cell? ⟨b, off + k, none⟩ = some (.string s) := by
 obtain ⟨ao, cap, rfl, -, hh⟩ := h
 obtain ⟨b, off, rfl, hlt, hc⟩ := hh (by have := (List.getElem?_eq_some_iff.1 hs).1; omega)
 exact ⟨b, off, cap, rfl, hlt, hc k s hs⟩

theorem strs_of_owns {W : World} {base : Nat} {v : Value} {ss : List ByteArray} (h : W.ownsRow base 9 1 v ss.length (ss.map Value.string)) : StrsN W v ss := by
 obtain ⟨o, c, rfl, hle⟩ := owns_form h
 refine ⟨o, c, rfl, hle, fun h0 => ?_⟩
 rcases h.2 with ⟨e', e0⟩ | ⟨g, cap, cur, e', -, hg, -⟩
 ·omega
 ·simp only [Value.slice.injEq, true_and] at e'
  obtain ⟨rfl, rfl⟩ := e'
  refine ⟨g, 0, rfl, heap_lt hg, fun i s hi => ?_⟩
  have := World.ownsRow.cells (g := g) h rfl i (.string s) (by rw [List.getElem?_map, hi]; rfl)
  rw [Go.WideShapes.add_plain] at this
  exact this

theorem Tryz.infoStrQ : (Tryz.prog.info? 9).map (fun i => (i.zero, i.size, i.bytes)) = some (some (.string ⟨#[]⟩), 1, 16) := by kernel_rfl

theorem str_snoc (W : World) (base : Nat) (hbase : base ≤ W.heap.size) (v : Value) (ss : List ByteArray) (h : W.ownsRow base 9 1 v ss.length (ss.map Value.string)) (s : ByteArray) (hn : ss.length ≤ 1000000) :
  ∃ o c W', (Builtin.append_ #[72, 72] 72 #[v, .slice (some ⟨W.heap.size, 0, none⟩) 1 1]).run Tryz.prog (W.alloc (.cells #[.string s] 9)) = .ok (.slice o (ss.length + 1) c) W' ∧ W'.ownsRow base 9 1 (.slice o (ss.length + 1) c) (ss ++ [s]).length ((ss ++ [s]).map Value.string) ∧ Below base W W' := by
 obtain ⟨j0, hj, hy0, hy1, hy2⟩ := info_got Tryz.infoStrQ
 obtain ⟨o, c, W', hr, hown, hb⟩ := own_snoc (P := Tryz.prog) W base hbase 72 72 9 j0 _ 1 16 (by kernel_rfl) hj hy0 hy1 hy2 rfl (by decide) v ss.length _ h #[.string s] 9 rfl (fun y hy => by
  rw [List.mem_singleton] at hy
  rw [hy]; rfl) (by unfold maxLen; omega) (by omega)
 refine ⟨o, c, W', hr, ?_, hb⟩
 rw [List.length_append, List.map_append]
 exact hown

set_option linter.unusedSimpArgs false in
set_option maxRecDepth 100000 in
set_option maxHeartbeats 1600000 in
theorem wordsC_any (w : World) (s : ByteArray) (c : UInt8) (hs : s.size ≤ 100000) :
  Calls Tryz.prog 27 #[.string s, .int .u8 (c.toNat : Int)] w fun e w' => ∃ v, e = .returned v ∧ StrsN w' v ((pcs c s.data.toList).map bytesP) ∧ Below w.heap.size w w' := by
 have HW0 := hide (WInvC.start c s.data.toList)
 have hsl : s.data.toList.length = s.size := rfl
 go_enter Tryz.func27, Tryz.ntmps27
 go_wp2
 go_loopw [5, 6, 7] (fun l fr i wr => ∃ (k f : Nat) (ws : List ByteArray), k ≤ s.size + 1 ∧ i = .int .i64 k ∧ fr = .int .i64 f ∧ f ≤ k ∧ Hid (wr.ownsRow w.heap.size 9 1 l ws.length (ws.map Value.string)) ∧ Hid (WInvC c s.data.toList k f ws) ∧ Hid (Below w.heap.size w wr)) (fun _ _ i _ => s.size + 1 - (intOf i).toNat)
 case atStart => exact ⟨0, 0, [], Nat.zero_le _, rfl, rfl, Nat.le_refl _, World.ownsRow_nil _ _ _ _, HW0, Below.refl _ _⟩
 case round =>
  clear HW0
  obtain ⟨k, f, ws, hk, rfl, rfl, hfk, HOWN, HW, HBE⟩ := hrel
  have hwl := HW.out.len (by omega)
  by_cases hkl : k = s.size + 1
  ·subst hkl
   have HF : Hid (StrsN wr u5 ((pcs c s.data.toList).map bytesP)) := by
    have e := HW.out.2.2 (by omega)
    rw [← e]
    exact strs_of_owns HOWN.out
   clear HW HOWN
   go_wp2
   go_ret
   exact ⟨_, rfl, HF.out, HBE.out⟩
  ·have hk2 : k ≤ s.size := by omega
   by_cases hke : k = s.size
   ·subst hke
    have HX : Hid (s.extract f s.size = bytesP ((s.data.toList.drop f).take (s.size - f))) := Lib.extract_eq ..
    have hl := HW.out.last
    rw [hsl, ← HX.out] at hl
    have HL := hide hl
    obtain ⟨o', c', w3, hr, hown3, hb3⟩ := str_snoc wr w.heap.size HBE.out.size u5 ws HOWN.out (s.extract f s.size) (by omega)
    have HR := hide hr; have HO3 := hide hown3; have HB3 := hide (HBE.out.trans hb3)
    clear hr hown3 hb3 hl HX HBE HW HOWN
    go_wp2_with (at_builtin; refine Lib.wpList_append_run _ rfl _ _ _ _ rfl _ _ rfl rfl _ _ HR.out ?_)
    go_roundw
    case rel => exact ⟨s.size + 1, s.size + 1, _, by omega, by go_num, by go_num, Nat.le_refl _, HO3.out, HL, HB3.out⟩
    case measure => simp [intOf]
   ·have hk3 : k < s.size := by omega
    have hk4 : k < s.data.toList.length := hk3
    have eb : ((s[k]'hk3).toNat : Int) = (s.data.toList[k].toNat : Int) := rfl
    have hne : ((k : Int) == (s.size : Int)) = false := by rw [beq_eq_false_iff_ne]; omega
    by_cases h32 : s.data.toList[k] = c
    ·have HX : Hid (s.extract f k = bytesP ((s.data.toList.drop f).take (k - f))) := Lib.extract_eq ..
     have hl := HW.out.hit hk4 h32
     rw [← HX.out] at hl
     have HL := hide hl
     have e1 : ((s[k]'hk3).toNat : Int) = (c.toNat : Int) := by rw [eb, h32]
     have hk5 : ((k : Int) = (s.size : Int)) = False := by simp; omega
     obtain ⟨o', c', w3, hr, hown3, hb3⟩ := str_snoc wr w.heap.size HBE.out.size u5 ws HOWN.out (s.extract f k) (by omega)
     have HR := hide hr; have HO3 := hide hown3; have HB3 := hide (HBE.out.trans hb3)
     clear hr hown3 hb3 hl HX HBE HW HOWN eb h32
     go_wp2_with (at_builtin; refine Lib.wpList_append_run _ rfl _ _ _ _ rfl _ _ rfl rfl _ _ HR.out ?_)
     go_roundw
     case rel => exact ⟨k + 1, k + 1, _, by omega, by go_num, by go_num, Nat.le_refl _, HO3.out, HL, HB3.out⟩
     case measure => simp [intOf]; omega
    ·have HL := hide (HW.out.miss hk4 h32)
     have e1 : ((s[k]'hk3).toNat : Int) ≠ (c.toNat : Int) := by
      rw [eb]
      intro h
      apply h32
      apply UInt8.toNat_inj.1
      omega
     have e2 : (((s[k]'hk3).toNat : Int) == (c.toNat : Int)) = false := by rw [beq_eq_false_iff_ne]; exact e1
     have e3 : ((s[k]'hk3).toNat == c.toNat) = false := by rw [beq_eq_false_iff_ne]; omega
     clear eb h32 HW e1
     go_wp2
     go_roundw
     case rel => exact ⟨k + 1, f, ws, by omega, by go_num, rfl, by omega, HOWN, HL, HBE⟩
     case measure => simp [intOf]; omega

end Go.Proofs.YtjdnhdcaifogmaaGreatDoor

/- The leaves: one limb, its sums, orders. Conditions: the slices hold limbs. -/
namespace Go.Proofs.YtjdnhdcaifogmaaGreatDoor
open Go.RowKit Limbs

def Lim (w : World) (v : Value) (zs : List Int) : Prop :=
 ∃ ao cap, v = .slice ao zs.length cap ∧ zs.length ≤ cap ∧ zs.length ≤ 1000000 ∧ LB zs ∧
  (0 < zs.length → ∃ b off, ao = some ⟨b, off, none⟩ ∧ b < w.heap.size ∧ ∀ i, i < zs.length → w.cell? ⟨b, off + i, none⟩ = some (.int .u32 (zs.getD i 0)))

theorem Lim.below {B : Nat} {w w' : World} {v : Value} {zs : List Int} (h : Lim w v zs) (hb : Below B w w') (hB : w.heap.size ≤ B) : Lim w' v zs := by
 obtain ⟨ao, cap, hv, h1, h2, h3, h4⟩ := h
 refine ⟨ao, cap, hv, h1, h2, h3, fun h0 => ?_⟩
 obtain ⟨b, off, e, hlt, hc⟩ := h4 h0
 exact ⟨b, off, e, Nat.lt_of_lt_of_le hlt hb.size, fun i hi => (hb.cell (p := ⟨b, off + i, none⟩) (Nat.lt_of_lt_of_le hlt hB)).trans (hc i hi)⟩

def cmpI (a b : Int) : Int := if a < b then -1 else if b < a then 1 else 0

def bor (x y : Int) : Int := if x < y then 1 else 0

end Go.Proofs.YtjdnhdcaifogmaaGreatDoor

/- Limbs without noughts behind; the order of limbs. -/
namespace Go.Proofs.YtjdnhdcaifogmaaGreatDoor
open Go.RowKit Limbs

def lenOf : Value → Nat | .slice _ n _ => n | _ => 0

theorem Lim.take {w : World} {ao : Option Addr} {cap : Nat} {zs : List Int} (h : Lim w (.slice ao zs.length cap) zs) (n : Nat) (hn : n ≤ zs.length) : Lim w (.slice ao n cap) (zs.take n) := by
 obtain ⟨ao', cap', hv, h1, h2, h3, h4⟩ := h
 simp only [Value.slice.injEq, true_and] at hv
 obtain ⟨rfl, rfl⟩ := hv
 have hl : (zs.take n).length = n := by rw [List.length_take]; omega
 refine ⟨ao, cap, by rw [hl], by omega, by omega, LB_take h3 n, fun h0 => ?_⟩
 obtain ⟨b, off, e, hlt, hc⟩ := h4 (by omega)
 refine ⟨b, off, e, hlt, fun i hi => ?_⟩
 rw [hc i (by omega), getD_take zs n i (by omega)]

theorem nrm_take {zs : List Int} {n : Nat} (hn : n ≤ zs.length) (h : n = 0 ∨ zs.getD (n - 1) 0 ≠ 0) : Nrm (zs.take n) := by
 have hl : (zs.take n).length = n := by rw [List.length_take]; omega
 unfold Nrm
 rw [hl]
 rcases h with h | h
 ·exact .inl h
 ·by_cases h0 : n = 0
  ·exact .inl h0
  ·right
   rw [getD_take zs n (n - 1) (by omega)]
   exact h

def TrimPost (w : World) (ao : Option Addr) (cap : Nat) (zs : List Int) (e : Ending) (w' : World) : Prop :=
 ∃ m, m ≤ zs.length ∧ e = .returned (.slice ao m cap) ∧ lv (zs.take m) = lv zs ∧ Nrm (zs.take m) ∧ w' = w

theorem cmpI_lt {a b : Int} (h : a < b) : cmpI a b = -1 := by unfold cmpI; rw [if_pos h]
theorem cmpI_gt {a b : Int} (h : b < a) : cmpI a b = 1 := by unfold cmpI; rw [if_neg (by omega), if_pos h]
theorem cmpI_eq {a b : Int} (h : a = b) : cmpI a b = 0 := by unfold cmpI; rw [if_neg (by omega), if_neg (by omega)]

theorem drop_step {a b : List Int} (hl : a.length = b.length) {k : Nat} (hk : k < a.length) (hd : a.drop (k + 1) = b.drop (k + 1)) (hx : a.getD k 0 = b.getD k 0) : a.drop k = b.drop k := by
 rw [drop_cons_getD a k hk, drop_cons_getD b k (by omega), hd, hx]

theorem ret_i64 {a b : Int} (h : a = b) : Ending.returned (.int .i64 a) = .returned (.int .i64 b) := by rw [h]

def CmpPost (w : World) (r : Int) (e : Ending) (w' : World) : Prop := e = .returned (.int .i64 r) ∧ Below w.heap.size w w'

theorem below_drewN {B : Nat} {w w' : World} (h : Below B w w') (n : Nat) : Below B w (w'.drewN n) := ⟨h.os, h.tape, h.output, h.size, h.block⟩

end Go.Proofs.YtjdnhdcaifogmaaGreatDoor

/- Sums and differences of limbs. -/
namespace Go.Proofs.YtjdnhdcaifogmaaGreatDoor
open Go.RowKit Limbs

def Row (w : World) (g : Nat) (zs : List Int) : Prop :=
 g < w.heap.size ∧ LB zs ∧ ∀ j, j < zs.length → w.cell? ⟨g, j, none⟩ = some (.int .u32 (zs.getD j 0)) ∧ w.frozen? ⟨g, j, none⟩ = false

theorem Row.made (w : World) (m : Nat) : Row (w.alloc (.cells (madeCells #[.int .u32 0] m) 143)) w.heap.size (List.replicate m 0) := by
 refine ⟨by simp, LB_replicate m, fun j hj => ⟨?_, World.frozen?_alloc_new _ _ _ _⟩⟩
 rw [List.length_replicate] at hj
 rw [World.cell?_alloc_new]
 simp [madeCells, hj, Nat.mod_one, List.getD_eq_getElem?_getD]

theorem Row.store {w : World} {g : Nat} {zs : List Int} (h : Row w g zs) {k : Nat} (hk : k < zs.length) {z : Int} (hz : 0 ≤ z ∧ z < 4294967296) : Row (w.setCell ⟨g, k, none⟩ (.int .u32 z)) g (zs.set k z) := by
 obtain ⟨h1, h2, h3⟩ := h
 refine ⟨by simpa [World.setCell] using h1, LB_set h2 k hz, fun j hj => ?_⟩
 rw [List.length_set] at hj
 obtain ⟨c1, c2⟩ := h3 j hj
 obtain ⟨c3, c4⟩ := h3 k hk
 rw [World.frozen?_setCell, getD_set zs k j z hk]
 refine ⟨?_, c2⟩
 by_cases e : j = k
 ·subst e
  rw [if_pos rfl]
  exact World.cell?_setCell_same (h := c3) ..
 ·rw [if_neg e, ← c1]
  exact World.cell?_setCell_other (h := fun h => e (congrArg Addr.off h).symm) ..

theorem Row.lim {w : World} {g : Nat} {zs : List Int} (h : Row w g zs) (cap : Nat) (hc : zs.length ≤ cap) (hl : zs.length ≤ 1000000) : Lim w (.slice (some ⟨g, 0, none⟩) zs.length cap) zs := by
 obtain ⟨h1, h2, h3⟩ := h
 exact ⟨_, cap, rfl, hc, hl, h2, fun _ => ⟨g, 0, rfl, h1, fun i hi => by rw [Nat.zero_add]; exact (h3 i hi).1⟩⟩

def LimPost (w : World) (z : Int) (n : Nat) (e : Ending) (w' : World) : Prop :=
 ∃ v zs, e = .returned v ∧ Lim w' v zs ∧ lv zs = z ∧ zs.length ≤ n ∧ Below w.heap.size w w'

def AddInv (w wr : World) (a b : List Int) (m k : Nat) (cy : Int) (zs : List Int) : Prop :=
 zs.length = m ∧ Row wr w.heap.size zs ∧ Below w.heap.size w wr ∧ lv (zs.take k) + bp k * cy = lv (a.take k) + lv (b.take k)

theorem AddInv.start (w : World) (a b : List Int) (m : Nat) : AddInv w (w.alloc (.cells (madeCells #[.int .u32 0] m) 143)) a b m 0 0 (List.replicate m 0) :=
 ⟨List.length_replicate, Row.made w m, (Below.refl _ _).alloc (Nat.le_refl _) _, by simp [lv]⟩

theorem AddInv.step {w wr : World} {a b : List Int} {m k : Nat} {cy : Int} {zs : List Int} (h : AddInv w wr a b m k cy zs) (hk : k < m) :
  AddInv w (wr.setCell ⟨w.heap.size, k, none⟩ (.int .u32 ((a.getD k 0 + b.getD k 0 + cy) % 4294967296))) a b m (k + 1) ((a.getD k 0 + b.getD k 0 + cy) / 4294967296) (zs.set k ((a.getD k 0 + b.getD k 0 + cy) % 4294967296)) := by
 obtain ⟨h1, h2, h3, h4⟩ := h
 refine ⟨by rw [List.length_set]; exact h1, h2.store (by omega) (by omega), h3.setCell (Nat.le_refl _) _, ?_⟩
 rw [lv_take_succ, lv_take_succ, lv_take_succ, take_set_ge _ _ _ _ (Nat.le_refl _), getD_set _ _ _ _ (by omega), if_pos rfl]
 have e : bp k * ((a.getD k 0 + b.getD k 0 + cy) % 4294967296 + 4294967296 * ((a.getD k 0 + b.getD k 0 + cy) / 4294967296)) = bp k * (a.getD k 0 + b.getD k 0 + cy) := by rw [Int.emod_add_mul_ediv]
 generalize (a.getD k 0 + b.getD k 0 + cy) % 4294967296 = s at *
 generalize (a.getD k 0 + b.getD k 0 + cy) / 4294967296 = c at *
 rw [Int.mul_add, Int.mul_add, Int.mul_add] at e
 have e2 : bp (k + 1) * c = bp k * (4294967296 * c) := by simp only [bp]; rw [Int.mul_comm 4294967296 (bp k), Int.mul_assoc]
 rw [e2]
 omega

theorem AddInv.done {w wr : World} {a b : List Int} {m : Nat} {cy : Int} {zs : List Int} (h : AddInv w wr a b m m cy zs) (hc : 0 ≤ cy ∧ cy ≤ 1) (ha : LB a) (hb : LB b) (la : a.length < m) (lb : b.length < m) : lv zs = lv a + lv b := by
 obtain ⟨h1, h2, h3, h4⟩ := h
 rw [lv_take_ge zs (by omega), lv_take_ge a (by omega), lv_take_ge b (by omega)] at h4
 have e1 := lv_lt ha
 have e2 := lv_lt hb
 have e3 : bp a.length ≤ bp (m - 1) := bp_mono (by omega)
 have e4 : bp b.length ≤ bp (m - 1) := bp_mono (by omega)
 have e5 : bp m = 4294967296 * bp (m - 1) := by rw [← Nat.sub_add_cancel (show 1 ≤ m by omega)]; rfl
 have e6 := lv_nonneg h2.2.1
 have e7 := bp_pos (m - 1)
 rcases (by omega : cy = 0 ∨ cy = 1) with rfl | rfl
 ·omega
 ·omega

def SubInv (w wr : World) (a b : List Int) (m k : Nat) (bw : Int) (zs : List Int) : Prop :=
 zs.length = m ∧ Row wr w.heap.size zs ∧ Below w.heap.size w wr ∧ lv (zs.take k) - bp k * bw = lv (a.take k) - lv (b.take k)

theorem SubInv.start (w : World) (a b : List Int) (m : Nat) : SubInv w (w.alloc (.cells (madeCells #[.int .u32 0] m) 143)) a b m 0 0 (List.replicate m 0) :=
 ⟨List.length_replicate, Row.made w m, (Below.refl _ _).alloc (Nat.le_refl _) _, by simp [lv]⟩

theorem Row.drew {w : World} {g : Nat} {zs : List Int} (h : Row w g zs) : Row w.drew g zs := h

theorem SubInv.drew {w wr : World} {a b : List Int} {m k : Nat} {cy : Int} {zs : List Int} (h : SubInv w wr a b m k cy zs) : SubInv w wr.drew a b m k cy zs :=
 ⟨h.1, h.2.1.drew, h.2.2.1.drew, h.2.2.2⟩

theorem bor_eq (x y c : Int) (hx : 0 ≤ x ∧ x < 4294967296) (hy : 0 ≤ y ∧ y < 4294967296) (hc : 0 ≤ c ∧ c ≤ 1) : (x - y - c) % 4294967296 - 4294967296 * bor x (y + c) = x - y - c := by
 unfold bor; split <;> omega

theorem SubInv.step {w wr : World} {a b : List Int} {m k : Nat} {cy : Int} {zs : List Int} (h : SubInv w wr a b m k cy zs) (hk : k < m) (hc : 0 ≤ cy ∧ cy ≤ 1) (ha : LB a) (hb : LB b) :
  SubInv w (wr.setCell ⟨w.heap.size, k, none⟩ (.int .u32 ((a.getD k 0 - b.getD k 0 - cy) % 4294967296))) a b m (k + 1) (bor (a.getD k 0) (b.getD k 0 + cy)) (zs.set k ((a.getD k 0 - b.getD k 0 - cy) % 4294967296)) := by
 obtain ⟨h1, h2, h3, h4⟩ := h
 refine ⟨by rw [List.length_set]; exact h1, h2.store (by omega) (by omega), h3.setCell (Nat.le_refl _) _, ?_⟩
 rw [lv_take_succ, lv_take_succ, lv_take_succ, take_set_ge _ _ _ _ (Nat.le_refl _), getD_set _ _ _ _ (by omega), if_pos rfl]
 have e : bp k * ((a.getD k 0 - b.getD k 0 - cy) % 4294967296 - 4294967296 * bor (a.getD k 0) (b.getD k 0 + cy)) = bp k * (a.getD k 0 - b.getD k 0 - cy) := by rw [bor_eq _ _ _ (ha k) (hb k) hc]
 generalize (a.getD k 0 - b.getD k 0 - cy) % 4294967296 = s at *
 generalize bor (a.getD k 0) (b.getD k 0 + cy) = c at *
 rw [Int.mul_sub, Int.mul_sub, Int.mul_sub] at e
 have e2 : bp (k + 1) * c = bp k * (4294967296 * c) := by simp only [bp]; rw [Int.mul_comm 4294967296 (bp k), Int.mul_assoc]
 rw [e2]
 omega

theorem SubInv.done {w wr : World} {a b : List Int} {m : Nat} {cy : Int} {zs : List Int} (h : SubInv w wr a b m m cy zs) (hc : 0 ≤ cy ∧ cy ≤ 1) (la : a.length = m) (lb : b.length ≤ m) (hle : lv b ≤ lv a) : lv zs = lv a - lv b := by
 obtain ⟨h1, h2, h3, h4⟩ := h
 rw [lv_take_ge zs (by omega), lv_take_ge a (by omega), lv_take_ge b (by omega)] at h4
 have e1 := lv_lt h2.2.1
 rw [h1] at e1
 rcases (by omega : cy = 0 ∨ cy = 1) with rfl | rfl
 ·omega
 ·omega

end Go.Proofs.YtjdnhdcaifogmaaGreatDoor

/- Products of limbs. -/
namespace Go.Proofs.YtjdnhdcaifogmaaGreatDoor
open Go.RowKit Limbs

def MulInv (w wr : World) (a b : List Int) (i j : Nat) (cy : Int) (zs : List Int) : Prop :=
 zs.length = a.length + b.length ∧ Row wr w.heap.size zs ∧ Below w.heap.size w wr ∧
  lv zs + bp (i + j) * cy = lv (a.take i) * lv b + bp i * (a.getD i 0 * lv (b.take j)) ∧ ∀ t, i + b.length ≤ t → zs.getD t 0 = 0

def MulOut (w wr : World) (a b : List Int) (i : Nat) (zs : List Int) : Prop :=
 zs.length = a.length + b.length ∧ Row wr w.heap.size zs ∧ Below w.heap.size w wr ∧
  lv zs = lv (a.take i) * lv b ∧ ∀ t, i + b.length ≤ t → zs.getD t 0 = 0

theorem getD_replicate (n t : Nat) : (List.replicate n (0 : Int)).getD t 0 = 0 := by
 rw [List.getD_eq_getElem?_getD]
 by_cases h : t < n
 ·simp [h]
 ·simp [h]

theorem MulOut.start (w : World) (a b : List Int) : MulOut w (w.alloc (.cells (madeCells #[.int .u32 0] (a.length + b.length)) 143)) a b 0 (List.replicate (a.length + b.length) 0) :=
 ⟨List.length_replicate, Row.made w _, (Below.refl _ _).alloc (Nat.le_refl _) _, by simp [lv, lv_replicate], fun _ _ => getD_replicate _ _⟩

theorem MulOut.inner {w wr : World} {a b : List Int} {i : Nat} {zs : List Int} (h : MulOut w wr a b i zs) : MulInv w wr a b i 0 0 zs := by
 obtain ⟨h1, h2, h3, h4, h5⟩ := h
 exact ⟨h1, h2, h3, by simp [lv, h4], h5⟩

theorem MulInv.drewN {w wr : World} {a b : List Int} {i j : Nat} {cy : Int} {zs : List Int} (h : MulInv w wr a b i j cy zs) (n : Nat) : MulInv w (wr.drewN n) a b i j cy zs := by
 obtain ⟨h1, h2, h3, h4, h5⟩ := h
 exact ⟨h1, h2, below_drewN h3 n, h4, h5⟩

theorem MulInv.step {w wr : World} {a b : List Int} {i j : Nat} {cy : Int} {zs : List Int} (h : MulInv w wr a b i j cy zs) (hi : i < a.length) (hj : j < b.length) {T : Int} (hT : T = cy + (a.getD i 0 * b.getD j 0 + zs.getD (i + j) 0)) :
  MulInv w (wr.setCell ⟨w.heap.size, i + j, none⟩ (.int .u32 (T % 4294967296))) a b i (j + 1) (T / 4294967296) (zs.set (i + j) (T % 4294967296)) := by
 obtain ⟨h1, h2, h3, h4, h5⟩ := h
 refine ⟨by rw [List.length_set]; exact h1, h2.store (by omega) (by omega), h3.setCell (Nat.le_refl _) _, ?_, fun t ht => ?_⟩
 ·rw [lv_set _ _ _ (by omega), lv_take_succ]
  have e : bp (i + j) * (T % 4294967296 + 4294967296 * (T / 4294967296)) = bp (i + j) * T := by rw [Int.emod_add_mul_ediv]
  have e2 : bp (i + (j + 1)) * (T / 4294967296) = bp (i + j) * (4294967296 * (T / 4294967296)) := by rw [← Nat.add_assoc]; simp only [bp]; rw [Int.mul_comm 4294967296 (bp (i + j)), Int.mul_assoc]
  have e3 : bp (i + j) * (a.getD i 0 * b.getD j 0) = bp i * (a.getD i 0 * (bp j * b.getD j 0)) := by
   rw [bp_add, Int.mul_assoc, Int.mul_left_comm (bp j)]
  rw [e2, Int.mul_sub]
  rw [Int.mul_add] at e
  rw [hT, Int.mul_add, Int.mul_add] at e
  rw [← hT] at e
  rw [Int.mul_add, Int.mul_add]
  omega
 ·rw [getD_set _ _ _ _ (by omega), if_neg (by omega)]
  exact h5 t ht

theorem MulInv.done {w wr : World} {a b : List Int} {i : Nat} {cy : Int} {zs : List Int} (h : MulInv w wr a b i b.length cy zs) (hi : i < a.length) (hc : 0 ≤ cy ∧ cy < 4294967296) :
  MulOut w (wr.setCell ⟨w.heap.size, i + b.length, none⟩ (.int .u32 cy)) a b (i + 1) (zs.set (i + b.length) cy) := by
 obtain ⟨h1, h2, h3, h4, h5⟩ := h
 refine ⟨by rw [List.length_set]; exact h1, h2.store (by omega) hc, h3.setCell (Nat.le_refl _) _, ?_, fun t ht => ?_⟩
 ·rw [lv_set _ _ _ (by omega), lv_take_succ, h5 _ (Nat.le_refl _), Int.sub_zero, h4, List.take_length, Int.add_mul, Int.mul_assoc]
 ·rw [getD_set _ _ _ _ (by omega), if_neg (by omega)]
  exact h5 t (by omega)

end Go.Proofs.YtjdnhdcaifogmaaGreatDoor

/- Numbers: what is made of limbs and a sign. -/
namespace Go.Proofs.YtjdnhdcaifogmaaGreatDoor
open Go.RowKit Limbs

def NumL (w : World) (v : Value) (z : Int) (n : Nat) : Prop :=
 ∃ neg s zs, v = .agg #[.bool neg, s] ∧ Lim w s zs ∧ Nrm zs ∧ (zs.length = 0 → neg = false) ∧ z = (if neg = true then - lv zs else lv zs) ∧ zs.length ≤ n

def NumPost (w : World) (z : Int) (n : Nat) (e : Ending) (w' : World) : Prop :=
 ∃ r, e = .returned r ∧ NumL w' r z n ∧ Below w.heap.size w w'

theorem NumL.below {B : Nat} {w w' : World} {v : Value} {z : Int} {n : Nat} (h : NumL w v z n) (hb : Below B w w') (hB : w.heap.size ≤ B) : NumL w' v z n := by
 obtain ⟨neg, s, zs, h1, h2, h3⟩ := h
 exact ⟨neg, s, zs, h1, h2.below hb hB, h3⟩

theorem NumL.mono {w : World} {v : Value} {z : Int} {n m : Nat} (h : NumL w v z n) (hm : n ≤ m) : NumL w v z m := by
 obtain ⟨neg, s, zs, h1, h2, h3, h4, h5, h6⟩ := h
 exact ⟨neg, s, zs, h1, h2, h3, h4, h5, Nat.le_trans h6 hm⟩

def NewSl (w : World) (s : Value) : Prop := ∀ a l c, s = .slice (some a) l c → w.heap.size ≤ a.block

def IntPost (w : World) (x : Int) (n : Nat) (e : Ending) (w' : World) : Prop := NumPost w x n e w' ∧ ∀ neg s, e = .returned (.agg #[.bool neg, s]) → NewSl w s

theorem NumPost.below {w w0 : World} {z : Int} {n : Nat} {e : Ending} {w' : World} (h : NumPost w z n e w') (hb : Below w0.heap.size w0 w) : NumPost w0 z n e w' := by
 obtain ⟨r, h1, h2, h3⟩ := h
 exact ⟨r, h1, h2, hb.trans (h3.mono hb.size)⟩

def sg (neg : Bool) (z : Int) : Int := if neg = true then - z else z

theorem Lim.setCell {w : World} {v : Value} {zs : List Int} (h : Lim w v zs) {p : Addr} {u x : Value} (hp : w.cell? p = some u) (hu : ∀ z, u ≠ .int .u32 z) : Lim (w.setCell p x) v zs := by
 obtain ⟨ao, cap, hv, h1, h2, h3, h4⟩ := h
 refine ⟨ao, cap, hv, h1, h2, h3, fun h0 => ?_⟩
 obtain ⟨b, off, e, hlt, hc⟩ := h4 h0
 refine ⟨b, off, e, by simpa using hlt, fun i hi => ?_⟩
 have hci := hc i hi
 refine Eq.trans (World.cell?_setCell_other (h := fun e => ?_) ..) hci
 rw [e, hci] at hp
 exact hu _ (Option.some.inj hp).symm

theorem NumL.setCell {w : World} {v : Value} {z : Int} {n : Nat} (h : NumL w v z n) {p : Addr} {u x : Value} (hp : w.cell? p = some u) (hu : ∀ z, u ≠ .int .u32 z) : NumL (w.setCell p x) v z n := by
 obtain ⟨neg, s, zs, h1, h2, h3⟩ := h
 exact ⟨neg, s, zs, h1, h2.setCell hp hu, h3⟩

def Box (w : World) (B : Nat) (u0 u1 : Value) : Prop :=
 w.cell? ⟨B, 0, none⟩ = some u0 ∧ w.cell? ⟨B, 1, none⟩ = some u1 ∧ w.frozen? ⟨B, 0, none⟩ = false ∧ w.frozen? ⟨B, 1, none⟩ = false

theorem box_new (W : World) (u0 u1 : Value) (t : TypeId) (B : Nat) (hB : B = W.heap.size) : Box (W.alloc (.cells #[u0, u1] t)) B u0 u1 := by
 subst hB; simp [Box]

theorem Box.later {W w1 : World} {B C : Nat} {u0 u1 : Value} (h : Box W B u0 u1) (hb : Below C W w1) (hB : B < C) : Box w1 B u0 u1 := by
 obtain ⟨h1, h2, h3, h4⟩ := h
 exact ⟨(hb.cell (p := ⟨B, 0, none⟩) hB).trans h1, (hb.cell (p := ⟨B, 1, none⟩) hB).trans h2, (hb.frozen (p := ⟨B, 0, none⟩) hB).trans h3, (hb.frozen (p := ⟨B, 1, none⟩) hB).trans h4⟩

end Go.Proofs.YtjdnhdcaifogmaaGreatDoor

/- Products, the order of numbers, numbers of 64 bits, nought. -/
namespace Go.Proofs.YtjdnhdcaifogmaaGreatDoor
open Go.RowKit Limbs

theorem Box.drew {w : World} {B : Nat} {u0 u1 : Value} (h : Box w B u0 u1) : Box w.drew B u0 u1 := h

structure Three (w W : World) (a0 a1 b0 b1 r0 r1 : Value) : Prop where
 fst : Box W w.heap.size a0 a1
 snd : Box W (w.heap.size + 1) b0 b1
 res : Box W (w.heap.size + 2) r0 r1
 below : Below w.heap.size w W
 size : w.heap.size + 2 < W.heap.size

theorem three (w : World) (a0 a1 b0 b1 r0 r1 : Value) (t1 t2 t3 : TypeId) : Three w (((w.alloc (.cells #[a0, a1] t1)).alloc (.cells #[b0, b1] t2)).alloc (.cells #[r0, r1] t3)) a0 a1 b0 b1 r0 r1 where
 fst := (box_new w _ _ _ _ rfl).later (((Below.refl _ _).alloc (by simp) _).alloc (by simp) _ : Below (w.heap.size + 1) _ _) (by omega)
 snd := (box_new (w.alloc _) _ _ _ _ (by simp)).later ((Below.refl _ _).alloc (by simp) _ : Below (w.heap.size + 2) _ _) (by omega)
 res := box_new _ _ _ _ _ (by simp)
 below := (((Below.refl _ _).alloc (Nat.le_refl _) _).alloc (by simp) _).alloc (by simp; omega) _
 size := by simp

theorem Three.later {w W W' : World} {a0 a1 b0 b1 r0 r1 : Value} (h : Three w W a0 a1 b0 b1 r0 r1) (hb : Below W.heap.size W W') : Three w W' a0 a1 b0 b1 r0 r1 where
 fst := h.fst.later hb (by have := h.size; omega)
 snd := h.snd.later hb (by have := h.size; omega)
 res := h.res.later hb h.size
 below := h.below.trans (hb.mono h.below.size)
 size := Nat.lt_of_lt_of_le h.size hb.size

theorem Three.drew {w W : World} {a0 a1 b0 b1 r0 r1 : Value} (h : Three w W a0 a1 b0 b1 r0 r1) : Three w W.drew a0 a1 b0 b1 r0 r1 := ⟨h.fst, h.snd, h.res, h.below.drew, h.size⟩

theorem lv_pos {zs : List Int} (h : LB zs) (hn : Nrm zs) (h0 : zs.length ≠ 0) : 0 < lv zs := by
 have h1 := lv_nonneg h
 have h2 := lv_zero_iff h hn
 by_cases e : lv zs = 0
 ·exact absurd (h2.1 e) h0
 ·omega

end Go.Proofs.YtjdnhdcaifogmaaGreatDoor

/- Numbers of 64 bits; what may be. -/
namespace Go.Proofs.YtjdnhdcaifogmaaGreatDoor
open Go.RowKit Limbs

def isNum (neg : Bool) (zs : List Int) : Bool := if zs.length = 0 then !neg else zs.getD (zs.length - 1) 0 != 0

def checked (b : Bool) : Value := if b = true then .nilIface else .iface 71 (.int .i64 3)

end Go.Proofs.YtjdnhdcaifogmaaGreatDoor

/- Limbs in memory of their own; signs turned; differences; likeness. -/
namespace Go.Proofs.YtjdnhdcaifogmaaGreatDoor
open Go.RowKit Limbs

def FreshPost (w : World) (zs : List Int) (e : Ending) (w' : World) : Prop :=
 e = .returned (.slice (some ⟨w.heap.size, 0, none⟩) zs.length zs.length) ∧ Row w' w.heap.size zs ∧ Below w.heap.size w w'

theorem FreshPost.lim {w w' : World} {zs : List Int} (hr : Row w' w.heap.size zs) (hl : zs.length ≤ 1000000) : Lim w' (.slice (some ⟨w.heap.size, 0, none⟩) zs.length zs.length) zs := hr.lim _ (Nat.le_refl _) hl

structure Two (w W : World) (a0 a1 r0 r1 : Value) : Prop where
 fst : Box W w.heap.size a0 a1
 res : Box W (w.heap.size + 1) r0 r1
 below : Below w.heap.size w W
 size : w.heap.size + 1 < W.heap.size

theorem two (w : World) (a0 a1 r0 r1 : Value) (t1 t2 : TypeId) : Two w ((w.alloc (.cells #[a0, a1] t1)).alloc (.cells #[r0, r1] t2)) a0 a1 r0 r1 where
 fst := (box_new w _ _ _ _ rfl).later ((Below.refl _ _).alloc (by simp) _ : Below (w.heap.size + 1) _ _) (by omega)
 res := box_new _ _ _ _ _ (by simp)
 below := ((Below.refl _ _).alloc (Nat.le_refl _) _).alloc (by simp) _
 size := by simp

theorem Two.later {w W W' : World} {a0 a1 r0 r1 : Value} (h : Two w W a0 a1 r0 r1) (hb : Below W.heap.size W W') : Two w W' a0 a1 r0 r1 where
 fst := h.fst.later hb (by have := h.size; omega)
 res := h.res.later hb h.size
 below := h.below.trans (hb.mono h.below.size)
 size := Nat.lt_of_lt_of_le h.size hb.size

theorem Two.drew {w W : World} {a0 a1 r0 r1 : Value} (h : Two w W a0 a1 r0 r1) : Two w W.drew a0 a1 r0 r1 := ⟨h.fst, h.res, h.below.drew, h.size⟩

end Go.Proofs.YtjdnhdcaifogmaaGreatDoor

/- Limbs divided by one limb. -/
namespace Go.Proofs.YtjdnhdcaifogmaaGreatDoor
open Go.RowKit Limbs

def Drawn (w w' : World) : Prop := ∃ nq, w' = w.drewN nq

theorem Row.drewN {w : World} {g : Nat} {zs : List Int} (h : Row w g zs) (n : Nat) : Row (w.drewN n) g zs := h

theorem grown_drewN {w w' : World} {r : Option Nat} (h : w.grownBy w' r) (n : Nat) : w.grownBy (w'.drewN n) r := ⟨h.os, h.tape, h.output, h.size, h.block⟩

theorem grown_set {w w' : World} {g : Nat} (h : w.grownBy w' (some g)) (k : Nat) (u : Value) : w.grownBy (w'.setCell ⟨g, k, none⟩ u) (some g) :=
 ⟨h.os, h.tape, h.output, by simpa using h.size, fun j hj hne => by
  rw [heap_setCell_other _ _ _ _ (fun e => hne (by simp [e]))]
  exact h.block j hj hne⟩

def DivInv (w wr : World) (g : Nat) (b : Int) (zs : List Int) (p : Nat) (r : Int) (qs : List Int) : Prop :=
 qs.length = zs.length ∧ Row wr g qs ∧ w.grownBy wr (some g) ∧ qs.take p = zs.take p ∧ lv (zs.drop p) = b * lv (qs.drop p) + r

theorem DivInv.start {w : World} {g : Nat} {zs : List Int} (h : Row w g zs) (b : Int) : DivInv w w g b zs zs.length 0 zs :=
 ⟨rfl, h, World.grownBy.refl _ _, rfl, by rw [List.drop_length]; simp [lv]⟩

theorem getD_of_take {a b : List Int} {p i : Nat} (h : a.take p = b.take p) (hi : i < p) : a.getD i 0 = b.getD i 0 := by
 rw [← getD_take a p i hi, h, getD_take b p i hi]

theorem DivInv.step {w wr : World} {g : Nat} {b : Int} {zs : List Int} {p : Nat} {r : Int} {qs : List Int} (h : DivInv w wr g b zs (p + 1) r qs) (hp : p < zs.length) {q s : Int} (hq : 0 ≤ q ∧ q < 4294967296) (hs : r * 4294967296 + zs.getD p 0 = b * q + s) (nq : Nat) :
  DivInv w ((wr.drewN nq).setCell ⟨g, p, none⟩ (.int .u32 q)) g b zs p s (qs.set p q) := by
 obtain ⟨h1, h2, h3, h4, h5⟩ := h
 refine ⟨by rw [List.length_set]; exact h1, (h2.drewN nq).store (by omega) hq, grown_set (grown_drewN h3 nq) _ _, ?_, ?_⟩
 ·rw [take_set_ge _ _ _ _ (Nat.le_refl _)]
  have := congrArg (List.take p) h4
  rwa [List.take_take, List.take_take, Nat.min_eq_left (by omega)] at this
 ·rw [drop_cons_getD zs p hp, drop_cons_getD (qs.set p q) p (by rw [List.length_set]; omega), drop_set_lt _ _ _ _ (Nat.lt_succ_self p), getD_set _ _ _ _ (by omega), if_pos rfl]
  simp only [lv]
  rw [h5, Int.mul_add, Int.mul_add]
  have e : b * (4294967296 * lv (qs.drop (p + 1))) = 4294967296 * (b * lv (qs.drop (p + 1))) := by rw [Int.mul_left_comm]
  rw [e]
  omega

def DivOnePost (w : World) (g : Nat) (b : Int) (zs : List Int) (e : Ending) (w' : World) : Prop :=
 ∃ r qs, e = .returned (.int .u32 r) ∧ 0 ≤ r ∧ r < b ∧ qs.length = zs.length ∧ Row w' g qs ∧ w.grownBy w' (some g) ∧ lv zs = b * lv qs + r

end Go.Proofs.YtjdnhdcaifogmaaGreatDoor
