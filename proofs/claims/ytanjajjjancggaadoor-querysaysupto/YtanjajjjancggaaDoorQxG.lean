/- Reading an expression. -/
import Derived.Test.YtanjajjjancggaaDoorQxL
import Derived.Test.YtanjajjjancggaaDoorQxI

namespace Go.Proofs.YtanjajjjancggaaDoor
open Go.RowKit

theorem readX_fill {d : Nat} {l : List UInt8} (h1 : Lib.hasPrefix l [40] = false) (h2 : Lib.hasPrefix l fillP = true) : readX (d + 1) l = match readX d (Lib.trimPrefix l fillP) with
  | none => none
  | some (a, r) => some (.mk 4 0 ⟨#[]⟩ [a], r) := by
 rw [readX, h1, if_neg (by decide), if_pos h2]
 rfl

theorem readX_whole {d : Nat} {l : List UInt8} (h1 : Lib.hasPrefix l [40] = false) (h2 : Lib.hasPrefix l fillP = false) (h3 : Lib.hasPrefix l wholeP = true) : readX (d + 1) l = match numX ((Lib.trimPrefix l wholeP).takeWhile inWord) with
  | none => none
  | some v => some (.mk 5 v ⟨#[]⟩ [], (Lib.trimPrefix l wholeP).dropWhile inWord) := by
 rw [readX, h1, if_neg (by decide), h2, if_neg (by decide), if_pos h3]
 rfl

theorem readX_name {d : Nat} {l : List UInt8} (h1 : Lib.hasPrefix l [40] = false) (h2 : Lib.hasPrefix l fillP = false) (h3 : Lib.hasPrefix l wholeP = false) : readX (d + 1) l = some (.mk 1 0 ⟨(l.takeWhile inWord).toArray⟩ [], l.dropWhile inWord) := by
 rw [readX, h1, if_neg (by decide), h2, if_neg (by decide), h3, if_neg (by decide)]

theorem cut_any (l p : List UInt8) (W : World) : Calls Tryd.prog 31 #[strV l, .string ⟨p.toArray⟩] W fun e w' => e = .returned (.tuple #[strV (Lib.trimPrefix l p), .bool (Lib.hasPrefix l p)]) ∧ w' = W := Tryd.strings_CutPrefix ⟨l.toArray⟩ ⟨p.toArray⟩ W

def WlP (l : List UInt8) (w : World) (e : Ending) (w' : World) : Prop :=
 ∃ a b, l = a ++ b ∧ e = .returned (.tuple #[strV a, strV b]) ∧ Below w.heap.size w w' ∧ (Ascii l → a = l.takeWhile inWord ∧ b = l.dropWhile inWord)

theorem wordL_any (l : List UInt8) (w : World) (hl : l.length ≤ 1000000) : Calls Tryd.prog 33 #[strV l] w fun e w' => WlP l w e w' :=
 (word_any ⟨l.toArray⟩ w (by show l.toArray.size ≤ _; simpa using hl)).mono fun e w' ⟨n, _, h1, h2, h3⟩ => ⟨l.take n, l.drop n, (List.take_append_drop _ _).symm, h1, h2, h3⟩

set_option linter.unusedSimpArgs false in
set_option maxRecDepth 100000 in
set_option maxHeartbeats 3200000 in
theorem read_any : ∀ (D : Nat) (w : World) (l : List UInt8), D ≤ 6 → l.length ≤ 1000000 → ErrQ w → Calls Tryd.prog 22 #[strV l, .int .i64 (D : Int)] w fun e w' => RdP (readX D) l w e w'
 | 0, w, l, _, hl, he => by
  have HX := hide (ExB.new w 0 0 ⟨#[]⟩ (.slice none 0 0)); have HB1 := hide (alloc_below w (.cells #[.int .i64 0, .int .i64 0, .string ⟨#[]⟩, .slice none 0 0] 24))
  have HFIN : Hid (RdP (readX 0) l w (.returned (.tuple #[.agg #[.int .i64 0, .int .i64 0, .string ⟨#[]⟩, .slice none 0 0], .string ⟨#[]⟩, .bool false])) (w.alloc (.cells #[.int .i64 0, .int .i64 0, .string ⟨#[]⟩, .slice none 0 0] 24))) :=
   rdP_none HB1.out (fun _ => rfl)
  obtain ⟨g0, g1, g2, g3, hf⟩ := HX.out.cells
  have f0 := hf 0; have f1 := hf 1; have f2 := hf 2; have f3 := hf 3
  clear hf
  go_enter Tryd.func22, Tryd.ntmps22
  go_wp2
  exact bodyPost_ret (v := .tuple #[.agg #[.int .i64 0, .int .i64 0, .string ⟨#[]⟩, .slice none 0 0], .string ⟨#[]⟩, .bool false]) (by simp [results, Tryd.results22, go_sem, g0, g1, g2, g3]) rfl HFIN.out
 | D + 1, w, l, hD, hl, he => by
  have HREC := hide (fun (W : World) (m : List UInt8) (hm : m.length ≤ 1000000) (hE : ErrQ W) => read_any D W m (by omega) hm hE)
  have HTWO := hide (fun (W : World) (m : List UInt8) (hm : m.length ≤ 1000000) (hE : ErrQ W) => readTwo_of D HREC.out W m hm hE)
  have HX := hide (ExB.new w 0 0 ⟨#[]⟩ (.slice none 0 0)); have HB1 := hide (alloc_below w (.cells #[.int .i64 0, .int .i64 0, .string ⟨#[]⟩, .slice none 0 0] 24)); have HE := hide he
  obtain ⟨W1, hW1⟩ : ∃ W1, w.alloc (.cells #[.int .i64 0, .int .i64 0, .string ⟨#[]⟩, .slice none 0 0] 24) = W1 := ⟨_, rfl⟩
  have hsz1 : W1.heap.size = w.heap.size + 1 := by rw [← hW1]; simp
  rw [hW1] at HX HB1
  have g0 : decide (((D + 1 : Nat) : Int) < 1) = false := decide_eq_false (by omega)
  have g0' : ¬ (((D + 1 : Nat) : Int) < 1) := by omega
  have eD : ((D + 1 : Nat) : Int) - 1 = (D : Int) := by omega
  have HC1 := hide (cut_any l [40] W1); have HC2 := hide (cut_any l fillP W1); have HC3 := hide (cut_any l wholeP W1)
  clear he
  generalize hDD : ((D + 1 : Nat) : Int) = DD at *
  go_enter Tryd.func22, Tryd.ntmps22
  go_wp2_with fail
  refine HC1.out.mono ?_
  rintro e w2 ⟨rfl, hw2⟩
  subst hw2
  clear HC1
  cases hp1 : Lib.hasPrefix l [40] with
  | true =>
   have hs1 := trim_suffix l [40]
   have HP1 := hide hp1; have HS1 := hide hs1
   have htl : (Lib.trimPrefix l [40]).length ≤ 1000000 := by obtain ⟨q, hq⟩ := hs1; have := congrArg List.length hq; rw [List.length_append] at this; omega
   clear hp1 hs1 HC2 HC3
   go_wp2_with fail
   refine (HTWO.out w2 _ htl (HE.out.below HB1.out)).mono ?_
   rintro e w3 ⟨x, cs, r, ok, dd, rfl, hx, hb3, hsuf, hrd⟩
   obtain ⟨k, n, s, o, m, cap, rfl⟩ := hx.agg
   have HX3 := hide (HX.out.later hb3)
   have HFIN : Hid (RdP (readX (D + 1)) l w (.returned (.tuple #[.agg #[.int .i64 k, .int .i64 n, .string s, .slice o m cap], strV r, .bool ok])) (put4 w3 w.heap.size k n s (.slice o m cap))) := by
    refine ⟨x, exC k n s (.slice o m cap), r, ok, dd, rfl, hx.put (by omega) _ (by omega) _ _ _ _, put4_below (HB1.out.trans (hb3.mono HB1.out.size)) (Nat.le_refl _) _ _ _ _, ?_, fun h => ?_⟩
    ·obtain ⟨p, hp⟩ := HS1.out
     obtain ⟨q, hq⟩ := hsuf
     exact ⟨p ++ q, by rw [List.append_assoc, ← hq]; exact hp⟩
    ·rw [readX_two HP1.out]
     obtain ⟨p, hp⟩ := HS1.out
     rw [hp] at h
     exact hrd h.tail
   obtain ⟨c0, c1, c2, c3, hf⟩ := HX3.out.cells
   have f0 := hf 0; have f1 := hf 1; have f2 := hf 2; have f3 := hf 3
   clear g0 g0'
   obtain ⟨g0, g1, g2, g3, -⟩ := (HX3.out.put k n s (.slice o m cap)).cells
   clear hf hx hb3 hsuf hrd
   go_wp2
   exact bodyPost_ret (v := .tuple #[.agg #[.int .i64 k, .int .i64 n, .string s, .slice o m cap], strV r, .bool ok]) (by simp [results, Tryd.results22, go_sem, g0, g1, g2, g3]) rfl HFIN.out
  | false =>
   have HP1 := hide hp1
   clear hp1
   go_wp2_with fail
   refine HC2.out.mono ?_
   rintro e w3 ⟨rfl, hw3⟩
   subst hw3
   clear HC2
   cases hp2 : Lib.hasPrefix l fillP with
   | true =>
    have hs1 := trim_suffix l fillP
    have HP2 := hide hp2; have HS1 := hide hs1
    have htl : (Lib.trimPrefix l fillP).length ≤ 1000000 := by obtain ⟨q, hq⟩ := hs1; have := congrArg List.length hq; rw [List.length_append] at this; omega
    obtain ⟨l2, hl2⟩ : ∃ x, Lib.trimPrefix l fillP = x := ⟨_, rfl⟩
    rw [hl2] at htl HS1 ⊢
    have HL2 := hide hl2
    clear hp2 hs1 HC3 hl2
    go_wp2_with fail
    refine (HREC.out w3 _ htl (HE.out.below HB1.out)).mono ?_
    rintro e w4 ⟨x, cs, r, ok, dd, rfl, hx, hb4, hsuf, hrd⟩
    obtain ⟨k, n, s, o, m, cap, rfl⟩ := hx.agg
    have hb5 := alloc_below w4 (.cells #[.int .i64 k, .int .i64 n, .string s, .slice o m cap] 24)
    have HY5 := hide (ExB.new w4 k n s (.slice o m cap))
    obtain ⟨W5, hW5⟩ : ∃ W5, w4.alloc (.cells #[.int .i64 k, .int .i64 n, .string s, .slice o m cap] 24) = W5 := ⟨_, rfl⟩
    rw [hW5] at hb5 HY5
    have hb6 := alloc_below W5 (.cells #[.int .i64 k, .int .i64 n, .string s, .slice o m cap] 24)
    have hh6 := heap_alloc_new W5 (.cells #[.int .i64 k, .int .i64 n, .string s, .slice o m cap] 24)
    obtain ⟨W6, hW6⟩ : ∃ W6, W5.alloc (.cells #[.int .i64 k, .int .i64 n, .string s, .slice o m cap] 24) = W6 := ⟨_, rfl⟩
    rw [hW6] at hb6 hh6
    have hb56 := hb5.trans (hb6.mono hb5.size)
    have hb46 := hb4.trans (hb56.mono hb4.size)
    have HX6 := hide (HX.out.later hb46)
    have hsz5 : w.heap.size + 1 ≤ W5.heap.size := by have := hb4.size; have := hb5.size; omega
    have HFIN : Hid (RdP (readX (D + 1)) l w (.returned (.tuple #[.agg #[.int .i64 4, .int .i64 0, .string ⟨#[]⟩, .slice (some ⟨W5.heap.size, 0, none⟩) 1 1], strV r, .bool ok])) (put4 W6 w.heap.size 4 0 ⟨#[]⟩ (.slice (some ⟨W5.heap.size, 0, none⟩) 1 1))) := by
     refine ⟨.mk 4 0 ⟨#[]⟩ [x], exC 4 0 ⟨#[]⟩ (.slice (some ⟨W5.heap.size, 0, none⟩) 1 1), r, ok, dd + 1, rfl, ?_, put4_below (HB1.out.trans (hb46.mono HB1.out.size)) (Nat.le_refl _) _ _ _ _, ?_, fun h => ?_⟩
     ·exact (ExF.one (t := 24) (hx.later (Nat.le_refl _) hb56) 4 0 ⟨#[]⟩ (by omega) hh6).put (by omega) _ (by omega) _ _ _ _
     ·obtain ⟨p, hp⟩ := HS1.out
      obtain ⟨q, hq⟩ := hsuf
      exact ⟨p ++ q, by rw [List.append_assoc, ← hq]; exact hp⟩
     ·rw [readX_fill HP1.out HP2.out, HL2.out]
      obtain ⟨p, hp⟩ := HS1.out
      rw [hp] at h
      rw [hrd h.tail]
      cases ok <;> rfl
    obtain ⟨a0, a1, a2, a3, -⟩ := HY5.out.cells
    obtain ⟨c0, c1, c2, c3, hf⟩ := HX6.out.cells
    have f0 := hf 0; have f1 := hf 1; have f2 := hf 2; have f3 := hf 3
    clear g0 g0'
    obtain ⟨g0, g1, g2, g3, -⟩ := (HX6.out.put 4 0 ⟨#[]⟩ (.slice (some ⟨W5.heap.size, 0, none⟩) 1 1)).cells
    clear hf hx hb4 hb5 hb6 hb56 hb46 hh6 hsuf hrd
    go_wp2
    exact bodyPost_ret (v := .tuple #[.agg #[.int .i64 4, .int .i64 0, .string ⟨#[]⟩, .slice (some ⟨W5.heap.size, 0, none⟩) 1 1], strV r, .bool ok]) (by simp [results, Tryd.results22, go_sem, g0, g1, g2, g3]) rfl HFIN.out
   | false =>
    have HP2 := hide hp2
    clear hp2
    go_wp2_with fail
    refine HC3.out.mono ?_
    rintro e w4 ⟨rfl, hw4⟩
    subst hw4
    clear HC3
    cases hp3 : Lib.hasPrefix l wholeP with
    | true =>
     have hs1 := trim_suffix l wholeP
     have HP3 := hide hp3; have HS1 := hide hs1
     have htl : (Lib.trimPrefix l wholeP).length ≤ 1000000 := by obtain ⟨q, hq⟩ := hs1; have := congrArg List.length hq; rw [List.length_append] at this; omega
     obtain ⟨l2, hl2⟩ : ∃ x, Lib.trimPrefix l wholeP = x := ⟨_, rfl⟩
     rw [hl2] at htl HS1 ⊢
     have HL2 := hide hl2
     clear hp3 hs1 hl2
     go_wp2_with fail
     refine (wordL_any l2 w4 htl).mono ?_
     rintro e w5 ⟨a, b, hab, rfl, hb5, hasc⟩
     have hal : a.length ≤ 1000000 := by rw [hab, List.length_append] at htl; omega
     have HAB := hide hab; have HASC := hide hasc; have HB5 := hide hb5
     clear hab hasc hb5
     go_wp2_with fail
     refine (atoiQ w5 ((HE.out.below HB1.out).below HB5.out) ⟨a.toArray⟩ (by show a.toArray.size ≤ _; simpa using hal)).mono ?_
     rintro e w6 ⟨z, ev, rfl, hb6, hz⟩
     have hb46 := HB5.out.trans (hb6.mono HB5.out.size)
     have HX6 := hide (HX.out.later hb46)
     obtain ⟨ok, hok⟩ : ∃ ok : Bool, (ok = true ∧ Lib.atoiAll a = .ok z ∧ ev = .nilIface) ∨ (ok = false ∧ (∀ v, Lib.atoiAll a ≠ .ok v) ∧ ∃ te pe, ev = .iface te pe) := by
      rcases hz with ⟨h1, h2⟩ | ⟨h1, h2⟩
      ·exact ⟨true, .inl ⟨rfl, h1, h2⟩⟩
      ·exact ⟨false, .inr ⟨rfl, h1, h2⟩⟩
     have HFIN : Hid (∀ W, W = put4 w6 w.heap.size 5 z ⟨#[]⟩ (.slice none 0 0) ∨ W = put4 w6.drew w.heap.size 5 z ⟨#[]⟩ (.slice none 0 0) → RdP (readX (D + 1)) l w (.returned (.tuple #[.agg #[.int .i64 5, .int .i64 z, .string ⟨#[]⟩, .slice none 0 0], strV b, .bool ok])) W) := by
      intro W hW
      have hbW : Below w.heap.size w W := by
       rcases hW with rfl | rfl
       ·exact put4_below (HB1.out.trans (hb46.mono HB1.out.size)) (Nat.le_refl _) _ _ _ _
       ·exact put4_below (HB1.out.trans (hb46.mono HB1.out.size)).drew (Nat.le_refl _) _ _ _ _
      refine ⟨.mk 5 z ⟨#[]⟩ [], exC 5 z ⟨#[]⟩ (.slice none 0 0), b, ok, 1, rfl, ExF.leaf _ _ _ _ _, hbW, ?_, fun h => ?_⟩
      ·obtain ⟨p, hp⟩ := HS1.out
       exact ⟨p ++ a, by rw [List.append_assoc, ← HAB.out]; exact hp⟩
      ·rw [readX_whole HP1.out HP2.out HP3.out, HL2.out]
       obtain ⟨p, hp⟩ := HS1.out
       rw [hp] at h
       obtain ⟨e1, e2⟩ := HASC.out h.tail
       rw [← e1, ← e2]
       unfold numX
       rcases hok with ⟨rfl, h1, -⟩ | ⟨rfl, h1, -⟩
       ·rw [h1]; rfl
       ·cases hat : Lib.atoiAll a with
        | ok v => exact absurd hat (h1 v)
        | «syntax» => rfl
        | range => rfl
     have hev : (ok = true ∧ ev = .nilIface) ∨ (ok = false ∧ ∃ te pe, ev = .iface te pe) := hok.imp (fun h => ⟨h.1, h.2.2⟩) (fun h => ⟨h.1, h.2.2⟩)
     obtain ⟨c0, c1, c2, c3, hf⟩ := HX6.out.cells
     have f0 := hf 0; have f1 := hf 1; have f2 := hf 2; have f3 := hf 3
     clear g0 g0'
     obtain ⟨g0, g1, g2, g3, -⟩ := (HX6.out.put 5 z ⟨#[]⟩ (.slice none 0 0)).cells
     have hB := HX6.out
     have s0 : (w6.setCell ⟨w.heap.size, 0, none⟩ (.int .i64 5)).cell? ⟨w.heap.size, 0, none⟩ = some (.int .i64 5) := by rw [cell_of_row _ _ _ _ _ _ (heap_setCell_same _ _ 0 _ _ _ hB)]; rfl
     have s1 : ((w6.setCell ⟨w.heap.size, 0, none⟩ (.int .i64 5)).setCell ⟨w.heap.size, 1, none⟩ (.int .i64 z)).cell? ⟨w.heap.size, 1, none⟩ = some (.int .i64 z) := by rw [cell_of_row _ _ _ _ _ _ (heap_setCell_same _ _ 1 _ _ _ (heap_setCell_same _ _ 0 _ _ _ hB))]; rfl
     have s2 : (((w6.setCell ⟨w.heap.size, 0, none⟩ (.int .i64 5)).setCell ⟨w.heap.size, 1, none⟩ (.int .i64 z)).setCell ⟨w.heap.size, 2, none⟩ (.string ⟨#[]⟩)).cell? ⟨w.heap.size, 2, none⟩ = some (.string ⟨#[]⟩) := by rw [cell_of_row _ _ _ _ _ _ (heap_setCell_same _ _ 2 _ _ _ (heap_setCell_same _ _ 1 _ _ _ (heap_setCell_same _ _ 0 _ _ _ hB)))]; rfl
     clear hB
     clear hf hb6 hb46 hz hok
     rcases hev with ⟨rfl, rfl⟩ | ⟨rfl, te, pe, rfl⟩
     ·go_wp2_with fail
      go_region
      go_wp2
      exact bodyPost_ret (v := .tuple #[.agg #[.int .i64 5, .int .i64 z, .string ⟨#[]⟩, .slice none 0 0], strV b, .bool true]) (by simp [results, Tryd.results22, go_sem, s0, s1, s2, g0, g1, g2, g3]) rfl (HFIN.out _ (.inr rfl))
     ·go_wp2_with fail
      go_region
      go_wp2
      exact bodyPost_ret (v := .tuple #[.agg #[.int .i64 5, .int .i64 z, .string ⟨#[]⟩, .slice none 0 0], strV b, .bool false]) (by simp [results, Tryd.results22, go_sem, s0, s1, s2, g0, g1, g2, g3]) rfl (HFIN.out _ (.inr rfl))
    | false =>
     have HP3 := hide hp3
     clear hp3
     go_wp2_with fail
     refine (wordL_any l w4 hl).mono ?_
     rintro e w5 ⟨a, b, hab, rfl, hb5, hasc⟩
     have HX5 := hide (HX.out.later hb5)
     have HFIN : Hid (RdP (readX (D + 1)) l w (.returned (.tuple #[.agg #[.int .i64 1, .int .i64 0, .string ⟨a.toArray⟩, .slice none 0 0], strV b, .bool true])) (put4 w5 w.heap.size 1 0 ⟨a.toArray⟩ (.slice none 0 0))) := by
      refine ⟨.mk 1 0 ⟨a.toArray⟩ [], exC 1 0 ⟨a.toArray⟩ (.slice none 0 0), b, true, 1, rfl, ExF.leaf _ _ _ _ _, put4_below (HB1.out.trans (hb5.mono HB1.out.size)) (Nat.le_refl _) _ _ _ _, ⟨a, hab⟩, fun h => ?_⟩
      rw [readX_name HP1.out HP2.out HP3.out]
      obtain ⟨e1, e2⟩ := hasc h
      rw [← e1, ← e2]
      rfl
     obtain ⟨c0, c1, c2, c3, hf⟩ := HX5.out.cells
     have f0 := hf 0; have f1 := hf 1; have f2 := hf 2; have f3 := hf 3
     clear g0 g0'
     obtain ⟨g0, g1, g2, g3, -⟩ := (HX5.out.put 1 0 ⟨a.toArray⟩ (.slice none 0 0)).cells
     clear hf hab hb5 hasc
     go_wp2
     exact bodyPost_ret (v := .tuple #[.agg #[.int .i64 1, .int .i64 0, .string ⟨a.toArray⟩, .slice none 0 0], strV b, .bool true]) (by simp [results, Tryd.results22, go_sem, g0, g1, g2, g3]) rfl HFIN.out

end Go.Proofs.YtanjajjjancggaaDoor

/- package query: Text. -/
namespace Go.Proofs.YtanjajjjancggaaDoor
open Go.RowKit

theorem name_len {s : ByteArray} (h : calledS s = true) : s.data.toList.length ≤ 8 := by
 unfold calledS at h
 obtain ⟨h1, -, -⟩ := and3 h
 have := (of_decide_eq_true h1).2.1
 rw [← Lib.size_eq]
 exact this

theorem text_len : ∀ (q : Qx), q.ok → q.text.length + 5 ≤ 16 * 2 ^ q.deep
 | .name s, h => by
  have := name_len h
  rw [Qx.text, Qx.deep]
  omega
 | .two k a b, h => by
  have ha := text_len a h.1
  have hb := text_len b h.2
  rw [Qx.text, Qx.deep, Nat.pow_succ]
  have h1 : 2 ^ a.deep ≤ 2 ^ (max a.deep b.deep) := Nat.pow_le_pow_right (by decide) (Nat.le_max_left _ _)
  have h2 : 2 ^ b.deep ≤ 2 ^ (max a.deep b.deep) := Nat.pow_le_pow_right (by decide) (Nat.le_max_right _ _)
  simp only [List.length_cons, List.length_append, List.length_nil, spacedB]
  omega
 | .fill a, h => by
  have ha := text_len a h
  rw [Qx.text, Qx.deep, Nat.pow_succ]
  simp only [List.length_cons, List.length_append, List.length_nil, fillB]
  omega
 | .whole n, h => by
  obtain ⟨h1, h4⟩ := h
  have : n = 1 ∨ n = 2 ∨ n = 3 ∨ n = 4 := by omega
  rcases this with rfl | rfl | rfl | rfl <;> decide +kernel

theorem text_million {q : Qx} (h : q.ok) (hd : q.deep ≤ 15) : q.text.length ≤ 1000000 := by
 have h1 := text_len q h
 have h2 : 2 ^ q.deep ≤ 2 ^ 15 := Nat.pow_le_pow_right (by decide) hd
 omega

set_option linter.unusedSimpArgs false in
set_option maxRecDepth 100000 in
set_option maxHeartbeats 1600000 in
theorem written_any : ∀ (q : Qx) (d : Nat) (w : World) (cs : List Value), q.ok → q.deep ≤ 15 → ExD w d q.ex cs →
  Calls Tryd.prog 18 #[.agg cs.toArray] w fun e w' => e = .returned (strV q.text) ∧ Below w.heap.size w w'
 | .name s, d, w, cs, hok, hd, h => by
  obtain ⟨d', o, cap, -, rfl, -, -⟩ := h.shape
  have hb1 := alloc_below w (.cells #[.int .i64 1, .int .i64 0, .string s, .slice o 0 cap] 24)
  obtain ⟨z0, z1, z2, z3, -⟩ := (ExB.new w 1 0 s (.slice o 0 cap)).cells
  have HB := hide hb1
  rw [Qx.text, strV_of]
  clear h hb1
  go_enter Tryd.func18, Tryd.ntmps18
  go_wp2
  go_ret
  exact ⟨rfl, HB.out⟩
 | .whole n, d, w, cs, hok, hd, h => by
  obtain ⟨d', o, cap, -, rfl, -, -⟩ := h.shape
  have hb1 := alloc_below w (.cells #[.int .i64 5, .int .i64 (n : Int), .string ⟨#[]⟩, .slice o 0 cap] 24)
  obtain ⟨z0, z1, z2, z3, -⟩ := (ExB.new w 5 (n : Int) ⟨#[]⟩ (.slice o 0 cap)).cells
  have HB := hide hb1
  have HI := hide (fun W => Tryd.strconv_Itoa_small n (by have := hok.2; omega) W)
  have hl : (Lib.decDigits n).length ≤ 2 := by
   obtain ⟨h1, h4⟩ := hok
   have : n = 1 ∨ n = 2 ∨ n = 3 ∨ n = 4 := by omega
   rcases this with rfl | rfl | rfl | rfl <;> decide +kernel
  rw [Qx.text]
  clear h hb1
  generalize hdd : Lib.decDigits n = dd at *
  have hq : ¬ (9223372036854775807 < 6 + dd.length) := by omega
  have HS : Hid ((⟨#[119, 104, 111, 108, 101, 32]⟩ ++ ⟨dd.toArray⟩ : ByteArray) = ⟨(wholeB ++ 32 :: dd).toArray⟩) := by
   show _ = _
   apply ByteArray.ext
   simp [wholeB]
  go_enter Tryd.func18, Tryd.ntmps18
  go_wp2_with fail
  refine (HI.out _).mono ?_
  rintro e w2 ⟨rfl, hw⟩
  subst hw
  go_wp2
  go_ret
  exact ⟨by show Ending.returned (.string _) = _; rw [HS.out], HB.out⟩
 | .fill a, d, w, cs, hok, hd, h => by
  rw [Qx.deep] at hd
  obtain ⟨d', o, cap, -, rfl, -, hat⟩ := h.shape
  obtain ⟨b, off, ys, k0, m0, z0, v0, rfl, hlt, rfl, hx0, c0, c1, c2, c3, o', n', c', rfl⟩ := hat 0 a.ex rfl
  rw [show off + 0 * 4 = off by omega] at c0
  rw [show off + 0 * 4 + 1 = off + 1 by omega] at c1
  rw [show off + 0 * 4 + 2 = off + 2 by omega] at c2
  rw [show off + 0 * 4 + 3 = off + 3 by omega] at c3
  have hb1 := alloc_below w (.cells #[.int .i64 4, .int .i64 0, .string ⟨#[]⟩, .slice (some ⟨b, off, none⟩) 1 cap] 24)
  obtain ⟨x0, x1, x2, x3, -⟩ := (ExB.new w 4 0 ⟨#[]⟩ (.slice (some ⟨b, off, none⟩) 1 cap)).cells
  have y0 := TwoM.later_lt hlt c0 hb1
  have y1 := TwoM.later_lt hlt c1 hb1
  have y2 := TwoM.later_lt hlt c2 hb1
  have y3 := TwoM.later_lt hlt c3 hb1
  have HC := hide (written_any a d' _ _ hok (by omega) (hx0.below hb1))
  have hl := text_million (q := a) hok (by omega)
  have HB := hide hb1
  rw [Qx.text]
  clear h hb1 hat hx0 c0 c1 c2 c3
  generalize a.text = ta at *
  have hq : ¬ (9223372036854775807 < 5 + ta.length) := by omega
  have HS : Hid ((⟨#[102, 105, 108, 108, 32]⟩ ++ ⟨ta.toArray⟩ : ByteArray) = ⟨(fillB ++ 32 :: ta).toArray⟩) := by
   show _ = _
   apply ByteArray.ext
   simp [fillB]
  go_enter Tryd.func18, Tryd.ntmps18
  go_wp2_with fail
  refine HC.out.mono ?_
  rintro e w2 ⟨rfl, hb2⟩
  have HB2 := hide (HB.out.trans (hb2.mono HB.out.size))
  clear hb2 HC HB y0 y1 y2 y3 x0 x1 x2 x3
  go_wp2
  go_ret
  exact ⟨by show Ending.returned (.string _) = _; rw [HS.out], HB2.out⟩
 | .two k a b, d, w, cs, hok, hd, h => by
  rw [Qx.deep] at hd
  obtain ⟨d', -, -, rfl, -, -, -⟩ := h.shape
  exact written_two w k a.ex b.ex cs a.text b.text (text_million hok.1 (by omega)) (text_million hok.2 (by omega)) d' h
   (fun W ys hx => written_any a d' W ys hok.1 (by omega) hx) (fun W ys hx => written_any b d' W ys hok.2 (by omega) hx)

def TxP (w : World) (e : Ex) (e' : Ending) (w' : World) : Prop :=
 Below w.heap.size w w' ∧ ((faultE e ≠ 0 ∧ e' = .returned (.tuple #[.string ⟨#[]⟩, .iface 44 (.int .i64 (faultE e : Int))])) ∨ (∃ q : Qx, q.ok ∧ q.ex = e ∧ q.deep ≤ 6 ∧ faultE e = 0 ∧ e' = .returned (.tuple #[strV q.text, .nilIface])))

set_option linter.unusedSimpArgs false in
set_option maxRecDepth 100000 in
set_option maxHeartbeats 1600000 in
theorem text_any (w : World) (e : Ex) (cs : List Value) (h : ExV w e cs) :
  Calls Tryd.prog 8 #[.agg cs.toArray] w fun e' w' => TxP w e e' w' := by
 obtain ⟨d, h⟩ := h
 obtain ⟨k, n, s, a⟩ := e
 obtain ⟨o, cap, rfl⟩ := h.agg
 have hb1 := alloc_below w (.cells #[.int .i64 k, .int .i64 n, .string s, .slice o a.length cap] 24)
 have HX := hide (ExB.new w k n s (.slice o a.length cap))
 have HB1 := hide hb1
 have HD := hide (h.below hb1)
 have HCK := hide (check_any _ _ _ ⟨d, HD.out⟩)
 obtain ⟨F, hF⟩ : ∃ F, faultE (.mk k n s a) = F := ⟨_, rfl⟩
 rw [hF] at HCK
 have HF := hide hF
 obtain ⟨N, hN⟩ : ∃ N, a.length = N := ⟨_, rfl⟩
 rw [hN] at HX HB1 HD HCK ⊢
 obtain ⟨z0, z1, z2, z3, -⟩ := HX.out.cells
 clear h hb1 hF hN
 go_enter Tryd.func8, Tryd.ntmps8
 go_wp2_with fail
 refine HCK.out.mono ?_
 rintro e w2 ⟨rfl, hb2⟩
 have HX2 := hide (HX.out.later hb2); have HB2 := hide (HB1.out.trans (hb2.mono HB1.out.size)); have HD2 := hide (HD.out.below hb2)
 clear hb2 HX HB1 HD HCK z0 z1 z2 z3
 obtain ⟨z0, z1, z2, z3, -⟩ := HX2.out.cells
 by_cases h0 : F = 0
 ·subst h0
  obtain ⟨q, hq, hqe, hq6⟩ := fault_q HF.out
  have HC := hide (written_any q d w2 _ hq (by omega) (by rw [hqe]; exact HD2.out))
  have HQ : Hid (∀ w', Below w.heap.size w w' → TxP w (.mk k n s a) (.returned (.tuple #[strV q.text, .nilIface])) w') := fun w' hb => ⟨hb, .inr ⟨q, hq, hqe, hq6, HF.out, rfl⟩⟩
  clear hq hqe
  rw [show errV 0 = .nilIface from rfl]
  go_wp2_with fail
  refine HC.out.mono ?_
  rintro e w3 ⟨rfl, hb3⟩
  have HFIN := hide (HQ.out w3 (HB2.out.trans (hb3.mono HB2.out.size)))
  clear hb3 HC HQ
  go_wp2
  go_ret2
  exact HFIN.out
 ·have eE : errV F = .iface 44 (.int .i64 (F : Int)) := if_neg h0
  rw [eE]
  have HFIN : Hid (TxP w (.mk k n s a) (.returned (.tuple #[.string ⟨#[]⟩, .iface 44 (.int .i64 (F : Int))])) w2) := ⟨HB2.out, .inl ⟨by rw [HF.out]; exact h0, by rw [HF.out]⟩⟩
  clear h0 eE
  go_wp2
  go_ret2
  exact HFIN.out

end Go.Proofs.YtanjajjjancggaaDoor
