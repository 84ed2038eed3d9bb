/- A disk: what writing into its sectors leaves. -/
import Derived.Test.YtjgodhfnnifchaaDkC
import Derived.Test.YtjgodhfnnifchaaDkL
namespace Go.Proofs.Ytjgodhfnnifchaa
open Go.RowKit

/-- A list with others laid over it from a place on. -/
def setL {α : Type} : List α → Nat → List α → List α
  | xs, _, [] => xs
  | xs, o, c :: cs => setL (xs.set o c) (o + 1) cs

theorem setL_length {α : Type} : ∀ (cs xs : List α) (o : Nat), (setL xs o cs).length = xs.length
  | [], _, _ => rfl
  | c :: cs, xs, o => by rw [setL, setL_length cs]; simp

theorem setL_left {α : Type} : ∀ (cs A B : List α) (o : Nat), o + cs.length ≤ A.length → setL (A ++ B) o cs = setL A o cs ++ B
  | [], _, _, _, _ => rfl
  | c :: cs, A, B, o, h => by
    rw [List.length_cons] at h
    rw [setL, setL, List.set_append_left _ _ (by omega), setL_left cs _ _ _ (by simp; omega)]

theorem setL_right {α : Type} : ∀ (cs A B : List α) (o : Nat), setL (A ++ B) (A.length + o) cs = A ++ setL B o cs
  | [], _, _, _ => rfl
  | c :: cs, A, B, o => by
    rw [setL, setL, List.set_append_right _ _ (by omega), show A.length + o - A.length = o by omega, show A.length + o + 1 = A.length + (o + 1) by omega, setL_right cs]

theorem setL_all {α : Type} : ∀ (cs A B : List α), A.length = cs.length → setL (A ++ B) 0 cs = cs ++ B
  | [], A, B, h => by
    have : A = [] := List.eq_nil_of_length_eq_zero (by simpa using h)
    rw [this]; rfl
  | c :: cs, [], _, h => by simp at h
  | c :: cs, x :: A, B, h => by
    rw [setL, List.cons_append, List.set_cons_zero, show (0 + 1) = [c].length + 0 by rfl, show c :: (A ++ B) = [c] ++ (A ++ B) by rfl, setL_right, setL_all cs A B (by simpa using h)]
    rfl

theorem dcells_kept : ∀ (ss : List Sec) (vs : List Value), (∀ s ∈ ss, s.ok) → ss.length = vs.length → ∀ (i : Nat) (s : Sec) (bs : List UInt8), ss[i]? = some s → bs.length = 64 → setL (dcells ss vs) (i * 65) (bs.map byteC) = dcells (ss.set i { s with kept := bs }) vs
  | [], _, _, _, i, s, bs, hs, _ => by simp at hs
  | _ :: _, [], _, hl, _, _, _, _, _ => by simp at hl
  | s0 :: ss, v0 :: vs, hok, hl, 0, s, bs, hs, hb => by
    have e1 : s0 = s := by simpa using hs
    subst e1
    have h64 := (hok s0 (by simp)).1
    rw [dcells, Nat.zero_mul, List.set_cons_zero, dcells, scells, scells, List.append_assoc, setL_all _ _ _ (by simp [h64, hb]), List.append_assoc]
  | s0 :: ss, v0 :: vs, hok, hl, i + 1, s, bs, hs, hb => by
    have hl65 := scells_len (hok s0 (by simp)) v0
    rw [dcells, List.set_cons_succ, dcells, show (i + 1) * 65 = (scells s0 v0).length + i * 65 by omega, setL_right, dcells_kept ss vs (fun s hs => hok s (by simp [hs])) (by simpa using hl) i s bs (by simpa using hs) hb]

theorem dcells_loose : ∀ (ss : List Sec) (vs : List Value), (∀ s ∈ ss, s.ok) → ss.length = vs.length → ∀ (i : Nat) (s : Sec) (l : List (Int × List UInt8)) (v : Value), ss[i]? = some s → (dcells ss vs).set (i * 65 + 64) v = dcells (ss.set i { s with loose := l }) (vs.set i v)
  | [], _, _, _, i, s, l, v, hs => by simp at hs
  | _ :: _, [], _, hl, _, _, _, _, _ => by simp at hl
  | s0 :: ss, v0 :: vs, hok, hl, 0, s, l, v, hs => by
    have e1 : s0 = s := by simpa using hs
    subst e1
    have h64 := (hok s0 (by simp)).1
    have hl65 := scells_len (hok s0 (by simp)) v0
    rw [dcells, List.set_cons_zero, List.set_cons_zero, dcells, List.set_append_left _ _ (by omega)]
    congr 1
    unfold scells
    rw [List.set_append_right _ _ (by simp [h64])]
    simp [h64]
  | s0 :: ss, v0 :: vs, hok, hl, i + 1, s, l, v, hs => by
    have hl65 := scells_len (hok s0 (by simp)) v0
    rw [dcells, List.set_cons_succ, List.set_cons_succ, dcells, List.set_append_right _ _ (by omega), show (i + 1) * 65 + 64 - (scells s0 v0).length = i * 65 + 64 by omega, dcells_loose ss vs (fun s hs => hok s (by simp [hs])) (by simpa using hl) i s l v (by simpa using hs)]

theorem ownsSet {W : World} {base : Nat} {e : TypeId} {size : Nat} {g n cap : Nat} {xs : List Value} (h : W.ownsRow base e size (.slice (some ⟨g, 0, none⟩) n cap) n xs) (k : Nat) (u : Value) : (W.setCell ⟨g, k, none⟩ u).ownsRow base e size (.slice (some ⟨g, 0, none⟩) n cap) n (xs.set k u) := by
  refine ⟨by rw [List.length_set]; exact h.1, ?_⟩
  rcases h.2 with ⟨e', -⟩ | ⟨g', cap', cur, e', hb, hh, h1, h2, h3, h4⟩
  · simp at e'
  · simp only [Value.slice.injEq, Option.some.injEq, Addr.mk.injEq, and_true, true_and] at e'
    obtain ⟨rfl, rfl⟩ := e'
    refine .inr ⟨g, cap, _, rfl, hb, heap_setCell_same W g k _ _ u hh, h1, h2, by simpa using h3, ?_⟩
    rw [Array.toList_setIfInBounds, List.take_set, h4]

theorem ownsSets {base : Nat} {e : TypeId} {size : Nat} {g n cap : Nat} : ∀ (cs : List Value) (o : Nat) (W : World) (xs : List Value), W.ownsRow base e size (.slice (some ⟨g, 0, none⟩) n cap) n xs → (W.setCells g o cs).ownsRow base e size (.slice (some ⟨g, 0, none⟩) n cap) n (setL xs o cs)
  | [], _, _, _, h => h
  | c :: cs, o, _, _, h => ownsSets cs (o + 1) _ _ (ownsSet h o c)

theorem heap_setCells_other {b g : Nat} (hne : b ≠ g) : ∀ (cs : List Value) (o : Nat) (W : World), (W.setCells g o cs).heap[b]? = W.heap[b]?
  | [], _, _ => rfl
  | c :: cs, o, W => by rw [World.setCells, heap_setCells_other hne cs]; exact heap_setCell_other _ _ _ _ (fun e => hne e)

theorem heap_setCells_size (g : Nat) : ∀ (cs : List Value) (o : Nat) (W : World), (W.setCells g o cs).heap.size = W.heap.size
  | [], _, _ => rfl
  | c :: cs, o, W => by rw [World.setCells, heap_setCells_size g cs]; simp

theorem setCells_rest (g : Nat) : ∀ (cs : List Value) (o : Nat) (W : World), (W.setCells g o cs).os = W.os ∧ (W.setCells g o cs).tape = W.tape ∧ (W.setCells g o cs).output = W.output
  | [], _, _ => ⟨rfl, rfl, rfl⟩
  | c :: cs, o, W => by rw [World.setCells]; exact setCells_rest g cs (o + 1) _

theorem ownsAway {W W' : World} {base : Nat} {e : TypeId} {size : Nat} {v : Value} {n : Nat} {xs : List Value} (h : W.ownsRow base e size v n xs) {g : Nat} {cs : Array Value} {t : TypeId} (hh : W.heap[g]? = some (.cells cs t (0, 0))) (ht : t ≠ e) (hk : ∀ b, b ≠ g → W'.heap[b]? = W.heap[b]?) : W'.ownsRow base e size v n xs := by
  refine ⟨h.1, ?_⟩
  rcases h.2 with hn | ⟨g', cap, cur, ev, hbg, hg, rest⟩
  · exact .inl hn
  · refine .inr ⟨g', cap, cur, ev, hbg, (hk g' fun e => ?_).trans hg, rest⟩
    subst e
    rw [hh] at hg
    simp only [Option.some.injEq, Obj.cells.injEq] at hg
    exact ht hg.2.1

/-- The block of the sectors. -/
theorem DiskM.block {W : World} {base B : Nat} {D : Dsk} {g cap : Nat} {ls : List Value} (h : DiskM W base B D (.slice (some ⟨g, 0, none⟩) D.secs.length cap) ls) : base ≤ g ∧ ∃ cur, W.heap[g]? = some (.cells cur 78 (0, 0)) := by
  rcases h.own.2 with ⟨e, -⟩ | ⟨g', cap', cur, e, hb, hh, -⟩
  · simp at e
  · simp only [Value.slice.injEq, Option.some.injEq, Addr.mk.injEq, and_true, true_and] at e
    obtain ⟨rfl, rfl⟩ := e
    exact ⟨hb, cur, hh⟩

theorem Kept.of_block {base g : Nat} {W W' : World} {cur : Array Value} {t : TypeId} (hb : base ≤ g) (hh : W.heap[g]? = some (.cells cur t (0, 0))) (ht : diskT t) (h1 : W'.os = W.os) (h2 : W'.tape = W.tape) (h3 : W'.output = W.output) (h4 : W.heap.size ≤ W'.heap.size) (hk : ∀ b, b < W.heap.size → b ≠ g → W'.heap[b]? = W.heap[b]?) : Kept base W W' :=
  ⟨h1, h2, h3, h4, fun b hlt ho => hk b hlt fun e => by
    subst e
    rcases ho with ho | ho
    · omega
    · exact ho _ _ _ hh ht⟩

/-- What is kept of a sector is written. -/
theorem DiskM.setKept {W : World} {base B : Nat} {D : Dsk} {g cap : Nat} {ls : List Value} (h : DiskM W base B D (.slice (some ⟨g, 0, none⟩) D.secs.length cap) ls) (i : Nat) (s : Sec) (hs : D.secs[i]? = some s) (bs : List UInt8) (hb : bs.length = 64) :
    DiskM (W.setCells g (i * 65) (bs.map byteC)) base B { D with secs := D.secs.set i { s with kept := bs } } (.slice (some ⟨g, 0, none⟩) D.secs.length cap) ls ∧ Kept base W (W.setCells g (i * 65) (bs.map byteC)) := by
  obtain ⟨hbg, cur, hh⟩ := h.block
  have hBg : B ≠ g := fun e => by
    subst e
    have := h.head
    rw [hh] at this
    simp only [Option.some.injEq, Obj.cells.injEq] at this
    exact absurd this.2.1 (by decide)
  have hi := (List.getElem?_eq_some_iff.1 hs).1
  have hok := h.ok s (List.mem_of_getElem? hs)
  have hsl : (D.secs.set i { s with kept := bs }).length = D.secs.length := List.length_set
  obtain ⟨r1, r2, r3⟩ := setCells_rest g (bs.map byteC) (i * 65) W
  refine ⟨⟨h.low, (heap_setCells_other hBg _ _ _).trans h.head, h.len.trans hsl.symm, ?_, fun j s' v hs' hv => ?_, h.apart, fun s' hs' => ?_, h.num, h.left⟩, Kept.of_block hbg hh (.inr (.inl rfl)) r1 r2 r3 (by rw [heap_setCells_size]; exact Nat.le_refl _) (fun b _ hne => heap_setCells_other hne _ _ _)⟩
  · have := ownsSets (bs.map byteC) (i * 65) W _ h.own
    rw [dcells_kept _ _ h.ok h.len.symm i s bs hs hb] at this
    simp only [hsl]
    exact this
  · have hl : ∃ s0, D.secs[j]? = some s0 ∧ s0.loose = s'.loose := by
      simp only [List.getElem?_set] at hs'
      split at hs'
      · rename_i e
        subst e
        have e := Option.some.inj hs'
        exact ⟨s, hs, by rw [← e]⟩
      · exact ⟨s', hs', rfl⟩
    obtain ⟨s0, h0, e0⟩ := hl
    rw [← e0]
    exact ownsAway (h.loose j s0 v h0 hv) hh (by decide) (fun b hne => heap_setCells_other hne _ _ _)
  · rcases List.mem_or_eq_of_mem_set hs' with hm | rfl
    · exact h.ok s' hm
    · exact ⟨hb, hok.2⟩

/-- The list of what is loose of a sector is written. -/
theorem DiskM.setLoose {W : World} {base B : Nat} {D : Dsk} {g cap : Nat} {ls : List Value} (h : DiskM W base B D (.slice (some ⟨g, 0, none⟩) D.secs.length cap) ls) (i : Nat) (s : Sec) (hs : D.secs[i]? = some s) (v : Value) (l : List (Int × List UInt8))
    (hv : W.ownsRow base 88 65 v l.length (l.flatMap wcells)) (hl : ∀ p ∈ l, p.2.length = 64 ∧ 0 ≤ p.1 ∧ p.1 < 18446744073709551616) (hap : ∀ j v' b, j ≠ i → ls[j]? = some v' → v.ownBlock = some b → v'.ownBlock ≠ some b) :
    DiskM (W.setCell ⟨g, i * 65 + 64, none⟩ v) base B { D with secs := D.secs.set i { s with loose := l } } (.slice (some ⟨g, 0, none⟩) D.secs.length cap) (ls.set i v) ∧ Kept base W (W.setCell ⟨g, i * 65 + 64, none⟩ v) := by
  obtain ⟨hbg, cur, hh⟩ := h.block
  have hBg : B ≠ g := fun e => by
    subst e
    have := h.head
    rw [hh] at this
    simp only [Option.some.injEq, Obj.cells.injEq] at this
    exact absurd this.2.1 (by decide)
  have hi := (List.getElem?_eq_some_iff.1 hs).1
  have hok := h.ok s (List.mem_of_getElem? hs)
  have hsl : (D.secs.set i { s with loose := l }).length = D.secs.length := List.length_set
  have hka : ∀ b, b ≠ g → (W.setCell ⟨g, i * 65 + 64, none⟩ v).heap[b]? = W.heap[b]? := fun b hne => heap_setCell_other _ _ _ _ (fun e => hne e)
  refine ⟨⟨h.low, (hka B hBg).trans h.head, by rw [List.length_set, hsl]; exact h.len, ?_, fun j s' v' hs' hv' => ?_, fun j k v1 v2 b hjk h1 h2 hb => ?_, fun s' hs' => ?_, h.num, h.left⟩, Kept.of_block hbg hh (.inr (.inl rfl)) rfl rfl rfl (by simp) (fun b _ hne => hka b hne)⟩
  · have := ownsSet h.own (i * 65 + 64) v
    rw [dcells_loose _ _ h.ok h.len.symm i s l v hs] at this
    simp only [hsl]
    exact this
  · simp only [List.getElem?_set] at hs' hv'
    split at hs'
    · rename_i e
      subst e
      rw [if_pos rfl] at hv'
      have e1 := Option.some.inj hs'
      split at hv'
      · have e2 := Option.some.inj hv'
        subst e1 e2
        exact ownsAway hv hh (by decide) hka
      · cases hv'
    · rename_i e
      rw [if_neg e] at hv'
      exact ownsAway (h.loose j s' v' hs' hv') hh (by decide) hka
  · simp only [List.getElem?_set] at h1 h2
    by_cases e1 : i = j
    · rw [if_pos e1] at h1
      rw [if_neg (fun e2 => hjk (e1.symm.trans e2))] at h2
      split at h1
      · have e := Option.some.inj h1
        subst e
        exact hap k v2 b (fun e => hjk (e1.symm.trans e.symm)) h2 hb
      · cases h1
    · rw [if_neg e1] at h1
      by_cases e2 : i = k
      · rw [if_pos e2] at h2
        split at h2
        · have e := Option.some.inj h2
          subst e
          exact fun hb' => hap j v1 b (fun e => e1 e.symm) h1 hb' hb
        · cases h2
      · rw [if_neg e2] at h2
        exact h.apart j k v1 v2 b hjk h1 h2 hb
  · rcases List.mem_or_eq_of_mem_set hs' with hm | rfl
    · exact h.ok s' hm
    · exact ⟨hok.1, hl⟩

end Go.Proofs.Ytjgodhfnnifchaa
