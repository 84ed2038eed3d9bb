/- A text, cut at blanks; which numbers the pieces are. -/
import Derived.Test.YtjblidoilphifabGreatDoorVecPB
import Derived.Test.YtjblidoilphifabGreatDoorDigs
import Derived.Test.YtjblidoilphifabGreatDoorRefH
import Derived.Test.YtjblidoilphifabGreatDoorRowO

namespace Go.Proofs.YtjblidoilphifabGreatDoor
open Go.RowKit Limbs

/-- The pieces between blanks. -/
def pieces : List UInt8 → List (List UInt8)
  | [] => [[]]
  | c :: l => if c = 32 then [] :: pieces l else (match pieces l with
    | [] => [[c]]
    | p :: ps => (c :: p) :: ps)

theorem pieces_ne (l : List UInt8) : pieces l ≠ [] := by
  cases l with
  | nil => simp [pieces]
  | cons c l =>
    unfold pieces
    split
    · simp
    · split <;> simp

theorem pieces_plain (x : List UInt8) (h : (32 : UInt8) ∉ x) : pieces x = [x] := by
  induction x with
  | nil => rfl
  | cons c x ih =>
    have hc : c ≠ 32 := fun e => h (by rw [e]; exact List.mem_cons_self)
    rw [pieces, if_neg hc, ih fun h' => h (List.mem_cons_of_mem _ h')]

theorem pieces_cut (x r : List UInt8) (h : (32 : UInt8) ∉ x) : pieces (x ++ 32 :: r) = x :: pieces r := by
  induction x with
  | nil => rw [List.nil_append, pieces, if_pos rfl]
  | cons c x ih =>
    have hc : c ≠ 32 := fun e => h (by rw [e]; exact List.mem_cons_self)
    rw [List.cons_append, pieces, if_neg hc, ih fun h' => h (List.mem_cons_of_mem _ h')]

theorem pieces_blank (l : List UInt8) : ∀ p ∈ pieces l, (32 : UInt8) ∉ p := by
  induction l with
  | nil => intro p hp; simp [pieces] at hp; subst hp; simp
  | cons c l ih =>
    intro p hp
    unfold pieces at hp
    split at hp
    · rcases List.mem_cons.1 hp with rfl | h
      · simp
      · exact ih p h
    · rename_i hc
      split at hp
      · rename_i e; exact absurd e (pieces_ne l)
      · rename_i q qs e
        rcases List.mem_cons.1 hp with rfl | h
        · intro hm
          rcases List.mem_cons.1 hm with h | h
          · exact hc h.symm
          · exact ih q (by rw [e]; exact List.mem_cons_self) h
        · exact ih p (by rw [e]; exact List.mem_cons_of_mem _ h)

theorem join_pieces (l : List UInt8) : Lib.join (pieces l) [32] = l := by
  induction l with
  | nil => rw [pieces, Lib.join_one]
  | cons c l ih =>
    unfold pieces
    split
    · rename_i hc
      subst hc
      cases e : pieces l with
      | nil => exact absurd e (pieces_ne l)
      | cons q qs => rw [join_two, ← e, ih]; rfl
    · split
      · rename_i e; exact absurd e (pieces_ne l)
      · rename_i q qs e
        rw [e] at ih
        cases qs with
        | nil => rw [Lib.join_one] at ih ⊢; rw [ih]
        | cons r rs => rw [join_two] at ih ⊢; rw [List.cons_append, ih]

def bytes (p : List UInt8) : ByteArray := ⟨p.toArray⟩

theorem split_pieces (s : ByteArray) : Lib.splitB ⟨#[32]⟩ 0 (Lib.countB s ⟨#[32]⟩) s = (pieces s.data.toList).map bytes ∧ Lib.countB s ⟨#[32]⟩ + 1 = (pieces s.data.toList).length ∧ Lib.countByte s.data.toList 32 + 1 = (pieces s.data.toList).length := by
  obtain ⟨⟨l⟩⟩ := s
  show Lib.splitB ⟨#[32]⟩ 0 (Lib.countB ⟨l.toArray⟩ ⟨#[32]⟩) ⟨l.toArray⟩ = (pieces l).map bytes ∧ Lib.countB ⟨l.toArray⟩ ⟨#[32]⟩ + 1 = (pieces l).length ∧ Lib.countByte l 32 + 1 = (pieces l).length
  obtain ⟨h1, h2⟩ := split_join 32 (pieces l) (pieces_ne l) (pieces_blank l)
  have h3 := count_join (pieces l) (pieces_ne l) (pieces_blank l)
  rw [join_pieces] at h1 h2 h3
  have e : Lib.countB ⟨l.toArray⟩ ⟨#[32]⟩ = (pieces l).length - 1 := by
    show Lib.count l [32] = _
    omega
  have hl : 0 < (pieces l).length := List.length_pos_iff.2 (pieces_ne l)
  refine ⟨?_, by omega, h3⟩
  have hd := Lib.splitB_data ⟨#[32]⟩ 0 ((pieces l).length - 1) ⟨l.toArray⟩
  rw [e]
  have hm : ((pieces l).map bytes).map (·.data.toList) = pieces l := by
    rw [List.map_map]
    conv => rhs; rw [← List.map_id (pieces l)]
    apply List.map_congr_left
    intro z _
    simp [bytes]
  have h4 : (Lib.splitB ⟨#[32]⟩ 0 ((pieces l).length - 1) ⟨l.toArray⟩).map (·.data.toList) = ((pieces l).map bytes).map (·.data.toList) := by
    rw [hd, hm]
    exact h2
  have inj : Function.Injective (fun b : ByteArray => b.data.toList) := fun a b h => by
    cases a; cases b
    simp only at h
    congr 1
    exact Array.toList_inj.1 h
  exact (List.map_inj_right fun a b h => inj h).1 h4

/-- Which number a text is, or none. -/
def Rd (p : ByteArray) (o : Option Int) : Prop := ∃ t neg, Falls p t neg ∧ ((good t neg ∧ o = some (sg neg (dval t t.size))) ∨ (¬ good t neg ∧ o = none))

theorem rd_some (p : ByteArray) : ∃ o, Rd p o := by
  obtain ⟨t, neg, h⟩ := falls p
  by_cases hg : good t neg
  · exact ⟨_, t, neg, h, .inl ⟨hg, rfl⟩⟩
  · exact ⟨_, t, neg, h, .inr ⟨hg, rfl⟩⟩

theorem falls_size {s t : ByteArray} {neg : Bool} (h : Falls s t neg) : t.size ≤ s.size := by
  rcases h with ⟨-, -, -, -, h⟩ | ⟨-, h, -⟩
  · omega
  · rw [h]; exact Nat.le_refl _

/-- Which numbers texts are, one by one. -/
def RdAll (ps : List ByteArray) (os : List (Option Int)) : Prop := os.length = ps.length ∧ ∀ i, i < ps.length → Rd (ps.getD i ByteArray.empty) (os.getD i none)

theorem rdAll_some (ps : List ByteArray) : ∃ os, RdAll ps os := by
  induction ps with
  | nil => exact ⟨[], rfl, fun i hi => absurd hi (by simp)⟩
  | cons p ps ih =>
    obtain ⟨os, h1, h2⟩ := ih
    obtain ⟨o, ho⟩ := rd_some p
    refine ⟨o :: os, by simp [h1], fun i hi => ?_⟩
    cases i with
    | zero => simpa using ho
    | succ i => simpa using h2 i (by simpa using hi)

/-- What a vector's text is: the error's number, or numbers. -/
def SpecV (s : ByteArray) (o : Except Int (List Int)) : Prop :=
  ((s.size < 2 ∨ byt s 0 ≠ 40 ∨ byt s (s.size - 1) ≠ 41) ∧ o = .error 5) ∨
  (s.size ≥ 2 ∧ byt s 0 = 40 ∧ byt s (s.size - 1) = 41 ∧ 8 < (pieces (s.extract 1 (s.size - 1)).data.toList).length ∧ o = .error 6) ∨
  (s.size ≥ 2 ∧ byt s 0 = 40 ∧ byt s (s.size - 1) = 41 ∧ (pieces (s.extract 1 (s.size - 1)).data.toList).length ≤ 8 ∧
    ∃ os, RdAll ((pieces (s.extract 1 (s.size - 1)).data.toList).map bytes) os ∧ ((none ∈ os ∧ o = .error 5) ∨ (none ∉ os ∧ o = .ok (os.map (·.getD 0)))))

theorem specV_some (s : ByteArray) : ∃ o, SpecV s o := by
  by_cases h1 : s.size < 2 ∨ byt s 0 ≠ 40 ∨ byt s (s.size - 1) ≠ 41
  · exact ⟨_, .inl ⟨h1, rfl⟩⟩
  · have g1 : s.size ≥ 2 := by omega
    have g2 : byt s 0 = 40 := by omega
    have g3 : byt s (s.size - 1) = 41 := by omega
    by_cases h2 : 8 < (pieces (s.extract 1 (s.size - 1)).data.toList).length
    · exact ⟨_, .inr (.inl ⟨g1, g2, g3, h2, rfl⟩)⟩
    · obtain ⟨os, hos⟩ := rdAll_some ((pieces (s.extract 1 (s.size - 1)).data.toList).map bytes)
      by_cases h3 : none ∈ os
      · exact ⟨_, .inr (.inr ⟨g1, g2, g3, by omega, os, hos, .inl ⟨h3, rfl⟩⟩)⟩
      · exact ⟨_, .inr (.inr ⟨g1, g2, g3, by omega, os, hos, .inr ⟨h3, rfl⟩⟩)⟩

theorem pieces_size (l : List UInt8) : ∀ p ∈ pieces l, p.length ≤ l.length := by
  induction l with
  | nil => intro p hp; simp [pieces] at hp; subst hp; simp
  | cons c l ih =>
    intro p hp
    unfold pieces at hp
    split at hp
    · rcases List.mem_cons.1 hp with rfl | h
      · simp
      · have := ih p h; simp; omega
    · split at hp
      · rename_i e; exact absurd e (pieces_ne l)
      · rename_i q qs e
        rcases List.mem_cons.1 hp with rfl | h
        · have := ih q (by rw [e]; exact List.mem_cons_self); simp; omega
        · have := ih p (by rw [e]; exact List.mem_cons_of_mem _ h); simp; omega

theorem parse_rd (w : World) (p : ByteArray) (o : Option Int) (hp : p.size ≤ 400) (h : Rd p o) :
    Calls Tryz.prog 52 #[.string p] w fun e w' => (∀ z, o = some z → ReadPost w z 400 e w') ∧ (o = none → ErrPost w 5 e w') := by
  obtain ⟨t, neg, hF, ho⟩ := h
  have ht := falls_size hF
  refine (parse_any w p t neg hp hF).mono fun e w' hpp => ?_
  rcases ho with ⟨hg, rfl⟩ | ⟨hg, rfl⟩
  · refine ⟨fun z hz => ?_, fun h => by cases h⟩
    obtain ⟨v, h1, h2, h3⟩ := hpp.1 hg
    cases hz
    exact ⟨v, h1, h2.mono (by omega), h3⟩
  · exact ⟨(fun z hz => by cases hz), fun _ => hpp.2 hg⟩

theorem opt_take {os : List (Option Int)} {k : Nat} (hk : k < os.length) (h : none ∉ os.take k) {z : Int} (hz : os.getD k none = some z) : none ∉ os.take (k + 1) := by
  rw [List.take_succ_eq_append_getElem hk]
  intro hm
  rcases List.mem_append.1 hm with h' | h'
  · exact h h'
  · rw [List.mem_singleton] at h'
    rw [List.getD_eq_getElem?_getD, List.getElem?_eq_getElem hk, Option.getD_some, ← h'] at hz
    cases hz

end Go.Proofs.YtjblidoilphifabGreatDoor

/- A vector that grows at its end; texts that do. -/
namespace Go.Proofs.YtjblidoilphifabGreatDoor
open Go.RowKit Limbs Digs

/-- Limbs that don't lie in that block. -/
def apart (og : Option Nat) (s : Value) : Prop := ∀ a l c, s = .slice (some a) l c → 0 < l → some a.block ≠ og

theorem Lim.grown {W W' : World} {row : Option Nat} {s : Value} {zs : List Int} (h : Lim W s zs) (hg : W.grownBy W' row) (hne : apart row s) : Lim W' s zs := by
  obtain ⟨ao, cap, rfl, h1, h2, h3, h4⟩ := h
  refine ⟨ao, cap, rfl, h1, h2, h3, fun h0 => ?_⟩
  obtain ⟨b, off, rfl, hlt, hc⟩ := h4 h0
  have hb := hne _ _ _ rfl h0
  exact ⟨b, off, rfl, Nat.lt_of_lt_of_le hlt hg.size, fun i hi => hg.cell (hc i hi) hb⟩

def Nm.val (r : Nm) : Value := .agg #[.bool r.neg, .slice r.o r.l r.c]
def Nm.sl (r : Nm) : Value := .slice r.o r.l r.c
def ncells (p : Nm × Int) : List Value := [.bool p.1.neg, .slice p.1.o p.1.l p.1.c]

theorem NumL.grown {W W' : World} {row : Option Nat} {r : Nm} {z : Int} {n : Nat} (h : NumL W r.val z n) (hg : W.grownBy W' row) (hne : apart row r.sl) : NumL W' r.val z n := by
  obtain ⟨neg, s, zs, e, hl, h3⟩ := h
  simp only [Nm.val, Value.agg.injEq, Array.mk.injEq, List.cons.injEq, Value.bool.injEq, and_true] at e
  obtain ⟨rfl, rfl⟩ := e
  exact ⟨_, _, zs, rfl, hl.grown hg hne, h3⟩

theorem NumL.inside {W : World} {r : Nm} {z : Int} {n : Nat} (h : NumL W r.val z n) : ∀ a l c, r.sl = .slice (some a) l c → 0 < l → a.block < W.heap.size := fun a l c e h0 => by
  obtain ⟨neg, s, zs, e1, hl, -⟩ := h
  simp only [Nm.val, Value.agg.injEq, Array.mk.injEq, List.cons.injEq, Value.bool.injEq, and_true] at e1
  obtain ⟨rfl, rfl⟩ := e1
  obtain ⟨ao, cap, e2, -, -, -, h4⟩ := hl
  unfold Nm.sl at e
  rw [e] at e2
  simp only [Value.slice.injEq] at e2
  obtain ⟨rfl, rfl, rfl⟩ := e2
  obtain ⟨b, off, e3, hlt, -⟩ := h4 h0
  simp only [Option.some.injEq] at e3
  rw [e3]
  exact hlt

/-- A row of numbers in memory of its own, that may grow. -/
def Grow (W : World) (base : Nat) (v : Value) (ps : List (Nm × Int)) (n : Nat) : Prop :=
  W.ownsRow base 26 2 v ps.length (ps.flatMap ncells) ∧ ∀ p ∈ ps, NumL W p.1.val p.2 n ∧ apart v.ownBlock p.1.sl

theorem Grow.nil (W : World) (base n : Nat) : Grow W base (.slice none 0 0) [] n := ⟨World.ownsRow_nil _ _ _ _, fun _ h => by cases h⟩

theorem Grow.later {W W' : World} {base : Nat} {v : Value} {ps : List (Nm × Int)} {n : Nat} (h : Grow W base v ps n) (hb : Below W.heap.size W W') : Grow W' base v ps n := by
  refine ⟨?_, fun p hp => ⟨(h.2 p hp).1.below hb (Nat.le_refl _), (h.2 p hp).2⟩⟩
  refine ⟨h.1.1, ?_⟩
  rcases h.1.2 with hn | ⟨g, cap, cur, e, hbg, hh, rest⟩
  · exact .inl hn
  · exact .inr ⟨g, cap, cur, e, hbg, (hb.block _ (heap_lt hh)).trans hh, rest⟩

theorem Grow.fresh {W W0 : World} {base : Nat} {v : Value} {ps : List (Nm × Int)} {n : Nat} (h : Grow W base v ps n) (hs : W.heap.size ≤ W0.heap.size) {s : Value} (hn : NewSl W0 s) : apart v.ownBlock s := fun a l c e _ hb => by
  have h1 := hn a l c e
  have h2 := (h.1.lt _ hb.symm).2
  omega

theorem grow_snoc {base : Nat} {wr w3 : World} {v : Value} {ps : List (Nm × Int)} {n : Nat} {r : Nm} {z : Int} {g cap : Nat} {ob : Obj} (h : Grow wr base v ps n) (hz : NumL wr r.val z n) (ha : apart v.ownBlock r.sl)
    (hown : w3.ownsRow base 26 2 (.slice (some ⟨g, 0, none⟩) (ps.length + 1) cap) (ps.length + 1) (ps.flatMap ncells ++ ncells (r, z)))
    (hg : (wr.alloc ob).grownBy w3 v.ownBlock) (hat : v.ownBlock = some g ∨ g = wr.heap.size + 1) : Grow w3 base (.slice (some ⟨g, 0, none⟩) (ps.length + 1) cap) (ps ++ [(r, z)]) n := by
  refine ⟨by rw [List.length_append, List.length_singleton, List.flatMap_append, List.flatMap_singleton]; exact hown, fun p hp => ?_⟩
  have key : ∀ p : Nm × Int, NumL wr p.1.val p.2 n → apart v.ownBlock p.1.sl → NumL w3 p.1.val p.2 n ∧ apart (some g) p.1.sl := fun p h1 h2 => by
    refine ⟨(h1.below ((Below.refl _ _).alloc (Nat.le_refl _) ob) (Nat.le_refl _)).grown hg h2, fun a l c e h0 hb => ?_⟩
    rcases hat with h | h
    · exact h2 a l c e h0 (hb.trans h.symm)
    · have := h1.inside a l c e h0
      simp only [Option.some.injEq] at hb
      omega
  rcases List.mem_append.1 hp with h' | h'
  · exact key p (h.2 p h').1 (h.2 p h').2
  · rw [List.mem_singleton] at h'
    rw [h']
    exact key (r, z) hz ha

theorem grow_below {base : Nat} {wr w3 : World} {v : Value} {ps : List (Nm × Int)} {n : Nat} {ob : Obj} (h : Grow wr base v ps n) (hB : base ≤ wr.heap.size) (hg : (wr.alloc ob).grownBy w3 v.ownBlock) : Below base wr w3 :=
  ((Below.refl _ _).alloc hB _).grown hg (by simp; omega) (fun k hk => (h.1.lt k hk).1)

theorem ncells_at (ps : List (Nm × Int)) : ∀ i (h : i < ps.length), (ps.flatMap ncells)[i * 2]? = some (.bool ps[i].1.neg) ∧ (ps.flatMap ncells)[i * 2 + 1]? = some (.slice ps[i].1.o ps[i].1.l ps[i].1.c) := by
  induction ps with
  | nil => intro i h; exact absurd h (by simp)
  | cons p ps ih =>
    intro i h
    rw [List.flatMap_cons]
    cases i with
    | zero => exact ⟨rfl, rfl⟩
    | succ i =>
      obtain ⟨h1, h2⟩ := ih i (by simpa using h)
      have e1 : (i + 1) * 2 = i * 2 + 2 := by omega
      rw [e1, show i * 2 + 2 + 1 = i * 2 + 1 + 2 by omega, List.getElem?_append_right (by simp [ncells]), List.getElem?_append_right (by simp [ncells])]
      exact ⟨h1, h2⟩

/-- It is a vector of these numbers. -/
theorem Grow.vec {W : World} {base : Nat} {v : Value} {ps : List (Nm × Int)} {n : Nat} (h : Grow W base v ps n) : VecN W v (ps.map (·.2)) n := by
  obtain ⟨⟨-, h1⟩, h2⟩ := h
  have hlen : (ps.map (·.2)).length = ps.length := List.length_map ..
  rcases h1 with ⟨rfl, hn⟩ | ⟨g, cap, cur, rfl, hb, hh, hc1, hc2, hc3, hc4⟩
  · exact ⟨none, 0, by rw [hlen, hn], by rw [hlen]; omega, fun h0 => absurd h0 (by rw [hlen]; omega)⟩
  · refine ⟨_, cap, by rw [hlen], by rw [hlen]; exact hc1, fun h0 => ⟨g, 0, rfl, heap_lt hh, fun i hi => ?_⟩⟩
    rw [hlen] at hi
    obtain ⟨e1, e2⟩ := ncells_at ps i hi
    have hcell : ∀ k u, k < ps.length * 2 → (ps.flatMap ncells)[k]? = some u → W.cell? ⟨g, 0 + k, none⟩ = some u := fun k u hk hu => by
      have := World.news_of_block hh k u (by rw [← hc4, List.getElem?_take, if_pos hk] at hu; exact hu)
      have e : (⟨g, 0, none⟩ : Addr).add k = ⟨g, 0 + k, none⟩ := by unfold Addr.add; split <;> simp_all
      rwa [e] at this
    refine ⟨ps[i].1.neg, ps[i].1.o, ps[i].1.l, ps[i].1.c, hcell _ _ (by omega) e1, hcell _ _ (by omega) e2, ?_⟩
    have e3 : (ps.map (·.2)).getD i 0 = ps[i].2 := by
      rw [List.getD_eq_getElem?_getD, List.getElem?_map, List.getElem?_eq_getElem hi]; rfl
    rw [e3]
    exact (h2 _ (List.getElem_mem hi)).1

end Go.Proofs.YtjblidoilphifabGreatDoor

/- The reference: one row of its own becomes a vector. -/
namespace Go.Proofs.YtjblidoilphifabGreatDoor
open Go.RowKit Limbs Digs

theorem VecN.grown {W W' : World} {v : Value} {zs : List Int} {n : Nat} (h : VecN W v zs n) (hg : W.grownBy W' none) : VecN W' v zs n := by
  obtain ⟨ao, cap, hv, h1, h2⟩ := h
  refine ⟨ao, cap, hv, h1, fun h0 => ?_⟩
  obtain ⟨b, off, e, hlt, hc⟩ := h2 h0
  refine ⟨b, off, e, Nat.lt_of_lt_of_le hlt hg.size, fun i hi => ?_⟩
  obtain ⟨neg, o, l, c, h3, h4, h5⟩ := hc i hi
  exact ⟨neg, o, l, c, hg.cell h3 (by simp), hg.cell h4 (by simp), NumL.grown (r := ⟨neg, o, l, c⟩) h5 hg (fun _ _ _ _ _ h => by cases h)⟩

set_option maxRecDepth 100000 in
set_option maxHeartbeats 1600000 in
theorem matOf_one (w : World) (v : Value) (zs : List Int) (n : Nat) (hv : MatR w v [zs] n) (hr : zs.length ≤ 1000) (hn6 : n ≤ 1000000 := by omega) :
    Calls Tryz.prog 34 #[v] w fun e w' => ∃ u, e = .returned u ∧ MatN w' u [zs] n ∧ Below w.heap.size w w' := by
  obtain ⟨i0, hi, hz0, hz1, hz2⟩ := info_parts Tryz.infoNum
  obtain ⟨j0, hj, hy0, hy1, hy2⟩ := info_parts Tryz.infoVec
  have HV := hide hv
  obtain ⟨ao, cap, rfl, -, -⟩ := hv
  go_enter Tryz.func34, Tryz.ntmps34
  go_wp2
  go_loopw [3, 4] (fun out i wr => ∃ k : Nat, k ≤ 1 ∧ i = .int .i64 k ∧ (k = 0 → out = .slice none 0 0) ∧ (k = 1 → Hid (MatN wr out [zs] n)) ∧ Below w.heap.size w wr) (fun _ i _ => 1 - (intOf i).toNat)
  case atStart => exact ⟨0, Nat.zero_le _, rfl, fun _ => rfl, fun h => absurd h (by decide), Below.refl _ _⟩
  case round =>
    obtain ⟨k, hk, rfl, h0, h1, hbe⟩ := hrel
    have HBE := hide hbe
    clear hbe
    by_cases hkl : k = 0
    · subst hkl
      obtain rfl := h0 rfl
      clear h0 h1
      rw [show ((0 : Nat) : Int) = 0 from rfl]
      obtain ⟨_, _, e, -, hc⟩ := HV.out.below HBE.out (Nat.le_refl _)
      simp only [Value.slice.injEq, true_and] at e
      obtain ⟨rfl, rfl⟩ := e
      obtain ⟨b, rfl, hblt, hc⟩ := hc (by simp)
      obtain ⟨u, cu, hu⟩ := hc 0 zs rfl
      have HU := hide hu
      clear hc
      obtain ⟨vo, vcap, rfl, -, -⟩ := hu
      go_wp2
      obtain ⟨wo, rfl⟩ : ∃ wo : World, wo = wr := ⟨_, rfl⟩
      go_loopw [5, 6] (fun r i wr => ∃ (q : Nat) (ps : List (Nm × Int)), q ≤ zs.length ∧ i = .int .i64 q ∧ Grow wr wo.heap.size r ps n ∧ Hid (ps.map (·.2) = zs.take q) ∧ Below wo.heap.size wo wr) (fun _ i _ => zs.length - (intOf i).toNat)
      case atStart => exact ⟨0, [], Nat.zero_le _, rfl, Grow.nil _ _ _, by show _ = _; simp, Below.refl _ _⟩
      case round =>
        obtain ⟨q, ps, hq, rfl, hgr, HP, hbi⟩ := hrel
        have HGR := hide hgr; have HBI := hide hbi
        have HPL : Hid (ps.length = q) := by
          have := congrArg List.length HP.out
          rw [List.length_map, List.length_take] at this
          show ps.length = q
          omega
        clear hgr hbi
        have cu2 : wr.cell? ⟨b, 0, none⟩ = some (.slice vo zs.length vcap) := (HBI.out.cell (p := ⟨b, 0, none⟩) hblt).trans cu
        by_cases hql : q < zs.length
        · obtain ⟨ab, _, e, la, rs, ro, rl, rc, a0, a1, na⟩ := (HU.out.below HBI.out (Nat.le_refl _)).at q hql
          simp only [Value.slice.injEq, true_and] at e
          obtain ⟨rfl, rfl⟩ := e
          have NA := hide na
          have HP' : Hid (∀ r : Nm, (ps ++ [(r, zs.getD q 0)]).map (·.2) = zs.take (q + 1)) := fun r => by
            rw [List.map_append, HP.out, List.take_succ_eq_append_getElem hql, List.getD_eq_getElem?_getD, List.getElem?_eq_getElem hql]; rfl
          clear na
          generalize zs.getD q 0 = z at *
          go_wp2_with fail
          refine (intR_new wr _ z n NA.out).mono ?_
          rintro e w3 ⟨⟨r, rfl, hr3, hb3⟩, hnew⟩
          obtain ⟨⟨rn, ro', rl', rc'⟩, rfl⟩ := hr3.nm
          have HAP : Hid (apart u5.ownBlock (Nm.sl ⟨rn, ro', rl', rc'⟩)) := HGR.out.fresh (Nat.le_refl _) (hnew _ _ rfl)
          have HG3 := hide (HGR.out.later hb3)
          have HB3 := hide (HBI.out.trans (hb3.mono HBI.out.size))
          have HR3 : Hid (NumL w3 (Nm.val ⟨rn, ro', rl', rc'⟩) z n) := hr3
          have hown := HG3.out.1
          clear hr3 hb3 hnew HGR HBI a0 a1 cu2 NA
          go_wp2_with (at_builtin; refine wpList_append_lies _ rfl _ _ 23 rfl wo.heap.size 26 i0 (.agg #[.bool false, .slice none 0 0]) 2 32 (by kernel_rfl) hi hz0 hz1 hz2 rfl (by decide) u5 ps.length (ps.flatMap ncells) rfl (hown.alloc _) ⟨w3.heap.size, 0, none⟩ 1 1 [.bool rn, .slice ro' rl' rc'] rfl rfl (World.news_of_block (heap_alloc_new w3 _)) (fun u hu => by simp only [List.mem_cons, List.mem_nil_iff, or_false] at hu; rcases hu with rfl | rfl <;> rfl) (by decide) (by unfold maxLen; have := HPL.out; omega) (by have := HPL.out; omega) (by simp; have := HB3.out.size; omega) (w3.heap.size + 1) (by simp) ?_)
          intro g cap' w5 hown5 hgrow5 hat5 hlt5
          have HN := hide (grow_snoc HG3.out HR3.out HAP.out hown5 hgrow5 hat5)
          have HB5 := hide (HB3.out.trans (grow_below HG3.out HB3.out.size hgrow5))
          have HP5 := hide (HP'.out ⟨rn, ro', rl', rc'⟩)
          clear hown hown5 hgrow5 hat5 hlt5 HG3 HR3 HB3 HP' HP HAP
          go_wp2
          go_roundw
          case rel => exact ⟨q + 1, _, by omega, by go_num, HN.out, HP5, HB5.out⟩
          case measure => simp [intOf]; omega
        · obtain rfl : q = zs.length := by omega
          have HRR : Hid (VecN wr u5 zs n) := by
            have := HGR.out.vec
            rw [HP.out, List.take_length] at this
            exact this
          have HB2 := hide (HBE.out.trans (HBI.out.mono HBE.out.size))
          obtain ⟨so, sl, sc, rfl⟩ : ∃ so sl sc, u5 = .slice so sl sc := by
            obtain ⟨so, sc, e, -⟩ := HRR.out
            exact ⟨_, _, _, e⟩
          clear HGR HP HPL
          go_wp2_with (at_builtin; refine wpList_append_lies _ rfl _ _ 28 rfl w.heap.size 23 j0 (.slice none 0 0) 1 24 (by kernel_rfl) hj hy0 hy1 hy2 rfl (by decide) (.slice none 0 0) 0 [] rfl (World.ownsRow_nil _ _ _ _) ⟨wr.heap.size, 0, none⟩ 1 1 [.slice so sl sc] rfl rfl (World.news_of_block (heap_alloc_new wr _)) (fun u hu => by rw [List.mem_singleton] at hu; rw [hu]; rfl) (by decide) (by unfold maxLen; omega) (by omega) (by simp; have := HB2.out.size; omega) (wr.heap.size + 1) (by simp) ?_)
          intro g cap' w5 hown5 hgrow5 hat5 hlt5
          have HN : Hid (MatN w5 (.slice (some ⟨g, 0, none⟩) (0 + 1) cap') [zs] n) := by
            have hvv : VecN w5 (.slice so sl sc) zs n := (HRR.out.below ((Below.refl _ _).alloc (Nat.le_refl _) _) (Nat.le_refl _)).grown hgrow5
            rcases hown5.2 with ⟨e, -⟩ | ⟨g', cap2, cur, e, hb, hh, hc1, hc2, hc3, hc4⟩
            · cases e
            · simp only [Value.slice.injEq, Option.some.injEq, Addr.mk.injEq, and_true] at e
              obtain ⟨rfl, -, rfl⟩ := e
              refine ⟨_, _, rfl, hc1, fun _ => ⟨g, 0, rfl, hlt5, fun i zs' hi' => ?_⟩⟩
              obtain rfl : i = 0 := by
                have := (List.getElem?_eq_some_iff.1 hi').1
                simpa using this
              simp only [List.getElem?_cons_zero, Option.some.injEq] at hi'
              subst hi'
              refine ⟨.slice so sl sc, ?_, hvv⟩
              have := World.news_of_block hh 0 (.slice so sl sc) (by
                have e : ([.slice so sl sc] : List Value)[0]? = some (.slice so sl sc) := rfl
                have h4 : cur.toList.take 1 = [.slice so sl sc] := by simpa using hc4
                rw [← h4, List.getElem?_take, if_pos (by decide)] at e
                exact e)
              simpa [Addr.add] using this
          have HB5 : Hid (Below w.heap.size w w5) := HB2.out.trans (((Below.refl _ _).alloc HB2.out.size _).grown hgrow5 (by simp; have := HB2.out.size; omega) (fun k hk => by cases hk))
          clear hown5 hgrow5 hat5 hlt5 HRR HB2 cu2
          go_wp2
          go_roundw
          case rel => exact ⟨1, by omega, by go_num, fun h => absurd h (by decide), fun _ => HN, HB5.out⟩
          case measure => simp [intOf]
    · obtain rfl : k = 1 := by omega
      have HF := h1 rfl
      clear h0 h1
      go_wp2
      go_ret
      exact ⟨_, rfl, HF.out, HBE.out⟩

end Go.Proofs.YtjblidoilphifabGreatDoor
