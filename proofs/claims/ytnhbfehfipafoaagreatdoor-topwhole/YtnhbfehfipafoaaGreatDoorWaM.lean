/- A deed is there whole or not at all: without memory. -/
import Derived.Test.YtnhbfehfipafoaaGreatDoorWaJ

namespace Go.Proofs.YtnhbfehfipafoaaGreatDoor
open Go.RowKit

def seg (c : Nat → List UInt8) (fr a n : Nat) : List (List UInt8) := (List.range n).map fun i => c (fr + (a + i))

theorem seg_len (c : Nat → List UInt8) (fr a n : Nat) : (seg c fr a n).length = n := by simp [seg]

theorem seg_succ (c : Nat → List UInt8) (fr a n : Nat) : seg c fr a (n + 1) = c (fr + a) :: seg c fr (a + 1) n := by
 unfold seg
 rw [List.range_succ_eq_map, List.map_cons, List.map_map, Nat.add_zero]
 congr 1
 apply List.map_congr_left
 intro i _
 show c (fr + (a + (i + 1))) = c (fr + (a + 1 + i))
 congr 2
 omega

theorem seg_app (c : Nat → List UInt8) (fr : Nat) : ∀ (n a k : Nat), seg c fr a (n + k) = seg c fr a n ++ seg c fr (a + n) k
 | 0, a, k => by rw [Nat.zero_add, Nat.add_zero]; rfl
 | n + 1, a, k => by
  rw [show n + 1 + k = (n + k) + 1 by omega, seg_succ, seg_succ, seg_app c fr n (a + 1) k, List.cons_append]
  congr 3
  omega

theorem seg_congr {c c' : Nat → List UInt8} {fr a n : Nat} (h : ∀ i, i < n → c (fr + (a + i)) = c' (fr + (a + i))) : seg c fr a n = seg c' fr a n := by
 unfold seg
 apply List.map_congr_left
 intro i hi
 exact h i (List.mem_range.1 hi)

theorem seg_wiped (f : Int) (c c' : Nat → List UInt8) (fr : Nat) : ∀ (n a : Nat), (∀ i, i < n → c' (fr + (a + i)) = c (fr + (a + i)) ∨ ((rdSec (f + (a + i : Nat)) (c (fr + (a + i)))).1 = 99 ∧ (rdSec (f + (a + i : Nat)) (c' (fr + (a + i)))).1 = 0)) → WipedL f a (seg c fr a n) (seg c' fr a n)
 | 0, _, _ => trivial
 | n + 1, a, h => by
  rw [seg_succ, seg_succ]
  refine ⟨by simpa using h 0 (by omega), seg_wiped f c c' fr n (a + 1) fun i hi => ?_⟩
  have := h (i + 1) (by omega)
  rw [show a + (i + 1) = a + 1 + i by omega] at this
  exact this

theorem seg_nocl (f : Int) (c : Nat → List UInt8) (fr : Nat) : ∀ (n a : Nat), (∀ i, i < n → (rdSec (f + (a + i : Nat)) (c (fr + (a + i)))).1 ≠ 99) → NoCl f a (seg c fr a n)
 | 0, _, _ => trivial
 | n + 1, a, h => by
  rw [seg_succ]
  refine ⟨by simpa using h 0 (by omega), seg_nocl f c fr n (a + 1) fun i hi => ?_⟩
  have := h (i + 1) (by omega)
  rw [show a + (i + 1) = a + 1 + i by omega] at this
  exact this

theorem seg_ops (f : Int) (c : Nat → List UInt8) (fr : Nat) : ∀ (os : List OpV) (a : Nat), (∀ i (o : OpV), os[i]? = some o → c (fr + (a + i)) = padded (secT 111 (f + (a + i : Nat)) (opB o))) → seg c fr a os.length = opSecs f a os
 | [], _, _ => rfl
 | o :: t, a, h => by
  rw [List.length_cons, seg_succ, opSecs]
  congr 1
  ·have := h 0 o rfl
   simpa using this
  ·refine seg_ops f c fr t (a + 1) fun i x hx => ?_
   have := h (i + 1) x (by simpa using hx)
   rw [show a + (i + 1) = a + 1 + i by omega] at this
   exact this

def saysL (f : Int) (fr mn : Nat) (c : Nat → List UInt8) : St := scanS f (seg c fr 0 mn)

theorem says_from {f : Int} {fr mn en : Nat} {ds : List (List OpV)} {c : Nat → List UInt8} (h : (saysL f fr mn c).ds = ds) (he : (saysL f fr mn c).e = en) :
  en ≤ mn ∧ ∀ c' : Nat → List UInt8, (∀ i, i < en → c' (fr + i) = c (fr + i)) → saysL f fr mn c' = (seg c' fr en (mn - en)).foldl (stepS f) ⟨en, false, [], ds, en⟩ := by
 have h1 := scan_full f (seg c fr 0 mn)
 unfold saysL at h he
 rw [he, h, seg_len] at h1
 refine ⟨h1.1, fun c' hc => ?_⟩
 have hsp : ∀ c : Nat → List UInt8, seg c fr 0 mn = seg c fr 0 en ++ seg c fr en (mn - en) := fun c => by
  have := seg_app c fr en 0 (mn - en)
  rw [Nat.zero_add, show en + (mn - en) = mn by omega] at this
  exact this
 have ht : (seg c fr 0 mn).take en = seg c fr 0 en := by rw [hsp c, List.take_left' (seg_len c fr 0 en)]
 have hs : seg c' fr 0 en = seg c fr 0 en := seg_congr fun i hi => by rw [Nat.zero_add]; exact hc i hi
 unfold saysL scanS
 rw [hsp c', List.foldl_append, hs, ← ht]
 have h2 := h1.2
 unfold scanS at h2
 rw [h2]

theorem says_more {f : Int} {fr mn en : Nat} {ds : List (List OpV)} {os : List OpV} {c : Nat → List UInt8} (hn : en + os.length < mn) (ho : ∀ o ∈ os, opF o = 0)
  (h1 : ∀ i (o : OpV), os[i]? = some o → c (fr + (en + i)) = padded (secT 111 (f + (en + i : Nat)) (opB o))) (h2 : c (fr + (en + os.length)) = padded (secT 99 (f + (en + os.length : Nat)) (fourB os.length)))
  (h3 : ∀ i, en + os.length < i → i < mn → (rdSec (f + (i : Nat)) (c (fr + i))).1 ≠ 99) :
  ((seg c fr en (mn - en)).foldl (stepS f) ⟨en, false, [], ds, en⟩).ds = ds ++ [os] ∧ ((seg c fr en (mn - en)).foldl (stepS f) ⟨en, false, [], ds, en⟩).e = en + os.length + 1 := by
 have hsp : seg c fr en (mn - en) = (opSecs f en os ++ [padded (secT 99 (f + (en + os.length : Nat)) (fourB os.length))]) ++ seg c fr (en + os.length + 1) (mn - (en + os.length + 1)) := by
  rw [show mn - en = os.length + (1 + (mn - (en + os.length + 1))) by omega, seg_app, seg_ops f c fr os en h1, seg_app c fr 1, List.append_assoc]
  congr 2
  unfold seg
  simp [h2]
 have hd := fold_deed f os ⟨en, false, [], ds, en⟩ rfl rfl ho
 rw [hsp, List.foldl_append, hd]
 exact fold_nocl f _ _ (show NoCl f (en + os.length + 1) _ from seg_nocl f c fr _ _ fun i hi => h3 _ (by omega) (by omega))

theorem says_none {f : Int} {fr mn en : Nat} {ds : List (List OpV)} {c : Nat → List UInt8} (h3 : ∀ i, en ≤ i → i < mn → (rdSec (f + (i : Nat)) (c (fr + i))).1 ≠ 99) :
  ((seg c fr en (mn - en)).foldl (stepS f) ⟨en, false, [], ds, en⟩).ds = ds ∧ ((seg c fr en (mn - en)).foldl (stepS f) ⟨en, false, [], ds, en⟩).e = en :=
 fold_nocl f _ _ (show NoCl f en _ from seg_nocl f c fr _ _ fun i hi => h3 _ (by omega) (by omega))

theorem wipes_facts (f : Int) (fr : Nat) : ∀ (c i : Nat) (D : Dsk) (wp : Bool), fr + i + c ≤ D.secs.length →
  (wipesD f fr c i D wp).1.secs.length = D.secs.length ∧
  (∀ j x, poss (wipesD f fr c i D wp).1 j x → poss D j x ∨ (x = padded [] ∧ ∃ t, i ≤ t ∧ t < i + c ∧ j = fr + t ∧ (rdSec (f + (t : Nat)) (cont D j)).1 = 99)) ∧
  ((wipesD f fr c i D wp).2.1 = true → (wipesD f fr c i D wp).1.down = D.down ∧
   (∀ t, i ≤ t → t < i + c → (rdSec (f + (t : Nat)) (cont D (fr + t))).1 = 99 → cont (wipesD f fr c i D wp).1 (fr + t) = padded []) ∧
   (∀ j, (∀ t, i ≤ t → t < i + c → j = fr + t → (rdSec (f + (t : Nat)) (cont D j)).1 ≠ 99) → cont (wipesD f fr c i D wp).1 j = cont D j) ∧
   ((wipesD f fr c i D wp).2.2 = false → (wipesD f fr c i D wp).1.secs = D.secs ∧ wp = false))
 | 0, i, D, wp, _ => ⟨rfl, fun _ _ h => .inl h, fun _ => ⟨rfl, fun t h1 h2 => absurd h2 (by omega), fun _ _ => rfl, fun h => ⟨rfl, h⟩⟩⟩
 | c + 1, i, D, wp, hl => by
  unfold wipesD
  split
  ·exact ⟨rfl, fun _ _ h => .inl h, fun h => by cases h⟩
  ·split
   ·rename_i h99
    split
    ·rename_i hs
     obtain ⟨g1, g2, g3, g4⟩ := put_done (D := D) (i := fr + i) (t := ⟨#[]⟩) (by omega) (by decide) hs
     have hne : ∀ t, i + 1 ≤ t → cont (putD D ((fr + i : Nat) : Int) ⟨#[]⟩) (fr + t) = cont D (fr + t) := fun t ht => by rw [g1, if_neg (by omega)]
     obtain ⟨k1, k2, k3⟩ := wipes_facts f fr c (i + 1) (putD D ((fr + i : Nat) : Int) ⟨#[]⟩) true (by rw [g3]; omega)
     refine ⟨k1.trans g3, fun j x hp => ?_, fun hok => ?_⟩
     ·rcases k2 j x hp with h | ⟨h, t, t1, t2, t3, t4⟩
      ·rcases g2 j x h with h | ⟨h1, h2⟩
       ·exact .inl h
       ·exact .inr ⟨h2, i, Nat.le_refl _, by omega, h1, by rw [h1]; exact h99⟩
      ·exact .inr ⟨h, t, by omega, by omega, t3, by rw [t3, hne t t1] at t4; rw [t3]; exact t4⟩
     ·obtain ⟨m1, m2, m3, m4⟩ := k3 hok
      refine ⟨m1.trans g4, fun t t1 t2 t3 => ?_, fun j hj => ?_, fun h => absurd (m4 h).2 (by decide)⟩
      ·by_cases e : t = i
       ·subst e
        rw [m3 _ (fun u u1 u2 u3 => absurd u3 (by omega)), g1, if_pos rfl]
       ·exact m2 t (by omega) (by omega) (by rw [hne t (by omega)]; exact t3)
      ·have hji : j ≠ fr + i := fun e => hj i (Nat.le_refl _) (by omega) e (by rw [e]; exact h99)
       have h1 : cont (putD D ((fr + i : Nat) : Int) ⟨#[]⟩) j = cont D j := by rw [g1, if_neg hji]
       rw [m3 j (fun u u1 u2 u3 => by rw [h1]; exact hj u (by omega) (by omega) u3), h1]
    ·rename_i hs
     have hs' : D.steps = false := by simpa using hs
     obtain ⟨g1, g2⟩ := put_fell (D := D) (i := fr + i) (t := ⟨#[]⟩) (by omega) (by decide) hs'
     exact ⟨by rw [g1], fun j x hp => .inl ((poss_same g1 j x).1 hp), fun h => by cases h⟩
   ·rename_i h99
    obtain ⟨k1, k2, k3⟩ := wipes_facts f fr c (i + 1) D wp (by omega)
    refine ⟨k1, fun j x hp => ?_, fun hok => ?_⟩
    ·rcases k2 j x hp with h | ⟨h, t, t1, t2, t3, t4⟩
     ·exact .inl h
     ·exact .inr ⟨h, t, by omega, by omega, t3, t4⟩
    ·obtain ⟨m1, m2, m3, m4⟩ := k3 hok
     refine ⟨m1, fun t t1 t2 t3 => ?_, fun j hj => m3 j fun u u1 u2 u3 => hj u (by omega) (by omega) u3, m4⟩
     by_cases e : t = i
     ·subst e; exact absurd t3 h99
     ·exact m2 t (by omega) (by omega) t3

theorem writes_facts (f : Int) (fr : Nat) : ∀ (bs : List ByteArray) (i : Nat) (D : Dsk), fr + i + bs.length ≤ D.secs.length → (∀ b ∈ bs, b.size ≤ 58) →
  (writesD f fr i bs D).1.secs.length = D.secs.length ∧
  (∀ j x, poss (writesD f fr i bs D).1 j x → poss D j x ∨ ∃ t b, bs[t]? = some b ∧ j = fr + (i + t) ∧ x = padded (secT 111 (f + (i + t : Nat)) b.data.toList)) ∧
  ((writesD f fr i bs D).2 = true → (writesD f fr i bs D).1.down = D.down ∧
   (∀ t b, bs[t]? = some b → cont (writesD f fr i bs D).1 (fr + (i + t)) = padded (secT 111 (f + (i + t : Nat)) b.data.toList)) ∧
   (∀ j, (∀ t, t < bs.length → j ≠ fr + (i + t)) → cont (writesD f fr i bs D).1 j = cont D j))
 | [], i, D, _, _ => ⟨rfl, fun _ _ h => .inl h, fun _ => ⟨rfl, fun t b h => by simp at h, fun _ _ => rfl⟩⟩
 | b :: r, i, D, hl, hb => by
  have hsz : (secB (secT 111 (f + (i : Nat)) b.data.toList)).size ≤ 64 := by
   show (List.toArray _).size ≤ 64
   rw [List.size_toArray, secT_len]
   have h1 := hb b (by simp)
   have h2 : b.data.toList.length = b.size := by simp
   omega
  rw [List.length_cons] at hl
  unfold writesD
  split
  ·rename_i hs
   obtain ⟨g1, g2, g3, g4⟩ := put_done (D := D) (i := fr + i) (t := secB (secT 111 (f + (i : Nat)) b.data.toList)) (by omega) hsz hs
   obtain ⟨k1, k2, k3⟩ := writes_facts f fr r (i + 1) (putD D ((fr + i : Nat) : Int) (secB (secT 111 (f + (i : Nat)) b.data.toList))) (by rw [g3]; omega) (fun x hx => hb x (List.mem_cons_of_mem _ hx))
   refine ⟨k1.trans g3, fun j x hp => ?_, fun hok => ?_⟩
   ·rcases k2 j x hp with h | ⟨t, y, ty, tj, tx⟩
    ·rcases g2 j x h with h | ⟨h1, h2⟩
     ·exact .inl h
     ·exact .inr ⟨0, b, rfl, by rw [h1, Nat.add_zero], by rw [h2, Nat.add_zero]; rfl⟩
    ·refine .inr ⟨t + 1, y, by simpa using ty, by omega, ?_⟩
     rw [show i + (t + 1) = i + 1 + t by omega]
     exact tx
   ·obtain ⟨m1, m2, m3⟩ := k3 hok
    refine ⟨m1.trans g4, fun t y ty => ?_, fun j hj => ?_⟩
    ·match t with
     | 0 =>
      obtain rfl : b = y := by simpa using ty
      rw [m3 _ (fun u hu => by omega), g1, if_pos (by omega)]
      rfl
     | t + 1 =>
      have := m2 t y (by simpa using ty)
      rw [show i + (t + 1) = i + 1 + t by omega]
      exact this
    ·rw [m3 j (fun t ht => by have := hj (t + 1) (by rw [List.length_cons]; omega); omega), g1, if_neg (by have := hj 0 (by rw [List.length_cons]; omega); omega)]
  ·rename_i hs
   have hs' : D.steps = false := by simpa using hs
   obtain ⟨g1, g2⟩ := put_fell (D := D) (i := fr + i) (t := secB (secT 111 (f + (i : Nat)) b.data.toList)) (by omega) hsz hs'
   exact ⟨by rw [g1], fun j x hp => .inl ((poss_same g1 j x).1 hp), fun h => by cases h⟩

end Go.Proofs.YtnhbfehfipafoaaGreatDoor

/- A deed is there whole or not at all: what Add leaves. -/
namespace Go.Proofs.YtnhbfehfipafoaaGreatDoor
open Go.RowKit

theorem uncloseR_secs {R : Dsk × Bool × Bool} (h : uncloseB R = false) : (uncloseR R).2.secs = R.1.secs := by
 obtain ⟨D, ok, wp⟩ := R
 cases ok with
 | false => rfl
 | true =>
  cases wp with
  | false => cases h
  | true =>
   have hs : D.steps = false := by simpa [uncloseB] using h
   exact (flush_fell hs).1

theorem andFlush_secs {D : Dsk} {ok : Bool} (h : andB D ok = false) : (andFlush D ok).2.secs = D.secs := by
 cases ok with
 | false => rfl
 | true =>
  have hs : D.steps = false := by simpa [andB] using h
  exact (flush_fell hs).1

theorem andFlush_done {D : Dsk} {ok : Bool} {m k : Nat} (hw : Well D m k) (h : andB D ok = true) : ok = true ∧ (∀ j, cont (andFlush D ok).2 j = cont D j) ∧ Clean (andFlush D ok).2 ∧ (andFlush D ok).2.secs.length = D.secs.length ∧ (andFlush D ok).2.down = D.down ∧ Well (andFlush D ok).2 m 0 := by
 cases ok with
 | false => cases h
 | true =>
  have hs : D.steps = true := by simpa [andB] using h
  exact ⟨rfl, flush_done hw hs⟩

theorem uncloseR_done {R : Dsk × Bool × Bool} {m k : Nat} (hw : Well R.1 m k) (h : uncloseB R = true) : R.2.1 = true ∧ (∀ j, cont (uncloseR R).2 j = cont R.1 j) ∧ ((R.2.2 = false → Clean R.1) → Clean (uncloseR R).2) ∧ (uncloseR R).2.secs.length = R.1.secs.length ∧ (uncloseR R).2.down = R.1.down := by
 obtain ⟨D, ok, wp⟩ := R
 cases ok with
 | false => cases h
 | true =>
  cases wp with
  | false => exact ⟨rfl, fun _ => rfl, fun h => h rfl, rfl, rfl⟩
  | true =>
   have hs : D.steps = true := by simpa [uncloseB] using h
   obtain ⟨h1, h2, h3, h4, -⟩ := flush_done hw hs
   exact ⟨rfl, h1, fun _ => h2, h3, h4⟩

theorem opS_data {o : OpV} (h : opF o = 0) : (opS o).data.toList = opB o := by
 unfold opS
 rw [if_pos h]

theorem addD_facts {f : Int} {fr mn en m k : Nat} {D : Dsk} {os : List OpV} {ds : List (List OpV)} (hw : Well D m k) (hin : fr + mn ≤ m) (hn : os.length < mn - en) (ho : ∀ o ∈ os, opF o = 0)
  (h : (saysL f fr mn (cont D)).ds = ds) (he : (saysL f fr mn (cont D)).e = en) :
  ((addD f fr en mn os D).2 = true → (addD f fr en mn os D).1.down = D.down ∧ Clean (addD f fr en mn os D).1 ∧ Well (addD f fr en mn os D).1 m 0 ∧ (saysL f fr mn (cont (addD f fr en mn os D).1)).ds = ds ++ [os] ∧ (saysL f fr mn (cont (addD f fr en mn os D).1)).e = en + os.length + 1) ∧
  (Clean D → (addD f fr en mn os D).2 = false → ∀ c : Nat → List UInt8, (∀ j, poss (addD f fr en mn os D).1 j (c j)) → (saysL f fr mn c).ds = ds ∨ (saysL f fr mn c).ds = ds ++ [os]) := by
 have hlen : D.secs.length = m := hw.len
 obtain ⟨hemn, hfrom⟩ := says_from h he
 have hbase : ((seg (cont D) fr en (mn - en)).foldl (stepS f) ⟨en, false, [], ds, en⟩).ds = ds := by
  rw [← hfrom (cont D) (fun _ _ => rfl)]
  exact h
 obtain ⟨w1, w2, w3⟩ := wipes_facts f fr (mn - en) en D false (by omega)
 have hRw := wipesD_well f fr m (mn - en) en k D false hw
 obtain ⟨R, hR⟩ : ∃ R, wipesD f fr (mn - en) en D false = R := ⟨_, rfl⟩
 rw [hR] at w1 w2 w3 hRw
 have hbs58 : ∀ b ∈ os.map opS, b.size ≤ 58 := fun b hb => by
  obtain ⟨o, h1, rfl⟩ := List.mem_map.1 hb
  have h2 := opB_small (ho o h1)
  have h3 : (opS o).data.toList.length = (opS o).size := by simp
  rw [opS_data (ho o h1)] at h3
  omega
 unfold addD
 rw [hR]
 by_cases hu : uncloseB R = false
 ·rw [if_pos hu]
  refine ⟨(fun h => absurd (show false = true from h) Bool.false_ne_true), fun hcl _ c hc => .inl ?_⟩
  have hs := uncloseR_secs hu
  have hp : ∀ j, c j = cont D j ∨ (c j = padded [] ∧ ∃ t, en ≤ t ∧ t < en + (mn - en) ∧ j = fr + t ∧ (rdSec (f + (t : Nat)) (cont D j)).1 = 99) := fun j => by
   rcases w2 j (c j) ((poss_same hs j (c j)).1 (hc j)) with h1 | h1
   ·exact .inl (hcl j _ h1)
   ·exact .inr h1
  rw [hfrom c (fun i hi => by
   rcases hp (fr + i) with h1 | ⟨-, t, t1, t2, t3, -⟩
   ·exact h1
   ·omega)]
  refine (fold_wiped f _ _ ⟨en, false, [], ds, en⟩ (seg_wiped f (cont D) c fr (mn - en) en fun i hi => ?_) hbase).1
  rcases hp (fr + (en + i)) with h1 | ⟨h1, t, t1, t2, t3, t4⟩
  ·exact .inl h1
  ·obtain rfl : t = en + i := by omega
   exact .inr ⟨t4, by rw [h1]; exact rdSec_zero _⟩
 rw [if_neg hu]
 have hu' : uncloseB R = true := by simpa using hu
 obtain ⟨u0, u1, u2, u3, u4⟩ := uncloseR_done hRw hu'
 obtain ⟨v1, v2, v3, v4⟩ := w3 u0
 have hD1w := uncloseR_well hRw
 obtain ⟨D1, hD1⟩ : ∃ D1, (uncloseR R).2 = D1 := ⟨_, rfl⟩
 rw [hD1] at u1 u2 u3 u4 hD1w ⊢
 have hcl1 : Clean D → Clean D1 := fun hc => u2 fun h0 => clean_same (v4 h0).1 hc
 have hlow : ∀ i, i < en → cont D1 (fr + i) = cont D (fr + i) := fun i hi => by
  rw [u1, v3 _ (fun t t1 t2 t3 => by omega)]
 have hno : ∀ i, en ≤ i → i < mn → (rdSec (f + (i : Nat)) (cont D1 (fr + i))).1 ≠ 99 := fun i h1 h2 => by
  rw [u1]
  by_cases h99 : (rdSec (f + (i : Nat)) (cont D (fr + i))).1 = 99
  ·rw [v2 i h1 (by omega) h99, rdSec_zero]
   decide
  ·rw [v3 _ (fun t t1 t2 t3 => by obtain rfl : t = i := (by omega); exact h99)]
   exact h99
 have hl1 : D1.secs.length = m := by rw [u3, w1, hlen]
 obtain ⟨x1, x2, x3⟩ := writes_facts f fr (os.map opS) en D1 (by rw [List.length_map]; omega) hbs58
 have hXw := writesD_well f fr m (os.map opS) en _ D1 hD1w
 obtain ⟨X, hX⟩ : ∃ X, writesD f fr en (os.map opS) D1 = X := ⟨_, rfl⟩
 rw [hX] at x1 x2 x3 hXw ⊢
 -- a sector of an operation closes nothing
 have hop : ∀ t b, (os.map opS)[t]? = some b → (rdSec (f + (en + t : Nat)) (padded (secT 111 (f + (en + t : Nat)) b.data.toList))).1 ≠ 99 := fun t b hb => by
  rw [rdSec_secT 111 (.inl rfl) _ _ (by have h1 := hbs58 b (List.mem_of_getElem? hb); have h2 : b.data.toList.length = b.size := (by simp); omega)]
  show (111 : UInt8).toNat ≠ 99
  decide
 by_cases hx : andB X.1 X.2 = false
 ·rw [if_pos hx]
  refine ⟨(fun h => absurd (show false = true from h) Bool.false_ne_true), fun hcl _ c hc => .inl ?_⟩
  have hs := andFlush_secs hx
  have hp : ∀ j, c j = cont D1 j ∨ ∃ t b, (os.map opS)[t]? = some b ∧ j = fr + (en + t) ∧ c j = padded (secT 111 (f + (en + t : Nat)) b.data.toList) := fun j => by
   rcases x2 j (c j) ((poss_same hs j (c j)).1 (hc j)) with h1 | h1
   ·exact .inl (hcl1 hcl j _ h1)
   ·exact .inr h1
  rw [hfrom c (fun i hi => by
   rcases hp (fr + i) with h1 | ⟨t, b, -, t2, -⟩
   ·rw [h1]; exact hlow i hi
   ·omega)]
  refine (says_none fun i h1 h2 => ?_).1
  rcases hp (fr + i) with h3 | ⟨t, b, t1, t2, t3⟩
  ·rw [h3]; exact hno i h1 h2
  ·obtain rfl : i = en + t := by omega
   rw [t3]
   exact hop t b t1
 rw [if_neg hx]
 have hx' : andB X.1 X.2 = true := by simpa using hx
 obtain ⟨y0, y1, y2, y3, y4, y5⟩ := andFlush_done hXw hx'
 obtain ⟨z1, z2, z3⟩ := x3 y0
 obtain ⟨D2, hD2⟩ : ∃ D2, (andFlush X.1 X.2).2 = D2 := ⟨_, rfl⟩
 rw [hD2] at y1 y2 y3 y4 y5 ⊢
 have hl2 : D2.secs.length = m := by rw [y3, x1, hl1]
 have hops : ∀ i (o : OpV), os[i]? = some o → cont D2 (fr + (en + i)) = padded (secT 111 (f + (en + i : Nat)) (opB o)) := fun i o hi => by
  rw [y1, z2 i (opS o) (by rw [List.getElem?_map, hi]; rfl), opS_data (ho o (List.mem_of_getElem? hi))]
 have hrest : ∀ j, (∀ t, t < os.length → j ≠ fr + (en + t)) → cont D2 j = cont D1 j := fun j hj => by
  rw [y1, z3 j (fun t ht => hj t (by rw [List.length_map] at ht; exact ht))]
 have hlow2 : ∀ i, i < en → cont D2 (fr + i) = cont D (fr + i) := fun i hi => by rw [hrest _ (fun t ht => by omega), hlow i hi]
 have hno2 : ∀ i, en ≤ i → i < mn → (rdSec (f + (i : Nat)) (cont D2 (fr + i))).1 ≠ 99 := fun i h1 h2 => by
  by_cases hi : i < en + os.length
  ·obtain ⟨t, rfl⟩ : ∃ t, i = en + t := ⟨i - en, by omega⟩
   have ht : t < os.length := by omega
   rw [hops t os[t] (List.getElem?_eq_getElem ht), ← opS_data (ho _ (List.getElem_mem ht))]
   exact hop t _ (by rw [List.getElem?_map, List.getElem?_eq_getElem ht]; rfl)
  ·rw [hrest _ (fun t ht => by omega)]
   exact hno i h1 h2
 have hcsz : (secB (secT 99 (f + (en + os.length : Nat)) (fourB os.length))).size ≤ 64 := by
  show (List.toArray _).size ≤ 64
  rw [List.size_toArray, secT_len, fourB_len]
  decide
 -- the closing
 have hYw := y5.put ((fr + (en + os.length) : Nat) : Int) (secB (secT 99 (f + (en + os.length : Nat)) (fourB os.length)))
 cases hs2 : D2.steps with
 | false =>
  obtain ⟨g1, -⟩ := put_fell (D := D2) (i := fr + (en + os.length)) (t := secB (secT 99 (f + (en + os.length : Nat)) (fourB os.length))) (by omega) hcsz hs2
  refine ⟨(fun h => absurd (show false = true from h) Bool.false_ne_true), fun _ _ c hc => .inl ?_⟩
  have hp : ∀ j, c j = cont D2 j := fun j => y2 j _ ((poss_same (D := D2) g1 j (c j)).1 (hc j))
  rw [hfrom c (fun i hi => by rw [hp]; exact hlow2 i hi)]
  exact (says_none fun i h1 h2 => by rw [hp]; exact hno2 i h1 h2).1
 | true =>
  obtain ⟨g1, g2, g3, g4⟩ := put_done (D := D2) (i := fr + (en + os.length)) (t := secB (secT 99 (f + (en + os.length : Nat)) (fourB os.length))) (by omega) hcsz hs2
  obtain ⟨Y, hY⟩ : ∃ Y, closedD f fr en os.length D2 = Y := ⟨_, rfl⟩
  have hY' : putD D2 ((fr + (en + os.length) : Nat) : Int) (secB (secT 99 (f + (en + os.length : Nat)) (fourB os.length))) = Y := hY
  rw [hY'] at g1 g2 g3 g4 hYw
  rw [hY]
  have hdata : (secB (secT 99 (f + (en + os.length : Nat)) (fourB os.length))).data.toList = secT 99 (f + (en + os.length : Nat)) (fourB os.length) := rfl
  rw [hdata] at g1 g2
  have hmore : ∀ c : Nat → List UInt8, c (fr + (en + os.length)) = padded (secT 99 (f + (en + os.length : Nat)) (fourB os.length)) → (∀ j, j ≠ fr + (en + os.length) → c j = cont D2 j) → (saysL f fr mn c).ds = ds ++ [os] ∧ (saysL f fr mn c).e = en + os.length + 1 := fun c h1 h2 => by
   rw [hfrom c (fun i hi => by rw [h2 _ (by omega)]; exact hlow2 i hi)]
   exact says_more (by omega) ho (fun i o hi => by rw [h2 _ (by have := (List.getElem?_eq_some_iff.1 hi).1; omega)]; exact hops i o hi) h1 (fun i h3 h4 => by rw [h2 _ (by omega)]; exact hno2 i (by omega) h4)
  cases hs3 : Y.steps with
  | false =>
   have hb : andB Y true = false := by unfold andB; rw [hs3]; rfl
   have hsx := andFlush_secs hb
   refine ⟨(fun h => by rw [hb] at h; exact absurd h Bool.false_ne_true), fun _ _ c hc => ?_⟩
   have hp : ∀ j, c j = cont D2 j ∨ (j = fr + (en + os.length) ∧ c j = padded (secT 99 (f + (en + os.length : Nat)) (fourB os.length))) := fun j => by
    rcases g2 j (c j) ((poss_same hsx j (c j)).1 (hc j)) with h1 | h1
    ·exact .inl (y2 j _ h1)
    ·exact .inr h1
   by_cases hcc : c (fr + (en + os.length)) = padded (secT 99 (f + (en + os.length : Nat)) (fourB os.length))
   ·exact .inr (hmore c hcc (fun j hj => (hp j).resolve_right (fun h => hj h.1))).1
   ·have hp2 : ∀ j, c j = cont D2 j := fun j => (hp j).resolve_right (fun h => hcc (by rw [← h.1]; exact h.2))
    refine .inl ?_
    rw [hfrom c (fun i hi => by rw [hp2]; exact hlow2 i hi)]
    exact (says_none fun i h1 h2 => by rw [hp2]; exact hno2 i h1 h2).1
  | true =>
   have hb : andB Y true = true := by unfold andB; rw [hs3]; rfl
   obtain ⟨-, q1, q2, -, q4, q5⟩ := andFlush_done hYw hb
   refine ⟨fun _ => ⟨?_, q2, q5, ?_⟩, fun _ h => absurd (hb.symm.trans h) (by decide)⟩
   ·rw [q4, g4, y4, z1, u4, v1]
   ·exact hmore _ (by rw [q1, g1, if_pos rfl]) (fun j hj => by rw [q1, g1, if_neg hj])

end Go.Proofs.YtnhbfehfipafoaaGreatDoor

/- Lists of operations, and of deeds, of one's own: they grow. -/
namespace Go.Proofs.YtnhbfehfipafoaaGreatDoor
open Go.RowKit

theorem own_snoc2 {P : Program} (W : World) (base : Nat) (hbase : base ≤ W.heap.size) (t ty e : TypeId) (i : TypeInfo) (z : Value) (sz by' : Nat) (ht : P.underlying t = some (.slice e)) (hi : P.info? e = some i) (hz : i.zero = some z)
  (hsize : i.size = sz) (hby : i.bytes = by') (hzs : z.cells.size = sz) (hsz : 0 < sz) (v : Value) (n : Nat) (xs : List Value) (hown : W.ownsRow base e sz v n xs)
  (ys : Array Value) (tb : TypeId) (hl : ys.size = sz) (h1 : ∀ y ∈ ys.toList, y.oneCell' = true) (h63 : n + 1 ≤ maxLen) (hbytes : (n + 1) * by' ≤ 140737488355328) :
  ∃ o c W', (Builtin.append_ #[t, t] ty #[v, .slice (some ⟨W.heap.size, 0, none⟩) 1 1]).run P (W.alloc (.cells ys tb)) = .ok (.slice o (n + 1) c) W' ∧ W'.ownsRow base e sz (.slice o (n + 1) c) (n + 1) (xs ++ ys.toList) ∧ Below base W W' ∧
   (∀ (b : Nat) (cs : Array Value) (u : TypeId) (fz : Nat × Nat), W.heap[b]? = some (.cells cs u fz) → u ≠ e → W'.heap[b]? = W.heap[b]?) := by
 obtain ⟨v', W', hr, hown', hg, -⟩ := run_append_own (P := P) (W.alloc (.cells ys tb)) base t ty e i z sz by' ht hi hz hsize hby hzs hsz v n xs (hown.alloc _) ⟨W.heap.size, 0, none⟩ 1 1 ys.toList (by rw [Array.length_toList, hl, Nat.one_mul]) (World.news_of_block (heap_alloc_new W _)) h1 h63 hbytes (by simp; omega)
 obtain ⟨o, c, rfl, -⟩ := owns_form hown'
 refine ⟨o, c, W', hr, hown', owns_below hown hbase hg, fun b cs u fz hb hu => ?_⟩
 have hlt := heap_lt hb
 have h2 : (W.alloc (.cells ys tb)).heap[b]? = W.heap[b]? := ((Below.refl W.heap.size W).alloc (Nat.le_refl _) _).block b hlt
 rw [← h2]
 refine hg.block b (by simp; omega) (fun e' => ?_)
 rcases hown.2 with ⟨e2, -⟩ | ⟨g, cap, cur, e2, -, hg2, -⟩
 ·rw [e2] at e'; cases e'
 ·rw [e2] at e'
  simp only [Value.ownBlock, Option.some.injEq] at e'
  subst e'
  rw [hg2] at hb
  simp only [Option.some.injEq, Obj.cells.injEq] at hb
  exact hu hb.2.1.symm

theorem ownsKeep {W W' : World} {base : Nat} {e : TypeId} {size : Nat} {v : Value} {n : Nat} {xs : List Value} (h : W.ownsRow base e size v n xs) (hk : ∀ (b : Nat) (cs : Array Value) (fz : Nat × Nat), W.heap[b]? = some (.cells cs e fz) → W'.heap[b]? = W.heap[b]?) : W'.ownsRow base e size v n xs := by
 refine ⟨h.1, ?_⟩
 rcases h.2 with hn | ⟨g, cap, cur, ev, hbg, hg, rest⟩
 ·exact .inl hn
 ·exact .inr ⟨g, cap, cur, ev, hbg, (hk g _ _ hg).trans hg, rest⟩

theorem ownsLess {W : World} {base base' : Nat} {e : TypeId} {size : Nat} {v : Value} {n : Nat} {xs : List Value} (h : W.ownsRow base e size v n xs) (hb : base' ≤ base) : W.ownsRow base' e size v n xs := by
 refine ⟨h.1, ?_⟩
 rcases h.2 with hn | ⟨g, cap, cur, ev, hbg, rest⟩
 ·exact .inl hn
 ·exact .inr ⟨g, cap, cur, ev, by omega, rest⟩

def OpC.cells (q : OpC) : List Value := [.int .i64 q.o.kind, .string q.o.name, .int .i64 q.o.n, q.row]

def OpsT (base : Nat) (W : World) (v : Value) (os : List OpC) : Prop := W.ownsRow base 43 4 v os.length (os.flatMap OpC.cells) ∧ ∀ q ∈ os, RowAt 0 W q.vo q.o.v.length q.vc q.o.v

def DeedsT (base : Nat) (W : World) (v : Value) (dss : List (Value × List OpC)) : Prop := W.ownsRow base 44 1 v dss.length (dss.map (·.1)) ∧ ∀ p ∈ dss, OpsT 0 W p.1 p.2

def listT (t : TypeId) : Prop := t = 44 ∨ t = 43 ∨ t = 3

theorem RowAt.keep {W W' : World} {base : Nat} {o : Option Addr} {n c : Nat} {ks : List Int} (h : RowAt base W o n c ks) (hk : ∀ (b : Nat) (cs : Array Value) (fz : Nat × Nat), W.heap[b]? = some (.cells cs 3 fz) → W'.heap[b]? = W.heap[b]?) : RowAt base W' o n c ks := ⟨ownsKeep h.1 hk, h.2⟩

theorem OpsT.keep {W W' : World} {base : Nat} {v : Value} {os : List OpC} (h : OpsT base W v os) (hk : ∀ (b : Nat) (cs : Array Value) (t : TypeId) (fz : Nat × Nat), W.heap[b]? = some (.cells cs t fz) → listT t → W'.heap[b]? = W.heap[b]?) : OpsT base W' v os :=
 ⟨ownsKeep h.1 (fun b cs fz hb => hk b cs _ fz hb (.inr (.inl rfl))), fun q hq => (h.2 q hq).keep (fun b cs fz hb => hk b cs _ fz hb (.inr (.inr rfl)))⟩

theorem DeedsT.keep {W W' : World} {base : Nat} {v : Value} {dss : List (Value × List OpC)} (h : DeedsT base W v dss) (hk : ∀ (b : Nat) (cs : Array Value) (t : TypeId) (fz : Nat × Nat), W.heap[b]? = some (.cells cs t fz) → listT t → W'.heap[b]? = W.heap[b]?) : DeedsT base W' v dss :=
 ⟨ownsKeep h.1 (fun b cs fz hb => hk b cs _ fz hb (.inl rfl)), fun p hp => (h.2 p hp).keep hk⟩

theorem OpsT.later {W W' : World} {base : Nat} {v : Value} {os : List OpC} (h : OpsT base W v os) (hb : Below W.heap.size W W') : OpsT base W' v os := h.keep fun b _ _ _ hx _ => hb.block b (heap_lt hx)

theorem DeedsT.later {W W' : World} {base : Nat} {v : Value} {dss : List (Value × List OpC)} (h : DeedsT base W v dss) (hb : Below W.heap.size W W') : DeedsT base W' v dss := h.keep fun b _ _ _ hx _ => hb.block b (heap_lt hx)

theorem opsT_nil (base : Nat) (W : World) : OpsT base W (.slice none 0 0) [] := ⟨World.ownsRow_nil _ _ _ _, fun q hq => by cases hq⟩

theorem deedsT_nil (base : Nat) (W : World) : DeedsT base W (.slice none 0 0) [] := ⟨World.ownsRow_nil _ _ _ _, fun q hq => by cases hq⟩

theorem OpsT.form {base : Nat} {W : World} {v : Value} {os : List OpC} (h : OpsT base W v os) : ∃ o c, v = .slice o os.length c := by
 obtain ⟨o, c, e, -⟩ := owns_form h.1
 exact ⟨o, c, e⟩

theorem DeedsT.form {base : Nat} {W : World} {v : Value} {dss : List (Value × List OpC)} (h : DeedsT base W v dss) : ∃ o c, v = .slice o dss.length c := by
 obtain ⟨o, c, e, -⟩ := owns_form h.1
 exact ⟨o, c, e⟩

theorem Tryz.infoOpM : (Tryz.prog.info? 43).map (fun i => (i.zero, i.size, i.bytes)) = some (some (.agg #[.int .i64 0, .string ⟨#[]⟩, .int .i64 0, .slice none 0 0]), 4, 56) := by kernel_rfl

theorem Tryz.infoOpsM : (Tryz.prog.info? 44).map (fun i => (i.zero, i.size, i.bytes)) = some (some (.slice none 0 0), 1, 24) := by kernel_rfl

theorem OpsT.snoc {W : World} {base : Nat} {v : Value} {os : List OpC} (h : OpsT base W v os) (hbase : base ≤ W.heap.size) (q : OpC) (hq : RowAt 0 W q.vo q.o.v.length q.vc q.o.v) (hn : os.length ≤ 1000) :
  ∃ o c W', (Builtin.append_ #[44, 44] 44 #[v, .slice (some ⟨W.heap.size, 0, none⟩) 1 1]).run Tryz.prog (W.alloc (.cells #[.int .i64 q.o.kind, .string q.o.name, .int .i64 q.o.n, q.row] 43)) = .ok (.slice o (os.length + 1) c) W' ∧ OpsT base W' (.slice o (os.length + 1) c) (os ++ [q]) ∧ Below base W W' ∧
   (∀ (b : Nat) (cs : Array Value) (u : TypeId) (fz : Nat × Nat), W.heap[b]? = some (.cells cs u fz) → u ≠ 43 → W'.heap[b]? = W.heap[b]?) := by
 obtain ⟨j0, hj, hy0, hy1, hy2⟩ := info_got Tryz.infoOpM
 obtain ⟨o, c, W', hr, hown, hb, hk⟩ := own_snoc2 (P := Tryz.prog) W base hbase 44 44 43 j0 _ 4 56 (by kernel_rfl) hj hy0 hy1 hy2 rfl (by decide) v os.length _ h.1 #[.int .i64 q.o.kind, .string q.o.name, .int .i64 q.o.n, q.row] 43 rfl (fun y hy => by
  simp only [List.mem_cons, List.not_mem_nil, or_false] at hy
  rcases hy with rfl | rfl | rfl | rfl <;> rfl) (by unfold maxLen; omega) (by omega)
 have hint : ∀ (b : Nat) (cs : Array Value) (fz : Nat × Nat), W.heap[b]? = some (.cells cs 3 fz) → W'.heap[b]? = W.heap[b]? := fun b cs fz hx => hk b cs _ fz hx (by decide)
 refine ⟨o, c, W', hr, ⟨?_, fun p hp => ?_⟩, hb, hk⟩
 ·rw [List.length_append, List.flatMap_append, List.flatMap_cons, List.flatMap_nil, List.append_nil]
  exact hown
 ·rcases List.mem_append.1 hp with h1 | h1
  ·exact (h.2 p h1).keep hint
  ·rw [List.mem_singleton] at h1
   rw [h1]
   exact hq.keep hint

theorem DeedsT.snoc {W : World} {base : Nat} {v : Value} {dss : List (Value × List OpC)} (h : DeedsT base W v dss) (hbase : base ≤ W.heap.size) (u : Value) (os : List OpC) (hu : OpsT 0 W u os) (hn : dss.length ≤ 1000) :
  ∃ o c W', (Builtin.append_ #[69, 69] 69 #[v, .slice (some ⟨W.heap.size, 0, none⟩) 1 1]).run Tryz.prog (W.alloc (.cells #[u] 44)) = .ok (.slice o (dss.length + 1) c) W' ∧ DeedsT base W' (.slice o (dss.length + 1) c) (dss ++ [(u, os)]) ∧ Below base W W' ∧
   (∀ (b : Nat) (cs : Array Value) (t : TypeId) (fz : Nat × Nat), W.heap[b]? = some (.cells cs t fz) → t ≠ 44 → W'.heap[b]? = W.heap[b]?) := by
 obtain ⟨j0, hj, hy0, hy1, hy2⟩ := info_got Tryz.infoOpsM
 obtain ⟨uo, uc, hue⟩ := hu.form
 obtain ⟨o, c, W', hr, hown, hb, hk⟩ := own_snoc2 (P := Tryz.prog) W base hbase 69 69 44 j0 _ 1 24 (by kernel_rfl) hj hy0 hy1 hy2 rfl (by decide) v dss.length _ h.1 #[u] 44 rfl (fun y hy => by
  rw [List.mem_singleton] at hy
  rw [hy, hue]; rfl) (by unfold maxLen; omega) (by omega)
 have hin : ∀ (b : Nat) (cs : Array Value) (t : TypeId) (fz : Nat × Nat), W.heap[b]? = some (.cells cs t fz) → (t = 43 ∨ t = 3) → W'.heap[b]? = W.heap[b]? := fun b cs t fz hx ht => hk b cs t fz hx (by rcases ht with rfl | rfl <;> decide)
 have hops : ∀ p ys, OpsT 0 W p ys → OpsT 0 W' p ys := fun p ys hp => ⟨ownsKeep hp.1 (fun b cs fz hx => hin b cs _ fz hx (.inl rfl)), fun q hq => (hp.2 q hq).keep (fun b cs fz hx => hin b cs _ fz hx (.inr rfl))⟩
 refine ⟨o, c, W', hr, ⟨?_, fun p hp => ?_⟩, hb, hk⟩
 ·rw [List.length_append, List.map_append]
  exact hown
 ·rcases List.mem_append.1 hp with h1 | h1
  ·exact hops _ _ (h.2 p h1)
  ·rw [List.mem_singleton] at h1
   rw [h1]
   exact hops _ _ hu

end Go.Proofs.YtnhbfehfipafoaaGreatDoor
