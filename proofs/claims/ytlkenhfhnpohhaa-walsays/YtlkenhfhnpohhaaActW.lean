/- A list of deeds is copied; one more is put behind it. -/
import Derived.Test.YtlkenhfhnpohhaaWaR
import Derived.Test.YtlkenhfhnpohhaaRegions
import Derived.Orders
import Derived.Test.YtlkenhfhnpohhaaWcB

namespace Go.Proofs.Ytlkenhfhnpohhaa
open Go.RowKit

theorem copy_want (W : World) (v : Value) (n : Nat) (xs : List Value) (h : W.ownsRow 0 47 1 v n xs) (hx : ∀ x ∈ xs, x.oneCell' = true) (hn : n ≤ 1000) (base : Nat) (hb : base ≤ W.heap.size) :
  ∃ o k W', (Builtin.append_ #[33, 33] 33 #[.slice none 0 0, v]).run Try.prog W = .ok (.slice o n k) W' ∧ W'.ownsRow base 47 1 (.slice o n k) n xs ∧ Below W.heap.size W W' := by
 obtain ⟨j0, hj, hy0, hy1, hy2⟩ := info_got Try.infoOpsM
 have hnil : ∀ b, W.ownsRow b 47 1 (.slice none 0 0) 0 [] := fun b => World.ownsRow_nil _ _ _ _
 by_cases h0 : n = 0
 ·subst h0
  obtain rfl : xs = [] := List.eq_nil_of_length_eq_zero (by simpa using h.1)
  rcases h.2 with ⟨rfl, -⟩ | ⟨g, cap, cur, rfl, -, hg, -⟩
  ·exact ⟨none, 0, W, run_append_owned_none W 0 33 33 47 j0 1 (by kernel_rfl) hj (.slice none 0 0) 0 [] (hnil 0), hnil _, Below.refl _ _⟩
  ·obtain ⟨v', W', hr, hown, hg', hv⟩ := run_append_own (P := Try.prog) W W.heap.size 33 33 47 j0 _ 1 24 (by kernel_rfl) hj hy0 hy1 hy2 rfl (by decide) (.slice none 0 0) 0 [] (hnil _) ⟨g, 0, none⟩ 0 cap [] (by simp) (fun j u hu => by simp at hu) (fun u hu => by cases hu) (by unfold maxLen; omega) (by omega) (Nat.le_refl _)
   obtain ⟨o, c, rfl, -⟩ := owns_form hown
   rw [Nat.zero_add] at hr hown
   refine ⟨o, c, W', hr, ownsLess hown hb, ⟨hg'.os, hg'.tape, hg'.output, hg'.size, fun k hk => hg'.block k hk (fun e => by cases e)⟩⟩
 ·obtain ⟨o, c, rfl, -⟩ := owns_form h
  obtain ⟨b, rfl, -, -, hc⟩ := owns_at h (by omega)
  have hlen : xs.length = n := by simpa using h.1
  obtain ⟨v', W', hr, hown, hg', hv⟩ := run_append_own (P := Try.prog) W W.heap.size 33 33 47 j0 _ 1 24 (by kernel_rfl) hj hy0 hy1 hy2 rfl (by decide) (.slice none 0 0) 0 [] (hnil _) ⟨b, 0, none⟩ n c xs (by rw [hlen]; omega) (fun j u hu => by rw [Go.WideShapes.add_plain]; exact hc j u hu) hx (by unfold maxLen; omega) (by omega) (Nat.le_refl _)
  obtain ⟨o, c', rfl, -⟩ := owns_form hown
  rw [Nat.zero_add] at hr hown
  rw [List.nil_append] at hown
  exact ⟨o, c', W', hr, ownsLess hown hb, ⟨hg'.os, hg'.tape, hg'.output, hg'.size, fun k hk => hg'.block k hk (fun e => by cases e)⟩⟩

theorem put_want (W : World) (base : Nat) (o : Option Addr) (n k : Nat) (xs : List Value) (h : W.ownsRow base 47 1 (.slice o n k) n xs) (hb : base ≤ W.heap.size) (B : Nat) (x : Value) (hB : W.cell? ⟨B, 0, none⟩ = some x) (hx : x.oneCell' = true) (hn : n ≤ 1000) :
  ∃ o' k' W', (Builtin.append_ #[33, 33] 33 #[.slice o n k, .slice (some ⟨B, 0, none⟩) 1 1]).run Try.prog W = .ok (.slice o' (n + 1) k') W' ∧ W'.ownsRow base 47 1 (.slice o' (n + 1) k') (n + 1) (xs ++ [x]) ∧ Below base W W' := by
 obtain ⟨j0, hj, hy0, hy1, hy2⟩ := info_got Try.infoOpsM
 obtain ⟨v', W', hr, hown, hg', hv⟩ := run_append_own (P := Try.prog) W base 33 33 47 j0 _ 1 24 (by kernel_rfl) hj hy0 hy1 hy2 rfl (by decide) (.slice o n k) n xs h ⟨B, 0, none⟩ 1 1 [x] (by simp) (fun j u hu => by
  obtain rfl : j = 0 := by
   have := (List.getElem?_eq_some_iff.1 hu).1
   simp at this; exact this
  obtain rfl : x = u := by simpa using hu
  rw [Go.WideShapes.add_plain]
  exact hB) (fun u hu => by rw [List.mem_singleton] at hu; rw [hu]; exact hx) (by unfold maxLen; omega) (by omega) hb
 obtain ⟨o', c', rfl, -⟩ := owns_form hown
 refine ⟨o', c', W', hr, hown, ⟨hg'.os, hg'.tape, hg'.output, hg'.size, fun i hi => hg'.block i (by omega) (fun e => ?_)⟩⟩
 rcases h.2 with ⟨e', -⟩ | ⟨g, cap, cur, e', hbg, -⟩
 ·rw [e'] at e; cases e
 ·rw [e'] at e
  simp only [Value.ownBlock, Option.some.injEq] at e
  omega

def rowD : Nat → List Nat
 | 1 => [0]
 | 4 => [2, 3]
 | 5 => [4]
 | 6 => [5]
 | 7 => [1, 6]
 | 8 => [7]
 | _ => []

def rowS (base n : Nat) (xs : List Value) (x : Value) (fl : Bool) (i : Nat) (c : Nat → Value) (W : World) : Prop :=
 (i = 1 → fl = false → ∃ o k, c 1 = .slice o n k ∧ W.ownsRow base 47 1 (.slice o n k) n xs) ∧
 (i = 6 → fl = false → ∃ B, c 6 = .slice (some ⟨B, 0, none⟩) 1 1 ∧ W.cell? ⟨B, 0, none⟩ = some x ∧ B < W.heap.size) ∧
 (i = 7 → ∃ o k, c 7 = .slice o (n + 1) k ∧ W.ownsRow base 47 1 (.slice o (n + 1) k) (n + 1) (xs ++ [x])) ∧
 (i = 8 → c 8 = c 7)

end Go.Proofs.Ytlkenhfhnpohhaa

/- The log under a walk: what is known of it while deeds go in, and what behind a fall. -/
namespace Go.Proofs.Ytlkenhfhnpohhaa
open Go.RowKit

structure WalI (E : Dsk) (en : Nat) (ws : List (List OpV)) : Prop where
 well : Well E 60 0
 clean : Clean E
 up : E.down = false
 ds : (saysL 5 1 59 (cont E)).ds = ws
 e : (saysL 5 1 59 (cont E)).e = en

structure WalZ (E : Dsk) (ws ls : List (List OpV)) : Prop where
 well : ∃ k, Well E 60 k
 ds : ∀ c : Nat → List UInt8, (∀ j, poss E j (c j)) → (saysL 5 1 59 c).ds = ws ∨ (saysL 5 1 59 c).ds = ls

theorem WalI.en_le {E : Dsk} {en : Nat} {ws : List (List OpV)} (h : WalI E en ws) : en ≤ 59 := (says_from h.ds h.e).1

theorem WalI.full {E : Dsk} {en : Nat} {ws ls : List (List OpV)} (h : WalI E en ws) : WalZ E ws ls where
 well := ⟨0, h.well⟩
 ds := fun c hc => by
  obtain rfl : c = cont E := funext fun j => h.clean j _ (hc j)
  exact .inl h.ds

theorem addF_nought {os : List OpV} {r : Nat} (h : addF os r = 0) : os.length ≤ 12 ∧ os.length < r ∧ packF os = 0 := by
 unfold addF at h
 split at h
 ·cases h
 ·split at h
  ·cases h
  ·exact ⟨by omega, by omega, h⟩

theorem WalI.added {E : Dsk} {en : Nat} {ws : List (List OpV)} {os : List OpV} (h : WalI E en ws) (hf : addF os (59 - en) = 0) (ht : (addD 5 1 en 59 os E).2 = true) : WalI (addD 5 1 en 59 os E).1 (en + os.length + 1) (ws ++ [os]) := by
 obtain ⟨h1, h2, h3, h4, h5⟩ := (addD_facts h.well (by omega) (addF_nought hf).2.1 (packF_all (addF_nought hf).2.2) h.ds h.e).1 ht
 exact ⟨h3, h2, h1.trans h.up, h4, h5⟩

def backD (E : Dsk) (keep : Int) : Dsk := { E.settled keep with left := -1, down := false }

theorem WalZ.back {E : Dsk} {ws ls : List (List OpV)} (h : WalZ E ws ls) (keep : Int) : ∃ gs en, (gs = ws ∨ gs = ls) ∧ WalI (backD E keep) en gs ∧ Free (backD E keep) := by
 have hs : (backD E keep).secs = (E.settled keep).secs := rfl
 have hc : ∀ j, cont (backD E keep) j = cont (E.settled keep) j := cont_same hs
 obtain ⟨k, hw⟩ := h.well
 refine ⟨_, _, ?_, ⟨?_, clean_same hs (settled_isClean keep E), rfl, rfl, rfl⟩, restart_free E keep⟩
 ·rw [show cont (backD E keep) = cont (E.settled keep) from funext hc]
  exact h.ds _ fun j => settled_poss keep E j
 ·have := settled_well hw keep
  exact ⟨this.len, this.num, this.few, this.apart, this.bits⟩

end Go.Proofs.Ytlkenhfhnpohhaa

/- A log's Next; a small log that is opened and added to. -/
namespace Go.Proofs.Ytlkenhfhnpohhaa
open Go.RowKit

set_option maxRecDepth 100000 in
theorem next_any (w : World) (L B : Nat) (fr mn first en : Int) (hl : LogM w L B fr mn first en) (hs : -9223372036854775808 ≤ first + mn ∧ first + mn ≤ 9223372036854775807) :
  Calls Try.prog 16 #[.pointer (some ⟨L, 0, none⟩)] w fun e w' => e = .returned (.int .i64 (first + mn)) ∧ Below w.heap.size w w' := by
 obtain ⟨-, -, c2, c3, -, -⟩ := hl.cells
 obtain ⟨N, hN⟩ : ∃ N, first + mn = N := ⟨_, rfl⟩
 have wN : IntKind.i64.wrap N = N := wrap_small (by omega) (by omega)
 rw [hN]
 go_enter Try.func16, Try.ntmps16
 go_wp2_with fail
 go_region_held3 (fun w' => w'.cell? ⟨L, 2, none⟩ = some (.int .i64 mn) ∧ w'.cell? ⟨L, 3, none⟩ = some (.int .i64 first)) (go_keep) (fail)
 go_wp2
 go_ret
 exact ⟨rfl, by first | exact (Below.refl _ _).drew | exact Below.refl _ _⟩

def dropA : OpC := ⟨⟨2, ⟨#[97]⟩, 0, []⟩, none, 0⟩

theorem opsT_dropA (W : World) : OpsT W.heap.size (W.alloc (.cells #[.int .i64 2, .string ⟨#[97]⟩, .int .i64 0, .slice none 0 0] 46)) (.slice (some ⟨W.heap.size, 0, none⟩) 1 1) [dropA] :=
 ⟨⟨rfl, .inr ⟨W.heap.size, 1, _, rfl, Nat.le_refl _, heap_alloc_new W _, Nat.le_refl _, by unfold maxLen; omega, rfl, rfl⟩⟩, fun q hq => by
  rw [List.mem_singleton] at hq
  subst hq
  exact ⟨World.ownsRow_nil _ _ _ _, fun k hk => absurd hk (by simp [dropA])⟩⟩

theorem says_small : (saysL 1 2 6 fun _ => noughtB 64).ds = [] ∧ (saysL 1 2 6 fun _ => noughtB 64).e = 0 := ⟨by kernel_rfl, by kernel_rfl⟩

theorem newD_free (n : Nat) : Free (newD n) := ⟨rfl, by show (-1 : Int) < 0; decide⟩

theorem dropA_ok : addF ([dropA].map (·.o)) 6 = 0 := by kernel_rfl

set_option linter.unusedSimpArgs false in
set_option maxRecDepth 100000 in
set_option maxHeartbeats 1600000 in
theorem logs_any (w : World) : Calls Try.prog 5 #[] w fun e w' => e = .returned (.bool true) ∧ Below w.heap.size w w' := by
 have hcs : cont (newD 8) = fun _ => noughtB 64 := funext fun j => cont_newD 8 j
 go_enter Try.func5, Try.ntmps5
 go_wp2_with fail
 refine (new_ok w 8 (by decide) (by decide)).mono ?_
 rintro e w1 ⟨rfl, hd1, hb1⟩
 have hlt1 : w.heap.size ≤ w1.heap.size := hb1.size
 have HD1 := hide hd1; have HB1 := hide hb1
 clear hd1 hb1
 go_wp2_with fail
 refine (logOpen_any w1 w.heap.size w.heap.size (newD 8) 8 2 6 1 HD1.out (newD_well 8).len (by decide) (by decide) (by decide) (by decide) rfl).mono ?_
 rintro e w2 ⟨L, dv, ds, rfl, hL, hds, hdo, hl, hb2⟩
 rw [hcs] at hdo hl
 rw [says_small.1] at hdo
 rw [says_small.2] at hl
 have hn : ds.length = 0 := by
  have h1 := congrArg List.length hdo
  simpa using h1
 obtain ⟨do_, dc, rfl⟩ := hds.form
 rw [hn]
 have HL2 := hide hl; have HD2 := hide (HD1.out.later hb2); have HB2 := hide (HB1.out.trans (hb2.mono HB1.out.size)); have HLL := hide (Nat.le_trans HB1.out.size hL)
 clear hl hds hdo hL hb2 hn HD1 HB1
 go_wp2_with fail
 have hbA := alloc_below w2 (.cells #[.int .i64 2, .string ⟨#[97]⟩, .int .i64 0, .slice none 0 0] 46)
 have HO := hide (opsT_dropA w2).read
 have HL3 := hide (HL2.out.later hbA); have HD3 := hide (HD2.out.later hbA); have HB3 := hide (HB2.out.trans (hbA.mono HB2.out.size))
 clear hbA HL2 HD2 HB2
 generalize hW3 : w2.alloc (.cells #[.int .i64 2, .string ⟨#[97]⟩, .int .i64 0, .slice none 0 0] 46) = w3 at *
 clear hW3
 refine (logAdd_any w3 w.heap.size w.heap.size L (newD 8) 8 0 2 0 6 1 _ [dropA] HD3.out HL3.out (newD_well 8) (by decide) (by decide) (by decide) (by decide) (by decide) HB3.out.size HLL.out HO.out).mono ?_
 rintro e w4 hA
 obtain ⟨⟨h9, -⟩ | ⟨-, he, hd2, hl2⟩, hk2⟩ := hA
 ·exact absurd dropA_ok h9
 obtain ⟨ht, -⟩ := addD_free (f := 1) (fr := 2) (en := 0) (mn := 6) (os := [dropA].map (·.o)) (newD_free 8)
 rw [ht] at he hl2
 rw [if_pos rfl] at hl2
 subst he
 have hl3 : LogM w4 L w.heap.size (2 : Nat) (6 : Nat) 1 (2 : Nat) := hl2
 have HL4 := hide hl3; have HB4 := hide (HB3.out.trans (hk2.below HB3.out.size))
 clear hl2 hl3 hd2 hk2 ht HD3 HL3 HB3 HO
 have e0 : okV true = .nilIface := rfl
 rw [e0]
 clear e0
 go_wp2_with fail
 refine (sameV_any 0 w4).mono ?_
 rintro e w5 ⟨rfl, rfl⟩
 go_wp2_with fail
 refine (room_any w5 L w.heap.size 2 1 6 2 HL4.out (by decide) (by decide)).mono ?_
 rintro e w6 ⟨rfl, hb6⟩
 have HL6 := hide (HL4.out.later hb6); have HB6 := hide (HB4.out.trans (hb6.mono HB4.out.size))
 clear hb6 HL4 HB4
 go_wp2_with fail
 refine (next_any w6 L w.heap.size 2 6 1 2 HL6.out (by decide)).mono ?_
 rintro e w7 ⟨rfl, hb7⟩
 have HB7 := hide (HB6.out.trans (hb7.mono HB6.out.size))
 clear hb7
 go_wp2
 go_ret
 exact ⟨rfl, HB7.out⟩

end Go.Proofs.Ytlkenhfhnpohhaa

/- Values by their numbers; operations that have come up. -/
namespace Go.Proofs.Ytlkenhfhnpohhaa
open Go.RowKit

def upd (c : Nat → Value) (i : Nat) (v : Value) : Nat → Value := fun j => if j = i then v else c j

theorem upd_self (c : Nat → Value) (i : Nat) (v : Value) : upd c i v i = v := if_pos rfl

theorem upd_ne (c : Nat → Value) {i j : Nat} (v : Value) (h : j ≠ i) : upd c i v j = c j := if_neg h

theorem listed_not {L : Array Bool} {i : Nat} (h : L.getD i true = false) : ¬ L.getD i false = true := fun h' => by
 by_cases hl : i < L.size
 ·simp [hl] at h h'; rw [h] at h'; cases h'
 ·simp [Array.getElem?_eq_none (Nat.le_of_not_lt hl)] at h'

theorem listed_old {L : Array Bool} {i j : Nat} (hne : i ≠ j) (h : (L.setIfInBounds i true).getD j false = true) : L.getD j false = true := by rwa [getD_set_ne false hne] at h

theorem listed_new {L : Array Bool} {i : Nat} (h : L.getD i true = false) : (L.setIfInBounds i true).getD i false = true := by
 have hl : i < L.size := by
  by_cases hl : i < L.size
  ·exact hl
  ·simp [Array.getElem?_eq_none (Nat.le_of_not_lt hl)] at h
 simp [hl]

end Go.Proofs.Ytlkenhfhnpohhaa

/- Regions that draw their order, and make, and call: what each operation answered stands while others come up; the last one may write. -/
namespace Go.Proofs.Ytlkenhfhnpohhaa
open Go.RowKit

structure FS (deps : Nat → List Nat) (kv : Nat → Option Value) (Sp : Nat → (Nat → Value) → World → Prop) (w : World) (L : Array Bool) (c : Nat → Value) (W : World) : Prop where
 below : Below w.heap.size w W
 plain : ∀ i v, L.getD i false = true → kv i = some v → c i = v
 spec : ∀ i, L.getD i false = true → Sp i c W
 closed : ∀ i, L.getD i false = true → ∀ j ∈ deps i, L.getD j false = true

structure Stays (deps : Nat → List Nat) (Sp : Nat → (Nat → Value) → World → Prop) : Prop where
 later : ∀ i c W W', Below W.heap.size W W' → Sp i c W → Sp i c W'
 other : ∀ i j c v W, j ≠ i → i ∉ deps j → Sp j c W → Sp j (upd c i v) W

variable {deps : Nat → List Nat} {kv : Nat → Option Value} {Sp : Nat → (Nat → Value) → World → Prop} {Fin : (Nat → Value) → World → Prop} {w W W' : World} {L : Array Bool} {c : Nat → Value}

theorem FS.start (w : World) (n : Nat) (c : Nat → Value) : FS deps kv Sp w (Array.replicate n false) c w.drew where
 below := (Below.refl _ _).drew
 plain := fun i _ h => by simp [Array.getD] at h
 spec := fun i h => by simp [Array.getD] at h
 closed := fun i h => by simp [Array.getD] at h

theorem FS.made (h : FS deps kv Sp w L c W) (hst : Stays deps Sp) {i : Nat} (hn : L.getD i true = false) (hd : ∀ j ∈ deps i, L.getD j false = true) (hb : Below W.heap.size W W') {v : Value} (hk : ∀ u, kv i = some u → v = u) (hnew : Sp i (upd c i v) W') :
  FS deps kv Sp w (L.setIfInBounds i true) (upd c i v) W' where
 below := h.below.trans (hb.mono h.below.size)
 plain := fun j u hj hu => by
  by_cases e : j = i
  ·subst e; rw [upd_self]; exact hk u hu
  ·rw [upd_ne _ _ e]; exact h.plain j u (listed_old (fun e' => e e'.symm) hj) hu
 spec := fun j hj => by
  by_cases e : j = i
  ·subst e; exact hnew
  ·have hj' := listed_old (fun e' => e e'.symm) hj
   exact hst.other _ _ _ _ _ e (fun hm => listed_not hn (h.closed j hj' i hm)) (hst.later _ _ _ _ hb (h.spec j hj'))
 closed := fun j hj k hjk => by
  by_cases ek : i = k
  ·subst ek; exact listed_new hn
  ·rw [getD_set_ne false ek]
   by_cases e : j = i
   ·subst e; exact hd k hjk
   ·exact h.closed j (listed_old (fun e' => e e'.symm) hj) k hjk

def FSx (deps : Nat → List Nat) (kv : Nat → Option Value) (Sp : Nat → (Nat → Value) → World → Prop) (Fin : (Nat → Value) → World → Prop) (w : World) (m : Nat) (L : Array Bool) (c : Nat → Value) (W : World) : Prop :=
 (L.getD m false = false ∧ FS deps kv Sp w L c W) ∨ ((∀ i, i ≤ m → L.getD i false = true) ∧ Fin c W)

theorem FSx.start (w : World) (n m : Nat) (c : Nat → Value) : FSx deps kv Sp Fin w m (Array.replicate n false) c w.drew :=
 .inl ⟨by simp [Array.getD], FS.start w n c⟩

theorem FSx.pre {m : Nat} (h : FSx deps kv Sp Fin w m L c W) {i : Nat} (hi : i ≤ m) (hn : L.getD i true = false) : L.getD m false = false ∧ FS deps kv Sp w L c W := by
 rcases h with h | ⟨h, -⟩
 ·exact h
 ·exact absurd (h i hi) (listed_not hn)

theorem FS.next {m i : Nat} (h : FS deps kv Sp w (L.setIfInBounds i true) c W) (hne : i ≠ m) (hm : L.getD m false = false) : FSx deps kv Sp Fin w m (L.setIfInBounds i true) c W :=
 .inl ⟨by rw [getD_set_ne false hne]; exact hm, h⟩

theorem FSx.last {m : Nat} (hall : ∀ j, j < m → L.getD j false = true) (hn : L.getD m true = false) (hf : Fin c W) : FSx deps kv Sp Fin w m (L.setIfInBounds m true) c W :=
 .inr ⟨fun j hj => by
  by_cases e : m = j
  ·subst e; exact listed_new hn
  ·rw [getD_set_ne false e]; exact hall j (by omega), hf⟩

theorem FSx.fin {m : Nat} (h : FSx deps kv Sp Fin w m L c W) (hall : L.getD m false = true) : Fin c W := by
 rcases h with ⟨h, -⟩ | ⟨-, h⟩
 ·rw [hall] at h; cases h
 ·exact h

theorem FS.put {deps : Nat → List Nat} {kv : Nat → Option Value} {Sp Sp' : Nat → (Nat → Value) → World → Prop} {w W W' : World} {L : Array Bool} {c : Nat → Value} (h : FS deps kv Sp w L c W) {i : Nat} (hn : L.getD i true = false) (hd : ∀ j ∈ deps i, L.getD j false = true) (hB : Below w.heap.size w W') {v : Value} (hk : ∀ u, kv i = some u → v = u)
  (hkeep : ∀ j, j ≠ i → L.getD j false = true → Sp j c W → Sp' j (upd c i v) W') (hnew : Sp' i (upd c i v) W') : FS deps kv Sp' w (L.setIfInBounds i true) (upd c i v) W' where
 below := hB
 plain := fun j u hj hu => by
  by_cases e : j = i
  ·subst e; rw [upd_self]; exact hk u hu
  ·rw [upd_ne _ _ e]; exact h.plain j u (listed_old (fun e' => e e'.symm) hj) hu
 spec := fun j hj => by
  by_cases e : j = i
  ·subst e; exact hnew
  ·have hj' := listed_old (fun e' => e e'.symm) hj
   exact hkeep j e hj' (h.spec j hj')
 closed := fun j hj k hjk => by
  by_cases ek : i = k
  ·subst ek; exact listed_new hn
  ·rw [getD_set_ne false ek]
   by_cases e : j = i
   ·subst e; exact hd k hjk
   ·exact h.closed j (listed_old (fun e' => e e'.symm) hj) k hjk

end Go.Proofs.Ytlkenhfhnpohhaa

/- The region that copies a list of deeds and puts one behind it: what is known as it comes up. -/
namespace Go.Proofs.Ytlkenhfhnpohhaa
open Go.RowKit

set_option maxRecDepth 100000 in
theorem number_errno (n : Int) (w : World) : Calls Try.prog 21 #[errno n] w fun e w' => e = .returned (.int .i64 n) ∧ w' = w := by
 have ha : (Instr.typeAssert (.iface 58 (.int .i64 n)) 28 58 true).run Try.prog w = .ok (.tuple #[.int .i64 n, .bool true]) w := by kernel_rfl
 show Calls _ _ #[.iface 58 (.int .i64 n)] _ _
 go_enter Try.func21, Try.ntmps21
 go_wp2
 go_ret
 exact ⟨rfl, rfl⟩

end Go.Proofs.Ytlkenhfhnpohhaa

/- Acts that came in, with their operations: are they light? -/
namespace Go.Proofs.Ytlkenhfhnpohhaa
open Go.RowKit

structure ActW where
 kind : ByteArray
 a : Int
 s : ByteArray
 k : Int
 op : OpC
 ov : Value
 ops : List OpC

structure ActW.ok (w : World) (p : ActW) : Prop where
 a : -9223372036854775808 ≤ p.a ∧ p.a ≤ 9223372036854775807
 k : 0 ≤ p.k ∧ p.k < 18446744073709551616
 op : RowS w p.op.row p.op.o.v
 ops : OpsN w p.ov p.ops

def ActW.cells (p : ActW) : List Value := [.string p.kind, .int .i64 p.a, .string p.s, .int .u64 p.k, .int .i64 p.op.o.kind, .string p.op.o.name, .int .i64 p.op.o.n, p.op.row, p.ov]

def ActsW (w : World) (v : Value) (al : List ActW) : Prop :=
 ∃ ao cap, v = .slice ao al.length cap ∧ al.length ≤ cap ∧ (0 < al.length → ∃ b off, ao = some ⟨b, off, none⟩ ∧ b < w.heap.size ∧ ∀ i p, al[i]? = some p →
  p.ok w ∧ ∀ j u, p.cells[j]? = some u → w.cell? ⟨b, off + i * 9 + j, none⟩ = some u)

theorem ActW.ok.below {w w' : World} {p : ActW} (h : p.ok w) (hb : Below w.heap.size w w') : p.ok w' := ⟨h.a, h.k, h.op.below hb (Nat.le_refl _), h.ops.below hb⟩

theorem ActsW.below {w w' : World} {v : Value} {al : List ActW} (h : ActsW w v al) (hb : Below w.heap.size w w') : ActsW w' v al := by
 obtain ⟨ao, cap, e, hn, h⟩ := h
 refine ⟨ao, cap, e, hn, fun h0 => ?_⟩
 obtain ⟨b, off, e, hlt, h⟩ := h h0
 refine ⟨b, off, e, Nat.lt_of_lt_of_le hlt hb.size, fun i p hp => ?_⟩
 obtain ⟨h1, h2⟩ := h i p hp
 exact ⟨h1.below hb, fun j u hu => (hb.cell (p := ⟨b, off + i * 9 + j, none⟩) hlt).trans (h2 j u hu)⟩

theorem ActsW.at {w : World} {v : Value} {al : List ActW} (h : ActsW w v al) {k : Nat} {p : ActW} (hp : al[k]? = some p) : ∃ b off cap, v = .slice (some ⟨b, off, none⟩) al.length cap ∧ b < w.heap.size ∧ p.ok w ∧ ∀ j u, p.cells[j]? = some u → w.cell? ⟨b, off + k * 9 + j, none⟩ = some u := by
 obtain ⟨ao, cap, rfl, -, hh⟩ := h
 obtain ⟨b, off, rfl, hlt, hc⟩ := hh (by have := (List.getElem?_eq_some_iff.1 hp).1; omega)
 exact ⟨b, off, cap, rfl, hlt, hc k p hp⟩

def lightP (p : ActW) : Prop := p.s.size ≤ 100 ∧ p.op.o.name.size ≤ 30 ∧ p.op.o.v.length ≤ 10 ∧ lightL p.ops 20 = true

def LightW (w : World) (al : List ActW) (most : Nat) (e : Ending) (w' : World) : Prop := ∃ b, e = .returned (.bool b) ∧ (b = true → al.length ≤ most ∧ ∀ p ∈ al, lightP p) ∧ Below w.heap.size w w'

set_option linter.unusedSimpArgs false in
set_option maxRecDepth 100000 in
set_option maxHeartbeats 3200000 in
theorem lightActsW_any (w : World) (v : Value) (al : List ActW) (most : Nat) (h : ActsW w v al) (hm : most ≤ 1000) :
  Calls Try.prog 6 #[v, .int .i64 (most : Int)] w fun e w' => LightW w al most e w' := by
 have H := hide h
 obtain ⟨ao, cap, rfl, -⟩ := h
 by_cases hl : most < al.length
 ·go_enter Try.func6, Try.ntmps6
  go_wp2
  go_ret
  exact ⟨false, rfl, fun h => (by cases h), Below.refl _ _⟩
 ·obtain ⟨n0, hn0⟩ : ∃ n, al.length = n := ⟨_, rfl⟩
  have HN := hide hn0; have HL := hide hl
  rw [hn0] at hl ⊢
  clear hn0
  go_enter Try.func6, Try.ntmps6
  go_wp2
  go_loopw [5, 6] (fun s x wr => ∃ (k : Nat) (z : Int), k ≤ n0 ∧ x = .int .i64 k ∧ s = .int .i64 z ∧ Hid (∀ p ∈ al.take k, lightP p) ∧ wr = w) (fun _ x _ => n0 - (intOf x).toNat)
  case atStart => exact ⟨0, 0, Nat.zero_le _, rfl, rfl, hide (by simp), rfl⟩
  case round =>
   obtain ⟨k, z, hk, rfl, rfl, HS, hwr⟩ := hrel
   subst hwr
   by_cases hkl : k < n0
   ·have hkb : k < al.length := by rw [HN.out]; exact hkl
    obtain ⟨p, hp⟩ : ∃ p, al[k]? = some p := ⟨_, List.getElem?_eq_getElem hkb⟩
    obtain ⟨b, off, cap', e, hlt, hok, hc⟩ := H.out.at hp
    rw [HN.out] at e
    simp only [Value.slice.injEq, true_and] at e
    obtain ⟨rfl, rfl⟩ := e
    have HTK : Hid (al.take (k + 1) = al.take k ++ [p]) := by show _ = _; rw [List.take_succ_eq_append_getElem hkb, (List.getElem?_eq_some_iff.1 hp).2]
    have HOV := hide hok.ops
    obtain ⟨oo, oc, hov, -⟩ := hok.ops
    obtain ⟨kd, a, ps, kk, ⟨⟨okd, name, on, vs⟩, vo, vc⟩, ov, ops⟩ := p
    have d2 : wr.cell? ⟨b, off + k * 9 + 2, none⟩ = some (.string ps) := hc 2 _ rfl
    have d5 : wr.cell? ⟨b, off + k * 9 + 4 + 1, none⟩ = some (.string name) := hc 5 _ rfl
    have d7 : wr.cell? ⟨b, off + k * 9 + 4 + 3, none⟩ = some (.slice vo vs.length vc) := hc 7 _ rfl
    have d8 : wr.cell? ⟨b, off + k * 9 + 5, none⟩ = wr.cell? ⟨b, off + k * 9 + 5, none⟩ := rfl
    have d8 : wr.cell? ⟨b, off + k * 9 + 8, none⟩ = some ov := hc 8 _ rfl
    dsimp only at hov HOV
    subst hov
    obtain ⟨n, hn⟩ : ∃ n, ops.length = n := ⟨_, rfl⟩
    obtain ⟨vl, hvl⟩ : ∃ n, vs.length = n := ⟨_, rfl⟩
    have HNN := hide hn; have HVL := hide hvl
    rw [hn] at d8 HOV
    rw [hvl] at d7
    clear hc hok hn hvl hp hkb
    by_cases h1 : 100 < (ps.size : Int)
    ·have g2 : decide (100 < (ps.size : Int)) = true := decide_eq_true h1
     go_wp2
     go_ret
     exact ⟨false, rfl, fun h => (by cases h), Below.refl _ _⟩
    ·have g2 : decide (100 < (ps.size : Int)) = false := decide_eq_false h1
     by_cases h2 : 400 < wrap64 (wrap64 (z + (n : Int)) + 1)
     ·have g3 : decide (400 < wrap64 (wrap64 (z + (n : Int)) + 1)) = true := decide_eq_true h2
      go_wp2
      go_ret
      exact ⟨false, rfl, fun h => (by cases h), Below.refl _ _⟩
     ·have g3 : decide (400 < wrap64 (wrap64 (z + (n : Int)) + 1)) = false := decide_eq_false h2
      by_cases h3 : 30 < (name.size : Int)
      ·have g4 : decide (30 < (name.size : Int)) = true := decide_eq_true h3
       go_wp2
       go_ret
       exact ⟨false, rfl, fun h => (by cases h), Below.refl _ _⟩
      ·have g4 : decide (30 < (name.size : Int)) = false := decide_eq_false h3
       by_cases h4 : 10 < (vl : Int)
       ·have g5 : decide (10 < (vl : Int)) = true := decide_eq_true h4
        go_wp2
        go_ret
        exact ⟨false, rfl, fun h => (by cases h), Below.refl _ _⟩
       ·have g5 : decide (10 < (vl : Int)) = false := decide_eq_false h4
        have HS1 := hide h1; have HS3 := hide h3; have HS4 := hide h4
        clear h1 h2 h3 h4
        go_wp2_with fail
        refine (lightOps_any wr _ ops 20 HOV.out (by decide)).mono ?_
        rintro e w2 ⟨rfl, hw2⟩
        subst hw2
        obtain ⟨bo, hbo⟩ : ∃ bo, lightL ops 20 = bo := ⟨_, rfl⟩
        rw [hbo]
        have HBO := hide hbo
        clear hbo HOV
        cases bo with
        | false =>
         go_wp2
         go_ret
         exact ⟨false, rfl, fun h => (by cases h), Below.refl _ _⟩
        | true =>
         have HS' : Hid (∀ p ∈ al.take (k + 1), lightP p) := fun q hq => by
          rw [HTK.out] at hq
          rcases List.mem_append.1 hq with hq | hq
          ·exact HS.out q hq
          ·rw [List.mem_singleton] at hq
           rw [hq]
           have h1 := HS1.out; have h3 := HS3.out; have h4 := HS4.out; have h5 := HVL.out
           refine ⟨?_, ?_, ?_, HBO.out⟩
           ·show ps.size ≤ 100; omega
           ·show name.size ≤ 30; omega
           ·show vs.length ≤ 10; omega
         go_wp2
         go_roundw
         case rel => exact ⟨k + 1, _, by omega, by go_num, rfl, HS', by first | rfl | trivial⟩
         case measure => simp [intOf]; omega
   ·obtain rfl : k = n0 := by omega
    rw [← HN.out, List.take_length] at HS
    go_wp2
    go_ret
    exact ⟨true, rfl, fun _ => ⟨by have := HL.out; omega, HS.out⟩, Below.refl _ _⟩

end Go.Proofs.Ytlkenhfhnpohhaa
