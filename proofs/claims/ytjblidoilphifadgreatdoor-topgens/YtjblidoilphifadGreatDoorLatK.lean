/- A lattice of rows of whole numbers, vector by vector, and the reference's form beside it. -/
import Derived.Test.YtjblidoilphifadGreatDoorLatI
import Derived.Test.YtjblidoilphifadGreatDoorHermR
import Derived.Test.YtjblidoilphifadGreatDoorRowO
import Derived.Test.YtjblidoilphifadGreatDoorVecW
import Derived.Test.YtjblidoilphifadGreatDoorRegions
import Derived.Test.YtjblidoilphifadGreatDoorShift
import Derived.Test.YtjblidoilphifadGreatDoorMats
import Derived.Test.YtjblidoilphifadGreatDoorRefA

namespace Go.Proofs.YtjblidoilphifadGreatDoor
open Go.RowKit Limbs Digs

/-- Rows of whole numbers. -/
def RowsS (w : World) (v : Value) (rs : List (List Int)) : Prop :=
  ∃ ao cap, v = .slice ao rs.length cap ∧ rs.length ≤ cap ∧ (0 < rs.length → ∃ b off, ao = some ⟨b, off, none⟩ ∧ b < w.heap.size ∧ ∀ i r, rs[i]? = some r → ∃ u, w.cell? ⟨b, off + i, none⟩ = some u ∧ RowS w u r)

theorem RowsS.below {w w' : World} {v : Value} {rs : List (List Int)} (h : RowsS w v rs) (hb : Below w.heap.size w w') : RowsS w' v rs := by
  obtain ⟨ao, cap, hv, h1, h2⟩ := h
  refine ⟨ao, cap, hv, h1, fun h0 => ?_⟩
  obtain ⟨b, off, e, hlt, hc⟩ := h2 h0
  refine ⟨b, off, e, Nat.lt_of_lt_of_le hlt hb.size, fun i r hi => ?_⟩
  obtain ⟨u, h3, h4⟩ := hc i r hi
  exact ⟨u, (hb.cell (p := ⟨b, off + i, none⟩) hlt).trans h3, h4.below hb (Nat.le_refl _)⟩

theorem RowsS.at {w : World} {v : Value} {rs : List (List Int)} (h : RowsS w v rs) (i : Nat) (hi : i < rs.length) : ∃ b off cap, v = .slice (some ⟨b, off, none⟩) rs.length cap ∧ b < w.heap.size ∧ ∃ u, w.cell? ⟨b, off + i, none⟩ = some u ∧ RowS w u rs[i] := by
  obtain ⟨ao, cap, hv, h1, h2⟩ := h
  obtain ⟨b, off, e, hlt, hc⟩ := h2 (by omega)
  subst e
  exact ⟨b, off, cap, hv, hlt, hc i rs[i] (by simp [hi])⟩

def small (z : Int) : Bool := decide (-1000000 ≤ z ∧ z ≤ 1000000)
def goodRow (n : Int) (r : List Int) : Bool := decide ((r.length : Int) = n) && r.all small
def goodG (n : Int) (rs : List (List Int)) : Bool := decide (1 ≤ n ∧ n ≤ 4 ∧ rs.length ≤ 8) && rs.all (goodRow n)

theorem goodRow_true {n : Int} {r : List Int} : goodRow n r = true ↔ (r.length : Int) = n ∧ ∀ z ∈ r, -1000000 ≤ z ∧ z ≤ 1000000 := by
  simp [goodRow, small]

theorem goodG_bad {n : Int} {rs : List (List Int)} {r : List Int} (hr : r ∈ rs) (h : goodRow n r = false) : goodG n rs = false := by
  unfold goodG
  rw [Bool.and_eq_false_iff]
  right
  rw [List.all_eq_false]
  exact ⟨r, hr, by rw [h]; decide⟩

theorem goodRow_bad {n : Int} {r : List Int} {z : Int} (hz : z ∈ r) (h : z < -1000000 ∨ 1000000 < z) : goodRow n r = false := by
  cases e : goodRow n r with
  | false => rfl
  | true => have := (goodRow_true.1 e).2 z hz; omega

/-- What Made answers. -/
def MadePost (w : World) (n : Int) (rs : List (List Int)) (e : Ending) (w' : World) : Prop :=
  Below w.heap.size w w' ∧ ((goodG n rs = false ∧ e = (.returned (.tuple #[.agg #[.int .i64 0, .slice none 0 0], .slice none 0 0, .bool false]))) ∨
    (goodG n rs = true ∧ ∃ u m hs, e = .returned (.tuple #[.agg #[.int .i64 n, u], m, .bool true]) ∧ LatN w' (.agg #[.int .i64 n, u]) n.toNat hs 6 ∧ Alikes n.toNat (InL hs) (InL rs)))

/-- While it is made. -/
structure MadeI (W0 wr : World) (n : Nat) (rs : List (List Int)) (km k : Nat) (m : Value) (qs : List (Value × List Int)) (u : Value) (hs : List (List Int)) : Prop where
  grow : GrowM wr (W0.heap.size + 1) m qs 5
  all : AllSl wr m.ownBlock
  rows : qs.map (·.2) = rs.take km
  var : BVar wr W0.heap.size n u
  mat : MatN wr u hs 6
  form : ∃ p, FormL n hs p
  alike : Alikes n (InL hs) (InL (rs.take k))
  sep : 0 < hs.length → Sep u m.ownBlock
  below : Below W0.heap.size W0 wr
  good : ∀ r ∈ rs.take km, goodRow n r = true

theorem MadeI.later {W0 wr w' : World} {n : Nat} {rs : List (List Int)} {km k : Nat} {m : Value} {qs : List (Value × List Int)} {u : Value} {hs : List (List Int)} (h : MadeI W0 wr n rs km k m qs u hs) (hb : Below wr.heap.size wr w') : MadeI W0 w' n rs km k m qs u hs :=
  ⟨h.grow.later hb, h.all.later hb, h.rows, h.var.later hb h.var.lt, h.mat.below hb (Nat.le_refl _), h.form, h.alike, h.sep, h.below.trans (hb.mono h.below.size), h.good⟩

theorem MadeI.len {W0 wr : World} {n : Nat} {rs : List (List Int)} {km k : Nat} {m : Value} {qs : List (Value × List Int)} {u : Value} {hs : List (List Int)} (h : MadeI W0 wr n rs km k m qs u hs) (hk : km ≤ rs.length) : qs.length = km := by
  have := congrArg List.length h.rows
  rw [List.length_map, List.length_take] at this
  omega

theorem MadeI.start {W0 : World} (n : Nat) (rs : List (List Int)) : MadeI W0 (W0.alloc (.cells #[.int .i64 (n : Int), .slice none 0 0] 25)) n rs 0 0 (.slice none 0 0) [] (.slice none 0 0) [] where
  grow := ⟨World.ownsRow_nil _ _ _ _, fun _ h => by cases h⟩
  all := allSl_none _
  rows := by simp
  var := ⟨box_new W0 _ _ _ _ rfl, _, heap_alloc_new W0 _⟩
  mat := matN_nil _ _
  form := ⟨_, formL_nil n⟩
  alike := fun v => by rw [List.take_zero]
  sep := fun _ a l c e => by cases e
  below := (Below.refl _ _).alloc (Nat.le_refl _) _
  good := fun r h => by rw [List.take_zero] at h; cases h

theorem alikes_snoc {n : Nat} {l l' : List (List Int)} {us : List Int} (h : Alikes n (InL l) (InL l')) : Alikes n (InL (l ++ [us])) (InL (l' ++ [us])) := by
  refine .of (fun v hv hvl => ?_) (fun v hv hvl => ?_)
  · rcases List.mem_append.1 hv with hv | hv
    · exact ((h v).1 (.base hv hvl)).trans (fun x hx hxl => .base (List.mem_append_left _ hx) hxl)
    · exact .base (List.mem_append_right _ hv) hvl
  · rcases List.mem_append.1 hv with hv | hv
    · exact ((h v).2 (.base hv hvl)).trans (fun x hx hxl => .base (List.mem_append_left _ hx) hxl)
    · exact .base (List.mem_append_right _ hv) hvl

theorem take_snoc {rs : List (List Int)} {k : Nat} {rk : List Int} (h : rs[k]? = some rk) : rs.take (k + 1) = rs.take k ++ [rk] := by
  rw [List.take_add_one, h]; rfl

/-- A row is put behind the reference's. -/
theorem MadeI.grew {W0 wr w5 : World} {n : Nat} {rs : List (List Int)} {k : Nat} {m : Value} {qs : List (Value × List Int)} {u : Value} {hs : List (List Int)} {ob : Obj} {x : Value} {g cap : Nat} {rk : List Int} (h : MadeI W0 wr n rs k k m qs u hs) (hk : rs[k]? = some rk)
    (hz : RowR wr x rk 5) (hg : goodRow n rk = true)
    (hown : w5.ownsRow (W0.heap.size + 1) 112 1 (.slice (some ⟨g, 0, none⟩) (qs.length + 1) cap) (qs.length + 1) (qs.map (·.1) ++ [x]))
    (hgr : (wr.alloc ob).grownBy w5 m.ownBlock) (hall : AllSl w5 (some g)) (hat : m.ownBlock = some g ∨ g = wr.heap.size + 1) :
    MadeI W0 w5 n rs (k + 1) k (.slice (some ⟨g, 0, none⟩) (qs.length + 1) cap) (qs ++ [(x, rk)]) u hs where
  grow := growM_snoc h.grow hz hown hgr
  all := hall
  rows := by rw [List.map_append, h.rows, take_snoc hk]; rfl
  var := (h.var.later ((Below.refl _ _).alloc (Nat.le_refl _) ob) h.var.lt).grown hgr (h.all.later ((Below.refl _ _).alloc (Nat.le_refl _) ob))
  mat := (h.mat.below ((Below.refl _ _).alloc (Nat.le_refl _) ob) (Nat.le_refl _)).grownH hgr (h.all.later ((Below.refl _ _).alloc (Nat.le_refl _) ob)) h.sep
  form := h.form
  alike := h.alike
  sep := fun h0 => by
    rcases hat with e | e
    · have := h.sep h0
      rw [e] at this
      exact this
    · intro a l c ea e'
      obtain ⟨ao, cap', e1, -, h2⟩ := h.mat
      obtain ⟨b, off, e2, hlt, -⟩ := h2 h0
      rw [e1, e2] at ea
      simp only [Value.slice.injEq, Option.some.injEq] at ea
      obtain ⟨rfl, -⟩ := ea
      simp only [Value.ownBlock, Option.some.injEq] at e'
      rw [e] at e'
      omega
  below := h.below.trans ((owns_below h.grow.1 h.var.lt hgr).mono (by omega))
  good := fun r hr => by
    rw [take_snoc hk] at hr
    rcases List.mem_append.1 hr with hr | hr
    · exact h.good r hr
    · rw [List.mem_singleton] at hr; rw [hr]; exact hg

theorem small_bp {z : Int} (h : -1000000 ≤ z ∧ z ≤ 1000000) : ab z < bp 1 := by
  have e : bp 1 = 4294967296 := by decide
  rw [e]
  unfold ab
  split <;> omega

/-- The lattice's own variable is written. -/
theorem MadeI.put {W0 w3 : World} {n : Nat} {rs : List (List Int)} {k : Nat} {m : Value} {qs : List (Value × List Int)} {u : Value} {hs : List (List Int)} {u' : Value} {hs' : List (List Int)} {nv base : Nat} {rk : List Int} (h : MadeI W0 w3 n rs (k + 1) k m qs u hs) (hk : rs[k]? = some rk) (hn : n ≤ 4)
    (hu : MatN w3 u' hs' nv) (hF : ∃ p, FormL n hs' p) (hA : Alikes n (InL hs') (InL (hs ++ [rk]))) (hfr : Fresh base u') (hb1 : W0.heap.size < base) (hb2 : ∀ g, m.ownBlock = some g → g < base) (hsl : ∃ o l c, u = .slice o l c) :
    MadeI W0 ((w3.setCell ⟨W0.heap.size, 0, none⟩ (.int .i64 (n : Int))).setCell ⟨W0.heap.size, 1, none⟩ u') n rs (k + 1) (k + 1) m qs u' hs' := by
  have hA' : Alikes n (InL hs') (InL (rs.take (k + 1))) := fun v => (hA v).trans (by
    rw [take_snoc hk]
    exact alikes_snoc h.alike v)
  obtain ⟨p, hF⟩ := hF
  have hl : ∀ us ∈ rs.take (k + 1), us.length = n := fun us hus => by have := (goodRow_true.1 (h.good us hus)).1; omega
  have ht : MatN w3 u' hs' 6 := by
    refine hu.tight fun zs hz j hj => ?_
    have h1 := formL_bound (nv := 1) hF hA' hl (fun us hus j hj => small_bp ((goodRow_true.1 (h.good us hus)).2 _ (by
      have hj' : j < us.length := by rw [hl us hus]; exact hj
      rw [List.getD_eq_getElem?_getD, List.getElem?_eq_getElem hj', Option.getD_some]
      exact List.getElem_mem hj'))) (by omega) zs hz j hj
    exact Int.lt_of_lt_of_le h1 (bp_mono (by omega))
  obtain ⟨o, l, c, rfl⟩ := hsl
  exact
    { grow := h.grow.setVar h.var _ _
      all := (h.all.setCell (h.var.apart h.all) _ _).setCell (h.var.apart h.all) _ _
      rows := h.rows
      var := h.var.write _ _
      mat := ht.setVar _ _ (fun _ => hfr.sep hb1) h.var.1.1 h.var.1.2.1
      form := ⟨p, hF⟩
      alike := hA'
      sep := fun _ a l c e e' => by
        have h1 := hfr a l c e
        have h2 := hb2 a.block e'.symm
        omega
      below := (h.below.setCell (by exact Nat.le_refl _) _).setCell (by exact Nat.le_refl _) _
      good := h.good }

end Go.Proofs.YtjblidoilphifadGreatDoor

/- The reference: are two numbers, or vectors, the same? -/
namespace Go.Proofs.YtjblidoilphifadGreatDoor
open Go.RowKit Limbs

theorem numS_same {neg neg' : Bool} {zs zs' : List Int} (h1 : LB zs) (h2 : LB zs') (n1 : Nrm zs) (n2 : Nrm zs') (e1 : zs.length = 0 → neg = false) (e2 : zs'.length = 0 → neg' = false)
    (h : (if neg = true then -lv zs else lv zs) = (if neg' = true then -lv zs' else lv zs')) : neg = neg' ∧ zs = zs' := by
  have p1 := lv_nonneg h1
  have p2 := lv_nonneg h2
  have q1 := lv_zero_iff h1 n1
  have q2 := lv_zero_iff h2 n2
  cases neg <;> cases neg' <;> simp at h
  · exact ⟨rfl, lv_inj h1 h2 n1 n2 h⟩
  · exfalso
    have := e2 (q2.1 (by omega)); simp at this
  · exfalso
    have := e1 (q1.1 (by omega)); simp at this
  · exact ⟨rfl, lv_inj h1 h2 n1 n2 (by omega)⟩

set_option maxRecDepth 100000 in
set_option maxHeartbeats 1600000 in
theorem sameInt_any (w : World) (va vb : Value) (x y : Int) (n m : Nat) (ha : NumL w va x n) (hb : NumL w vb y m) :
    Calls Tryz.prog 26 #[va, vb] w fun e w' => e = .returned (.bool (decide (x = y))) ∧ Below w.heap.size w w' := by
  obtain ⟨an, sa, zs, rfl, hla, nra, ea, hx, -⟩ := ha
  obtain ⟨bn, sb, zs', rfl, hlb, nrb, eb, hy, -⟩ := hb
  have HA := hide hla
  have HB := hide hlb
  obtain ⟨ao, acap, rfl, hacap, halen, halb, -⟩ := hla
  obtain ⟨bo, bcap, rfl, hbcap, hblen, hblb, -⟩ := hlb
  have HD : Hid (decide (x = y) = decide (an = bn ∧ zs = zs')) := by
    show _ = _
    by_cases h : x = y
    · rw [decide_eq_true h, decide_eq_true (numS_same halb hblb nra nrb ea eb (hx.symm.trans (h.trans hy)))]
    · rw [decide_eq_false h, decide_eq_false (fun h' => h (by rw [hx, hy, h'.1, h'.2]))]
  rw [HD.out]
  generalize hr : decide (an = bn ∧ zs = zs') = r
  have HR : Hid (r = decide (an = bn ∧ zs = zs')) := hr.symm
  clear hx hy ea eb nra nrb HD hr
  have hT := two w (.bool an) (.slice ao zs.length acap) (.bool bn) (.slice bo zs'.length bcap) 43 43
  have HT := hide hT
  obtain ⟨_, _, e, -, -, -, hac⟩ := HA.out.below hT.below (Nat.le_refl _)
  simp only [Value.slice.injEq, true_and] at e
  obtain ⟨rfl, rfl⟩ := e
  obtain ⟨_, _, e, -, -, -, hbc⟩ := HB.out.below hT.below (Nat.le_refl _)
  simp only [Value.slice.injEq, true_and] at e
  obtain ⟨rfl, rfl⟩ := e
  have HAC := hide hac
  have HBC := hide hbc
  clear hac hbc HA HB
  by_cases hn : an = bn
  · subst hn
    by_cases hl : zs.length = zs'.length
    · have HL := hide hl
      have hl1 : ((zs.length : Int) == (zs'.length : Int)) = true := by rw [beq_iff_eq]; omega
      have hl2 : ((zs.length : Int) != (zs'.length : Int)) = false := by rw [bne_eq_false_iff_eq]; omega
      clear hl
      go_enter Tryz.func26, Tryz.ntmps26
      go_wp2
      generalize (w.alloc (.cells #[.bool an, .slice ao zs.length acap] 43)).alloc (.cells #[.bool an, .slice bo zs'.length bcap] 43) = W at *
      clear hT
      obtain ⟨k0, k1, -, -⟩ := HT.out.fst
      obtain ⟨l0, l1, -, -⟩ := HT.out.res
      go_loopw [5] (fun i wr => ∃ k nq : Nat, k ≤ zs.length ∧ i = .int .i64 k ∧ wr = W.drewN nq ∧ Hid (zs.take k = zs'.take k)) (fun i _ => zs.length - (intOf i).toNat)
      case atStart => exact ⟨0, 0, Nat.zero_le _, rfl, by simp [World.drewN_zero], by show _ = _; simp⟩
      case round =>
        obtain ⟨k, nq, hk, rfl, rfl, HG⟩ := hrel
        by_cases hlt : k < zs.length
        · obtain ⟨ab, aoff, rfl, -, hac⟩ := HAC.out (by omega)
          have hlt' : k < zs'.length := by have := HL.out; omega
          obtain ⟨bb, boff, rfl, -, hbc⟩ := HBC.out (by omega)
          have hca := hac k hlt
          have hcb := hbc k hlt'
          have HTS := hide (fun e => take_eq_succ hlt hlt' HG.out e)
          have HNE : Hid (zs.getD k 0 ≠ zs'.getD k 0 → r = false) := fun h => HR.out.trans (decide_eq_false fun e => h (by rw [e.2]))
          clear hac hbc HAC HBC
          generalize zs.getD k 0 = z at *
          generalize zs'.getD k 0 = y' at *
          by_cases hzy : z = y'
          · have HG' := hide (HTS.out hzy)
            subst hzy
            clear HTS HNE HG
            go_wp2
            go_quiet (fail)
            go_wp2
            go_roundw
            case rel => exact ⟨k + 1, _, by omega, by go_num, rfl, HG'⟩
            case measure => simp [intOf]; omega
          · obtain rfl : r = false := HNE.out hzy
            have hz1 : (z == y') = false := by rw [beq_eq_false_iff_ne]; exact hzy
            have hz2 : (z != y') = true := by rw [bne_iff_ne]; exact hzy
            clear HTS HNE HG
            go_wp2
            go_quiet (fail)
            go_wp2
            go_ret
            exact ⟨rfl, by first | exact below_drewN HT.out.below _ | exact below_drewN (below_drewN HT.out.below _) _⟩
        · obtain rfl : r = true := by
            obtain rfl : k = zs.length := by omega
            have := HG.out
            rw [List.take_length, List.take_of_length_le (by have := HL.out; omega)] at this
            exact HR.out.trans (decide_eq_true (by first | exact ⟨rfl, this⟩ | exact ⟨trivial, this⟩))
          clear HG
          go_wp2
          go_ret
          exact ⟨rfl, below_drewN HT.out.below _⟩
    · have hl1 : ((zs.length : Int) == (zs'.length : Int)) = false := by rw [beq_eq_false_iff_ne]; omega
      have hl2 : ((zs.length : Int) != (zs'.length : Int)) = true := by rw [bne_iff_ne]; omega
      obtain rfl : r = false := HR.out.trans (decide_eq_false fun e => hl (by rw [e.2]))
      clear hl HAC HBC
      go_enter Tryz.func26, Tryz.ntmps26
      go_wp2
      go_ret
      exact ⟨rfl, HT.out.below⟩
  · have hn1 : (an == bn) = false := by rw [beq_eq_false_iff_ne]; exact hn
    have hn2 : (an != bn) = true := by rw [bne_iff_ne]; exact hn
    obtain rfl : r = false := HR.out.trans (decide_eq_false fun e => hn e.1)
    clear hn HAC HBC
    go_enter Tryz.func26, Tryz.ntmps26
    go_wp2
    go_ret
    exact ⟨rfl, HT.out.below⟩

set_option maxRecDepth 100000 in
set_option maxHeartbeats 1600000 in
theorem sameVec_any (w : World) (va vb : Value) (zs ys : List Int) (n m : Nat) (ha : VecN w va zs n) (hb : VecN w vb ys m) (hzl : zs.length ≤ 100000) (r : Bool) (hr : r = decide (zs = ys)) :
    Calls Tryz.prog 74 #[va, vb] w fun e w' => e = .returned (.bool r) ∧ Below w.heap.size w w' := by
  have HA := hide ha; have HB := hide hb
  have HR := hide hr
  clear hr
  by_cases hl : zs.length = ys.length
  · obtain ⟨ao, acap, rfl, -, -⟩ := ha
    obtain ⟨bo, bcap, rfl, -, -⟩ := hb
    have hl1 : ((zs.length : Int) == (ys.length : Int)) = true := by rw [beq_iff_eq]; omega
    have hl2 : ((zs.length : Int) != (ys.length : Int)) = false := by rw [bne_eq_false_iff_eq]; omega
    have HLN := hide hl
    clear hl
    go_enter Tryz.func74, Tryz.ntmps74
    go_wp2
    go_loopw [5] (fun i wr => ∃ k : Nat, k ≤ zs.length ∧ i = .int .i64 k ∧ Hid (zs.take k = ys.take k) ∧ Below w.heap.size w wr) (fun i _ => zs.length - (intOf i).toNat)
    case atStart => exact ⟨0, Nat.zero_le _, rfl, by show _ = _; simp, Below.refl _ _⟩
    case round =>
      obtain ⟨k, hk, rfl, HG, hbe⟩ := hrel
      have HBE := hide hbe
      clear hbe
      by_cases hkl : k < zs.length
      · have hky : k < ys.length := by have := HLN.out; omega
        obtain ⟨ab, aoff, _, e⟩ := HA.out.form (by omega)
        simp only [Value.slice.injEq, true_and] at e
        obtain ⟨rfl, rfl⟩ := e
        obtain ⟨bb, boff, _, e⟩ := HB.out.form (by omega)
        simp only [Value.slice.injEq, true_and] at e
        obtain ⟨rfl, rfl⟩ := e
        obtain ⟨la, an, ao, al, ac, a0, a1, na⟩ := (HA.out.below HBE.out (Nat.le_refl _)).at k hkl
        obtain ⟨lb, bn, bo, bl, bc, b0, b1, nb⟩ := (HB.out.below HBE.out (Nat.le_refl _)).at k hky
        have NA := hide na; have NB := hide nb
        have HTS := hide (fun e => take_eq_succ hkl hky HG.out e)
        have HNE : Hid (zs.getD k 0 ≠ ys.getD k 0 → r = false) := fun h => by
          rw [HR.out]; exact decide_eq_false fun e => h (by rw [e])
        clear na nb
        generalize zs.getD k 0 = z at *
        generalize ys.getD k 0 = y at *
        go_wp2_with fail
        go_region_held3 (fun w' => w'.cell? ⟨ab, aoff + k * 2, none⟩ = some (.bool an) ∧ w'.cell? ⟨ab, aoff + k * 2 + 1, none⟩ = some (.slice ao al ac) ∧ w'.cell? ⟨bb, boff + k * 2, none⟩ = some (.bool bn) ∧ w'.cell? ⟨bb, boff + k * 2 + 1, none⟩ = some (.slice bo bl bc)) (go_keep)
          (first
            | (go_at_call 26; refine (sameInt_any _ _ _ z y n m (by exact NA.out) (by exact NB.out)).mono ?_; rintro e w1 ⟨rfl, hb1⟩; have HB1 := hide (show Below w.heap.size w w1 from HBE.out.drew.trans (hb1.mono HBE.out.size)); have p0 := (hb1.cell (p := ⟨ab, aoff + k * 2, none⟩) la).trans a0; have p1 := (hb1.cell (p := ⟨ab, aoff + k * 2 + 1, none⟩) la).trans a1; have p2 := (hb1.cell (p := ⟨bb, boff + k * 2, none⟩) lb).trans b0; have p3 := (hb1.cell (p := ⟨bb, boff + k * 2 + 1, none⟩) lb).trans b1; clear hb1))
        by_cases hz : z = y
        · have HG' := hide (HTS.out hz)
          have ez : decide (z = y) = true := decide_eq_true hz
          rw [ez]
          clear HTS HNE hz ez p0 p1 p2 p3 a0 a1 b0 b1
          go_wp2
          go_roundw
          case rel => exact ⟨k + 1, by omega, by go_num, HG', HB1.out⟩
          case measure => simp [intOf]; omega
        · have ez : decide (z = y) = false := decide_eq_false hz
          rw [ez]
          obtain rfl : r = false := HNE.out hz
          clear HTS HNE hz ez p0 p1 p2 p3 a0 a1 b0 b1
          go_wp2
          go_ret
          exact ⟨rfl, HB1.out⟩
      · obtain rfl : k = zs.length := by omega
        have HE : Hid (zs = ys) := by
          have := HG.out
          rw [List.take_length, List.take_of_length_le (by have := HLN.out; omega)] at this
          exact this
        obtain rfl : r = true := by rw [HR.out]; exact decide_eq_true HE.out
        clear HG HE
        go_wp2
        go_ret
        exact ⟨rfl, HBE.out⟩
  · obtain ⟨ao, acap, rfl, -, -⟩ := ha
    obtain ⟨bo, bcap, rfl, -, -⟩ := hb
    have hl1 : ((zs.length : Int) == (ys.length : Int)) = false := by rw [beq_eq_false_iff_ne]; omega
    have hl2 : ((zs.length : Int) != (ys.length : Int)) = true := by rw [bne_iff_ne]; omega
    obtain rfl : r = false := by rw [HR.out]; exact decide_eq_false fun e => hl (by rw [e])
    go_enter Tryz.func74, Tryz.ntmps74
    go_wp2
    go_ret
    exact ⟨rfl, Below.refl _ _⟩

end Go.Proofs.YtjblidoilphifadGreatDoor

/- The reference: are rows of vectors the same? -/
namespace Go.Proofs.YtjblidoilphifadGreatDoor
open Go.RowKit Limbs

theorem take_eq_rows {zs ys : List (List Int)} {k : Nat} (h1 : k < zs.length) (h2 : k < ys.length) (h : zs.take k = ys.take k) (e : zs[k] = ys[k]) : zs.take (k + 1) = ys.take (k + 1) := by
  rw [List.take_succ_eq_append_getElem h1, List.take_succ_eq_append_getElem h2, h, e]

set_option maxRecDepth 100000 in
set_option maxHeartbeats 1600000 in
theorem sameMat_any (w : World) (va vb : Value) (zss yss : List (List Int)) (n m : Nat) (ha : MatN w va zss n) (hb : MatN w vb yss m) (hzl : zss.length ≤ 100000) (hz : ∀ zs ∈ zss, zs.length ≤ 100000) (r : Bool) (hr : r = decide (zss = yss)) :
    Calls Tryz.prog 41 #[va, vb] w fun e w' => e = .returned (.bool r) ∧ Below w.heap.size w w' := by
  have HA := hide ha; have HB := hide hb
  have HR := hide hr; have HZ := hide hz
  clear hr hz
  by_cases hl : zss.length = yss.length
  · obtain ⟨ao, acap, rfl, -, -⟩ := ha
    obtain ⟨bo, bcap, rfl, -, -⟩ := hb
    have hl1 : ((zss.length : Int) == (yss.length : Int)) = true := by rw [beq_iff_eq]; omega
    have hl2 : ((zss.length : Int) != (yss.length : Int)) = false := by rw [bne_eq_false_iff_eq]; omega
    have HLN := hide hl
    clear hl
    go_enter Tryz.func41, Tryz.ntmps41
    go_wp2
    go_loopw [5] (fun i wr => ∃ k : Nat, k ≤ zss.length ∧ i = .int .i64 k ∧ Hid (zss.take k = yss.take k) ∧ Below w.heap.size w wr) (fun i _ => zss.length - (intOf i).toNat)
    case atStart => exact ⟨0, Nat.zero_le _, rfl, by show _ = _; simp, Below.refl _ _⟩
    case round =>
      obtain ⟨k, hk, rfl, HG, hbe⟩ := hrel
      have HBE := hide hbe
      clear hbe
      by_cases hkl : k < zss.length
      · have hky : k < yss.length := by have := HLN.out; omega
        obtain ⟨ab, aoff, _, e, la, ua, a0, na⟩ := (HA.out.below HBE.out (Nat.le_refl _)).at k hkl
        simp only [Value.slice.injEq, true_and] at e
        obtain ⟨rfl, rfl⟩ := e
        obtain ⟨bb, boff, _, e, lb, ub, b0, nb⟩ := (HB.out.below HBE.out (Nat.le_refl _)).at k hky
        simp only [Value.slice.injEq, true_and] at e
        obtain ⟨rfl, rfl⟩ := e
        have NA := hide na; have NB := hide nb
        have HTS := hide (fun e => take_eq_rows hkl hky HG.out e)
        have hzk := HZ.out _ (List.getElem_mem hkl)
        have HNE : Hid (zss[k] ≠ yss[k] → r = false) := fun h => by
          rw [HR.out]; exact decide_eq_false fun e => h (by simp only [e])
        clear na nb
        generalize zss[k] = z at *
        generalize yss[k] = y at *
        obtain ⟨uo1, uc1, rfl, -, -⟩ := NA.out
        obtain ⟨uo2, uc2, rfl, -, -⟩ := NB.out
        go_wp2_with fail
        go_region_held3 (fun w' => w'.cell? ⟨ab, aoff + k, none⟩ = some (.slice uo1 z.length uc1) ∧ w'.cell? ⟨bb, boff + k, none⟩ = some (.slice uo2 y.length uc2)) (go_keep)
          (first
            | (go_at_call 74; refine (sameVec_any _ _ _ z y n m (by exact NA.out) (by exact NB.out) hzk _ rfl).mono ?_; rintro e w1 ⟨rfl, hb1⟩; have HB1 := hide (show Below w.heap.size w w1 from HBE.out.drew.trans (hb1.mono HBE.out.size)); have p0 := (hb1.cell (p := ⟨ab, aoff + k, none⟩) la).trans a0; have p1 := (hb1.cell (p := ⟨bb, boff + k, none⟩) lb).trans b0; clear hb1))
        by_cases hz : z = y
        · have HG' := hide (HTS.out hz)
          have ez : decide (z = y) = true := decide_eq_true hz
          rw [ez]
          clear HTS HNE hz ez p0 p1 a0 b0
          go_wp2
          go_roundw
          case rel => exact ⟨k + 1, by omega, by go_num, HG', HB1.out⟩
          case measure => simp [intOf]; omega
        · have ez : decide (z = y) = false := decide_eq_false hz
          rw [ez]
          obtain rfl : r = false := HNE.out hz
          clear HTS HNE hz ez p0 p1 a0 b0
          go_wp2
          go_ret
          exact ⟨rfl, HB1.out⟩
      · obtain rfl : k = zss.length := by omega
        have HE : Hid (zss = yss) := by
          have := HG.out
          rw [List.take_length, List.take_of_length_le (by have := HLN.out; omega)] at this
          exact this
        obtain rfl : r = true := by rw [HR.out]; exact decide_eq_true HE.out
        clear HG HE
        go_wp2
        go_ret
        exact ⟨rfl, HBE.out⟩
  · obtain ⟨ao, acap, rfl, -, -⟩ := ha
    obtain ⟨bo, bcap, rfl, -, -⟩ := hb
    have hl1 : ((zss.length : Int) == (yss.length : Int)) = false := by rw [beq_eq_false_iff_ne]; omega
    have hl2 : ((zss.length : Int) != (yss.length : Int)) = true := by rw [bne_iff_ne]; omega
    obtain rfl : r = false := by rw [HR.out]; exact decide_eq_false fun e => hl (by rw [e])
    go_enter Tryz.func41, Tryz.ntmps41
    go_wp2
    go_ret
    exact ⟨rfl, Below.refl _ _⟩

end Go.Proofs.YtjblidoilphifadGreatDoor

/- Are two lattices the same? -/
namespace Go.Proofs.YtjblidoilphifadGreatDoor
open Go.RowKit Limbs

/-- Two lattices came in: their boxes. -/
theorem two_boxes (w : World) (a0 a1 b0 b1 : Value) (t t' : TypeId) : Box ((w.alloc (.cells #[a0, a1] t)).alloc (.cells #[b0, b1] t')) w.heap.size a0 a1 ∧ Box ((w.alloc (.cells #[a0, a1] t)).alloc (.cells #[b0, b1] t')) (w.heap.size + 1) b0 b1 ∧ Below w.heap.size w ((w.alloc (.cells #[a0, a1] t)).alloc (.cells #[b0, b1] t')) ∧ w.heap.size + 1 < ((w.alloc (.cells #[a0, a1] t)).alloc (.cells #[b0, b1] t')).heap.size :=
  ⟨(box_new w a0 a1 t _ rfl).later ((Below.refl (w.heap.size + 1) _).alloc (by simp) _) (by omega), box_new _ b0 b1 t' _ (by simp), ((Below.refl w.heap.size w).alloc (Nat.le_refl _) _).alloc (by simp) _, by simp⟩

set_option maxRecDepth 100000 in
set_option maxHeartbeats 1600000 in
theorem sameB_any (w : World) (va vb : Value) (n nv mv : Nat) (hs ks : List (List Int)) (ha : LatN w va n hs nv) (hb : LatN w vb n ks mv) (hn : n ≤ 1000) :
    Calls Tryz.prog 65 #[va, vb] w fun e w' => e = .returned (.bool (decide (hs = ks))) ∧ Below w.heap.size w w' := by
  obtain ⟨⟨u, rfl, hu⟩, p, hF⟩ := ha
  obtain ⟨⟨v, rfl, hv⟩, q, hG⟩ := hb
  have HU := hide hu; have HV := hide hv
  have h1 := hF.short
  have HLE : Hid (∀ zs ∈ hs, zs.length ≤ 100000) := fun zs hz => by have := hF.len zs hz; omega
  obtain ⟨uo, ucap, rfl, -, -⟩ := hu
  obtain ⟨vo, vcap, rfl, -, -⟩ := hv
  clear hF hG
  have HX := hide (two_boxes w (.int .i64 (n : Int)) (.slice uo hs.length ucap) (.int .i64 (n : Int)) (.slice vo ks.length vcap) 25 25)
  obtain ⟨⟨c0, c1, z0, z1⟩, ⟨d0, d1, y0, y1⟩, -, -⟩ := HX.out
  go_enter Tryz.func65, Tryz.ntmps65
  go_wp2_with fail
  clear c0 c1 z0 z1 d0 d1 y0 y1
  generalize ((w.alloc (.cells #[.int .i64 (n : Int), .slice uo hs.length ucap] 25)).alloc (.cells #[.int .i64 (n : Int), .slice vo ks.length vcap] 25)) = W0 at *
  refine (sameMat_any W0 _ _ hs ks nv mv (by exact HU.out.below HX.out.2.2.1 (Nat.le_refl _)) (by exact HV.out.below HX.out.2.2.1 (Nat.le_refl _)) (by omega) HLE.out _ rfl).mono ?_
  rintro e w1 ⟨rfl, hb1⟩
  have HB1 := hide (HX.out.2.2.1.trans (hb1.mono HX.out.2.2.1.size))
  obtain ⟨c0, c1, z0, z1⟩ := HX.out.1.later hb1 (by have := HX.out.2.2.2; omega)
  obtain ⟨d0, d1, y0, y1⟩ := HX.out.2.1.later hb1 HX.out.2.2.2
  generalize hr : decide (hs = ks) = r at *
  clear hb1 HX HU HV
  have HRR := hide hr
  clear hr
  go_wp2
  go_ret
  exact ⟨by rw [HRR.out]; rfl, HB1.out⟩

set_option maxRecDepth 100000 in
set_option maxHeartbeats 1600000 in
theorem alikeB_any (w : World) (va vb : Value) (n nv mv : Nat) (hs ks : List (List Int)) (ha : LatN w va n hs nv) (hb : LatN w vb n ks mv) (hn : n ≤ 1000) :
    Calls Tryz.prog 30 #[va, vb] w fun e w' => e = .returned (.bool (decide (hs = ks))) ∧ Below w.heap.size w w' := by
  have HA := hide ha; have HB := hide hb
  obtain ⟨⟨u, rfl, ⟨uo, ucap, rfl, -, -⟩⟩, -⟩ := ha
  obtain ⟨⟨v, rfl, ⟨vo, vcap, rfl, -, -⟩⟩, -⟩ := hb
  have HX := hide (two_boxes w (.int .i64 (n : Int)) (.slice uo hs.length ucap) (.int .i64 (n : Int)) (.slice vo ks.length vcap) 25 25)
  obtain ⟨⟨c0, c1, z0, z1⟩, ⟨d0, d1, y0, y1⟩, -, -⟩ := HX.out
  go_enter Tryz.func30, Tryz.ntmps30
  go_wp2_with fail
  clear c0 c1 z0 z1 d0 d1 y0 y1
  generalize ((w.alloc (.cells #[.int .i64 (n : Int), .slice uo hs.length ucap] 25)).alloc (.cells #[.int .i64 (n : Int), .slice vo ks.length vcap] 25)) = W0 at *
  refine (sameB_any W0 _ _ n nv mv hs ks (by exact HA.out.below HX.out.2.2.1) (by exact HB.out.below HX.out.2.2.1) hn).mono ?_
  rintro e w1 ⟨rfl, hb1⟩
  have HB1 := hide (HX.out.2.2.1.trans (hb1.mono HX.out.2.2.1.size))
  clear hb1 HX
  go_wp2
  go_ret
  exact ⟨rfl, HB1.out⟩

end Go.Proofs.YtjblidoilphifadGreatDoor

/- L.Made: the walk. -/
namespace Go.Proofs.YtjblidoilphifadGreatDoor
open Go.RowKit Limbs Digs

/-- Two come up now: in whichever order. -/
theorem upto_two {P : Program} {ops : Array Oper} {Q : Exit → Act → World → Prop} {md : Region.Mode} {S : World → Prop} {k : Nat} (i j : Nat) {oi oj : Oper} {fuel : Nat} {listed : Array Bool} {a : Act} {w : World} (hr : Region.ready md ops listed = [i, j]) (hoi : ops[i]? = some oi) (hoj : ops[j]? = some oj)
    (h1 : ∀ K' : Act → World → Prop, Shut (∀ a w, (i < k → S w) → wpUpto P md ops Q S k fuel (listed.setIfInBounds i true) a w → K' a w) → if Region.wanted oi (yielded ops a.tmps) = true then Oper.wp P oi a w K' Q else K' (a.put oi.dst undef) w)
    (h2 : ∀ K' : Act → World → Prop, Shut (∀ a w, (j < k → S w) → wpUpto P md ops Q S k fuel (listed.setIfInBounds j true) a w → K' a w) → if Region.wanted oj (yielded ops a.tmps) = true then Oper.wp P oj a w K' Q else K' (a.put oj.dst undef) w) :
    wpUpto P md ops Q S k (fuel + 1) listed a w := by
  refine ⟨fun h0 => absurd (hr.symm.trans h0) (by simp), fun x hx => ?_⟩
  rw [hr] at hx
  have hx' : x = i ∨ x = j := by simpa using hx
  rcases hx' with rfl | rfl
  · exact wpOp_step hoi (fun K' hK => h1 K' (fun a w hS hW => hK a w ⟨hS, hW⟩))
  · exact wpOp_step hoj (fun K' hK => h2 K' (fun a w hS hW => hK a w ⟨hS, hW⟩))

set_option maxRecDepth 100000 in
set_option maxHeartbeats 1600000 in
theorem made_far (w : World) (nI : Int) (go : Option Addr) (gcap : Nat) (rs : List (List Int)) (h : ¬ (1 ≤ nI ∧ nI ≤ 4 ∧ rs.length ≤ 8)) :
    Calls Tryz.prog 23 #[.agg #[.int .i64 nI, .slice go rs.length gcap]] w fun e w' => MadePost w nI rs e w' := by
  have HE : Hid (goodG nI rs = false) := by show _ = _; unfold goodG; rw [decide_eq_false h, Bool.false_and]
  have HX := hide (two_boxes w (.int .i64 nI) (.slice go rs.length gcap) (.int .i64 0) (.slice none 0 0) 57 25)
  obtain ⟨⟨c0, c1, z0, z1⟩, ⟨d0, d1, y0, y1⟩, -, -⟩ := HX.out
  have HB := hide HX.out.2.2.1
  by_cases h1 : nI < 1
  · clear h
    have g1 : decide (nI < 1) = true := decide_eq_true h1
    clear HX
    go_enter Tryz.func23, Tryz.ntmps23
    go_wp2
    exact bodyPost_ret (v := .tuple #[.agg #[.int .i64 0, .slice none 0 0], .slice none 0 0, .bool false]) (by simp [results, Tryz.results23, go_sem, d0, d1]) rfl ⟨HB.out, .inl ⟨HE.out, rfl⟩⟩

  · by_cases h2 : 4 < nI
    · clear h
      have g1 : decide (nI < 1) = false := decide_eq_false h1; have g2 : decide (4 < nI) = true := decide_eq_true h2
      clear HX
      go_enter Tryz.func23, Tryz.ntmps23
      go_wp2
      exact bodyPost_ret (v := .tuple #[.agg #[.int .i64 0, .slice none 0 0], .slice none 0 0, .bool false]) (by simp [results, Tryz.results23, go_sem, d0, d1]) rfl ⟨HB.out, .inl ⟨HE.out, rfl⟩⟩

    · have h3 : 8 < (rs.length : Int) := by omega
      clear h
      have g1 : decide (nI < 1) = false := decide_eq_false h1; have g2 : decide (4 < nI) = false := decide_eq_false h2; have g3 : decide (8 < (rs.length : Int)) = true := decide_eq_true h3
      clear HX
      go_enter Tryz.func23, Tryz.ntmps23
      go_wp2
      exact bodyPost_ret (v := .tuple #[.agg #[.int .i64 0, .slice none 0 0], .slice none 0 0, .bool false]) (by simp [results, Tryz.results23, go_sem, d0, d1]) rfl ⟨HB.out, .inl ⟨HE.out, rfl⟩⟩

end Go.Proofs.YtjblidoilphifadGreatDoor
