/- A vector in a lattice; a lattice in another one. -/
import Derived.Test.YtdedolkgcdlmeaaGreatDoorLatR
import Derived.Test.YtdedolkgcdlmeaaGreatDoorLatQ
namespace Go.Proofs.YtdedolkgcdlmeaaGreatDoor
open Go.RowKit Limbs

theorem shares_yes (w : World) (v x : Value) (n nv nx : Nat) (hs : List (List Int)) (p : Nat → Nat) (zs : List Int) (hv : ∃ u, v = .agg #[.int .i64 (n : Int), u] ∧ MatN w u hs nv) (hF : FormL n hs p) (hx : VecN w x zs nx) (hz : zs.length = n) (h1 : 1 ≤ n) (h4 : n ≤ 4) (hN : nx + n * (nv + 2) ≤ 90000) (hg : Gens n (InL hs) zs) :
    Calls Tryz.prog 89 #[v, x] w fun e w' => ∃ P, e = .returned (.tuple #[.slice (some ⟨P, 0, none⟩) hs.length hs.length, .bool true]) ∧ VecO w w' P (muchL hs p zs) (nx + hs.length * (nv + 2) + 1) :=
  (shares_any w v x n nv nx hs p zs hv hF hx hz h1 h4 hN).mono fun _ _ ⟨_, hc⟩ => hc.elim (fun h => h.2) (fun h => absurd ((lat_gens hF.len hz).2 hg) h.1)

theorem shares_no (w : World) (v x : Value) (n nv nx : Nat) (hs : List (List Int)) (p : Nat → Nat) (zs : List Int) (hv : ∃ u, v = .agg #[.int .i64 (n : Int), u] ∧ MatN w u hs nv) (hF : FormL n hs p) (hx : VecN w x zs nx) (hz : zs.length = n) (h1 : 1 ≤ n) (h4 : n ≤ 4) (hN : nx + n * (nv + 2) ≤ 90000) (hg : ¬ Gens n (InL hs) zs) :
    Calls Tryz.prog 89 #[v, x] w fun e w' => e = .returned (.tuple #[.slice none 0 0, .bool false]) ∧ Below w.heap.size w w' :=
  (shares_any w v x n nv nx hs p zs hv hF hx hz h1 h4 hN).mono fun _ _ ⟨hb, hc⟩ => hc.elim (fun h => absurd ((lat_gens hF.len hz).1 h.1) hg) (fun h => ⟨h.2, hb⟩)

/-- What Member answers. -/
def MemberPost (w : World) (n nv nx : Nat) (hs : List (List Int)) (p : Nat → Nat) (zs : List Int) (e : Ending) (w' : World) : Prop :=
  Below w.heap.size w w' ∧ ((Gens n (InL hs) zs ∧ ∃ P, e = .returned (.tuple #[.slice (some ⟨P, 0, none⟩) hs.length hs.length, .bool true, .nilIface]) ∧ VecO w w' P (muchL hs p zs) (nx + hs.length * (nv + 2) + 1)) ∨
    (¬ Gens n (InL hs) zs ∧ e = .returned (.tuple #[.slice none 0 0, .bool false, .nilIface])))

/-- While the rows of one are asked of the other. -/
structure AllI (w W : World) (n : Nat) (u v : Value) (m : Nat) (rows : List (List Int)) (k N : Nat) : Prop where
  low : Below w.heap.size w W
  lt : w.heap.size + 2 < W.heap.size
  blk : ∃ cs t, W.heap[w.heap.size + 2]? = some (.cells cs t)
  box : Box W w.heap.size (.int .i64 (n : Int)) u
  box2 : Box W (w.heap.size + 1) (.int .i64 (n : Int)) v
  nil : ∀ i, k ≤ i → i < m → W.cell? ⟨w.heap.size + 2, i, none⟩ = some (.slice none 0 0)
  row : ∀ i, i < k → ∃ Q, W.cell? ⟨w.heap.size + 2, i, none⟩ = some (.slice (some ⟨Q, 0, none⟩) (rows.getD i []).length (rows.getD i []).length) ∧ VecN W (.slice (some ⟨Q, 0, none⟩) (rows.getD i []).length (rows.getD i []).length) (rows.getD i []) N ∧ Q < W.heap.size ∧ Q ≠ w.heap.size + 2

theorem AllI.start {w W0 : World} (hsz : W0.heap.size = w.heap.size + 2) (hb : Below w.heap.size w W0) {n : Nat} {u v : Value} (hx : Box W0 w.heap.size (.int .i64 (n : Int)) u) (hy : Box W0 (w.heap.size + 1) (.int .i64 (n : Int)) v) (m : Nat) (rows : List (List Int)) (N : Nat) : AllI w (W0.alloc (.cells (madeCells #[.slice none 0 0] m) 72)) n u v m rows 0 N := by
  have hbb := (Below.refl W0.heap.size W0).alloc (Nat.le_refl _) (.cells (madeCells #[.slice none 0 0] m) 72)
  refine ⟨hb.alloc hb.size _, by simp; omega, ⟨_, _, by have := heap_alloc_new W0 (.cells (madeCells #[.slice none 0 0] m) 72); rw [hsz] at this; exact this⟩, hx.later hbb (by omega), hy.later hbb (by omega), fun i _ hi => ?_, fun i hi => absurd hi (by omega)⟩
  rw [← hsz, World.cell?_alloc_new]
  exact made_one m i hi

theorem AllI.later {w W W' : World} {n : Nat} {u v : Value} {m : Nat} {rows : List (List Int)} {k N : Nat} (h : AllI w W n u v m rows k N) (hb : Below W.heap.size W W') : AllI w W' n u v m rows k N where
  low := h.low.trans (hb.mono h.low.size)
  lt := Nat.lt_of_lt_of_le h.lt hb.size
  blk := by obtain ⟨cs, t, e⟩ := h.blk; exact ⟨cs, t, (hb.block _ (heap_lt e)).trans e⟩
  box := h.box.later hb (by have := h.lt; omega)
  box2 := h.box2.later hb (by have := h.lt; omega)
  nil := fun i h1 h2 => (hb.cell (p := ⟨w.heap.size + 2, i, none⟩) h.lt).trans (h.nil i h1 h2)
  row := fun i hi => by
    obtain ⟨Q, e, hv, hq, hne⟩ := h.row i hi
    exact ⟨Q, (hb.cell (p := ⟨w.heap.size + 2, i, none⟩) h.lt).trans e, hv.below hb (Nat.le_refl _), Nat.lt_of_lt_of_le hq hb.size, hne⟩

theorem AllI.thaw {w W : World} {n : Nat} {u v : Value} {m : Nat} {rows : List (List Int)} {k N : Nat} (h : AllI w W n u v m rows k N) (i : Nat) : W.frozen? ⟨w.heap.size + 2, i, none⟩ = false := by
  obtain ⟨cs, t, e⟩ := h.blk
  simp [World.frozen?, e]

theorem AllI.step {w W : World} {n : Nat} {u v : Value} {m : Nat} {rows : List (List Int)} {k N : Nat} (h : AllI w W n u v m rows k N) (hk : k < m) {Q : Nat} (hv : VecN W (.slice (some ⟨Q, 0, none⟩) (rows.getD k []).length (rows.getD k []).length) (rows.getD k []) N) (hq : Q < W.heap.size) (hne : Q ≠ w.heap.size + 2) :
    AllI w (W.setCell ⟨w.heap.size + 2, k, none⟩ (.slice (some ⟨Q, 0, none⟩) (rows.getD k []).length (rows.getD k []).length)) n u v m rows (k + 1) N := by
  have hnil := h.nil k (Nat.le_refl _) hk
  have hu : ∀ z, (Value.slice none 0 0) ≠ .int .u32 z := fun z e => by cases e
  refine ⟨h.low.setCell (by simp) _, by simpa using h.lt, ?_, h.box.other (by omega) _ _, h.box2.other (by omega) _ _, fun i h1 h2 => ?_, fun i hi => ?_⟩
  · obtain ⟨cs, t, e⟩ := h.blk
    exact ⟨_, t, heap_setCell_same W (w.heap.size + 2) k _ _ _ e⟩
  · exact (World.cell?_setCell_other (h := fun e => by simp at e <;> omega) ..).trans (h.nil i (by omega) h2)
  · by_cases e : i = k
    · subst e
      exact ⟨Q, World.cell?_setCell_same (h := hnil) .., hv.other hne hnil hu, by simpa using hq, hne⟩
    · obtain ⟨Q', e', hv', hq', hne'⟩ := h.row i (by omega)
      exact ⟨Q', (World.cell?_setCell_other (h := fun e => by simp at e <;> omega) ..).trans e', hv'.other hne' hnil hu, by simpa using hq', hne'⟩

theorem AllI.mat {w W : World} {n : Nat} {u v : Value} {m : Nat} {rows : List (List Int)} {N : Nat} (h : AllI w W n u v m rows m N) (hm : rows.length = m) : MatN W (.slice (some ⟨w.heap.size + 2, 0, none⟩) m m) rows N := by
  subst hm
  refine ⟨_, _, rfl, Nat.le_refl _, fun h0 => ⟨_, _, rfl, h.lt, fun i zs hi => ?_⟩⟩
  obtain ⟨hi', e⟩ := List.getElem?_eq_some_iff.1 hi
  obtain ⟨Q, e1, hv, -, -⟩ := h.row i hi'
  rw [getD_row hi', e] at e1 hv
  exact ⟨_, by rw [Nat.zero_add]; exact e1, hv⟩

theorem run_mkM (m : Nat) (hm : m ≤ 1000) (W : World) : (Instr.makeSlice 23 (.int .i64 (m : Int)) (.int .i64 (m : Int))).run Tryz.prog W = .ok (.slice (some ⟨W.heap.size, 0, none⟩) m m) (W.alloc (.cells (madeCells #[.slice none 0 0] m) 72)) := by
  obtain ⟨i0, hi, hz0, hz1, hz2⟩ := info_parts Tryz.infoVec
  have h := run_make (P := Tryz.prog) W 23 72 i0 (.slice none 0 0) (by kernel_rfl) hi hz0 .i64 .i64 m m (by omega) (by omega) (by rw [hz2]; omega) (by omega)
  rw [hz1, Int.toNat_natCast, Nat.mul_one] at h
  exact h

/-- What allShares answers. -/
def AllPost (w : World) (n nv mv : Nat) (hs ks : List (List Int)) (p : Nat → Nat) (e : Ending) (w' : World) : Prop :=
  Below w.heap.size w w' ∧ (((∀ us ∈ hs, Gens n (InL ks) us) ∧ ∃ m, e = .returned (.tuple #[m, .bool true]) ∧ MatN w' m (hs.map (muchL ks p)) (nv + ks.length * (mv + 2) + 1)) ∨
    ((¬ ∀ us ∈ hs, Gens n (InL ks) us) ∧ e = .returned (.tuple #[.slice none 0 0, .bool false])))

set_option linter.unusedSimpArgs false in
set_option maxRecDepth 100000 in
set_option maxHeartbeats 4000000 in
theorem allShares_any (w : World) (va vb : Value) (n nv mv : Nat) (hs ks : List (List Int)) (p : Nat → Nat) (ha : LatN w va n hs nv) (hb : ∃ u, vb = .agg #[.int .i64 (n : Int), u] ∧ MatN w u ks mv) (hF : FormL n ks p) (h1 : 1 ≤ n) (h4 : n ≤ 4) (hN : nv + n * (mv + 2) ≤ 90000) :
    Calls Tryz.prog 84 #[va, vb] w fun e w' => AllPost w n nv mv hs ks p e w' := by
  have HF := hide hF
  obtain ⟨⟨u, rfl, hu⟩, q, hG⟩ := ha
  obtain ⟨v, rfl, hv⟩ := hb
  have HU := hide hu; have HV := hide hv; have HG := hide hG
  have hsh := hG.short
  have HML : Hid ((hs.map (muchL ks p)).length = hs.length) := List.length_map ..
  obtain ⟨uo, ucap, rfl, -, -⟩ := hu
  obtain ⟨vo, vcap, rfl, -, -⟩ := hv
  clear hF hG
  have hmk := run_mkM hs.length (by omega)
  have HX := hide (two_boxes w (.int .i64 (n : Int)) (.slice uo hs.length ucap) (.int .i64 (n : Int)) (.slice vo ks.length vcap) 55 55)
  have HBB := hide ((Below.refl (w.heap.size + 2) ((w.alloc (.cells #[.int .i64 (n : Int), .slice uo hs.length ucap] 55)).alloc (.cells #[.int .i64 (n : Int), .slice vo ks.length vcap] 55))).alloc (by simp) (.cells (madeCells #[.slice none 0 0] hs.length) 72))
  have HS : Hid (AllI w (((w.alloc (.cells #[.int .i64 (n : Int), .slice uo hs.length ucap] 55)).alloc (.cells #[.int .i64 (n : Int), .slice vo ks.length vcap] 55)).alloc (.cells (madeCells #[.slice none 0 0] hs.length) 72)) n (.slice uo hs.length ucap) (.slice vo ks.length vcap) hs.length (hs.map (muchL ks p)) 0 (nv + ks.length * (mv + 2) + 1)) := by
    exact hide (AllI.start (by simp) HX.out.2.2.1 HX.out.1 HX.out.2.1 _ _ _)
  obtain ⟨⟨c0, c1, z0, z1⟩, ⟨d0, d1, y0, y1⟩, -, -⟩ := HX.out
  obtain ⟨e0, e1, -, -⟩ := HS.out.box
  go_enter Tryz.func84, Tryz.ntmps84
  go_wp2
  clear hmk c0 c1 z0 z1 d0 d1 y0 y1 e0 e1 HX HBB
  go_loopw [17] (fun i wr => ∃ k : Nat, k ≤ hs.length ∧ i = .int .i64 k ∧ Hid (AllI w wr n (.slice uo hs.length ucap) (.slice vo ks.length vcap) hs.length (hs.map (muchL ks p)) k (nv + ks.length * (mv + 2) + 1)) ∧ Hid (∀ us ∈ hs.take k, Gens n (InL ks) us)) (fun i _ => hs.length - (intOf i).toNat)
  case atStart => exact ⟨0, Nat.zero_le _, rfl, HS, fun us h => by simp at h⟩
  case round =>
    clear HS
    obtain ⟨k, hk, rfl, HI, HALL⟩ := hrel
    by_cases hkl : k < hs.length
    · have hmat := HU.out.below HI.out.low (Nat.le_refl _)
      obtain ⟨rb, roff, _, e, lr, ru, cu, hru⟩ := hmat.at k hkl
      simp only [Value.slice.injEq, true_and] at e
      obtain ⟨rfl, rfl⟩ := e
      clear hmat
      have HR := hide hru
      have HM := hide (HV.out.below HI.out.low (Nat.le_refl _))
      have HUL : Hid (hs[k].length = n) := HG.out.len _ (List.getElem_mem hkl)
      have HIN := hide (List.getElem_mem hkl)
      have HTK : Hid (hs.take (k + 1) = hs.take k ++ [hs[k]]) := List.take_succ_eq_append_getElem hkl
      have HGD : Hid ((hs.map (muchL ks p)).getD k [] = muchL ks p hs[k]) := by
        show _ = _
        rw [getD_row (by rw [List.length_map]; exact hkl), List.getElem_map]
      have HLG := hide (lat_gens (v := hs[k]) HF.out.len HUL.out)
      generalize hs[k] = us at *
      obtain ⟨ruo, rucap, rfl, -, -⟩ := hru
      obtain ⟨c0, c1, z0, z1⟩ := HI.out.box
      obtain ⟨d0, d1, y0, y1⟩ := HI.out.box2
      by_cases hgn : Gens n (InL ks) us
      · have HGN := hide hgn
        clear hgn
        go_wp2_with fail
        go_region_held3 (fun w' => w'.cell? ⟨w.heap.size, 0, none⟩ = some (.int .i64 (n : Int)) ∧ w'.cell? ⟨w.heap.size, 1, none⟩ = some (.slice (some ⟨rb, roff, none⟩) hs.length ucap) ∧ w'.cell? ⟨w.heap.size + 1, 0, none⟩ = some (.int .i64 (n : Int)) ∧ w'.cell? ⟨w.heap.size + 1, 1, none⟩ = some (.slice vo ks.length vcap) ∧ w'.cell? ⟨rb, roff + k, none⟩ = some (.slice ruo us.length rucap)) (go_keep)
          (first
            | (go_at_call 89; refine (shares_yes _ _ _ n mv nv ks p us (by exact ⟨_, rfl, HM.out.below (Below.refl _ _).drew (Nat.le_refl _)⟩) HF.out (by exact HR.out.below (Below.refl _ _).drew (Nat.le_refl _)) HUL.out h1 h4 hN HGN.out).mono ?_; rintro e w2 ⟨P, rfl, ho⟩; have hb2 := ho.below; have HB2 := hide (show Below wr.heap.size wr w2 from (Below.refl _ _).drew.trans (hb2.mono (by simp))); have HO2 := hide ho; have HI2 := hide (HI.out.later HB2.out); obtain ⟨p0, p1, -, -⟩ := HI2.out.box; obtain ⟨p2, p3, -, -⟩ := HI2.out.box2; have p4 := (HB2.out.cell (p := ⟨rb, roff + k, none⟩) lr).trans cu; clear hb2 ho))
        have HN : Hid (AllI w (w2.setCell ⟨w.heap.size + 2, k, none⟩ (.slice (some ⟨P, 0, none⟩) ks.length ks.length)) n (.slice (some ⟨rb, roff, none⟩) hs.length ucap) (.slice vo ks.length vcap) hs.length (hs.map (muchL ks p)) (k + 1) (nv + ks.length * (mv + 2) + 1)) := by
          have hst := HI2.out.step hkl (Q := P) (by rw [HGD.out]; exact HO2.out.vec) HO2.out.lt (by have := HO2.out.low; have := HI.out.lt; simp at *; omega)
          rw [HGD.out, muchL_len] at hst
          exact hide hst
        have HAL : Hid (∀ us ∈ hs.take (k + 1), Gens n (InL ks) us) := by
          intro us' h
          rw [HTK.out] at h
          rcases List.mem_append.1 h with h | h
          · exact HALL.out us' h
          · rw [List.mem_singleton.1 h]; exact HGN.out
        have k0 := HI2.out.nil k (Nat.le_refl _) hkl
        have t0 := HI2.out.thaw k
        clear HI HI2 HO2 HB2 HALL HTK HR HM p0 p1 p2 p3 p4 c0 c1 z0 z1 d0 d1 y0 y1 cu
        go_wp2
        go_roundw
        case rel => exact ⟨k + 1, by omega, by go_num, HN, HAL⟩
        case measure => simp [intOf]; omega
      · have HGN := hide hgn
        clear hgn
        go_wp2_with fail
        go_region_held3 (fun w' => w'.cell? ⟨w.heap.size, 0, none⟩ = some (.int .i64 (n : Int)) ∧ w'.cell? ⟨w.heap.size, 1, none⟩ = some (.slice (some ⟨rb, roff, none⟩) hs.length ucap) ∧ w'.cell? ⟨w.heap.size + 1, 0, none⟩ = some (.int .i64 (n : Int)) ∧ w'.cell? ⟨w.heap.size + 1, 1, none⟩ = some (.slice vo ks.length vcap) ∧ w'.cell? ⟨rb, roff + k, none⟩ = some (.slice ruo us.length rucap)) (go_keep)
          (first
            | (go_at_call 89; refine (shares_no _ _ _ n mv nv ks p us (by exact ⟨_, rfl, HM.out.below (Below.refl _ _).drew (Nat.le_refl _)⟩) HF.out (by exact HR.out.below (Below.refl _ _).drew (Nat.le_refl _)) HUL.out h1 h4 hN HGN.out).mono ?_; rintro e w2 ⟨rfl, hb2⟩; have HB2 := hide (show Below wr.heap.size wr w2 from (Below.refl _ _).drew.trans (hb2.mono (by simp))); have HI2 := hide (HI.out.later HB2.out); obtain ⟨p0, p1, -, -⟩ := HI2.out.box; obtain ⟨p2, p3, -, -⟩ := HI2.out.box2; have p4 := (HB2.out.cell (p := ⟨rb, roff + k, none⟩) lr).trans cu; clear hb2))
        have HBL := hide HI2.out.low
        have HNO := hide (fun h : ∀ us ∈ hs, Gens n (InL ks) us => HGN.out (h us HIN.out))
        clear HI HI2 HB2 HALL HTK HR HM p0 p1 p2 p3 p4 c0 c1 z0 z1 d0 d1 y0 y1 cu
        go_wp2
        exact bodyPost_ret (v := .tuple #[.slice none 0 0, .bool false]) (by simp [results, Tryz.results84, go_sem]) rfl ⟨HBL.out, .inr ⟨HNO.out, rfl⟩⟩
    · obtain rfl : k = hs.length := by omega
      have HFI : Hid (∀ us ∈ hs, Gens n (InL ks) us) := by
        have := HALL.out
        rw [List.take_length] at this
        exact this
      have HMT := hide (HI.out.mat HML.out)
      have HBL := hide HI.out.low
      clear HI
      go_wp2
      exact bodyPost_ret (v := .tuple #[.slice (some ⟨w.heap.size + 2, 0, none⟩) hs.length hs.length, .bool true]) (by simp [results, Tryz.results84, go_sem]) rfl ⟨HBL.out, .inl ⟨HFI.out, _, rfl, HMT.out⟩⟩


end Go.Proofs.YtdedolkgcdlmeaaGreatDoor
