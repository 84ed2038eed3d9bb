/- A vector is put among the rows of the stairs. -/
import Derived.Test.YtdedolkgcdlmeaaGreatDoorIns
namespace Go.Proofs.YtdedolkgcdlmeaaGreatDoor
open Go.RowKit Limbs

/-- How many limbs the vector has at most, place by place. -/
def nbK (m S0 nv : Nat) : Nat → Nat
  | 0 => nv
  | k + 1 => nbK m S0 nv k + (m - k + 1) * (S0 + 3)

theorem nbK_mono {m S0 nv k l : Nat} (h : k ≤ l) : nbK m S0 nv k ≤ nbK m S0 nv l := by
  induction l with
  | zero => obtain rfl : k = 0 := by omega
            exact Nat.le_refl _
  | succ l ih =>
    by_cases e : k = l + 1
    · rw [e]; exact Nat.le_refl _
    · exact Nat.le_trans (ih (by omega)) (Nat.le_add_right _ _)

/-- While it is put in: places before k are done. -/
structure InsV (w wr : World) (sb m S0 BIG n k : Nat) (rows R : Nat → Option (List Int)) (us zs : List Int) (v : Value) : Prop where
  st : StairO w wr sb m R m (fun a => if a < k then BIG else S0)
  same : ∀ a, k ≤ a → R a = rows a
  ech : Ech R m m
  zero : ∀ j, j < k → zs.getD j 0 = 0
  vec : VecN wr v zs n
  off : ∀ b o l c, v = .slice (some ⟨b, o, none⟩) l c → b ≠ sb
  len : zs.length = m
  gen : Alikes m (RowsOr R zs) (RowsOr rows us)

theorem InsV.later {w wr w' : World} {sb m S0 BIG n k : Nat} {rows R : Nat → Option (List Int)} {us zs : List Int} {v : Value} (h : InsV w wr sb m S0 BIG n k rows R us zs v) (hb : Below wr.heap.size wr w') : InsV w w' sb m S0 BIG n k rows R us zs v :=
  ⟨h.st.later hb, h.same, h.ech, h.zero, h.vec.below hb (Nat.le_refl _), h.off, h.len, h.gen⟩

theorem Ech.set {R : Nat → Option (List Int)} {len m k : Nat} {r : List Int} (h : Ech R len m) (hl : r.length = len) (hz : ∀ j, j < k → r.getD j 0 = 0) (hk : k < m) : Ech (putRow R k r) len m := by
  have key : ∀ i v, putRow R k r i = some v → v.length = len ∧ (∀ j, j < i → v.getD j 0 = 0) ∧ i < m := by
    intro i v e
    unfold putRow at e
    by_cases hi : i = k
    · rw [if_pos hi] at e
      obtain rfl := Option.some.inj e
      exact ⟨hl, by rw [hi]; exact hz, by omega⟩
    · rw [if_neg hi] at e
      exact ⟨h.len i v e, h.zero i v e, h.lt i v e⟩
  exact ⟨fun i r e => (key i r e).1, fun i r e => (key i r e).2.1, fun i r e => (key i r e).2.2⟩

set_option maxRecDepth 100000 in
set_option maxHeartbeats 4000000 in
theorem insert_any (w W : World) (sb m S0 nv : Nat) (rows : Nat → Option (List Int)) (va : Value) (us : List Int) (hs : StairO w W sb m rows m (fun _ => S0)) (he : Ech rows m m) (ha : VecN W va us nv) (hul : us.length = m) (hoff : ∀ b o l c, va = .slice (some ⟨b, o, none⟩) l c → b ≠ sb) (h8 : m ≤ 1000) (hN : nbK m S0 nv m ≤ 100000) :
    Calls Tryz.prog 104 #[.slice (some ⟨sb, 0, none⟩) m m, va] W fun e w' => e = .returned (.tuple #[]) ∧ ∃ R, StairO w w' sb m R m (fun _ => 200001) ∧ Ech R m m ∧ Alikes m (RowsOf R) (RowsOr rows us) := by
  have HS := hide hs; have HE := hide he; have HA := hide ha; have HOF := hide hoff; have HUL := hide hul; have HNB := hide hN
  clear hs he ha hoff hul hN
  go_enter Tryz.func104, Tryz.ntmps104
  go_wp2_with fail
  go_loopw [7, 1] (fun i v wr => ∃ k : Nat, k ≤ m ∧ i = .int .i64 k ∧ ∃ R zs, Hid (InsV w wr sb m S0 200001 (nbK m S0 nv k) k rows R us zs v)) (fun i _ _ => m - (intOf i).toNat)
  case atStart =>
    exact ⟨0, Nat.zero_le _, rfl, rows, us, hide ⟨HS.out.mono fun i hi _ => Nat.le_refl _, fun _ _ => rfl, HE.out, fun j hj => absurd hj (Nat.not_lt_zero j), HA.out, HOF.out, HUL.out, fun _ => Iff.rfl⟩⟩
  case round =>
    obtain ⟨k, hk, rfl, R, zs, HI⟩ := hrel
    by_cases hkl : k < m
    · have hst := HI.out.st.stair (f := k) (n := S0) (fun i hf hi => by rw [if_neg (by omega)]; exact Nat.le_refl _)
      have HRL := hide (fun i r e => (HI.out.ech.len i r e).trans HI.out.len.symm)
      have hb : nbK m S0 nv k + (m - k + 1) * (S0 + 3) ≤ 100000 := Nat.le_trans (nbK_mono (show k + 1 ≤ m from hkl)) HNB.out
      have h1 : nbK m S0 nv 1 ≤ 100000 := Nat.le_trans (nbK_mono (show 1 ≤ m by omega)) HNB.out
      have h2 : nbK m S0 nv 1 = nv + (m - 0 + 1) * (S0 + 3) := rfl
      have h3 : (m - 0 + 1) * (S0 + 3) = m * (S0 + 3) + (S0 + 3) := by rw [Nat.sub_zero, Nat.succ_mul]
      have h4 : (m - k + 1) * (S0 + 3) = (m - k) * (S0 + 3) + (S0 + 3) := Nat.succ_mul _ _
      have hnb1 : nbK m S0 nv (k + 1) = nbK m S0 nv k + (m - k + 1) * (S0 + 3) := rfl
      have HL := hide (lower_any wr sb m k (nbK m S0 nv k) S0 R u1 zs (by rw [HI.out.len]; exact hst) HRL.out HI.out.vec hk (by have := HI.out.len; omega) (by have := HI.out.len; omega) (by omega))
      have HZL := hide (lowN_len (f := k) HRL.out (m - k))
      have HZK := hide (fun j (hj : j < k) => lowN_keep (f := k) HRL.out (j := j) (by have := HI.out.len; omega) (fun i r hi e => HI.out.ech.zero i r e j (by omega)) (m - k))
      have HGE := hide (alikes_low (f := k) (zs := zs) HI.out.ech.len HI.out.len (m - k))
      have hS : S0 ≤ 200001 := by omega
      have HNB1 := hide hnb1
      clear hnb1
      generalize nbK m S0 nv k = n0 at *
      generalize hn1 : n0 + (m - k) * (S0 + 3) = n1 at *
      clear hst h1 h2 h3 HRL
      generalize lowN R k zs (m - k) = zs1 at *
      go_wp2_with fail
      refine HL.out.mono ?_
      rintro e w1 ⟨v, rfl, hlow⟩
      have I1 : Hid (InsV w w1 sb m S0 200001 n1 k rows R us zs1 v) := by
        have h := HI.out
        refine hide ⟨h.st.later hlow.below, h.same, h.ech, fun j hj => (HZK.out j hj).trans (h.zero j hj), hlow.vec, ?_, HZL.out.trans h.len, HGE.out.trans h.gen⟩
        rcases hlow.own with rfl | ⟨P, rfl, ho⟩
        · exact h.off
        · intro b o l c e
          simp only [Value.slice.injEq, Option.some.injEq, Addr.mk.injEq, and_true] at e
          have := ho.low
          have := h.st.lt
          omega
      clear HL HZL HZK HGE hlow HI
      obtain ⟨vb, voff, vcap, rfl⟩ := I1.out.vec.form (by have := I1.out.len; omega)
      obtain ⟨lv, an, ao, al, ac, a2, a3, na⟩ := I1.out.vec.at k (by have := I1.out.len; omega)
      have NA := hide na
      have hkz : k < zs1.length := by have := I1.out.len; omega
      clear na
      go_wp2_with fail
      refine (zero_any w1 _ (zs1.getD k 0) n1 (by exact NA.out)).mono ?_
      rintro e w2 ⟨rfl, hb2⟩
      have I2 := hide (I1.out.later hb2)
      have lsb := I2.out.st.lt
      clear I1 NA a2 a3 lv hb2
      by_cases h0 : zs1.getD k 0 = 0
      · rw [decide_eq_true h0]
        have HN : Hid (InsV w w2 sb m S0 200001 (n0 + (m - k + 1) * (S0 + 3)) (k + 1) rows R us zs1 (.slice (some ⟨vb, voff, none⟩) zs1.length vcap)) := by
          have h := I2.out
          refine hide ⟨h.st.mono fun i hi _ => ?_, fun a ha => h.same a (by omega), h.ech, fun j hj => ?_, h.vec.mono (by omega), h.off, h.len, h.gen⟩
          · by_cases h5 : i < k
            · rw [if_pos h5, if_pos (by omega)]; exact Nat.le_refl _
            · rw [if_neg h5]; split <;> omega
          · by_cases h5 : j < k
            · exact h.zero j h5
            · obtain rfl : j = k := by omega
              exact h0
        clear h0 I2
        go_wp2
        go_roundw
        case rel => exact ⟨k + 1, by omega, by go_num, R, zs1, by rw [HNB1.out]; exact HN⟩
        case measure => simp [intOf]; omega
      · rw [decide_eq_false h0]
        cases hr : R k with
        | none =>
          have c0 := I2.out.st.nil k hkl hr
          have hbo := run_nil_eq w2
          have HZ1 : Hid (∃ z : Int, (z = 1 ∨ z = -1) ∧ (if zs1.getD k 0 < 0 then -1 else 1) = z ∧ 0 < z * zs1.getD k 0) := by
            by_cases h5 : zs1.getD k 0 < 0
            · rw [if_pos h5]; exact hide ⟨-1, .inr rfl, rfl, by omega⟩
            · rw [if_neg h5]; exact hide ⟨1, .inl rfl, rfl, by omega⟩
          go_wp2_with fail
          refine (upright_any w2 _ zs1 n1 k (by exact I2.out.vec) hkz (by have := I2.out.len; omega) (by omega)).mono ?_
          rintro e w3 ⟨P, rfl, ho⟩
          have c1 := (ho.below.cell (p := ⟨sb, k, none⟩) lsb).trans c0
          have hfz := (I2.out.later ho.below).st.thaw k
          have lsb3 := (I2.out.later ho.below).st.lt
          have HP : Hid (∃ R', StairO w (w3.setCell ⟨sb, k, none⟩ (.slice (some ⟨P, 0, none⟩) zs1.length zs1.length)) sb m R' m (fun _ => 200001) ∧ Ech R' m m ∧ Alikes m (RowsOf R') (RowsOr rows us)) := by
            obtain ⟨z, hz1, hz2, hz3⟩ := HZ1.out
            rw [hz2] at ho
            have h := I2.out.later ho.below
            have hl : (zs1.map (z * ·)).length = zs1.length := List.length_map ..
            have hg : ∀ j, (zs1.map (z * ·)).getD j 0 = z * zs1.getD j 0 := fun j => by
              rw [List.getD_eq_getElem?_getD, List.getD_eq_getElem?_getD, List.getElem?_map]
              cases zs1[j]? <;> simp
            have hst := h.st.set hkl (ho.since I2.out.st.below) (by have := ho.low; omega) (hl.trans h.len) (by rw [hg]; exact hz3)
            rw [hl] at hst
            refine hide ⟨putRow R k (zs1.map (z * ·)), hst.mono fun i hi _ => ?_, h.ech.set (hl.trans h.len) (fun j hj => by rw [hg, h.zero j hj, Int.mul_zero]) hkl, (alikes_new hr h.len hz1).trans h.gen⟩
            split
            · omega
            · split <;> omega
          have HLM : Hid ((zs1.map ((if zs1.getD k 0 < 0 then -1 else 1) * ·)).length = zs1.length) := hide (List.length_map ..)
          clear ho I2 HZ1 h0 hr hbo c0
          rw [HLM.out]
          go_wp2
          exact bodyPost_ret (results_none rfl _ _ _) rfl ⟨rfl, HP.out⟩
        | some r =>
          obtain ⟨P, c0, hv, hP, hlen, hpos⟩ := I2.out.st.row k hkl r hr
          have hbo := run_some_eq w2 ⟨P, 0, none⟩ r.length r.length
          have HR := hide hv
          have HRP := hide (show r.length = m ∧ 0 < r.getD k 0 from ⟨hlen, hpos⟩)
          rw [if_neg (Nat.lt_irrefl _)] at HR
          clear hv hlen hpos
          have hkr : k < r.length := by have := HRP.out; omega
          go_wp2_with fail
          refine (fold_any w2 _ _ r zs1 k S0 n1 100000 (by exact HR.out.vec) (by exact I2.out.vec) (by have := HRP.out; have := I2.out.len; omega) hkr (by have := HRP.out; omega) (by omega) (by omega) (by omega) (by omega) (by have := HRP.out.2; omega)).mono ?_
          rintro e w3 ⟨g, x, y, s, t, P1, P2, rfl, hg, e1, e2, e3, ho1, ho2⟩
          have c1 := (ho1.below.cell (p := ⟨sb, k, none⟩) lsb).trans c0
          have hfz := (I2.out.later ho1.below).st.thaw k
          have lsb3 := (I2.out.later ho1.below).st.lt
          have HN : Hid (∃ R' zs', InsV w (w3.setCell ⟨sb, k, none⟩ (.slice (some ⟨P1, 0, none⟩) r.length r.length)) sb m S0 200001 (n0 + (m - k + 1) * (S0 + 3)) (k + 1) rows R' us zs' (.slice (some ⟨P2, 0, none⟩) zs1.length zs1.length)) := by
            have h := I2.out.later ho1.below
            have hlr : r.length = zs1.length := HRP.out.1.trans h.len.symm
            have la := zip_len (fun a b => x * a + y * b) r zs1 hlr
            have lb := zip_len (fun b a => s * b + -t * a) zs1 r hlr.symm
            have hza : ∀ j, j < k → (List.zipWith (fun a b => x * a + y * b) r zs1).getD j 0 = 0 := fun j hj => by
              rw [zip_getD _ _ _ hlr j (by omega), h.ech.zero k r hr j hj, h.zero j hj]; omega
            have hzb : ∀ j, j < k + 1 → (List.zipWith (fun b a => s * b + -t * a) zs1 r).getD j 0 = 0 := fun j hj => by
              rw [zip_getD _ _ _ hlr.symm j (by omega)]
              by_cases h5 : j < k
              · rw [h.ech.zero k r hr j h5, h.zero j h5]; omega
              · obtain rfl : j = k := by omega
                have : s * zs1.getD j 0 = t * r.getD j 0 := by rw [e2, e3, ← Int.mul_assoc, ← Int.mul_assoc, Int.mul_comm s t]
                rw [this, Int.neg_mul]; omega
            have hpk : 0 < (List.zipWith (fun a b => x * a + y * b) r zs1).getD k 0 := by
              rw [zip_getD _ _ _ hlr k (by omega), ← e1]; exact hg
            have hst := h.st.set hkl (ho1.since I2.out.st.below) (by have := ho1.low; omega) (la.trans HRP.out.1) hpk
            have hv2 := (ho2.since I2.out.st.below).other (x := .slice (some ⟨P1, 0, none⟩) r.length r.length) (by have := ho2.low; omega) h.st.low c1 (fun z e => by cases e)
            rw [la] at hst
            have hvv := hv2.vec
            rw [lb] at hvv
            refine hide ⟨putRow R k (List.zipWith (fun a b => x * a + y * b) r zs1), List.zipWith (fun b a => s * b + -t * a) zs1 r, hst.mono fun i hi _ => ?_, fun a ha => ?_, h.ech.set (la.trans HRP.out.1) hza hkl, hzb, hvv.mono (by omega), ?_, lb.trans h.len, (alikes_fold hr HRP.out.1 h.len hg e1 e2 e3).trans h.gen⟩
            · by_cases h5 : i = k
              · rw [if_pos h5, if_pos (by omega)]; omega
              · rw [if_neg h5]
                by_cases h6 : i < k
                · rw [if_pos h6, if_pos (by omega)]; exact Nat.le_refl _
                · rw [if_neg h6, if_neg (by omega)]; exact Nat.le_refl _
            · unfold putRow
              rw [if_neg (by omega)]
              exact h.same a (by omega)
            · intro b o l c e
              simp only [Value.slice.injEq, Option.some.injEq, Addr.mk.injEq, and_true] at e
              have := ho2.low
              omega
          clear ho1 ho2 e1 e2 e3 hg I2 HR HRP hbo c0 hr h0
          go_wp2
          go_roundw
          case rel => exact ⟨k + 1, by omega, by go_num, by rw [HNB1.out]; exact HN.out.imp fun _ h => h.imp fun _ h => hide h⟩
          case measure => simp [intOf]; omega
    · obtain rfl : k = m := by omega
      have HP := hide (show StairO w wr sb k R k (fun _ => 200001) ∧ Ech R k k ∧ Alikes k (RowsOf R) (RowsOr rows us) from
        ⟨HI.out.st.mono fun i hi _ => by rw [if_pos hi]; exact Nat.le_refl _, HI.out.ech, (alikes_end HI.out.len HI.out.zero).trans HI.out.gen⟩)
      clear HI
      go_wp2
      exact bodyPost_end (results_none rfl _ _ _) rfl ⟨rfl, R, HP.out⟩

end Go.Proofs.YtdedolkgcdlmeaaGreatDoor
