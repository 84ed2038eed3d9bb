/- A disk: a sector settles. -/
import Derived.Test.YtjgodhfnnifchaaDkE
namespace Go.Proofs.Ytjgodhfnnifchaa
open Go.RowKit

theorem DiskM.len_eq {W : World} {base B : Nat} {D : Dsk} {so : Option Addr} {m cap : Nat} {ls : List Value} (h : DiskM W base B D (.slice so m cap) ls) : m = D.secs.length := by
  obtain ⟨so', cap', e⟩ := h.shape
  simp only [Value.slice.injEq] at e
  exact e.2.1

/-- One sector. -/
theorem DiskM.secAt {W : World} {base B : Nat} {D : Dsk} {g m cap : Nat} {ls : List Value} (h : DiskM W base B D (.slice (some ⟨g, 0, none⟩) m cap) ls) (i : Nat) (s : Sec) (hs : D.secs[i]? = some s) :
    ∃ v, ls[i]? = some v ∧ W.cell? ⟨g, i * 65 + 64, none⟩ = some v ∧ (∀ j (hj : j < s.kept.length), W.cell? ⟨g, i * 65 + j, none⟩ = some (byteC s.kept[j])) ∧ W.ownsRow base 88 65 v s.loose.length (s.loose.flatMap wcells) ∧ (∀ k, W.frozen? ⟨g, k, none⟩ = false) ∧ s.ok := by
  obtain rfl := h.len_eq
  obtain ⟨hi, e⟩ := List.getElem?_eq_some_iff.1 hs
  obtain ⟨v, h1, h2, h3, h4⟩ := h.sec i hi
  rw [e] at h3 h4
  exact ⟨v, h1, h2, h3, h4, fun k => owns_thaw h.own k, h.ok s (List.mem_of_getElem? hs)⟩

theorem DiskM.setKeptAt {W : World} {base B : Nat} {D : Dsk} {g m cap : Nat} {ls : List Value} (h : DiskM W base B D (.slice (some ⟨g, 0, none⟩) m cap) ls) (i : Nat) (s : Sec) (hs : D.secs[i]? = some s) (bs : List UInt8) (hb : bs.length = 64) :
    DiskM (W.setCells g (i * 65) (bs.map byteC)) base B { D with secs := D.secs.set i { s with kept := bs } } (.slice (some ⟨g, 0, none⟩) m cap) ls ∧ Kept base W (W.setCells g (i * 65) (bs.map byteC)) := by
  obtain rfl := h.len_eq
  exact h.setKept i s hs bs hb

theorem DiskM.setLooseAt {W : World} {base B : Nat} {D : Dsk} {g m cap : Nat} {ls : List Value} (h : DiskM W base B D (.slice (some ⟨g, 0, none⟩) m cap) ls) (i : Nat) (s : Sec) (hs : D.secs[i]? = some s) (v : Value) (l : List (Int × List UInt8))
    (hv : W.ownsRow base 88 65 v l.length (l.flatMap wcells)) (hl : ∀ p ∈ l, p.2.length = 64 ∧ 0 ≤ p.1 ∧ p.1 < 18446744073709551616) (hap : ∀ j v' b, j ≠ i → ls[j]? = some v' → v.ownBlock = some b → v'.ownBlock ≠ some b) :
    DiskM (W.setCell ⟨g, i * 65 + 64, none⟩ v) base B { D with secs := D.secs.set i { s with loose := l } } (.slice (some ⟨g, 0, none⟩) m cap) (ls.set i v) ∧ Kept base W (W.setCell ⟨g, i * 65 + 64, none⟩ v) := by
  obtain rfl := h.len_eq
  exact h.setLoose i s hs v l hv hl hap

/-- One write is kept, or not. -/
def keepOne (keep : Int) (kept : List UInt8) (p : Int × List UInt8) : List UInt8 := if bits .and .u64 p.1 keep = 0 then kept else p.2

def Sec.settled (keep : Int) (s : Sec) : Sec := ⟨s.loose.foldl (keepOne keep) s.kept, []⟩

theorem keepOne_len {keep : Int} : ∀ (l : List (Int × List UInt8)) (k : List UInt8), k.length = 64 → (∀ p ∈ l, p.2.length = 64) → (l.foldl (keepOne keep) k).length = 64
  | [], _, h, _ => h
  | p :: l, k, h, hl => by
    rw [List.foldl_cons]
    refine keepOne_len l _ ?_ (fun p hp => hl p (by simp [hp]))
    unfold keepOne
    split
    · exact h
    · exact hl p (by simp)

theorem set_same {α : Type} {l : List α} {i : Nat} {x : α} (h : l[i]? = some x) : l.set i x = l := by
  apply List.ext_getElem?
  intro j
  rw [List.getElem?_set]
  split
  · rename_i e
    subst e
    have := (List.getElem?_eq_some_iff.1 h).1
    rw [if_pos this, h]
  · rfl

set_option linter.unusedSimpArgs false in
set_option maxRecDepth 100000 in
set_option maxHeartbeats 1600000 in
theorem settleS_any (w : World) (base B : Nat) (D : Dsk) (g m cap : Nat) (ls : List Value) (i : Nat) (keep : Int) (s : Sec) (h : DiskM w base B D (.slice (some ⟨g, 0, none⟩) m cap) ls) (hs : D.secs[i]? = some s) :
    Calls Try.prog 51 #[.pointer (some ⟨g, i * 65, none⟩), .int .u64 keep] w fun e w' => e = .returned (.tuple #[]) ∧ DiskM w' base B { D with secs := D.secs.set i (s.settled keep) } (.slice (some ⟨g, 0, none⟩) m cap) (ls.set i (.slice none 0 0)) ∧ Kept base w w' := by
  have HM := hide h; have HS := hide hs
  obtain ⟨hi, -⟩ := List.getElem?_eq_some_iff.1 hs
  obtain ⟨v, hv, cv, -, hown, -, hok⟩ := h.secAt i s hs
  obtain ⟨kept, loose⟩ := s
  have HOK := hide hok
  have HV := hide hv
  have hvs : ∃ vo vcap, v = .slice vo loose.length vcap ∧ loose.length ≤ 9223372036854775807 := by
    rcases hown.2 with ⟨rfl, e⟩ | ⟨lg, lcap, cur, rfl, -, -, h1, h2, -⟩
    · exact ⟨none, 0, by rw [e], by rw [e]; decide⟩
    · exact ⟨_, _, rfl, by unfold maxLen at h2; exact Nat.le_trans h1 h2⟩
  obtain ⟨vo, vcap, rfl, hlm⟩ := hvs
  clear h hs hown hok hv
  go_enter Try.func51, Try.ntmps51
  go_wp2
  clear cv
  go_loopw [10] (fun x wr => ∃ j : Nat, j ≤ loose.length ∧ x = .int .i64 j ∧ Hid (DiskM wr base B { D with secs := D.secs.set i ⟨(loose.take j).foldl (keepOne keep) kept, loose⟩ } (.slice (some ⟨g, 0, none⟩) m cap) ls) ∧ Hid (Kept base w wr)) (fun x _ => loose.length - (intOf x).toNat)
  case atStart => exact ⟨0, Nat.zero_le _, rfl, hide (by have e : D.secs.set i ⟨(loose.take 0).foldl (keepOne keep) kept, loose⟩ = D.secs := set_same HS.out; rw [e]; exact HM.out), hide (Kept.refl _ _)⟩
  case round =>
    obtain ⟨j, hj, rfl, HMR, HKR⟩ := hrel
    have hget : (D.secs.set i ⟨(loose.take j).foldl (keepOne keep) kept, loose⟩)[i]? = some ⟨(loose.take j).foldl (keepOne keep) kept, loose⟩ := by rw [List.getElem?_set_self hi]
    obtain ⟨v', hv', cv, hkb, hown, hfz, hokr⟩ := HMR.out.secAt i _ hget
    obtain rfl : v' = .slice vo loose.length vcap := Option.some.inj (hv'.symm.trans HV.out)
    have HGET := hide hget
    clear hget hv'
    by_cases hjl : j < loose.length
    · have hvo : ∃ lg, vo = some ⟨lg, 0, none⟩ := by
        rcases hown.2 with ⟨e, e0⟩ | ⟨lg, lcap, cur, e, -⟩
        · simp only at e0; omega
        · simp only [Value.slice.injEq] at e
          exact ⟨lg, e.1⟩
      obtain ⟨lg, rfl⟩ := hvo
      have hpj : loose[j]? = some loose[j] := List.getElem?_eq_getElem hjl
      have hlen := (HOK.out.2 loose[j] (List.getElem_mem hjl)).1
      have HFO : Hid ((loose.take (j + 1)).foldl (keepOne keep) kept = keepOne keep ((loose.take j).foldl (keepOne keep) kept) loose[j]) := by
        show _ = _
        rw [List.take_succ_eq_append_getElem hjl, List.foldl_append]; rfl
      have hbit : wr.cell? ⟨lg, j * 65, none⟩ = some (.int .u64 loose[j].1) := owns_cell hown _ _ (by
        rw [show j * 65 = j * 65 + 0 by omega, wcells_at _ (fun p hp => (HOK.out.2 p hp).1) j _ hpj 0 (by omega)]; rfl)
      have hdat : ∀ x v, (loose[j].2.map byteC)[x]? = some v → wr.cell? ⟨lg, j * 65 + 1 + x, none⟩ = some v := fun x v hx => owns_cell hown _ _ (by
        have hx' : x < 64 := by have := (List.getElem?_eq_some_iff.1 hx).1; rw [List.length_map, hlen] at this; exact this
        rw [show j * 65 + 1 + x = j * 65 + (x + 1) by omega, wcells_at _ (fun p hp => (HOK.out.2 p hp).1) j _ hpj (x + 1) (by omega)]
        simpa [wcells] using hx)
      generalize loose[j] = p at *
      obtain ⟨bit, data⟩ := p
      simp only at hlen hbit hdat
      clear hpj hown
      by_cases hbk : bits .and .u64 bit keep = 0
      · have hg : (bits .and .u64 bit keep != 0) = false := by rw [bne_eq_false_iff_eq]; exact hbk
        have HMN : Hid (DiskM wr base B { D with secs := D.secs.set i ⟨(loose.take (j + 1)).foldl (keepOne keep) kept, loose⟩ } (.slice (some ⟨g, 0, none⟩) m cap) ls) := by
          have e : keepOne keep ((loose.take j).foldl (keepOne keep) kept) (bit, data) = (loose.take j).foldl (keepOne keep) kept := if_pos hbk
          rw [HFO.out, e]
          exact HMR.out
        clear hbk hdat hkb hokr HMR HFO
        go_wp2
        go_roundw
        case rel => exact ⟨j + 1, by omega, by go_num, HMN, HKR⟩
        case measure => simp [intOf]; omega
      · have hg : (bits .and .u64 bit keep != 0) = true := by rw [bne_iff_ne]; exact hbk
        have HN := hide (HMR.out.setKeptAt i _ HGET.out data hlen)
        have HLD := hide (run_loadA (P := Try.prog) wr 75 lg (j * 65 + 1) (data.map byteC) _ Try.underlying75 rfl (by rw [List.length_map, hlen]; kernel_rfl) hdat)
        have HST := hide (run_storeA (P := Try.prog) wr 75 g (i * 65) (data.map byteC) (by rw [List.length_map, hlen]; kernel_rfl) (fun v hv => by obtain ⟨b, -, rfl⟩ := List.mem_map.1 hv; rfl) (fun x hx => by rw [List.length_map, hlen] at hx; have hk := hokr.1; rw [hkb x (by omega)]; rfl) (fun x _ => hfz _))
        have HMN : Hid (DiskM (wr.setCells g (i * 65) (data.map byteC)) base B { D with secs := D.secs.set i ⟨(loose.take (j + 1)).foldl (keepOne keep) kept, loose⟩ } (.slice (some ⟨g, 0, none⟩) m cap) ls) := by
          have e : keepOne keep ((loose.take j).foldl (keepOne keep) kept) (bit, data) = data := if_neg hbk
          rw [HFO.out, e]
          have := HN.out.1
          simp only [List.set_set] at this
          exact this
        have HKN := hide (HKR.out.trans HN.out.2)
        clear hbk hdat hkb hokr HMR HFO HKR HN hlen
        go_wp2_with (first | refine wpList_loadA rfl 32 rfl (.tmp 31) 75 rfl ⟨lg, j * 65 + 1, none⟩ _ rfl HLD.out ?_ | refine wpList_storeA rfl (.tmp 34) (.tmp 32) 75 rfl rfl ⟨g, i * 65, none⟩ _ _ rfl rfl HST.out ?_)
        go_roundw
        case rel => exact ⟨j + 1, by omega, by go_num, HMN, HKN⟩
        case measure => simp [intOf]; omega
    · obtain rfl : j = loose.length := by omega
      rw [List.take_length] at HMR
      rw [List.take_length] at HGET
      have HN := hide (HMR.out.setLooseAt i _ HGET.out (.slice none 0 0) [] (World.ownsRow_nil _ _ _ _) (fun _ h => by cases h) (fun _ _ _ _ _ h => by cases h))
      have HMN : Hid (DiskM (wr.setCell ⟨g, i * 65 + 64, none⟩ (.slice none 0 0)) base B { D with secs := D.secs.set i (Sec.settled keep ⟨kept, loose⟩) } (.slice (some ⟨g, 0, none⟩) m cap) (ls.set i (.slice none 0 0))) := by
        have := HN.out.1
        simp only [List.set_set] at this
        exact this
      have HKN := hide (HKR.out.trans HN.out.2)
      have hf := hfz (i * 65 + 64)
      clear hkb hokr HMR HKR HN hown hfz HGET
      go_wp2
      exact bodyPost_end (results_none rfl _ _ _) rfl ⟨rfl, HMN.out, HKN.out⟩

end Go.Proofs.Ytjgodhfnnifchaa
