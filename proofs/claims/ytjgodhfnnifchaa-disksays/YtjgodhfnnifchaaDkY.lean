/- The other disk: what is read; are two answers alike? -/
import Derived.Test.YtjgodhfnnifchaaDkX
namespace Go.Proofs.Ytjgodhfnnifchaa
open Go.RowKit

theorem Try.asErrno (v : Value) (w : World) : (Instr.typeAssert (.iface 71 v) 27 71 true).run Try.prog w = .ok (.tuple #[v, .bool true]) w := by kernel_rfl

set_option maxRecDepth 100000 in
theorem same_errno (n : Int) (hn : 0 < n) (w : World) :
    Calls Try.prog 11 #[errno n, .int .i64 n] w fun e w' => e = .returned (.bool true) ∧ w' = w := by
  have has := Try.asErrno
  have e1 : decide (0 < n) = true := decide_eq_true hn
  go_enter Try.func11, Try.ntmps11
  go_wp2
  go_ret
  exact ⟨by simp, rfl⟩

set_option maxRecDepth 100000 in
theorem same_nil (w : World) :
    Calls Try.prog 11 #[.nilIface, .int .i64 0] w fun e w' => e = .returned (.bool true) ∧ w' = w := by
  go_enter Try.func11, Try.ntmps11
  go_wp2
  go_ret
  exact ⟨rfl, rfl⟩

/-- An error's number. -/
def ErrN (v : Value) (f : Int) : Prop := (v = .nilIface ∧ f = 0) ∨ (v = errno f ∧ 0 < f)

theorem same_any (v : Value) (f : Int) (h : ErrN v f) (w : World) : Calls Try.prog 11 #[v, .int .i64 f] w fun e w' => e = .returned (.bool true) ∧ w' = w := by
  rcases h with ⟨rfl, rfl⟩ | ⟨rfl, h⟩
  · exact same_nil w
  · exact same_errno f h w

/-- What Read answers. -/
def RD.readS (R : RD) (at' : Int) : List UInt8 := if R.down = false ∧ 0 ≤ at' ∧ at' < R.now.length then R.now.getD at'.toNat [] else []

def RD.readF (R : RD) (at' : Int) : Int := if R.down = true then 9 else if 0 ≤ at' ∧ at' < R.now.length then 0 else 1

theorem RefM.shapeN {W : World} {base B : Nat} {R : RD} {kv nv wv : Value} (h : RefM W base B R kv nv wv) : ∃ so cap, nv = .slice so R.now.length cap ∧ R.now.length ≤ cap ∧ ∀ i l, R.now[i]? = some l → ∃ g, so = some ⟨g, 0, none⟩ ∧ W.cell? ⟨g, i, none⟩ = some (strC l) := by
  have ho := h.ownN
  rcases h.ownN.2 with ⟨rfl, e⟩ | ⟨g, cap, cur, rfl, -, -, hc, -⟩
  · refine ⟨none, 0, by rw [e], by omega, fun i l hl => ?_⟩
    have := (List.getElem?_eq_some_iff.1 hl).1
    omega
  · exact ⟨_, _, rfl, hc, fun i l hl => ⟨g, rfl, owns_cell ho i _ (by rw [List.getElem?_map, hl]; rfl)⟩⟩

set_option maxRecDepth 100000 in
set_option maxHeartbeats 1600000 in
theorem read_ref (w : World) (base B : Nat) (R : RD) (at' : Int) (h : RefO w base B R) :
    Calls Try.prog 16 #[.pointer (some ⟨B, 0, none⟩), .int .i64 at'] w fun e w' => e = .returned (.tuple #[strC (R.readS at'), .int .i64 (R.readF at')]) ∧ w' = w := by
  obtain ⟨kv, nv, wv, h⟩ := h
  obtain ⟨so, cap, rfl, hcap, hcell⟩ := h.shapeN
  obtain ⟨-, c1, -, -, c4, -⟩ := h.cells
  clear h
  unfold RD.readS RD.readF
  by_cases hd : R.down = true
  · rw [if_neg (by rw [hd]; exact fun h => absurd h.1 (by decide)), if_pos hd]
    rw [hd] at c4
    go_enter Try.func16, Try.ntmps16
    go_wp2
    exact bodyPost_ret (v := .tuple #[strC [], .int .i64 9]) (by simp [strC, results, Try.results16, go_sem]) rfl ⟨rfl, rfl⟩
  · have hd' : R.down = false := by simpa using hd
    rw [if_neg hd]
    rw [hd'] at c4
    by_cases h0 : 0 ≤ at'
    · have g0 : decide (at' < 0) = false := decide_eq_false (by omega)
      by_cases h1 : at' < R.now.length
      · have g1 : decide ((R.now.length : Int) ≤ at') = false := decide_eq_false (by omega)
        rw [if_pos ⟨hd', h0, h1⟩, if_pos ⟨h0, h1⟩]
        obtain ⟨i, rfl⟩ := Int.eq_ofNat_of_zero_le h0
        have hlt : i < R.now.length := by omega
        obtain ⟨g, rfl, c⟩ := hcell i _ (List.getElem?_eq_getElem hlt)
        rw [Int.toNat_natCast, List.getD_eq_getElem?_getD, List.getElem?_eq_getElem hlt]
        show Calls _ _ _ _ fun e w' => e = .returned (.tuple #[strC R.now[i], .int .i64 0]) ∧ w' = w
        clear hcell
        generalize R.now[i] = l at *
        go_enter Try.func16, Try.ntmps16
        go_wp2
        exact bodyPost_ret (v := .tuple #[strC l, .int .i64 0]) (by simp [results, Try.results16, go_sem]) rfl ⟨rfl, rfl⟩
      · have g1 : decide ((R.now.length : Int) ≤ at') = true := decide_eq_true (by omega)
        rw [if_neg (fun h => h1 h.2.2), if_neg (fun h => h1 h.2)]
        go_enter Try.func16, Try.ntmps16
        go_wp2
        exact bodyPost_ret (v := .tuple #[strC [], .int .i64 1]) (by simp [strC, results, Try.results16, go_sem]) rfl ⟨rfl, rfl⟩
    · have g0 : decide (at' < 0) = true := decide_eq_true (by omega)
      rw [if_neg (fun h => h0 h.2.1), if_neg (fun h => h0 h.1)]
      go_enter Try.func16, Try.ntmps16
      go_wp2
      exact bodyPost_ret (v := .tuple #[strC [], .int .i64 1]) (by simp [strC, results, Try.results16, go_sem]) rfl ⟨rfl, rfl⟩

/-- Both read alike. -/
theorem Tied.read {D : Dsk} {R : RD} (h : Tied D R) (at' : Int) : R.readS at' = readS D at' ∧ ErrN (D.readErr at') (R.readF at') := by
  unfold RD.readS readS Dsk.readErr RD.readF
  rw [h.down, h.lenN]
  constructor
  · by_cases hc : D.down = false ∧ 0 ≤ at' ∧ at' < D.secs.length
    · rw [if_pos hc, if_pos hc]
      have hlt : at'.toNat < D.secs.length := by omega
      have e := (h.sec _ _ (List.getElem?_eq_getElem hlt)).2.1
      rw [List.getD_eq_getElem?_getD, e, List.getD_eq_getElem?_getD, List.getElem?_eq_getElem hlt]
      rfl
    · rw [if_neg hc, if_neg hc]
  · by_cases hd : D.down = true
    · rw [if_pos hd, if_pos hd]
      exact .inr ⟨rfl, by decide⟩
    · rw [if_neg hd, if_neg hd]
      by_cases hb : 0 ≤ at' ∧ at' < D.secs.length
      · rw [if_pos hb, if_pos hb]
        exact .inl ⟨rfl, rfl⟩
      · rw [if_neg hb, if_neg hb]
        exact .inr ⟨rfl, by decide⟩

end Go.Proofs.Ytjgodhfnnifchaa
