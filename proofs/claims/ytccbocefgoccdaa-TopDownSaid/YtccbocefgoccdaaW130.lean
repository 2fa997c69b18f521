/- Walks: ranks in a map; how two symbols compare. -/
import Derived.Test.YtccbocefgoccdaaOr5
import Derived.Test.YtccbocefgoccdaaIm
import Derived.Test.YtccbocefgoccdaaZTopDownOwn
import Derived.Test.YtccbocefgoccdaaZBTopDownOwn
namespace Go.Proofs.Ytccbocefgoccdaa
open Go.RowKit
set_option linter.unusedSimpArgs false
set_option linter.unusedVariables false
set_option maxRecDepth 8000

/-- No name twice. -/
def OnceN (row : List ByteArray) : Prop := ∀ k (h : k < row.length), row[k] ∉ row.take k
def RkInv (w : World) (row : List ByteArray) (v : Value) (wr : World) : Prop := ∃ k : Nat, v = .int .i64 (k : Int) ∧ k ≤ row.length ∧ MapAt wr w.heap.size (rkL 0 (row.take k)) ∧ Below w.heap.size w wr

set_option maxHeartbeats 1000000 in
theorem ranksOf_any (row : List ByteArray) (ho : OnceN row) (u : Value) (w : World) (X : Nat → Prop) (hu : LV Value.string w X u row) :
    Calls Try.prog 33 #[u] w fun e w' => e = .returned (.map (some w.heap.size)) ∧ MapAt w' w.heap.size (rkL 0 row) ∧ Below w.heap.size w w' := by
  obtain ⟨a, c, rfl, ⟨hl, _⟩, hu⟩ := hu
  have hmm := @run_makeMap Try.prog
  go_enter Try.func33, Try.ntmps33
  go_wp2_with fail
  go_loopw [9] (fun v wr => RkInv w row v wr) (fun v wr => row.length - (intOf v).toNat)
  case atStart => exact ⟨0, rfl, Nat.zero_le _, MapAt.new w, (Below.refl _ _).alloc (Nat.le_refl _) _⟩
  case round =>
    obtain ⟨k, rfl, hk, hM, hb⟩ := hrel
    by_cases hlt : k < row.length
    · obtain ⟨b, o, rfl, hX, hc⟩ := hu.resolve_left (fun h => by rw [h] at hlt; simp at hlt)
      have hlt2 : (k : Int) < (row.length : Int) := by omega
      have d0 : wr.cell? ⟨b, o + k, none⟩ = some (.string row[k]) := by
        have h1 := hc k hlt
        have h2 := cell_lt h1
        rw [← h1]; exact hb.cell (p := ⟨b, o + k, none⟩) h2
      have hno : mapGet (rkL 0 (row.take k)) row[k] = none := by rw [rkL_get, rank_none (ho k hlt)]; rfl
      have htk : rkL 0 (row.take (k + 1)) = rkL 0 (row.take k) ++ [(row[k], .int .i64 ((k : Int) + 1))] := by
        rw [List.take_succ_eq_append_getElem hlt, rkL_push]
        simp [List.length_take, Nat.min_eq_left (Nat.le_of_lt hlt)]
      have HTK := hide htk
      clear htk hc
      generalize row[k] = d at *
      obtain ⟨w2, hrun, hM2, hz2, ho2, ht2, hu2, hk2⟩ := run_put (P := Try.prog) Try.underlying76 Try.underlying9 hM d (.int .i64 ((k : Int) + 1)) hno
      have HM2 := hide hM2
      have HB2 : Hid (Below w.heap.size w w2) := ⟨ho2.trans hb.os, ht2.trans hb.tape, hu2.trans hb.output, by rw [hz2]; exact hb.size, fun j hj => (hk2 j (by omega)).trans (hb.block j hj)⟩
      clear hM2 hz2 ho2 ht2 hu2 hk2 hno hM hb
      go_wp2_with fail
      go_roundw
      case rel => exact ⟨k + 1, by go_num, by omega, by rw [HTK.out]; exact HM2.out, HB2.out⟩
      case measure => simp [intOf]; omega
    · have htk : row.take k = row := List.take_of_length_le (by omega)
      rw [htk] at hM
      go_wp2_with fail
      go_ret
      exact ⟨rfl, hM, hb⟩

theorem isNaNI_any (a : Int) (w : World) : Calls Try.prog 97 #[.int .i64 a] w fun e w' => e = .returned (.bool false) ∧ w' = w := by
  go_enter Try.func97, Try.ntmps97
  go_wp2_with fail
  go_ret
  exact ⟨by simp, rfl⟩
theorem compareI_any (a b : Int) (w : World) : Calls Try.prog 92 #[.int .i64 a, .int .i64 b] w fun e w' => e = .returned (.int .i64 (cmpI a b)) ∧ w' = w := by
  by_cases h1 : a < b
  · have HN : Hid (cmpI a b = -1) := by unfold Hid cmpI; rw [if_pos h1]
    go_enter Try.func92, Try.ntmps92
    go_wp2_with (go_at_call 97; refine (isNaNI_any _ _).mono ?_; rintro e w' ⟨rfl, rfl⟩)
    go_ret
    exact ⟨by rw [HN.out]; rfl, rfl⟩
  · by_cases h2 : b < a
    · have HN : Hid (cmpI a b = 1) := by unfold Hid cmpI; rw [if_neg h1, if_pos h2]
      go_enter Try.func92, Try.ntmps92
      go_wp2_with (go_at_call 97; refine (isNaNI_any _ _).mono ?_; rintro e w' ⟨rfl, rfl⟩)
      go_ret
      exact ⟨by rw [HN.out]; rfl, rfl⟩
    · have HN : Hid (cmpI a b = 0) := by unfold Hid cmpI; rw [if_neg h1, if_neg h2]
      go_enter Try.func92, Try.ntmps92
      go_wp2_with (go_at_call 97; refine (isNaNI_any _ _).mono ?_; rintro e w' ⟨rfl, rfl⟩)
      go_ret
      exact ⟨by rw [HN.out]; rfl, rfl⟩

/-- The first that isn't 0. -/
def orI (l : List Int) : Int := (l.find? fun z => decide (z ≠ 0)).getD 0
theorem orI_take {l : List Int} {k : Nat} (hk : k < l.length) (h : ∀ z ∈ l.take k, z = 0) (hz : l[k] ≠ 0) : orI l = l[k] := by
  induction l generalizing k with
  | nil => simp at hk
  | cons x l ih =>
    cases k with
    | zero => simp only [List.getElem_cons_zero] at hz ⊢; simp [orI, hz]
    | succ k =>
      have hx : x = 0 := h x (by simp)
      subst hx
      have := ih (k := k) (by simpa using hk) (fun z hz' => h z (by simp [hz'])) (by simpa using hz)
      simp only [List.getElem_cons_succ]
      rw [← this]
      simp [orI]
theorem orI_none {l : List Int} (h : ∀ z ∈ l, z = 0) : orI l = 0 := by
  induction l with
  | nil => rfl
  | cons x l ih =>
    have hx : x = 0 := h x (by simp)
    subst hx
    have h1 := ih fun z hz => h z (by simp [hz])
    unfold orI at h1 ⊢
    rw [List.find?_cons_of_neg (by simp)]
    exact h1
set_option maxHeartbeats 1000000 in
theorem or_any (l : List Int) (v : Value) (w : World) (X : Nat → Prop) (hv : LV (fun z => .int .i64 z) w X v l) :
    Calls Try.prog 91 #[v] w fun e w' => e = .returned (.int .i64 (orI l)) ∧ Below w.heap.size w w' := by
  obtain ⟨a, c, rfl, ⟨hl, _⟩, hu⟩ := hv
  go_enter Try.func91, Try.ntmps91
  go_wp2_with fail
  go_loopw [8] (fun i wr => ∃ k n : Nat, k ≤ l.length ∧ i = .int .i64 k ∧ wr = w.drewN n ∧ ∀ z ∈ l.take k, z = 0) (fun i wr => l.length - (intOf i).toNat)
  case atStart => exact ⟨0, 0, Nat.zero_le _, rfl, rfl, by simp⟩
  case round =>
    obtain ⟨k, n, hk, rfl, rfl, hz⟩ := hrel
    by_cases hlt : k < l.length
    · obtain ⟨b, o, rfl, hX, hc⟩ := hu.resolve_left (fun h => by rw [h] at hlt; simp at hlt)
      have d0 : (w.drewN n).cell? ⟨b, o + k, none⟩ = some (.int .i64 l[k]) := hc k hlt
      have hlt2 : (k : Int) < (l.length : Int) := by omega
      by_cases h0 : l[k] = 0
      · have htk : ∀ z ∈ l.take (k + 1), z = 0 := by
          rw [List.take_succ_eq_append_getElem hlt, h0]
          intro z hz'
          rw [List.mem_append] at hz'
          rcases hz' with h | h
          · exact hz z h
          · simpa using h
        have HTK := hide htk
        clear htk hc
        rw [h0] at d0
        go_wp2_with fail
        go_roundw
        case rel => exact ⟨k + 1, _, by omega, by go_num, rfl, HTK.out⟩
        case measure => simp [intOf]; omega
      · have HO := hide (orI_take hlt hz h0)
        have h0' : (l[k] == 0) = false := by simpa using h0
        clear hc
        go_wp2_with fail
        go_ret
        exact ⟨by rw [HO.out]; rfl, below_drewN (Below.refl _ _) _⟩
    · have htk : l.take k = l := List.take_of_length_le (by omega)
      rw [htk] at hz
      have HO := hide (orI_none hz)
      go_wp2_with fail
      go_ret
      exact ⟨by rw [HO.out]; rfl, below_drewN (Below.refl _ _) _⟩
#print axioms ranksOf_any
#print axioms compareI_any
#print axioms or_any
end Go.Proofs.Ytccbocefgoccdaa
