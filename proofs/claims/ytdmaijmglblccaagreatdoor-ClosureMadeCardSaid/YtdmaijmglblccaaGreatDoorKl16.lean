/- Walks: two rows of texts compared (slices.Compare, cmp.Compare). -/
import Derived.Test.YtdmaijmglblccaaGreatDoorKl15
import Derived.Test.YtdmaijmglblccaaGreatDoorZBClosureMadeOwn
namespace Go.Proofs.YtdmaijmglblccaaGreatDoor
open Go.RowKit
set_option linter.unusedSimpArgs false
set_option linter.unusedVariables false
set_option maxRecDepth 8000

def cmS (a b : ByteArray) : Int := if ltB a b = true then -1 else if a = b then 0 else 1
def cmR : List ByteArray → List ByteArray → Int
  | [], [] => 0
  | [], _ :: _ => -1
  | _ :: _, [] => 1
  | a :: r, b :: q => if cmS a b = 0 then cmR r q else cmS a b
theorem isNaNs_any (a : ByteArray) (w : World) : Calls Tryz.prog 100 #[.string a] w fun e w' => e = .returned (.bool false) ∧ w' = w := by
  go_enter Tryz.func100, Tryz.ntmps100
  go_wp2_with fail
  go_ret
  exact ⟨by simp, rfl⟩
set_option maxHeartbeats 1000000 in
theorem cmpS_any (a b : ByteArray) (w : World) : Calls Tryz.prog 70 #[.string a, .string b] w fun e w' => e = .returned (.int .i64 (cmS a b)) ∧ w' = w := by
  have h1 : ltB a b = Op.bytesLess a.toList b.toList := rfl
  have h2 : ltB b a = Op.bytesLess b.toList a.toList := rfl
  go_enter Tryz.func70, Tryz.ntmps70
  go_wp2_with fail
  refine (isNaNs_any a w).mono ?_
  rintro e w1 ⟨rfl, rfl⟩
  go_wp2_with fail
  refine (isNaNs_any b w1).mono ?_
  rintro e w2 ⟨rfl, rfl⟩
  cases ha : ltB a b with
  | true =>
    have hr : cmS a b = -1 := by unfold cmS; rw [if_pos ha]
    rw [h1] at ha
    go_wp2_with fail
    go_ret
    exact ⟨by rw [hr]; rfl, rfl⟩
  | false =>
    by_cases hb : a = b
    · have hr : cmS a b = 0 := by unfold cmS; rw [if_neg (by rw [ha]; simp), if_pos hb]
      have he : (a.toList == b.toList) = true := by rw [hb]; simp
      rw [h1] at ha
      clear hb
      go_wp2_with fail
      go_ret
      exact ⟨by rw [hr]; rfl, rfl⟩
    · have hr : cmS a b = 1 := by unfold cmS; rw [if_neg (by rw [ha]; simp), if_neg hb]
      have he : (a.toList == b.toList) = false := by
        simp only [beq_eq_false_iff_ne]
        intro e
        exact hb (bytes_inj e)
      rw [h1] at ha
      clear hb
      go_wp2_with fail
      go_ret
      exact ⟨by rw [hr]; rfl, rfl⟩
theorem cmR_drop1 {l m : List ByteArray} {k : Nat} (h1 : k < l.length) (h2 : m.length ≤ k) : cmR (l.drop k) (m.drop k) = 1 := by
  rw [List.drop_eq_getElem_cons h1, List.drop_of_length_le h2]; rfl
theorem cmR_drop2 {l m : List ByteArray} {k : Nat} (h1 : k < l.length) (h2 : k < m.length) : cmR (l.drop k) (m.drop k) = if cmS l[k] m[k] = 0 then cmR (l.drop (k + 1)) (m.drop (k + 1)) else cmS l[k] m[k] := by
  rw [List.drop_eq_getElem_cons h1, List.drop_eq_getElem_cons h2]; rfl
theorem cmR_drop3 {l m : List ByteArray} {k : Nat} (h1 : l.length ≤ k) (h2 : k < m.length) : cmR (l.drop k) (m.drop k) = -1 := by
  rw [List.drop_of_length_le h1, List.drop_eq_getElem_cons h2]; rfl
theorem cmR_drop4 {l m : List ByteArray} {k : Nat} (h1 : l.length ≤ k) (h2 : m.length ≤ k) : cmR (l.drop k) (m.drop k) = 0 := by
  rw [List.drop_of_length_le h1, List.drop_of_length_le h2]; rfl
/-- A row of texts as it lies. -/
def Stx (w : World) (v : Value) (l : List ByteArray) : Prop := ∃ g c, v = .slice (some ⟨g, 0, none⟩) l.length c ∧ g < w.heap.size ∧ l.length ≤ 1000000 ∧ ∀ j (h : j < l.length), w.cell? ⟨g, j, none⟩ = some (.string l[j])
set_option maxHeartbeats 1000000 in
theorem cmpR_any (l m : List ByteArray) (u v : Value) (w : World) (hu : Stx w u l) (hv : Stx w v m) : Calls Tryz.prog 51 #[u, v] w fun e w' => e = .returned (.int .i64 (cmR l m)) ∧ w' = w := by
  obtain ⟨g1, c1, rfl, _, hl1, hc1⟩ := hu
  obtain ⟨g2, c2, rfl, _, hl2, hc2⟩ := hv
  have HC1 := hide hc1
  have HC2 := hide hc2
  clear hc1 hc2
  go_enter Tryz.func51, Tryz.ntmps51
  go_wp2_with fail
  go_loop [11] (fun i => ∃ k : Nat, k ≤ l.length ∧ k ≤ m.length ∧ i = .int .i64 (k : Int) ∧ cmR l m = cmR (l.drop k) (m.drop k)) (fun i => l.length - (intOf i).toNat)
  case atStart => exact ⟨0, Nat.zero_le _, Nat.zero_le _, rfl, by simp⟩
  case round =>
    obtain ⟨k, hk, hkm, rfl, hr⟩ := hrel
    have HR := hide hr
    clear hr
    by_cases hlt : k < l.length
    · have hki : (k : Int) < (l.length : Int) := by omega
      have e1 := HC1.out k hlt
      by_cases hm : k < m.length
      · have hmi : (k : Int) < (m.length : Int) := by omega
        have hmj : ¬ (m.length : Int) ≤ (k : Int) := by omega
        have e2 := HC2.out k hm
        have HS := hide (HR.out.trans (cmR_drop2 hlt hm))
        go_wp2_with fail
        refine (cmpS_any l[k] m[k] w).mono ?_
        rintro e w1 ⟨rfl, rfl⟩
        by_cases hz : cmS l[k] m[k] = 0
        · have HS2 : Hid (cmR l m = cmR (l.drop (k + 1)) (m.drop (k + 1))) := by unfold Hid; rw [HS.out, if_pos hz]
          rw [hz]
          clear hz
          go_wp2_with fail
          go_round
          case rel => exact ⟨k + 1, by omega, by omega, by go_num, HS2.out⟩
          case measure => simp [intOf]; omega
        · have HS2 : Hid (cmR l m = cmS l[k] m[k]) := by unfold Hid; rw [HS.out, if_neg hz]
          have hne : (cmS l[k] m[k] != 0) = true := by simp [hz]
          clear hz
          generalize cmS l[k] m[k] = x at *
          go_wp2_with fail
          go_ret
          exact ⟨by rw [HS2.out]; rfl, rfl⟩
      · have hmi : (m.length : Int) ≤ (k : Int) := by omega
        have HS := hide (HR.out.trans (cmR_drop1 hlt (by omega)))
        go_wp2_with fail
        go_ret
        exact ⟨by rw [HS.out]; rfl, rfl⟩
    · have hki : ¬ (k : Int) < (l.length : Int) := by omega
      by_cases hm : k < m.length
      · have hmi : (l.length : Int) < (m.length : Int) := by omega
        have HS := hide (HR.out.trans (cmR_drop3 (by omega) hm))
        go_wp2_with fail
        go_ret
        exact ⟨by rw [HS.out]; rfl, rfl⟩
      · have hmi : ¬ (l.length : Int) < (m.length : Int) := by omega
        have HS := hide (HR.out.trans (cmR_drop4 (by omega) (by omega)))
        go_wp2_with fail
        go_ret
        exact ⟨by rw [HS.out]; rfl, rfl⟩
end Go.Proofs.YtdmaijmglblccaaGreatDoor
