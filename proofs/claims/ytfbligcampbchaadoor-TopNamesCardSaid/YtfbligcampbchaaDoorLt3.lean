/- Walks: names from outside, by the program and by the document. -/
import Derived.Test.YtfbligcampbchaaDoorLt2
namespace Go.Proofs.YtfbligcampbchaaDoor
open Go.RowKit
set_option linter.unusedSimpArgs false
set_option linter.unusedVariables false
set_option maxRecDepth 8000

/-- Begins a text with x or c? -/
def xcB (s : ByteArray) : Bool := decide (byteAt s 0 = 120) || decide (byteAt s 0 = 99)
theorem name_posF {s : ByteArray} (h : nameB s = true) : 0 < s.size := by simp [nameB] at h; omega
def frI (l : List Int) : Int := (l.find? fun z => decide (z ≠ 0)).getD 0
theorem frI_take {l : List Int} {k : Nat} (hk : k < l.length) (h : ∀ z ∈ l.take k, z = 0) (hz : l[k] ≠ 0) : frI l = l[k] := by
  induction l generalizing k with
  | nil => simp at hk
  | cons x l ih =>
    cases k with
    | zero => simp only [List.getElem_cons_zero] at hz ⊢; simp [frI, hz]
    | succ k =>
      have hx : x = 0 := h x (by simp)
      subst hx
      have := ih (k := k) (by simpa using hk) (fun z hz' => h z (by simp [hz'])) (by simpa using hz)
      simp only [List.getElem_cons_succ]
      rw [← this]
      simp [frI]
theorem frI_none {l : List Int} (h : ∀ z ∈ l, z = 0) : frI l = 0 := by
  induction l with
  | nil => rfl
  | cons x l ih =>
    have hx : x = 0 := h x (by simp)
    subst hx
    have h1 := ih fun z hz => h z (by simp [hz])
    unfold frI at h1 ⊢
    rw [List.find?_cons_of_neg (by simp)]
    exact h1
/-- What is wrong with a row at a place. -/
def frAt (row : List ByteArray) (k : Nat) : Int := if nameB (row.getD k ⟨#[]⟩) = false ∨ xcB (row.getD k ⟨#[]⟩) = true then 1 else if inB (row.getD k ⟨#[]⟩) (row.take k) = true then 4 else 0
/-- What is wrong with a row. -/
def freE (row : List ByteArray) : Int := if 40 < row.length then 3 else frI ((List.range row.length).map (frAt row))
theorem frAt_get {row : List ByteArray} {k : Nat} (h : k < row.length) : frAt row k = if nameB row[k] = false ∨ xcB row[k] = true then 1 else if inB row[k] (row.take k) = true then 4 else 0 := by
  have e : row.getD k ⟨#[]⟩ = row[k] := by simp [List.getD, h]
  unfold frAt
  rw [e]
theorem fr_take {row : List ByteArray} {k : Nat} (h : k < row.length) (h0 : ∀ j < k, frAt row j = 0) (hz : frAt row k ≠ 0) : frI ((List.range row.length).map (frAt row)) = frAt row k := by
  have hl : k < ((List.range row.length).map (frAt row)).length := by simpa using h
  have hg : ((List.range row.length).map (frAt row))[k] = frAt row k := by simp
  rw [← hg]
  refine frI_take hl (fun z hz' => ?_) (by rw [hg]; exact hz)
  rw [List.mem_iff_getElem] at hz'
  obtain ⟨j, hj, rfl⟩ := hz'
  simp at hj ⊢
  exact h0 j (by omega)
theorem fr_none {row : List ByteArray} (h0 : ∀ j < row.length, frAt row j = 0) : frI ((List.range row.length).map (frAt row)) = 0 := by
  refine frI_none fun z hz => ?_
  rw [List.mem_map] at hz
  obtain ⟨j, hj, rfl⟩ := hz
  exact h0 j (by simpa using hj)
theorem freE_at {row : List ByteArray} (h : freE row = 0) : row.length ≤ 40 ∧ ∀ k, k < row.length → frAt row k = 0 := by
  unfold freE at h
  split at h
  · cases h
  · refine ⟨by omega, fun j => ?_⟩
    induction j using Nat.strongRecOn with
    | ind j ih =>
      intro hj
      apply Classical.byContradiction
      intro hne
      rw [fr_take hj (fun i hi => ih i hi (by omega)) hne] at h
      exact hne h
theorem freE_name {row : List ByteArray} (h : freE row = 0) {k : Nat} (hk : k < row.length) : nameB row[k] = true ∧ xcB row[k] = false ∧ inB row[k] (row.take k) = false := by
  have h1 := (freE_at h).2 k hk
  rw [frAt_get hk] at h1
  by_cases h2 : nameB row[k] = false ∨ xcB row[k] = true
  · rw [if_pos h2] at h1; cases h1
  · rw [if_neg h2] at h1
    by_cases h3 : inB row[k] (row.take k) = true
    · rw [if_pos h3] at h1; cases h1
    · exact ⟨by cases h4 : nameB row[k] with | true => rfl | false => exact absurd (Or.inl h4) h2, by cases h4 : xcB row[k] with | false => rfl | true => exact absurd (Or.inr h4) h2, by cases h4 : inB row[k] (row.take k) with | false => rfl | true => exact absurd h4 h3⟩
theorem LV.takeF {α : Type} {f : α → Value} {w : World} {X : Nat → Prop} {a : Option Addr} {n c : Nat} {l : List α} (h : LV f w X (.slice a n c) l) (k : Nat) (hk : k ≤ l.length) : LV f w X (.slice a k c) (l.take k) := by
  obtain ⟨a2, c2, e, ⟨h1, h2⟩, h3⟩ := h
  simp at e
  obtain ⟨rfl, rfl, rfl⟩ := e
  have hl : (l.take k).length = k := by simp; omega
  refine ⟨a, c, by rw [hl], ⟨by omega, by omega⟩, ?_⟩
  rcases h3 with h3 | ⟨b, o, e, hx, h3⟩
  · exact Or.inl (by rw [h3]; simp)
  · exact Or.inr ⟨b, o, e, hx, fun i hi => by rw [List.getElem_take]; exact h3 i (by simp at hi; omega)⟩

def FcInv (row : List ByteArray) (w : World) (i : Value) (wr : World) : Prop := ∃ k n : Nat, k ≤ row.length ∧ i = .int .i64 (k : Int) ∧ wr = w.drewN n ∧ ∀ j < k, frAt row j = 0
set_option maxHeartbeats 4000000 in
theorem lNames_any (row : List ByteArray) (u : Value) (w : World) (X : Nat → Prop) (hu : LV Value.string w X u row) :
    Calls Tryd.prog 12 #[u] w fun e w' => e = .returned (.int .i64 (freE row)) ∧ Below w.heap.size w w' := by
  have HU := hide hu
  obtain ⟨a, c, rfl, ⟨hl, hlc⟩, hu⟩ := hu
  by_cases h40 : 40 < row.length
  · have h40i : (40 : Int) < (row.length : Int) := by omega
    have HR : Hid (freE row = 3) := by unfold Hid freE; rw [if_pos h40]
    go_enter Tryd.func12, Tryd.ntmps12
    go_wp2_with fail
    go_ret
    exact ⟨by rw [HR.out]; rfl, Below.refl _ _⟩
  · have h40i : ¬ (40 : Int) < (row.length : Int) := by omega
    have HE : Hid (freE row = frI ((List.range row.length).map (frAt row))) := by unfold Hid freE; rw [if_neg h40]
    go_enter Tryd.func12, Tryd.ntmps12
    go_wp2_with fail
    go_loopw [10] (fun i wr => FcInv row w i wr) (fun i wr => row.length - (intOf i).toNat)
    case atStart => exact ⟨0, 0, Nat.zero_le _, rfl, rfl, fun j h => by omega⟩
    case round =>
      obtain ⟨k, n, hk, rfl, hwr, h0⟩ := hrel
      have H0 := hide h0
      have HWR := hide hwr
      by_cases hlt : k < row.length
      · obtain ⟨b, o, rfl, hX, hc⟩ := hu.resolve_left (fun h => by rw [h] at hlt; simp at hlt)
        have d0 : wr.cell? ⟨b, o + k, none⟩ = some (.string row[k]) := by rw [hwr]; exact hc k hlt
        have hlti : (k : Int) < (row.length : Int) := by omega
        have hkc : (k : Int) ≤ (c : Int) := by omega
        have HRA := hide (frAt_get hlt)
        have HLT := hide (HU.out.takeF k (by omega))
        have HI0 : Hid (LV Value.string wr X (.slice (some ⟨b, o, none⟩) k c) (row.take k)) := by unfold Hid; rw [hwr]; exact HLT.out
        have HIN := hide (fun (n : Nat) => show LV Value.string (wr.drewN n) X (.slice (some ⟨b, o, none⟩) k c) (row.take k) from HI0.out)
        clear h0 hc hwr
        cases hn : nameB row[k] with
        | false =>
          have HR : Hid (freE row = 1) := by unfold Hid; rw [HE.out, fr_take hlt H0.out (by rw [HRA.out, if_pos (Or.inl hn)]; decide), HRA.out, if_pos (Or.inl hn)]
          go_wp2_with (go_at_call 25; refine (isName_any _ _).mono ?_; rintro e w' ⟨rfl, rfl⟩; rw [hn])
          go_ret
          exact ⟨by rw [HR.out]; rfl, by rw [HWR.out]; exact below_drewN (Below.refl _ _) _⟩
        | true =>
          have hp := name_posF hn
          have he := isEmpty_pos hp
          have hbx := hide (byteAt_of hp)
          have hbd := byte_bd row[k] 0
          have hxc : xcB row[k] = (decide (((row[k])[0].toNat : Int) = 120) || decide (((row[k])[0].toNat : Int) = 99)) := by unfold xcB; rw [hbx.out]
          cases hv : xcB row[k] with
          | true =>
            rw [hv] at hxc
            by_cases h120 : ((row[k])[0].toNat : Int) = 120
            · have g1 : (((row[k])[0].toNat : Int) == 120) = true := by simpa using h120
              clear hxc h120
              have HR : Hid (freE row = 1) := by unfold Hid; rw [HE.out, fr_take hlt H0.out (by rw [HRA.out, if_pos (Or.inr hv)]; decide), HRA.out, if_pos (Or.inr hv)]
              go_wp2_with (first | (go_at_call 25; refine (isName_any _ _).mono ?_; rintro e w' ⟨rfl, rfl⟩; rw [hn]) | fail)
              go_ret
              exact ⟨by rw [HR.out]; rfl, by rw [HWR.out]; exact below_drewN (Below.refl _ _) _⟩
            · have g1 : (((row[k])[0].toNat : Int) == 120) = false := by simpa using h120
              have g2 : (((row[k])[0].toNat : Int) == 99) = true := by simpa [h120] using hxc
              clear hxc h120
              have HR : Hid (freE row = 1) := by unfold Hid; rw [HE.out, fr_take hlt H0.out (by rw [HRA.out, if_pos (Or.inr hv)]; decide), HRA.out, if_pos (Or.inr hv)]
              go_wp2_with (first | (go_at_call 25; refine (isName_any _ _).mono ?_; rintro e w' ⟨rfl, rfl⟩; rw [hn]) | fail)
              go_ret
              exact ⟨by rw [HR.out]; rfl, by rw [HWR.out]; exact below_drewN (Below.refl _ _) _⟩
          | false =>
            rw [hv] at hxc
            have g1 : (((row[k])[0].toNat : Int) == 120) = false := by simp at hxc ⊢; exact hxc.1
            have g2 : (((row[k])[0].toNat : Int) == 99) = false := by simp at hxc ⊢; exact hxc.2
            clear hxc
            have hno : ¬ (nameB row[k] = false ∨ xcB row[k] = true) := by rw [hn, hv]; simp
            cases hi : inB row[k] (row.take k) with
            | true =>
              have HR : Hid (freE row = 4) := by unfold Hid; rw [HE.out, fr_take hlt H0.out (by rw [HRA.out, if_neg hno, if_pos hi]; decide), HRA.out, if_neg hno, if_pos hi]
              go_wp2_with (first | (go_at_call 25; refine (isName_any _ _).mono ?_; rintro e w' ⟨rfl, rfl⟩; rw [hn]) | fail | (go_at_call 26; refine (contains_any _ _ _ _ X HI0.out).mono ?_; rintro e w' ⟨rfl, rfl⟩; rw [hi]))
              go_ret
              exact ⟨by rw [HR.out]; rfl, by rw [HWR.out]; exact below_drewN (Below.refl _ _) _⟩
            | false =>
              have HZ : Hid (frAt row k = 0) := by unfold Hid; rw [HRA.out, if_neg hno, if_neg (by rw [hi]; simp)]
              go_wp2_with (first | (go_at_call 25; refine (isName_any _ _).mono ?_; rintro e w' ⟨rfl, rfl⟩; rw [hn]) | fail | (go_at_call 26; refine (contains_any _ _ _ _ X HI0.out).mono ?_; rintro e w' ⟨rfl, rfl⟩; rw [hi]))
              go_roundw
              case rel =>
                refine ⟨k + 1, _, by omega, by go_num, HWR.out, fun j hj => ?_⟩
                by_cases e : j = k
                · subst e; exact HZ.out
                · exact H0.out j (by omega)
              case measure => simp [intOf]; omega
      · have hkk : k = row.length := by omega
        clear hwr
        have HR : Hid (freE row = 0) := by unfold Hid; rw [HE.out]; exact fr_none (by rw [← hkk]; exact H0.out)
        go_wp2_with fail
        go_ret
        exact ⟨by rw [HR.out]; rfl, by rw [HWR.out]; exact below_drewN (Below.refl _ _) _⟩
end Go.Proofs.YtfbligcampbchaaDoor
