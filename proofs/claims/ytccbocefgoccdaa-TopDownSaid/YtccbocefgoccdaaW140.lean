
/- Walks: above by weights, as it is asked for. -/
import Derived.Test.YtccbocefgoccdaaW139
import Derived.Test.YtccbocefgoccdaaW137
namespace Go.Proofs.Ytccbocefgoccdaa
open Go.RowKit
set_option linter.unusedSimpArgs false
set_option linter.unusedVariables false
set_option maxRecDepth 8000

def WtS (S : List Tm) (a b : Tm) (ax : Option Addr) (cx : Nat) (ay : Option Addr) (cy : Nat) (w w6 w' : World) : Prop :=
  Blk w' w6.heap.size #[.string a.name, .slice ax a.args.length cx, .int .i64 (numT a S), .int .i64 (sizeL [a])] 83 ∧ Blk w' (w6.heap.size + 1) #[.string b.name, .slice ay b.args.length cy, .int .i64 (numT b S), .int .i64 (sizeL [b])] 83 ∧ Below w.heap.size w w'
theorem WtS.later {S : List Tm} {a b : Tm} {ax ay : Option Addr} {cx cy : Nat} {w w6 w1 w2 : World} (h : WtS S a b ax cx ay cy w w6 w1) (hb : Below w1.heap.size w1 w2) : WtS S a b ax cx ay cy w w6 w2 := ⟨h.1.below hb h.1.lt, h.2.1.below hb h.2.1.lt, h.2.2.trans (hb.mono h.2.2.size)⟩
/-- What is wrong with a row at a place. -/
def rowAt (row : List ByteArray) (k : Nat) : Int := if nameB (row.getD k ⟨#[]⟩) = false ∨ varB (row.getD k ⟨#[]⟩) = true then 1 else if inB (row.getD k ⟨#[]⟩) (row.take k) = true then 4 else 0
/-- What is wrong with a row. -/
def rowE (row : List ByteArray) : Int := if 40 < row.length then 3 else orI ((List.range row.length).map (rowAt row))
theorem rowAt_get {row : List ByteArray} {k : Nat} (h : k < row.length) : rowAt row k = if nameB row[k] = false ∨ varB row[k] = true then 1 else if inB row[k] (row.take k) = true then 4 else 0 := by
  have e : row.getD k ⟨#[]⟩ = row[k] := by simp [List.getD, h]
  unfold rowAt
  rw [e]
theorem rows_take {row : List ByteArray} {k : Nat} (h : k < row.length) (h0 : ∀ j < k, rowAt row j = 0) (hz : rowAt row k ≠ 0) : orI ((List.range row.length).map (rowAt row)) = rowAt row k := by
  have hl : k < ((List.range row.length).map (rowAt row)).length := by simpa using h
  have hg : ((List.range row.length).map (rowAt row))[k] = rowAt row k := by simp
  rw [← hg]
  refine orI_take hl (fun z hz' => ?_) (by rw [hg]; exact hz)
  rw [List.mem_iff_getElem] at hz'
  obtain ⟨j, hj, rfl⟩ := hz'
  simp at hj ⊢
  exact h0 j (by omega)
theorem rows_none {row : List ByteArray} (h0 : ∀ j < row.length, rowAt row j = 0) : orI ((List.range row.length).map (rowAt row)) = 0 := by
  refine orI_none fun z hz => ?_
  rw [List.mem_map] at hz
  obtain ⟨j, hj, rfl⟩ := hz
  exact h0 j (by simpa using hj)
theorem rowE_once {row : List ByteArray} (h : rowE row = 0) : OnceN row := by
  intro k hk hm
  unfold rowE at h
  split at h
  · cases h
  · have key : ∀ j, j < row.length → rowAt row j = 0 := by
      intro j
      induction j using Nat.strongRecOn with
      | ind j ih =>
        intro hj
        apply Classical.byContradiction
        intro hne
        rw [rows_take hj (fun i hi => ih i hi (by omega)) hne] at h
        exact hne h
    have h1 := key k hk
    rw [rowAt_get hk] at h1
    have hin : inB row[k] (row.take k) = true := by
      unfold inB
      rw [List.any_eq_true]
      exact ⟨_, hm, by simp⟩
    rw [hin] at h1
    split at h1
    · cases h1
    · simp at h1
theorem LV.take {α : Type} {f : α → Value} {w : World} {X : Nat → Prop} {a : Option Addr} {n c : Nat} {l : List α} (h : LV f w X (.slice a n c) l) (k : Nat) (hk : k ≤ l.length) : LV f w X (.slice a k c) (l.take k) := by
  obtain ⟨a2, c2, e, ⟨h1, h2⟩, h3⟩ := h
  simp at e
  obtain ⟨rfl, rfl, rfl⟩ := e
  have hl : (l.take k).length = k := by simp; omega
  refine ⟨a, c, by rw [hl], ⟨by omega, by omega⟩, ?_⟩
  rcases h3 with h3 | ⟨b, o, e, hx, h3⟩
  · exact Or.inl (by rw [h3]; simp)
  · exact Or.inr ⟨b, o, e, hx, fun i hi => by rw [List.getElem_take]; exact h3 i (by simp at hi; omega)⟩

def RcInv (row : List ByteArray) (w : World) (i : Value) (wr : World) : Prop := ∃ k n : Nat, k ≤ row.length ∧ i = .int .i64 (k : Int) ∧ wr = w.drewN n ∧ ∀ j < k, rowAt row j = 0
set_option maxHeartbeats 4000000 in
theorem oCheck_any (row : List ByteArray) (u : Value) (w : World) (X : Nat → Prop) (hu : LV Value.string w X u row) :
    Calls Try.prog 31 #[u] w fun e w' => e = .returned (.int .i64 (rowE row)) ∧ Below w.heap.size w w' := by
  have HU := hide hu
  obtain ⟨a, c, rfl, ⟨hl, hlc⟩, hu⟩ := hu
  by_cases h40 : 40 < row.length
  · have h40i : (40 : Int) < (row.length : Int) := by omega
    have HR : Hid (rowE row = 3) := by unfold Hid rowE; rw [if_pos h40]
    go_enter Try.func31, Try.ntmps31
    go_wp2_with fail
    go_ret
    exact ⟨by rw [HR.out]; rfl, Below.refl _ _⟩
  · have h40i : ¬ (40 : Int) < (row.length : Int) := by omega
    have HE : Hid (rowE row = orI ((List.range row.length).map (rowAt row))) := by unfold Hid rowE; rw [if_neg h40]
    go_enter Try.func31, Try.ntmps31
    go_wp2_with fail
    go_loopw [10] (fun i wr => RcInv row w i wr) (fun i wr => row.length - (intOf i).toNat)
    case atStart => exact ⟨0, 0, Nat.zero_le _, rfl, rfl, fun j h => by omega⟩
    case round =>
      obtain ⟨k, n, hk, rfl, hwr, h0⟩ := hrel
      have H0 := hide h0
      have HWR := hide hwr
      by_cases hlt : k < row.length
      · obtain ⟨b, o, rfl, hX, hc⟩ := hu.resolve_left (fun h => by rw [h] at hlt; simp at hlt)
        have d0 : wr.cell? ⟨b, o + k, none⟩ = some (.string row[k]) := by rw [hwr]; exact hc k hlt
        have hlti : (k : Int) < (row.length : Int) := by omega
        have hkc : (k : Int) ≤ (c : Int) := by omega
        have HRA := hide (rowAt_get hlt)
        have HLT := hide (HU.out.take k (by omega))
        have HI0 : Hid (LV Value.string wr X (.slice (some ⟨b, o, none⟩) k c) (row.take k)) := by unfold Hid; rw [hwr]; exact HLT.out
        have HIN := hide (fun (n : Nat) => show LV Value.string (wr.drewN n) X (.slice (some ⟨b, o, none⟩) k c) (row.take k) from HI0.out)
        clear h0 hc hwr
        cases hn : nameB row[k] with
        | false =>
          have HR : Hid (rowE row = 1) := by unfold Hid; rw [HE.out, rows_take hlt H0.out (by rw [HRA.out, if_pos (Or.inl hn)]; decide), HRA.out, if_pos (Or.inl hn)]
          go_wp2_with (go_at_call 49; refine (isName_any _ _).mono ?_; rintro e w' ⟨rfl, rfl⟩; rw [hn])
          go_ret
          exact ⟨by rw [HR.out]; rfl, by rw [HWR.out]; exact below_drewN (Below.refl _ _) _⟩
        | true =>
          cases hv : varB row[k] with
          | true =>
            have HR : Hid (rowE row = 1) := by unfold Hid; rw [HE.out, rows_take hlt H0.out (by rw [HRA.out, if_pos (Or.inr hv)]; decide), HRA.out, if_pos (Or.inr hv)]
            go_wp2_with (first | (go_at_call 49; refine (isName_any _ _).mono ?_; rintro e w' ⟨rfl, rfl⟩; rw [hn]) | (go_at_call 50; refine (isVariable_all _ _).mono ?_; rintro e w' ⟨rfl, rfl⟩; rw [hv]))
            go_ret
            exact ⟨by rw [HR.out]; rfl, by rw [HWR.out]; exact below_drewN (Below.refl _ _) _⟩
          | false =>
            have hno : ¬ (nameB row[k] = false ∨ varB row[k] = true) := by rw [hn, hv]; simp
            cases hi : inB row[k] (row.take k) with
            | true =>
              have HR : Hid (rowE row = 4) := by unfold Hid; rw [HE.out, rows_take hlt H0.out (by rw [HRA.out, if_neg hno, if_pos hi]; decide), HRA.out, if_neg hno, if_pos hi]
              go_wp2_with (first | (go_at_call 49; refine (isName_any _ _).mono ?_; rintro e w' ⟨rfl, rfl⟩; rw [hn]) | (go_at_call 50; refine (isVariable_all _ _).mono ?_; rintro e w' ⟨rfl, rfl⟩; rw [hv]) | (go_at_call 51; refine (contains_any _ _ _ _ X HI0.out).mono ?_; rintro e w' ⟨rfl, rfl⟩; rw [hi]))
              go_ret
              exact ⟨by rw [HR.out]; rfl, by rw [HWR.out]; exact below_drewN (Below.refl _ _) _⟩
            | false =>
              have HZ : Hid (rowAt row k = 0) := by unfold Hid; rw [HRA.out, if_neg hno, if_neg (by rw [hi]; simp)]
              go_wp2_with (first | (go_at_call 49; refine (isName_any _ _).mono ?_; rintro e w' ⟨rfl, rfl⟩; rw [hn]) | (go_at_call 50; refine (isVariable_all _ _).mono ?_; rintro e w' ⟨rfl, rfl⟩; rw [hv]) | (go_at_call 51; refine (contains_any _ _ _ _ X HI0.out).mono ?_; rintro e w' ⟨rfl, rfl⟩; rw [hi]))
              go_roundw
              case rel =>
                refine ⟨k + 1, _, by omega, by go_num, HWR.out, fun j hj => ?_⟩
                by_cases e : j = k
                · subst e; exact HZ.out
                · exact H0.out j (by omega)
              case measure => simp [intOf]; omega
      · have hkk : k = row.length := by omega
        clear hwr
        have HR : Hid (rowE row = 0) := by unfold Hid; rw [HE.out]; exact rows_none (by rw [← hkk]; exact H0.out)
        go_wp2_with fail
        go_ret
        exact ⟨by rw [HR.out]; rfl, by rw [HWR.out]; exact below_drewN (Below.refl _ _) _⟩
#print axioms oCheck_any
end Go.Proofs.Ytccbocefgoccdaa
