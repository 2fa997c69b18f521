/- Walks: whether two lambda terms are the same; whether one is a number. -/
import Derived.Test.YtfkjejpfhflanaaGreatDoorL11
import Derived.Test.YtfkjejpfhflanaaGreatDoorZETopWithoutOwn
namespace Go.Proofs.YtfkjejpfhflanaaGreatDoor
open Go.RowKit
set_option linter.unusedSimpArgs false
set_option linter.unusedVariables false
set_option maxRecDepth 8000

set_option maxHeartbeats 2000000 in
theorem sameG_any (t : Lm) : ∀ (s : Lm) (v u : Value) (w : World) (X Y : Nat → Prop), MV w X v t → MV w Y u s →
    Calls Tryz.prog 13 #[v, u] w fun e w' => ∃ q : Bool, e = .returned (.bool q) ∧ (q = true ↔ t = s) ∧ Below w.heap.size w w' := by
  induction t using Lm.ind with
  | h kd ix l ih =>
    intro s v u w X Y hv hu
    have IH := hide ih
    clear ih
    obtain ⟨kd2, ix2, l2⟩ := s
    obtain ⟨a, c, rfl, hs⟩ := hv
    obtain ⟨a2, c2, rfl, hs2⟩ := hu
    dsimp only at hs hs2 ⊢
    have hl := hs.1
    have hl2' := hs2.1
    have HB2 : Hid (Below w.heap.size w ((w.alloc (.cells #[.int .i64 kd, .int .i64 ix, .slice a l.length c] 25)).alloc (.cells #[.int .i64 kd2, .int .i64 ix2, .slice a2 l2.length c2] 25))) := below2M _ _
    by_cases h1 : kd = kd2
    case neg =>
      have e1 : (kd == kd2) = false := beq_eq_false_iff_ne.2 h1
      have e2 : (kd != kd2) = true := by simp [bne, e1]
      have HN : Hid ((⟨kd, ix, l⟩ : Lm) ≠ ⟨kd2, ix2, l2⟩) := fun e => by cases e; exact h1 rfl
      clear hs hs2 h1
      go_enter Tryz.func13, Tryz.ntmps13
      go_wp2_with fail
      go_ret
      exact ⟨false, rfl, by simpa using HN.out, HB2.out⟩
    subst h1
    by_cases h1 : ix = ix2
    case neg =>
      have e1 : (ix == ix2) = false := beq_eq_false_iff_ne.2 h1
      have e2 : (ix != ix2) = true := by simp [bne, e1]
      have HN : Hid ((⟨kd, ix, l⟩ : Lm) ≠ ⟨kd, ix2, l2⟩) := fun e => by cases e; exact h1 rfl
      clear hs hs2 h1
      go_enter Tryz.func13, Tryz.ntmps13
      go_wp2_with fail
      go_ret
      exact ⟨false, rfl, by simpa using HN.out, HB2.out⟩
    subst h1
    by_cases h1 : l.length = l2.length
    case neg =>
      have e1 : ((l.length : Int) == (l2.length : Int)) = false := beq_eq_false_iff_ne.2 (by omega)
      have e2 : ((l.length : Int) != (l2.length : Int)) = true := by simp [bne, e1]
      have HN : Hid ((⟨kd, ix, l⟩ : Lm) ≠ ⟨kd, ix, l2⟩) := fun e => by cases e; exact h1 rfl
      clear hs hs2 h1
      go_enter Tryz.func13, Tryz.ntmps13
      go_wp2_with fail
      go_ret
      exact ⟨false, rfl, by simpa using HN.out, HB2.out⟩
    have HLL := hide h1
    have e1 : ((l.length : Int) == (l2.length : Int)) = true := by simp [h1]
    have e2 : ((l.length : Int) != (l2.length : Int)) = false := by simp [bne, e1]
    clear h1
    go_enter Tryz.func13, Tryz.ntmps13
    go_wp2_with fail
    clear e1 e2
    go_loopw [5] (fun i wr => ∃ (k : Nat), k ≤ l.length ∧ i = .int .i64 k ∧ l.take k = l2.take k ∧ Below w.heap.size w wr ∧ wr.cell? ⟨w.heap.size, 2, none⟩ = some (.slice a l.length c) ∧ wr.cell? ⟨w.heap.size + 1, 2, none⟩ = some (.slice a2 l2.length c2) ∧ w.heap.size + 2 ≤ wr.heap.size) (fun i wr => l.length - (intOf i).toNat)
    case atStart => exact ⟨0, Nat.zero_le _, rfl, by simp, below2M _ _, by simp, by simp, by simp⟩
    case round =>
      obtain ⟨k, hk, rfl, htk, hb, hc1, hc2, hsz⟩ := hrel
      have HTK := hide htk
      clear htk
      by_cases hlt : k < l.length
      · have hlt2 : k < l2.length := by have := HLL.out; omega
        have hlti : (k : Int) < (l.length : Int) := by omega
        have hlti2 : (k : Int) < (l2.length : Int) := by omega
        obtain ⟨b, o, a', c', rfl, d0, d0', d1, hx⟩ := hs.get hb (fun _ _ h => h) k hlt
        obtain ⟨b2, o2, a2', c2', rfl, e0, e0', e1, hx2⟩ := hs2.get hb (fun _ _ h => h) k hlt2
        have HX := hide hx
        have HX2 := hide hx2
        have HB := hide hb
        have HS0 := hide (And.intro hc1 (And.intro hc2 (And.intro d0 (And.intro d0' (And.intro d1 (And.intro e0 (And.intro e0' e1)))))))
        have HN : Hid (l[k] = l2[k] → l.take (k + 1) = l2.take (k + 1)) := fun h => by rw [List.take_succ_eq_append_getElem hlt, List.take_succ_eq_append_getElem hlt2, HTK.out, h]
        have HNO : Hid (l[k] ≠ l2[k] → (⟨kd, ix, l⟩ : Lm) ≠ ⟨kd, ix, l2⟩) := fun h e => by cases e; exact h rfl
        clear hx hx2 hb
        go_wp2_with fail
        go_region_held3 (fun w' => w'.cell? ⟨w.heap.size, 2, none⟩ = some (.slice (some ⟨b, o, none⟩) l.length c) ∧ w'.cell? ⟨w.heap.size + 1, 2, none⟩ = some (.slice (some ⟨b2, o2, none⟩) l2.length c2) ∧ w'.cell? ⟨b, o + k * 3, none⟩ = some (.int .i64 l[k].kind) ∧ w'.cell? ⟨b, o + k * 3 + 1, none⟩ = some (.int .i64 l[k].idx) ∧ w'.cell? ⟨b, o + k * 3 + 2, none⟩ = some (.slice a' l[k].subs.length c') ∧ w'.cell? ⟨b2, o2 + k * 3, none⟩ = some (.int .i64 l2[k].kind) ∧ w'.cell? ⟨b2, o2 + k * 3 + 1, none⟩ = some (.int .i64 l2[k].idx) ∧ w'.cell? ⟨b2, o2 + k * 3 + 2, none⟩ = some (.slice a2' l2[k].subs.length c2')) (first | exact HS0.out | exact hS1)
          ((go_at_call 13; refine (IH.out _ (List.getElem_mem hlt) l2[k] _ _ _ X Y (by exact HX.out.later (below_drewN (Below.refl _ _) 1)) (by exact HX2.out.later (below_drewN (Below.refl _ _) 1))).mono ?_; rintro e w1 ⟨q, rfl, hq, hb1⟩; have hS1 := same_cellsM (n := 1) hb1 HS0.out))
        have HQ := hide hq
        have HB1 := hide ((HB.out.trans (below_drewN (Below.refl _ _) 1)).trans (hb1.mono (by simp; omega)))
        have hsz1 : w.heap.size + 2 ≤ w1.heap.size := by have := hb1.size; simp at this; omega
        have HS1 := hide hS1
        clear hq hb1 hS1
        cases q with
        | true =>
          go_wp2_with fail
          go_roundw
          case rel => exact ⟨k + 1, by omega, by go_num, HN.out (HQ.out.1 rfl), HB1.out, HS1.out.1, HS1.out.2.1, hsz1⟩
          case measure => simp [intOf]; omega
        | false =>
          go_wp2_with fail
          go_ret
          exact ⟨false, rfl, by simpa using HNO.out (fun h => by have := HQ.out.2 h; cases this), HB1.out⟩
      · have hEQ : l = l2 := by
          have h := HTK.out
          rw [List.take_of_length_le (by omega), List.take_of_length_le (by have := HLL.out; omega)] at h
          exact h
        have HEQ := hide hEQ
        have HB := hide hb
        clear hEQ
        go_wp2_with fail
        go_ret
        exact ⟨true, rfl, by simp [HEQ.out], HB.out⟩
end Go.Proofs.YtfkjejpfhflanaaGreatDoor
