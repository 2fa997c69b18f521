/- Walks: does what is bound stand in a term? Is a term what a binder binds? -/
import Derived.Test.YtaifameeoipjjaaL21
import Derived.Test.YtaifameeoipjjaaL11
namespace Go.Proofs.Ytaifameeoipjjaa
open Go.RowKit
set_option linter.unusedSimpArgs false
set_option linter.unusedVariables false
set_option maxRecDepth 8000

set_option maxHeartbeats 1000000 in
theorem holds_any (t : Lm) : ∀ (v : Value) (i : Int) (w : World) (X : Nat → Prop), MV w X v t → 0 ≤ i → i + sizeM [t] ≤ 1000000 →
    Calls Try.prog 41 #[v, .int .i64 i] w fun e w' => e = .returned (.bool (decide (0 < usesM i [t]))) ∧ Below w.heap.size w w' := by
  induction t using Lm.ind with
  | h kd ix l ih =>
    intro v i w X hv hi0 hi1
    obtain ⟨a, c, rfl, hs⟩ := hv
    have IH := hide ih
    have HS := hide hs
    have hl9 := hs.1
    have hz : sizeM [(⟨kd, ix, l⟩ : Lm)] = 1 + sizeM l := by simp [sizeM]
    rw [hz] at hi1
    clear ih hs hz
    by_cases k1 : kd = 1
    · subst k1
      have HB0 : Hid (Below w.heap.size w (w.alloc (.cells #[.int .i64 1, .int .i64 ix, .slice a l.length c] 24))) := (Below.refl _ _).alloc (Nat.le_refl _) _
      by_cases hx : ix = i
      · have HU : Hid (true = decide (0 < usesM i [⟨1, ix, l⟩])) := by unfold Hid; rw [usesM_one]; simp [hx]
        subst hx
        go_enter Try.func41, Try.ntmps41
        go_wp2_with fail
        go_ret
        exact ⟨ret_boolM HU.out, HB0.out⟩
      · have HU : Hid (false = decide (0 < usesM i [⟨1, ix, l⟩])) := by unfold Hid; rw [usesM_one]; simp [hx]
        have hx2 : (ix == i) = false := by simpa using hx
        go_enter Try.func41, Try.ntmps41
        go_wp2_with fail
        go_ret
        exact ⟨ret_boolM HU.out, HB0.out⟩
    · have e1 : (kd == 1) = false := by simpa using k1
      have HB0 : Hid (Below w.heap.size w (w.alloc (.cells #[.int .i64 kd, .int .i64 ix, .slice a l.length c] 24))) := (Below.refl _ _).alloc (Nat.le_refl _) _
      by_cases k2 : kd = 2
      · subst k2
        have hw1 : IntKind.i64.wrap (i + 1) = i + 1 := by rw [IntKind.wrap_i64]; omega
        have HU : Hid (usesM i [⟨2, ix, l⟩] = usesM (i + 1) l) := by unfold Hid; rw [usesM_one]; simp [deepK]
        go_enter Try.func41, Try.ntmps41
        go_wp2_with fail
        go_loopw [22] (fun ii wr => ∃ k : Nat, k ≤ l.length ∧ ii = .int .i64 (k : Int) ∧ usesM (i + 1) (l.take k) = 0 ∧ Below w.heap.size w wr) (fun ii wr => l.length - (intOf ii).toNat)
        case atStart => exact ⟨0, Nat.zero_le _, rfl, by simp [usesM], HB0.out⟩
        case round =>
          obtain ⟨k, hk, rfl, he, hb⟩ := hrel
          have HEK := hide he
          have HBK := hide hb
          have hsz : w.heap.size ≤ wr.heap.size := hb.size
          by_cases hlt : k < l.length
          · obtain ⟨b, o, a', c', rfl, d0, d0', d1, hx⟩ := HS.out.get hb (fun _ _ h => h) k hlt
            have HX := hide hx
            have hzk : 1 + sizeM [l[k]] ≤ 1 + sizeM l := by
              have h1 := sizeM_take l k hlt
              have h2 := sizeM_take_le l (k + 1)
              omega
            have HTU := hide (usesM_take (i + 1) l k hlt)
            clear hx hb he
            go_wp2_with fail
            refine (IH.out _ (List.getElem_mem hlt) _ _ _ X (HX.out.alloc _) (by omega) (by omega)).mono ?_
            rintro e w2 ⟨rfl, hb2⟩
            have HB2 : Hid (Below w.heap.size w w2) := (HBK.out.alloc hsz _).trans (hb2.mono (by simp; omega))
            clear hb2
            by_cases hez : 0 < usesM (i + 1) [l[k]]
            · have HZ : Hid (true = decide (0 < usesM i [(⟨2, ix, l⟩ : Lm)])) := by
                unfold Hid
                have h1 := usesM_append (i + 1) (l.take (k + 1)) (l.drop (k + 1))
                rw [List.take_append_drop, HTU.out] at h1
                have h2 : 0 < usesM i [(⟨2, ix, l⟩ : Lm)] := by rw [HU.out]; omega
                simp [h2]
              rw [show decide (0 < usesM (i + 1) [l[k]]) = true by simpa using hez]
              clear hez
              go_wp2_with fail
              go_ret
              exact ⟨ret_boolM HZ.out, HB2.out⟩
            · have HZ := hide hez
              rw [show decide (0 < usesM (i + 1) [l[k]]) = false by simpa using hez]
              clear hez
              go_wp2_with fail
              go_roundw
              case rel => exact ⟨k + 1, by omega, by go_num, by have h1 := HZ.out; have h2 := HEK.out; rw [HTU.out]; omega, HB2.out⟩
              case measure => simp [intOf]; omega
          · have htk : l.take k = l := List.take_of_length_le (by omega)
            have hge : ¬ ((k : Int) < (l.length : Int)) := by omega
            have HZ : Hid (false = decide (0 < usesM i [(⟨2, ix, l⟩ : Lm)])) := by unfold Hid; rw [HU.out, ← htk, HEK.out]; rfl
            clear he htk
            go_wp2_with fail
            go_ret
            exact ⟨ret_boolM HZ.out, HBK.out⟩
      · have e2 : (kd == 2) = false := by simpa using k2
        have HU : Hid (usesM i [⟨kd, ix, l⟩] = usesM i l) := by unfold Hid; rw [usesM_one]; simp [deepK, k1, k2]
        go_enter Try.func41, Try.ntmps41
        go_wp2_with fail
        go_loopw [22] (fun ii wr => ∃ k : Nat, k ≤ l.length ∧ ii = .int .i64 (k : Int) ∧ usesM (i) (l.take k) = 0 ∧ Below w.heap.size w wr) (fun ii wr => l.length - (intOf ii).toNat)
        case atStart => exact ⟨0, Nat.zero_le _, rfl, by simp [usesM], HB0.out⟩
        case round =>
          obtain ⟨k, hk, rfl, he, hb⟩ := hrel
          have HEK := hide he
          have HBK := hide hb
          have hsz : w.heap.size ≤ wr.heap.size := hb.size
          by_cases hlt : k < l.length
          · obtain ⟨b, o, a', c', rfl, d0, d0', d1, hx⟩ := HS.out.get hb (fun _ _ h => h) k hlt
            have HX := hide hx
            have hzk : 1 + sizeM [l[k]] ≤ 1 + sizeM l := by
              have h1 := sizeM_take l k hlt
              have h2 := sizeM_take_le l (k + 1)
              omega
            have HTU := hide (usesM_take (i) l k hlt)
            clear hx hb he
            go_wp2_with fail
            refine (IH.out _ (List.getElem_mem hlt) _ _ _ X (HX.out.alloc _) (by omega) (by omega)).mono ?_
            rintro e w2 ⟨rfl, hb2⟩
            have HB2 : Hid (Below w.heap.size w w2) := (HBK.out.alloc hsz _).trans (hb2.mono (by simp; omega))
            clear hb2
            by_cases hez : 0 < usesM (i) [l[k]]
            · have HZ : Hid (true = decide (0 < usesM i [(⟨kd, ix, l⟩ : Lm)])) := by
                unfold Hid
                have h1 := usesM_append (i) (l.take (k + 1)) (l.drop (k + 1))
                rw [List.take_append_drop, HTU.out] at h1
                have h2 : 0 < usesM i [(⟨kd, ix, l⟩ : Lm)] := by rw [HU.out]; omega
                simp [h2]
              rw [show decide (0 < usesM (i) [l[k]]) = true by simpa using hez]
              clear hez
              go_wp2_with fail
              go_ret
              exact ⟨ret_boolM HZ.out, HB2.out⟩
            · have HZ := hide hez
              rw [show decide (0 < usesM (i) [l[k]]) = false by simpa using hez]
              clear hez
              go_wp2_with fail
              go_roundw
              case rel => exact ⟨k + 1, by omega, by go_num, by have h1 := HZ.out; have h2 := HEK.out; rw [HTU.out]; omega, HB2.out⟩
              case measure => simp [intOf]; omega
          · have htk : l.take k = l := List.take_of_length_le (by omega)
            have hge : ¬ ((k : Int) < (l.length : Int)) := by omega
            have HZ : Hid (false = decide (0 < usesM i [(⟨kd, ix, l⟩ : Lm)])) := by unfold Hid; rw [HU.out, ← htk, HEK.out]; rfl
            clear he htk
            go_wp2_with fail
            go_ret
            exact ⟨ret_boolM HZ.out, HBK.out⟩
end Go.Proofs.Ytaifameeoipjjaa
