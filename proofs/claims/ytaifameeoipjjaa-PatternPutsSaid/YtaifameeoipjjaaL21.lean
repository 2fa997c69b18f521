/- Walks: how often what is bound is used. -/
import Derived.Test.YtaifameeoipjjaaL20
namespace Go.Proofs.Ytaifameeoipjjaa
open Go.RowKit
set_option linter.unusedSimpArgs false
set_option linter.unusedVariables false
set_option maxRecDepth 8000

theorem ret_intM {a b : Int} (h : a = b) : Ending.returned (.int .i64 a) = .returned (.int .i64 b) := by rw [h]
theorem usesM_one (i k x : Int) (l : List Lm) : usesM i [⟨k, x, l⟩] = if k = 1 then (if x = i then 1 else 0) else usesM (deepK i k) l := by simp [usesM]
set_option maxHeartbeats 1000000 in
theorem uses_any (t : Lm) : ∀ (v : Value) (i : Int) (w : World) (X : Nat → Prop), MV w X v t → 0 ≤ i → i + sizeM [t] ≤ 1000000 →
    Calls Try.prog 17 #[v, .int .i64 i] w fun e w' => e = .returned (.int .i64 (usesM i [t] : Int)) ∧ Below w.heap.size w w' := by
  induction t using Lm.ind with
  | h kd ix l ih =>
    intro v i w X hv hi0 hi1
    obtain ⟨a, c, rfl, hs⟩ := hv
    have IH := hide ih
    have HS := hide hs
    have hl9 := hs.1
    have hz : sizeM [(⟨kd, ix, l⟩ : Lm)] = 1 + sizeM l := by simp [sizeM]
    rw [hz] at hi1
    clear ih hs hz
    by_cases k1 : kd = 1
    · subst k1
      have HB0 : Hid (Below w.heap.size w (w.alloc (.cells #[.int .i64 1, .int .i64 ix, .slice a l.length c] 24))) := (Below.refl _ _).alloc (Nat.le_refl _) _
      by_cases hx : ix = i
      · have HU : Hid (1 = (usesM i [⟨1, ix, l⟩] : Int)) := by unfold Hid; rw [usesM_one]; simp [hx]
        subst hx
        go_enter Try.func17, Try.ntmps17
        go_wp2_with fail
        go_ret
        exact ⟨ret_intM HU.out, HB0.out⟩
      · have HU : Hid (0 = (usesM i [⟨1, ix, l⟩] : Int)) := by unfold Hid; rw [usesM_one]; simp [hx]
        have hx2 : (ix == i) = false := by simpa using hx
        go_enter Try.func17, Try.ntmps17
        go_wp2_with fail
        go_ret
        exact ⟨ret_intM HU.out, HB0.out⟩
    · have e1 : (kd == 1) = false := by simpa using k1
      have HB0 : Hid (Below w.heap.size w (w.alloc (.cells #[.int .i64 kd, .int .i64 ix, .slice a l.length c] 24))) := (Below.refl _ _).alloc (Nat.le_refl _) _
      have HT0 := hide (Blk.new w #[.int .i64 kd, .int .i64 ix, .slice a l.length c] 24)
      by_cases k2 : kd = 2
      · subst k2
        have hw1 : IntKind.i64.wrap (i + 1) = i + 1 := by rw [IntKind.wrap_i64]; omega
        have HU : Hid (usesM i [⟨2, ix, l⟩] = usesM (i + 1) l) := by unfold Hid; rw [usesM_one]; simp [deepK]
        go_enter Try.func17, Try.ntmps17
        go_wp2_with fail
        go_loopw [6, 5] (fun ii nn wr => ∃ k : Nat, k ≤ l.length ∧ ii = .int .i64 (k : Int) ∧ nn = .int .i64 (usesM (i + 1) (l.take k) : Int) ∧ Below w.heap.size w wr ∧ Blk wr w.heap.size #[.int .i64 2, .int .i64 ix, .slice a l.length c] 24) (fun ii nn wr => l.length - (intOf ii).toNat)
        case atStart => exact ⟨0, Nat.zero_le _, rfl, by simp [usesM], HB0.out, HT0.out⟩
        case round =>
          obtain ⟨k, hk, rfl, rfl, hb, hT⟩ := hrel
          have HBK := hide hb
          have HTK := hide hT
          have hsz : w.heap.size ≤ wr.heap.size := hb.size
          have t0 : wr.cell? ⟨w.heap.size, 0, none⟩ = some (.int .i64 2) := hT.cell 0
          have t1 : wr.cell? ⟨w.heap.size, 1, none⟩ = some (.int .i64 ix) := hT.cell 1
          have t2 : wr.cell? ⟨w.heap.size, 2, none⟩ = some (.slice a l.length c) := hT.cell 2
          by_cases hlt : k < l.length
          · obtain ⟨b, o, a', c', rfl, d0, d0', d1, hx⟩ := HS.out.get hb (fun _ _ h => h) k hlt
            have hlt2 : (k : Int) < (l.length : Int) := by omega
            have HX := hide hx
            have hzk : 1 + sizeM [l[k]] ≤ 1 + sizeM l := by
              have h1 := sizeM_take l k hlt
              have h2 := sizeM_take_le l (k + 1)
              omega
            have HTU := hide (usesM_take (i + 1) l k hlt)
            have hub : usesM (i + 1) (l.take k) + usesM (i + 1) [l[k]] ≤ sizeM l := by
              rw [← usesM_take (i + 1) l k hlt]
              exact Nat.le_trans (usesM_le _ _) (sizeM_take_le l (k + 1))
            clear hx hb hT
            have hwu : IntKind.i64.wrap ((usesM (i + 1) (l.take k) : Int) + (usesM (i + 1) [l[k]] : Int)) = (usesM (i + 1) (l.take k) : Int) + (usesM (i + 1) [l[k]] : Int) := by rw [IntKind.wrap_i64]; omega
            go_wp2_with fail
            refine (IH.out _ (List.getElem_mem hlt) _ _ _ X HX.out (by omega) (by omega)).mono ?_
            rintro e w2 ⟨rfl, hb2⟩
            have HB2 : Hid (Below w.heap.size w w2) := HBK.out.trans (hb2.mono hsz)
            have HT2 := hide (HTK.out.below hb2 HTK.out.lt)
            clear hb2
            go_wp2_with fail
            go_roundw
            case rel => exact ⟨k + 1, by omega, by go_num, by rw [HTU.out]; simp, HB2.out, HT2.out⟩
            case measure => simp [intOf]; omega
          · have htk : l.take k = l := List.take_of_length_le (by omega)
            have hge : ¬ ((k : Int) < (l.length : Int)) := by omega
            have HZ : Hid ((usesM (i + 1) l : Int) = (usesM i [⟨2, ix, l⟩] : Int)) := by unfold Hid; rw [HU.out]
            go_wp2_with fail
            go_ret
            exact ⟨ret_intM HZ.out, HBK.out⟩
      · have e2 : (kd == 2) = false := by simpa using k2
        have HU : Hid (usesM i [⟨kd, ix, l⟩] = usesM i l) := by unfold Hid; rw [usesM_one]; simp [deepK, k1, k2]
        go_enter Try.func17, Try.ntmps17
        go_wp2_with fail
        go_loopw [6, 5] (fun ii nn wr => ∃ k : Nat, k ≤ l.length ∧ ii = .int .i64 (k : Int) ∧ nn = .int .i64 (usesM (i) (l.take k) : Int) ∧ Below w.heap.size w wr ∧ Blk wr w.heap.size #[.int .i64 kd, .int .i64 ix, .slice a l.length c] 24) (fun ii nn wr => l.length - (intOf ii).toNat)
        case atStart => exact ⟨0, Nat.zero_le _, rfl, by simp [usesM], HB0.out, HT0.out⟩
        case round =>
          obtain ⟨k, hk, rfl, rfl, hb, hT⟩ := hrel
          have HBK := hide hb
          have HTK := hide hT
          have hsz : w.heap.size ≤ wr.heap.size := hb.size
          have t0 : wr.cell? ⟨w.heap.size, 0, none⟩ = some (.int .i64 kd) := hT.cell 0
          have t1 : wr.cell? ⟨w.heap.size, 1, none⟩ = some (.int .i64 ix) := hT.cell 1
          have t2 : wr.cell? ⟨w.heap.size, 2, none⟩ = some (.slice a l.length c) := hT.cell 2
          by_cases hlt : k < l.length
          · obtain ⟨b, o, a', c', rfl, d0, d0', d1, hx⟩ := HS.out.get hb (fun _ _ h => h) k hlt
            have hlt2 : (k : Int) < (l.length : Int) := by omega
            have HX := hide hx
            have hzk : 1 + sizeM [l[k]] ≤ 1 + sizeM l := by
              have h1 := sizeM_take l k hlt
              have h2 := sizeM_take_le l (k + 1)
              omega
            have HTU := hide (usesM_take (i) l k hlt)
            have hub : usesM (i) (l.take k) + usesM (i) [l[k]] ≤ sizeM l := by
              rw [← usesM_take (i) l k hlt]
              exact Nat.le_trans (usesM_le _ _) (sizeM_take_le l (k + 1))
            clear hx hb hT
            have hwu : IntKind.i64.wrap ((usesM (i) (l.take k) : Int) + (usesM (i) [l[k]] : Int)) = (usesM (i) (l.take k) : Int) + (usesM (i) [l[k]] : Int) := by rw [IntKind.wrap_i64]; omega
            go_wp2_with fail
            refine (IH.out _ (List.getElem_mem hlt) _ _ _ X HX.out (by omega) (by omega)).mono ?_
            rintro e w2 ⟨rfl, hb2⟩
            have HB2 : Hid (Below w.heap.size w w2) := HBK.out.trans (hb2.mono hsz)
            have HT2 := hide (HTK.out.below hb2 HTK.out.lt)
            clear hb2
            go_wp2_with fail
            go_roundw
            case rel => exact ⟨k + 1, by omega, by go_num, by rw [HTU.out]; simp, HB2.out, HT2.out⟩
            case measure => simp [intOf]; omega
          · have htk : l.take k = l := List.take_of_length_le (by omega)
            have hge : ¬ ((k : Int) < (l.length : Int)) := by omega
            have HZ : Hid ((usesM (i) l : Int) = (usesM i [⟨kd, ix, l⟩] : Int)) := by unfold Hid; rw [HU.out]
            go_wp2_with fail
            go_ret
            exact ⟨ret_intM HZ.out, HBK.out⟩
end Go.Proofs.Ytaifameeoipjjaa
