/- Walks: may a lambda term be, as the document says. -/
import Derived.Test.YtnccaligfnmfgaaDoorL2
namespace Go.Proofs.YtnccaligfnmfgaaDoor
open Go.RowKit
set_option linter.unusedSimpArgs false
set_option linter.unusedVariables false
set_option maxRecDepth 8000

set_option maxHeartbeats 2000000 in
theorem lamMay0_any (m : Int) (t : Lm) : ∀ (v : Value) (u : Int) (w : World) (X : Nat → Prop), MV w X v t → 0 ≤ u → u + sizeM [t] ≤ 1000000 →
    Calls Tryd.prog 10 #[v, .int .i64 u, .int .i64 m] w fun e w' => e = .returned (.int .i64 (errM u m [t])) ∧ Below w.heap.size w w' := by
  induction t using Lm.ind with
  | h kd ix l ih =>
    intro v u w X hv hu0 hu1
    obtain ⟨a, c, rfl, hs⟩ := hv
    have IH := hide ih
    clear ih
    have hl9 := hs.1
    have hz : sizeM [(⟨kd, ix, l⟩ : Lm)] = 1 + sizeM l := by simp [sizeM]
    rw [hz] at hu1
    clear hz
    have HB0 : Hid (Below w.heap.size w (w.alloc (.cells #[.int .i64 kd, .int .i64 ix, .slice a l.length c] 24))) := (Below.refl _ _).alloc (Nat.le_refl _) _
    have HT0 := hide (Blk.new w #[.int .i64 kd, .int .i64 ix, .slice a l.length c] 24)
    by_cases k1 : kd = 1
    case pos =>
      subst k1
      by_cases hl : l.length = 0
      case neg =>
        have HK : Hid (knE u m 1 ix l.length = 2) := by unfold Hid knE mostK subsK; simp [hl]
        have HE : Hid (errM u m [(⟨1, ix, l⟩ : Lm)] = 2) := by unfold Hid; rw [errM_bad (by rw [HK.out]; decide), HK.out]
        have hl2 : ¬ (l.length : Int) = 0 := by omega
        have hl3 : ((l.length : Int) != 0) = true := by simpa using hl2
        go_enter Tryd.func10, Tryd.ntmps10
        go_wp2_with fail
        go_ret
        exact ⟨ret_int HE.out.symm, HB0.out⟩
      case pos =>
        have HL := hide hl
        have hl3 : ((l.length : Int) != 0) = false := by simp [hl]
        clear hl
        by_cases hi : ix < 0
        case pos =>
          have HK : Hid (knE u m 1 ix l.length = 15) := by unfold Hid knE mostK subsK; simp [HL.out, hi]
          have HE : Hid (errM u m [(⟨1, ix, l⟩ : Lm)] = 15) := by unfold Hid; rw [errM_bad (by rw [HK.out]; decide), HK.out]
          go_enter Tryd.func10, Tryd.ntmps10
          go_wp2_with fail
          go_ret
          exact ⟨ret_int HE.out.symm, HB0.out⟩
        case neg =>
          by_cases hj : (u : Int) ≤ ix
          case pos =>
            have HK : Hid (knE u m 1 ix l.length = 15) := by unfold Hid knE mostK subsK; simp [HL.out, hi, hj]
            have HE : Hid (errM u m [(⟨1, ix, l⟩ : Lm)] = 15) := by unfold Hid; rw [errM_bad (by rw [HK.out]; decide), HK.out]
            go_enter Tryd.func10, Tryd.ntmps10
            go_wp2_with fail
            go_ret
            exact ⟨ret_int HE.out.symm, HB0.out⟩
          case neg =>
            have HK : Hid (knE u m 1 ix l.length = 0) := by unfold Hid knE mostK subsK; simp [HL.out, hi, hj]
            have HE := hide (errM_good HK.out)
            have HD : Hid (deepK u 1 = u) := by unfold Hid deepK; first | rfl | simp
            go_enter Tryd.func10, Tryd.ntmps10
            go_wp2_with fail
            go_loopw [10] (fun o wr => KnInv2 (u) m l w o wr ∧ Blk wr w.heap.size #[.int .i64 1, .int .i64 ix, .slice a l.length c] 24) (fun o wr => l.length - (intOf o).toNat)
            case atStart => exact ⟨⟨0, Nat.zero_le _, rfl, by simp [errM], HB0.out⟩, HT0.out⟩
            case round =>
              obtain ⟨⟨k, hk, rfl, he, hb⟩, hT⟩ := hrel
              have HEK := hide he
              have HBK := hide hb
              have HTK := hide hT
              clear he
              have hsz : w.heap.size ≤ wr.heap.size := hb.size
              have t0 : wr.cell? ⟨w.heap.size, 0, none⟩ = some (.int .i64 1) := hT.cell 0
              have t1 : wr.cell? ⟨w.heap.size, 1, none⟩ = some (.int .i64 ix) := hT.cell 1
              have t2 : wr.cell? ⟨w.heap.size, 2, none⟩ = some (.slice a l.length c) := hT.cell 2
              by_cases hlt : k < l.length
              · exact absurd hlt (by have := HL.out; omega)
              · have htk : l.take k = l := List.take_of_length_le (by omega)
                have hge : ¬ ((k : Int) < 0) := by have := HL.out; omega
                have HZ : Hid (0 = errM u m [(⟨1, ix, l⟩ : Lm)]) := by unfold Hid; rw [HE.out, HD.out, ← htk, HEK.out]
                go_wp2_with fail
                go_ret
                exact ⟨ret_int HZ.out, HBK.out⟩
    case neg =>
      by_cases k2 : kd = 2
      case pos =>
        subst k2
        by_cases hl : l.length = 1
        case neg =>
          have HK : Hid (knE u m 2 ix l.length = 2) := by unfold Hid knE mostK subsK; simp [hl]
          have HE : Hid (errM u m [(⟨2, ix, l⟩ : Lm)] = 2) := by unfold Hid; rw [errM_bad (by rw [HK.out]; decide), HK.out]
          have hl2 : ¬ (l.length : Int) = 1 := by omega
          have hl3 : ((l.length : Int) != 1) = true := by simpa using hl2
          go_enter Tryd.func10, Tryd.ntmps10
          go_wp2_with fail
          go_ret
          exact ⟨ret_int HE.out.symm, HB0.out⟩
        case pos =>
          have HL := hide hl
          have hl3 : ((l.length : Int) != 1) = false := by simp [hl]
          clear hl
          by_cases hi : ix < 0
          case pos =>
            have HK : Hid (knE u m 2 ix l.length = 15) := by unfold Hid knE mostK subsK; simp [HL.out, hi]
            have HE : Hid (errM u m [(⟨2, ix, l⟩ : Lm)] = 15) := by unfold Hid; rw [errM_bad (by rw [HK.out]; decide), HK.out]
            go_enter Tryd.func10, Tryd.ntmps10
            go_wp2_with fail
            go_ret
            exact ⟨ret_int HE.out.symm, HB0.out⟩
          case neg =>
            by_cases hj : (1 : Int) ≤ ix
            case pos =>
              have HK : Hid (knE u m 2 ix l.length = 15) := by unfold Hid knE mostK subsK; simp [HL.out, hi, hj]
              have HE : Hid (errM u m [(⟨2, ix, l⟩ : Lm)] = 15) := by unfold Hid; rw [errM_bad (by rw [HK.out]; decide), HK.out]
              go_enter Tryd.func10, Tryd.ntmps10
              go_wp2_with fail
              go_ret
              exact ⟨ret_int HE.out.symm, HB0.out⟩
            case neg =>
              have HK : Hid (knE u m 2 ix l.length = 0) := by unfold Hid knE mostK subsK; simp [HL.out, hi, hj]
              have HE := hide (errM_good HK.out)
              have HD : Hid (deepK u 2 = u + 1) := by unfold Hid deepK; first | rfl | simp
              go_enter Tryd.func10, Tryd.ntmps10
              go_wp2_with fail
              go_loopw [10] (fun o wr => KnInv2 (u + 1) m l w o wr ∧ Blk wr w.heap.size #[.int .i64 2, .int .i64 ix, .slice a l.length c] 24) (fun o wr => l.length - (intOf o).toNat)
              case atStart => exact ⟨⟨0, Nat.zero_le _, rfl, by simp [errM], HB0.out⟩, HT0.out⟩
              case round =>
                obtain ⟨⟨k, hk, rfl, he, hb⟩, hT⟩ := hrel
                have HEK := hide he
                have HBK := hide hb
                have HTK := hide hT
                clear he
                have hsz : w.heap.size ≤ wr.heap.size := hb.size
                have t0 : wr.cell? ⟨w.heap.size, 0, none⟩ = some (.int .i64 2) := hT.cell 0
                have t1 : wr.cell? ⟨w.heap.size, 1, none⟩ = some (.int .i64 ix) := hT.cell 1
                have t2 : wr.cell? ⟨w.heap.size, 2, none⟩ = some (.slice a l.length c) := hT.cell 2
                by_cases hlt : k < l.length
                · obtain ⟨b, o, a', c', rfl, d0, d0', d1, hx⟩ := hs.get hb (fun _ _ h => h) k hlt
                  have HT := hide (errM_take (u + 1) m l k hlt)
                  have hlt2 : (k : Int) < 1 := by have := HL.out; omega
                  have hzk : 1 + sizeM [l[k]] ≤ 1 + sizeM l := by
                    have h1 := sizeM_take l k hlt
                    have h2 := sizeM_take_le l (k + 1)
                    omega
                  clear hb hT
                  go_wp2_with fail
                  refine (IH.out _ (List.getElem_mem hlt) _ _ _ X hx (by omega) (by omega)).mono ?_
                  rintro e w2 ⟨rfl, hb2⟩
                  have HB2 : Hid (Below w.heap.size w w2) := HBK.out.trans (hb2.mono hsz)
                  have HT2 := hide (HTK.out.below hb2 HTK.out.lt)
                  clear hb2
                  by_cases hez : errM (u + 1) m [l[k]] = 0
                  · have HZ := hide hez
                    rw [hez]
                    clear hez
                    go_wp2_with fail
                    go_roundw
                    case rel => exact ⟨⟨k + 1, by omega, by go_num, by rw [HT.out, HEK.out, HZ.out]; rfl, HB2.out⟩, HT2.out⟩
                    case measure => simp [intOf]; omega
                  · have h1 : (errM (u + 1) m [l[k]] == 0) = false := by simpa using hez
                    have h2 : (errM (u + 1) m [l[k]] != 0) = true := by simpa using hez
                    have HZ : Hid (errM (u + 1) m [l[k]] = errM u m [(⟨2, ix, l⟩ : Lm)]) := by
                      have h1 : errM (u + 1) m (l.take (k + 1)) = errM (u + 1) m [l[k]] := by rw [HT.out, HEK.out]; rfl
                      unfold Hid
                      rw [HE.out, HD.out, errM_of_take (l := l) (k := k + 1) (by rw [h1]; exact hez), h1]
                    go_wp2_with fail
                    go_ret
                    exact ⟨ret_int HZ.out, HB2.out⟩
                · have htk : l.take k = l := List.take_of_length_le (by omega)
                  have hge : ¬ ((k : Int) < 1) := by have := HL.out; omega
                  have HZ : Hid (0 = errM u m [(⟨2, ix, l⟩ : Lm)]) := by unfold Hid; rw [HE.out, HD.out, ← htk, HEK.out]
                  go_wp2_with fail
                  go_ret
                  exact ⟨ret_int HZ.out, HBK.out⟩
      case neg =>
        by_cases k3 : kd = 3
        case pos =>
          subst k3
          by_cases hl : l.length = 2
          case neg =>
            have HK : Hid (knE u m 3 ix l.length = 2) := by unfold Hid knE mostK subsK; simp [hl]
            have HE : Hid (errM u m [(⟨3, ix, l⟩ : Lm)] = 2) := by unfold Hid; rw [errM_bad (by rw [HK.out]; decide), HK.out]
            have hl2 : ¬ (l.length : Int) = 2 := by omega
            have hl3 : ((l.length : Int) != 2) = true := by simpa using hl2
            go_enter Tryd.func10, Tryd.ntmps10
            go_wp2_with fail
            go_ret
            exact ⟨ret_int HE.out.symm, HB0.out⟩
          case pos =>
            have HL := hide hl
            have hl3 : ((l.length : Int) != 2) = false := by simp [hl]
            clear hl
            by_cases hi : ix < 0
            case pos =>
              have HK : Hid (knE u m 3 ix l.length = 15) := by unfold Hid knE mostK subsK; simp [HL.out, hi]
              have HE : Hid (errM u m [(⟨3, ix, l⟩ : Lm)] = 15) := by unfold Hid; rw [errM_bad (by rw [HK.out]; decide), HK.out]
              go_enter Tryd.func10, Tryd.ntmps10
              go_wp2_with fail
              go_ret
              exact ⟨ret_int HE.out.symm, HB0.out⟩
            case neg =>
              by_cases hj : (1 : Int) ≤ ix
              case pos =>
                have HK : Hid (knE u m 3 ix l.length = 15) := by unfold Hid knE mostK subsK; simp [HL.out, hi, hj]
                have HE : Hid (errM u m [(⟨3, ix, l⟩ : Lm)] = 15) := by unfold Hid; rw [errM_bad (by rw [HK.out]; decide), HK.out]
                go_enter Tryd.func10, Tryd.ntmps10
                go_wp2_with fail
                go_ret
                exact ⟨ret_int HE.out.symm, HB0.out⟩
              case neg =>
                have HK : Hid (knE u m 3 ix l.length = 0) := by unfold Hid knE mostK subsK; simp [HL.out, hi, hj]
                have HE := hide (errM_good HK.out)
                have HD : Hid (deepK u 3 = u) := by unfold Hid deepK; first | rfl | simp
                go_enter Tryd.func10, Tryd.ntmps10
                go_wp2_with fail
                go_loopw [10] (fun o wr => KnInv2 (u) m l w o wr ∧ Blk wr w.heap.size #[.int .i64 3, .int .i64 ix, .slice a l.length c] 24) (fun o wr => l.length - (intOf o).toNat)
                case atStart => exact ⟨⟨0, Nat.zero_le _, rfl, by simp [errM], HB0.out⟩, HT0.out⟩
                case round =>
                  obtain ⟨⟨k, hk, rfl, he, hb⟩, hT⟩ := hrel
                  have HEK := hide he
                  have HBK := hide hb
                  have HTK := hide hT
                  clear he
                  have hsz : w.heap.size ≤ wr.heap.size := hb.size
                  have t0 : wr.cell? ⟨w.heap.size, 0, none⟩ = some (.int .i64 3) := hT.cell 0
                  have t1 : wr.cell? ⟨w.heap.size, 1, none⟩ = some (.int .i64 ix) := hT.cell 1
                  have t2 : wr.cell? ⟨w.heap.size, 2, none⟩ = some (.slice a l.length c) := hT.cell 2
                  by_cases hlt : k < l.length
                  · obtain ⟨b, o, a', c', rfl, d0, d0', d1, hx⟩ := hs.get hb (fun _ _ h => h) k hlt
                    have HT := hide (errM_take (u) m l k hlt)
                    have hlt2 : (k : Int) < 2 := by have := HL.out; omega
                    have hzk : 1 + sizeM [l[k]] ≤ 1 + sizeM l := by
                      have h1 := sizeM_take l k hlt
                      have h2 := sizeM_take_le l (k + 1)
                      omega
                    clear hb hT
                    go_wp2_with fail
                    refine (IH.out _ (List.getElem_mem hlt) _ _ _ X hx (by omega) (by omega)).mono ?_
                    rintro e w2 ⟨rfl, hb2⟩
                    have HB2 : Hid (Below w.heap.size w w2) := HBK.out.trans (hb2.mono hsz)
                    have HT2 := hide (HTK.out.below hb2 HTK.out.lt)
                    clear hb2
                    by_cases hez : errM (u) m [l[k]] = 0
                    · have HZ := hide hez
                      rw [hez]
                      clear hez
                      go_wp2_with fail
                      go_roundw
                      case rel => exact ⟨⟨k + 1, by omega, by go_num, by rw [HT.out, HEK.out, HZ.out]; rfl, HB2.out⟩, HT2.out⟩
                      case measure => simp [intOf]; omega
                    · have h1 : (errM (u) m [l[k]] == 0) = false := by simpa using hez
                      have h2 : (errM (u) m [l[k]] != 0) = true := by simpa using hez
                      have HZ : Hid (errM (u) m [l[k]] = errM u m [(⟨3, ix, l⟩ : Lm)]) := by
                        have h1 : errM (u) m (l.take (k + 1)) = errM (u) m [l[k]] := by rw [HT.out, HEK.out]; rfl
                        unfold Hid
                        rw [HE.out, HD.out, errM_of_take (l := l) (k := k + 1) (by rw [h1]; exact hez), h1]
                      go_wp2_with fail
                      go_ret
                      exact ⟨ret_int HZ.out, HB2.out⟩
                  · have htk : l.take k = l := List.take_of_length_le (by omega)
                    have hge : ¬ ((k : Int) < 2) := by have := HL.out; omega
                    have HZ : Hid (0 = errM u m [(⟨3, ix, l⟩ : Lm)]) := by unfold Hid; rw [HE.out, HD.out, ← htk, HEK.out]
                    go_wp2_with fail
                    go_ret
                    exact ⟨ret_int HZ.out, HBK.out⟩
        case neg =>
          by_cases k4 : kd = 4
          case pos =>
            subst k4
            by_cases hl : l.length = 0
            case neg =>
              have HK : Hid (knE u m 4 ix l.length = 2) := by unfold Hid knE mostK subsK; simp [hl]
              have HE : Hid (errM u m [(⟨4, ix, l⟩ : Lm)] = 2) := by unfold Hid; rw [errM_bad (by rw [HK.out]; decide), HK.out]
              have hl2 : ¬ (l.length : Int) = 0 := by omega
              have hl3 : ((l.length : Int) != 0) = true := by simpa using hl2
              go_enter Tryd.func10, Tryd.ntmps10
              go_wp2_with fail
              go_ret
              exact ⟨ret_int HE.out.symm, HB0.out⟩
            case pos =>
              have HL := hide hl
              have hl3 : ((l.length : Int) != 0) = false := by simp [hl]
              clear hl
              by_cases hi : ix < 0
              case pos =>
                have HK : Hid (knE u m 4 ix l.length = 15) := by unfold Hid knE mostK subsK; simp [HL.out, hi]
                have HE : Hid (errM u m [(⟨4, ix, l⟩ : Lm)] = 15) := by unfold Hid; rw [errM_bad (by rw [HK.out]; decide), HK.out]
                go_enter Tryd.func10, Tryd.ntmps10
                go_wp2_with fail
                go_ret
                exact ⟨ret_int HE.out.symm, HB0.out⟩
              case neg =>
                by_cases hj : (40 : Int) ≤ ix
                case pos =>
                  have HK : Hid (knE u m 4 ix l.length = 15) := by unfold Hid knE mostK subsK; simp [HL.out, hi, hj]
                  have HE : Hid (errM u m [(⟨4, ix, l⟩ : Lm)] = 15) := by unfold Hid; rw [errM_bad (by rw [HK.out]; decide), HK.out]
                  go_enter Tryd.func10, Tryd.ntmps10
                  go_wp2_with fail
                  go_ret
                  exact ⟨ret_int HE.out.symm, HB0.out⟩
                case neg =>
                  have HK : Hid (knE u m 4 ix l.length = 0) := by unfold Hid knE mostK subsK; simp [HL.out, hi, hj]
                  have HE := hide (errM_good HK.out)
                  have HD : Hid (deepK u 4 = u) := by unfold Hid deepK; first | rfl | simp
                  go_enter Tryd.func10, Tryd.ntmps10
                  go_wp2_with fail
                  go_loopw [10] (fun o wr => KnInv2 (u) m l w o wr ∧ Blk wr w.heap.size #[.int .i64 4, .int .i64 ix, .slice a l.length c] 24) (fun o wr => l.length - (intOf o).toNat)
                  case atStart => exact ⟨⟨0, Nat.zero_le _, rfl, by simp [errM], HB0.out⟩, HT0.out⟩
                  case round =>
                    obtain ⟨⟨k, hk, rfl, he, hb⟩, hT⟩ := hrel
                    have HEK := hide he
                    have HBK := hide hb
                    have HTK := hide hT
                    clear he
                    have hsz : w.heap.size ≤ wr.heap.size := hb.size
                    have t0 : wr.cell? ⟨w.heap.size, 0, none⟩ = some (.int .i64 4) := hT.cell 0
                    have t1 : wr.cell? ⟨w.heap.size, 1, none⟩ = some (.int .i64 ix) := hT.cell 1
                    have t2 : wr.cell? ⟨w.heap.size, 2, none⟩ = some (.slice a l.length c) := hT.cell 2
                    by_cases hlt : k < l.length
                    · exact absurd hlt (by have := HL.out; omega)
                    · have htk : l.take k = l := List.take_of_length_le (by omega)
                      have hge : ¬ ((k : Int) < 0) := by have := HL.out; omega
                      have HZ : Hid (0 = errM u m [(⟨4, ix, l⟩ : Lm)]) := by unfold Hid; rw [HE.out, HD.out, ← htk, HEK.out]
                      go_wp2_with fail
                      go_ret
                      exact ⟨ret_int HZ.out, HBK.out⟩
          case neg =>
            by_cases k5 : kd = 5
            case pos =>
              subst k5
              by_cases hl : l.length = 0
              case neg =>
                have HK : Hid (knE u m 5 ix l.length = 2) := by unfold Hid knE mostK subsK; simp [hl]
                have HE : Hid (errM u m [(⟨5, ix, l⟩ : Lm)] = 2) := by unfold Hid; rw [errM_bad (by rw [HK.out]; decide), HK.out]
                have hl2 : ¬ (l.length : Int) = 0 := by omega
                have hl3 : ((l.length : Int) != 0) = true := by simpa using hl2
                go_enter Tryd.func10, Tryd.ntmps10
                go_wp2_with fail
                go_ret
                exact ⟨ret_int HE.out.symm, HB0.out⟩
              case pos =>
                have HL := hide hl
                have hl3 : ((l.length : Int) != 0) = false := by simp [hl]
                clear hl
                by_cases hi : ix < 0
                case pos =>
                  have HK : Hid (knE u m 5 ix l.length = 15) := by unfold Hid knE mostK subsK; simp [HL.out, hi]
                  have HE : Hid (errM u m [(⟨5, ix, l⟩ : Lm)] = 15) := by unfold Hid; rw [errM_bad (by rw [HK.out]; decide), HK.out]
                  go_enter Tryd.func10, Tryd.ntmps10
                  go_wp2_with fail
                  go_ret
                  exact ⟨ret_int HE.out.symm, HB0.out⟩
                case neg =>
                  by_cases hj : (m : Int) ≤ ix
                  case pos =>
                    have HK : Hid (knE u m 5 ix l.length = 15) := by unfold Hid knE mostK subsK; simp [HL.out, hi, hj]
                    have HE : Hid (errM u m [(⟨5, ix, l⟩ : Lm)] = 15) := by unfold Hid; rw [errM_bad (by rw [HK.out]; decide), HK.out]
                    go_enter Tryd.func10, Tryd.ntmps10
                    go_wp2_with fail
                    go_ret
                    exact ⟨ret_int HE.out.symm, HB0.out⟩
                  case neg =>
                    have HK : Hid (knE u m 5 ix l.length = 0) := by unfold Hid knE mostK subsK; simp [HL.out, hi, hj]
                    have HE := hide (errM_good HK.out)
                    have HD : Hid (deepK u 5 = u) := by unfold Hid deepK; first | rfl | simp
                    go_enter Tryd.func10, Tryd.ntmps10
                    go_wp2_with fail
                    go_loopw [10] (fun o wr => KnInv2 (u) m l w o wr ∧ Blk wr w.heap.size #[.int .i64 5, .int .i64 ix, .slice a l.length c] 24) (fun o wr => l.length - (intOf o).toNat)
                    case atStart => exact ⟨⟨0, Nat.zero_le _, rfl, by simp [errM], HB0.out⟩, HT0.out⟩
                    case round =>
                      obtain ⟨⟨k, hk, rfl, he, hb⟩, hT⟩ := hrel
                      have HEK := hide he
                      have HBK := hide hb
                      have HTK := hide hT
                      clear he
                      have hsz : w.heap.size ≤ wr.heap.size := hb.size
                      have t0 : wr.cell? ⟨w.heap.size, 0, none⟩ = some (.int .i64 5) := hT.cell 0
                      have t1 : wr.cell? ⟨w.heap.size, 1, none⟩ = some (.int .i64 ix) := hT.cell 1
                      have t2 : wr.cell? ⟨w.heap.size, 2, none⟩ = some (.slice a l.length c) := hT.cell 2
                      by_cases hlt : k < l.length
                      · exact absurd hlt (by have := HL.out; omega)
                      · have htk : l.take k = l := List.take_of_length_le (by omega)
                        have hge : ¬ ((k : Int) < 0) := by have := HL.out; omega
                        have HZ : Hid (0 = errM u m [(⟨5, ix, l⟩ : Lm)]) := by unfold Hid; rw [HE.out, HD.out, ← htk, HEK.out]
                        go_wp2_with fail
                        go_ret
                        exact ⟨ret_int HZ.out, HBK.out⟩
            case neg =>
              have HK : Hid (knE u m kd ix l.length = 2) := by unfold Hid knE; rw [if_pos (by omega)]
              have HE : Hid (errM u m [(⟨kd, ix, l⟩ : Lm)] = 2) := by unfold Hid; rw [errM_bad (by rw [HK.out]; decide), HK.out]
              have e1 : (kd == 1) = false := by simpa using k1
              have e2 : (kd == 2) = false := by simpa using k2
              have e3 : (kd == 3) = false := by simpa using k3
              have e4 : (kd == 4) = false := by simpa using k4
              have e5 : (kd == 5) = false := by simpa using k5
              go_enter Tryd.func10, Tryd.ntmps10
              go_wp2_with fail
              go_ret
              exact ⟨ret_int HE.out.symm, HB0.out⟩

set_option maxHeartbeats 1000000 in
theorem lamMay_any (t : Lm) (v : Value) (u m : Int) (w : World) (X : Nat → Prop) (hv : MV w X v t) :
    Calls Tryd.prog 5 #[v, .int .i64 u, .int .i64 m] w fun e w' => e = .returned (.int .i64 (lamE u m t)) ∧ Below w.heap.size w w' := by
  obtain ⟨a, c, rfl, hs⟩ := hv
  have hv : MV w X (.agg #[.int .i64 t.kind, .int .i64 t.idx, .slice a t.subs.length c]) t := ⟨a, c, rfl, hs⟩
  have HB0 : Hid (Below w.heap.size w (w.alloc (.cells #[.int .i64 t.kind, .int .i64 t.idx, .slice a t.subs.length c] 24))) := (Below.refl _ _).alloc (Nat.le_refl _) _
  have hT0 := Blk.new w #[.int .i64 t.kind, .int .i64 t.idx, .slice a t.subs.length c] 24
  go_enter Tryd.func5, Tryd.ntmps5
  by_cases h1 : u < 0
  · have HE : Hid (lamE u m t = 10) := by unfold Hid lamE; rw [if_pos (Or.inl h1)]
    go_wp2_with fail
    go_ret
    exact ⟨ret_int HE.out.symm, HB0.out⟩
  by_cases h2 : 40 < u
  · have HE : Hid (lamE u m t = 10) := by unfold Hid lamE; rw [if_pos (Or.inr h2)]
    go_wp2_with fail
    go_ret
    exact ⟨ret_int HE.out.symm, HB0.out⟩
  go_wp2_with fail
  refine (lamSize_any t _ _ _ X (hv.alloc _) (by omega) (by omega)).mono ?_
  rintro e w1 ⟨rfl, hb1⟩
  have HB1 := hide (HB0.out.trans (hb1.mono (by simp)))
  have T1 := hide (hT0.below hb1 hT0.lt)
  have t0 : w1.cell? ⟨w.heap.size, 0, none⟩ = some (.int .i64 t.kind) := T1.out.cell 0
  have t1 : w1.cell? ⟨w.heap.size, 1, none⟩ = some (.int .i64 t.idx) := T1.out.cell 1
  have t2 : w1.cell? ⟨w.heap.size, 2, none⟩ = some (.slice a t.subs.length c) := T1.out.cell 2
  clear hb1 hT0 HB0
  by_cases h3 : 200 < sizeM [t]
  · have HE : Hid (lamE u m t = 3) := by unfold Hid lamE; rw [if_neg (by omega), if_pos h3]
    have e : min (sizeM [t] : Int) (200 + 1) = 201 := by omega
    rw [e]
    go_wp2_with fail
    go_ret
    exact ⟨ret_int HE.out.symm, HB1.out⟩
  · have HE : Hid (lamE u m t = errM u m [t]) := by unfold Hid lamE; rw [if_neg (by omega), if_neg h3]
    have e : min (sizeM [t] : Int) (200 + 1) = sizeM [t] := by omega
    rw [e]
    have hle : ¬ (200 : Int) < (sizeM [t] : Int) := by omega
    go_wp2_with fail
    refine (lamMay0_any m t _ u _ X (hv.later HB1.out) (by omega) (by omega)).mono ?_
    rintro e w2 ⟨rfl, hb2⟩
    go_wp2_with fail
    go_ret
    exact ⟨ret_int HE.out.symm, HB1.out.trans (hb2.mono HB1.out.size)⟩
end Go.Proofs.YtnccaligfnmfgaaDoor
