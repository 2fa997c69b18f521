/- Several texts in one. -/
import Derived.Test.YtcdabjekppddjaaGreatDoorZCombMadeOwn
import Derived.Deep.RegionHeld
import Derived.Deep.RegionHeld3
import Derived.Deep.DeepCutAuto
import Derived.Laws.OwnMore
import Derived.Lib.AppendIntMem
import Derived.Test.YtcdabjekppddjaaGreatDoorShelf
import Derived.Lib.AtoiBound
import Derived.Lib.ItoaLen
import Derived.Deep.AppendSrc
import Derived.Lib.Builder
import Derived.RangeFuncNested
import Derived.RangeFuncBound
import Derived.RangeFuncCalls
import Derived.RangeFuncLeaves
import Derived.RangeFuncWrites
import Derived.Shelf.Abstract
import Derived.Shelf.RegionOpen
import Derived.OwnWalkIn
import Derived.TacticsInMore
import Derived.LoopNIn
import Derived.LoopIn
/- Walks: may a lambda term be, as the document says. -/
namespace Go.Proofs.YtcdabjekppddjaaGreatDoor
open Go.RowKit
set_option linter.unusedSimpArgs false
set_option linter.unusedVariables false
set_option maxRecDepth 8000

set_option maxHeartbeats 2000000 in
theorem lamMay0_any (m : Int) (t : Lm) : ∀ (v : Value) (u : Int) (w : World) (X : Nat → Prop), MV w X v t → 0 ≤ u → u + sizeM [t] ≤ 1000000 →
    Calls Tryz.prog 63 #[v, .int .i64 u, .int .i64 m] w fun e w' => e = .returned (.int .i64 (errM u m [t])) ∧ Below w.heap.size w w' := by
  induction t using Lm.ind with
  | h kd ix l ih =>
    intro v u w X hv hu0 hu1
    obtain ⟨a, c, rfl, hs⟩ := hv
    have IH := hide ih
    clear ih
    have hl9 := hs.1
    have hz : sizeM [(⟨kd, ix, l⟩ : Lm)] = 1 + sizeM l := by simp [sizeM]
    rw [hz] at hu1
    clear hz
    have HB0 : Hid (Below w.heap.size w (w.alloc (.cells #[.int .i64 kd, .int .i64 ix, .slice a l.length c] 36))) := (Below.refl _ _).alloc (Nat.le_refl _) _
    have HT0 := hide (Blk.new w #[.int .i64 kd, .int .i64 ix, .slice a l.length c] 36)
    by_cases k1 : kd = 1
    case pos =>
      subst k1
      by_cases hl : l.length = 0
      case neg =>
        have HK : Hid (knE u m 1 ix l.length = 2) := by unfold Hid knE mostK subsK; simp [hl]
        have HE : Hid (errM u m [(⟨1, ix, l⟩ : Lm)] = 2) := by unfold Hid; rw [errM_bad (by rw [HK.out]; decide), HK.out]
        have hl2 : ¬ (l.length : Int) = 0 := by omega
        have hl3 : ((l.length : Int) != 0) = true := by simpa using hl2
        go_enter Tryz.func63, Tryz.ntmps63
        go_wp2_with fail
        go_ret
        exact ⟨ret_int HE.out.symm, HB0.out⟩
      case pos =>
        have HL := hide hl
        have hl3 : ((l.length : Int) != 0) = false := by simp [hl]
        clear hl
        by_cases hi : ix < 0
        case pos =>
          have HK : Hid (knE u m 1 ix l.length = 15) := by unfold Hid knE mostK subsK; simp [HL.out, hi]
          have HE : Hid (errM u m [(⟨1, ix, l⟩ : Lm)] = 15) := by unfold Hid; rw [errM_bad (by rw [HK.out]; decide), HK.out]
          go_enter Tryz.func63, Tryz.ntmps63
          go_wp2_with fail
          go_ret
          exact ⟨ret_int HE.out.symm, HB0.out⟩
        case neg =>
          by_cases hj : (u : Int) ≤ ix
          case pos =>
            have HK : Hid (knE u m 1 ix l.length = 15) := by unfold Hid knE mostK subsK; simp [HL.out, hi, hj]
            have HE : Hid (errM u m [(⟨1, ix, l⟩ : Lm)] = 15) := by unfold Hid; rw [errM_bad (by rw [HK.out]; decide), HK.out]
            go_enter Tryz.func63, Tryz.ntmps63
            go_wp2_with fail
            go_ret
            exact ⟨ret_int HE.out.symm, HB0.out⟩
          case neg =>
            have HK : Hid (knE u m 1 ix l.length = 0) := by unfold Hid knE mostK subsK; simp [HL.out, hi, hj]
            have HE := hide (errM_good HK.out)
            have HD : Hid (deepK u 1 = u) := by unfold Hid deepK; first | rfl | simp
            go_enter Tryz.func63, Tryz.ntmps63
            go_wp2_with fail
            go_loopw [10] (fun o wr => KnInv2 (u) m l w o wr ∧ Blk wr w.heap.size #[.int .i64 1, .int .i64 ix, .slice a l.length c] 36) (fun o wr => l.length - (intOf o).toNat)
            case atStart => exact ⟨⟨0, Nat.zero_le _, rfl, by simp [errM], HB0.out⟩, HT0.out⟩
            case round =>
              obtain ⟨⟨k, hk, rfl, he, hb⟩, hT⟩ := hrel
              have HEK := hide he
              have HBK := hide hb
              have HTK := hide hT
              clear he
              have hsz : w.heap.size ≤ wr.heap.size := hb.size
              have t0 : wr.cell? ⟨w.heap.size, 0, none⟩ = some (.int .i64 1) := hT.cell 0
              have t1 : wr.cell? ⟨w.heap.size, 1, none⟩ = some (.int .i64 ix) := hT.cell 1
              have t2 : wr.cell? ⟨w.heap.size, 2, none⟩ = some (.slice a l.length c) := hT.cell 2
              by_cases hlt : k < l.length
              · exact absurd hlt (by have := HL.out; omega)
              · have htk : l.take k = l := List.take_of_length_le (by omega)
                have hge : ¬ ((k : Int) < 0) := by have := HL.out; omega
                have HZ : Hid (0 = errM u m [(⟨1, ix, l⟩ : Lm)]) := by unfold Hid; rw [HE.out, HD.out, ← htk, HEK.out]
                go_wp2_with fail
                go_ret
                exact ⟨ret_int HZ.out, HBK.out⟩
    case neg =>
      by_cases k2 : kd = 2
      case pos =>
        subst k2
        by_cases hl : l.length = 1
        case neg =>
          have HK : Hid (knE u m 2 ix l.length = 2) := by unfold Hid knE mostK subsK; simp [hl]
          have HE : Hid (errM u m [(⟨2, ix, l⟩ : Lm)] = 2) := by unfold Hid; rw [errM_bad (by rw [HK.out]; decide), HK.out]
          have hl2 : ¬ (l.length : Int) = 1 := by omega
          have hl3 : ((l.length : Int) != 1) = true := by simpa using hl2
          go_enter Tryz.func63, Tryz.ntmps63
          go_wp2_with fail
          go_ret
          exact ⟨ret_int HE.out.symm, HB0.out⟩
        case pos =>
          have HL := hide hl
          have hl3 : ((l.length : Int) != 1) = false := by simp [hl]
          clear hl
          by_cases hi : ix < 0
          case pos =>
            have HK : Hid (knE u m 2 ix l.length = 15) := by unfold Hid knE mostK subsK; simp [HL.out, hi]
            have HE : Hid (errM u m [(⟨2, ix, l⟩ : Lm)] = 15) := by unfold Hid; rw [errM_bad (by rw [HK.out]; decide), HK.out]
            go_enter Tryz.func63, Tryz.ntmps63
            go_wp2_with fail
            go_ret
            exact ⟨ret_int HE.out.symm, HB0.out⟩
          case neg =>
            by_cases hj : (1 : Int) ≤ ix
            case pos =>
              have HK : Hid (knE u m 2 ix l.length = 15) := by unfold Hid knE mostK subsK; simp [HL.out, hi, hj]
              have HE : Hid (errM u m [(⟨2, ix, l⟩ : Lm)] = 15) := by unfold Hid; rw [errM_bad (by rw [HK.out]; decide), HK.out]
              go_enter Tryz.func63, Tryz.ntmps63
              go_wp2_with fail
              go_ret
              exact ⟨ret_int HE.out.symm, HB0.out⟩
            case neg =>
              have HK : Hid (knE u m 2 ix l.length = 0) := by unfold Hid knE mostK subsK; simp [HL.out, hi, hj]
              have HE := hide (errM_good HK.out)
              have HD : Hid (deepK u 2 = u + 1) := by unfold Hid deepK; first | rfl | simp
              go_enter Tryz.func63, Tryz.ntmps63
              go_wp2_with fail
              go_loopw [10] (fun o wr => KnInv2 (u + 1) m l w o wr ∧ Blk wr w.heap.size #[.int .i64 2, .int .i64 ix, .slice a l.length c] 36) (fun o wr => l.length - (intOf o).toNat)
              case atStart => exact ⟨⟨0, Nat.zero_le _, rfl, by simp [errM], HB0.out⟩, HT0.out⟩
              case round =>
                obtain ⟨⟨k, hk, rfl, he, hb⟩, hT⟩ := hrel
                have HEK := hide he
                have HBK := hide hb
                have HTK := hide hT
                clear he
                have hsz : w.heap.size ≤ wr.heap.size := hb.size
                have t0 : wr.cell? ⟨w.heap.size, 0, none⟩ = some (.int .i64 2) := hT.cell 0
                have t1 : wr.cell? ⟨w.heap.size, 1, none⟩ = some (.int .i64 ix) := hT.cell 1
                have t2 : wr.cell? ⟨w.heap.size, 2, none⟩ = some (.slice a l.length c) := hT.cell 2
                by_cases hlt : k < l.length
                · obtain ⟨b, o, a', c', rfl, d0, d0', d1, hx⟩ := hs.get hb (fun _ _ h => h) k hlt
                  have HT := hide (errM_take (u + 1) m l k hlt)
                  have hlt2 : (k : Int) < 1 := by have := HL.out; omega
                  have hzk : 1 + sizeM [l[k]] ≤ 1 + sizeM l := by
                    have h1 := sizeM_take l k hlt
                    have h2 := sizeM_take_le l (k + 1)
                    omega
                  clear hb hT
                  go_wp2_with fail
                  refine (IH.out _ (List.getElem_mem hlt) _ _ _ X hx (by omega) (by omega)).mono ?_
                  rintro e w2 ⟨rfl, hb2⟩
                  have HB2 : Hid (Below w.heap.size w w2) := HBK.out.trans (hb2.mono hsz)
                  have HT2 := hide (HTK.out.below hb2 HTK.out.lt)
                  clear hb2
                  by_cases hez : errM (u + 1) m [l[k]] = 0
                  · have HZ := hide hez
                    rw [hez]
                    clear hez
                    go_wp2_with fail
                    go_roundw
                    case rel => exact ⟨⟨k + 1, by omega, by go_num, by rw [HT.out, HEK.out, HZ.out]; rfl, HB2.out⟩, HT2.out⟩
                    case measure => simp [intOf]; omega
                  · have h1 : (errM (u + 1) m [l[k]] == 0) = false := by simpa using hez
                    have h2 : (errM (u + 1) m [l[k]] != 0) = true := by simpa using hez
                    have HZ : Hid (errM (u + 1) m [l[k]] = errM u m [(⟨2, ix, l⟩ : Lm)]) := by
                      have h1 : errM (u + 1) m (l.take (k + 1)) = errM (u + 1) m [l[k]] := by rw [HT.out, HEK.out]; rfl
                      unfold Hid
                      rw [HE.out, HD.out, errM_of_take (l := l) (k := k + 1) (by rw [h1]; exact hez), h1]
                    go_wp2_with fail
                    go_ret
                    exact ⟨ret_int HZ.out, HB2.out⟩
                · have htk : l.take k = l := List.take_of_length_le (by omega)
                  have hge : ¬ ((k : Int) < 1) := by have := HL.out; omega
                  have HZ : Hid (0 = errM u m [(⟨2, ix, l⟩ : Lm)]) := by unfold Hid; rw [HE.out, HD.out, ← htk, HEK.out]
                  go_wp2_with fail
                  go_ret
                  exact ⟨ret_int HZ.out, HBK.out⟩
      case neg =>
        by_cases k3 : kd = 3
        case pos =>
          subst k3
          by_cases hl : l.length = 2
          case neg =>
            have HK : Hid (knE u m 3 ix l.length = 2) := by unfold Hid knE mostK subsK; simp [hl]
            have HE : Hid (errM u m [(⟨3, ix, l⟩ : Lm)] = 2) := by unfold Hid; rw [errM_bad (by rw [HK.out]; decide), HK.out]
            have hl2 : ¬ (l.length : Int) = 2 := by omega
            have hl3 : ((l.length : Int) != 2) = true := by simpa using hl2
            go_enter Tryz.func63, Tryz.ntmps63
            go_wp2_with fail
            go_ret
            exact ⟨ret_int HE.out.symm, HB0.out⟩
          case pos =>
            have HL := hide hl
            have hl3 : ((l.length : Int) != 2) = false := by simp [hl]
            clear hl
            by_cases hi : ix < 0
            case pos =>
              have HK : Hid (knE u m 3 ix l.length = 15) := by unfold Hid knE mostK subsK; simp [HL.out, hi]
              have HE : Hid (errM u m [(⟨3, ix, l⟩ : Lm)] = 15) := by unfold Hid; rw [errM_bad (by rw [HK.out]; decide), HK.out]
              go_enter Tryz.func63, Tryz.ntmps63
              go_wp2_with fail
              go_ret
              exact ⟨ret_int HE.out.symm, HB0.out⟩
            case neg =>
              by_cases hj : (1 : Int) ≤ ix
              case pos =>
                have HK : Hid (knE u m 3 ix l.length = 15) := by unfold Hid knE mostK subsK; simp [HL.out, hi, hj]
                have HE : Hid (errM u m [(⟨3, ix, l⟩ : Lm)] = 15) := by unfold Hid; rw [errM_bad (by rw [HK.out]; decide), HK.out]
                go_enter Tryz.func63, Tryz.ntmps63
                go_wp2_with fail
                go_ret
                exact ⟨ret_int HE.out.symm, HB0.out⟩
              case neg =>
                have HK : Hid (knE u m 3 ix l.length = 0) := by unfold Hid knE mostK subsK; simp [HL.out, hi, hj]
                have HE := hide (errM_good HK.out)
                have HD : Hid (deepK u 3 = u) := by unfold Hid deepK; first | rfl | simp
                go_enter Tryz.func63, Tryz.ntmps63
                go_wp2_with fail
                go_loopw [10] (fun o wr => KnInv2 (u) m l w o wr ∧ Blk wr w.heap.size #[.int .i64 3, .int .i64 ix, .slice a l.length c] 36) (fun o wr => l.length - (intOf o).toNat)
                case atStart => exact ⟨⟨0, Nat.zero_le _, rfl, by simp [errM], HB0.out⟩, HT0.out⟩
                case round =>
                  obtain ⟨⟨k, hk, rfl, he, hb⟩, hT⟩ := hrel
                  have HEK := hide he
                  have HBK := hide hb
                  have HTK := hide hT
                  clear he
                  have hsz : w.heap.size ≤ wr.heap.size := hb.size
                  have t0 : wr.cell? ⟨w.heap.size, 0, none⟩ = some (.int .i64 3) := hT.cell 0
                  have t1 : wr.cell? ⟨w.heap.size, 1, none⟩ = some (.int .i64 ix) := hT.cell 1
                  have t2 : wr.cell? ⟨w.heap.size, 2, none⟩ = some (.slice a l.length c) := hT.cell 2
                  by_cases hlt : k < l.length
                  · obtain ⟨b, o, a', c', rfl, d0, d0', d1, hx⟩ := hs.get hb (fun _ _ h => h) k hlt
                    have HT := hide (errM_take (u) m l k hlt)
                    have hlt2 : (k : Int) < 2 := by have := HL.out; omega
                    have hzk : 1 + sizeM [l[k]] ≤ 1 + sizeM l := by
                      have h1 := sizeM_take l k hlt
                      have h2 := sizeM_take_le l (k + 1)
                      omega
                    clear hb hT
                    go_wp2_with fail
                    refine (IH.out _ (List.getElem_mem hlt) _ _ _ X hx (by omega) (by omega)).mono ?_
                    rintro e w2 ⟨rfl, hb2⟩
                    have HB2 : Hid (Below w.heap.size w w2) := HBK.out.trans (hb2.mono hsz)
                    have HT2 := hide (HTK.out.below hb2 HTK.out.lt)
                    clear hb2
                    by_cases hez : errM (u) m [l[k]] = 0
                    · have HZ := hide hez
                      rw [hez]
                      clear hez
                      go_wp2_with fail
                      go_roundw
                      case rel => exact ⟨⟨k + 1, by omega, by go_num, by rw [HT.out, HEK.out, HZ.out]; rfl, HB2.out⟩, HT2.out⟩
                      case measure => simp [intOf]; omega
                    · have h1 : (errM (u) m [l[k]] == 0) = false := by simpa using hez
                      have h2 : (errM (u) m [l[k]] != 0) = true := by simpa using hez
                      have HZ : Hid (errM (u) m [l[k]] = errM u m [(⟨3, ix, l⟩ : Lm)]) := by
                        have h1 : errM (u) m (l.take (k + 1)) = errM (u) m [l[k]] := by rw [HT.out, HEK.out]; rfl
                        unfold Hid
                        rw [HE.out, HD.out, errM_of_take (l := l) (k := k + 1) (by rw [h1]; exact hez), h1]
                      go_wp2_with fail
                      go_ret
                      exact ⟨ret_int HZ.out, HB2.out⟩
                  · have htk : l.take k = l := List.take_of_length_le (by omega)
                    have hge : ¬ ((k : Int) < 2) := by have := HL.out; omega
                    have HZ : Hid (0 = errM u m [(⟨3, ix, l⟩ : Lm)]) := by unfold Hid; rw [HE.out, HD.out, ← htk, HEK.out]
                    go_wp2_with fail
                    go_ret
                    exact ⟨ret_int HZ.out, HBK.out⟩
        case neg =>
          by_cases k4 : kd = 4
          case pos =>
            subst k4
            by_cases hl : l.length = 0
            case neg =>
              have HK : Hid (knE u m 4 ix l.length = 2) := by unfold Hid knE mostK subsK; simp [hl]
              have HE : Hid (errM u m [(⟨4, ix, l⟩ : Lm)] = 2) := by unfold Hid; rw [errM_bad (by rw [HK.out]; decide), HK.out]
              have hl2 : ¬ (l.length : Int) = 0 := by omega
              have hl3 : ((l.length : Int) != 0) = true := by simpa using hl2
              go_enter Tryz.func63, Tryz.ntmps63
              go_wp2_with fail
              go_ret
              exact ⟨ret_int HE.out.symm, HB0.out⟩
            case pos =>
              have HL := hide hl
              have hl3 : ((l.length : Int) != 0) = false := by simp [hl]
              clear hl
              by_cases hi : ix < 0
              case pos =>
                have HK : Hid (knE u m 4 ix l.length = 15) := by unfold Hid knE mostK subsK; simp [HL.out, hi]
                have HE : Hid (errM u m [(⟨4, ix, l⟩ : Lm)] = 15) := by unfold Hid; rw [errM_bad (by rw [HK.out]; decide), HK.out]
                go_enter Tryz.func63, Tryz.ntmps63
                go_wp2_with fail
                go_ret
                exact ⟨ret_int HE.out.symm, HB0.out⟩
              case neg =>
                by_cases hj : (40 : Int) ≤ ix
                case pos =>
                  have HK : Hid (knE u m 4 ix l.length = 15) := by unfold Hid knE mostK subsK; simp [HL.out, hi, hj]
                  have HE : Hid (errM u m [(⟨4, ix, l⟩ : Lm)] = 15) := by unfold Hid; rw [errM_bad (by rw [HK.out]; decide), HK.out]
                  go_enter Tryz.func63, Tryz.ntmps63
                  go_wp2_with fail
                  go_ret
                  exact ⟨ret_int HE.out.symm, HB0.out⟩
                case neg =>
                  have HK : Hid (knE u m 4 ix l.length = 0) := by unfold Hid knE mostK subsK; simp [HL.out, hi, hj]
                  have HE := hide (errM_good HK.out)
                  have HD : Hid (deepK u 4 = u) := by unfold Hid deepK; first | rfl | simp
                  go_enter Tryz.func63, Tryz.ntmps63
                  go_wp2_with fail
                  go_loopw [10] (fun o wr => KnInv2 (u) m l w o wr ∧ Blk wr w.heap.size #[.int .i64 4, .int .i64 ix, .slice a l.length c] 36) (fun o wr => l.length - (intOf o).toNat)
                  case atStart => exact ⟨⟨0, Nat.zero_le _, rfl, by simp [errM], HB0.out⟩, HT0.out⟩
                  case round =>
                    obtain ⟨⟨k, hk, rfl, he, hb⟩, hT⟩ := hrel
                    have HEK := hide he
                    have HBK := hide hb
                    have HTK := hide hT
                    clear he
                    have hsz : w.heap.size ≤ wr.heap.size := hb.size
                    have t0 : wr.cell? ⟨w.heap.size, 0, none⟩ = some (.int .i64 4) := hT.cell 0
                    have t1 : wr.cell? ⟨w.heap.size, 1, none⟩ = some (.int .i64 ix) := hT.cell 1
                    have t2 : wr.cell? ⟨w.heap.size, 2, none⟩ = some (.slice a l.length c) := hT.cell 2
                    by_cases hlt : k < l.length
                    · exact absurd hlt (by have := HL.out; omega)
                    · have htk : l.take k = l := List.take_of_length_le (by omega)
                      have hge : ¬ ((k : Int) < 0) := by have := HL.out; omega
                      have HZ : Hid (0 = errM u m [(⟨4, ix, l⟩ : Lm)]) := by unfold Hid; rw [HE.out, HD.out, ← htk, HEK.out]
                      go_wp2_with fail
                      go_ret
                      exact ⟨ret_int HZ.out, HBK.out⟩
          case neg =>
            by_cases k5 : kd = 5
            case pos =>
              subst k5
              by_cases hl : l.length = 0
              case neg =>
                have HK : Hid (knE u m 5 ix l.length = 2) := by unfold Hid knE mostK subsK; simp [hl]
                have HE : Hid (errM u m [(⟨5, ix, l⟩ : Lm)] = 2) := by unfold Hid; rw [errM_bad (by rw [HK.out]; decide), HK.out]
                have hl2 : ¬ (l.length : Int) = 0 := by omega
                have hl3 : ((l.length : Int) != 0) = true := by simpa using hl2
                go_enter Tryz.func63, Tryz.ntmps63
                go_wp2_with fail
                go_ret
                exact ⟨ret_int HE.out.symm, HB0.out⟩
              case pos =>
                have HL := hide hl
                have hl3 : ((l.length : Int) != 0) = false := by simp [hl]
                clear hl
                by_cases hi : ix < 0
                case pos =>
                  have HK : Hid (knE u m 5 ix l.length = 15) := by unfold Hid knE mostK subsK; simp [HL.out, hi]
                  have HE : Hid (errM u m [(⟨5, ix, l⟩ : Lm)] = 15) := by unfold Hid; rw [errM_bad (by rw [HK.out]; decide), HK.out]
                  go_enter Tryz.func63, Tryz.ntmps63
                  go_wp2_with fail
                  go_ret
                  exact ⟨ret_int HE.out.symm, HB0.out⟩
                case neg =>
                  by_cases hj : (m : Int) ≤ ix
                  case pos =>
                    have HK : Hid (knE u m 5 ix l.length = 15) := by unfold Hid knE mostK subsK; simp [HL.out, hi, hj]
                    have HE : Hid (errM u m [(⟨5, ix, l⟩ : Lm)] = 15) := by unfold Hid; rw [errM_bad (by rw [HK.out]; decide), HK.out]
                    go_enter Tryz.func63, Tryz.ntmps63
                    go_wp2_with fail
                    go_ret
                    exact ⟨ret_int HE.out.symm, HB0.out⟩
                  case neg =>
                    have HK : Hid (knE u m 5 ix l.length = 0) := by unfold Hid knE mostK subsK; simp [HL.out, hi, hj]
                    have HE := hide (errM_good HK.out)
                    have HD : Hid (deepK u 5 = u) := by unfold Hid deepK; first | rfl | simp
                    go_enter Tryz.func63, Tryz.ntmps63
                    go_wp2_with fail
                    go_loopw [10] (fun o wr => KnInv2 (u) m l w o wr ∧ Blk wr w.heap.size #[.int .i64 5, .int .i64 ix, .slice a l.length c] 36) (fun o wr => l.length - (intOf o).toNat)
                    case atStart => exact ⟨⟨0, Nat.zero_le _, rfl, by simp [errM], HB0.out⟩, HT0.out⟩
                    case round =>
                      obtain ⟨⟨k, hk, rfl, he, hb⟩, hT⟩ := hrel
                      have HEK := hide he
                      have HBK := hide hb
                      have HTK := hide hT
                      clear he
                      have hsz : w.heap.size ≤ wr.heap.size := hb.size
                      have t0 : wr.cell? ⟨w.heap.size, 0, none⟩ = some (.int .i64 5) := hT.cell 0
                      have t1 : wr.cell? ⟨w.heap.size, 1, none⟩ = some (.int .i64 ix) := hT.cell 1
                      have t2 : wr.cell? ⟨w.heap.size, 2, none⟩ = some (.slice a l.length c) := hT.cell 2
                      by_cases hlt : k < l.length
                      · exact absurd hlt (by have := HL.out; omega)
                      · have htk : l.take k = l := List.take_of_length_le (by omega)
                        have hge : ¬ ((k : Int) < 0) := by have := HL.out; omega
                        have HZ : Hid (0 = errM u m [(⟨5, ix, l⟩ : Lm)]) := by unfold Hid; rw [HE.out, HD.out, ← htk, HEK.out]
                        go_wp2_with fail
                        go_ret
                        exact ⟨ret_int HZ.out, HBK.out⟩
            case neg =>
              have HK : Hid (knE u m kd ix l.length = 2) := by unfold Hid knE; rw [if_pos (by omega)]
              have HE : Hid (errM u m [(⟨kd, ix, l⟩ : Lm)] = 2) := by unfold Hid; rw [errM_bad (by rw [HK.out]; decide), HK.out]
              have e1 : (kd == 1) = false := by simpa using k1
              have e2 : (kd == 2) = false := by simpa using k2
              have e3 : (kd == 3) = false := by simpa using k3
              have e4 : (kd == 4) = false := by simpa using k4
              have e5 : (kd == 5) = false := by simpa using k5
              go_enter Tryz.func63, Tryz.ntmps63
              go_wp2_with fail
              go_ret
              exact ⟨ret_int HE.out.symm, HB0.out⟩

set_option maxHeartbeats 1000000 in
theorem lamMay_any (t : Lm) (v : Value) (u m : Int) (w : World) (X : Nat → Prop) (hv : MV w X v t) :
    Calls Tryz.prog 48 #[v, .int .i64 u, .int .i64 m] w fun e w' => e = .returned (.int .i64 (lamE u m t)) ∧ Below w.heap.size w w' := by
  obtain ⟨a, c, rfl, hs⟩ := hv
  have hv : MV w X (.agg #[.int .i64 t.kind, .int .i64 t.idx, .slice a t.subs.length c]) t := ⟨a, c, rfl, hs⟩
  have HB0 : Hid (Below w.heap.size w (w.alloc (.cells #[.int .i64 t.kind, .int .i64 t.idx, .slice a t.subs.length c] 36))) := (Below.refl _ _).alloc (Nat.le_refl _) _
  have hT0 := Blk.new w #[.int .i64 t.kind, .int .i64 t.idx, .slice a t.subs.length c] 36
  go_enter Tryz.func48, Tryz.ntmps48
  by_cases h1 : u < 0
  · have HE : Hid (lamE u m t = 10) := by unfold Hid lamE; rw [if_pos (Or.inl h1)]
    go_wp2_with fail
    go_ret
    exact ⟨ret_int HE.out.symm, HB0.out⟩
  by_cases h2 : 40 < u
  · have HE : Hid (lamE u m t = 10) := by unfold Hid lamE; rw [if_pos (Or.inr h2)]
    go_wp2_with fail
    go_ret
    exact ⟨ret_int HE.out.symm, HB0.out⟩
  go_wp2_with fail
  refine (lamSize_any t _ _ _ X (hv.alloc _) (by omega) (by omega)).mono ?_
  rintro e w1 ⟨rfl, hb1⟩
  have HB1 := hide (HB0.out.trans (hb1.mono (by simp)))
  have T1 := hide (hT0.below hb1 hT0.lt)
  have t0 : w1.cell? ⟨w.heap.size, 0, none⟩ = some (.int .i64 t.kind) := T1.out.cell 0
  have t1 : w1.cell? ⟨w.heap.size, 1, none⟩ = some (.int .i64 t.idx) := T1.out.cell 1
  have t2 : w1.cell? ⟨w.heap.size, 2, none⟩ = some (.slice a t.subs.length c) := T1.out.cell 2
  clear hb1 hT0 HB0
  by_cases h3 : 200 < sizeM [t]
  · have HE : Hid (lamE u m t = 3) := by unfold Hid lamE; rw [if_neg (by omega), if_pos h3]
    have e : min (sizeM [t] : Int) (200 + 1) = 201 := by omega
    rw [e]
    go_wp2_with fail
    go_ret
    exact ⟨ret_int HE.out.symm, HB1.out⟩
  · have HE : Hid (lamE u m t = errM u m [t]) := by unfold Hid lamE; rw [if_neg (by omega), if_neg h3]
    have e : min (sizeM [t] : Int) (200 + 1) = sizeM [t] := by omega
    rw [e]
    have hle : ¬ (200 : Int) < (sizeM [t] : Int) := by omega
    go_wp2_with fail
    refine (lamMay0_any m t _ u _ X (hv.later HB1.out) (by omega) (by omega)).mono ?_
    rintro e w2 ⟨rfl, hb2⟩
    go_wp2_with fail
    go_ret
    exact ⟨ret_int HE.out.symm, HB1.out.trans (hb2.mono HB1.out.size)⟩
end Go.Proofs.YtcdabjekppddjaaGreatDoor

/- What a round that appends a lambda term does. -/
namespace Go.Proofs.YtcdabjekppddjaaGreatDoor
open Go.RowKit
set_option linter.unusedSimpArgs false
set_option linter.unusedVariables false
set_option maxRecDepth 8000

theorem cell_ltM {w : World} {b i : Nat} {v : Value} (h : w.cell? ⟨b, i, none⟩ = some v) : b < w.heap.size := by
  apply Classical.byContradiction
  intro hn
  have e : w.heap[b]? = none := Array.getElem?_eq_none (by omega)
  simp [World.cell?, e] at h
theorem cell_sameM {w w' : World} {b i : Nat} {v : Value} (hb : w'.heap[b]? = w.heap[b]?) (h : w.cell? ⟨b, i, none⟩ = some v) : w'.cell? ⟨b, i, none⟩ = some v := by simpa [World.cell?, hb] using h
/-- What is held while a knot's next term is made. -/
def LmS (B b o : Nat) (kd ix : Int) (a : Option Addr) (n c : Nat) (k1 x1 : Int) (v1 : Value) (w' : World) : Prop :=
  Blk w' B #[.int .i64 kd, .int .i64 ix, .slice a n c] 36 ∧ w'.cell? ⟨b, o, none⟩ = some (.int .i64 k1) ∧ w'.cell? ⟨b, o + 1, none⟩ = some (.int .i64 x1) ∧ w'.cell? ⟨b, o + 2, none⟩ = some v1
theorem LmS.kept {B b o n c : Nat} {kd ix k1 x1 : Int} {a : Option Addr} {v1 : Value} {wr w1 : World} (h : LmS B b o kd ix a n c k1 x1 v1 wr) (h1 : w1.heap[B]? = wr.heap[B]?) (h2 : w1.heap[b]? = wr.heap[b]?) : LmS B b o kd ix a n c k1 x1 v1 w1 :=
  ⟨h1.trans h.1, cell_sameM h2 h.2.1, cell_sameM h2 h.2.2.1, cell_sameM h2 h.2.2.2⟩
theorem LmS.below {B b o n c : Nat} {kd ix k1 x1 : Int} {a : Option Addr} {v1 : Value} {wr w1 : World} (h : LmS B b o kd ix a n c k1 x1 v1 wr) (hb : Below wr.heap.size wr w1) : LmS B b o kd ix a n c k1 x1 v1 w1 :=
  h.kept (hb.block _ h.1.lt) (hb.block _ (cell_ltM h.2.1))

end Go.Proofs.YtcdabjekppddjaaGreatDoor

/- Lambda terms: what is bound from outside is moved; a term is put in (plain). -/
namespace Go.Proofs.YtcdabjekppddjaaGreatDoor
open Go.RowKit
set_option linter.unusedSimpArgs false
set_option linter.unusedVariables false
set_option maxRecDepth 8000

/-- What is bound from outside is bound by so many further on. -/
def higM (y : Int) : Int → List Lm → List Lm
  | _, [] => []
  | d, ⟨k, x, l⟩ :: r => (if k = 1 then (if x < d then ⟨k, x, l⟩ else ⟨1, x + y, []⟩) else ⟨k, x, higM y (deepK d k) l⟩) :: higM y d r
def higT (y d : Int) (t : Lm) : Lm := if t.kind = 1 then (if t.idx < d then t else ⟨1, t.idx + y, []⟩) else ⟨t.kind, t.idx, higM y (deepK d t.kind) t.subs⟩
/-- A term is put for what the nearest binder from outside binds. -/
def insM (z : Lm) : Int → List Lm → List Lm
  | _, [] => []
  | d, ⟨k, x, l⟩ :: r => (if k = 1 then (if x < d then ⟨k, x, l⟩ else if x = d then higT d 0 z else ⟨1, x - 1, []⟩) else ⟨k, x, insM z (deepK d k) l⟩) :: insM z d r
def insT (z : Lm) (d : Int) (t : Lm) : Lm := if t.kind = 1 then (if t.idx < d then t else if t.idx = d then higT d 0 z else ⟨1, t.idx - 1, []⟩) else ⟨t.kind, t.idx, insM z (deepK d t.kind) t.subs⟩
/-- No number is great. -/
def BndM : List Lm → Prop
  | [] => True
  | ⟨_, x, l⟩ :: r => (0 ≤ x ∧ x ≤ 100000) ∧ BndM l ∧ BndM r
theorem BndM_nil : BndM [] := by simp [BndM]
theorem BndM_cons (k x : Int) (l r : List Lm) : BndM (⟨k, x, l⟩ :: r) ↔ (0 ≤ x ∧ x ≤ 100000) ∧ BndM l ∧ BndM r := by simp [BndM]
theorem BndM.at : ∀ {l : List Lm} (k : Nat) (h : k < l.length), BndM l → BndM [l[k]]
  | [], k, h, _ => by simp at h
  | ⟨s, x, l⟩ :: r, 0, h, hb => by
    rw [BndM_cons] at hb
    exact (BndM_cons s x l []).2 ⟨hb.1, hb.2.1, BndM_nil⟩
  | ⟨s, x, l⟩ :: r, k + 1, h, hb => by
    rw [BndM_cons] at hb
    have := BndM.at (l := r) k (by simpa using h) hb.2.2
    simpa using this
end Go.Proofs.YtcdabjekppddjaaGreatDoor


/- Walks: what is bound from outside is moved, as the document says. -/
namespace Go.Proofs.YtcdabjekppddjaaGreatDoor
open Go.RowKit
set_option linter.unusedSimpArgs false
set_option linter.unusedVariables false
set_option maxRecDepth 8000

theorem step_append_eqM {P : Program} {ops : Array Oper} {o : Oper} {a : Act} {K : Act → World → Prop} {Q : Exit → Act → World → Prop} {E : Prop} {w w' : World} {v u v' : Value} (hgd : o.guard = none) (s x : Operand) (t t' : TypeId)
    (ho : o.op = .call { callee := .builtin .append, args := #[s, x], argTypes := #[t, t'] }) (hs : a.eval s = v) (hx : a.eval x = u)
    (hr : (Builtin.append_ #[t, t'] o.type #[v, u]).run P w = .ok v' w') (h : K (a.put o.dst v') w') : if Region.wanted o (yielded ops a.tmps) = true then Oper.wp P o a w K Q else E := by
  have hw : Region.wanted o (yielded ops a.tmps) = true := by simp [Region.wanted, hgd]
  rw [if_pos hw]
  unfold Oper.wp execOp
  simp only [ho, resolve, invoke, builtin, Sem.run_bind, Sem.run_pure, Result.andThen_ok, List.map_toArray, List.map_cons, List.map_nil, hs, hx, hr]
  exact h

end Go.Proofs.YtcdabjekppddjaaGreatDoor


/- Walks: the text of a lambda term, as the document writes it. -/
namespace Go.Proofs.YtcdabjekppddjaaGreatDoor
open Go.RowKit
set_option linter.unusedSimpArgs false
set_option linter.unusedVariables false
set_option maxRecDepth 8000

theorem cell_is {w w' : World} {p : Addr} {v : Value} (h : w.cell? p = some v) (hb : Below w.heap.size w w') : w'.cell? p = some v := by
  have hlt : p.block < w.heap.size := by
    apply Classical.byContradiction
    intro hn
    have : w.cell? p = none := by
      unfold World.cell?
      rw [Array.getElem?_eq_none (by omega)]
    rw [this] at h; cases h
  rw [hb.cell hlt]; exact h
theorem str_cat (a b : List UInt8) : (⟨a.toArray⟩ : ByteArray) ++ ⟨b.toArray⟩ = ⟨(a ++ b).toArray⟩ := by
  apply ByteArray.ext
  simp

end Go.Proofs.YtcdabjekppddjaaGreatDoor


/- Walks: the text of a lambda term, as the program writes it. -/
namespace Go.Proofs.YtcdabjekppddjaaGreatDoor
open Go.RowKit
set_option linter.unusedSimpArgs false
set_option linter.unusedVariables false
set_option maxRecDepth 8000

/-- The library's table of powers, whatever is done from block B on. -/
def Tb (B : Nat) (w : World) : Prop := Lib.TabBelow Tryz.prog B w "internal/strconv.uint64pow10" .u64 Lib.pow10Tab
theorem Tb.on {B : Nat} {w w1 : World} (h : Tb B w) (hb : Below B w w1) : Tb B w1 := Lib.TabBelow.on h hb
/-- A block of one's own, kept where something is written. -/
theorem blk_bfr {w w' : World} {b k T : Nat} {q q' : Value} {cs : Array Value} (h : Blk w k cs T) (hf : BFr w w' b q q') (hk : k ≠ b) (hq : some k ≠ q.ownBlock) : Blk w' k cs T := by
  unfold Blk at *; rw [hf.2.2.2.2.1 k (Blk.lt h) hk hq]; exact h
theorem own_bfr {w w' : World} {b k : Nat} {q q' : Value} (hf : BFr w w' b q q') (hk : k < w.heap.size) (hq : some k ≠ q.ownBlock) : some k ≠ q'.ownBlock := fun e => by
  rcases hf.2.2.2.2.2 _ e.symm with h1 | h1
  · exact hq h1.symm
  · omega
theorem itoa_any (n B : Nat) (hn : n ≤ 1000000) (w : World) (hT : Tb B w) : Calls Tryz.prog 77 #[.int .i64 n] w fun e w' => e = .returned (.string ⟨(Lib.decDigits n).toArray⟩) ∧ Below w.heap.size w w' := by
  refine (Tryz.strconv_Itoa n (by omega) (by omega) w hT.here).mono ?_
  rintro e w' ⟨rfl, k, os, rfl⟩
  refine ⟨?_, Lib.below_grow _ _ (Nat.le_refl _) _ _⟩
  have : Lib.itoa (n : Int) = Lib.decDigits n := by simp [Lib.itoa]
  rw [this]

end Go.Proofs.YtcdabjekppddjaaGreatDoor

/- A stub. -/

/- Walks: which names are constants'. -/
namespace Go.Proofs.YtcdabjekppddjaaGreatDoor
open Go.RowKit
set_option linter.unusedSimpArgs false
set_option linter.unusedVariables false
set_option maxRecDepth 8000

def dec2 (k : Nat) : List UInt8 := if k < 10 then [UInt8.ofNat (48 + k)] else [UInt8.ofNat (48 + k / 10), UInt8.ofNat (48 + k % 10)]
theorem dec2_is {k : Nat} (h : k < 100) : Lib.decDigits k = dec2 k := by
  unfold dec2
  by_cases h1 : k < 10
  · rw [if_pos h1, dec_small h1]
  · rw [if_neg h1, dec_great h1, dec_small (n := k / 10) (by omega), dec_small (n := k % 10) (by omega)]
    rfl
theorem atoi_dec2 : ∀ k, k < 40 → Lib.atoi (dec2 k) = some (k : Int) := by decide
theorem dec2_inj : ∀ k, k < 40 → ∀ j, j < 40 → dec2 k = dec2 j → k = j := by decide

theorem conN_some {n : ByteArray} {k : Nat} (h : conN n = some k) : k < 40 ∧ n.data.toList = 99 :: Lib.decDigits k := by
  unfold conN at h
  have h1 := List.find?_some h
  have h2 := List.mem_of_find?_eq_some h
  exact ⟨by simpa using h2, by simpa using h1⟩
theorem conN_is {n : ByteArray} {k : Nat} (hk : k < 40) (h : n.data.toList = 99 :: Lib.decDigits k) : conN n = some k := by
  cases hc : conN n with
  | none =>
    unfold conN at hc
    rw [List.find?_eq_none] at hc
    exact absurd h (by simpa using hc k (by simpa using hk))
  | some j =>
    obtain ⟨h1, h2⟩ := conN_some hc
    rw [h2] at h
    simp only [List.cons.injEq, true_and] at h
    rw [dec2_is (by omega), dec2_is (by omega)] at h
    rw [dec2_inj j h1 k hk h]

/-- What the library tells of a name that is no number behind its first sign: an error that is there. -/
def Tse (B : Nat) (w : World) : Prop := ∃ tp p, ∀ w', Below B w w' → w'.var? Tryz.prog "strconv.ErrSyntax" = some #[.iface tp p]
theorem Tse.on {B : Nat} {w w1 : World} (h : Tse B w) (hb : Below B w w1) : Tse B w1 := by
  obtain ⟨tp, p, h⟩ := h
  exact ⟨tp, p, fun w' h' => h w' (hb.trans h')⟩
theorem Tse.raise {B B' : Nat} {w w' : World} (h : Tse B w) (hb : Below B w w') (hle : B ≤ B') : Tse B' w' := by
  obtain ⟨tp, p, h⟩ := h
  exact ⟨tp, p, fun w'' h2 => h w'' (hb.trans (h2.mono hle))⟩

theorem name_sz {s : ByteArray} (h : nameB s = true) : 1 ≤ s.size ∧ s.size ≤ 8 := by
  simp [nameB] at h
  omega
theorem tail_list (s : ByteArray) (h : 1 ≤ s.size) : ∃ c, s.data.toList = c :: (s.extract 1 s.size).data.toList := by
  have h1 : (s.extract 1 s.size).data.toList = s.data.toList.drop 1 := by
    rw [ByteArray.data_extract, Array.toList_extract]
    simp [List.extract]
    have : s.data.size = s.size := rfl
    rw [List.take_of_length_le (by simp)]
  rw [h1]
  cases hl : s.data.toList with
  | nil =>
    have : s.data.toList.length = s.size := by rw [Array.length_toList]; rfl
    rw [hl] at this; simp at this; omega
  | cons c r => exact ⟨c, by simp⟩

theorem con_tail {s : ByteArray} {c0 : UInt8} {k : Nat} (hc0 : s.data.toList = c0 :: (s.extract 1 s.size).data.toList) (h : conN s = some k) : Lib.atoi (s.extract 1 s.size).data.toList = some (k : Int) := by
  obtain ⟨h1, h2⟩ := conN_some h
  rw [hc0] at h2
  simp only [List.cons.injEq] at h2
  rw [h2.2, dec2_is (by omega)]
  exact atoi_dec2 k h1
theorem neg_name {s : ByteArray} (hn : nameB s = true) {r : List UInt8} (h : s.data.toList = 99 :: 45 :: r) : False := by
  have hz := name_sz hn
  have hl : s.size = s.data.toList.length := by rw [Array.length_toList]; rfl
  rw [h] at hl
  simp at hl
  have h1 : byteAt s 1 = 45 := by
    unfold byteAt
    rw [dif_pos (by omega)]
    have h2 : s[1]'(by omega) = 45 := by
      have h3 : s.data.toList[1]? = some 45 := by rw [h]; rfl
      rw [Array.getElem?_toList] at h3
      exact (Array.getElem?_eq_some_iff.1 h3).2
    rw [h2]; rfl
  simp [nameB] at hn
  have h4 := hn.2
  unfold alnTo at h4
  rw [List.all_eq_true] at h4
  have h5 := h4 1 (by simp; omega)
  rw [h1] at h5
  revert h5
  decide

set_option maxHeartbeats 1000000 in
theorem constant_any (s : ByteArray) (hn : nameB s = true) (B : Nat) (w : World) (hT : Tb B w) (hS : Tse B w) (hB : B ≤ w.heap.size) :
    Calls Tryz.prog 125 #[.string s] w fun e w' => (∃ n : Int, e = .returned (.tuple #[.int .i64 n, .bool (conN s).isSome]) ∧ ∀ k, conN s = some k → n = k) ∧ Below w.heap.size w w' := by
  have hz := name_sz hn
  obtain ⟨c0, hc0⟩ := tail_list s hz.1
  have hez : (s.extract 1 s.size).size ≤ 18 := by rw [ByteArray.size_extract]; omega
  have HT := hide hT
  have HS := hide hS
  have hsz : (1 : Int) ≤ (s.size : Int) := by omega
  go_enter Tryz.func125, Tryz.ntmps125
  go_wp2_with fail
  cases ha : Lib.atoi (s.extract 1 s.size).data.toList with
  | none =>
    have HC : Hid (conN s = none) := by
      cases hc : conN s with
      | none => rfl
      | some k => rw [con_tail hc0 hc] at ha; cases ha
    obtain ⟨tp, p, hvar⟩ := HS.out
    refine (Tryz.strconv_Atoi_err_var _ hez ha tp p _ (hvar _ (Below.refl _ _))).mono ?_
    rintro e w1 ⟨N, rfl, hN, hNb, hb1⟩
    have HB1 := hide hb1
    clear hb1 hNb hvar
    go_wp2_with fail
    go_ret2
    exact ⟨⟨0, by rw [HC.out]; rfl, fun k hk => by rw [HC.out] at hk; cases hk⟩, HB1.out⟩
  | some n =>
    have hbd := Lib.atoi_bound ha (by have : (s.extract 1 s.size).data.toList.length = (s.extract 1 s.size).size := by rw [Array.length_toList]; rfl
                                      omega)
    refine (Tryz.strconv_Atoi _ n hez ha _).mono ?_
    rintro e w1 ⟨rfl, t, hw1⟩
    have HB1 : Hid (Below w.heap.size w w1) := by unfold Hid; rw [hw1]; exact Lib.bytesWorld_below _ _ _
    clear hw1
    have HA := hide ha
    clear ha
    by_cases h40 : n < 40
    · have hit : (Lib.itoa n).length ≤ 1000 := by
        have := Lib.itoa_length_le n (by omega) (by omega)
        omega
      go_wp2_with fail
      refine (Tryz.strconv_Itoa n (by omega) (by omega) _ (HT.out.on (HB1.out.mono hB)).here).mono ?_
      rintro e w2 ⟨rfl, k2, os2, hw2⟩
      have HB2 : Hid (Below w.heap.size w w2) := by unfold Hid; rw [hw2]; exact HB1.out.trans (Lib.below_grow _ _ HB1.out.size _ _)
      clear hw2
      have hcat : (⟨#[99]⟩ : ByteArray) ++ ⟨(Lib.itoa n).toArray⟩ = ⟨(99 :: Lib.itoa n).toArray⟩ := str_cat [99] (Lib.itoa n)
      have HCE : Hid ((s.toList == 99 :: Lib.itoa n) = (conN s).isSome ∧ ∀ k, conN s = some k → n = k) := by
        refine ⟨?_, fun k hk => ?_⟩
        · rw [Bool.eq_iff_iff]
          constructor
          · intro h
            have h1 : s.toList = 99 :: Lib.itoa n := by simpa using h
            have h2 : s.data.toList = 99 :: Lib.itoa n := by rw [← ByteArray.toList_eq]; exact h1
            by_cases hneg : n < 0
            · rw [Lib.itoa, if_pos hneg] at h2
              exact (neg_name hn h2).elim
            · rw [Lib.itoa, if_neg hneg] at h2
              rw [conN_is (k := n.toNat) (by omega) h2]; rfl
          · intro h
            obtain ⟨k, hk⟩ := Option.isSome_iff_exists.1 h
            have h1 := con_tail hc0 hk
            rw [HA.out] at h1
            obtain ⟨h2, h3⟩ := conN_some hk
            have h4 : n = (k : Int) := Option.some.inj h1
            have h5 : s.toList = 99 :: Lib.itoa n := by rw [ByteArray.toList_eq, h3, h4]; simp [Lib.itoa]
            simpa using h5
        · have h1 := con_tail hc0 hk
          rw [HA.out] at h1
          exact Option.some.inj h1
      clear hc0
      go_wp2_with fail
      go_ret2
      exact ⟨⟨n, by rw [← HCE.out.1]; rfl, HCE.out.2⟩, HB2.out⟩
    · have HC : Hid (conN s = none) := by
        cases hc : conN s with
        | none => rfl
        | some k =>
          have h1 := con_tail hc0 hc
          rw [HA.out] at h1
          have h4 : n = (k : Int) := Option.some.inj h1
          have := (conN_some hc).1
          omega
      go_wp2_with fail
      go_ret2
      exact ⟨⟨n, by rw [HC.out]; rfl, fun k hk => by rw [HC.out] at hk; cases hk⟩, HB1.out⟩
end Go.Proofs.YtcdabjekppddjaaGreatDoor


/- Walks: the document's reader of lambda terms: names and constants. -/
namespace Go.Proofs.YtcdabjekppddjaaGreatDoor
open Go.RowKit
set_option linter.unusedSimpArgs false
set_option linter.unusedVariables false
set_option maxRecDepth 8000

/-- The number of a constant's name. -/
def conZ (n : ByteArray) : Int := match conN n with
  | some k => k
  | none => -1
theorem conN_none {n : ByteArray} (h : ∀ j < 40, n.data.toList ≠ 99 :: Lib.decDigits j) : conN n = none := by
  cases hc : conN n with
  | none => rfl
  | some k => exact absurd (conN_some hc).2 (h k (conN_some hc).1)
set_option maxHeartbeats 1000000 in
theorem constOf_any (n : ByteArray) (w : World) : Calls Tryz.prog 40 #[.string n] w fun e w' => e = .returned (.int .i64 (conZ n)) ∧ Below w.heap.size w w' := by
  go_enter Tryz.func40, Tryz.ntmps40
  go_wp2_with fail
  go_loopw [3] (fun v wr => ∃ k : Nat, v = .int .i64 (k : Int) ∧ k ≤ 40 ∧ Below w.heap.size w wr ∧ ∀ j < k, n.data.toList ≠ 99 :: Lib.decDigits j) (fun v wr => 40 - (intOf v).toNat)
  case atStart => exact ⟨0, rfl, by omega, Below.refl _ _, fun j hj => by omega⟩
  case round =>
    obtain ⟨k, rfl, hk, hb, hno⟩ := hrel
    have HB := hide hb
    have HNO := hide hno
    clear hb hno
    by_cases hlt : k < 40
    · go_wp2_with fail
      refine (dec_any k (by omega) _).mono ?_
      rintro e w1 ⟨rfl, hb1⟩
      have HB1 := hide (HB.out.trans (hb1.mono HB.out.size))
      clear hb1
      have hdl : (Lib.decDigits k).length ≤ 1000 := by have := dec_len k; omega
      have hcat : (⟨#[99]⟩ : ByteArray) ++ ⟨(Lib.decDigits k).toArray⟩ = ⟨(99 :: Lib.decDigits k).toArray⟩ := str_cat [99] (Lib.decDigits k)
      by_cases he : n.data.toList = 99 :: Lib.decDigits k
      · have HC : Hid (conZ n = k) := by unfold Hid conZ; rw [conN_is hlt he]
        have he2 : (n.toList == 99 :: Lib.decDigits k) = true := by rw [ByteArray.toList_eq, beq_iff_eq]; exact he
        clear he
        go_wp2_with fail
        go_ret
        exact ⟨by rw [HC.out]; rfl, HB1.out⟩
      · have HNE := hide he
        have he2 : (n.toList == 99 :: Lib.decDigits k) = false := by rw [ByteArray.toList_eq, beq_eq_false_iff_ne]; exact he
        clear he
        go_wp2_with fail
        go_roundw
        case rel => exact ⟨k + 1, by go_num, by omega, HB1.out, fun j hj => by
          by_cases h : j = k
          · subst h; exact HNE.out
          · exact HNO.out j (by omega)⟩
        case measure => simp [intOf]; omega
    · have HC : Hid (conZ n = -1) := by unfold Hid conZ; rw [conN_none (fun j hj => HNO.out j (by omega))]
      go_wp2_with fail
      go_ret
      exact ⟨by rw [HC.out]; rfl, HB.out⟩
end Go.Proofs.YtcdabjekppddjaaGreatDoor

/- Walks: combinators as a lambda term, as the document says. -/
namespace Go.Proofs.YtcdabjekppddjaaGreatDoor
open Go.RowKit
set_option linter.unusedSimpArgs false
set_option linter.unusedVariables false
set_option maxRecDepth 8000

/-- What is told: a lambda term, or what is wrong and nothing. -/
def LtP (r : Int × Lm) (w : World) (e : Ending) (w' : World) : Prop := Below w.heap.size w w' ∧ ∃ a c, e = .returned (.tuple #[.agg #[.int .i64 r.2.kind, .int .i64 r.2.idx, .slice a r.2.subs.length c], .int .i64 r.1]) ∧ SlM w' (fun b => w.heap.size ≤ b) a r.2.subs ∧ (r.1 ≠ 0 → r.2 = nilL ∧ a = none ∧ c = 0)
theorem set3_other {w : World} {R : Nat} {u0 u1 u2 : Value} (b : Nat) (hb : b ≠ R) : (((w.setCell ⟨R, 0, none⟩ u0).setCell ⟨R, 1, none⟩ u1).setCell ⟨R, 2, none⟩ u2).heap[b]? = w.heap[b]? := by
  rw [Below.heap_setCell _ _ _ _ (by simpa using hb), Below.heap_setCell _ _ _ _ (by simpa using hb), Below.heap_setCell _ _ _ _ (by simpa using hb)]
theorem set3_below {w wz : World} {R : Nat} (h : Below w.heap.size w wz) (hR : w.heap.size ≤ R) (u0 u1 u2 : Value) : Below w.heap.size w (((wz.setCell ⟨R, 0, none⟩ u0).setCell ⟨R, 1, none⟩ u1).setCell ⟨R, 2, none⟩ u2) :=
  ((h.setCell (by simpa using hR) _).setCell (by simpa using hR) _).setCell (by simpa using hR) _
theorem leafMV (w : World) (X : Nat → Prop) (k x : Int) : MV w X (.agg #[.int .i64 k, .int .i64 x, .slice none 0 0]) ⟨k, x, []⟩ := ⟨none, 0, rfl, ⟨by simp, Or.inl rfl⟩⟩
theorem fun_b (B : Nat) (x : Lm) (xv : Value) (w : World) (hx : MV w (fun b => B ≤ b) xv x) (hB : B ≤ w.heap.size) :
    Calls Tryz.prog 38 #[xv] w fun e w' => ∃ a c, e = .returned (.agg #[.int .i64 2, .int .i64 0, .slice a 1 c]) ∧ MV w' (fun b => B ≤ b) (.agg #[.int .i64 2, .int .i64 0, .slice a 1 c]) ⟨2, 0, [x]⟩ ∧ Below w.heap.size w w' := by
  refine (funQ_any x xv w _ hx).mono ?_
  rintro e w' ⟨a, c, rfl, hs, hb⟩
  exact ⟨a, c, rfl, ⟨a, c, rfl, hs.mono fun b h _ => h.elim id fun h => Nat.le_trans hB h⟩, hb⟩
theorem app_b (B : Nat) (f x : Lm) (fv xv : Value) (w : World) (hf : MV w (fun b => B ≤ b) fv f) (hx : MV w (fun b => B ≤ b) xv x) (hB : B ≤ w.heap.size) :
    Calls Tryz.prog 37 #[fv, xv] w fun e w' => ∃ a c, e = .returned (.agg #[.int .i64 3, .int .i64 0, .slice a 2 c]) ∧ MV w' (fun b => B ≤ b) (.agg #[.int .i64 3, .int .i64 0, .slice a 2 c]) ⟨3, 0, [f, x]⟩ ∧ Below w.heap.size w w' := by
  refine (appQ_any f x fv xv w _ hf hx).mono ?_
  rintro e w' ⟨a, c, rfl, hs, hb⟩
  exact ⟨a, c, rfl, ⟨a, c, rfl, hs.mono fun b h _ => h.elim id fun h => Nat.le_trans hB h⟩, hb⟩

set_option maxHeartbeats 4000000 in
theorem lamOf_any (n : Nat) : ∀ (t : Tm) (v : Value) (w : World) (X : Nat → Prop), OkC t → TV w X v t → sizeL [t] ≤ n →
    Calls Tryz.prog 14 #[v] w fun e w' => LtP (toL n t) w e w' := by
  induction n with
  | zero => intro t v w X _ _ h; have := size_posC t; omega
  | succ n ih =>
    intro t v w X ht hv hz
    have IH := hide ih
    clear ih
    obtain ⟨a, c, rfl, hs⟩ := hv
    generalize hW : ((w.alloc (.cells #[.string t.name, .slice a t.args.length c] 24)).alloc (.cells #[.int .i64 0, .int .i64 0, .slice none 0 0] 36)) = w3
    have K3 : Hid (Below w.heap.size w w3) := by unfold Hid; rw [← hW]; exact ((Below.refl _ _).alloc (Nat.le_refl _) _).alloc (by simp) _
    have T3 : Hid (Blk w3 w.heap.size #[.string t.name, .slice a t.args.length c] 24) := by unfold Hid; rw [← hW]; exact (Blk.new w _ _).alloc _
    have R3 : Hid (Blk w3 (w.heap.size + 1) #[.int .i64 0, .int .i64 0, .slice none 0 0] 36) := by
      unfold Hid; rw [← hW]
      have h := Blk.new (w.alloc (.cells #[.string t.name, .slice a t.args.length c] 24)) #[.int .i64 0, .int .i64 0, .slice none 0 0] 36
      rw [World.size_alloc] at h
      exact h
    have HZ3 : Hid (w3.heap.size = w.heap.size + 2) := by unfold Hid; rw [← hW]; simp
    have SL3 := hide ((hs.mono (Y := fun b => b < w.heap.size) fun b _ h => h).later K3.out)
    have HW := hide hW
    clear hW hs
    go_enter Tryz.func14, Tryz.ntmps14
    go_upto_region 1 with fail
    rw [HW.out]
    clear HW
    obtain ⟨R, hR⟩ : ∃ R, R = w.heap.size + 1 := ⟨_, rfl⟩
    rw [← hR] at R3 ⊢
    obtain ⟨P, hP⟩ : ∃ P, P = w.heap.size := ⟨_, rfl⟩
    rw [← hP] at T3 ⊢
    have HOZ : Hid (R = w.heap.size + 1 ∧ P = w.heap.size) := ⟨hR, hP⟩
    have HRW : Hid (w.heap.size ≤ R) := by unfold Hid; omega
    have HNE : Hid (∀ b, w3.heap.size ≤ b → b ≠ R) := fun b hb => by have := HZ3.out; omega
    clear hR hP
    have c0 : w3.cell? ⟨P, 0, none⟩ = some (.string t.name) := T3.out.cell 0
    have c1 : w3.cell? ⟨P, 1, none⟩ = some (.slice a t.args.length c) := T3.out.cell 1
    have cl := T3.out.lt
    have ENDS : Hid (∀ (wz : World) (k x : Int) (az : Option Addr) (l cz : Nat) (ls : List Lm), l = ls.length → Below w.heap.size w wz → MV wz (fun b => w3.heap.size ≤ b) (.agg #[.int .i64 k, .int .i64 x, .slice az l cz]) ⟨k, x, ls⟩ → toL (n + 1) t = (0, ⟨k, x, ls⟩) → ∀ u0 u1 u2 : Value, LtP (toL (n + 1) t) w (.returned (.tuple #[.agg #[.int .i64 k, .int .i64 x, .slice az l cz], .int .i64 0])) (((wz.setCell ⟨R, 0, none⟩ u0).setCell ⟨R, 1, none⟩ u1).setCell ⟨R, 2, none⟩ u2)) := fun wz k x az l cz ls hl hb hm hr u0 u1 u2 => by
      subst hl
      rw [hr]
      refine ⟨set3_below hb HRW.out _ _ _, az, cz, rfl, ?_, fun h => absurd rfl h⟩
      obtain ⟨a', c', e', hs'⟩ := hm
      simp only [Value.agg.injEq, Array.mk.injEq, List.cons.injEq, Value.slice.injEq, true_and, and_true] at e'
      obtain ⟨rfl, rfl⟩ := e'
      exact (hs'.kept fun b hb => set3_other b (HNE.out b hb)).mono fun b hb _ => Nat.le_trans K3.out.size hb
    have ENDE : Hid (∀ (wz : World) (er : Int), Below w.heap.size w wz → toL (n + 1) t = (er, nilL) → ∀ u0 u1 u2 : Value, LtP (toL (n + 1) t) w (.returned (.tuple #[.agg #[.int .i64 0, .int .i64 0, .slice none 0 0], .int .i64 er])) (((wz.setCell ⟨R, 0, none⟩ u0).setCell ⟨R, 1, none⟩ u1).setCell ⟨R, 2, none⟩ u2)) := fun wz er hb hr u0 u1 u2 => by
      rw [hr]
      exact ⟨set3_below hb HRW.out _ _ _, none, 0, rfl, ⟨by simp [nilL], Or.inl rfl⟩, fun _ => ⟨rfl, rfl, rfl⟩⟩
    have KK3 : Hid (Below w3.heap.size w3 w3) := Below.refl _ _
    rcases ht.look with ⟨s, rfl, hnm⟩ | ⟨f, x, rfl, hf, hx⟩
    · have c1 : w3.cell? ⟨P, 1, none⟩ = some (.slice a 0 c) := c1
      have HL := hide (toL_leaf n s)
      have HNM := hide hnm
      clear hnm
      by_cases zi : s = ⟨#[105]⟩
      · have HRES : Hid (toL (n + 1) ⟨s, []⟩ = (0, iL)) := by unfold Hid; rw [HL.out]; unfold leafL; rw [if_pos zi]
        have n1 : (s.toList == [105]) = true := nm_yes zi
        clear zi
        go_wp2_with fail
        refine (varQ_any 0 _).mono ?_
        rintro e v0 ⟨rfl, hbx⟩
        have KC0 := hide (KK3.out.trans (hbx.mono KK3.out.size))
        have Mx := hide (leafMV v0 (fun b => w3.heap.size ≤ b) 1 0)
        clear hbx
        go_wp2_with fail
        refine (fun_b w3.heap.size _ _ _ Mx.out KC0.out.size).mono ?_
        rintro e v1 ⟨ar, cr, rfl, hmx, hbx⟩
        have KC1 := hide (KC0.out.trans (hbx.mono KC0.out.size))
        have Mx_1 := hide (Mx.out.later hbx)
        have Mr := hide (hmx)
        clear hbx hmx
        have RE := hide (R3.out.below KC1.out R3.out.lt)
        have y0 : v1.cell? ⟨R, 0, none⟩ = some (.int .i64 0) := RE.out.cell 0
        have y1 : v1.cell? ⟨R, 1, none⟩ = some (.int .i64 0) := RE.out.cell 1
        have y2 : v1.cell? ⟨R, 2, none⟩ = some (.slice none 0 0) := RE.out.cell 2
        have yf := RE.out.frozen
        have yl := RE.out.lt
        go_wp2_with fail
        refine bodyPost_ret (v := .tuple #[.agg #[.int .i64 2, .int .i64 0, .slice ar 1 cr], .int .i64 0]) (by simp [results, Tryz.results14, go_sem, World.cell?_setCell_same, World.cell?_setCell_other, y0, y1, y2]) rfl ?_
        exact ENDS.out v1 2 0 _ _ _ _ (by first | rfl | simp) (K3.out.trans (KC1.out.mono K3.out.size)) Mr.out HRES.out _ _ _
      have n1 : (s.toList == [105]) = false := nm_no zi
      by_cases zk : s = ⟨#[107]⟩
      · have HRES : Hid (toL (n + 1) ⟨s, []⟩ = (0, kL)) := by unfold Hid; rw [HL.out]; unfold leafL; rw [if_neg zi, if_pos zk]
        have n2 : (s.toList == [107]) = true := nm_yes zk
        clear zi zk
        go_wp2_with fail
        refine (varQ_any 1 _).mono ?_
        rintro e v0 ⟨rfl, hbx⟩
        have KC0 := hide (KK3.out.trans (hbx.mono KK3.out.size))
        have Mx := hide (leafMV v0 (fun b => w3.heap.size ≤ b) 1 1)
        clear hbx
        go_wp2_with fail
        refine (fun_b w3.heap.size _ _ _ Mx.out KC0.out.size).mono ?_
        rintro e v1 ⟨ay, cy, rfl, hmx, hbx⟩
        have KC1 := hide (KC0.out.trans (hbx.mono KC0.out.size))
        have Mx_1 := hide (Mx.out.later hbx)
        have My := hide (hmx)
        clear hbx hmx
        go_wp2_with fail
        refine (fun_b w3.heap.size _ _ _ My.out KC1.out.size).mono ?_
        rintro e v2 ⟨ar, cr, rfl, hmx, hbx⟩
        have KC2 := hide (KC1.out.trans (hbx.mono KC1.out.size))
        have Mx_2 := hide (Mx_1.out.later hbx)
        have My_2 := hide (My.out.later hbx)
        have Mr := hide (hmx)
        clear hbx hmx
        have RE := hide (R3.out.below KC2.out R3.out.lt)
        have y0 : v2.cell? ⟨R, 0, none⟩ = some (.int .i64 0) := RE.out.cell 0
        have y1 : v2.cell? ⟨R, 1, none⟩ = some (.int .i64 0) := RE.out.cell 1
        have y2 : v2.cell? ⟨R, 2, none⟩ = some (.slice none 0 0) := RE.out.cell 2
        have yf := RE.out.frozen
        have yl := RE.out.lt
        go_wp2_with fail
        refine bodyPost_ret (v := .tuple #[.agg #[.int .i64 2, .int .i64 0, .slice ar 1 cr], .int .i64 0]) (by simp [results, Tryz.results14, go_sem, World.cell?_setCell_same, World.cell?_setCell_other, y0, y1, y2]) rfl ?_
        exact ENDS.out v2 2 0 _ _ _ _ (by first | rfl | simp) (K3.out.trans (KC2.out.mono K3.out.size)) Mr.out HRES.out _ _ _
      have n2 : (s.toList == [107]) = false := nm_no zk
      by_cases zs : s = ⟨#[115]⟩
      · have HRES : Hid (toL (n + 1) ⟨s, []⟩ = (0, sL)) := by unfold Hid; rw [HL.out]; unfold leafL; rw [if_neg zi, if_neg zk, if_pos zs]
        have n3 : (s.toList == [115]) = true := nm_yes zs
        clear zi zk zs
        go_wp2_with fail
        refine (varQ_any 2 _).mono ?_
        rintro e v0 ⟨rfl, hbx⟩
        have KC0 := hide (KK3.out.trans (hbx.mono KK3.out.size))
        have Mp := hide (leafMV v0 (fun b => w3.heap.size ≤ b) 1 2)
        clear hbx
        go_wp2_with fail
        refine (varQ_any 0 _).mono ?_
        rintro e v1 ⟨rfl, hbx⟩
        have KC1 := hide (KC0.out.trans (hbx.mono KC0.out.size))
        have Mp_1 := hide (Mp.out.later hbx)
        have Mq := hide (leafMV v1 (fun b => w3.heap.size ≤ b) 1 0)
        clear hbx
        go_wp2_with fail
        refine (app_b w3.heap.size _ _ _ _ _ Mp_1.out Mq.out KC1.out.size).mono ?_
        rintro e v2 ⟨apq, cpq, rfl, hmx, hbx⟩
        have KC2 := hide (KC1.out.trans (hbx.mono KC1.out.size))
        have Mp_2 := hide (Mp_1.out.later hbx)
        have Mq_2 := hide (Mq.out.later hbx)
        have Mpq := hide (hmx)
        clear hbx hmx
        go_wp2_with fail
        refine (varQ_any 1 _).mono ?_
        rintro e v3 ⟨rfl, hbx⟩
        have KC3 := hide (KC2.out.trans (hbx.mono KC2.out.size))
        have Mp_3 := hide (Mp_2.out.later hbx)
        have Mq_3 := hide (Mq_2.out.later hbx)
        have Mpq_3 := hide (Mpq.out.later hbx)
        have Mg := hide (leafMV v3 (fun b => w3.heap.size ≤ b) 1 1)
        clear hbx
        go_wp2_with fail
        refine (varQ_any 0 _).mono ?_
        rintro e v4 ⟨rfl, hbx⟩
        have KC4 := hide (KC3.out.trans (hbx.mono KC3.out.size))
        have Mp_4 := hide (Mp_3.out.later hbx)
        have Mq_4 := hide (Mq_3.out.later hbx)
        have Mpq_4 := hide (Mpq_3.out.later hbx)
        have Mg_4 := hide (Mg.out.later hbx)
        have Mh := hide (leafMV v4 (fun b => w3.heap.size ≤ b) 1 0)
        clear hbx
        go_wp2_with fail
        refine (app_b w3.heap.size _ _ _ _ _ Mg_4.out Mh.out KC4.out.size).mono ?_
        rintro e v5 ⟨agh, cgh, rfl, hmx, hbx⟩
        have KC5 := hide (KC4.out.trans (hbx.mono KC4.out.size))
        have Mp_5 := hide (Mp_4.out.later hbx)
        have Mq_5 := hide (Mq_4.out.later hbx)
        have Mpq_5 := hide (Mpq_4.out.later hbx)
        have Mg_5 := hide (Mg_4.out.later hbx)
        have Mh_5 := hide (Mh.out.later hbx)
        have Mgh := hide (hmx)
        clear hbx hmx
        go_wp2_with fail
        refine (app_b w3.heap.size _ _ _ _ _ Mpq_5.out Mgh.out KC5.out.size).mono ?_
        rintro e v6 ⟨ab, cb, rfl, hmx, hbx⟩
        have KC6 := hide (KC5.out.trans (hbx.mono KC5.out.size))
        have Mp_6 := hide (Mp_5.out.later hbx)
        have Mq_6 := hide (Mq_5.out.later hbx)
        have Mpq_6 := hide (Mpq_5.out.later hbx)
        have Mg_6 := hide (Mg_5.out.later hbx)
        have Mh_6 := hide (Mh_5.out.later hbx)
        have Mgh_6 := hide (Mgh.out.later hbx)
        have Mb := hide (hmx)
        clear hbx hmx
        go_wp2_with fail
        refine (fun_b w3.heap.size _ _ _ Mb.out KC6.out.size).mono ?_
        rintro e v7 ⟨ab1, cb1, rfl, hmx, hbx⟩
        have KC7 := hide (KC6.out.trans (hbx.mono KC6.out.size))
        have Mp_7 := hide (Mp_6.out.later hbx)
        have Mq_7 := hide (Mq_6.out.later hbx)
        have Mpq_7 := hide (Mpq_6.out.later hbx)
        have Mg_7 := hide (Mg_6.out.later hbx)
        have Mh_7 := hide (Mh_6.out.later hbx)
        have Mgh_7 := hide (Mgh_6.out.later hbx)
        have Mb_7 := hide (Mb.out.later hbx)
        have Mb1 := hide (hmx)
        clear hbx hmx
        go_wp2_with fail
        refine (fun_b w3.heap.size _ _ _ Mb1.out KC7.out.size).mono ?_
        rintro e v8 ⟨ab2, cb2, rfl, hmx, hbx⟩
        have KC8 := hide (KC7.out.trans (hbx.mono KC7.out.size))
        have Mp_8 := hide (Mp_7.out.later hbx)
        have Mq_8 := hide (Mq_7.out.later hbx)
        have Mpq_8 := hide (Mpq_7.out.later hbx)
        have Mg_8 := hide (Mg_7.out.later hbx)
        have Mh_8 := hide (Mh_7.out.later hbx)
        have Mgh_8 := hide (Mgh_7.out.later hbx)
        have Mb_8 := hide (Mb_7.out.later hbx)
        have Mb1_8 := hide (Mb1.out.later hbx)
        have Mb2 := hide (hmx)
        clear hbx hmx
        go_wp2_with fail
        refine (fun_b w3.heap.size _ _ _ Mb2.out KC8.out.size).mono ?_
        rintro e v9 ⟨ar, cr, rfl, hmx, hbx⟩
        have KC9 := hide (KC8.out.trans (hbx.mono KC8.out.size))
        have Mp_9 := hide (Mp_8.out.later hbx)
        have Mq_9 := hide (Mq_8.out.later hbx)
        have Mpq_9 := hide (Mpq_8.out.later hbx)
        have Mg_9 := hide (Mg_8.out.later hbx)
        have Mh_9 := hide (Mh_8.out.later hbx)
        have Mgh_9 := hide (Mgh_8.out.later hbx)
        have Mb_9 := hide (Mb_8.out.later hbx)
        have Mb1_9 := hide (Mb1_8.out.later hbx)
        have Mb2_9 := hide (Mb2.out.later hbx)
        have Mr := hide (hmx)
        clear hbx hmx
        have RE := hide (R3.out.below KC9.out R3.out.lt)
        have y0 : v9.cell? ⟨R, 0, none⟩ = some (.int .i64 0) := RE.out.cell 0
        have y1 : v9.cell? ⟨R, 1, none⟩ = some (.int .i64 0) := RE.out.cell 1
        have y2 : v9.cell? ⟨R, 2, none⟩ = some (.slice none 0 0) := RE.out.cell 2
        have yf := RE.out.frozen
        have yl := RE.out.lt
        go_wp2_with fail
        refine bodyPost_ret (v := .tuple #[.agg #[.int .i64 2, .int .i64 0, .slice ar 1 cr], .int .i64 0]) (by simp [results, Tryz.results14, go_sem, World.cell?_setCell_same, World.cell?_setCell_other, y0, y1, y2]) rfl ?_
        exact ENDS.out v9 2 0 _ _ _ _ (by first | rfl | simp) (K3.out.trans (KC9.out.mono K3.out.size)) Mr.out HRES.out _ _ _
      have n3 : (s.toList == [115]) = false := nm_no zs
      have HL2 : Hid (toL (n + 1) ⟨s, []⟩ = leafV s) := by unfold Hid; rw [HL.out]; unfold leafL; rw [if_neg zi, if_neg zk, if_neg zs]
      clear zi zk zs
      go_wp2_with fail
      refine (isVarR_any s _).mono ?_
      rintro e w4 ⟨rfl, hw4⟩
      subst w4
      cases hvb : varB s with
      | true =>
        have HRES : Hid (toL (n + 1) ⟨s, []⟩ = (15, nilL)) := by unfold Hid; rw [HL2.out, leafV_var hvb]
        have RE := hide (R3.out.below KK3.out R3.out.lt)
        have y0 : w3.cell? ⟨R, 0, none⟩ = some (.int .i64 0) := RE.out.cell 0
        have y1 : w3.cell? ⟨R, 1, none⟩ = some (.int .i64 0) := RE.out.cell 1
        have y2 : w3.cell? ⟨R, 2, none⟩ = some (.slice none 0 0) := RE.out.cell 2
        have yf := RE.out.frozen
        have yl := RE.out.lt
        go_wp2_with fail
        refine bodyPost_ret (v := .tuple #[.agg #[.int .i64 0, .int .i64 0, .slice none 0 0], .int .i64 15]) (by simp [results, Tryz.results14, go_sem, World.cell?_setCell_same, World.cell?_setCell_other, y0, y1, y2]) rfl ?_
        exact ENDE.out w3 15 (K3.out.trans (KK3.out.mono K3.out.size)) HRES.out _ _ _
      | false =>
        go_wp2_with fail
        refine (constOf_any s _).mono ?_
        rintro e w5 ⟨rfl, hb5⟩
        have KK5 := hide hb5
        clear hb5
        cases hc : conN s with
        | none =>
          have HRES : Hid (toL (n + 1) ⟨s, []⟩ = (1, nilL)) := by unfold Hid; rw [HL2.out, leafV_no hvb hc]
          rw [show conZ s = -1 by unfold conZ; rw [hc]]
          have RE := hide (R3.out.below KK5.out R3.out.lt)
          have y0 : w5.cell? ⟨R, 0, none⟩ = some (.int .i64 0) := RE.out.cell 0
          have y1 : w5.cell? ⟨R, 1, none⟩ = some (.int .i64 0) := RE.out.cell 1
          have y2 : w5.cell? ⟨R, 2, none⟩ = some (.slice none 0 0) := RE.out.cell 2
          have yf := RE.out.frozen
          have yl := RE.out.lt
          go_wp2_with fail
          refine bodyPost_ret (v := .tuple #[.agg #[.int .i64 0, .int .i64 0, .slice none 0 0], .int .i64 1]) (by simp [results, Tryz.results14, go_sem, World.cell?_setCell_same, World.cell?_setCell_other, y0, y1, y2]) rfl ?_
          exact ENDE.out w5 1 (K3.out.trans (KK5.out.mono K3.out.size)) HRES.out _ _ _
        | some k =>
          have HRES : Hid (toL (n + 1) ⟨s, []⟩ = (0, ⟨4, (k : Int), []⟩)) := by unfold Hid; rw [HL2.out, leafV_con hvb hc]
          rw [show conZ s = (k : Int) by unfold conZ; rw [hc]]
          have hk0 : ¬ (k : Int) < 0 := by omega
          go_wp2_with fail
          refine (conQ_any (k : Int) _).mono ?_
          rintro e v0 ⟨rfl, hbx⟩
          have KC0 := hide (KK5.out.trans (hbx.mono KK5.out.size))
          have Mr := hide (leafMV v0 (fun b => w3.heap.size ≤ b) 4 (k : Int))
          clear hbx
          have RE := hide (R3.out.below KC0.out R3.out.lt)
          have y0 : v0.cell? ⟨R, 0, none⟩ = some (.int .i64 0) := RE.out.cell 0
          have y1 : v0.cell? ⟨R, 1, none⟩ = some (.int .i64 0) := RE.out.cell 1
          have y2 : v0.cell? ⟨R, 2, none⟩ = some (.slice none 0 0) := RE.out.cell 2
          have yf := RE.out.frozen
          have yl := RE.out.lt
          go_wp2_with fail
          refine bodyPost_ret (v := .tuple #[.agg #[.int .i64 4, .int .i64 (k : Int), .slice none 0 0], .int .i64 0]) (by simp [results, Tryz.results14, go_sem, World.cell?_setCell_same, World.cell?_setCell_other, y0, y1, y2]) rfl ?_
          exact ENDS.out v0 4 (k : Int) _ _ _ _ (by first | rfl | simp) (K3.out.trans (KC0.out.mono K3.out.size)) Mr.out HRES.out _ _ _
    · have ha9 : (apT f x).args.length = 2 := rfl
      rw [ha9] at c1 ⊢
      clear ha9
      have HZF : Hid (sizeL [f] ≤ n) := by have h1 := size_ap f x; have h2 := size_posC x; unfold Hid; omega
      have HZX : Hid (sizeL [x] ≤ n) := by have h1 := size_ap f x; have h2 := size_posC f; unfold Hid; omega
      have HCF := hide hf
      have HCX := hide hx
      have HCL := hide (toL_ap n f x)
      obtain ⟨B, o, ab, cb, rfl, d0, d1, hbv⟩ := SL3.out.get (Below.refl w3.heap.size w3) (fun b _ h => h) 0 (by simp [apT])
      obtain ⟨B', o', ab2, cb2, e9, g0, g1, hbv2⟩ := SL3.out.get (Below.refl w3.heap.size w3) (fun b _ h => h) 1 (by simp [apT])
      simp only [Option.some.injEq, Addr.mk.injEq, and_true] at e9
      obtain ⟨rfl, rfl⟩ := e9
      have d0' : w3.cell? ⟨B, o, none⟩ = some (.string f.name) := by simpa [apT] using d0
      have d1' : w3.cell? ⟨B, o + 1, none⟩ = some (.slice ab f.args.length cb) := by simpa [apT] using d1
      have g0' : w3.cell? ⟨B, o + 2, none⟩ = some (.string x.name) := by simpa [apT] using g0
      have g1' : w3.cell? ⟨B, o + 3, none⟩ = some (.slice ab2 x.args.length cb2) := by simpa [apT] using g1
      have HFV : Hid (TV w3 (fun b => b < w.heap.size) (.agg #[.string f.name, .slice ab f.args.length cb]) f) := by unfold Hid; simpa [apT] using hbv
      have HXV : Hid (TV w3 (fun b => b < w.heap.size) (.agg #[.string x.name, .slice ab2 x.args.length cb2]) x) := by unfold Hid; simpa [apT] using hbv2
      have HG := hide (And.intro g0' g1')
      have hBl := World.block_lt_of_cell? w3 _ d0'
      have HBL := hide hBl
      have c1 : w3.cell? ⟨P, 1, none⟩ = some (.slice (some ⟨B, o, none⟩) 2 c) := T3.out.cell 1
      clear d0 d1 hbv g0 g1 hbv2 g0' g1'
      go_wp2_with fail
      refine (IH.out f _ _ _ HCF.out (by exact HFV.out) HZF.out).mono ?_
      rintro e w4 ⟨hb4, au, cu, rfl, hsu, hn1⟩
      have KK4 := hide hb4
      clear hb4 d0' d1' hBl c0 c1 cl
      obtain ⟨⟨er, u⟩, hu⟩ : ∃ r, r = toL n f := ⟨_, rfl⟩
      rw [← hu] at hsu hn1 ⊢
      have HU := hide hu.symm
      clear hu
      simp only at hsu hn1 ⊢
      have KK5 : Hid (Below w3.heap.size w3 (w4.alloc (.cells #[.int .i64 u.kind, .int .i64 u.idx, .slice au u.subs.length cu] 36))) := KK4.out.alloc KK4.out.size _
      have U5 : Hid (Blk (w4.alloc (.cells #[.int .i64 u.kind, .int .i64 u.idx, .slice au u.subs.length cu] 36)) w4.heap.size #[.int .i64 u.kind, .int .i64 u.idx, .slice au u.subs.length cu] 36) := Blk.new w4 _ _
      have SU5 : Hid (SlM (w4.alloc (.cells #[.int .i64 u.kind, .int .i64 u.idx, .slice au u.subs.length cu] 36)) (fun b => w3.heap.size ≤ b) au u.subs) := hsu.later ((Below.refl _ _).alloc (Nat.le_refl _) _)
      clear hsu hn1
      by_cases he : er = 0
      rotate_left
      · have he' : (er == 0) = false := by simpa using he
        have HRES : Hid (toL (n + 1) (apT f x) = (er, nilL)) := by unfold Hid; rw [HCL.out, HU.out, if_neg he]
        go_upto_region 4 with fail
        generalize (w4.alloc (.cells #[.int .i64 u.kind, .int .i64 u.idx, .slice au u.subs.length cu] 36)) = w5 at *
        have RE := hide (R3.out.below KK5.out R3.out.lt)
        have y0 : w5.cell? ⟨R, 0, none⟩ = some (.int .i64 0) := RE.out.cell 0
        have y1 : w5.cell? ⟨R, 1, none⟩ = some (.int .i64 0) := RE.out.cell 1
        have y2 : w5.cell? ⟨R, 2, none⟩ = some (.slice none 0 0) := RE.out.cell 2
        have yf := RE.out.frozen
        have yl := RE.out.lt
        go_wp2_with fail
        refine bodyPost_ret (v := .tuple #[.agg #[.int .i64 0, .int .i64 0, .slice none 0 0], .int .i64 er]) (by simp [results, Tryz.results14, go_sem, World.cell?_setCell_same, World.cell?_setCell_other, y0, y1, y2]) rfl ?_
        exact ENDE.out w5 er (K3.out.trans (KK5.out.mono K3.out.size)) HRES.out _ _ _
      subst he
      go_upto_region 5 with fail
      generalize (w4.alloc (.cells #[.int .i64 u.kind, .int .i64 u.idx, .slice au u.subs.length cu] 36)) = w5 at *
      obtain ⟨PF, hPF⟩ : ∃ PF, PF = w4.heap.size := ⟨_, rfl⟩
      rw [← hPF] at U5 ⊢
      clear hPF
      have T5 := hide (T3.out.below KK5.out T3.out.lt)
      have c1 : w5.cell? ⟨P, 1, none⟩ = some (.slice (some ⟨B, o, none⟩) 2 c) := T5.out.cell 1
      have cl := T5.out.lt
      have g0 : w5.cell? ⟨B, o + 2, none⟩ = some (.string x.name) := (KK5.out.cell (p := ⟨B, o + 2, none⟩) HBL.out).trans HG.out.1
      have g1 : w5.cell? ⟨B, o + 3, none⟩ = some (.slice ab2 x.args.length cb2) := (KK5.out.cell (p := ⟨B, o + 3, none⟩) HBL.out).trans HG.out.2
      have hBl5 : B < w5.heap.size := Nat.lt_of_lt_of_le HBL.out KK5.out.size
      go_wp2_with fail
      refine (IH.out x _ _ _ HCX.out (by exact HXV.out.later KK5.out) HZX.out).mono ?_
      rintro e w6 ⟨hb6, av, cv, rfl, hsv, hn2⟩
      have KK6 := hide (KK5.out.trans (hb6.mono KK5.out.size))
      have U6 := hide (U5.out.below hb6 U5.out.lt)
      have SU6 := hide (SU5.out.later hb6)
      clear hb6 c1 cl g0 g1 hBl5
      obtain ⟨⟨er, u2⟩, hu⟩ : ∃ r, r = toL n x := ⟨_, rfl⟩
      rw [← hu] at hsv hn2 ⊢
      have HU2 := hide hu.symm
      clear hu
      simp only at hsv hn2 ⊢
      have KK7 : Hid (Below w3.heap.size w3 (w6.alloc (.cells #[.int .i64 u2.kind, .int .i64 u2.idx, .slice av u2.subs.length cv] 36))) := KK6.out.alloc KK6.out.size _
      have U7 := hide (U6.out.alloc (.cells #[.int .i64 u2.kind, .int .i64 u2.idx, .slice av u2.subs.length cv] 36))
      have V7 : Hid (Blk (w6.alloc (.cells #[.int .i64 u2.kind, .int .i64 u2.idx, .slice av u2.subs.length cv] 36)) w6.heap.size #[.int .i64 u2.kind, .int .i64 u2.idx, .slice av u2.subs.length cv] 36) := Blk.new w6 _ _
      have SU7 : Hid (SlM (w6.alloc (.cells #[.int .i64 u2.kind, .int .i64 u2.idx, .slice av u2.subs.length cv] 36)) (fun b => w3.heap.size ≤ b) au u.subs) := SU6.out.later ((Below.refl _ _).alloc (Nat.le_refl _) _)
      have SV7 : Hid (SlM (w6.alloc (.cells #[.int .i64 u2.kind, .int .i64 u2.idx, .slice av u2.subs.length cv] 36)) (fun b => w3.heap.size ≤ b) av u2.subs) := (hsv.mono (Y := fun b => w3.heap.size ≤ b) fun b h _ => Nat.le_trans KK5.out.size h).later ((Below.refl _ _).alloc (Nat.le_refl _) _)
      clear hsv hn2
      by_cases he : er = 0
      rotate_left
      · have he' : (er == 0) = false := by simpa using he
        have HRES : Hid (toL (n + 1) (apT f x) = (er, nilL)) := by unfold Hid; rw [HCL.out, HU.out, HU2.out, if_pos rfl, if_neg he]
        go_upto_region 7 with fail
        generalize (w6.alloc (.cells #[.int .i64 u2.kind, .int .i64 u2.idx, .slice av u2.subs.length cv] 36)) = w7 at *
        have RE := hide (R3.out.below KK7.out R3.out.lt)
        have y0 : w7.cell? ⟨R, 0, none⟩ = some (.int .i64 0) := RE.out.cell 0
        have y1 : w7.cell? ⟨R, 1, none⟩ = some (.int .i64 0) := RE.out.cell 1
        have y2 : w7.cell? ⟨R, 2, none⟩ = some (.slice none 0 0) := RE.out.cell 2
        have yf := RE.out.frozen
        have yl := RE.out.lt
        go_wp2_with fail
        refine bodyPost_ret (v := .tuple #[.agg #[.int .i64 0, .int .i64 0, .slice none 0 0], .int .i64 er]) (by simp [results, Tryz.results14, go_sem, World.cell?_setCell_same, World.cell?_setCell_other, y0, y1, y2]) rfl ?_
        exact ENDE.out w7 er (K3.out.trans (KK7.out.mono K3.out.size)) HRES.out _ _ _
      subst he
      have HRES : Hid (toL (n + 1) (apT f x) = (0, ⟨3, 0, [u, u2]⟩)) := by unfold Hid; rw [HCL.out, HU.out, HU2.out, if_pos rfl, if_pos rfl]
      go_upto_region 8 with fail
      generalize (w6.alloc (.cells #[.int .i64 u2.kind, .int .i64 u2.idx, .slice av u2.subs.length cv] 36)) = w7 at *
      obtain ⟨PY, hPY⟩ : ∃ PY, PY = w6.heap.size := ⟨_, rfl⟩
      rw [← hPY] at V7 ⊢
      clear hPY
      have u0 : w7.cell? ⟨PF, 0, none⟩ = some (.int .i64 u.kind) := U7.out.cell 0
      have u1 : w7.cell? ⟨PF, 1, none⟩ = some (.int .i64 u.idx) := U7.out.cell 1
      have u2c : w7.cell? ⟨PF, 2, none⟩ = some (.slice au u.subs.length cu) := U7.out.cell 2
      have ul := U7.out.lt
      have z0 : w7.cell? ⟨PY, 0, none⟩ = some (.int .i64 u2.kind) := V7.out.cell 0
      have z1 : w7.cell? ⟨PY, 1, none⟩ = some (.int .i64 u2.idx) := V7.out.cell 1
      have z2 : w7.cell? ⟨PY, 2, none⟩ = some (.slice av u2.subs.length cv) := V7.out.cell 2
      have zl := V7.out.lt
      go_wp2_with fail
      refine (app_b w3.heap.size u u2 _ _ _ (by exact ⟨au, cu, rfl, SU7.out⟩) (by exact ⟨av, cv, rfl, SV7.out⟩) KK7.out.size).mono ?_
      rintro e w8 ⟨a8, c8, rfl, hm8, hb8⟩
      have KK8 := hide (KK7.out.trans (hb8.mono KK7.out.size))
      have M8 := hide hm8
      clear hb8 hm8 u0 u1 u2c ul z0 z1 z2 zl
      have RE := hide (R3.out.below KK8.out R3.out.lt)
      have y0 : w8.cell? ⟨R, 0, none⟩ = some (.int .i64 0) := RE.out.cell 0
      have y1 : w8.cell? ⟨R, 1, none⟩ = some (.int .i64 0) := RE.out.cell 1
      have y2 : w8.cell? ⟨R, 2, none⟩ = some (.slice none 0 0) := RE.out.cell 2
      have yf := RE.out.frozen
      have yl := RE.out.lt
      go_wp2_with fail
      refine bodyPost_ret (v := .tuple #[.agg #[.int .i64 3, .int .i64 0, .slice a8 2 c8], .int .i64 0]) (by simp [results, Tryz.results14, go_sem, World.cell?_setCell_same, World.cell?_setCell_other, y0, y1, y2]) rfl ?_
      exact ENDS.out w8 3 0 _ _ _ _ rfl (K3.out.trans (KK8.out.mono K3.out.size)) M8.out HRES.out _ _ _
end Go.Proofs.YtcdabjekppddjaaGreatDoor

/- The places of a term, and rows of lists of numbers. -/
namespace Go.Proofs.YtcdabjekppddjaaGreatDoor
open Go.RowKit
set_option linter.unusedSimpArgs false
set_option linter.unusedVariables false

/-- These cells are these lists. -/
def RowP (w : World) (Z : Nat → Prop) : List (List Int) → List Value → Prop
  | [], xs => xs = []
  | z :: r, xs => ∃ u xs', xs = u :: xs' ∧ PV w Z u z ∧ RowP w Z r xs'

theorem RowP.len {w : World} {Z : Nat → Prop} : ∀ {l : List (List Int)} {xs : List Value}, RowP w Z l xs → xs.length = l.length
  | [], xs, h => by simp [RowP] at h; simp [h]
  | z :: l, xs, h => by obtain ⟨u, xs', rfl, _, h⟩ := h; simp [RowP.len h]
theorem RowP.append {w : World} {Z : Nat → Prop} : ∀ {l k : List (List Int)} {xs ys : List Value}, RowP w Z l xs → RowP w Z k ys → RowP w Z (l ++ k) (xs ++ ys)
  | [], k, xs, ys, h, h' => by simp [RowP] at h; subst h; simpa using h'
  | z :: l, k, xs, ys, h, h' => by obtain ⟨u, xs', rfl, hp, h⟩ := h; exact ⟨u, xs' ++ ys, rfl, hp, RowP.append h h'⟩
theorem RowP.imp {w w' : World} {Z Z' : Nat → Prop} (hs : ∀ u z, PV w Z u z → PV w' Z' u z) : ∀ {l : List (List Int)} {xs : List Value}, RowP w Z l xs → RowP w' Z' l xs
  | [], xs, h => h
  | z :: l, xs, h => by obtain ⟨u, xs', e, hp, h⟩ := h; exact ⟨u, xs', e, hs _ _ hp, RowP.imp hs h⟩
theorem RowP.get {w : World} {Z : Nat → Prop} : ∀ {l : List (List Int)} {xs : List Value}, RowP w Z l xs → ∀ i (h : i < l.length), ∃ u, xs[i]? = some u ∧ PV w Z u l[i]
  | [], xs, h, i, hi => by simp at hi
  | z :: l, xs, h, i, hi => by
    obtain ⟨u, xs', rfl, hp, h⟩ := h
    cases i with
    | zero => exact ⟨u, rfl, hp⟩
    | succ i => obtain ⟨u', h1, h2⟩ := RowP.get h i (by simpa using hi); exact ⟨u', by simpa using h1, h2⟩
theorem PV.one {w : World} {Z : Nat → Prop} {u : Value} {z : List Int} (h : PV w Z u z) : u.oneCell' = true := by obtain ⟨a, c, rfl, _⟩ := h; rfl

end Go.Proofs.YtcdabjekppddjaaGreatDoor


/- Walks: the places of a term, as the document says. -/
namespace Go.Proofs.YtcdabjekppddjaaGreatDoor
open Go.RowKit
set_option linter.unusedSimpArgs false
set_option linter.unusedVariables false

/-- A row of lists that is added to, and what stays where it was. -/
def OutAt (w0 : World) (N : Nat) (q0 : Value) (ps : List (List Int)) (q : Value) (xs : List Value) (wr : World) : Prop :=
  wr.ownsRow N 42 1 q ps.length xs ∧ RowP wr (fun b => N ≤ b ∧ some b ≠ q.ownBlock) ps xs ∧ w0.grownBy wr q0.ownBlock ∧ (∀ k, q.ownBlock = some k → q0.ownBlock = some k ∨ w0.heap.size ≤ k)

theorem PV.grownBy {w w' : World} {Z : Nat → Prop} {u : Value} {z : List Int} {r : Option Nat} (h : PV w Z u z) (hg : w.grownBy w' r) (hZ : ∀ b, Z b → some b ≠ r) : PV w' Z u z := by
  have h1 : PV w (fun b => Z b ∧ b < w.heap.size) u z := h.mono fun b h1 h2 => ⟨h1, h2⟩
  have h2 : PV w' (fun b => Z b ∧ b < w.heap.size) u z := h1.kept fun b hx => hg.block b hx.2 (hZ b hx.1)
  exact h2.mono fun b hx _ => hx.1

theorem OutAt.mono {w0 w1 wr : World} {N : Nat} {q0 q1 q : Value} {ps ps1 : List (List Int)} {xs xs1 : List Value} (h : OutAt w0 N q0 ps1 q1 xs1 w1) (h1 : OutAt w1 N q1 ps q xs wr) : OutAt w0 N q0 ps q xs wr := by
  refine ⟨h1.1, h1.2.1, grown_trans h.2.2.1 h1.2.2.1 h.2.2.2, fun k hk => ?_⟩
  rcases h1.2.2.2 k hk with e | e
  · exact h.2.2.2 k e
  · exact Or.inr (Nat.le_trans h.2.2.1.size e)

theorem OutAt.later {w0 w1 w2 : World} {N : Nat} {q0 q : Value} {ps : List (List Int)} {xs : List Value} (h : OutAt w0 N q0 ps q xs w1) (hb : Below w1.heap.size w1 w2) : OutAt w0 N q0 ps q xs w2 :=
  ⟨h.1.kept (w' := w2) (row := none) ⟨hb.os, hb.tape, hb.output, hb.size, fun j hj _ => hb.block j hj⟩ (by rcases Option.eq_none_or_eq_some (Value.ownBlock q) with h | ⟨x, h⟩; exact Or.inl h; exact Or.inr (by rw [h]; simp)),
   h.2.1.imp fun u z hp => hp.later hb, grown_trans h.2.2.1 (grown_of_below hb q.ownBlock) h.2.2.2, h.2.2.2⟩

theorem OutAt.here {w1 : World} {N : Nat} {q0 q : Value} {ps : List (List Int)} {xs : List Value} {w0 : World} (h : OutAt w0 N q0 ps q xs w1) : OutAt w1 N q ps q xs w1 := ⟨h.1, h.2.1, grown_of_below (Below.refl _ _) _, fun _ h => Or.inl h⟩

end Go.Proofs.YtcdabjekppddjaaGreatDoor

/- A range over a function whose rounds all go on: own laws. -/
namespace Go.Proofs.YtcdabjekppddjaaGreatDoor
open Go.RowKit Go.Shelf
set_option linter.unusedSimpArgs false
set_option linter.unusedVariables false
set_option maxRecDepth 8000

end Go.Proofs.YtcdabjekppddjaaGreatDoor

/- Bindings in memory. -/
namespace Go.Proofs.YtcdabjekppddjaaGreatDoor
open Go.RowKit
set_option linter.unusedSimpArgs false
set_option linter.unusedVariables false

/-- A variable and what stands for it. -/
structure Bd where
  nm : ByteArray
  t : Tm

/-- A list of bindings in memory. -/
def BV (w : World) (X : Nat → Prop) (v : Value) (l : List Bd) : Prop :=
  ∃ a c, v = .slice a l.length c ∧ (l.length ≤ 9223372036854775807 ∧ l.length ≤ c) ∧ (l = [] ∨ ∃ b o, a = some ⟨b, o, none⟩ ∧ X b ∧ ∀ i (h : i < l.length), w.cell? ⟨b, o + i * 3, none⟩ = some (.string l[i].nm) ∧ w.cell? ⟨b, o + i * 3 + 1, none⟩ = some (.string l[i].t.name) ∧ ∃ a' c', w.cell? ⟨b, o + i * 3 + 2, none⟩ = some (.slice a' l[i].t.args.length c') ∧ Sl w X a' l[i].t.args)

theorem BV.kept {w w' : World} {X : Nat → Prop} {v : Value} {l : List Bd} (h : BV w X v l) (hk : ∀ b, X b → w'.heap[b]? = w.heap[b]?) : BV w' X v l := by
  obtain ⟨a, c, e, hl, h⟩ := h
  refine ⟨a, c, e, hl, ?_⟩
  rcases h with h | ⟨b, o, ea, hX, h⟩
  · exact Or.inl h
  · refine Or.inr ⟨b, o, ea, hX, fun i hi => ?_⟩
    obtain ⟨h1, h2, a', c', h3, h4⟩ := h i hi
    have hb := hk b hX
    exact ⟨by simpa [World.cell?, hb] using h1, by simpa [World.cell?, hb] using h2, a', c', by simpa [World.cell?, hb] using h3, h4.kept hk⟩
theorem cell_lt {w : World} {b o : Nat} {v : Value} (h : w.cell? ⟨b, o, none⟩ = some v) : b < w.heap.size := by
  rcases Nat.lt_or_ge b w.heap.size with h' | h'
  · exact h'
  · simp [World.cell?, Array.getElem?_eq_none h'] at h
theorem BV.mono {w : World} {X Y : Nat → Prop} {v : Value} {l : List Bd} (h : BV w X v l) (hk : ∀ b, X b → b < w.heap.size → Y b) : BV w Y v l := by
  obtain ⟨a, c, e, hl, h⟩ := h
  refine ⟨a, c, e, hl, ?_⟩
  rcases h with h | ⟨b, o, ea, hX, h⟩
  · exact Or.inl h
  · by_cases h0 : l = []
    · exact Or.inl h0
    · have hp : 0 < l.length := List.length_pos_iff.2 h0
      refine Or.inr ⟨b, o, ea, hk b hX (cell_lt (h 0 hp).1), fun i hi => ?_⟩
      obtain ⟨h1, h2, a', c', h3, h4⟩ := h i hi
      exact ⟨h1, h2, a', c', h3, h4.mono hk⟩
theorem BV.later {w w' : World} {X : Nat → Prop} {v : Value} {l : List Bd} (h : BV w X v l) (hb : Below w.heap.size w w') : BV w' X v l :=
  ((h.mono (Y := fun b => X b ∧ b < w.heap.size) fun b h1 h2 => ⟨h1, h2⟩).kept fun b hx => hb.block b hx.2).mono fun b hx _ => hx.1
theorem BV.alloc {w : World} {X : Nat → Prop} {v : Value} {l : List Bd} (h : BV w X v l) (o : Obj) : BV (w.alloc o) X v l := h.later ((Below.refl _ _).alloc (Nat.le_refl _) o)
theorem BV.get {w : World} {X : Nat → Prop} {a : Option Addr} {n c : Nat} {l : List Bd} (h : BV w X (.slice a n c) l) (i : Nat) (hi : i < l.length) :
    ∃ b o a' c', a = some ⟨b, o, none⟩ ∧ w.cell? ⟨b, o + i * 3, none⟩ = some (.string l[i].nm) ∧ w.cell? ⟨b, o + i * 3 + 1, none⟩ = some (.string l[i].t.name) ∧ w.cell? ⟨b, o + i * 3 + 2, none⟩ = some (.slice a' l[i].t.args.length c') ∧ Sl w X a' l[i].t.args := by
  obtain ⟨a2, c2, e, hl, h⟩ := h
  simp at e
  obtain ⟨rfl, rfl, rfl⟩ := e
  rcases h with h | ⟨b, o, ea, hX, h⟩
  · subst h; simp at hi
  · obtain ⟨h1, h2, a', c', h3, h4⟩ := h i hi
    exact ⟨b, o, a', c', ea, h1, h2, h3, h4⟩

theorem bytes_inj {a b : ByteArray} (h : a.toList = b.toList) : a = b := by
  rw [ByteArray.toList_eq, ByteArray.toList_eq] at h
  cases a with
  | mk x =>
    cases b with
    | mk y => congr 1; exact Array.toList_inj.1 h
theorem bytes_yes {a b : ByteArray} (h : a = b) : (a.toList == b.toList) = true := by rw [h]; simp
theorem bytes_no {a b : ByteArray} (h : a ≠ b) : (a.toList == b.toList) = false := beq_eq_false_iff_ne.2 fun e => h (bytes_inj e)

/-- What stands for a variable. -/
def forT : List Bd → ByteArray → Option Tm
  | [], _ => none
  | d :: r, n => if d.nm = n then some d.t else forT r n
end Go.Proofs.YtcdabjekppddjaaGreatDoor


/- Rows of bindings that a call makes. -/
namespace Go.Proofs.YtcdabjekppddjaaGreatDoor
open Go.RowKit
set_option linter.unusedSimpArgs false
set_option linter.unusedVariables false

/-- A binding, and where those below its term's first knot lie. -/
abbrev Bc := Bd × Option Addr × Nat
instance : Inhabited Bc := ⟨(⟨⟨#[]⟩, ⟨⟨#[]⟩, []⟩⟩, none, 0)⟩
end Go.Proofs.YtcdabjekppddjaaGreatDoor


/- But for some blocks the world is as it was. -/
namespace Go.Proofs.YtcdabjekppddjaaGreatDoor
open Go.RowKit
set_option linter.unusedSimpArgs false
set_option linter.unusedVariables false
set_option maxRecDepth 8000

/-- But for the blocks that Q names the world is as it was. -/
structure ExQ (Q : Nat → Prop) (w w' : World) : Prop where
  os : w'.os = w.os
  tape : w'.tape = w.tape
  output : w'.output = w.output
  size : w.heap.size ≤ w'.heap.size
  block : ∀ k, k < w.heap.size → ¬ Q k → w'.heap[k]? = w.heap[k]?
theorem ExQ.refl (Q : Nat → Prop) (w : World) : ExQ Q w w := ⟨rfl, rfl, rfl, Nat.le_refl _, fun _ _ _ => rfl⟩
theorem ExQ.trans {Q : Nat → Prop} {a b c : World} (h : ExQ Q a b) (k : ExQ Q b c) : ExQ Q a c :=
  ⟨k.os.trans h.os, k.tape.trans h.tape, k.output.trans h.output, Nat.le_trans h.size k.size, fun i hi hn => (k.block i (Nat.lt_of_lt_of_le hi h.size) hn).trans (h.block i hi hn)⟩
/-- One behind the other, the second naming blocks that the first world had not. -/
theorem ExQ.transN {Q R : Nat → Prop} {a b c : World} (h : ExQ Q a b) (k : ExQ R b c) (hR : ∀ i, R i → i < a.heap.size → Q i) : ExQ Q a c :=
  ⟨k.os.trans h.os, k.tape.trans h.tape, k.output.trans h.output, Nat.le_trans h.size k.size, fun i hi hn => (k.block i (Nat.lt_of_lt_of_le hi h.size) (fun hr => hn (hR i hr hi))).trans (h.block i hi hn)⟩
theorem ExQ.mono {Q R : Nat → Prop} {a b : World} (h : ExQ Q a b) (hR : ∀ i, Q i → i < a.heap.size → R i) : ExQ R a b := ⟨h.os, h.tape, h.output, h.size, fun i hi hn => h.block i hi (fun hq => hn (hR i hq hi))⟩
theorem ExQ.drewN {Q : Nat → Prop} {a w : World} (h : ExQ Q a w) (n : Nat) : ExQ Q a (w.drewN n) := ⟨h.os, h.tape, h.output, h.size, h.block⟩
theorem ExQ.drew {Q : Nat → Prop} {a w : World} (h : ExQ Q a w) : ExQ Q a w.drew := ⟨h.os, h.tape, h.output, h.size, h.block⟩
theorem ExQ.set {Q : Nat → Prop} {a w : World} (h : ExQ Q a w) {B : Nat} (hB : Q B) (i : Nat) (v : Value) : ExQ Q a (w.setCell ⟨B, i, none⟩ v) :=
  ⟨h.os, h.tape, h.output, by simpa [World.setCell] using h.size, fun k hk hn => (Below.heap_setCell _ _ _ _ (by simp; intro e; subst e; exact hn hB)).trans (h.block k hk hn)⟩
theorem ExQ.alloc {Q : Nat → Prop} {a w : World} (h : ExQ Q a w) (o : Obj) : ExQ Q a (w.alloc o) :=
  ⟨h.os, h.tape, h.output, by have := h.size; simp; omega, fun k hk hn => (Below.heap_alloc _ _ _ (Nat.lt_of_lt_of_le hk h.size)).trans (h.block k hk hn)⟩
theorem ExQ.grown {Q : Nat → Prop} {a w w' : World} {row : Option Nat} (h : ExQ Q a w) (hg : w.grownBy w' row) (hr : ∀ k, row = some k → a.heap.size ≤ k ∨ Q k) : ExQ Q a w' :=
  ⟨hg.os.trans h.os, hg.tape.trans h.tape, hg.output.trans h.output, Nat.le_trans h.size hg.size, fun k hk hn => (hg.block k (Nat.lt_of_lt_of_le hk h.size) (fun e => by rcases hr k e.symm with h1 | h1; omega; exact hn h1)).trans (h.block k hk hn)⟩
theorem ExQ.below {Q : Nat → Prop} {w w' : World} {B : Nat} (h : ExQ Q w w') (hB : B ≤ w.heap.size) (hQ : ∀ b, Q b → B ≤ b) : Below B w w' :=
  ⟨h.os, h.tape, h.output, h.size, fun k hk => h.block k (by omega) (fun hq => by have := hQ k hq; omega)⟩
end Go.Proofs.YtcdabjekppddjaaGreatDoor

/- A range over a function whose rounds go on or leave by a return: own laws; what takes, and what it is told. -/
namespace Go.Proofs.YtcdabjekppddjaaGreatDoor
open Go.RowKit Go.Shelf
set_option linter.unusedSimpArgs false
set_option linter.unusedVariables false
set_option maxRecDepth 8000

/-- How a round is left: it goes on, or it returns. -/
def rndPost (l : Nat) (r rb rd : Loop) (Post : Bool → World → Prop) : Exit → Act → World → Prop
  | .normal, _, w3 => w3.heap[l]? = some (.loop rb) ∧ Post true (w3.putObj l (.loop r))
  | .ret, _, w3 => w3.heap[l]? = some (.loop rb) ∧ Post false (w3.putObj l (.loop rd))
  | _, _, _ => False

theorem yield_two {P : Program} {n l : Nat} {r : Loop} {args : Array Value} {W : World} {Post : Bool → World → Prop} {assign body : Code} {ps : Array Tmp} {tmps : Array Value} {rb rd : Loop} (hrbz : rb = { r with state := .busy }) (hrdz : rd = { r with state := .done, pending := some .ret }) (hra : r.assign = assign) (hrb : r.body = body) (hrp : r.params = ps) (hrt : r.tmps = tmps) (hl : W.heap[l]? = some (.loop r)) (hr : r.state = .ready) (hp0 : r.pending = none) (hps : args.size = ps.size)
    (h : assign.wpIn (Fence.wide.inRound l) n P (Exit.then (fun a₁ w₁ => w₁.heap[l]? = some (.loop r) ∧ body.wpIn (Fence.wide.inRound l) n P (rndPost l r rb rd Post) a₁ (w₁.putObj l (.loop rb))) (fun _ _ _ => False)) { tmps := (ps.zip args).foldl (fun t (p, v) => t.setIfInBounds p v) tmps, defers := [] } W) :
    YieldAt Fence.wide n P l args W fun e W' => ∃ s, e = .returned (.bool s) ∧ Post s W' := by
  subst hrbz; subst hrdz; subst hra; subst hrb; subst hrp; subst hrt
  refine ⟨r.fn, _, r.assign, r.body, run_yield hl hps, roundIn_of_wpIn trivial (wpIn_mono h ?_)⟩
  rintro e a w1 hp
  cases e with
  | normal =>
    obtain ⟨h1, h2⟩ := hp
    refine ⟨_, run_beginRound h1 hr, wpIn_mono h2 ?_⟩
    rintro e3 a3 w3 h3
    cases e3 with
    | normal =>
      obtain ⟨h3, h4⟩ := h3
      refine ⟨_, _, run_endRound none h3, true, rfl, ?_⟩
      have e4 : ({ r with state := .ready, pending := none } : Loop) = r := by
        obtain ⟨_, _, _, _, _, _, _, _⟩ := r
        simp at hr hp0
        subst hr; subst hp0
        rfl
      have e5 : ({ ({ r with state := .busy } : Loop) with state := if (none : Option Code).isNone then .ready else .done, pending := none } : Loop) = r := by rw [← e4]; rfl
      rw [e5]
      exact h4
    | ret =>
      obtain ⟨h3, h4⟩ := h3
      exact ⟨_, _, run_endRound (some .ret) h3, false, rfl, h4⟩
    | exit id => exact h3.elim
    | goto t => exact h3.elim
    | panic c => exact h3.elim
    | outgrown => exact h3.elim
  | ret => exact hp.elim
  | exit id => exact hp.elim
  | goto t => exact hp.elim
  | panic c => exact hp.elim
  | outgrown => exact hp.elim

/-- The range itself, outermost. -/
theorem wp_range2 {P : Program} {n : Nat} {g : Operand} {ps : Array Tmp} {assign body : Code} {Q : Exit → Act → World → Prop} {a : Act} {w : World} {gf : Nat} {lb : Array Value} (hg : a.eval g = .func (.func gf) #[] lb) (eg : ∀ args w, (callFunc gf args).run P w = .ok (.enter gf args) w)
    (h : ∀ (r : Loop), r.state = .ready → r.pending = none → r.tmps = a.tmps → r.params = ps → r.assign = assign → r.body = body → 
      Calls P gf (#[.func (.yield (w.heap.size + 1)) #[] #[]] ++ lb) ((w.alloc (.deferred (some []))).alloc (.loop r)) fun e W => (∃ v, e = .returned v) ∧ ((W.heap[w.heap.size + 1]? = some (.loop r) ∧ Q .normal { a with defers := { target := .collected w.heap.size, args := #[] } :: a.defers } (W.putObj (w.heap.size + 1) (.loop { r with state := .exhausted }))) ∨
        (W.heap[w.heap.size + 1]? = some (.loop { r with state := .done, pending := some .ret }) ∧ Q .ret { a with defers := { target := .collected w.heap.size, args := #[] } :: a.defers } (W.putObj (w.heap.size + 1) (.loop { r with state := .exhausted, pending := some .ret }))))) :
    (Code.rangeFunc g ps assign body).wpIn Fence.wide n P Q a w := by
  refine wpIn_rangeFunc ?_
  intro fn hfn
  obtain ⟨r, hr⟩ : ∃ r : Loop, r = { state := .ready, pending := none, fn, tmps := a.tmps, params := ps, assign, body, defers := w.heap.size } := ⟨_, rfl⟩
  refine ⟨w.heap.size + 1, [{ target := .collected w.heap.size, args := #[] }], (w.alloc (.deferred (some []))).alloc (.loop r), { target := .fn (.func gf) lb, args := #[.func (.yield (w.heap.size + 1)) #[] #[]] }, (w.alloc (.deferred (some []))).alloc (.loop r), gf, #[.func (.yield (w.heap.size + 1)) #[] #[]] ++ lb, (w.alloc (.deferred (some []))).alloc (.loop r), ?_, ?_, ?_, ?_, ?_, ?_⟩
  · rw [hr]; exact run_enterLoop_outer _ _ _ _ _
  · simp only [resolve, hg]
    simp [go_sem]
  · intro f' hf'; trivial
  · simp [invoke, go_sem, eg]
  · intro h; simp [Fence.wide] at h
  · refine (callsIn_wide.2 (h r (by rw [hr]) (by rw [hr]) (by rw [hr]) (by rw [hr]) (by rw [hr]) (by rw [hr]))).mono ?_
    rintro e W ⟨⟨v, rfl⟩, hc⟩
    rcases hc with ⟨hl, hq⟩ | ⟨hl, hq⟩
    · have e1 := run_endLoop (P := P) hl (by rw [hr]; simp)
      have e2 : r.pending = none := by rw [hr]
      exact ⟨none, _, e1.trans (by rw [e2]), hq⟩
    · have e1 := run_endLoop (P := P) hl (by simp)
      exact ⟨some .ret, _, e1, wpIn_ret hq⟩

/-- What one who takes keeps: what has come, whether more is wanted, the blocks that are his own (f); what he reads besides, and nobody writes (K). -/
abbrev Tk (α : Type) := List α → Bool → (Nat → Prop) → World → Prop
structure TkOk {α : Type} (J : Tk α) (K : Nat → Prop) : Prop where
  inside : ∀ {pre s f W}, J pre s f W → ∀ b, f b ∨ K b → b < W.heap.size
  apart : ∀ {pre s f W}, J pre s f W → ∀ b, K b → ¬ f b
  abide : ∀ {pre s f W W'}, J pre s f W → W.heap.size ≤ W'.heap.size → (∀ b, f b ∨ K b → W'.heap[b]? = W.heap[b]?) → J pre s f W'
/-- It holds still when loops end. -/
def StopOk (S : World → Prop) : Prop := ∀ (W W' : World), S W → W.heap.size ≤ W'.heap.size → (∀ b, b < W.heap.size → W'.heap[b]? = W.heap[b]? ∨ (∃ r, W.heap[b]? = some (.loop r)) ∨ ∃ d, W.heap[b]? = some (.deferred d)) → S W'
theorem StopOk.put {S : World → Prop} (h : StopOk S) {W : World} (hs : S W) {l : Nat} {r : Loop} (hl : W.heap[l]? = some (.loop r)) (o : Obj) : S (W.putObj l o) :=
  h _ _ hs (by simp) fun b hb => by
    by_cases e : b = l
    · subst e; exact Or.inr (Or.inl ⟨r, hl⟩)
    · exact Or.inl (World.putObj_heap_other e)
/-- All of a list, or as much of it as was wanted, has been handed over. -/
def Went {α : Type} (J : Tk α) (all pre : List α) (f g : Nat → Prop) (W : World) (s : Bool) (W' : World) : Prop :=
  ∃ (m : Nat) (f' : Nat → Prop), m ≤ all.length ∧ (s = true → m = all.length) ∧ J (pre ++ all.take m) s f' W' ∧ ExQ (fun b => f b ∨ g b) W W' ∧ ∀ b, f' b → f b ∨ W.heap.size ≤ b

theorem Went.nil {α : Type} {J : Tk α} {pre : List α} {f g : Nat → Prop} {W : World} (h : J pre true f W) : Went J [] pre f g W true W :=
  ⟨0, f, Nat.le_refl _, fun _ => rfl, by simpa using h, ExQ.refl _ _, fun b hb => Or.inl hb⟩
theorem Went.one {α : Type} {J : Tk α} {pre : List α} {x : α} {f f' g : Nat → Prop} {W W' : World} {s : Bool} (h : J (pre ++ [x]) s f' W') (he : ExQ f W W') (hf : ∀ b, f' b → f b ∨ W.heap.size ≤ b) : Went J [x] pre f g W s W' :=
  ⟨1, f', by simp, fun _ => rfl, by simpa using h, he.mono fun b hb _ => Or.inl hb, hf⟩
/-- One behind the other. -/
theorem Went.trans {α : Type} {J : Tk α} {a1 a2 pre : List α} {f f1 g g2 : Nat → Prop} {W W1 W2 : World} {s : Bool} (hj : J (pre ++ a1) true f1 W1) (he : ExQ (fun b => f b ∨ g b) W W1) (hf : ∀ b, f1 b → f b ∨ W.heap.size ≤ b) (h : Went J a2 (pre ++ a1) f1 g2 W1 s W2) (hg : ∀ b, g2 b → g b ∨ W.heap.size ≤ b) : Went J (a1 ++ a2) pre f g W s W2 := by
  obtain ⟨m, f', hm, hs, hj2, he2, hf2⟩ := h
  refine ⟨a1.length + m, f', by simp; omega, fun h => by simp [hs h], ?_, he.transN he2 ?_, ?_⟩
  · rw [List.take_append, List.take_of_length_le (by omega)]
    simpa [List.append_assoc] using hj2
  · rintro i hi hl
    rcases hi with hi | hi
    · rcases hf i hi with h | h
      · exact Or.inl h
      · omega
    · rcases hg i hi with h | h
      · exact Or.inr h
      · omega
  · intro b hb
    have := he.size
    rcases hf2 b hb with h | h
    · exact hf b h
    · right; omega
theorem Went.mono {α : Type} {J : Tk α} {a pre : List α} {f g g' : Nat → Prop} {W W' : World} {s : Bool} (h : Went J a pre f g W s W') (hg : ∀ b, g b → b < W.heap.size → g' b) : Went J a pre f g' W s W' := by
  obtain ⟨m, f', hm, hs, hj, he, hf⟩ := h
  exact ⟨m, f', hm, hs, hj, he.mono fun b hb hl => hb.imp id (fun h => hg b h hl), hf⟩
/-- From a little earlier on. -/
theorem Went.from {α : Type} {J : Tk α} {a pre : List α} {f g g' : Nat → Prop} {W0 W W' : World} {s : Bool} (h : Went J a pre f g W s W') (he : ExQ g' W0 W) (hg : ∀ b, g b → g' b ∨ W0.heap.size ≤ b) : Went J a pre f g' W0 s W' := by
  obtain ⟨m, f', hm, hs, hj, he2, hf⟩ := h
  refine ⟨m, f', hm, hs, hj, (he.mono (R := fun b => f b ∨ g' b) fun b hb _ => Or.inr hb).transN he2 ?_, fun b hb => ?_⟩
  · rintro i hi hl
    rcases hi with hi | hi
    · exact Or.inl hi
    · rcases hg i hi with h | h
      · exact Or.inr h
      · omega
  · have := he.size
    rcases hf b hb with h | h
    · exact Or.inl h
    · right; omega
end Go.Proofs.YtcdabjekppddjaaGreatDoor

/- Walks: names gone through from the last on. -/
namespace Go.Proofs.YtcdabjekppddjaaGreatDoor
open Go.RowKit Go.Shelf
attribute [local go_sem] Oper.semAt_some
set_option linter.unusedSimpArgs false
set_option linter.unusedVariables false
set_option maxRecDepth 8000

set_option maxHeartbeats 1000000 in
theorem backN_any (v : Value) (w : World) (hv : ∃ a k c, v = .slice a k c) :
    Calls Tryz.prog 124 #[v] w fun e w' => e = .returned (.func (.func 134) #[] #[.pointer (some ⟨w.heap.size, 0, none⟩)]) ∧ w' = w.alloc (.cells #[v] 95) := by
  obtain ⟨a, k, c, rfl⟩ := hv
  go_enter Tryz.func124, Tryz.ntmps124
  go_wp2_with fail
  go_ret
  exact ⟨rfl, rfl⟩

set_option maxHeartbeats 1000000 in
theorem back1N_any (nm : List ByteArray) (l Bn b o c : Nat) (a : Option Addr) (ha : nm = [] ∨ a = some ⟨b, o, none⟩) (hl : nm.length ≤ 1000000) (J : Nat → World → Prop) (Jx : World → Prop)
    (hJ : ∀ k W, J k W → W.cell? ⟨Bn, 0, none⟩ = some (.slice a nm.length c) ∧ ∀ i (h : i < nm.length), W.cell? ⟨b, o + i, none⟩ = some (.string nm[i]))
    (hY : ∀ n k (hk : k < nm.length) W, J (k + 1) W → YieldAt Fence.wide n Tryz.prog l #[.int .i64 (k : Int), .string nm[k]] W fun e W' => ∃ s, e = .returned (.bool s) ∧ ((s = true ∧ J k W') ∨ (s = false ∧ Jx W')))
    (W : World) (h0 : J nm.length W) :
    Calls Tryz.prog 134 #[.func (.yield l) #[] #[], .pointer (some ⟨Bn, 0, none⟩)] W fun e W' => (∃ v, e = .returned v) ∧ (J 0 W' ∨ Jx W') := by
  have HJ := hide hJ
  have HY := hide hY
  clear hJ hY
  have c0 := (HJ.out _ _ h0).1
  refine (callsIn_wide (n := 3)).1 ?_
  refine callsIn_of_wp Tryz.func134 rfl trivial ?_ rfl
  simp only [Tryz.ntmps134, List.size_toArray, List.length_cons, List.length_nil, Nat.reduceAdd, Nat.reduceSub, Array.replicate_succ, Array.replicate_zero, List.push_toArray, List.append_toArray, List.nil_append, List.cons_append]
  gi_wp2
  gi_loopw [3] (fun i wr => ∃ k : Nat, k ≤ nm.length ∧ i = .int .i64 ((k : Int) - 1) ∧ J k wr) (fun i wr => (intOf i + 1).toNat)
  case atStart => exact ⟨nm.length, Nat.le_refl _, by go_num, h0⟩
  case round =>
    obtain ⟨k, hk, rfl, hJk⟩ := hrel
    cases k with
    | zero =>
      gi_wp2
      go_end0
      exact ⟨⟨_, rfl⟩, .inl hJk⟩
    | succ k =>
      have hkk : ((k + 1 : Nat) : Int) - 1 = k := by omega
      rw [hkk]
      obtain rfl : a = some ⟨b, o, none⟩ := ha.resolve_left (fun e => by rw [e] at hk; simp at hk)
      obtain ⟨d0, d1⟩ := HJ.out _ _ hJk
      have d2 := d1 k (by omega)
      have hkl : (k : Int) < (nm.length : Int) := by omega
      obtain ⟨fn, tmps, assign, body, hy, hR⟩ := HY.out 2 k (by omega) wr hJk
      obtain ⟨x, hx⟩ : ∃ x, nm[k] = x := ⟨_, rfl⟩
      simp only [hx] at d2 hy
      clear d1 hx
      gi_wp2
      refine hR.mono ?_
      rintro e W3 ⟨s3, rfl, (⟨rfl, hJ3⟩ | ⟨rfl, hJx3⟩)⟩
      · gi_wp2
        go_roundw
        case rel => exact ⟨k, by omega, by go_num, hJ3⟩
        case measure => simp [intOf]
      · gi_wp2
        refine bodyPost_ret (results_none rfl _ _ _) rfl ?_
        exact ⟨⟨_, rfl⟩, .inr hJx3⟩
end Go.Proofs.YtcdabjekppddjaaGreatDoor


/- Walks: the text of a lambda term, as the program writes it. -/
namespace Go.Proofs.YtcdabjekppddjaaGreatDoor
open Go.RowKit
set_option linter.unusedSimpArgs false
set_option linter.unusedVariables false
set_option maxRecDepth 8000

theorem wrap_is {n : Int} (h0 : -1000000 ≤ n) (h1 : n ≤ 1000000) : IntKind.i64.wrap n = n := by rw [IntKind.wrap_i64]; omega
theorem lt_set3 {W : World} {A T : Nat} {x0 x1 x2 : Value} (h : Blk W A #[x0, x1, x2] T) (u u' u'' : Value) : Blk (((W.setCell ⟨A, 0, none⟩ u).setCell ⟨A, 1, none⟩ u').setCell ⟨A, 2, none⟩ u'') A #[u, u', u''] T := ((h.set 0 u).set 1 u').set 2 u''
theorem lt_set3o {W : World} {A B T : Nat} {cs : Array Value} (h : Blk W A cs T) (hn : A ≠ B) (u u' u'' : Value) : Blk (((W.setCell ⟨B, 0, none⟩ u).setCell ⟨B, 1, none⟩ u').setCell ⟨B, 2, none⟩ u'') A cs T := ((h.setOther 0 u hn).setOther 1 u' hn).setOther 2 u'' hn

end Go.Proofs.YtcdabjekppddjaaGreatDoor

/- Walks: what a name stands for. -/
namespace Go.Proofs.YtcdabjekppddjaaGreatDoor
open Go.RowKit Go.Shelf
attribute [local go_sem] Oper.semAt_some
set_option linter.unusedSimpArgs false
set_option linter.unusedVariables false
set_option maxRecDepth 8000

theorem lastN_is {n : ByteArray} : ∀ {l : List ByteArray} {j : Nat} (hj : j < l.length), l[j] = n → (∀ i (h : i < l.length), j < i → l[i] ≠ n) → lastN n l = some j
  | x :: r, 0, hj, h0, h1 => by
    have hr : lastN n r = none := by
      cases hc : lastN n r with
      | none => rfl
      | some i => exact absurd (lastN_get hc) (by have := h1 (i + 1) (by have := lastN_lt hc; simp; omega) (by omega); simpa using this)
    unfold lastN
    rw [hr]
    simp at h0
    simp [h0]
  | x :: r, j + 1, hj, h0, h1 => by
    have hr := lastN_is (n := n) (l := r) (j := j) (by simp at hj; omega) (by simpa using h0) (fun i hi hji => by have := h1 (i + 1) (by simp; omega) (by omega); simpa using this)
    unfold lastN
    rw [hr]
 where
  lastN_get {n : ByteArray} : ∀ {l : List ByteArray} {i : Nat} (h : lastN n l = some i), l[i]'(lastN_lt h) = n
    | x :: r, i, h => by
      have h' := h
      unfold lastN at h'
      cases hc : lastN n r with
      | some j =>
        rw [hc] at h'
        simp at h'
        subst h'
        simpa using lastN_get hc
      | none =>
        rw [hc] at h'
        simp at h'
        obtain ⟨h1, h2⟩ := h'
        subst h2
        simpa using h1
theorem lastN_none {n : ByteArray} : ∀ {l : List ByteArray}, (∀ i (h : i < l.length), l[i] ≠ n) → lastN n l = none
  | [], _ => rfl
  | x :: r, h => by
    have hr : lastN n r = none := lastN_none fun i hi => by have := h (i + 1) (by simp; omega); simpa using this
    unfold lastN
    rw [hr]
    have := h 0 (by simp)
    simp at this
    simp [this]

/-- What a name stands for: its lambda term, or why it is thrown. -/
def NdPost (nm : List ByteArray) (n : ByteArray) (w : World) (e : Ending) (w' : World) : Prop :=
  Below w.heap.size w w' ∧ ((∃ j, lastN n nm = some j ∧ e = .returned (.agg #[.int .i64 1, .int .i64 ((nm.length : Int) - 1 - j), .slice none 0 0])) ∨
    (lastN n nm = none ∧ ∃ c, conN n = some c ∧ e = .returned (.agg #[.int .i64 4, .int .i64 c, .slice none 0 0])) ∨
    (lastN n nm = none ∧ conN n = none ∧ e = thrownL 15))

/-- Nothing has changed, and the names from k on are others. -/
def NdJ (nm : List ByteArray) (n : ByteArray) (W6 : World) (k : Nat) (W : World) : Prop := (∀ b : Nat, W.heap[b]? = W6.heap[b]?) ∧ W.heap.size = W6.heap.size ∧ W.os = W6.os ∧ W.tape = W6.tape ∧ W.output = W6.output ∧ ∀ j (h1 : k ≤ j) (h : j < nm.length), nm[j] ≠ n
/-- It is found, and told. -/
def NdX (nm : List ByteArray) (n : ByteArray) (W6 : World) (L R : Nat) (rd : Loop) (W : World) : Prop := (∀ b : Nat, b ≠ L → b ≠ R → W.heap[b]? = W6.heap[b]?) ∧ W.heap.size = W6.heap.size ∧ W.os = W6.os ∧ W.tape = W6.tape ∧ W.output = W6.output ∧ W.heap[L]? = some (.loop rd) ∧ ∃ j, lastN n nm = some j ∧ Blk W R #[.int .i64 1, .int .i64 ((nm.length : Int) - 1 - j), .slice none 0 0] 36

set_option maxHeartbeats 4000000 in
theorem named_any (nm : List ByteArray) (n s : ByteArray) (hn : nameB n = true) (B i k c Bs : Nat) (a : Option Addr) (Y : Nat → Prop) (w : World) (hX : Blk w B #[.string s, .int .i64 (i : Int), .int .i64 (k : Int), .slice a nm.length c] 102) (hnm : LV Value.string w Y (.slice a nm.length c) nm) (hl : nm.length ≤ 1000) (hT : Tb Bs w) (hS : Tse Bs w) (hBs : Bs ≤ w.heap.size) :
    Calls Tryz.prog 112 #[.pointer (some ⟨B, 0, none⟩), .string n] w fun e w' => NdPost nm n w e w' := by
  have HX := hide hX
  have HN := hide hnm
  have HT := hide hT
  have HS := hide hS
  have hBlt := hX.lt
  obtain ⟨a2, c2, e2, ⟨_, hc2⟩, h3⟩ := hnm
  simp at e2
  obtain ⟨rfl, rfl⟩ := e2
  obtain ⟨bn, on, hab, hcells⟩ : ∃ bn on, (nm = [] ∨ a = some ⟨bn, on, none⟩) ∧ ∀ i (h : i < nm.length), w.cell? ⟨bn, on + i, none⟩ = some (.string nm[i]) := by
    rcases h3 with rfl | ⟨b, o, rfl, _, h3⟩
    · exact ⟨0, 0, Or.inl rfl, fun i h => by simp at h⟩
    · exact ⟨b, o, Or.inr rfl, h3⟩
  have HC := hide hcells
  clear hT hS h3 hcells
  have W3f : Hid (∃ W3, W3 = (((w.alloc (.cells #[.pointer (some ⟨B, 0, none⟩)] 109)).alloc (.cells #[.string n] 9)).alloc (.cells #[.int .i64 0, .int .i64 0, .slice none 0 0] 36))) := ⟨_, rfl⟩
  have x3 : (((w.alloc (.cells #[.pointer (some ⟨B, 0, none⟩)] 109)).alloc (.cells #[.string n] 9)).alloc (.cells #[.int .i64 0, .int .i64 0, .slice none 0 0] 36)).cell? ⟨B, 3, none⟩ = some (.slice a nm.length c) := (((HX.out.alloc _).alloc _).alloc _).cell 3
  refine (callsIn_wide (n := 6)).1 ?_
  refine callsIn_of_wp_marks Tryz.func112 rfl trivial ?_ rfl
  simp only [Tryz.ntmps112, List.size_toArray, List.length_cons, List.length_nil, Nat.reduceAdd, Nat.reduceSub, Array.replicate_succ, Array.replicate_zero, List.push_toArray, List.append_toArray, List.nil_append, List.cons_append]
  gi_wp2
  refine ⟨trivial, ((callsIn_wide (n := 5)).2 (backN_any _ _ ⟨_, _, _, rfl⟩)).mono ?_⟩
  rintro e w' ⟨rfl, rfl⟩
  have hz4 : ((((w.alloc (.cells #[.pointer (some ⟨B, 0, none⟩)] 109)).alloc (.cells #[.string n] 9)).alloc (.cells #[.int .i64 0, .int .i64 0, .slice none 0 0] 36)).alloc (.cells #[.slice a nm.length c] 95)).heap.size = w.heap.size + 4 := by simp
  have hz3 : (((w.alloc (.cells #[.pointer (some ⟨B, 0, none⟩)] 109)).alloc (.cells #[.string n] 9)).alloc (.cells #[.int .i64 0, .int .i64 0, .slice none 0 0] 36)).heap.size = w.heap.size + 3 := by simp
  have HB4 : Hid (Below w.heap.size w ((((w.alloc (.cells #[.pointer (some ⟨B, 0, none⟩)] 109)).alloc (.cells #[.string n] 9)).alloc (.cells #[.int .i64 0, .int .i64 0, .slice none 0 0] 36)).alloc (.cells #[.slice a nm.length c] 95))) := (((((Below.refl _ _).alloc (Nat.le_refl _) _).alloc (by simp) _).alloc (by simp; omega) _).alloc (by simp; omega) _)
  have A0 : Hid (Blk ((((w.alloc (.cells #[.pointer (some ⟨B, 0, none⟩)] 109)).alloc (.cells #[.string n] 9)).alloc (.cells #[.int .i64 0, .int .i64 0, .slice none 0 0] 36)).alloc (.cells #[.slice a nm.length c] 95)) w.heap.size #[.pointer (some ⟨B, 0, none⟩)] 109) := (((Blk.new w _ _).alloc _).alloc _).alloc _
  have A1 : Hid (Blk ((((w.alloc (.cells #[.pointer (some ⟨B, 0, none⟩)] 109)).alloc (.cells #[.string n] 9)).alloc (.cells #[.int .i64 0, .int .i64 0, .slice none 0 0] 36)).alloc (.cells #[.slice a nm.length c] 95)) (w.heap.size + 1) #[.string n] 9) := by
    have h := ((Blk.new (w.alloc (.cells #[.pointer (some ⟨B, 0, none⟩)] 109)) #[.string n] 9).alloc (.cells #[.int .i64 0, .int .i64 0, .slice none 0 0] 36)).alloc (.cells #[.slice a nm.length c] 95)
    have hz : (w.alloc (.cells #[.pointer (some ⟨B, 0, none⟩)] 109)).heap.size = w.heap.size + 1 := by simp
    rw [hz] at h
    exact h
  have A2 : Hid (Blk ((((w.alloc (.cells #[.pointer (some ⟨B, 0, none⟩)] 109)).alloc (.cells #[.string n] 9)).alloc (.cells #[.int .i64 0, .int .i64 0, .slice none 0 0] 36)).alloc (.cells #[.slice a nm.length c] 95)) (w.heap.size + 2) #[.int .i64 0, .int .i64 0, .slice none 0 0] 36) := by
    have h := (Blk.new ((w.alloc (.cells #[.pointer (some ⟨B, 0, none⟩)] 109)).alloc (.cells #[.string n] 9)) #[.int .i64 0, .int .i64 0, .slice none 0 0] 36).alloc (.cells #[.slice a nm.length c] 95)
    have hz : ((w.alloc (.cells #[.pointer (some ⟨B, 0, none⟩)] 109)).alloc (.cells #[.string n] 9)).heap.size = w.heap.size + 2 := by simp
    rw [hz] at h
    exact h
  have A3 : Hid (Blk ((((w.alloc (.cells #[.pointer (some ⟨B, 0, none⟩)] 109)).alloc (.cells #[.string n] 9)).alloc (.cells #[.int .i64 0, .int .i64 0, .slice none 0 0] 36)).alloc (.cells #[.slice a nm.length c] 95)) (w.heap.size + 3) #[.slice a nm.length c] 95) := by
    have h := Blk.new (((w.alloc (.cells #[.pointer (some ⟨B, 0, none⟩)] 109)).alloc (.cells #[.string n] 9)).alloc (.cells #[.int .i64 0, .int .i64 0, .slice none 0 0] 36)) #[.slice a nm.length c] 95
    rw [hz3] at h
    exact h
  gi_wp2
  generalize ((((w.alloc (.cells #[.pointer (some ⟨B, 0, none⟩)] 109)).alloc (.cells #[.string n] 9)).alloc (.cells #[.int .i64 0, .int .i64 0, .slice none 0 0] 36)).alloc (.cells #[.slice a nm.length c] 95)) = W4 at *
  clear x3 W3f hz3
  refine wp_range2 (gf := 134) (lb := #[.pointer (some ⟨w.heap.size + 3, 0, none⟩)]) rfl (enters_of Tryz.func134 (by kernel_rfl) rfl) ?_
  intro r hr1 hr2 hr3 hr4 hr5 hr6
  rw [hz4]
  have e45 : w.heap.size + 4 + 1 = w.heap.size + 5 := rfl
  rw [e45]
  clear e45
  have hz6 : ((W4.alloc (.deferred (some []))).alloc (.loop r)).heap.size = w.heap.size + 6 := by simp [hz4]
  have HB6 : Hid (Below w.heap.size w ((W4.alloc (.deferred (some []))).alloc (.loop r))) := (HB4.out.alloc (by omega) _).alloc (by simp; omega) _
  have D0 : Hid (Blk ((W4.alloc (.deferred (some []))).alloc (.loop r)) w.heap.size #[.pointer (some ⟨B, 0, none⟩)] 109) := (A0.out.alloc _).alloc _
  have D1 : Hid (Blk ((W4.alloc (.deferred (some []))).alloc (.loop r)) (w.heap.size + 1) #[.string n] 9) := (A1.out.alloc _).alloc _
  have D2 : Hid (Blk ((W4.alloc (.deferred (some []))).alloc (.loop r)) (w.heap.size + 2) #[.int .i64 0, .int .i64 0, .slice none 0 0] 36) := (A2.out.alloc _).alloc _
  have D3 : Hid (Blk ((W4.alloc (.deferred (some []))).alloc (.loop r)) (w.heap.size + 3) #[.slice a nm.length c] 95) := (A3.out.alloc _).alloc _
  have D4 : Hid (((W4.alloc (.deferred (some []))).alloc (.loop r)).heap[w.heap.size + 4]? = some (.deferred (some []))) := by
    unfold Hid
    rw [Below.heap_alloc _ _ _ (by simp; omega), ← hz4]
    exact heap_alloc_new _ _
  have D5 : Hid (((W4.alloc (.deferred (some []))).alloc (.loop r)).heap[w.heap.size + 5]? = some (.loop r)) := by
    have h := heap_alloc_new (W4.alloc (.deferred (some []))) (.loop r)
    have hz : (W4.alloc (.deferred (some []))).heap.size = w.heap.size + 5 := by simp [hz4]
    rw [hz] at h
    exact h
  generalize ((W4.alloc (.deferred (some []))).alloc (.loop r)) = W6 at *
  clear A0 A1 A2 A3 HB4 hz4
  have DX := hide (HX.out.below HB6.out HX.out.lt)
  have DC : Hid (∀ i (h : i < nm.length), W6.cell? ⟨bn, on + i, none⟩ = some (.string nm[i])) := fun i h => cell_is (HC.out i h) HB6.out
  obtain ⟨rd, hrd⟩ : ∃ rd : Loop, rd = { r with state := .done, pending := some .ret } := ⟨_, rfl⟩
  obtain ⟨rb, hrb⟩ : ∃ rb : Loop, rb = { r with state := .busy } := ⟨_, rfl⟩
  have hJc : ∀ k W, NdJ nm n W6 k W → W.cell? ⟨w.heap.size + 3, 0, none⟩ = some (.slice a nm.length c) ∧ ∀ i (h : i < nm.length), W.cell? ⟨bn, on + i, none⟩ = some (.string nm[i]) := fun k W h => by
    refine ⟨?_, fun i hi => ?_⟩
    · rw [World.cell?_of_block (h.1 _)]; exact D3.out.cell 0
    · rw [World.cell?_of_block (h.1 _)]; exact DC.out i hi
  refine (back1N_any nm (w.heap.size + 5) (w.heap.size + 3) bn on c a hab (by omega) (NdJ nm n W6) (NdX nm n W6 (w.heap.size + 5) (w.heap.size + 2) rd) hJc ?_ W6 ⟨fun b => rfl, rfl, rfl, rfl, rfl, fun j h1 h2 => by omega⟩).mono ?_
  · intro n' j hj W hJ
    obtain ⟨q1, q2, q3, q4, q5, q6⟩ := hJ
    have hL : W.heap[w.heap.size + 5]? = some (.loop r) := (q1 _).trans D5.out
    have hzV : (W.putObj (w.heap.size + 5) (.loop rb)).heap.size = w.heap.size + 6 := by simp; omega
    have kV : ∀ b : Nat, b ≠ w.heap.size + 5 → (W.putObj (w.heap.size + 5) (.loop rb)).heap[b]? = W6.heap[b]? := fun b hne => (World.putObj_heap_other hne).trans (q1 b)
    have E0 : Hid (Blk (W.putObj (w.heap.size + 5) (.loop rb)) w.heap.size #[.pointer (some ⟨B, 0, none⟩)] 109) := (kV _ (by omega)).trans D0.out
    have E1 : Hid (Blk (W.putObj (w.heap.size + 5) (.loop rb)) (w.heap.size + 1) #[.string n] 9) := (kV _ (by omega)).trans D1.out
    have E2 : Hid (Blk (W.putObj (w.heap.size + 5) (.loop rb)) (w.heap.size + 2) #[.int .i64 0, .int .i64 0, .slice none 0 0] 36) := (kV _ (by omega)).trans D2.out
    have EX : Hid (Blk (W.putObj (w.heap.size + 5) (.loop rb)) B #[.string s, .int .i64 (i : Int), .int .i64 (k : Int), .slice a nm.length c] 102) := (kV _ (by omega)).trans DX.out
    have HLV : Hid ((W.putObj (w.heap.size + 5) (.loop rb)).heap[w.heap.size + 5]? = some (.loop rb)) := World.putObj_heap_same (by omega)
    have HKV := hide kV
    have HOS : Hid ((W.putObj (w.heap.size + 5) (.loop rb)).os = W6.os ∧ (W.putObj (w.heap.size + 5) (.loop rb)).tape = W6.tape ∧ (W.putObj (w.heap.size + 5) (.loop rb)).output = W6.output) := ⟨q3, q4, q5⟩
    have HQ6 := hide q6
    have HQ1 := hide q1
    have hL2 := hL
    have HRR := hide (And.intro hrb hrd)
    clear kV q1 q3 q4 q5 q6
    refine yield_two HRR.out.1 HRR.out.2 hr5 hr6 hr4 hr3 hL hr1 hr2 rfl ?_
    clear hL hr1 hr2 hr3 hr4 hr5 hr6
    generalize hx : nm[j] = x
    have HXJ := hide hx
    clear hx
    gi_wp2
    refine ⟨hL2, ?_⟩
    clear hL2
    generalize hV : (W.putObj (w.heap.size + 5) (.loop rb)) = V at *
    have HV := hide hV
    clear hV hrb hrd
    have e0 : V.cell? ⟨w.heap.size, 0, none⟩ = some (.pointer (some ⟨B, 0, none⟩)) := E0.out.cell 0
    have e1 : V.cell? ⟨w.heap.size + 1, 0, none⟩ = some (.string n) := E1.out.cell 0
    have e2 : V.cell? ⟨w.heap.size + 1 + 1, 0, none⟩ = some (.int .i64 0) := E2.out.cell 0
    have e3 : V.cell? ⟨w.heap.size + 1 + 1, 1, none⟩ = some (.int .i64 0) := E2.out.cell 1
    have e4 : V.cell? ⟨w.heap.size + 1 + 1, 2, none⟩ = some (.slice none 0 0) := E2.out.cell 2
    have ef : ∀ q, V.frozen? ⟨w.heap.size + 1 + 1, q, none⟩ = false := fun q => E2.out.frozen q
    have ex : V.cell? ⟨B, 3, none⟩ = some (.slice a nm.length c) := EX.out.cell 3
    have hjl : (j : Int) < (nm.length : Int) := by omega
    have hll : (nm.length : Int) ≤ 1000 := by omega
    by_cases hxn : x = n
    · subst hxn
      gi_wp2
      have k3 : ∀ b : Nat, b ≠ w.heap.size + 2 → (((V.setCell ⟨w.heap.size + 1 + 1, 0, none⟩ (.int .i64 1)).setCell ⟨w.heap.size + 1 + 1, 1, none⟩ (.int .i64 ((nm.length : Int) - 1 - j))).setCell ⟨w.heap.size + 1 + 1, 2, none⟩ (.slice none 0 0)).heap[b]? = V.heap[b]? := fun b hb => by
        rw [Below.heap_setCell _ _ _ _ (by simpa using hb)]
        rw [Below.heap_setCell _ _ _ _ (by simpa using hb)]
        rw [Below.heap_setCell _ _ _ _ (by simpa using hb)]
      have hB3 : Blk (((V.setCell ⟨w.heap.size + 1 + 1, 0, none⟩ (.int .i64 1)).setCell ⟨w.heap.size + 1 + 1, 1, none⟩ (.int .i64 ((nm.length : Int) - 1 - j))).setCell ⟨w.heap.size + 1 + 1, 2, none⟩ (.slice none 0 0)) (w.heap.size + 2) #[.int .i64 1, .int .i64 ((nm.length : Int) - 1 - j), .slice none 0 0] 36 := lt_set3 E2.out _ _ _
      have hz3 : (((V.setCell ⟨w.heap.size + 1 + 1, 0, none⟩ (.int .i64 1)).setCell ⟨w.heap.size + 1 + 1, 1, none⟩ (.int .i64 ((nm.length : Int) - 1 - j))).setCell ⟨w.heap.size + 1 + 1, 2, none⟩ (.slice none 0 0)).heap.size = V.heap.size := by simp [World.setCell]
      have ho3 : (((V.setCell ⟨w.heap.size + 1 + 1, 0, none⟩ (.int .i64 1)).setCell ⟨w.heap.size + 1 + 1, 1, none⟩ (.int .i64 ((nm.length : Int) - 1 - j))).setCell ⟨w.heap.size + 1 + 1, 2, none⟩ (.slice none 0 0)).os = V.os ∧ (((V.setCell ⟨w.heap.size + 1 + 1, 0, none⟩ (.int .i64 1)).setCell ⟨w.heap.size + 1 + 1, 1, none⟩ (.int .i64 ((nm.length : Int) - 1 - j))).setCell ⟨w.heap.size + 1 + 1, 2, none⟩ (.slice none 0 0)).tape = V.tape ∧ (((V.setCell ⟨w.heap.size + 1 + 1, 0, none⟩ (.int .i64 1)).setCell ⟨w.heap.size + 1 + 1, 1, none⟩ (.int .i64 ((nm.length : Int) - 1 - j))).setCell ⟨w.heap.size + 1 + 1, 2, none⟩ (.slice none 0 0)).output = V.output := ⟨rfl, rfl, rfl⟩
      generalize (((V.setCell ⟨w.heap.size + 1 + 1, 0, none⟩ (.int .i64 1)).setCell ⟨w.heap.size + 1 + 1, 1, none⟩ (.int .i64 ((nm.length : Int) - 1 - j))).setCell ⟨w.heap.size + 1 + 1, 2, none⟩ (.slice none 0 0)) = W3 at *
      have hLN : lastN x nm = some j := lastN_is hj HXJ.out (fun i hi hji => HQ6.out i (by omega) hi)
      refine ⟨(k3 _ (by omega)).trans HLV.out, Or.inr ⟨rfl, fun b h1 h2 => (World.putObj_heap_other h1).trans ((k3 b h2).trans (HKV.out b h1)), by simp; omega, ho3.1.trans HOS.out.1, ho3.2.1.trans HOS.out.2.1, ho3.2.2.trans HOS.out.2.2, World.putObj_heap_same (by omega), j, hLN, (World.putObj_heap_other (by omega)).trans hB3⟩⟩
    · have g1 : (x.toList == n.toList) = false := by
        cases hq : (x.toList == n.toList) with
        | false => rfl
        | true =>
          exfalso
          apply hxn
          have h1 : x.toList = n.toList := by simpa using hq
          rw [ByteArray.toList_eq, ByteArray.toList_eq] at h1
          exact ByteArray.ext (Array.toList_inj.1 h1)
      have g2 : ¬ x = n := hxn
      clear hxn
      gi_wp2
      refine ⟨HLV.out, Or.inl ⟨rfl, fun b => ?_, by simp; omega, HOS.out.1, HOS.out.2.1, HOS.out.2.2, fun j' h1 h2 => ?_⟩⟩
      · by_cases hbL : b = w.heap.size + 5
        · subst hbL; exact (World.putObj_heap_same (by omega)).trans D5.out.symm
        · exact (World.putObj_heap_other hbL).trans (HKV.out b hbL)
      · by_cases hjj : j' = j
        · subst hjj; rw [HXJ.out]; exact g2
        · exact HQ6.out j' (by omega) h2
  · rintro e Wf ⟨hret, hJf | hXf⟩
    · refine ⟨hret, Or.inl ⟨(hJf.1 _).trans D5.out, ?_⟩⟩
      have HLN : Hid (lastN n nm = none) := lastN_none fun i hi => hJf.2.2.2.2.2 i (Nat.zero_le _) hi
      have kg : ∀ b : Nat, b ≠ w.heap.size + 5 → (Wf.putObj (w.heap.size + 5) (.loop { r with state := .exhausted })).heap[b]? = W6.heap[b]? := fun b h => (World.putObj_heap_other h).trans (hJf.1 b)
      have hzg : (Wf.putObj (w.heap.size + 5) (.loop { r with state := .exhausted })).heap.size = w.heap.size + 6 := by have := hJf.2.1; simp; omega
      have HBg : Hid (Below w.heap.size w (Wf.putObj (w.heap.size + 5) (.loop { r with state := .exhausted }))) := ⟨hJf.2.2.1.trans HB6.out.os, hJf.2.2.2.1.trans HB6.out.tape, hJf.2.2.2.2.1.trans HB6.out.output, by omega, fun b hb => (kg b (by omega)).trans (HB6.out.block b hb)⟩
      have G1 : Hid (Blk (Wf.putObj (w.heap.size + 5) (.loop { r with state := .exhausted })) (w.heap.size + 1) #[.string n] 9) := (kg _ (by omega)).trans D1.out
      have G2 : Hid (Blk (Wf.putObj (w.heap.size + 5) (.loop { r with state := .exhausted })) (w.heap.size + 2) #[.int .i64 0, .int .i64 0, .slice none 0 0] 36) := (kg _ (by omega)).trans D2.out
      have G4 : Hid ((Wf.putObj (w.heap.size + 5) (.loop { r with state := .exhausted })).heap[w.heap.size + 4]? = some (.deferred (some []))) := (kg _ (by omega)).trans D4.out
      generalize (Wf.putObj (w.heap.size + 5) (.loop { r with state := .exhausted })) = Wg at *
      clear kg hJf hret hr1 hr2 hr3 hr4 hr5 hr6 hrd hrb hJc
      have g1 : Wg.cell? ⟨w.heap.size + 1, 0, none⟩ = some (.string n) := G1.out.cell 0
      gi_wp2
      refine ⟨trivial, ((callsIn_wide (n := 5)).2 (constant_any n hn Bs Wg (HT.out.on (HBg.out.mono hBs)) (HS.out.on (HBg.out.mono hBs)) (by omega))).mono ?_⟩
      rintro e W8 ⟨⟨z, rfl, hz⟩, hb8⟩
      have HB8 := hide (HBg.out.trans (hb8.mono HBg.out.size))
      have I2 := hide (G2.out.below hb8 G2.out.lt)
      have I4 : Hid (W8.heap[w.heap.size + 4]? = some (.deferred (some []))) := (hb8.block _ (by omega)).trans G4.out
      have hz8 := hb8.size
      have HZ := hide hz
      clear hb8 hz g1
      have i0 : W8.cell? ⟨w.heap.size + 1 + 1, 0, none⟩ = some (.int .i64 0) := I2.out.cell 0
      have i1 : W8.cell? ⟨w.heap.size + 1 + 1, 1, none⟩ = some (.int .i64 0) := I2.out.cell 1
      have i2 : W8.cell? ⟨w.heap.size + 1 + 1, 2, none⟩ = some (.slice none 0 0) := I2.out.cell 2
      have ifz : ∀ q, W8.frozen? ⟨w.heap.size + 1 + 1, q, none⟩ = false := fun q => I2.out.frozen q
      cases hcn : conN n with
      | some c0 =>
        have hzc := HZ.out c0 hcn
        subst hzc
        gi_wp2
        have Q2 : Blk (((W8.setCell ⟨w.heap.size + 1 + 1, 0, none⟩ (.int .i64 4)).setCell ⟨w.heap.size + 1 + 1, 1, none⟩ (.int .i64 (c0 : Int))).setCell ⟨w.heap.size + 1 + 1, 2, none⟩ (.slice none 0 0)) (w.heap.size + 2) #[.int .i64 4, .int .i64 (c0 : Int), .slice none 0 0] 36 := lt_set3 I2.out _ _ _
        have Q4 : (((W8.setCell ⟨w.heap.size + 1 + 1, 0, none⟩ (.int .i64 4)).setCell ⟨w.heap.size + 1 + 1, 1, none⟩ (.int .i64 (c0 : Int))).setCell ⟨w.heap.size + 1 + 1, 2, none⟩ (.slice none 0 0)).heap[w.heap.size + 4]? = some (.deferred (some [])) := by
          rw [Below.heap_setCell _ _ _ _ (by simp)]
          rw [Below.heap_setCell _ _ _ _ (by simp)]
          rw [Below.heap_setCell _ _ _ _ (by simp)]
          exact I4.out
        have QB : Below w.heap.size w (((W8.setCell ⟨w.heap.size + 1 + 1, 0, none⟩ (.int .i64 4)).setCell ⟨w.heap.size + 1 + 1, 1, none⟩ (.int .i64 (c0 : Int))).setCell ⟨w.heap.size + 1 + 1, 2, none⟩ (.slice none 0 0)) := ((HB8.out.setCell (by simp; omega) _).setCell (by simp; omega) _).setCell (by simp; omega) _
        generalize (((W8.setCell ⟨w.heap.size + 1 + 1, 0, none⟩ (.int .i64 4)).setCell ⟨w.heap.size + 1 + 1, 1, none⟩ (.int .i64 (c0 : Int))).setCell ⟨w.heap.size + 1 + 1, 2, none⟩ (.slice none 0 0)) = W9 at *
        have R2 : Blk (W9.putObj (w.heap.size + 4) (.deferred none)) (w.heap.size + 2) #[.int .i64 4, .int .i64 (c0 : Int), .slice none 0 0] 36 := (World.putObj_heap_other (by omega)).trans Q2
        have RB : Below w.heap.size w (W9.putObj (w.heap.size + 4) (.deferred none)) := ⟨QB.os, QB.tape, QB.output, by simp; exact QB.size, fun b hb => (World.putObj_heap_other (by omega)).trans (QB.block b hb)⟩
        refine ⟨by simp, .inl ⟨_, _, rfl, run_takeDeferred Q4, ?_⟩⟩
        refine ⟨.agg #[.int .i64 4, .int .i64 (c0 : Int), .slice none 0 0], ?_, RB, Or.inr (Or.inl ⟨HLN.out, c0, hcn, rfl⟩)⟩
        have e0 : (W9.putObj (w.heap.size + 4) (.deferred none)).cell? ⟨w.heap.size + 1 + 1, 0, none⟩ = some (.int .i64 4) := R2.cell 0
        have e1 : (W9.putObj (w.heap.size + 4) (.deferred none)).cell? ⟨w.heap.size + 1 + 1, 1, none⟩ = some (.int .i64 (c0 : Int)) := R2.cell 1
        have e2 : (W9.putObj (w.heap.size + 4) (.deferred none)).cell? ⟨w.heap.size + 1 + 1, 2, none⟩ = some (.slice none 0 0) := R2.cell 2
        simp [results, Tryz.results112, go_sem, e0, e1, e2]
      | none =>
        have hcs : (conN n).isSome = false := by rw [hcn]; rfl
        simp only [Option.isSome_none]
        gi_wp2
        refine ⟨by simp, .inl ⟨_, _, rfl, run_takeDeferred I4.out, ?_⟩⟩
        exact ⟨⟨HB8.out.os, HB8.out.tape, HB8.out.output, by simp; exact HB8.out.size, fun b hb => (World.putObj_heap_other (by omega)).trans (HB8.out.block b hb)⟩, Or.inr (Or.inr ⟨HLN.out, hcn, rfl⟩)⟩
    · obtain ⟨x1, x2, x3, x4, x5, x6, j, hj, hR⟩ := hXf
      refine ⟨hret, Or.inr ⟨by rw [← hrd]; exact x6, ?_⟩⟩
      have kg : ∀ b : Nat, b ≠ w.heap.size + 5 → (Wf.putObj (w.heap.size + 5) (.loop { r with state := .exhausted, pending := some .ret })).heap[b]? = Wf.heap[b]? := fun b h => World.putObj_heap_other h
      have hzg : (Wf.putObj (w.heap.size + 5) (.loop { r with state := .exhausted, pending := some .ret })).heap.size = w.heap.size + 6 := by simp; omega
      have HBg : Hid (Below w.heap.size w (Wf.putObj (w.heap.size + 5) (.loop { r with state := .exhausted, pending := some .ret }))) := ⟨x3.trans HB6.out.os, x4.trans HB6.out.tape, x5.trans HB6.out.output, by omega, fun b hb => (kg b (by omega)).trans ((x1 b (by omega) (by omega)).trans (HB6.out.block b hb))⟩
      have G2 : Hid (Blk (Wf.putObj (w.heap.size + 5) (.loop { r with state := .exhausted, pending := some .ret })) (w.heap.size + 2) #[.int .i64 1, .int .i64 ((nm.length : Int) - 1 - j), .slice none 0 0] 36) := (kg _ (by omega)).trans hR
      have G4 : Hid ((Wf.putObj (w.heap.size + 5) (.loop { r with state := .exhausted, pending := some .ret })).heap[w.heap.size + 4]? = some (.deferred (some []))) := (kg _ (by omega)).trans ((x1 _ (by omega) (by omega)).trans D4.out)
      generalize (Wf.putObj (w.heap.size + 5) (.loop { r with state := .exhausted, pending := some .ret })) = Wg at *
      clear kg hret hr1 hr2 hr3 hr4 hr5 hr6 hrd hrb hJc x1 x2 x3 x4 x5 x6 hR
      have R2 : Hid (Blk (Wg.putObj (w.heap.size + 4) (.deferred none)) (w.heap.size + 2) #[.int .i64 1, .int .i64 ((nm.length : Int) - 1 - j), .slice none 0 0] 36) := (World.putObj_heap_other (by omega)).trans G2.out
      have RB : Hid (Below w.heap.size w (Wg.putObj (w.heap.size + 4) (.deferred none))) := ⟨HBg.out.os, HBg.out.tape, HBg.out.output, by simp; exact HBg.out.size, fun b hb => (World.putObj_heap_other (by omega)).trans (HBg.out.block b hb)⟩
      gi_wp2
      refine ⟨by simp, .inl ⟨_, _, rfl, run_takeDeferred G4.out, ?_⟩⟩
      refine ⟨.agg #[.int .i64 1, .int .i64 ((nm.length : Int) - 1 - j), .slice none 0 0], ?_, RB.out, Or.inl ⟨j, hj, rfl⟩⟩
      have e0 : (Wg.putObj (w.heap.size + 4) (.deferred none)).cell? ⟨w.heap.size + 1 + 1, 0, none⟩ = some (.int .i64 1) := R2.out.cell 0
      have e1 : (Wg.putObj (w.heap.size + 4) (.deferred none)).cell? ⟨w.heap.size + 1 + 1, 1, none⟩ = some (.int .i64 ((nm.length : Int) - 1 - j)) := R2.out.cell 1
      have e2 : (Wg.putObj (w.heap.size + 4) (.deferred none)).cell? ⟨w.heap.size + 1 + 1, 2, none⟩ = some (.slice none 0 0) := R2.out.cell 2
      simp [results, Tryz.results112, go_sem, e0, e1, e2]
end Go.Proofs.YtcdabjekppddjaaGreatDoor

/- Walks: reading a lambda term: what is known all along; a piece. -/
namespace Go.Proofs.YtcdabjekppddjaaGreatDoor
open Go.RowKit
set_option linter.unusedSimpArgs false
set_option linter.unusedVariables false
set_option maxRecDepth 8000

/-- A reader, and its names in a row of its own. -/
structure Rst (N B : Nat) (s : ByteArray) (nm : List ByteArray) (i k : Nat) (nv : Value) (w : World) : Prop where
  bx : Bl nv w B s i k
  own : w.ownsRow N 9 1 nv nm.length (nm.map Value.string)
  nb : N ≤ B
  le : N ≤ w.heap.size
  tb : Tb N w
  ts : Tse N w
theorem Rst.ne {N B : Nat} {s : ByteArray} {nm : List ByteArray} {i k : Nat} {nv : Value} {w : World} (h : Rst N B s nm i k nv w) : nv.ownBlock ≠ some B := Lib.ownBlock_ne h.own h.bx (by decide)
theorem Rst.fr {N B : Nat} {s : ByteArray} {nm : List ByteArray} {i k : Nat} {nv nv' : Value} {w w' : World} (h : Rst N B s nm i k nv w) (hf : BFr w w' B nv nv') : Below N w w' := by
  obtain ⟨f1, f2, f3, f4, f5, f6⟩ := hf
  refine ⟨f1, f2, f3, f4, fun q hq => f5 q (by have := h.le; omega) (by have := h.nb; omega) (fun e => ?_)⟩
  have := (h.own.lt _ e.symm).1
  omega
theorem Rst.step {N B : Nat} {s : ByteArray} {nm nm' : List ByteArray} {i k i' k' : Nat} {nv nv' : Value} {w w' : World} (h : Rst N B s nm i k nv w) (hf : BFr w w' B nv nv') (hb : Bl nv' w' B s i' k') (ho : w'.ownsRow N 9 1 nv' nm'.length (nm'.map Value.string)) : Rst N B s nm' i' k' nv' w' :=
  ⟨hb, ho, h.nb, Nat.le_trans h.le hf.2.2.2.1, h.tb.on (h.fr hf), h.ts.on (h.fr hf)⟩
theorem Ex.bfrL {B : Nat} {w w' : World} (h : Ex B w w') (nv : Value) : BFr w w' B nv nv := ⟨h.os, h.tape, h.output, h.size, fun q hq hb _ => h.block q hq hb, fun _ h => Or.inl h⟩
theorem Rst.ex {N B : Nat} {s : ByteArray} {nm : List ByteArray} {i k i' k' : Nat} {nv : Value} {w w' : World} (h : Rst N B s nm i k nv w) (he : Ex B w w') (hb : Bl nv w' B s i' k') : Rst N B s nm i' k' nv w' :=
  h.step (he.bfrL nv) hb (h.own.kept (row := some B) ⟨he.os, he.tape, he.output, he.size, fun q hq hb => he.block q hq (fun e => hb (by rw [e]))⟩ (Or.inr h.ne))
theorem Rst.later {N B : Nat} {s : ByteArray} {nm : List ByteArray} {i k : Nat} {nv : Value} {w w' : World} (h : Rst N B s nm i k nv w) (hb : Below w.heap.size w w') : Rst N B s nm i k nv w' :=
  h.step (BFr.of_below hb B nv) (Blk.below h.bx hb (Blk.lt h.bx)) (h.own.kept (row := some w.heap.size) ⟨hb.os, hb.tape, hb.output, hb.size, fun q hq _ => hb.block q hq⟩ (Or.inr fun e => by have := (h.own.lt _ e).2; omega))
theorem Rst.alloc {N B : Nat} {s : ByteArray} {nm : List ByteArray} {i k : Nat} {nv : Value} {w : World} (h : Rst N B s nm i k nv w) (o : Obj) : Rst N B s nm i k nv (w.alloc o) := h.later ((Below.refl _ _).alloc (Nat.le_refl _) o)
theorem Rst.drewN {N B : Nat} {s : ByteArray} {nm : List ByteArray} {i k : Nat} {nv : Value} {w : World} (h : Rst N B s nm i k nv w) (n : Nat) : Rst N B s nm i k nv (w.drewN n) := h.later (below_drewN (Below.refl _ _) n)
theorem Rst.lt {N B : Nat} {s : ByteArray} {nm : List ByteArray} {i k : Nat} {nv : Value} {w : World} (h : Rst N B s nm i k nv w) : B < w.heap.size := Blk.lt h.bx
theorem Rst.box {N B : Nat} {s : ByteArray} {nm : List ByteArray} {i k : Nat} {nv : Value} {w : World} (h : Rst N B s nm i k nv w) : w.heap.size ≠ B ∧ some w.heap.size ≠ nv.ownBlock := by
  refine ⟨by have := h.lt; omega, fun e => ?_⟩
  have := (h.own.lt _ e.symm).2; omega
theorem Rst.lv {N B : Nat} {s : ByteArray} {nm : List ByteArray} {i k : Nat} {nv : Value} {w : World} (h : Rst N B s nm i k nv w) : ∃ a c, nv = .slice a nm.length c ∧ LV Value.string w (fun b => N ≤ b) (.slice a nm.length c) nm := by
  have h1 := LV.of_own h.own
  obtain ⟨a, c, e, h2⟩ := h1
  exact ⟨a, c, e, a, c, rfl, h2⟩

/-- What reading does. -/
def LrP (N B : Nat) (s : ByteArray) (nm : List ByteArray) (nv : Value) (w : World) (r : Lrd) (e : Ending) (w' : World) : Prop :=
  (r.err = 0 ∧ ∃ nv' a c, e = .returned (.agg #[.int .i64 r.t.kind, .int .i64 r.t.idx, .slice a r.t.subs.length c]) ∧ SlM w' (fun b => w.heap.size ≤ b ∧ some b ≠ nv'.ownBlock) a r.t.subs ∧ Rst N B s nm r.pos r.k nv' w' ∧ BFr w w' B nv nv') ∨
  (r.err ≠ 0 ∧ e = .panicked [{ v := .iface 26 (.int .i64 r.err), recovered := false }] ∧ ∃ nv', BFr w w' B nv nv')
theorem lrP_no {N B : Nat} {s : ByteArray} {nm : List ByteArray} {nv nv' : Value} {w w' : World} {r : Lrd} {z : Int} (h : r = noLr z) (hz : z ≠ 0) (hf : BFr w w' B nv nv') : LrP N B s nm nv w r (.panicked [{ v := .iface 26 (.int .i64 z), recovered := false }]) w' := by
  subst h
  exact Or.inr ⟨hz, rfl, nv', hf⟩
theorem lr_fin {N B : Nat} {s : ByteArray} {nm : List ByteArray} {nv nv' : Value} {w w4 : World} {r : Lrd} {a : Option Addr} {c p kk : Nat} {t : Lm} (hr : r = ⟨0, t, p, kk⟩) (hst : Rst N B s nm p kk nv' w4) (hf : BFr w w4 B nv nv') (hB : B < w.heap.size) (hq : some w.heap.size ≠ nv'.ownBlock) (hs : SlM w4 (fun b => w.heap.size < b ∧ some b ≠ nv'.ownBlock) a t.subs) (v0 v1 v2 : Value) :
    LrP N B s nm nv w r (.returned (.agg #[.int .i64 t.kind, .int .i64 t.idx, .slice a t.subs.length c])) (((w4.setCell ⟨w.heap.size, 0, none⟩ v0).setCell ⟨w.heap.size, 1, none⟩ v1).setCell ⟨w.heap.size, 2, none⟩ v2) := by
  subst hr
  have kk : ∀ q : Nat, q ≠ w.heap.size → (((w4.setCell ⟨w.heap.size, 0, none⟩ v0).setCell ⟨w.heap.size, 1, none⟩ v1).setCell ⟨w.heap.size, 2, none⟩ v2).heap[q]? = w4.heap[q]? := fun q hq => by
    rw [Below.heap_setCell _ _ _ _ (by simpa using hq), Below.heap_setCell _ _ _ _ (by simpa using hq), Below.heap_setCell _ _ _ _ (by simpa using hq)]
  have hz : (((w4.setCell ⟨w.heap.size, 0, none⟩ v0).setCell ⟨w.heap.size, 1, none⟩ v1).setCell ⟨w.heap.size, 2, none⟩ v2).heap.size = w4.heap.size := by simp [World.setCell]
  have hos : (((w4.setCell ⟨w.heap.size, 0, none⟩ v0).setCell ⟨w.heap.size, 1, none⟩ v1).setCell ⟨w.heap.size, 2, none⟩ v2).os = w4.os ∧ (((w4.setCell ⟨w.heap.size, 0, none⟩ v0).setCell ⟨w.heap.size, 1, none⟩ v1).setCell ⟨w.heap.size, 2, none⟩ v2).tape = w4.tape ∧ (((w4.setCell ⟨w.heap.size, 0, none⟩ v0).setCell ⟨w.heap.size, 1, none⟩ v1).setCell ⟨w.heap.size, 2, none⟩ v2).output = w4.output := ⟨rfl, rfl, rfl⟩
  generalize (((w4.setCell ⟨w.heap.size, 0, none⟩ v0).setCell ⟨w.heap.size, 1, none⟩ v1).setCell ⟨w.heap.size, 2, none⟩ v2) = w5 at *
  have hg : w4.grownBy w5 (some w.heap.size) := ⟨hos.1, hos.2.1, hos.2.2, by omega, fun q hq hn => kk q (fun e => hn (by rw [e]))⟩
  have hf5 : BFr w w5 B nv nv' := ⟨hos.1.trans hf.1, hos.2.1.trans hf.2.1, hos.2.2.trans hf.2.2.1, by have := hf.2.2.2.1; omega, fun q hq h1 h2 => (kk q (by omega)).trans (hf.2.2.2.2.1 q hq h1 h2), hf.2.2.2.2.2⟩
  have hbb : Below N w4 w5 := ⟨hos.1, hos.2.1, hos.2.2, by omega, fun q hq => kk q (by have := hst.nb; omega)⟩
  refine Or.inl ⟨rfl, nv', a, c, rfl, (hs.kept fun q hq => kk q (by omega)).mono fun q hq _ => ⟨Nat.le_of_lt hq.1, hq.2⟩, ⟨?_, hst.own.kept hg (Or.inr fun e => hq e.symm), hst.nb, by have := hst.le; omega, hst.tb.on hbb, hst.ts.on hbb⟩, hf5⟩
  have hbx := hst.bx
  unfold Bl Blk at hbx ⊢
  rw [kk B (by omega)]
  exact hbx

def LTerm (N B : Nat) (s : ByteArray) (F : Nat) : Prop := ∀ (nm : List ByteArray) (nv : Value) (i k : Nat) (w : World), Rst N B s nm i k nv w → nm.length ≤ 100 + k → i ≤ s.size → k ≤ 200 → 3 * (s.size - i) + 3 ≤ F →
  Calls Tryz.prog 89 #[.pointer (some ⟨B, 0, none⟩)] w fun e w' => LrP N B s nm nv w (lrd s F .term nm i k) e w'
def LPiece (N B : Nat) (s : ByteArray) (F : Nat) : Prop := ∀ (nm : List ByteArray) (nv : Value) (i k : Nat) (w : World), Rst N B s nm i k nv w → nm.length ≤ 100 + k → i ≤ s.size → k ≤ 200 → 3 * (s.size - i) + 2 ≤ F →
  Calls Tryz.prog 102 #[.pointer (some ⟨B, 0, none⟩)] w fun e w' => LrP N B s nm nv w (lrd s F .piece nm i k) e w'

set_option maxHeartbeats 2000000 in
theorem lpiece_of (N B : Nat) (s : ByteArray) (hs : s.size ≤ 4000) (F : Nat) (hT : LTerm N B s F) : LPiece N B s (F + 1) := by
  intro nm nv i k w hst hnk hi hk hF
  have HT := hide hT
  have HST := hide hst
  have hbox := hst.box
  have hBlt := hst.lt
  have HRD : Hid (lrd s (F + 1) .piece nm i k = if i < s.size ∧ byteAt s i = 40 then
      (if (lrd s F .term nm (i + 1) k).err ≠ 0 then noLr (lrd s F .term nm (i + 1) k).err else if askE s (lrd s F .term nm (i + 1) k).pos 41 ≠ 0 then noLr (askE s (lrd s F .term nm (i + 1) k).pos 41) else ⟨0, (lrd s F .term nm (i + 1) k).t, (lrd s F .term nm (i + 1) k).pos + 1, (lrd s F .term nm (i + 1) k).k⟩)
    else if nameE s i ≠ 0 then noLr (nameE s i)
    else if 200 < k + 1 then noLr 3
    else namedL nm (s.extract i (stopAt s i)) (stopAt s i) (k + 1)) := by unfold Hid; rw [lrd]
  generalize lrd s (F + 1) .piece nm i k = r at *
  have Z0 := hide (hst.alloc (.cells #[.int .i64 0, .int .i64 0, .slice none 0 0] 36))
  have R0 := hide (Blk.new w #[.int .i64 0, .int .i64 0, .slice none 0 0] 36)
  have F0 : Hid (BFr w (w.alloc (.cells #[.int .i64 0, .int .i64 0, .slice none 0 0] 36)) B nv nv) := BFr.of_below ((Below.refl _ _).alloc (Nat.le_refl _) _) B nv
  clear hT hst
  go_enter Tryz.func102, Tryz.ntmps102
  go_wp2_with fail
  refine (take_anyL (nv := nv) B i k s 40 hi hs _ (by exact Z0.out.bx)).mono ?_
  intro e w1 hp
  unfold TookPostL at hp
  by_cases h4 : i < s.size ∧ byteAt s i = 40
  · rw [if_pos h4] at hp
    obtain ⟨rfl, hx1, he1, hz1⟩ := hp
    have Z1 := hide (Z0.out.ex he1 hx1)
    have F1 := hide (F0.out.trans (he1.bfrL nv))
    have R1 := hide (blk_bfr R0.out (he1.bfrL nv) hbox.1 hbox.2)
    have hzz : w1.heap.size = w.heap.size + 1 := by rw [hz1]; simp
    have HR : Hid (r = (if (lrd s F .term nm (i + 1) k).err ≠ 0 then noLr (lrd s F .term nm (i + 1) k).err else if askE s (lrd s F .term nm (i + 1) k).pos 41 ≠ 0 then noLr (askE s (lrd s F .term nm (i + 1) k).pos 41) else ⟨0, (lrd s F .term nm (i + 1) k).t, (lrd s F .term nm (i + 1) k).pos + 1, (lrd s F .term nm (i + 1) k).k⟩)) := by unfold Hid; rw [HRD.out, if_pos h4]
    clear he1 hx1 hz1 HRD Z0 F0 R0
    go_wp2_with fail
    refine (HT.out nm nv (i + 1) k w1 Z1.out hnk (by omega) hk (by omega)).mono ?_
    intro e w2 hp
    rcases hp with ⟨hr0, nv2, a2, c2, rfl, hs2, hst2, hf2⟩ | ⟨hr0, rfl, nv2, hf2⟩
    · have hpos := lrd_pos s F .term nm (i + 1) k hr0 (by omega) hk
      generalize lrd s F .term nm (i + 1) k = r2 at *
      have R2 := hide (blk_bfr R1.out hf2 hbox.1 hbox.2)
      have ho2 := own_bfr hf2 R1.out.lt hbox.2
      have F2 := hide (F1.out.trans hf2)
      have hz2 : w1.heap.size ≤ w2.heap.size := hf2.2.2.2.1
      have Z3 := hide (hst2.alloc (.cells #[.int .i64 r2.t.kind, .int .i64 r2.t.idx, .slice a2 r2.t.subs.length c2] 36))
      have T3 := hide (Blk.new w2 #[.int .i64 r2.t.kind, .int .i64 r2.t.idx, .slice a2 r2.t.subs.length c2] 36)
      have R3 := hide (R2.out.alloc (.cells #[.int .i64 r2.t.kind, .int .i64 r2.t.idx, .slice a2 r2.t.subs.length c2] 36))
      have S3 := hide (hs2.later ((Below.refl _ _).alloc (Nat.le_refl _) (.cells #[.int .i64 r2.t.kind, .int .i64 r2.t.idx, .slice a2 r2.t.subs.length c2] 36)))
      have F3 := hide (F2.out.trans (BFr.of_below ((Below.refl w2.heap.size w2).alloc (Nat.le_refl _) (.cells #[.int .i64 r2.t.kind, .int .i64 r2.t.idx, .slice a2 r2.t.subs.length c2] 36)) B nv2))
      have hbx2 := hst2.box
      have HR0 := hide hr0
      clear hf2 hs2 hst2 R2 F2 hr0
      go_wp2_with fail
      generalize (w2.alloc (.cells #[.int .i64 r2.t.kind, .int .i64 r2.t.idx, .slice a2 r2.t.subs.length c2] 36)) = w3 at *
      refine (rdAsk_anyL (nv := nv2) B r2.pos r2.k s 41 hpos.2.1 hs _ (by exact Z3.out.bx)).mono ?_
      intro e w4 hp
      unfold RdAskPostL at hp
      by_cases h6 : r2.pos < s.size ∧ byteAt s r2.pos = 41
      · rw [if_pos h6] at hp
        obtain ⟨⟨v4, rfl⟩, hx4, he4, hz4⟩ := hp
        have HAE : Hid (askE s r2.pos 41 = 0) := by unfold Hid askE; rw [if_pos h6]
        have HF : Hid (r = ⟨0, r2.t, r2.pos + 1, r2.k⟩) := by unfold Hid; rw [HR.out, if_neg (by rw [HR0.out]; simp), if_neg (by rw [HAE.out]; simp)]
        have Z4 := hide (Z3.out.ex he4 hx4)
        have F4 := hide (F3.out.trans (he4.bfrL nv2))
        have T4 := hide (blk_bfr T3.out (he4.bfrL nv2) hbx2.1 hbx2.2)
        have R4 := hide (blk_bfr R3.out (he4.bfrL nv2) hbox.1 ho2)
        have S4 : Hid (SlM w4 (fun b => w.heap.size < b ∧ some b ≠ nv2.ownBlock) a2 r2.t.subs) := (S3.out.mono (Y := fun b => (w1.heap.size ≤ b ∧ some b ≠ nv2.ownBlock) ∧ b < w3.heap.size) fun b h1 h2 => ⟨h1, h2⟩).kept (fun b hb => he4.block b hb.2 (by omega)) |>.mono fun b hb _ => ⟨by omega, hb.1.2⟩
        have q0 := T4.out.cell 0
        have q1 := T4.out.cell 1
        have q2 := T4.out.cell 2
        have r0 := R4.out.cell 0
        have r1 := R4.out.cell 1
        have r2' := R4.out.cell 2
        have rf := R4.out.frozen
        simp only [List.getElem?_toArray, List.getElem?_cons_succ, List.getElem?_cons_zero] at q0 q1 q2 r0 r1 r2'
        clear he4 hx4 hz4
        go_wp2_with fail
        refine bodyPost_ret (v := .agg #[.int .i64 r2.t.kind, .int .i64 r2.t.idx, .slice a2 r2.t.subs.length c2]) (by simp [results, Tryz.results102, go_sem, World.cell?_setCell_same, World.cell?_setCell_other, r0, r1, r2']) rfl ?_
        exact lr_fin HF.out Z4.out F4.out hBlt ho2 S4.out _ _ _
      · rw [if_neg h6] at hp
        obtain ⟨he, n4, rfl⟩ := hp
        have HAE : Hid (askE s r2.pos 41 = if r2.pos = s.size then 13 else 12) := by unfold Hid askE; rw [if_neg h6]
        have HNZ : Hid ((if r2.pos = s.size then (13 : Int) else 12) ≠ 0) := by unfold Hid; split <;> omega
        unfold thrownL at he
        subst he
        exact ⟨rfl, lrP_no (by rw [HR.out, if_neg (by rw [HR0.out]; simp), if_pos (by rw [HAE.out]; exact HNZ.out), HAE.out]) HNZ.out (F3.out.trans (BFr.of_below (below_drewN (Below.refl _ _) n4) B nv2))⟩
    · exact ⟨rfl, lrP_no (by rw [HR.out, if_pos hr0]) hr0 (F1.out.trans hf2)⟩
  · rw [if_neg h4] at hp
    obtain ⟨rfl, n1, rfl⟩ := hp
    have Z1 := hide (Z0.out.drewN n1)
    have F1 := hide (F0.out.trans (BFr.of_below (below_drewN (Below.refl _ _) n1) B nv))
    have R1 := hide (R0.out.drewN n1)
    have HR : Hid (r = (if nameE s i ≠ 0 then noLr (nameE s i) else if 200 < k + 1 then noLr 3 else namedL nm (s.extract i (stopAt s i)) (stopAt s i) (k + 1))) := by unfold Hid; rw [HRD.out, if_neg h4]
    have hz1 : ((w.alloc (.cells #[.int .i64 0, .int .i64 0, .slice none 0 0] 36)).drewN n1).heap.size = w.heap.size + 1 := by
      have : ((w.alloc (.cells #[.int .i64 0, .int .i64 0, .slice none 0 0] 36)).drewN n1).heap = (w.alloc (.cells #[.int .i64 0, .int .i64 0, .slice none 0 0] 36)).heap := rfl
      rw [this]; simp
    generalize ((w.alloc (.cells #[.int .i64 0, .int .i64 0, .slice none 0 0] 36)).drewN n1) = w1 at *
    clear HRD Z0 F0 R0
    go_wp2_with fail
    refine (name_anyL (nv := nv) B i k s hi hs _ (by exact Z1.out.bx)).mono ?_
    intro e w2 hp
    unfold NamePostL at hp
    by_cases h1 : stopAt s i = i
    · rw [if_pos h1] at hp
      obtain ⟨rfl, he⟩ := hp
      have HNE : Hid (nameE s i = if i = s.size then 13 else 12) := by unfold Hid nameE; rw [if_pos h1]
      have HNZ : Hid ((if i = s.size then (13 : Int) else 12) ≠ 0) := by unfold Hid; split <;> omega
      exact ⟨rfl, lrP_no (by rw [HR.out, if_pos (by rw [HNE.out]; exact HNZ.out), HNE.out]) HNZ.out (F1.out.trans (he.bfrL nv))⟩
    rw [if_neg h1] at hp
    by_cases h2 : nameB (s.extract i (stopAt s i)) = false
    · rw [if_pos h2] at hp
      obtain ⟨rfl, he⟩ := hp
      have HNE : Hid (nameE s i = 1) := by unfold Hid nameE; rw [if_neg h1, if_pos h2]
      exact ⟨rfl, lrP_no (by rw [HR.out, if_pos (by rw [HNE.out]; simp), HNE.out]) (by simp) (F1.out.trans (he.bfrL nv))⟩
    rw [if_neg h2] at hp
    obtain ⟨rfl, hx2, he2, hz2⟩ := hp
    have HNE : Hid (nameE s i = 0) := by unfold Hid nameE; rw [if_neg h1, if_neg h2]
    have hnb : nameB (s.extract i (stopAt s i)) = true := by cases hq : nameB (s.extract i (stopAt s i)) with | true => rfl | false => exact absurd hq h2
    have hjs := stopAt_le s hi
    have Z2 := hide (Z1.out.ex he2 hx2)
    have F2 := hide (F1.out.trans (he2.bfrL nv))
    have R2 := hide (blk_bfr R1.out (he2.bfrL nv) hbox.1 hbox.2)
    have HR2 : Hid (r = (if 200 < k + 1 then noLr 3 else namedL nm (s.extract i (stopAt s i)) (stopAt s i) (k + 1))) := by unfold Hid; rw [HR.out, if_neg (by rw [HNE.out]; simp)]
    clear hx2 he2 h1 h2 Z1 F1 R1 HR HNE
    generalize s.extract i (stopAt s i) = n at *
    generalize stopAt s i = j at *
    go_wp2_with fail
    refine (rdKnot_anyL (nv := nv) B j k s (by omega) _ (by exact Z2.out.bx)).mono ?_
    intro e w3 hp
    unfold RdKnotPostL at hp
    by_cases h3 : 200 < k + 1
    · rw [if_pos h3] at hp
      obtain ⟨he, he3⟩ := hp
      unfold thrownL at he
      subst he
      exact ⟨rfl, lrP_no (by rw [HR2.out, if_pos h3]) (by simp) (F2.out.trans (he3.bfrL nv))⟩
    rw [if_neg h3] at hp
    obtain ⟨⟨v3, rfl⟩, hx3, he3, hz3⟩ := hp
    have Z3 := hide (Z2.out.ex he3 hx3)
    have F3 := hide (F2.out.trans (he3.bfrL nv))
    have R3 := hide (blk_bfr R2.out (he3.bfrL nv) hbox.1 hbox.2)
    have HR3 : Hid (r = namedL nm n j (k + 1)) := by unfold Hid; rw [HR2.out, if_neg h3]
    clear hx3 he3 Z2 F2 R2 HR2
    go_wp2_with fail
    obtain ⟨an, cn, rfl, hlv⟩ := Z3.out.lv
    have hbx3 := Z3.out.bx
    unfold Bl at hbx3
    refine (named_any nm n s hnb B j (k + 1) cn N an _ w3 hbx3 hlv (by omega) Z3.out.tb Z3.out.ts Z3.out.le).mono ?_
    clear hlv hbx3
    rintro e w4 ⟨hb4, hp⟩
    have Z4 := hide (Z3.out.later hb4)
    have F4 := hide (F3.out.trans (BFr.of_below hb4 B (.slice an nm.length cn)))
    have R4 := hide (R3.out.below hb4 R3.out.lt)
    clear hb4 Z3 F3 R3
    have r0 := R4.out.cell 0
    have r1 := R4.out.cell 1
    have r2 := R4.out.cell 2
    have rf := R4.out.frozen
    simp only [List.getElem?_toArray, List.getElem?_cons_succ, List.getElem?_cons_zero] at r0 r1 r2
    rcases hp with ⟨q, hq, rfl⟩ | ⟨hq, c0, hc, rfl⟩ | ⟨hq, hc, he⟩
    · have HF : Hid (r = ⟨0, ⟨1, (nm.length : Int) - 1 - q, []⟩, j, k + 1⟩) := by unfold Hid; rw [HR3.out]; unfold namedL; rw [hq]
      clear hq
      go_wp2_with fail
      refine bodyPost_ret (v := .agg #[.int .i64 1, .int .i64 ((nm.length : Int) - 1 - q), .slice none 0 0]) (by simp [results, Tryz.results102, go_sem, World.cell?_setCell_same, World.cell?_setCell_other, r0, r1, r2]) rfl ?_
      exact lr_fin (t := ⟨1, (nm.length : Int) - 1 - q, []⟩) HF.out Z4.out F4.out hBlt hbox.2 ⟨by simp, Or.inl rfl⟩ _ _ _
    · have HF : Hid (r = ⟨0, ⟨4, (c0 : Int), []⟩, j, k + 1⟩) := by unfold Hid; rw [HR3.out]; unfold namedL; rw [hq]; simp only [hc]
      clear hq hc
      go_wp2_with fail
      refine bodyPost_ret (v := .agg #[.int .i64 4, .int .i64 (c0 : Int), .slice none 0 0]) (by simp [results, Tryz.results102, go_sem, World.cell?_setCell_same, World.cell?_setCell_other, r0, r1, r2]) rfl ?_
      exact lr_fin (t := ⟨4, (c0 : Int), []⟩) HF.out Z4.out F4.out hBlt hbox.2 ⟨by simp, Or.inl rfl⟩ _ _ _
    · have HF : Hid (r = noLr 15) := by unfold Hid; rw [HR3.out]; unfold namedL; rw [hq]; simp only [hc]
      unfold thrownL at he
      subst he
      exact ⟨rfl, lrP_no HF.out (by simp) F4.out⟩
end Go.Proofs.YtcdabjekppddjaaGreatDoor

/- Walks: reading a lambda term: a binder. -/
namespace Go.Proofs.YtcdabjekppddjaaGreatDoor
open Go.RowKit
set_option linter.unusedSimpArgs false
set_option linter.unusedVariables false
set_option maxRecDepth 8000

/-- Behind the sign of a binder. -/
def bndL (s : ByteArray) (F : Nat) (nm : List ByteArray) (i k : Nat) : Lrd :=
  if 200 < k + 1 then noLr 3
  else if nameE s i ≠ 0 then noLr (nameE s i)
  else if askE s (stopAt s i) 46 ≠ 0 then noLr (askE s (stopAt s i) 46)
  else if (lrd s F .term (nm ++ [s.extract i (stopAt s i)]) (stopAt s i + 1) (k + 1)).err ≠ 0 then noLr (lrd s F .term (nm ++ [s.extract i (stopAt s i)]) (stopAt s i + 1) (k + 1)).err
  else ⟨0, ⟨2, 0, [(lrd s F .term (nm ++ [s.extract i (stopAt s i)]) (stopAt s i + 1) (k + 1)).t]⟩, (lrd s F .term (nm ++ [s.extract i (stopAt s i)]) (stopAt s i + 1) (k + 1)).pos, (lrd s F .term (nm ++ [s.extract i (stopAt s i)]) (stopAt s i + 1) (k + 1)).k⟩

/-- One name more. -/
theorem app_oneL {W : World} {N P : Nat} {v : Value} {x : ByteArray} {l : List ByteArray} (hown : W.ownsRow N 9 1 v l.length (l.map Value.string)) (hN : N ≤ W.heap.size) (hl : l.length ≤ 100000) (hP : W.cell? ⟨P, 0, none⟩ = some (.string x)) :
    ∃ g cap W1, (Builtin.append_ #[95, 95] 95 #[v, .slice (some ⟨P, 0, none⟩) 1 1]).run Tryz.prog W = .ok (.slice (some ⟨g, 0, none⟩) (l.length + 1) cap) W1 ∧ W1.ownsRow N 9 1 (.slice (some ⟨g, 0, none⟩) (l.length + 1) cap) (l ++ [x]).length ((l ++ [x]).map Value.string) ∧ W.grownBy W1 v.ownBlock ∧ (v.ownBlock = some g ∨ g = W.heap.size) := by
  obtain ⟨i0, hi, hz0, hz1, hz2⟩ := info_parts Tryz.infoStr
  obtain ⟨g, cap, W1, hr, ho, hg, hat, _⟩ := run_append_lies (P := Tryz.prog) (w := W) 95 95 N 9 i0 _ 1 16 Tryz.underlying95 hi hz0 hz1 hz2 rfl (by decide) v l.length _ hown ⟨P, 0, none⟩ 1 1 [.string x] rfl (fun j u hj => by
    cases j with
    | zero => simp at hj; subst hj; exact hP
    | succ j => simp at hj) (fun u hu => by simp at hu; subst hu; rfl) (by decide) (by unfold maxLen; omega) (by omega) hN _ rfl
  exact ⟨g, cap, W1, hr, by simpa using ho, hg, hat⟩
/-- One name less. -/
theorem pop_own {W : World} {N g cap n : Nat} {x : ByteArray} {l : List ByteArray} (h : W.ownsRow N 9 1 (.slice (some ⟨g, 0, none⟩) (n + 1) cap) (l ++ [x]).length ((l ++ [x]).map Value.string)) (hn : n = l.length) : W.ownsRow N 9 1 (.slice (some ⟨g, 0, none⟩) n cap) l.length (l.map Value.string) := by
  subst hn
  obtain ⟨h1, h2⟩ := h
  rcases h2 with ⟨h2, _⟩ | ⟨g', cap', cur, e, hb, hh, hnc, hcm, hcs, htk⟩
  · cases h2
  · simp at e
    obtain ⟨rfl, rfl⟩ := e
    refine ⟨by simp, Or.inr ⟨g, cap, cur, rfl, hb, hh, by simp at hnc; omega, hcm, hcs, ?_⟩⟩
    have h3 := congrArg (List.take l.length) htk
    simp at h3
    simpa [List.take_take] using h3

/-- One lambda term in a row of its own. -/
theorem lies_one {W : World} {X : Nat → Prop} {S c : Nat} {a : Option Addr} {t : Lm} (hX : X S) (h0 : W.cell? ⟨S, 0, none⟩ = some (.int .i64 t.kind)) (h1 : W.cell? ⟨S, 1, none⟩ = some (.int .i64 t.idx)) (h2 : W.cell? ⟨S, 2, none⟩ = some (.slice a t.subs.length c)) (hs : SlM W X a t.subs) : SlM W X (some ⟨S, 0, none⟩) [t] := by
  obtain ⟨k, x, l⟩ := t
  refine ⟨by simp, Or.inr ⟨S, 0, rfl, ?_⟩⟩
  simp only [LiesM]
  exact ⟨hX, h0, h1, ⟨a, c, h2, hs.1, hs.2⟩, trivial⟩

set_option maxHeartbeats 4000000 in
theorem lbinder_of (N B : Nat) (s : ByteArray) (hs : s.size ≤ 4000) (F : Nat) (hT : LTerm N B s F) (nm : List ByteArray) (nv : Value) (i k : Nat) (w : World) (hst : Rst N B s nm i k nv w) (hnk : nm.length ≤ 100 + k) (hi : i ≤ s.size) (hk : k ≤ 200) (hF : 3 * (s.size - i) + 3 ≤ F) :
    Calls Tryz.prog 101 #[.pointer (some ⟨B, 0, none⟩)] w fun e w' => LrP N B s nm nv w (bndL s F nm i k) e w' := by
  have HT := hide hT
  have hbox := hst.box
  have hBlt := hst.lt
  have HRD : Hid (bndL s F nm i k = bndL s F nm i k) := rfl
  have Z0 := hide (hst.alloc (.cells #[.int .i64 0, .int .i64 0, .slice none 0 0] 36))
  have R0 := hide (Blk.new w #[.int .i64 0, .int .i64 0, .slice none 0 0] 36)
  have F0 : Hid (BFr w (w.alloc (.cells #[.int .i64 0, .int .i64 0, .slice none 0 0] 36)) B nv nv) := BFr.of_below ((Below.refl _ _).alloc (Nat.le_refl _) _) B nv
  have HR : Hid (∀ r, r = bndL s F nm i k → r = if 200 < k + 1 then noLr 3
      else if nameE s i ≠ 0 then noLr (nameE s i)
      else if askE s (stopAt s i) 46 ≠ 0 then noLr (askE s (stopAt s i) 46)
      else if (lrd s F .term (nm ++ [s.extract i (stopAt s i)]) (stopAt s i + 1) (k + 1)).err ≠ 0 then noLr (lrd s F .term (nm ++ [s.extract i (stopAt s i)]) (stopAt s i + 1) (k + 1)).err
      else ⟨0, ⟨2, 0, [(lrd s F .term (nm ++ [s.extract i (stopAt s i)]) (stopAt s i + 1) (k + 1)).t]⟩, (lrd s F .term (nm ++ [s.extract i (stopAt s i)]) (stopAt s i + 1) (k + 1)).pos, (lrd s F .term (nm ++ [s.extract i (stopAt s i)]) (stopAt s i + 1) (k + 1)).k⟩) := fun r h => h
  obtain ⟨r, hr⟩ : ∃ r, r = bndL s F nm i k := ⟨_, rfl⟩
  rw [← hr]
  have HR1 := hide (HR.out r hr)
  clear hT hst HR HRD hr
  go_enter Tryz.func101, Tryz.ntmps101
  go_wp2_with fail
  generalize hw0 : (w.alloc (.cells #[.int .i64 0, .int .i64 0, .slice none 0 0] 36)) = w0 at *
  have hz0 : w0.heap.size = w.heap.size + 1 := by rw [← hw0]; simp
  clear hw0
  refine (rdKnot_anyL (nv := nv) B i k s (by omega) _ (by exact Z0.out.bx)).mono ?_
  intro e w1 hp
  unfold RdKnotPostL at hp
  by_cases h3 : 200 < k + 1
  · rw [if_pos h3] at hp
    obtain ⟨he, he3⟩ := hp
    unfold thrownL at he
    subst he
    exact ⟨rfl, lrP_no (by rw [HR1.out, if_pos h3]) (by simp) (F0.out.trans (he3.bfrL nv))⟩
  rw [if_neg h3] at hp
  obtain ⟨⟨v1, rfl⟩, hx1, he1, hz1⟩ := hp
  have Z1 := hide (Z0.out.ex he1 hx1)
  have F1 := hide (F0.out.trans (he1.bfrL nv))
  have R1 := hide (blk_bfr R0.out (he1.bfrL nv) hbox.1 hbox.2)
  have HR2 := hide (show r = _ from (HR1.out).trans (if_neg h3))
  clear hx1 he1 Z0 F0 R0 HR1
  go_wp2_with fail
  have Zd := hide (Z1.out.later (Below.drew (Below.refl w1.heap.size w1)))
  have Fd := hide (F1.out.trans (BFr.of_below (Below.drew (Below.refl w1.heap.size w1)) B nv))
  have Rd : Hid (Blk w1.drew w.heap.size #[.int .i64 0, .int .i64 0, .slice none 0 0] 36) := R1.out
  have hzd : w1.drew.heap.size = w.heap.size + 1 := by
    have : w1.drew.heap = w1.heap := rfl
    rw [this]; omega
  refine wp_region_held_drew (S := fun w' => N ≤ w'.heap.size) (by kernel_rfl) (by exact Zd.out.le) (fun hHeld => ?_)
  generalize w1.drew = wd at *
  clear Z1 F1 R1 hz1
  refine wpAnyH_take (i := 0) (v := ?_) rfl (by kernel_rfl) (by kernel_rfl) (by kernel_rfl) (fun _ _ _ h => h) (Or.inl ⟨by rfl, ?_⟩) (by assumption) ?_
  rotate_left
  · intro w' hSw
    go_simp <;> with_reducible rfl
  try simp only [Act.put, List.setIfInBounds_toArray, List.set_cons_zero, List.set_cons_succ, List.getElem_toArray, List.getElem_cons_succ, List.getElem_cons_zero]
  refine wpAnyH_take (i := 1) (v := ?_) rfl (by kernel_rfl) (by kernel_rfl) (by kernel_rfl) (fun _ _ _ h => h) (Or.inl ⟨by rfl, ?_⟩) (by assumption) ?_
  rotate_left
  · intro w' hSw
    go_simp <;> with_reducible rfl
  try simp only [Act.put, List.setIfInBounds_toArray, List.set_cons_zero, List.set_cons_succ, List.getElem_toArray, List.getElem_cons_succ, List.getElem_cons_zero]
  refine wpAnyH_take (i := 2) (v := ?_) rfl (by kernel_rfl) (by kernel_rfl) (by kernel_rfl) (fun _ _ _ h => h) (Or.inl ⟨by rfl, ?_⟩) (by assumption) ?_
  rotate_left
  · intro w' hSw
    go_simp <;> with_reducible rfl
  try simp only [Act.put, List.setIfInBounds_toArray, List.set_cons_zero, List.set_cons_succ, List.getElem_toArray, List.getElem_cons_succ, List.getElem_cons_zero]
  refine wpAnyH_take (i := 3) (v := ?_) rfl (by kernel_rfl) (by kernel_rfl) (by kernel_rfl) (fun _ _ _ h => h) (Or.inl ⟨by rfl, ?_⟩) (by assumption) ?_
  rotate_left
  · intro w' hSw
    go_simp <;> with_reducible rfl
  try simp only [Act.put, List.setIfInBounds_toArray, List.set_cons_zero, List.set_cons_succ, List.getElem_toArray, List.getElem_cons_succ, List.getElem_cons_zero]
  refine wpAnyH_take (i := 5) (v := ?_) rfl (by kernel_rfl) (by kernel_rfl) (by kernel_rfl) (fun _ _ _ h => h) (Or.inl ⟨by rfl, ?_⟩) (by assumption) ?_
  rotate_left
  · intro w' hSw
    go_simp <;> with_reducible rfl
  try simp only [Act.put, List.setIfInBounds_toArray, List.set_cons_zero, List.set_cons_succ, List.getElem_toArray, List.getElem_cons_succ, List.getElem_cons_zero]
  refine wpAnyH_take (i := 6) (v := ?_) rfl (by kernel_rfl) (by kernel_rfl) (by kernel_rfl) (fun _ _ _ h => h) (Or.inl ⟨by rfl, ?_⟩) (by assumption) ?_
  rotate_left
  · intro w' hSw
    go_simp <;> with_reducible rfl
  try simp only [Act.put, List.setIfInBounds_toArray, List.set_cons_zero, List.set_cons_succ, List.getElem_toArray, List.getElem_cons_succ, List.getElem_cons_zero]
  refine wpAnyH_take (i := 7) (v := ?_) rfl (by kernel_rfl) (by kernel_rfl) (by kernel_rfl) (fun _ _ _ h => h) (Or.inl ⟨by rfl, ?_⟩) (by assumption) ?_
  rotate_left
  · intro w' hSw
    go_simp <;> with_reducible rfl
  try simp only [Act.put, List.setIfInBounds_toArray, List.set_cons_zero, List.set_cons_succ, List.getElem_toArray, List.getElem_cons_succ, List.getElem_cons_zero]
  refine wpAnyH_ready (rs := [4, 8]) (by kernel_rfl) (by simp) ?_
  refine AllReadyH.cons rfl (fun K hK => ?_) (AllReadyH.cons rfl (fun K hK => ?_) AllReadyH.nil)
  · have b3 : wd.cell? ⟨B, 3, none⟩ = some nv := Zd.out.bx.cell 3
    go_simp
    refine hK.out _ _ (by exact Zd.out.le) (fun hHeld => ?_)
    clear hK K
    try simp only [Act.put, List.setIfInBounds_toArray, List.set_cons_zero, List.set_cons_succ, List.getElem_toArray, List.getElem_cons_succ, List.getElem_cons_zero]
    clear b3
    refine wpAnyH_ready (rs := [8]) (by kernel_rfl) (by simp) ?_
    refine AllReadyH.cons rfl (fun K hK => ?_) AllReadyH.nil
    go_simp
    go_at_call 110
    refine (name_anyL (nv := nv) B i (k + 1) s hi hs _ (by exact Zd.out.bx)).mono ?_
    intro e w2 hp
    unfold NamePostL at hp
    by_cases h1 : stopAt s i = i
    · rw [if_pos h1] at hp
      obtain ⟨rfl, he⟩ := hp
      have HNE : Hid (nameE s i = if i = s.size then 13 else 12) := by unfold Hid nameE; rw [if_pos h1]
      have HNZ : Hid ((if i = s.size then (13 : Int) else 12) ≠ 0) := by unfold Hid; split <;> omega
      exact ⟨rfl, lrP_no (by rw [HR2.out, if_pos (by rw [HNE.out]; exact HNZ.out), HNE.out]) HNZ.out (Fd.out.trans (he.bfrL nv))⟩
    rw [if_neg h1] at hp
    by_cases h2 : nameB (s.extract i (stopAt s i)) = false
    · rw [if_pos h2] at hp
      obtain ⟨rfl, he⟩ := hp
      have HNE : Hid (nameE s i = 1) := by unfold Hid nameE; rw [if_neg h1, if_pos h2]
      exact ⟨rfl, lrP_no (by rw [HR2.out, if_pos (by rw [HNE.out]; simp), HNE.out]) (by simp) (Fd.out.trans (he.bfrL nv))⟩
    rw [if_neg h2] at hp
    obtain ⟨rfl, hx2, he2, hz2⟩ := hp
    have HNE : Hid (nameE s i = 0) := by unfold Hid nameE; rw [if_neg h1, if_neg h2]
    have HR3 := hide (show r = _ from (HR2.out).trans (if_neg (by rw [HNE.out]; simp)))
    have hjs := stopAt_le s hi
    have hji := stopAt_ge s i
    have hjl : i < stopAt s i := by omega
    have Z2 := hide (Zd.out.ex he2 hx2)
    have F2 := hide (Fd.out.trans (he2.bfrL nv))
    have R2 := hide (blk_bfr Rd.out (he2.bfrL nv) hbox.1 hbox.2)
    clear hx2 he2 h1 h2 Zd Fd Rd HR2 HNE
    generalize s.extract i (stopAt s i) = x at *
    generalize stopAt s i = j at *
    go_simp
    refine hK.out _ _ (by exact Z2.out.le) (fun hHeld => ?_)
    clear hK K
    try simp only [Act.put, List.setIfInBounds_toArray, List.set_cons_zero, List.set_cons_succ, List.getElem_toArray, List.getElem_cons_succ, List.getElem_cons_zero]
    have Z3 := hide (Z2.out.alloc (.cells #[.string x] 9))
    have R3 := hide (R2.out.alloc (.cells #[.string x] 9))
    have F3 := hide (F2.out.trans (BFr.of_below ((Below.refl w2.heap.size w2).alloc (Nat.le_refl _) (.cells #[.string x] 9)) B nv))
    have P3 := hide (Blk.new w2 #[.string x] 9)
    have hz3 : (w2.alloc (.cells #[.string x] 9)).heap.size = w.heap.size + 2 := by simp; omega
    refine wpAnyH_ready (rs := [9]) (by kernel_rfl) (by simp) ?_
    refine AllReadyH.cons rfl (fun K hK => ?_) AllReadyH.nil
    go_simp
    refine hK.out _ _ (by exact Z3.out.le) (fun hHeld => ?_)
    clear hK K
    try simp only [Act.put, List.setIfInBounds_toArray, List.set_cons_zero, List.set_cons_succ, List.getElem_toArray, List.getElem_cons_succ, List.getElem_cons_zero]
    generalize (w2.alloc (.cells #[.string x] 9)) = w3 at *
    have hw2 : w2.heap.size = w.heap.size + 1 := by omega
    rw [hw2] at P3
    try rw [hw2]
    obtain ⟨g, cap, w4, hr4, ho4, hg4, hat4⟩ := app_oneL (P := w.heap.size + 1) (x := x) Z3.out.own Z3.out.le (by omega) (by have := P3.out.cell 0; simpa using this)
    have HR4 := hide hr4
    have HO4 := hide ho4
    have hB4 : Hid (Bl nv w4 B s j (k + 1)) := by
      unfold Hid Bl Blk
      rw [hg4.block B Z3.out.lt (fun e => Z3.out.ne e.symm)]
      exact Z3.out.bx
    have hf4 : BFr w3 w4 B nv (.slice (some ⟨g, 0, none⟩) (nm.length + 1) cap) := ⟨hg4.os, hg4.tape, hg4.output, hg4.size, fun q hq h1 h2 => hg4.block q hq h2, fun q hq => by
      simp [Value.ownBlock] at hq
      subst hq
      rcases hat4 with e | e
      · exact Or.inl e
      · right; omega⟩
    have R4 := hide (blk_bfr R3.out hf4 hbox.1 hbox.2)
    have ho4' := own_bfr hf4 R3.out.lt hbox.2
    have F4 := hide (F3.out.trans hf4)
    have HB4 := hide (Z3.out.fr hf4)
    have hz4 := hg4.size
    have hsz4 : Hid (g ≠ B) := by
      unfold Hid
      intro e
      rcases hat4 with e2 | e2
      · exact Z3.out.ne (by rw [e2, e])
      · have := Z3.out.lt; omega
    clear hr4 ho4 hg4 hat4 hf4
    have hle4 : N ≤ w4.heap.size := by have := Z3.out.le; omega
    refine wpAnyH_ready (rs := [10]) (by kernel_rfl) (by simp) ?_
    refine AllReadyH.cons rfl (fun K hK => ?_) AllReadyH.nil
    refine step_append_eqM rfl _ _ _ _ rfl rfl rfl HR4.out ?_
    refine hK.out _ _ (by exact hle4) (fun hHeld => ?_)
    clear hK K
    try simp only [Act.put, List.setIfInBounds_toArray, List.set_cons_zero, List.set_cons_succ, List.getElem_toArray, List.getElem_cons_succ, List.getElem_cons_zero]
    refine wpAnyH_take (i := 11) (v := ?_) rfl (by kernel_rfl) (by kernel_rfl) (by kernel_rfl) (fun _ _ _ h => h) (Or.inl ⟨by rfl, ?_⟩) (by assumption) ?_
    rotate_left
    · intro w' hSw
      go_simp <;> with_reducible rfl
    try simp only [Act.put, List.setIfInBounds_toArray, List.set_cons_zero, List.set_cons_succ, List.getElem_toArray, List.getElem_cons_succ, List.getElem_cons_zero]
    refine wpAnyH_take (i := 12) (v := ?_) rfl (by kernel_rfl) (by kernel_rfl) (by kernel_rfl) (fun _ _ _ h => h) (Or.inl ⟨by rfl, ?_⟩) (by assumption) ?_
    rotate_left
    · intro w' hSw
      go_simp <;> with_reducible rfl
    try simp only [Act.put, List.setIfInBounds_toArray, List.set_cons_zero, List.set_cons_succ, List.getElem_toArray, List.getElem_cons_succ, List.getElem_cons_zero]
    have b3 : w4.cell? ⟨B, 3, none⟩ = some nv := hB4.out.cell 3
    have bf : w4.frozen? ⟨B, 3, none⟩ = false := Blk.frozen hB4.out 3
    have hB5 : Hid (Bl (.slice (some ⟨g, 0, none⟩) (nm.length + 1) cap) (w4.setCell ⟨B, 3, none⟩ (.slice (some ⟨g, 0, none⟩) (nm.length + 1) cap)) B s j (k + 1)) := Blk.set hB4.out 3 _
    have hO5 : Hid ((w4.setCell ⟨B, 3, none⟩ (.slice (some ⟨g, 0, none⟩) (nm.length + 1) cap)).ownsRow N 9 1 (.slice (some ⟨g, 0, none⟩) (nm.length + 1) cap) (nm ++ [x]).length ((nm ++ [x]).map Value.string)) := HO4.out.kept (row := some B) ⟨rfl, rfl, rfl, by simp [World.setCell], fun q hq hb => Below.heap_setCell _ _ _ _ (by simp at hb; simpa using hb)⟩ (Or.inr (by simp [Value.ownBlock]; exact hsz4.out))
    have hf5 : Hid (BFr w4 (w4.setCell ⟨B, 3, none⟩ (.slice (some ⟨g, 0, none⟩) (nm.length + 1) cap)) B (.slice (some ⟨g, 0, none⟩) (nm.length + 1) cap) (.slice (some ⟨g, 0, none⟩) (nm.length + 1) cap)) := ⟨rfl, rfl, rfl, by simp [World.setCell], fun q hq h1 _ => Below.heap_setCell _ _ _ _ (by simpa using h1), fun _ h => Or.inl h⟩
    have R5 := hide (blk_bfr R4.out hf5.out hbox.1 ho4')
    have F5 := hide (F4.out.trans hf5.out)
    have Z5 : Hid (Rst N B s (nm ++ [x]) j (k + 1) (.slice (some ⟨g, 0, none⟩) (nm.length + 1) cap) (w4.setCell ⟨B, 3, none⟩ (.slice (some ⟨g, 0, none⟩) (nm.length + 1) cap))) := by
      have hb5 : Below N w4 (w4.setCell ⟨B, 3, none⟩ (.slice (some ⟨g, 0, none⟩) (nm.length + 1) cap)) := (Below.refl _ _).setCell (by have := Z3.out.nb; simpa using this) _
      exact ⟨hB5.out, hO5.out, Z3.out.nb, by simp [World.setCell]; omega, (Z3.out.tb.on HB4.out).on hb5, (Z3.out.ts.on HB4.out).on hb5⟩
    have hz5 : w4.heap.size ≤ (w4.setCell ⟨B, 3, none⟩ (.slice (some ⟨g, 0, none⟩) (nm.length + 1) cap)).heap.size := by simp [World.setCell]
    refine wpAnyH_ready (rs := [13]) (by kernel_rfl) (by simp) ?_
    refine AllReadyH.cons rfl (fun K hK => ?_) AllReadyH.nil
    go_simp
    refine hK.out _ _ (by exact Z5.out.le) (fun hHeld => ?_)
    clear hK K
    try simp only [Act.put, List.setIfInBounds_toArray, List.set_cons_zero, List.set_cons_succ, List.getElem_toArray, List.getElem_cons_succ, List.getElem_cons_zero]
    generalize (w4.setCell ⟨B, 3, none⟩ (.slice (some ⟨g, 0, none⟩) (nm.length + 1) cap)) = w5 at *
    clear b3 bf hB5 hO5 hf5 R4 F4 Z3 F3 R3 P3 HO4 HR4 hB4 HB4
    refine wpAnyH_done (by kernel_rfl) ?_ _
    go_wp2_with fail
    refine (rdAsk_anyL (nv := (.slice (some ⟨g, 0, none⟩) (nm.length + 1) cap)) B j (k + 1) s 46 hjs hs _ (by exact Z5.out.bx)).mono ?_
    intro e w6 hp
    unfold RdAskPostL at hp
    by_cases h6 : j < s.size ∧ byteAt s j = 46
    case neg =>
      rw [if_neg h6] at hp
      obtain ⟨he, n6, rfl⟩ := hp
      have HAE : Hid (askE s j 46 = if j = s.size then 13 else 12) := by unfold Hid askE; rw [if_neg h6]
      have HNZ : Hid ((if j = s.size then (13 : Int) else 12) ≠ 0) := by unfold Hid; split <;> omega
      unfold thrownL at he
      subst he
      exact ⟨rfl, lrP_no (by rw [HR3.out, if_pos (by rw [HAE.out]; exact HNZ.out), HAE.out]) HNZ.out (F5.out.trans (BFr.of_below (below_drewN (Below.refl _ _) n6) B (.slice (some ⟨g, 0, none⟩) (nm.length + 1) cap)))⟩
    rw [if_pos h6] at hp
    obtain ⟨⟨v6, rfl⟩, hx6, he6, hz6⟩ := hp
    have HAE : Hid (askE s j 46 = 0) := by unfold Hid askE; rw [if_pos h6]
    have HR6 := hide (show r = _ from (HR3.out).trans (if_neg (by rw [HAE.out]; simp)))
    have Z6 := hide (Z5.out.ex he6 hx6)
    have F6 := hide (F5.out.trans (he6.bfrL (.slice (some ⟨g, 0, none⟩) (nm.length + 1) cap)))
    have R6 := hide (blk_bfr R5.out (he6.bfrL (.slice (some ⟨g, 0, none⟩) (nm.length + 1) cap)) hbox.1 ho4')
    have hwz6 : w.heap.size + 2 ≤ w6.heap.size := by omega
    clear hx6 he6 hz6 HR3 Z5 F5 R5 HAE
    go_wp2_with fail
    refine (HT.out (nm ++ [x]) (.slice (some ⟨g, 0, none⟩) (nm.length + 1) cap) (j + 1) (k + 1) w6 Z6.out (by simp; omega) (by omega) (by omega) (by omega)).mono ?_
    intro e w7 hp
    generalize lrd s F .term (nm ++ [x]) (j + 1) (k + 1) = r7 at *
    rcases hp with ⟨hr0, nv7, a7, c7, rfl, hs7, hst7, hf7⟩ | ⟨hr0, rfl, nv7, hf7⟩
    case inr => exact ⟨rfl, lrP_no (by rw [HR6.out, if_pos hr0]) hr0 (F6.out.trans hf7)⟩
    obtain ⟨g7, cap7, rfl, hgc7⟩ : ∃ g7 cap7, nv7 = (.slice (some ⟨g7, 0, none⟩) (nm.length + 1) cap7) ∧ nm.length + 1 ≤ cap7 := by
      have h := hst7.own.2
      simp only [List.length_append, List.length_cons, List.length_nil, Nat.zero_add] at h
      rcases h with ⟨_, h⟩ | ⟨g7, cap7, cur, h, _, _, hnc, _⟩
      · omega
      · exact ⟨g7, cap7, h, hnc⟩
    have HR7 : Hid (r = ⟨0, ⟨2, 0, [r7.t]⟩, r7.pos, r7.k⟩) := by unfold Hid; rw [HR6.out, if_neg (by rw [hr0]; simp)]
    have F7 := hide (F6.out.trans hf7)
    have R7 := hide (blk_bfr R6.out hf7 hbox.1 ho4')
    have ho7 := own_bfr hf7 R6.out.lt ho4'
    have hz7 : w6.heap.size ≤ w7.heap.size := hf7.2.2.2.1
    have Z7 := hide hst7
    have gOLD : Hid (g7 ≠ w7.heap.size) := fun e => by have := (hst7.own.lt g7 rfl).2; omega
    have S7 := hide hs7
    clear hs7 hst7 hf7 hr0 HR6 Z6 F6 R6
    have B8 : Hid (Below w7.heap.size w7 ((w7.alloc (.cells #[.int .i64 r7.t.kind, .int .i64 r7.t.idx, .slice a7 r7.t.subs.length c7] 36)).alloc (.cells #[.int .i64 2, .int .i64 0, .slice (some ⟨w7.heap.size, 0, none⟩) 1 1] 36))) := ((Below.refl _ _).alloc (Nat.le_refl _) _).alloc (by simp) _
    have T8 := hide ((Blk.new w7 #[.int .i64 r7.t.kind, .int .i64 r7.t.idx, .slice a7 r7.t.subs.length c7] 36).alloc (.cells #[.int .i64 2, .int .i64 0, .slice (some ⟨w7.heap.size, 0, none⟩) 1 1] 36))
    have M8 : Hid (Blk ((w7.alloc (.cells #[.int .i64 r7.t.kind, .int .i64 r7.t.idx, .slice a7 r7.t.subs.length c7] 36)).alloc (.cells #[.int .i64 2, .int .i64 0, .slice (some ⟨w7.heap.size, 0, none⟩) 1 1] 36)) (w7.heap.size + 1) #[.int .i64 2, .int .i64 0, .slice (some ⟨w7.heap.size, 0, none⟩) 1 1] 36) := by
      have h := Blk.new (w7.alloc (.cells #[.int .i64 r7.t.kind, .int .i64 r7.t.idx, .slice a7 r7.t.subs.length c7] 36)) #[.int .i64 2, .int .i64 0, .slice (some ⟨w7.heap.size, 0, none⟩) 1 1] 36
      have hz : (w7.alloc (.cells #[.int .i64 r7.t.kind, .int .i64 r7.t.idx, .slice a7 r7.t.subs.length c7] 36)).heap.size = w7.heap.size + 1 := by simp
      rw [hz] at h
      exact h
    have hz8 : ((w7.alloc (.cells #[.int .i64 r7.t.kind, .int .i64 r7.t.idx, .slice a7 r7.t.subs.length c7] 36)).alloc (.cells #[.int .i64 2, .int .i64 0, .slice (some ⟨w7.heap.size, 0, none⟩) 1 1] 36)).heap.size = w7.heap.size + 2 := by simp
    have Z8 := hide (Z7.out.later B8.out)
    have F8 := hide (F7.out.trans (BFr.of_below B8.out B (.slice (some ⟨g7, 0, none⟩) (nm.length + 1) cap7)))
    have R8 := hide (R7.out.below B8.out R7.out.lt)
    have S8 := hide (S7.out.later B8.out)
    clear Z7 F7 R7 S7 B8
    go_wp2_with fail
    generalize ((w7.alloc (.cells #[.int .i64 r7.t.kind, .int .i64 r7.t.idx, .slice a7 r7.t.subs.length c7] 36)).alloc (.cells #[.int .i64 2, .int .i64 0, .slice (some ⟨w7.heap.size, 0, none⟩) 1 1] 36)) = w8 at *
    have Zd8 := hide (Z8.out.later (Below.drew (Below.refl w8.heap.size w8)))
    have Fd8 := hide (F8.out.trans (BFr.of_below (Below.drew (Below.refl w8.heap.size w8)) B (.slice (some ⟨g7, 0, none⟩) (nm.length + 1) cap7)))
    have Rd8 : Hid (Blk w8.drew w.heap.size #[.int .i64 0, .int .i64 0, .slice none 0 0] 36) := R8.out
    have Td8 : Hid (Blk w8.drew w7.heap.size #[.int .i64 r7.t.kind, .int .i64 r7.t.idx, .slice a7 r7.t.subs.length c7] 36) := T8.out
    have Md8 : Hid (Blk w8.drew (w7.heap.size + 1) #[.int .i64 2, .int .i64 0, .slice (some ⟨w7.heap.size, 0, none⟩) 1 1] 36) := M8.out
    have Sd8 : Hid (SlM w8.drew (fun b => w6.heap.size ≤ b ∧ some b ≠ ((.slice (some ⟨g7, 0, none⟩) (nm.length + 1) cap7) : Value).ownBlock) a7 r7.t.subs) := S8.out.later (Below.drew (Below.refl w8.heap.size w8))
    have hzd8 : w8.drew.heap.size = w7.heap.size + 2 := by
      have : w8.drew.heap = w8.heap := rfl
      rw [this]; exact hz8
    refine wp_region_held_drew (S := fun w' => N ≤ w'.heap.size) (by kernel_rfl) (by exact Zd8.out.le) (fun hHeld => ?_)
    generalize w8.drew = x8 at *
    clear Z8 F8 R8 T8 M8 S8 hz8
    have W1 : Hid (IntKind.i64.wrap (((nm.length + 1 : Nat) : Int) - 1) = (nm.length : Int)) := by
      unfold Hid; rw [show (((nm.length + 1 : Nat) : Int) - 1) = (nm.length : Int) by omega]; exact wrap_is (by omega) (by omega)
    have W2 : Hid (IntKind.i64.wrap ((nm.length : Int) + 1 - 1) = (nm.length : Int)) := by
      unfold Hid; rw [show ((nm.length : Int) + 1 - 1) = (nm.length : Int) by omega]; exact wrap_is (by omega) (by omega)
    have W3 : Hid (IntKind.i64.wrap (nm.length : Int) = (nm.length : Int)) := wrap_is (by omega) (by omega)
    refine wpAnyH_take (i := 0) (v := ?_) rfl (by kernel_rfl) (by kernel_rfl) (by kernel_rfl) (fun _ _ _ h => h) (Or.inl ⟨by rfl, ?_⟩) (by assumption) ?_
    rotate_left
    · intro w' hSw
      go_simp <;> with_reducible rfl
    try simp only [Act.put, List.setIfInBounds_toArray, List.set_cons_zero, List.set_cons_succ, List.getElem_toArray, List.getElem_cons_succ, List.getElem_cons_zero]
    refine wpAnyH_take (i := 1) (v := ?_) rfl (by kernel_rfl) (by kernel_rfl) (by kernel_rfl) (fun _ _ _ h => h) (Or.inl ⟨by rfl, ?_⟩) (by assumption) ?_
    rotate_left
    · intro w' hSw
      go_simp <;> with_reducible rfl
    try simp only [Act.put, List.setIfInBounds_toArray, List.set_cons_zero, List.set_cons_succ, List.getElem_toArray, List.getElem_cons_succ, List.getElem_cons_zero]
    refine wpAnyH_take (i := 2) (v := ?_) rfl (by kernel_rfl) (by kernel_rfl) (by kernel_rfl) (fun _ _ _ h => h) (Or.inl ⟨by rfl, ?_⟩) (by assumption) ?_
    rotate_left
    · intro w' hSw
      go_simp <;> with_reducible rfl
    try simp only [Act.put, List.setIfInBounds_toArray, List.set_cons_zero, List.set_cons_succ, List.getElem_toArray, List.getElem_cons_succ, List.getElem_cons_zero]
    refine wpAnyH_take (i := 3) (v := ?_) rfl (by kernel_rfl) (by kernel_rfl) (by kernel_rfl) (fun _ _ _ h => h) (Or.inl ⟨by rfl, ?_⟩) (by assumption) ?_
    rotate_left
    · intro w' hSw
      go_simp <;> with_reducible rfl
    try simp only [Act.put, List.setIfInBounds_toArray, List.set_cons_zero, List.set_cons_succ, List.getElem_toArray, List.getElem_cons_succ, List.getElem_cons_zero]
    refine wpAnyH_take (i := 5) (v := ?_) rfl (by kernel_rfl) (by kernel_rfl) (by kernel_rfl) (fun _ _ _ h => h) (Or.inl ⟨by rfl, ?_⟩) (by assumption) ?_
    rotate_left
    · intro w' hSw
      go_simp <;> with_reducible rfl
    try simp only [Act.put, List.setIfInBounds_toArray, List.set_cons_zero, List.set_cons_succ, List.getElem_toArray, List.getElem_cons_succ, List.getElem_cons_zero]
    refine wpAnyH_take (i := 6) (v := ?_) rfl (by kernel_rfl) (by kernel_rfl) (by kernel_rfl) (fun _ _ _ h => h) (Or.inl ⟨by rfl, ?_⟩) (by assumption) ?_
    rotate_left
    · intro w' hSw
      go_simp <;> with_reducible rfl
    try simp only [Act.put, List.setIfInBounds_toArray, List.set_cons_zero, List.set_cons_succ, List.getElem_toArray, List.getElem_cons_succ, List.getElem_cons_zero]
    refine wpAnyH_take (i := 7) (v := ?_) rfl (by kernel_rfl) (by kernel_rfl) (by kernel_rfl) (fun _ _ _ h => h) (Or.inl ⟨by rfl, ?_⟩) (by assumption) ?_
    rotate_left
    · intro w' hSw
      go_simp <;> with_reducible rfl
    try simp only [Act.put, List.setIfInBounds_toArray, List.set_cons_zero, List.set_cons_succ, List.getElem_toArray, List.getElem_cons_succ, List.getElem_cons_zero]
    refine wpAnyH_ready (rs := [4, 8]) (by kernel_rfl) (by simp) ?_
    refine AllReadyH.cons rfl (fun K hK => ?_) (AllReadyH.cons rfl (fun K hK => ?_) AllReadyH.nil)
    · have b3 : x8.cell? ⟨B, 3, none⟩ = some (.slice (some ⟨g7, 0, none⟩) (nm.length + 1) cap7) := Zd8.out.bx.cell 3
      go_simp
      refine hK.out _ _ (by exact Zd8.out.le) (fun hHeld => ?_)
      clear hK K
      try simp only [Act.put, List.setIfInBounds_toArray, List.set_cons_zero, List.set_cons_succ, List.getElem_toArray, List.getElem_cons_succ, List.getElem_cons_zero]
      clear b3
      refine wpAnyH_ready (rs := [8]) (by kernel_rfl) (by simp) ?_
      refine AllReadyH.cons rfl (fun K hK => ?_) AllReadyH.nil
      have b3 : x8.cell? ⟨B, 3, none⟩ = some (.slice (some ⟨g7, 0, none⟩) (nm.length + 1) cap7) := Zd8.out.bx.cell 3
      go_simp
      refine hK.out _ _ (by exact Zd8.out.le) (fun hHeld => ?_)
      clear hK K
      try simp only [Act.put, List.setIfInBounds_toArray, List.set_cons_zero, List.set_cons_succ, List.getElem_toArray, List.getElem_cons_succ, List.getElem_cons_zero]
      clear b3
      refine wpAnyH_take (i := 9) (v := ?_) rfl (by kernel_rfl) (by kernel_rfl) (by kernel_rfl) (fun _ _ _ h => h) (Or.inl ⟨by rfl, ?_⟩) (by assumption) ?_
      rotate_left
      · intro w' hSw
        go_simp <;> with_reducible rfl
      try simp only [Act.put, List.setIfInBounds_toArray, List.set_cons_zero, List.set_cons_succ, List.getElem_toArray, List.getElem_cons_succ, List.getElem_cons_zero]
      refine wpAnyH_take (i := 10) (v := ?_) rfl (by kernel_rfl) (by kernel_rfl) (by kernel_rfl) (fun _ _ _ h => h) (Or.inl ⟨by rfl, ?_⟩) (by assumption) ?_
      rotate_left
      · intro w' hSw
        go_simp <;> with_reducible rfl
      try simp only [Act.put, List.setIfInBounds_toArray, List.set_cons_zero, List.set_cons_succ, List.getElem_toArray, List.getElem_cons_succ, List.getElem_cons_zero]
      first | rw [W1.out] | rw [W2.out] | rw [W3.out]
      refine wpAnyH_take (i := 11) (v := ?_) rfl (by kernel_rfl) (by kernel_rfl) (by kernel_rfl) (fun _ _ _ h => h) (Or.inl ⟨by rfl, ?_⟩) (by assumption) ?_
      rotate_left
      · intro w' hSw
        have hkc : (nm.length : Int) ≤ (cap7 : Int) := by omega
        go_simp <;> with_reducible rfl
      try simp only [Act.put, List.setIfInBounds_toArray, List.set_cons_zero, List.set_cons_succ, List.getElem_toArray, List.getElem_cons_succ, List.getElem_cons_zero]
      refine wpAnyH_take (i := 12) (v := ?_) rfl (by kernel_rfl) (by kernel_rfl) (by kernel_rfl) (fun _ _ _ h => h) (Or.inl ⟨by rfl, ?_⟩) (by assumption) ?_
      rotate_left
      · intro w' hSw
        go_simp <;> with_reducible rfl
      try simp only [Act.put, List.setIfInBounds_toArray, List.set_cons_zero, List.set_cons_succ, List.getElem_toArray, List.getElem_cons_succ, List.getElem_cons_zero]
      refine wpAnyH_take (i := 13) (v := ?_) rfl (by kernel_rfl) (by kernel_rfl) (by kernel_rfl) (fun _ _ _ h => h) (Or.inl ⟨by rfl, ?_⟩) (by assumption) ?_
      rotate_left
      · intro w' hSw
        go_simp <;> with_reducible rfl
      try simp only [Act.put, List.setIfInBounds_toArray, List.set_cons_zero, List.set_cons_succ, List.getElem_toArray, List.getElem_cons_succ, List.getElem_cons_zero]
      have hg7B : Hid (g7 ≠ B) := fun e => Zd8.out.ne (by rw [e]; rfl)
      have b3 : x8.cell? ⟨B, 3, none⟩ = some (.slice (some ⟨g7, 0, none⟩) (nm.length + 1) cap7) := Zd8.out.bx.cell 3
      have bf : x8.frozen? ⟨B, 3, none⟩ = false := Blk.frozen Zd8.out.bx 3
      have hB9 : Hid (Bl (.slice (some ⟨g7, 0, none⟩) nm.length cap7) (x8.setCell ⟨B, 3, none⟩ (.slice (some ⟨g7, 0, none⟩) nm.length cap7)) B s r7.pos r7.k) := Blk.set Zd8.out.bx 3 _
      have hf9 : Hid (BFr x8 (x8.setCell ⟨B, 3, none⟩ (.slice (some ⟨g7, 0, none⟩) nm.length cap7)) B (.slice (some ⟨g7, 0, none⟩) (nm.length + 1) cap7) (.slice (some ⟨g7, 0, none⟩) nm.length cap7)) := ⟨rfl, rfl, rfl, by simp [World.setCell], fun q hq h1 _ => Below.heap_setCell _ _ _ _ (by simpa using h1), fun _ h => Or.inl h⟩
      have hO9 : Hid ((x8.setCell ⟨B, 3, none⟩ (.slice (some ⟨g7, 0, none⟩) nm.length cap7)).ownsRow N 9 1 (.slice (some ⟨g7, 0, none⟩) nm.length cap7) nm.length (nm.map Value.string)) := (pop_own (n := nm.length) Zd8.out.own rfl).kept (row := some B) ⟨rfl, rfl, rfl, by simp [World.setCell], fun q hq hb => Below.heap_setCell _ _ _ _ (by simp at hb; simpa using hb)⟩ (Or.inr (by simp [Value.ownBlock]; exact hg7B.out))
      have Z9 := hide (Zd8.out.step hf9.out hB9.out hO9.out)
      have F9 := hide (Fd8.out.trans hf9.out)
      have R9 := hide (blk_bfr Rd8.out hf9.out hbox.1 ho7)
      have kx : ∀ q : Nat, q ≠ B → (x8.setCell ⟨B, 3, none⟩ (.slice (some ⟨g7, 0, none⟩) nm.length cap7)).heap[q]? = x8.heap[q]? := fun q hq => Below.heap_setCell _ _ _ _ (by simpa using hq)
      have T9 : Hid (Blk (x8.setCell ⟨B, 3, none⟩ (.slice (some ⟨g7, 0, none⟩) nm.length cap7)) w7.heap.size #[.int .i64 r7.t.kind, .int .i64 r7.t.idx, .slice a7 r7.t.subs.length c7] 36) := (kx _ (by omega)).trans Td8.out
      have M9 : Hid (Blk (x8.setCell ⟨B, 3, none⟩ (.slice (some ⟨g7, 0, none⟩) nm.length cap7)) (w7.heap.size + 1) #[.int .i64 2, .int .i64 0, .slice (some ⟨w7.heap.size, 0, none⟩) 1 1] 36) := (kx _ (by omega)).trans Md8.out
      have S9 : Hid (SlM (x8.setCell ⟨B, 3, none⟩ (.slice (some ⟨g7, 0, none⟩) nm.length cap7)) (fun b => w.heap.size < b ∧ some b ≠ ((.slice (some ⟨g7, 0, none⟩) nm.length cap7) : Value).ownBlock) a7 r7.t.subs) := (Sd8.out.kept fun q hq => kx q (by omega)).mono fun q hq _ => ⟨by omega, hq.2⟩
      refine wpAnyH_ready (rs := [14]) (by kernel_rfl) (by simp) ?_
      refine AllReadyH.cons rfl (fun K hK => ?_) AllReadyH.nil
      go_simp
      refine hK.out _ _ (by exact Z9.out.le) (fun hHeld => ?_)
      clear hK K
      try simp only [Act.put, List.setIfInBounds_toArray, List.set_cons_zero, List.set_cons_succ, List.getElem_toArray, List.getElem_cons_succ, List.getElem_cons_zero]
      generalize (x8.setCell ⟨B, 3, none⟩ (.slice (some ⟨g7, 0, none⟩) nm.length cap7)) = w9 at *
      clear b3 bf hB9 hO9 hf9 Zd8 Fd8 Rd8 Td8 Md8 Sd8 kx
      refine wpAnyH_done (by kernel_rfl) ?_ _
      have q0 := M9.out.cell 0
      have q1 := M9.out.cell 1
      have q2 := M9.out.cell 2
      have t0 := T9.out.cell 0
      have t1 := T9.out.cell 1
      have t2 := T9.out.cell 2
      have r0 := R9.out.cell 0
      have r1 := R9.out.cell 1
      have r2 := R9.out.cell 2
      have rf := R9.out.frozen
      simp only [List.getElem?_toArray, List.getElem?_cons_succ, List.getElem?_cons_zero] at q0 q1 q2 r0 r1 r2 t0 t1 t2
      have hg7 : ((.slice (some ⟨g7, 0, none⟩) nm.length cap7) : Value).ownBlock = some g7 := rfl
      have hlt7 := (Z9.out.own.lt _ hg7).2
      have HNG : Hid (some w7.heap.size ≠ ((.slice (some ⟨g7, 0, none⟩) nm.length cap7) : Value).ownBlock) := by
        unfold Hid
        intro e
        have e2 : g7 = w7.heap.size := by simpa [Value.ownBlock] using e.symm
        exact gOLD.out e2
      have SF : Hid (SlM w9 (fun b => w.heap.size < b ∧ some b ≠ ((.slice (some ⟨g7, 0, none⟩) nm.length cap7) : Value).ownBlock) (some ⟨w7.heap.size, 0, none⟩) [r7.t]) := lies_one ⟨by omega, HNG.out⟩ (by simpa using t0) (by simpa using t1) (by simpa using t2) S9.out
      clear hg7 hlt7
      go_wp2_with fail
      refine bodyPost_ret (v := .agg #[.int .i64 2, .int .i64 0, .slice (some ⟨w7.heap.size, 0, none⟩) 1 1]) (by simp [results, Tryz.results101, go_sem, World.cell?_setCell_same, World.cell?_setCell_other, r0, r1, r2]) rfl ?_
      exact lr_fin (t := ⟨2, 0, [r7.t]⟩) HR7.out Z9.out F9.out hBlt ho7 SF.out _ _ _
    · have b3 : x8.cell? ⟨B, 3, none⟩ = some (.slice (some ⟨g7, 0, none⟩) (nm.length + 1) cap7) := Zd8.out.bx.cell 3
      go_simp
      refine hK.out _ _ (by exact Zd8.out.le) (fun hHeld => ?_)
      clear hK K
      try simp only [Act.put, List.setIfInBounds_toArray, List.set_cons_zero, List.set_cons_succ, List.getElem_toArray, List.getElem_cons_succ, List.getElem_cons_zero]
      clear b3
      refine wpAnyH_take (i := 9) (v := ?_) rfl (by kernel_rfl) (by kernel_rfl) (by kernel_rfl) (fun _ _ _ h => h) (Or.inl ⟨by rfl, ?_⟩) (by assumption) ?_
      rotate_left
      · intro w' hSw
        go_simp <;> with_reducible rfl
      try simp only [Act.put, List.setIfInBounds_toArray, List.set_cons_zero, List.set_cons_succ, List.getElem_toArray, List.getElem_cons_succ, List.getElem_cons_zero]
      refine wpAnyH_take (i := 10) (v := ?_) rfl (by kernel_rfl) (by kernel_rfl) (by kernel_rfl) (fun _ _ _ h => h) (Or.inl ⟨by rfl, ?_⟩) (by assumption) ?_
      rotate_left
      · intro w' hSw
        go_simp <;> with_reducible rfl
      try simp only [Act.put, List.setIfInBounds_toArray, List.set_cons_zero, List.set_cons_succ, List.getElem_toArray, List.getElem_cons_succ, List.getElem_cons_zero]
      first | rw [W1.out] | rw [W2.out] | rw [W3.out]
      refine wpAnyH_ready (rs := [4]) (by kernel_rfl) (by simp) ?_
      refine AllReadyH.cons rfl (fun K hK => ?_) AllReadyH.nil
      have b3 : x8.cell? ⟨B, 3, none⟩ = some (.slice (some ⟨g7, 0, none⟩) (nm.length + 1) cap7) := Zd8.out.bx.cell 3
      go_simp
      refine hK.out _ _ (by exact Zd8.out.le) (fun hHeld => ?_)
      clear hK K
      try simp only [Act.put, List.setIfInBounds_toArray, List.set_cons_zero, List.set_cons_succ, List.getElem_toArray, List.getElem_cons_succ, List.getElem_cons_zero]
      clear b3
      refine wpAnyH_take (i := 11) (v := ?_) rfl (by kernel_rfl) (by kernel_rfl) (by kernel_rfl) (fun _ _ _ h => h) (Or.inl ⟨by rfl, ?_⟩) (by assumption) ?_
      rotate_left
      · intro w' hSw
        have hkc : (nm.length : Int) ≤ (cap7 : Int) := by omega
        go_simp <;> with_reducible rfl
      try simp only [Act.put, List.setIfInBounds_toArray, List.set_cons_zero, List.set_cons_succ, List.getElem_toArray, List.getElem_cons_succ, List.getElem_cons_zero]
      refine wpAnyH_take (i := 12) (v := ?_) rfl (by kernel_rfl) (by kernel_rfl) (by kernel_rfl) (fun _ _ _ h => h) (Or.inl ⟨by rfl, ?_⟩) (by assumption) ?_
      rotate_left
      · intro w' hSw
        go_simp <;> with_reducible rfl
      try simp only [Act.put, List.setIfInBounds_toArray, List.set_cons_zero, List.set_cons_succ, List.getElem_toArray, List.getElem_cons_succ, List.getElem_cons_zero]
      refine wpAnyH_take (i := 13) (v := ?_) rfl (by kernel_rfl) (by kernel_rfl) (by kernel_rfl) (fun _ _ _ h => h) (Or.inl ⟨by rfl, ?_⟩) (by assumption) ?_
      rotate_left
      · intro w' hSw
        go_simp <;> with_reducible rfl
      try simp only [Act.put, List.setIfInBounds_toArray, List.set_cons_zero, List.set_cons_succ, List.getElem_toArray, List.getElem_cons_succ, List.getElem_cons_zero]
      have hg7B : Hid (g7 ≠ B) := fun e => Zd8.out.ne (by rw [e]; rfl)
      have b3 : x8.cell? ⟨B, 3, none⟩ = some (.slice (some ⟨g7, 0, none⟩) (nm.length + 1) cap7) := Zd8.out.bx.cell 3
      have bf : x8.frozen? ⟨B, 3, none⟩ = false := Blk.frozen Zd8.out.bx 3
      have hB9 : Hid (Bl (.slice (some ⟨g7, 0, none⟩) nm.length cap7) (x8.setCell ⟨B, 3, none⟩ (.slice (some ⟨g7, 0, none⟩) nm.length cap7)) B s r7.pos r7.k) := Blk.set Zd8.out.bx 3 _
      have hf9 : Hid (BFr x8 (x8.setCell ⟨B, 3, none⟩ (.slice (some ⟨g7, 0, none⟩) nm.length cap7)) B (.slice (some ⟨g7, 0, none⟩) (nm.length + 1) cap7) (.slice (some ⟨g7, 0, none⟩) nm.length cap7)) := ⟨rfl, rfl, rfl, by simp [World.setCell], fun q hq h1 _ => Below.heap_setCell _ _ _ _ (by simpa using h1), fun _ h => Or.inl h⟩
      have hO9 : Hid ((x8.setCell ⟨B, 3, none⟩ (.slice (some ⟨g7, 0, none⟩) nm.length cap7)).ownsRow N 9 1 (.slice (some ⟨g7, 0, none⟩) nm.length cap7) nm.length (nm.map Value.string)) := (pop_own (n := nm.length) Zd8.out.own rfl).kept (row := some B) ⟨rfl, rfl, rfl, by simp [World.setCell], fun q hq hb => Below.heap_setCell _ _ _ _ (by simp at hb; simpa using hb)⟩ (Or.inr (by simp [Value.ownBlock]; exact hg7B.out))
      have Z9 := hide (Zd8.out.step hf9.out hB9.out hO9.out)
      have F9 := hide (Fd8.out.trans hf9.out)
      have R9 := hide (blk_bfr Rd8.out hf9.out hbox.1 ho7)
      have kx : ∀ q : Nat, q ≠ B → (x8.setCell ⟨B, 3, none⟩ (.slice (some ⟨g7, 0, none⟩) nm.length cap7)).heap[q]? = x8.heap[q]? := fun q hq => Below.heap_setCell _ _ _ _ (by simpa using hq)
      have T9 : Hid (Blk (x8.setCell ⟨B, 3, none⟩ (.slice (some ⟨g7, 0, none⟩) nm.length cap7)) w7.heap.size #[.int .i64 r7.t.kind, .int .i64 r7.t.idx, .slice a7 r7.t.subs.length c7] 36) := (kx _ (by omega)).trans Td8.out
      have M9 : Hid (Blk (x8.setCell ⟨B, 3, none⟩ (.slice (some ⟨g7, 0, none⟩) nm.length cap7)) (w7.heap.size + 1) #[.int .i64 2, .int .i64 0, .slice (some ⟨w7.heap.size, 0, none⟩) 1 1] 36) := (kx _ (by omega)).trans Md8.out
      have S9 : Hid (SlM (x8.setCell ⟨B, 3, none⟩ (.slice (some ⟨g7, 0, none⟩) nm.length cap7)) (fun b => w.heap.size < b ∧ some b ≠ ((.slice (some ⟨g7, 0, none⟩) nm.length cap7) : Value).ownBlock) a7 r7.t.subs) := (Sd8.out.kept fun q hq => kx q (by omega)).mono fun q hq _ => ⟨by omega, hq.2⟩
      refine wpAnyH_ready (rs := [14]) (by kernel_rfl) (by simp) ?_
      refine AllReadyH.cons rfl (fun K hK => ?_) AllReadyH.nil
      go_simp
      refine hK.out _ _ (by exact Z9.out.le) (fun hHeld => ?_)
      clear hK K
      try simp only [Act.put, List.setIfInBounds_toArray, List.set_cons_zero, List.set_cons_succ, List.getElem_toArray, List.getElem_cons_succ, List.getElem_cons_zero]
      generalize (x8.setCell ⟨B, 3, none⟩ (.slice (some ⟨g7, 0, none⟩) nm.length cap7)) = w9 at *
      clear b3 bf hB9 hO9 hf9 Zd8 Fd8 Rd8 Td8 Md8 Sd8 kx
      refine wpAnyH_done (by kernel_rfl) ?_ _
      have q0 := M9.out.cell 0
      have q1 := M9.out.cell 1
      have q2 := M9.out.cell 2
      have t0 := T9.out.cell 0
      have t1 := T9.out.cell 1
      have t2 := T9.out.cell 2
      have r0 := R9.out.cell 0
      have r1 := R9.out.cell 1
      have r2 := R9.out.cell 2
      have rf := R9.out.frozen
      simp only [List.getElem?_toArray, List.getElem?_cons_succ, List.getElem?_cons_zero] at q0 q1 q2 r0 r1 r2 t0 t1 t2
      have hg7 : ((.slice (some ⟨g7, 0, none⟩) nm.length cap7) : Value).ownBlock = some g7 := rfl
      have hlt7 := (Z9.out.own.lt _ hg7).2
      have HNG : Hid (some w7.heap.size ≠ ((.slice (some ⟨g7, 0, none⟩) nm.length cap7) : Value).ownBlock) := by
        unfold Hid
        intro e
        have e2 : g7 = w7.heap.size := by simpa [Value.ownBlock] using e.symm
        exact gOLD.out e2
      have SF : Hid (SlM w9 (fun b => w.heap.size < b ∧ some b ≠ ((.slice (some ⟨g7, 0, none⟩) nm.length cap7) : Value).ownBlock) (some ⟨w7.heap.size, 0, none⟩) [r7.t]) := lies_one ⟨by omega, HNG.out⟩ (by simpa using t0) (by simpa using t1) (by simpa using t2) S9.out
      clear hg7 hlt7
      go_wp2_with fail
      refine bodyPost_ret (v := .agg #[.int .i64 2, .int .i64 0, .slice (some ⟨w7.heap.size, 0, none⟩) 1 1]) (by simp [results, Tryz.results101, go_sem, World.cell?_setCell_same, World.cell?_setCell_other, r0, r1, r2]) rfl ?_
      exact lr_fin (t := ⟨2, 0, [r7.t]⟩) HR7.out Z9.out F9.out hBlt ho7 SF.out _ _ _
  · go_simp
    go_at_call 110
    refine (name_anyL (nv := nv) B i (k + 1) s hi hs _ (by exact Zd.out.bx)).mono ?_
    intro e w2 hp
    unfold NamePostL at hp
    by_cases h1 : stopAt s i = i
    · rw [if_pos h1] at hp
      obtain ⟨rfl, he⟩ := hp
      have HNE : Hid (nameE s i = if i = s.size then 13 else 12) := by unfold Hid nameE; rw [if_pos h1]
      have HNZ : Hid ((if i = s.size then (13 : Int) else 12) ≠ 0) := by unfold Hid; split <;> omega
      exact ⟨rfl, lrP_no (by rw [HR2.out, if_pos (by rw [HNE.out]; exact HNZ.out), HNE.out]) HNZ.out (Fd.out.trans (he.bfrL nv))⟩
    rw [if_neg h1] at hp
    by_cases h2 : nameB (s.extract i (stopAt s i)) = false
    · rw [if_pos h2] at hp
      obtain ⟨rfl, he⟩ := hp
      have HNE : Hid (nameE s i = 1) := by unfold Hid nameE; rw [if_neg h1, if_pos h2]
      exact ⟨rfl, lrP_no (by rw [HR2.out, if_pos (by rw [HNE.out]; simp), HNE.out]) (by simp) (Fd.out.trans (he.bfrL nv))⟩
    rw [if_neg h2] at hp
    obtain ⟨rfl, hx2, he2, hz2⟩ := hp
    have HNE : Hid (nameE s i = 0) := by unfold Hid nameE; rw [if_neg h1, if_neg h2]
    have HR3 := hide (show r = _ from (HR2.out).trans (if_neg (by rw [HNE.out]; simp)))
    have hjs := stopAt_le s hi
    have hji := stopAt_ge s i
    have hjl : i < stopAt s i := by omega
    have Z2 := hide (Zd.out.ex he2 hx2)
    have F2 := hide (Fd.out.trans (he2.bfrL nv))
    have R2 := hide (blk_bfr Rd.out (he2.bfrL nv) hbox.1 hbox.2)
    clear hx2 he2 h1 h2 Zd Fd Rd HR2 HNE
    generalize s.extract i (stopAt s i) = x at *
    generalize stopAt s i = j at *
    go_simp
    refine hK.out _ _ (by exact Z2.out.le) (fun hHeld => ?_)
    clear hK K
    try simp only [Act.put, List.setIfInBounds_toArray, List.set_cons_zero, List.set_cons_succ, List.getElem_toArray, List.getElem_cons_succ, List.getElem_cons_zero]
    have Z3 := hide (Z2.out.alloc (.cells #[.string x] 9))
    have R3 := hide (R2.out.alloc (.cells #[.string x] 9))
    have F3 := hide (F2.out.trans (BFr.of_below ((Below.refl w2.heap.size w2).alloc (Nat.le_refl _) (.cells #[.string x] 9)) B nv))
    have P3 := hide (Blk.new w2 #[.string x] 9)
    have hz3 : (w2.alloc (.cells #[.string x] 9)).heap.size = w.heap.size + 2 := by simp; omega
    refine wpAnyH_ready (rs := [4, 9]) (by kernel_rfl) (by simp) ?_
    refine AllReadyH.cons rfl (fun K hK => ?_) (AllReadyH.cons rfl (fun K hK => ?_) AllReadyH.nil)
    · have b3 : w2.cell? ⟨B, 3, none⟩ = some nv := Z2.out.bx.cell 3
      go_simp
      refine hK.out _ _ (by exact Z2.out.le) (fun hHeld => ?_)
      clear hK K
      try simp only [Act.put, List.setIfInBounds_toArray, List.set_cons_zero, List.set_cons_succ, List.getElem_toArray, List.getElem_cons_succ, List.getElem_cons_zero]
      clear b3
      refine wpAnyH_ready (rs := [9]) (by kernel_rfl) (by simp) ?_
      refine AllReadyH.cons rfl (fun K hK => ?_) AllReadyH.nil
      go_simp
      refine hK.out _ _ (by exact Z3.out.le) (fun hHeld => ?_)
      clear hK K
      try simp only [Act.put, List.setIfInBounds_toArray, List.set_cons_zero, List.set_cons_succ, List.getElem_toArray, List.getElem_cons_succ, List.getElem_cons_zero]
      generalize (w2.alloc (.cells #[.string x] 9)) = w3 at *
      have hw2 : w2.heap.size = w.heap.size + 1 := by omega
      rw [hw2] at P3
      try rw [hw2]
      obtain ⟨g, cap, w4, hr4, ho4, hg4, hat4⟩ := app_oneL (P := w.heap.size + 1) (x := x) Z3.out.own Z3.out.le (by omega) (by have := P3.out.cell 0; simpa using this)
      have HR4 := hide hr4
      have HO4 := hide ho4
      have hB4 : Hid (Bl nv w4 B s j (k + 1)) := by
        unfold Hid Bl Blk
        rw [hg4.block B Z3.out.lt (fun e => Z3.out.ne e.symm)]
        exact Z3.out.bx
      have hf4 : BFr w3 w4 B nv (.slice (some ⟨g, 0, none⟩) (nm.length + 1) cap) := ⟨hg4.os, hg4.tape, hg4.output, hg4.size, fun q hq h1 h2 => hg4.block q hq h2, fun q hq => by
        simp [Value.ownBlock] at hq
        subst hq
        rcases hat4 with e | e
        · exact Or.inl e
        · right; omega⟩
      have R4 := hide (blk_bfr R3.out hf4 hbox.1 hbox.2)
      have ho4' := own_bfr hf4 R3.out.lt hbox.2
      have F4 := hide (F3.out.trans hf4)
      have HB4 := hide (Z3.out.fr hf4)
      have hz4 := hg4.size
      have hsz4 : Hid (g ≠ B) := by
        unfold Hid
        intro e
        rcases hat4 with e2 | e2
        · exact Z3.out.ne (by rw [e2, e])
        · have := Z3.out.lt; omega
      clear hr4 ho4 hg4 hat4 hf4
      have hle4 : N ≤ w4.heap.size := by have := Z3.out.le; omega
      refine wpAnyH_ready (rs := [10]) (by kernel_rfl) (by simp) ?_
      refine AllReadyH.cons rfl (fun K hK => ?_) AllReadyH.nil
      refine step_append_eqM rfl _ _ _ _ rfl rfl rfl HR4.out ?_
      refine hK.out _ _ (by exact hle4) (fun hHeld => ?_)
      clear hK K
      try simp only [Act.put, List.setIfInBounds_toArray, List.set_cons_zero, List.set_cons_succ, List.getElem_toArray, List.getElem_cons_succ, List.getElem_cons_zero]
      refine wpAnyH_take (i := 11) (v := ?_) rfl (by kernel_rfl) (by kernel_rfl) (by kernel_rfl) (fun _ _ _ h => h) (Or.inl ⟨by rfl, ?_⟩) (by assumption) ?_
      rotate_left
      · intro w' hSw
        go_simp <;> with_reducible rfl
      try simp only [Act.put, List.setIfInBounds_toArray, List.set_cons_zero, List.set_cons_succ, List.getElem_toArray, List.getElem_cons_succ, List.getElem_cons_zero]
      refine wpAnyH_take (i := 12) (v := ?_) rfl (by kernel_rfl) (by kernel_rfl) (by kernel_rfl) (fun _ _ _ h => h) (Or.inl ⟨by rfl, ?_⟩) (by assumption) ?_
      rotate_left
      · intro w' hSw
        go_simp <;> with_reducible rfl
      try simp only [Act.put, List.setIfInBounds_toArray, List.set_cons_zero, List.set_cons_succ, List.getElem_toArray, List.getElem_cons_succ, List.getElem_cons_zero]
      have b3 : w4.cell? ⟨B, 3, none⟩ = some nv := hB4.out.cell 3
      have bf : w4.frozen? ⟨B, 3, none⟩ = false := Blk.frozen hB4.out 3
      have hB5 : Hid (Bl (.slice (some ⟨g, 0, none⟩) (nm.length + 1) cap) (w4.setCell ⟨B, 3, none⟩ (.slice (some ⟨g, 0, none⟩) (nm.length + 1) cap)) B s j (k + 1)) := Blk.set hB4.out 3 _
      have hO5 : Hid ((w4.setCell ⟨B, 3, none⟩ (.slice (some ⟨g, 0, none⟩) (nm.length + 1) cap)).ownsRow N 9 1 (.slice (some ⟨g, 0, none⟩) (nm.length + 1) cap) (nm ++ [x]).length ((nm ++ [x]).map Value.string)) := HO4.out.kept (row := some B) ⟨rfl, rfl, rfl, by simp [World.setCell], fun q hq hb => Below.heap_setCell _ _ _ _ (by simp at hb; simpa using hb)⟩ (Or.inr (by simp [Value.ownBlock]; exact hsz4.out))
      have hf5 : Hid (BFr w4 (w4.setCell ⟨B, 3, none⟩ (.slice (some ⟨g, 0, none⟩) (nm.length + 1) cap)) B (.slice (some ⟨g, 0, none⟩) (nm.length + 1) cap) (.slice (some ⟨g, 0, none⟩) (nm.length + 1) cap)) := ⟨rfl, rfl, rfl, by simp [World.setCell], fun q hq h1 _ => Below.heap_setCell _ _ _ _ (by simpa using h1), fun _ h => Or.inl h⟩
      have R5 := hide (blk_bfr R4.out hf5.out hbox.1 ho4')
      have F5 := hide (F4.out.trans hf5.out)
      have Z5 : Hid (Rst N B s (nm ++ [x]) j (k + 1) (.slice (some ⟨g, 0, none⟩) (nm.length + 1) cap) (w4.setCell ⟨B, 3, none⟩ (.slice (some ⟨g, 0, none⟩) (nm.length + 1) cap))) := by
        have hb5 : Below N w4 (w4.setCell ⟨B, 3, none⟩ (.slice (some ⟨g, 0, none⟩) (nm.length + 1) cap)) := (Below.refl _ _).setCell (by have := Z3.out.nb; simpa using this) _
        exact ⟨hB5.out, hO5.out, Z3.out.nb, by simp [World.setCell]; omega, (Z3.out.tb.on HB4.out).on hb5, (Z3.out.ts.on HB4.out).on hb5⟩
      have hz5 : w4.heap.size ≤ (w4.setCell ⟨B, 3, none⟩ (.slice (some ⟨g, 0, none⟩) (nm.length + 1) cap)).heap.size := by simp [World.setCell]
      refine wpAnyH_ready (rs := [13]) (by kernel_rfl) (by simp) ?_
      refine AllReadyH.cons rfl (fun K hK => ?_) AllReadyH.nil
      go_simp
      refine hK.out _ _ (by exact Z5.out.le) (fun hHeld => ?_)
      clear hK K
      try simp only [Act.put, List.setIfInBounds_toArray, List.set_cons_zero, List.set_cons_succ, List.getElem_toArray, List.getElem_cons_succ, List.getElem_cons_zero]
      generalize (w4.setCell ⟨B, 3, none⟩ (.slice (some ⟨g, 0, none⟩) (nm.length + 1) cap)) = w5 at *
      clear b3 bf hB5 hO5 hf5 R4 F4 Z3 F3 R3 P3 HO4 HR4 hB4 HB4
      refine wpAnyH_done (by kernel_rfl) ?_ _
      go_wp2_with fail
      refine (rdAsk_anyL (nv := (.slice (some ⟨g, 0, none⟩) (nm.length + 1) cap)) B j (k + 1) s 46 hjs hs _ (by exact Z5.out.bx)).mono ?_
      intro e w6 hp
      unfold RdAskPostL at hp
      by_cases h6 : j < s.size ∧ byteAt s j = 46
      case neg =>
        rw [if_neg h6] at hp
        obtain ⟨he, n6, rfl⟩ := hp
        have HAE : Hid (askE s j 46 = if j = s.size then 13 else 12) := by unfold Hid askE; rw [if_neg h6]
        have HNZ : Hid ((if j = s.size then (13 : Int) else 12) ≠ 0) := by unfold Hid; split <;> omega
        unfold thrownL at he
        subst he
        exact ⟨rfl, lrP_no (by rw [HR3.out, if_pos (by rw [HAE.out]; exact HNZ.out), HAE.out]) HNZ.out (F5.out.trans (BFr.of_below (below_drewN (Below.refl _ _) n6) B (.slice (some ⟨g, 0, none⟩) (nm.length + 1) cap)))⟩
      rw [if_pos h6] at hp
      obtain ⟨⟨v6, rfl⟩, hx6, he6, hz6⟩ := hp
      have HAE : Hid (askE s j 46 = 0) := by unfold Hid askE; rw [if_pos h6]
      have HR6 := hide (show r = _ from (HR3.out).trans (if_neg (by rw [HAE.out]; simp)))
      have Z6 := hide (Z5.out.ex he6 hx6)
      have F6 := hide (F5.out.trans (he6.bfrL (.slice (some ⟨g, 0, none⟩) (nm.length + 1) cap)))
      have R6 := hide (blk_bfr R5.out (he6.bfrL (.slice (some ⟨g, 0, none⟩) (nm.length + 1) cap)) hbox.1 ho4')
      have hwz6 : w.heap.size + 2 ≤ w6.heap.size := by omega
      clear hx6 he6 hz6 HR3 Z5 F5 R5 HAE
      go_wp2_with fail
      refine (HT.out (nm ++ [x]) (.slice (some ⟨g, 0, none⟩) (nm.length + 1) cap) (j + 1) (k + 1) w6 Z6.out (by simp; omega) (by omega) (by omega) (by omega)).mono ?_
      intro e w7 hp
      generalize lrd s F .term (nm ++ [x]) (j + 1) (k + 1) = r7 at *
      rcases hp with ⟨hr0, nv7, a7, c7, rfl, hs7, hst7, hf7⟩ | ⟨hr0, rfl, nv7, hf7⟩
      case inr => exact ⟨rfl, lrP_no (by rw [HR6.out, if_pos hr0]) hr0 (F6.out.trans hf7)⟩
      obtain ⟨g7, cap7, rfl, hgc7⟩ : ∃ g7 cap7, nv7 = (.slice (some ⟨g7, 0, none⟩) (nm.length + 1) cap7) ∧ nm.length + 1 ≤ cap7 := by
        have h := hst7.own.2
        simp only [List.length_append, List.length_cons, List.length_nil, Nat.zero_add] at h
        rcases h with ⟨_, h⟩ | ⟨g7, cap7, cur, h, _, _, hnc, _⟩
        · omega
        · exact ⟨g7, cap7, h, hnc⟩
      have HR7 : Hid (r = ⟨0, ⟨2, 0, [r7.t]⟩, r7.pos, r7.k⟩) := by unfold Hid; rw [HR6.out, if_neg (by rw [hr0]; simp)]
      have F7 := hide (F6.out.trans hf7)
      have R7 := hide (blk_bfr R6.out hf7 hbox.1 ho4')
      have ho7 := own_bfr hf7 R6.out.lt ho4'
      have hz7 : w6.heap.size ≤ w7.heap.size := hf7.2.2.2.1
      have Z7 := hide hst7
      have gOLD : Hid (g7 ≠ w7.heap.size) := fun e => by have := (hst7.own.lt g7 rfl).2; omega
      have S7 := hide hs7
      clear hs7 hst7 hf7 hr0 HR6 Z6 F6 R6
      have B8 : Hid (Below w7.heap.size w7 ((w7.alloc (.cells #[.int .i64 r7.t.kind, .int .i64 r7.t.idx, .slice a7 r7.t.subs.length c7] 36)).alloc (.cells #[.int .i64 2, .int .i64 0, .slice (some ⟨w7.heap.size, 0, none⟩) 1 1] 36))) := ((Below.refl _ _).alloc (Nat.le_refl _) _).alloc (by simp) _
      have T8 := hide ((Blk.new w7 #[.int .i64 r7.t.kind, .int .i64 r7.t.idx, .slice a7 r7.t.subs.length c7] 36).alloc (.cells #[.int .i64 2, .int .i64 0, .slice (some ⟨w7.heap.size, 0, none⟩) 1 1] 36))
      have M8 : Hid (Blk ((w7.alloc (.cells #[.int .i64 r7.t.kind, .int .i64 r7.t.idx, .slice a7 r7.t.subs.length c7] 36)).alloc (.cells #[.int .i64 2, .int .i64 0, .slice (some ⟨w7.heap.size, 0, none⟩) 1 1] 36)) (w7.heap.size + 1) #[.int .i64 2, .int .i64 0, .slice (some ⟨w7.heap.size, 0, none⟩) 1 1] 36) := by
        have h := Blk.new (w7.alloc (.cells #[.int .i64 r7.t.kind, .int .i64 r7.t.idx, .slice a7 r7.t.subs.length c7] 36)) #[.int .i64 2, .int .i64 0, .slice (some ⟨w7.heap.size, 0, none⟩) 1 1] 36
        have hz : (w7.alloc (.cells #[.int .i64 r7.t.kind, .int .i64 r7.t.idx, .slice a7 r7.t.subs.length c7] 36)).heap.size = w7.heap.size + 1 := by simp
        rw [hz] at h
        exact h
      have hz8 : ((w7.alloc (.cells #[.int .i64 r7.t.kind, .int .i64 r7.t.idx, .slice a7 r7.t.subs.length c7] 36)).alloc (.cells #[.int .i64 2, .int .i64 0, .slice (some ⟨w7.heap.size, 0, none⟩) 1 1] 36)).heap.size = w7.heap.size + 2 := by simp
      have Z8 := hide (Z7.out.later B8.out)
      have F8 := hide (F7.out.trans (BFr.of_below B8.out B (.slice (some ⟨g7, 0, none⟩) (nm.length + 1) cap7)))
      have R8 := hide (R7.out.below B8.out R7.out.lt)
      have S8 := hide (S7.out.later B8.out)
      clear Z7 F7 R7 S7 B8
      go_wp2_with fail
      generalize ((w7.alloc (.cells #[.int .i64 r7.t.kind, .int .i64 r7.t.idx, .slice a7 r7.t.subs.length c7] 36)).alloc (.cells #[.int .i64 2, .int .i64 0, .slice (some ⟨w7.heap.size, 0, none⟩) 1 1] 36)) = w8 at *
      have Zd8 := hide (Z8.out.later (Below.drew (Below.refl w8.heap.size w8)))
      have Fd8 := hide (F8.out.trans (BFr.of_below (Below.drew (Below.refl w8.heap.size w8)) B (.slice (some ⟨g7, 0, none⟩) (nm.length + 1) cap7)))
      have Rd8 : Hid (Blk w8.drew w.heap.size #[.int .i64 0, .int .i64 0, .slice none 0 0] 36) := R8.out
      have Td8 : Hid (Blk w8.drew w7.heap.size #[.int .i64 r7.t.kind, .int .i64 r7.t.idx, .slice a7 r7.t.subs.length c7] 36) := T8.out
      have Md8 : Hid (Blk w8.drew (w7.heap.size + 1) #[.int .i64 2, .int .i64 0, .slice (some ⟨w7.heap.size, 0, none⟩) 1 1] 36) := M8.out
      have Sd8 : Hid (SlM w8.drew (fun b => w6.heap.size ≤ b ∧ some b ≠ ((.slice (some ⟨g7, 0, none⟩) (nm.length + 1) cap7) : Value).ownBlock) a7 r7.t.subs) := S8.out.later (Below.drew (Below.refl w8.heap.size w8))
      have hzd8 : w8.drew.heap.size = w7.heap.size + 2 := by
        have : w8.drew.heap = w8.heap := rfl
        rw [this]; exact hz8
      refine wp_region_held_drew (S := fun w' => N ≤ w'.heap.size) (by kernel_rfl) (by exact Zd8.out.le) (fun hHeld => ?_)
      generalize w8.drew = x8 at *
      clear Z8 F8 R8 T8 M8 S8 hz8
      have W1 : Hid (IntKind.i64.wrap (((nm.length + 1 : Nat) : Int) - 1) = (nm.length : Int)) := by
        unfold Hid; rw [show (((nm.length + 1 : Nat) : Int) - 1) = (nm.length : Int) by omega]; exact wrap_is (by omega) (by omega)
      have W2 : Hid (IntKind.i64.wrap ((nm.length : Int) + 1 - 1) = (nm.length : Int)) := by
        unfold Hid; rw [show ((nm.length : Int) + 1 - 1) = (nm.length : Int) by omega]; exact wrap_is (by omega) (by omega)
      have W3 : Hid (IntKind.i64.wrap (nm.length : Int) = (nm.length : Int)) := wrap_is (by omega) (by omega)
      refine wpAnyH_take (i := 0) (v := ?_) rfl (by kernel_rfl) (by kernel_rfl) (by kernel_rfl) (fun _ _ _ h => h) (Or.inl ⟨by rfl, ?_⟩) (by assumption) ?_
      rotate_left
      · intro w' hSw
        go_simp <;> with_reducible rfl
      try simp only [Act.put, List.setIfInBounds_toArray, List.set_cons_zero, List.set_cons_succ, List.getElem_toArray, List.getElem_cons_succ, List.getElem_cons_zero]
      refine wpAnyH_take (i := 1) (v := ?_) rfl (by kernel_rfl) (by kernel_rfl) (by kernel_rfl) (fun _ _ _ h => h) (Or.inl ⟨by rfl, ?_⟩) (by assumption) ?_
      rotate_left
      · intro w' hSw
        go_simp <;> with_reducible rfl
      try simp only [Act.put, List.setIfInBounds_toArray, List.set_cons_zero, List.set_cons_succ, List.getElem_toArray, List.getElem_cons_succ, List.getElem_cons_zero]
      refine wpAnyH_take (i := 2) (v := ?_) rfl (by kernel_rfl) (by kernel_rfl) (by kernel_rfl) (fun _ _ _ h => h) (Or.inl ⟨by rfl, ?_⟩) (by assumption) ?_
      rotate_left
      · intro w' hSw
        go_simp <;> with_reducible rfl
      try simp only [Act.put, List.setIfInBounds_toArray, List.set_cons_zero, List.set_cons_succ, List.getElem_toArray, List.getElem_cons_succ, List.getElem_cons_zero]
      refine wpAnyH_take (i := 3) (v := ?_) rfl (by kernel_rfl) (by kernel_rfl) (by kernel_rfl) (fun _ _ _ h => h) (Or.inl ⟨by rfl, ?_⟩) (by assumption) ?_
      rotate_left
      · intro w' hSw
        go_simp <;> with_reducible rfl
      try simp only [Act.put, List.setIfInBounds_toArray, List.set_cons_zero, List.set_cons_succ, List.getElem_toArray, List.getElem_cons_succ, List.getElem_cons_zero]
      refine wpAnyH_take (i := 5) (v := ?_) rfl (by kernel_rfl) (by kernel_rfl) (by kernel_rfl) (fun _ _ _ h => h) (Or.inl ⟨by rfl, ?_⟩) (by assumption) ?_
      rotate_left
      · intro w' hSw
        go_simp <;> with_reducible rfl
      try simp only [Act.put, List.setIfInBounds_toArray, List.set_cons_zero, List.set_cons_succ, List.getElem_toArray, List.getElem_cons_succ, List.getElem_cons_zero]
      refine wpAnyH_take (i := 6) (v := ?_) rfl (by kernel_rfl) (by kernel_rfl) (by kernel_rfl) (fun _ _ _ h => h) (Or.inl ⟨by rfl, ?_⟩) (by assumption) ?_
      rotate_left
      · intro w' hSw
        go_simp <;> with_reducible rfl
      try simp only [Act.put, List.setIfInBounds_toArray, List.set_cons_zero, List.set_cons_succ, List.getElem_toArray, List.getElem_cons_succ, List.getElem_cons_zero]
      refine wpAnyH_take (i := 7) (v := ?_) rfl (by kernel_rfl) (by kernel_rfl) (by kernel_rfl) (fun _ _ _ h => h) (Or.inl ⟨by rfl, ?_⟩) (by assumption) ?_
      rotate_left
      · intro w' hSw
        go_simp <;> with_reducible rfl
      try simp only [Act.put, List.setIfInBounds_toArray, List.set_cons_zero, List.set_cons_succ, List.getElem_toArray, List.getElem_cons_succ, List.getElem_cons_zero]
      refine wpAnyH_ready (rs := [4, 8]) (by kernel_rfl) (by simp) ?_
      refine AllReadyH.cons rfl (fun K hK => ?_) (AllReadyH.cons rfl (fun K hK => ?_) AllReadyH.nil)
      · have b3 : x8.cell? ⟨B, 3, none⟩ = some (.slice (some ⟨g7, 0, none⟩) (nm.length + 1) cap7) := Zd8.out.bx.cell 3
        go_simp
        refine hK.out _ _ (by exact Zd8.out.le) (fun hHeld => ?_)
        clear hK K
        try simp only [Act.put, List.setIfInBounds_toArray, List.set_cons_zero, List.set_cons_succ, List.getElem_toArray, List.getElem_cons_succ, List.getElem_cons_zero]
        clear b3
        refine wpAnyH_ready (rs := [8]) (by kernel_rfl) (by simp) ?_
        refine AllReadyH.cons rfl (fun K hK => ?_) AllReadyH.nil
        have b3 : x8.cell? ⟨B, 3, none⟩ = some (.slice (some ⟨g7, 0, none⟩) (nm.length + 1) cap7) := Zd8.out.bx.cell 3
        go_simp
        refine hK.out _ _ (by exact Zd8.out.le) (fun hHeld => ?_)
        clear hK K
        try simp only [Act.put, List.setIfInBounds_toArray, List.set_cons_zero, List.set_cons_succ, List.getElem_toArray, List.getElem_cons_succ, List.getElem_cons_zero]
        clear b3
        refine wpAnyH_take (i := 9) (v := ?_) rfl (by kernel_rfl) (by kernel_rfl) (by kernel_rfl) (fun _ _ _ h => h) (Or.inl ⟨by rfl, ?_⟩) (by assumption) ?_
        rotate_left
        · intro w' hSw
          go_simp <;> with_reducible rfl
        try simp only [Act.put, List.setIfInBounds_toArray, List.set_cons_zero, List.set_cons_succ, List.getElem_toArray, List.getElem_cons_succ, List.getElem_cons_zero]
        refine wpAnyH_take (i := 10) (v := ?_) rfl (by kernel_rfl) (by kernel_rfl) (by kernel_rfl) (fun _ _ _ h => h) (Or.inl ⟨by rfl, ?_⟩) (by assumption) ?_
        rotate_left
        · intro w' hSw
          go_simp <;> with_reducible rfl
        try simp only [Act.put, List.setIfInBounds_toArray, List.set_cons_zero, List.set_cons_succ, List.getElem_toArray, List.getElem_cons_succ, List.getElem_cons_zero]
        first | rw [W1.out] | rw [W2.out] | rw [W3.out]
        refine wpAnyH_take (i := 11) (v := ?_) rfl (by kernel_rfl) (by kernel_rfl) (by kernel_rfl) (fun _ _ _ h => h) (Or.inl ⟨by rfl, ?_⟩) (by assumption) ?_
        rotate_left
        · intro w' hSw
          have hkc : (nm.length : Int) ≤ (cap7 : Int) := by omega
          go_simp <;> with_reducible rfl
        try simp only [Act.put, List.setIfInBounds_toArray, List.set_cons_zero, List.set_cons_succ, List.getElem_toArray, List.getElem_cons_succ, List.getElem_cons_zero]
        refine wpAnyH_take (i := 12) (v := ?_) rfl (by kernel_rfl) (by kernel_rfl) (by kernel_rfl) (fun _ _ _ h => h) (Or.inl ⟨by rfl, ?_⟩) (by assumption) ?_
        rotate_left
        · intro w' hSw
          go_simp <;> with_reducible rfl
        try simp only [Act.put, List.setIfInBounds_toArray, List.set_cons_zero, List.set_cons_succ, List.getElem_toArray, List.getElem_cons_succ, List.getElem_cons_zero]
        refine wpAnyH_take (i := 13) (v := ?_) rfl (by kernel_rfl) (by kernel_rfl) (by kernel_rfl) (fun _ _ _ h => h) (Or.inl ⟨by rfl, ?_⟩) (by assumption) ?_
        rotate_left
        · intro w' hSw
          go_simp <;> with_reducible rfl
        try simp only [Act.put, List.setIfInBounds_toArray, List.set_cons_zero, List.set_cons_succ, List.getElem_toArray, List.getElem_cons_succ, List.getElem_cons_zero]
        have hg7B : Hid (g7 ≠ B) := fun e => Zd8.out.ne (by rw [e]; rfl)
        have b3 : x8.cell? ⟨B, 3, none⟩ = some (.slice (some ⟨g7, 0, none⟩) (nm.length + 1) cap7) := Zd8.out.bx.cell 3
        have bf : x8.frozen? ⟨B, 3, none⟩ = false := Blk.frozen Zd8.out.bx 3
        have hB9 : Hid (Bl (.slice (some ⟨g7, 0, none⟩) nm.length cap7) (x8.setCell ⟨B, 3, none⟩ (.slice (some ⟨g7, 0, none⟩) nm.length cap7)) B s r7.pos r7.k) := Blk.set Zd8.out.bx 3 _
        have hf9 : Hid (BFr x8 (x8.setCell ⟨B, 3, none⟩ (.slice (some ⟨g7, 0, none⟩) nm.length cap7)) B (.slice (some ⟨g7, 0, none⟩) (nm.length + 1) cap7) (.slice (some ⟨g7, 0, none⟩) nm.length cap7)) := ⟨rfl, rfl, rfl, by simp [World.setCell], fun q hq h1 _ => Below.heap_setCell _ _ _ _ (by simpa using h1), fun _ h => Or.inl h⟩
        have hO9 : Hid ((x8.setCell ⟨B, 3, none⟩ (.slice (some ⟨g7, 0, none⟩) nm.length cap7)).ownsRow N 9 1 (.slice (some ⟨g7, 0, none⟩) nm.length cap7) nm.length (nm.map Value.string)) := (pop_own (n := nm.length) Zd8.out.own rfl).kept (row := some B) ⟨rfl, rfl, rfl, by simp [World.setCell], fun q hq hb => Below.heap_setCell _ _ _ _ (by simp at hb; simpa using hb)⟩ (Or.inr (by simp [Value.ownBlock]; exact hg7B.out))
        have Z9 := hide (Zd8.out.step hf9.out hB9.out hO9.out)
        have F9 := hide (Fd8.out.trans hf9.out)
        have R9 := hide (blk_bfr Rd8.out hf9.out hbox.1 ho7)
        have kx : ∀ q : Nat, q ≠ B → (x8.setCell ⟨B, 3, none⟩ (.slice (some ⟨g7, 0, none⟩) nm.length cap7)).heap[q]? = x8.heap[q]? := fun q hq => Below.heap_setCell _ _ _ _ (by simpa using hq)
        have T9 : Hid (Blk (x8.setCell ⟨B, 3, none⟩ (.slice (some ⟨g7, 0, none⟩) nm.length cap7)) w7.heap.size #[.int .i64 r7.t.kind, .int .i64 r7.t.idx, .slice a7 r7.t.subs.length c7] 36) := (kx _ (by omega)).trans Td8.out
        have M9 : Hid (Blk (x8.setCell ⟨B, 3, none⟩ (.slice (some ⟨g7, 0, none⟩) nm.length cap7)) (w7.heap.size + 1) #[.int .i64 2, .int .i64 0, .slice (some ⟨w7.heap.size, 0, none⟩) 1 1] 36) := (kx _ (by omega)).trans Md8.out
        have S9 : Hid (SlM (x8.setCell ⟨B, 3, none⟩ (.slice (some ⟨g7, 0, none⟩) nm.length cap7)) (fun b => w.heap.size < b ∧ some b ≠ ((.slice (some ⟨g7, 0, none⟩) nm.length cap7) : Value).ownBlock) a7 r7.t.subs) := (Sd8.out.kept fun q hq => kx q (by omega)).mono fun q hq _ => ⟨by omega, hq.2⟩
        refine wpAnyH_ready (rs := [14]) (by kernel_rfl) (by simp) ?_
        refine AllReadyH.cons rfl (fun K hK => ?_) AllReadyH.nil
        go_simp
        refine hK.out _ _ (by exact Z9.out.le) (fun hHeld => ?_)
        clear hK K
        try simp only [Act.put, List.setIfInBounds_toArray, List.set_cons_zero, List.set_cons_succ, List.getElem_toArray, List.getElem_cons_succ, List.getElem_cons_zero]
        generalize (x8.setCell ⟨B, 3, none⟩ (.slice (some ⟨g7, 0, none⟩) nm.length cap7)) = w9 at *
        clear b3 bf hB9 hO9 hf9 Zd8 Fd8 Rd8 Td8 Md8 Sd8 kx
        refine wpAnyH_done (by kernel_rfl) ?_ _
        have q0 := M9.out.cell 0
        have q1 := M9.out.cell 1
        have q2 := M9.out.cell 2
        have t0 := T9.out.cell 0
        have t1 := T9.out.cell 1
        have t2 := T9.out.cell 2
        have r0 := R9.out.cell 0
        have r1 := R9.out.cell 1
        have r2 := R9.out.cell 2
        have rf := R9.out.frozen
        simp only [List.getElem?_toArray, List.getElem?_cons_succ, List.getElem?_cons_zero] at q0 q1 q2 r0 r1 r2 t0 t1 t2
        have hg7 : ((.slice (some ⟨g7, 0, none⟩) nm.length cap7) : Value).ownBlock = some g7 := rfl
        have hlt7 := (Z9.out.own.lt _ hg7).2
        have HNG : Hid (some w7.heap.size ≠ ((.slice (some ⟨g7, 0, none⟩) nm.length cap7) : Value).ownBlock) := by
          unfold Hid
          intro e
          have e2 : g7 = w7.heap.size := by simpa [Value.ownBlock] using e.symm
          exact gOLD.out e2
        have SF : Hid (SlM w9 (fun b => w.heap.size < b ∧ some b ≠ ((.slice (some ⟨g7, 0, none⟩) nm.length cap7) : Value).ownBlock) (some ⟨w7.heap.size, 0, none⟩) [r7.t]) := lies_one ⟨by omega, HNG.out⟩ (by simpa using t0) (by simpa using t1) (by simpa using t2) S9.out
        clear hg7 hlt7
        go_wp2_with fail
        refine bodyPost_ret (v := .agg #[.int .i64 2, .int .i64 0, .slice (some ⟨w7.heap.size, 0, none⟩) 1 1]) (by simp [results, Tryz.results101, go_sem, World.cell?_setCell_same, World.cell?_setCell_other, r0, r1, r2]) rfl ?_
        exact lr_fin (t := ⟨2, 0, [r7.t]⟩) HR7.out Z9.out F9.out hBlt ho7 SF.out _ _ _
      · have b3 : x8.cell? ⟨B, 3, none⟩ = some (.slice (some ⟨g7, 0, none⟩) (nm.length + 1) cap7) := Zd8.out.bx.cell 3
        go_simp
        refine hK.out _ _ (by exact Zd8.out.le) (fun hHeld => ?_)
        clear hK K
        try simp only [Act.put, List.setIfInBounds_toArray, List.set_cons_zero, List.set_cons_succ, List.getElem_toArray, List.getElem_cons_succ, List.getElem_cons_zero]
        clear b3
        refine wpAnyH_take (i := 9) (v := ?_) rfl (by kernel_rfl) (by kernel_rfl) (by kernel_rfl) (fun _ _ _ h => h) (Or.inl ⟨by rfl, ?_⟩) (by assumption) ?_
        rotate_left
        · intro w' hSw
          go_simp <;> with_reducible rfl
        try simp only [Act.put, List.setIfInBounds_toArray, List.set_cons_zero, List.set_cons_succ, List.getElem_toArray, List.getElem_cons_succ, List.getElem_cons_zero]
        refine wpAnyH_take (i := 10) (v := ?_) rfl (by kernel_rfl) (by kernel_rfl) (by kernel_rfl) (fun _ _ _ h => h) (Or.inl ⟨by rfl, ?_⟩) (by assumption) ?_
        rotate_left
        · intro w' hSw
          go_simp <;> with_reducible rfl
        try simp only [Act.put, List.setIfInBounds_toArray, List.set_cons_zero, List.set_cons_succ, List.getElem_toArray, List.getElem_cons_succ, List.getElem_cons_zero]
        first | rw [W1.out] | rw [W2.out] | rw [W3.out]
        refine wpAnyH_ready (rs := [4]) (by kernel_rfl) (by simp) ?_
        refine AllReadyH.cons rfl (fun K hK => ?_) AllReadyH.nil
        have b3 : x8.cell? ⟨B, 3, none⟩ = some (.slice (some ⟨g7, 0, none⟩) (nm.length + 1) cap7) := Zd8.out.bx.cell 3
        go_simp
        refine hK.out _ _ (by exact Zd8.out.le) (fun hHeld => ?_)
        clear hK K
        try simp only [Act.put, List.setIfInBounds_toArray, List.set_cons_zero, List.set_cons_succ, List.getElem_toArray, List.getElem_cons_succ, List.getElem_cons_zero]
        clear b3
        refine wpAnyH_take (i := 11) (v := ?_) rfl (by kernel_rfl) (by kernel_rfl) (by kernel_rfl) (fun _ _ _ h => h) (Or.inl ⟨by rfl, ?_⟩) (by assumption) ?_
        rotate_left
        · intro w' hSw
          have hkc : (nm.length : Int) ≤ (cap7 : Int) := by omega
          go_simp <;> with_reducible rfl
        try simp only [Act.put, List.setIfInBounds_toArray, List.set_cons_zero, List.set_cons_succ, List.getElem_toArray, List.getElem_cons_succ, List.getElem_cons_zero]
        refine wpAnyH_take (i := 12) (v := ?_) rfl (by kernel_rfl) (by kernel_rfl) (by kernel_rfl) (fun _ _ _ h => h) (Or.inl ⟨by rfl, ?_⟩) (by assumption) ?_
        rotate_left
        · intro w' hSw
          go_simp <;> with_reducible rfl
        try simp only [Act.put, List.setIfInBounds_toArray, List.set_cons_zero, List.set_cons_succ, List.getElem_toArray, List.getElem_cons_succ, List.getElem_cons_zero]
        refine wpAnyH_take (i := 13) (v := ?_) rfl (by kernel_rfl) (by kernel_rfl) (by kernel_rfl) (fun _ _ _ h => h) (Or.inl ⟨by rfl, ?_⟩) (by assumption) ?_
        rotate_left
        · intro w' hSw
          go_simp <;> with_reducible rfl
        try simp only [Act.put, List.setIfInBounds_toArray, List.set_cons_zero, List.set_cons_succ, List.getElem_toArray, List.getElem_cons_succ, List.getElem_cons_zero]
        have hg7B : Hid (g7 ≠ B) := fun e => Zd8.out.ne (by rw [e]; rfl)
        have b3 : x8.cell? ⟨B, 3, none⟩ = some (.slice (some ⟨g7, 0, none⟩) (nm.length + 1) cap7) := Zd8.out.bx.cell 3
        have bf : x8.frozen? ⟨B, 3, none⟩ = false := Blk.frozen Zd8.out.bx 3
        have hB9 : Hid (Bl (.slice (some ⟨g7, 0, none⟩) nm.length cap7) (x8.setCell ⟨B, 3, none⟩ (.slice (some ⟨g7, 0, none⟩) nm.length cap7)) B s r7.pos r7.k) := Blk.set Zd8.out.bx 3 _
        have hf9 : Hid (BFr x8 (x8.setCell ⟨B, 3, none⟩ (.slice (some ⟨g7, 0, none⟩) nm.length cap7)) B (.slice (some ⟨g7, 0, none⟩) (nm.length + 1) cap7) (.slice (some ⟨g7, 0, none⟩) nm.length cap7)) := ⟨rfl, rfl, rfl, by simp [World.setCell], fun q hq h1 _ => Below.heap_setCell _ _ _ _ (by simpa using h1), fun _ h => Or.inl h⟩
        have hO9 : Hid ((x8.setCell ⟨B, 3, none⟩ (.slice (some ⟨g7, 0, none⟩) nm.length cap7)).ownsRow N 9 1 (.slice (some ⟨g7, 0, none⟩) nm.length cap7) nm.length (nm.map Value.string)) := (pop_own (n := nm.length) Zd8.out.own rfl).kept (row := some B) ⟨rfl, rfl, rfl, by simp [World.setCell], fun q hq hb => Below.heap_setCell _ _ _ _ (by simp at hb; simpa using hb)⟩ (Or.inr (by simp [Value.ownBlock]; exact hg7B.out))
        have Z9 := hide (Zd8.out.step hf9.out hB9.out hO9.out)
        have F9 := hide (Fd8.out.trans hf9.out)
        have R9 := hide (blk_bfr Rd8.out hf9.out hbox.1 ho7)
        have kx : ∀ q : Nat, q ≠ B → (x8.setCell ⟨B, 3, none⟩ (.slice (some ⟨g7, 0, none⟩) nm.length cap7)).heap[q]? = x8.heap[q]? := fun q hq => Below.heap_setCell _ _ _ _ (by simpa using hq)
        have T9 : Hid (Blk (x8.setCell ⟨B, 3, none⟩ (.slice (some ⟨g7, 0, none⟩) nm.length cap7)) w7.heap.size #[.int .i64 r7.t.kind, .int .i64 r7.t.idx, .slice a7 r7.t.subs.length c7] 36) := (kx _ (by omega)).trans Td8.out
        have M9 : Hid (Blk (x8.setCell ⟨B, 3, none⟩ (.slice (some ⟨g7, 0, none⟩) nm.length cap7)) (w7.heap.size + 1) #[.int .i64 2, .int .i64 0, .slice (some ⟨w7.heap.size, 0, none⟩) 1 1] 36) := (kx _ (by omega)).trans Md8.out
        have S9 : Hid (SlM (x8.setCell ⟨B, 3, none⟩ (.slice (some ⟨g7, 0, none⟩) nm.length cap7)) (fun b => w.heap.size < b ∧ some b ≠ ((.slice (some ⟨g7, 0, none⟩) nm.length cap7) : Value).ownBlock) a7 r7.t.subs) := (Sd8.out.kept fun q hq => kx q (by omega)).mono fun q hq _ => ⟨by omega, hq.2⟩
        refine wpAnyH_ready (rs := [14]) (by kernel_rfl) (by simp) ?_
        refine AllReadyH.cons rfl (fun K hK => ?_) AllReadyH.nil
        go_simp
        refine hK.out _ _ (by exact Z9.out.le) (fun hHeld => ?_)
        clear hK K
        try simp only [Act.put, List.setIfInBounds_toArray, List.set_cons_zero, List.set_cons_succ, List.getElem_toArray, List.getElem_cons_succ, List.getElem_cons_zero]
        generalize (x8.setCell ⟨B, 3, none⟩ (.slice (some ⟨g7, 0, none⟩) nm.length cap7)) = w9 at *
        clear b3 bf hB9 hO9 hf9 Zd8 Fd8 Rd8 Td8 Md8 Sd8 kx
        refine wpAnyH_done (by kernel_rfl) ?_ _
        have q0 := M9.out.cell 0
        have q1 := M9.out.cell 1
        have q2 := M9.out.cell 2
        have t0 := T9.out.cell 0
        have t1 := T9.out.cell 1
        have t2 := T9.out.cell 2
        have r0 := R9.out.cell 0
        have r1 := R9.out.cell 1
        have r2 := R9.out.cell 2
        have rf := R9.out.frozen
        simp only [List.getElem?_toArray, List.getElem?_cons_succ, List.getElem?_cons_zero] at q0 q1 q2 r0 r1 r2 t0 t1 t2
        have hg7 : ((.slice (some ⟨g7, 0, none⟩) nm.length cap7) : Value).ownBlock = some g7 := rfl
        have hlt7 := (Z9.out.own.lt _ hg7).2
        have HNG : Hid (some w7.heap.size ≠ ((.slice (some ⟨g7, 0, none⟩) nm.length cap7) : Value).ownBlock) := by
          unfold Hid
          intro e
          have e2 : g7 = w7.heap.size := by simpa [Value.ownBlock] using e.symm
          exact gOLD.out e2
        have SF : Hid (SlM w9 (fun b => w.heap.size < b ∧ some b ≠ ((.slice (some ⟨g7, 0, none⟩) nm.length cap7) : Value).ownBlock) (some ⟨w7.heap.size, 0, none⟩) [r7.t]) := lies_one ⟨by omega, HNG.out⟩ (by simpa using t0) (by simpa using t1) (by simpa using t2) S9.out
        clear hg7 hlt7
        go_wp2_with fail
        refine bodyPost_ret (v := .agg #[.int .i64 2, .int .i64 0, .slice (some ⟨w7.heap.size, 0, none⟩) 1 1]) (by simp [results, Tryz.results101, go_sem, World.cell?_setCell_same, World.cell?_setCell_other, r0, r1, r2]) rfl ?_
        exact lr_fin (t := ⟨2, 0, [r7.t]⟩) HR7.out Z9.out F9.out hBlt ho7 SF.out _ _ _
    · go_simp
      refine hK.out _ _ (by exact Z3.out.le) (fun hHeld => ?_)
      clear hK K
      try simp only [Act.put, List.setIfInBounds_toArray, List.set_cons_zero, List.set_cons_succ, List.getElem_toArray, List.getElem_cons_succ, List.getElem_cons_zero]
      generalize (w2.alloc (.cells #[.string x] 9)) = w3 at *
      have hw2 : w2.heap.size = w.heap.size + 1 := by omega
      rw [hw2] at P3
      try rw [hw2]
      refine wpAnyH_ready (rs := [4]) (by kernel_rfl) (by simp) ?_
      refine AllReadyH.cons rfl (fun K hK => ?_) AllReadyH.nil
      have b3 : w3.cell? ⟨B, 3, none⟩ = some nv := Z3.out.bx.cell 3
      go_simp
      refine hK.out _ _ (by exact Z3.out.le) (fun hHeld => ?_)
      clear hK K
      try simp only [Act.put, List.setIfInBounds_toArray, List.set_cons_zero, List.set_cons_succ, List.getElem_toArray, List.getElem_cons_succ, List.getElem_cons_zero]
      clear b3
      obtain ⟨g, cap, w4, hr4, ho4, hg4, hat4⟩ := app_oneL (P := w.heap.size + 1) (x := x) Z3.out.own Z3.out.le (by omega) (by have := P3.out.cell 0; simpa using this)
      have HR4 := hide hr4
      have HO4 := hide ho4
      have hB4 : Hid (Bl nv w4 B s j (k + 1)) := by
        unfold Hid Bl Blk
        rw [hg4.block B Z3.out.lt (fun e => Z3.out.ne e.symm)]
        exact Z3.out.bx
      have hf4 : BFr w3 w4 B nv (.slice (some ⟨g, 0, none⟩) (nm.length + 1) cap) := ⟨hg4.os, hg4.tape, hg4.output, hg4.size, fun q hq h1 h2 => hg4.block q hq h2, fun q hq => by
        simp [Value.ownBlock] at hq
        subst hq
        rcases hat4 with e | e
        · exact Or.inl e
        · right; omega⟩
      have R4 := hide (blk_bfr R3.out hf4 hbox.1 hbox.2)
      have ho4' := own_bfr hf4 R3.out.lt hbox.2
      have F4 := hide (F3.out.trans hf4)
      have HB4 := hide (Z3.out.fr hf4)
      have hz4 := hg4.size
      have hsz4 : Hid (g ≠ B) := by
        unfold Hid
        intro e
        rcases hat4 with e2 | e2
        · exact Z3.out.ne (by rw [e2, e])
        · have := Z3.out.lt; omega
      clear hr4 ho4 hg4 hat4 hf4
      have hle4 : N ≤ w4.heap.size := by have := Z3.out.le; omega
      refine wpAnyH_ready (rs := [10]) (by kernel_rfl) (by simp) ?_
      refine AllReadyH.cons rfl (fun K hK => ?_) AllReadyH.nil
      refine step_append_eqM rfl _ _ _ _ rfl rfl rfl HR4.out ?_
      refine hK.out _ _ (by exact hle4) (fun hHeld => ?_)
      clear hK K
      try simp only [Act.put, List.setIfInBounds_toArray, List.set_cons_zero, List.set_cons_succ, List.getElem_toArray, List.getElem_cons_succ, List.getElem_cons_zero]
      refine wpAnyH_take (i := 11) (v := ?_) rfl (by kernel_rfl) (by kernel_rfl) (by kernel_rfl) (fun _ _ _ h => h) (Or.inl ⟨by rfl, ?_⟩) (by assumption) ?_
      rotate_left
      · intro w' hSw
        go_simp <;> with_reducible rfl
      try simp only [Act.put, List.setIfInBounds_toArray, List.set_cons_zero, List.set_cons_succ, List.getElem_toArray, List.getElem_cons_succ, List.getElem_cons_zero]
      refine wpAnyH_take (i := 12) (v := ?_) rfl (by kernel_rfl) (by kernel_rfl) (by kernel_rfl) (fun _ _ _ h => h) (Or.inl ⟨by rfl, ?_⟩) (by assumption) ?_
      rotate_left
      · intro w' hSw
        go_simp <;> with_reducible rfl
      try simp only [Act.put, List.setIfInBounds_toArray, List.set_cons_zero, List.set_cons_succ, List.getElem_toArray, List.getElem_cons_succ, List.getElem_cons_zero]
      have b3 : w4.cell? ⟨B, 3, none⟩ = some nv := hB4.out.cell 3
      have bf : w4.frozen? ⟨B, 3, none⟩ = false := Blk.frozen hB4.out 3
      have hB5 : Hid (Bl (.slice (some ⟨g, 0, none⟩) (nm.length + 1) cap) (w4.setCell ⟨B, 3, none⟩ (.slice (some ⟨g, 0, none⟩) (nm.length + 1) cap)) B s j (k + 1)) := Blk.set hB4.out 3 _
      have hO5 : Hid ((w4.setCell ⟨B, 3, none⟩ (.slice (some ⟨g, 0, none⟩) (nm.length + 1) cap)).ownsRow N 9 1 (.slice (some ⟨g, 0, none⟩) (nm.length + 1) cap) (nm ++ [x]).length ((nm ++ [x]).map Value.string)) := HO4.out.kept (row := some B) ⟨rfl, rfl, rfl, by simp [World.setCell], fun q hq hb => Below.heap_setCell _ _ _ _ (by simp at hb; simpa using hb)⟩ (Or.inr (by simp [Value.ownBlock]; exact hsz4.out))
      have hf5 : Hid (BFr w4 (w4.setCell ⟨B, 3, none⟩ (.slice (some ⟨g, 0, none⟩) (nm.length + 1) cap)) B (.slice (some ⟨g, 0, none⟩) (nm.length + 1) cap) (.slice (some ⟨g, 0, none⟩) (nm.length + 1) cap)) := ⟨rfl, rfl, rfl, by simp [World.setCell], fun q hq h1 _ => Below.heap_setCell _ _ _ _ (by simpa using h1), fun _ h => Or.inl h⟩
      have R5 := hide (blk_bfr R4.out hf5.out hbox.1 ho4')
      have F5 := hide (F4.out.trans hf5.out)
      have Z5 : Hid (Rst N B s (nm ++ [x]) j (k + 1) (.slice (some ⟨g, 0, none⟩) (nm.length + 1) cap) (w4.setCell ⟨B, 3, none⟩ (.slice (some ⟨g, 0, none⟩) (nm.length + 1) cap))) := by
        have hb5 : Below N w4 (w4.setCell ⟨B, 3, none⟩ (.slice (some ⟨g, 0, none⟩) (nm.length + 1) cap)) := (Below.refl _ _).setCell (by have := Z3.out.nb; simpa using this) _
        exact ⟨hB5.out, hO5.out, Z3.out.nb, by simp [World.setCell]; omega, (Z3.out.tb.on HB4.out).on hb5, (Z3.out.ts.on HB4.out).on hb5⟩
      have hz5 : w4.heap.size ≤ (w4.setCell ⟨B, 3, none⟩ (.slice (some ⟨g, 0, none⟩) (nm.length + 1) cap)).heap.size := by simp [World.setCell]
      refine wpAnyH_ready (rs := [13]) (by kernel_rfl) (by simp) ?_
      refine AllReadyH.cons rfl (fun K hK => ?_) AllReadyH.nil
      go_simp
      refine hK.out _ _ (by exact Z5.out.le) (fun hHeld => ?_)
      clear hK K
      try simp only [Act.put, List.setIfInBounds_toArray, List.set_cons_zero, List.set_cons_succ, List.getElem_toArray, List.getElem_cons_succ, List.getElem_cons_zero]
      generalize (w4.setCell ⟨B, 3, none⟩ (.slice (some ⟨g, 0, none⟩) (nm.length + 1) cap)) = w5 at *
      clear b3 bf hB5 hO5 hf5 R4 F4 Z3 F3 R3 P3 HO4 HR4 hB4 HB4
      refine wpAnyH_done (by kernel_rfl) ?_ _
      go_wp2_with fail
      refine (rdAsk_anyL (nv := (.slice (some ⟨g, 0, none⟩) (nm.length + 1) cap)) B j (k + 1) s 46 hjs hs _ (by exact Z5.out.bx)).mono ?_
      intro e w6 hp
      unfold RdAskPostL at hp
      by_cases h6 : j < s.size ∧ byteAt s j = 46
      case neg =>
        rw [if_neg h6] at hp
        obtain ⟨he, n6, rfl⟩ := hp
        have HAE : Hid (askE s j 46 = if j = s.size then 13 else 12) := by unfold Hid askE; rw [if_neg h6]
        have HNZ : Hid ((if j = s.size then (13 : Int) else 12) ≠ 0) := by unfold Hid; split <;> omega
        unfold thrownL at he
        subst he
        exact ⟨rfl, lrP_no (by rw [HR3.out, if_pos (by rw [HAE.out]; exact HNZ.out), HAE.out]) HNZ.out (F5.out.trans (BFr.of_below (below_drewN (Below.refl _ _) n6) B (.slice (some ⟨g, 0, none⟩) (nm.length + 1) cap)))⟩
      rw [if_pos h6] at hp
      obtain ⟨⟨v6, rfl⟩, hx6, he6, hz6⟩ := hp
      have HAE : Hid (askE s j 46 = 0) := by unfold Hid askE; rw [if_pos h6]
      have HR6 := hide (show r = _ from (HR3.out).trans (if_neg (by rw [HAE.out]; simp)))
      have Z6 := hide (Z5.out.ex he6 hx6)
      have F6 := hide (F5.out.trans (he6.bfrL (.slice (some ⟨g, 0, none⟩) (nm.length + 1) cap)))
      have R6 := hide (blk_bfr R5.out (he6.bfrL (.slice (some ⟨g, 0, none⟩) (nm.length + 1) cap)) hbox.1 ho4')
      have hwz6 : w.heap.size + 2 ≤ w6.heap.size := by omega
      clear hx6 he6 hz6 HR3 Z5 F5 R5 HAE
      go_wp2_with fail
      refine (HT.out (nm ++ [x]) (.slice (some ⟨g, 0, none⟩) (nm.length + 1) cap) (j + 1) (k + 1) w6 Z6.out (by simp; omega) (by omega) (by omega) (by omega)).mono ?_
      intro e w7 hp
      generalize lrd s F .term (nm ++ [x]) (j + 1) (k + 1) = r7 at *
      rcases hp with ⟨hr0, nv7, a7, c7, rfl, hs7, hst7, hf7⟩ | ⟨hr0, rfl, nv7, hf7⟩
      case inr => exact ⟨rfl, lrP_no (by rw [HR6.out, if_pos hr0]) hr0 (F6.out.trans hf7)⟩
      obtain ⟨g7, cap7, rfl, hgc7⟩ : ∃ g7 cap7, nv7 = (.slice (some ⟨g7, 0, none⟩) (nm.length + 1) cap7) ∧ nm.length + 1 ≤ cap7 := by
        have h := hst7.own.2
        simp only [List.length_append, List.length_cons, List.length_nil, Nat.zero_add] at h
        rcases h with ⟨_, h⟩ | ⟨g7, cap7, cur, h, _, _, hnc, _⟩
        · omega
        · exact ⟨g7, cap7, h, hnc⟩
      have HR7 : Hid (r = ⟨0, ⟨2, 0, [r7.t]⟩, r7.pos, r7.k⟩) := by unfold Hid; rw [HR6.out, if_neg (by rw [hr0]; simp)]
      have F7 := hide (F6.out.trans hf7)
      have R7 := hide (blk_bfr R6.out hf7 hbox.1 ho4')
      have ho7 := own_bfr hf7 R6.out.lt ho4'
      have hz7 : w6.heap.size ≤ w7.heap.size := hf7.2.2.2.1
      have Z7 := hide hst7
      have gOLD : Hid (g7 ≠ w7.heap.size) := fun e => by have := (hst7.own.lt g7 rfl).2; omega
      have S7 := hide hs7
      clear hs7 hst7 hf7 hr0 HR6 Z6 F6 R6
      have B8 : Hid (Below w7.heap.size w7 ((w7.alloc (.cells #[.int .i64 r7.t.kind, .int .i64 r7.t.idx, .slice a7 r7.t.subs.length c7] 36)).alloc (.cells #[.int .i64 2, .int .i64 0, .slice (some ⟨w7.heap.size, 0, none⟩) 1 1] 36))) := ((Below.refl _ _).alloc (Nat.le_refl _) _).alloc (by simp) _
      have T8 := hide ((Blk.new w7 #[.int .i64 r7.t.kind, .int .i64 r7.t.idx, .slice a7 r7.t.subs.length c7] 36).alloc (.cells #[.int .i64 2, .int .i64 0, .slice (some ⟨w7.heap.size, 0, none⟩) 1 1] 36))
      have M8 : Hid (Blk ((w7.alloc (.cells #[.int .i64 r7.t.kind, .int .i64 r7.t.idx, .slice a7 r7.t.subs.length c7] 36)).alloc (.cells #[.int .i64 2, .int .i64 0, .slice (some ⟨w7.heap.size, 0, none⟩) 1 1] 36)) (w7.heap.size + 1) #[.int .i64 2, .int .i64 0, .slice (some ⟨w7.heap.size, 0, none⟩) 1 1] 36) := by
        have h := Blk.new (w7.alloc (.cells #[.int .i64 r7.t.kind, .int .i64 r7.t.idx, .slice a7 r7.t.subs.length c7] 36)) #[.int .i64 2, .int .i64 0, .slice (some ⟨w7.heap.size, 0, none⟩) 1 1] 36
        have hz : (w7.alloc (.cells #[.int .i64 r7.t.kind, .int .i64 r7.t.idx, .slice a7 r7.t.subs.length c7] 36)).heap.size = w7.heap.size + 1 := by simp
        rw [hz] at h
        exact h
      have hz8 : ((w7.alloc (.cells #[.int .i64 r7.t.kind, .int .i64 r7.t.idx, .slice a7 r7.t.subs.length c7] 36)).alloc (.cells #[.int .i64 2, .int .i64 0, .slice (some ⟨w7.heap.size, 0, none⟩) 1 1] 36)).heap.size = w7.heap.size + 2 := by simp
      have Z8 := hide (Z7.out.later B8.out)
      have F8 := hide (F7.out.trans (BFr.of_below B8.out B (.slice (some ⟨g7, 0, none⟩) (nm.length + 1) cap7)))
      have R8 := hide (R7.out.below B8.out R7.out.lt)
      have S8 := hide (S7.out.later B8.out)
      clear Z7 F7 R7 S7 B8
      go_wp2_with fail
      generalize ((w7.alloc (.cells #[.int .i64 r7.t.kind, .int .i64 r7.t.idx, .slice a7 r7.t.subs.length c7] 36)).alloc (.cells #[.int .i64 2, .int .i64 0, .slice (some ⟨w7.heap.size, 0, none⟩) 1 1] 36)) = w8 at *
      have Zd8 := hide (Z8.out.later (Below.drew (Below.refl w8.heap.size w8)))
      have Fd8 := hide (F8.out.trans (BFr.of_below (Below.drew (Below.refl w8.heap.size w8)) B (.slice (some ⟨g7, 0, none⟩) (nm.length + 1) cap7)))
      have Rd8 : Hid (Blk w8.drew w.heap.size #[.int .i64 0, .int .i64 0, .slice none 0 0] 36) := R8.out
      have Td8 : Hid (Blk w8.drew w7.heap.size #[.int .i64 r7.t.kind, .int .i64 r7.t.idx, .slice a7 r7.t.subs.length c7] 36) := T8.out
      have Md8 : Hid (Blk w8.drew (w7.heap.size + 1) #[.int .i64 2, .int .i64 0, .slice (some ⟨w7.heap.size, 0, none⟩) 1 1] 36) := M8.out
      have Sd8 : Hid (SlM w8.drew (fun b => w6.heap.size ≤ b ∧ some b ≠ ((.slice (some ⟨g7, 0, none⟩) (nm.length + 1) cap7) : Value).ownBlock) a7 r7.t.subs) := S8.out.later (Below.drew (Below.refl w8.heap.size w8))
      have hzd8 : w8.drew.heap.size = w7.heap.size + 2 := by
        have : w8.drew.heap = w8.heap := rfl
        rw [this]; exact hz8
      refine wp_region_held_drew (S := fun w' => N ≤ w'.heap.size) (by kernel_rfl) (by exact Zd8.out.le) (fun hHeld => ?_)
      generalize w8.drew = x8 at *
      clear Z8 F8 R8 T8 M8 S8 hz8
      have W1 : Hid (IntKind.i64.wrap (((nm.length + 1 : Nat) : Int) - 1) = (nm.length : Int)) := by
        unfold Hid; rw [show (((nm.length + 1 : Nat) : Int) - 1) = (nm.length : Int) by omega]; exact wrap_is (by omega) (by omega)
      have W2 : Hid (IntKind.i64.wrap ((nm.length : Int) + 1 - 1) = (nm.length : Int)) := by
        unfold Hid; rw [show ((nm.length : Int) + 1 - 1) = (nm.length : Int) by omega]; exact wrap_is (by omega) (by omega)
      have W3 : Hid (IntKind.i64.wrap (nm.length : Int) = (nm.length : Int)) := wrap_is (by omega) (by omega)
      refine wpAnyH_take (i := 0) (v := ?_) rfl (by kernel_rfl) (by kernel_rfl) (by kernel_rfl) (fun _ _ _ h => h) (Or.inl ⟨by rfl, ?_⟩) (by assumption) ?_
      rotate_left
      · intro w' hSw
        go_simp <;> with_reducible rfl
      try simp only [Act.put, List.setIfInBounds_toArray, List.set_cons_zero, List.set_cons_succ, List.getElem_toArray, List.getElem_cons_succ, List.getElem_cons_zero]
      refine wpAnyH_take (i := 1) (v := ?_) rfl (by kernel_rfl) (by kernel_rfl) (by kernel_rfl) (fun _ _ _ h => h) (Or.inl ⟨by rfl, ?_⟩) (by assumption) ?_
      rotate_left
      · intro w' hSw
        go_simp <;> with_reducible rfl
      try simp only [Act.put, List.setIfInBounds_toArray, List.set_cons_zero, List.set_cons_succ, List.getElem_toArray, List.getElem_cons_succ, List.getElem_cons_zero]
      refine wpAnyH_take (i := 2) (v := ?_) rfl (by kernel_rfl) (by kernel_rfl) (by kernel_rfl) (fun _ _ _ h => h) (Or.inl ⟨by rfl, ?_⟩) (by assumption) ?_
      rotate_left
      · intro w' hSw
        go_simp <;> with_reducible rfl
      try simp only [Act.put, List.setIfInBounds_toArray, List.set_cons_zero, List.set_cons_succ, List.getElem_toArray, List.getElem_cons_succ, List.getElem_cons_zero]
      refine wpAnyH_take (i := 3) (v := ?_) rfl (by kernel_rfl) (by kernel_rfl) (by kernel_rfl) (fun _ _ _ h => h) (Or.inl ⟨by rfl, ?_⟩) (by assumption) ?_
      rotate_left
      · intro w' hSw
        go_simp <;> with_reducible rfl
      try simp only [Act.put, List.setIfInBounds_toArray, List.set_cons_zero, List.set_cons_succ, List.getElem_toArray, List.getElem_cons_succ, List.getElem_cons_zero]
      refine wpAnyH_take (i := 5) (v := ?_) rfl (by kernel_rfl) (by kernel_rfl) (by kernel_rfl) (fun _ _ _ h => h) (Or.inl ⟨by rfl, ?_⟩) (by assumption) ?_
      rotate_left
      · intro w' hSw
        go_simp <;> with_reducible rfl
      try simp only [Act.put, List.setIfInBounds_toArray, List.set_cons_zero, List.set_cons_succ, List.getElem_toArray, List.getElem_cons_succ, List.getElem_cons_zero]
      refine wpAnyH_take (i := 6) (v := ?_) rfl (by kernel_rfl) (by kernel_rfl) (by kernel_rfl) (fun _ _ _ h => h) (Or.inl ⟨by rfl, ?_⟩) (by assumption) ?_
      rotate_left
      · intro w' hSw
        go_simp <;> with_reducible rfl
      try simp only [Act.put, List.setIfInBounds_toArray, List.set_cons_zero, List.set_cons_succ, List.getElem_toArray, List.getElem_cons_succ, List.getElem_cons_zero]
      refine wpAnyH_take (i := 7) (v := ?_) rfl (by kernel_rfl) (by kernel_rfl) (by kernel_rfl) (fun _ _ _ h => h) (Or.inl ⟨by rfl, ?_⟩) (by assumption) ?_
      rotate_left
      · intro w' hSw
        go_simp <;> with_reducible rfl
      try simp only [Act.put, List.setIfInBounds_toArray, List.set_cons_zero, List.set_cons_succ, List.getElem_toArray, List.getElem_cons_succ, List.getElem_cons_zero]
      refine wpAnyH_ready (rs := [4, 8]) (by kernel_rfl) (by simp) ?_
      refine AllReadyH.cons rfl (fun K hK => ?_) (AllReadyH.cons rfl (fun K hK => ?_) AllReadyH.nil)
      · have b3 : x8.cell? ⟨B, 3, none⟩ = some (.slice (some ⟨g7, 0, none⟩) (nm.length + 1) cap7) := Zd8.out.bx.cell 3
        go_simp
        refine hK.out _ _ (by exact Zd8.out.le) (fun hHeld => ?_)
        clear hK K
        try simp only [Act.put, List.setIfInBounds_toArray, List.set_cons_zero, List.set_cons_succ, List.getElem_toArray, List.getElem_cons_succ, List.getElem_cons_zero]
        clear b3
        refine wpAnyH_ready (rs := [8]) (by kernel_rfl) (by simp) ?_
        refine AllReadyH.cons rfl (fun K hK => ?_) AllReadyH.nil
        have b3 : x8.cell? ⟨B, 3, none⟩ = some (.slice (some ⟨g7, 0, none⟩) (nm.length + 1) cap7) := Zd8.out.bx.cell 3
        go_simp
        refine hK.out _ _ (by exact Zd8.out.le) (fun hHeld => ?_)
        clear hK K
        try simp only [Act.put, List.setIfInBounds_toArray, List.set_cons_zero, List.set_cons_succ, List.getElem_toArray, List.getElem_cons_succ, List.getElem_cons_zero]
        clear b3
        refine wpAnyH_take (i := 9) (v := ?_) rfl (by kernel_rfl) (by kernel_rfl) (by kernel_rfl) (fun _ _ _ h => h) (Or.inl ⟨by rfl, ?_⟩) (by assumption) ?_
        rotate_left
        · intro w' hSw
          go_simp <;> with_reducible rfl
        try simp only [Act.put, List.setIfInBounds_toArray, List.set_cons_zero, List.set_cons_succ, List.getElem_toArray, List.getElem_cons_succ, List.getElem_cons_zero]
        refine wpAnyH_take (i := 10) (v := ?_) rfl (by kernel_rfl) (by kernel_rfl) (by kernel_rfl) (fun _ _ _ h => h) (Or.inl ⟨by rfl, ?_⟩) (by assumption) ?_
        rotate_left
        · intro w' hSw
          go_simp <;> with_reducible rfl
        try simp only [Act.put, List.setIfInBounds_toArray, List.set_cons_zero, List.set_cons_succ, List.getElem_toArray, List.getElem_cons_succ, List.getElem_cons_zero]
        first | rw [W1.out] | rw [W2.out] | rw [W3.out]
        refine wpAnyH_take (i := 11) (v := ?_) rfl (by kernel_rfl) (by kernel_rfl) (by kernel_rfl) (fun _ _ _ h => h) (Or.inl ⟨by rfl, ?_⟩) (by assumption) ?_
        rotate_left
        · intro w' hSw
          have hkc : (nm.length : Int) ≤ (cap7 : Int) := by omega
          go_simp <;> with_reducible rfl
        try simp only [Act.put, List.setIfInBounds_toArray, List.set_cons_zero, List.set_cons_succ, List.getElem_toArray, List.getElem_cons_succ, List.getElem_cons_zero]
        refine wpAnyH_take (i := 12) (v := ?_) rfl (by kernel_rfl) (by kernel_rfl) (by kernel_rfl) (fun _ _ _ h => h) (Or.inl ⟨by rfl, ?_⟩) (by assumption) ?_
        rotate_left
        · intro w' hSw
          go_simp <;> with_reducible rfl
        try simp only [Act.put, List.setIfInBounds_toArray, List.set_cons_zero, List.set_cons_succ, List.getElem_toArray, List.getElem_cons_succ, List.getElem_cons_zero]
        refine wpAnyH_take (i := 13) (v := ?_) rfl (by kernel_rfl) (by kernel_rfl) (by kernel_rfl) (fun _ _ _ h => h) (Or.inl ⟨by rfl, ?_⟩) (by assumption) ?_
        rotate_left
        · intro w' hSw
          go_simp <;> with_reducible rfl
        try simp only [Act.put, List.setIfInBounds_toArray, List.set_cons_zero, List.set_cons_succ, List.getElem_toArray, List.getElem_cons_succ, List.getElem_cons_zero]
        have hg7B : Hid (g7 ≠ B) := fun e => Zd8.out.ne (by rw [e]; rfl)
        have b3 : x8.cell? ⟨B, 3, none⟩ = some (.slice (some ⟨g7, 0, none⟩) (nm.length + 1) cap7) := Zd8.out.bx.cell 3
        have bf : x8.frozen? ⟨B, 3, none⟩ = false := Blk.frozen Zd8.out.bx 3
        have hB9 : Hid (Bl (.slice (some ⟨g7, 0, none⟩) nm.length cap7) (x8.setCell ⟨B, 3, none⟩ (.slice (some ⟨g7, 0, none⟩) nm.length cap7)) B s r7.pos r7.k) := Blk.set Zd8.out.bx 3 _
        have hf9 : Hid (BFr x8 (x8.setCell ⟨B, 3, none⟩ (.slice (some ⟨g7, 0, none⟩) nm.length cap7)) B (.slice (some ⟨g7, 0, none⟩) (nm.length + 1) cap7) (.slice (some ⟨g7, 0, none⟩) nm.length cap7)) := ⟨rfl, rfl, rfl, by simp [World.setCell], fun q hq h1 _ => Below.heap_setCell _ _ _ _ (by simpa using h1), fun _ h => Or.inl h⟩
        have hO9 : Hid ((x8.setCell ⟨B, 3, none⟩ (.slice (some ⟨g7, 0, none⟩) nm.length cap7)).ownsRow N 9 1 (.slice (some ⟨g7, 0, none⟩) nm.length cap7) nm.length (nm.map Value.string)) := (pop_own (n := nm.length) Zd8.out.own rfl).kept (row := some B) ⟨rfl, rfl, rfl, by simp [World.setCell], fun q hq hb => Below.heap_setCell _ _ _ _ (by simp at hb; simpa using hb)⟩ (Or.inr (by simp [Value.ownBlock]; exact hg7B.out))
        have Z9 := hide (Zd8.out.step hf9.out hB9.out hO9.out)
        have F9 := hide (Fd8.out.trans hf9.out)
        have R9 := hide (blk_bfr Rd8.out hf9.out hbox.1 ho7)
        have kx : ∀ q : Nat, q ≠ B → (x8.setCell ⟨B, 3, none⟩ (.slice (some ⟨g7, 0, none⟩) nm.length cap7)).heap[q]? = x8.heap[q]? := fun q hq => Below.heap_setCell _ _ _ _ (by simpa using hq)
        have T9 : Hid (Blk (x8.setCell ⟨B, 3, none⟩ (.slice (some ⟨g7, 0, none⟩) nm.length cap7)) w7.heap.size #[.int .i64 r7.t.kind, .int .i64 r7.t.idx, .slice a7 r7.t.subs.length c7] 36) := (kx _ (by omega)).trans Td8.out
        have M9 : Hid (Blk (x8.setCell ⟨B, 3, none⟩ (.slice (some ⟨g7, 0, none⟩) nm.length cap7)) (w7.heap.size + 1) #[.int .i64 2, .int .i64 0, .slice (some ⟨w7.heap.size, 0, none⟩) 1 1] 36) := (kx _ (by omega)).trans Md8.out
        have S9 : Hid (SlM (x8.setCell ⟨B, 3, none⟩ (.slice (some ⟨g7, 0, none⟩) nm.length cap7)) (fun b => w.heap.size < b ∧ some b ≠ ((.slice (some ⟨g7, 0, none⟩) nm.length cap7) : Value).ownBlock) a7 r7.t.subs) := (Sd8.out.kept fun q hq => kx q (by omega)).mono fun q hq _ => ⟨by omega, hq.2⟩
        refine wpAnyH_ready (rs := [14]) (by kernel_rfl) (by simp) ?_
        refine AllReadyH.cons rfl (fun K hK => ?_) AllReadyH.nil
        go_simp
        refine hK.out _ _ (by exact Z9.out.le) (fun hHeld => ?_)
        clear hK K
        try simp only [Act.put, List.setIfInBounds_toArray, List.set_cons_zero, List.set_cons_succ, List.getElem_toArray, List.getElem_cons_succ, List.getElem_cons_zero]
        generalize (x8.setCell ⟨B, 3, none⟩ (.slice (some ⟨g7, 0, none⟩) nm.length cap7)) = w9 at *
        clear b3 bf hB9 hO9 hf9 Zd8 Fd8 Rd8 Td8 Md8 Sd8 kx
        refine wpAnyH_done (by kernel_rfl) ?_ _
        have q0 := M9.out.cell 0
        have q1 := M9.out.cell 1
        have q2 := M9.out.cell 2
        have t0 := T9.out.cell 0
        have t1 := T9.out.cell 1
        have t2 := T9.out.cell 2
        have r0 := R9.out.cell 0
        have r1 := R9.out.cell 1
        have r2 := R9.out.cell 2
        have rf := R9.out.frozen
        simp only [List.getElem?_toArray, List.getElem?_cons_succ, List.getElem?_cons_zero] at q0 q1 q2 r0 r1 r2 t0 t1 t2
        have hg7 : ((.slice (some ⟨g7, 0, none⟩) nm.length cap7) : Value).ownBlock = some g7 := rfl
        have hlt7 := (Z9.out.own.lt _ hg7).2
        have HNG : Hid (some w7.heap.size ≠ ((.slice (some ⟨g7, 0, none⟩) nm.length cap7) : Value).ownBlock) := by
          unfold Hid
          intro e
          have e2 : g7 = w7.heap.size := by simpa [Value.ownBlock] using e.symm
          exact gOLD.out e2
        have SF : Hid (SlM w9 (fun b => w.heap.size < b ∧ some b ≠ ((.slice (some ⟨g7, 0, none⟩) nm.length cap7) : Value).ownBlock) (some ⟨w7.heap.size, 0, none⟩) [r7.t]) := lies_one ⟨by omega, HNG.out⟩ (by simpa using t0) (by simpa using t1) (by simpa using t2) S9.out
        clear hg7 hlt7
        go_wp2_with fail
        refine bodyPost_ret (v := .agg #[.int .i64 2, .int .i64 0, .slice (some ⟨w7.heap.size, 0, none⟩) 1 1]) (by simp [results, Tryz.results101, go_sem, World.cell?_setCell_same, World.cell?_setCell_other, r0, r1, r2]) rfl ?_
        exact lr_fin (t := ⟨2, 0, [r7.t]⟩) HR7.out Z9.out F9.out hBlt ho7 SF.out _ _ _
      · have b3 : x8.cell? ⟨B, 3, none⟩ = some (.slice (some ⟨g7, 0, none⟩) (nm.length + 1) cap7) := Zd8.out.bx.cell 3
        go_simp
        refine hK.out _ _ (by exact Zd8.out.le) (fun hHeld => ?_)
        clear hK K
        try simp only [Act.put, List.setIfInBounds_toArray, List.set_cons_zero, List.set_cons_succ, List.getElem_toArray, List.getElem_cons_succ, List.getElem_cons_zero]
        clear b3
        refine wpAnyH_take (i := 9) (v := ?_) rfl (by kernel_rfl) (by kernel_rfl) (by kernel_rfl) (fun _ _ _ h => h) (Or.inl ⟨by rfl, ?_⟩) (by assumption) ?_
        rotate_left
        · intro w' hSw
          go_simp <;> with_reducible rfl
        try simp only [Act.put, List.setIfInBounds_toArray, List.set_cons_zero, List.set_cons_succ, List.getElem_toArray, List.getElem_cons_succ, List.getElem_cons_zero]
        refine wpAnyH_take (i := 10) (v := ?_) rfl (by kernel_rfl) (by kernel_rfl) (by kernel_rfl) (fun _ _ _ h => h) (Or.inl ⟨by rfl, ?_⟩) (by assumption) ?_
        rotate_left
        · intro w' hSw
          go_simp <;> with_reducible rfl
        try simp only [Act.put, List.setIfInBounds_toArray, List.set_cons_zero, List.set_cons_succ, List.getElem_toArray, List.getElem_cons_succ, List.getElem_cons_zero]
        first | rw [W1.out] | rw [W2.out] | rw [W3.out]
        refine wpAnyH_ready (rs := [4]) (by kernel_rfl) (by simp) ?_
        refine AllReadyH.cons rfl (fun K hK => ?_) AllReadyH.nil
        have b3 : x8.cell? ⟨B, 3, none⟩ = some (.slice (some ⟨g7, 0, none⟩) (nm.length + 1) cap7) := Zd8.out.bx.cell 3
        go_simp
        refine hK.out _ _ (by exact Zd8.out.le) (fun hHeld => ?_)
        clear hK K
        try simp only [Act.put, List.setIfInBounds_toArray, List.set_cons_zero, List.set_cons_succ, List.getElem_toArray, List.getElem_cons_succ, List.getElem_cons_zero]
        clear b3
        refine wpAnyH_take (i := 11) (v := ?_) rfl (by kernel_rfl) (by kernel_rfl) (by kernel_rfl) (fun _ _ _ h => h) (Or.inl ⟨by rfl, ?_⟩) (by assumption) ?_
        rotate_left
        · intro w' hSw
          have hkc : (nm.length : Int) ≤ (cap7 : Int) := by omega
          go_simp <;> with_reducible rfl
        try simp only [Act.put, List.setIfInBounds_toArray, List.set_cons_zero, List.set_cons_succ, List.getElem_toArray, List.getElem_cons_succ, List.getElem_cons_zero]
        refine wpAnyH_take (i := 12) (v := ?_) rfl (by kernel_rfl) (by kernel_rfl) (by kernel_rfl) (fun _ _ _ h => h) (Or.inl ⟨by rfl, ?_⟩) (by assumption) ?_
        rotate_left
        · intro w' hSw
          go_simp <;> with_reducible rfl
        try simp only [Act.put, List.setIfInBounds_toArray, List.set_cons_zero, List.set_cons_succ, List.getElem_toArray, List.getElem_cons_succ, List.getElem_cons_zero]
        refine wpAnyH_take (i := 13) (v := ?_) rfl (by kernel_rfl) (by kernel_rfl) (by kernel_rfl) (fun _ _ _ h => h) (Or.inl ⟨by rfl, ?_⟩) (by assumption) ?_
        rotate_left
        · intro w' hSw
          go_simp <;> with_reducible rfl
        try simp only [Act.put, List.setIfInBounds_toArray, List.set_cons_zero, List.set_cons_succ, List.getElem_toArray, List.getElem_cons_succ, List.getElem_cons_zero]
        have hg7B : Hid (g7 ≠ B) := fun e => Zd8.out.ne (by rw [e]; rfl)
        have b3 : x8.cell? ⟨B, 3, none⟩ = some (.slice (some ⟨g7, 0, none⟩) (nm.length + 1) cap7) := Zd8.out.bx.cell 3
        have bf : x8.frozen? ⟨B, 3, none⟩ = false := Blk.frozen Zd8.out.bx 3
        have hB9 : Hid (Bl (.slice (some ⟨g7, 0, none⟩) nm.length cap7) (x8.setCell ⟨B, 3, none⟩ (.slice (some ⟨g7, 0, none⟩) nm.length cap7)) B s r7.pos r7.k) := Blk.set Zd8.out.bx 3 _
        have hf9 : Hid (BFr x8 (x8.setCell ⟨B, 3, none⟩ (.slice (some ⟨g7, 0, none⟩) nm.length cap7)) B (.slice (some ⟨g7, 0, none⟩) (nm.length + 1) cap7) (.slice (some ⟨g7, 0, none⟩) nm.length cap7)) := ⟨rfl, rfl, rfl, by simp [World.setCell], fun q hq h1 _ => Below.heap_setCell _ _ _ _ (by simpa using h1), fun _ h => Or.inl h⟩
        have hO9 : Hid ((x8.setCell ⟨B, 3, none⟩ (.slice (some ⟨g7, 0, none⟩) nm.length cap7)).ownsRow N 9 1 (.slice (some ⟨g7, 0, none⟩) nm.length cap7) nm.length (nm.map Value.string)) := (pop_own (n := nm.length) Zd8.out.own rfl).kept (row := some B) ⟨rfl, rfl, rfl, by simp [World.setCell], fun q hq hb => Below.heap_setCell _ _ _ _ (by simp at hb; simpa using hb)⟩ (Or.inr (by simp [Value.ownBlock]; exact hg7B.out))
        have Z9 := hide (Zd8.out.step hf9.out hB9.out hO9.out)
        have F9 := hide (Fd8.out.trans hf9.out)
        have R9 := hide (blk_bfr Rd8.out hf9.out hbox.1 ho7)
        have kx : ∀ q : Nat, q ≠ B → (x8.setCell ⟨B, 3, none⟩ (.slice (some ⟨g7, 0, none⟩) nm.length cap7)).heap[q]? = x8.heap[q]? := fun q hq => Below.heap_setCell _ _ _ _ (by simpa using hq)
        have T9 : Hid (Blk (x8.setCell ⟨B, 3, none⟩ (.slice (some ⟨g7, 0, none⟩) nm.length cap7)) w7.heap.size #[.int .i64 r7.t.kind, .int .i64 r7.t.idx, .slice a7 r7.t.subs.length c7] 36) := (kx _ (by omega)).trans Td8.out
        have M9 : Hid (Blk (x8.setCell ⟨B, 3, none⟩ (.slice (some ⟨g7, 0, none⟩) nm.length cap7)) (w7.heap.size + 1) #[.int .i64 2, .int .i64 0, .slice (some ⟨w7.heap.size, 0, none⟩) 1 1] 36) := (kx _ (by omega)).trans Md8.out
        have S9 : Hid (SlM (x8.setCell ⟨B, 3, none⟩ (.slice (some ⟨g7, 0, none⟩) nm.length cap7)) (fun b => w.heap.size < b ∧ some b ≠ ((.slice (some ⟨g7, 0, none⟩) nm.length cap7) : Value).ownBlock) a7 r7.t.subs) := (Sd8.out.kept fun q hq => kx q (by omega)).mono fun q hq _ => ⟨by omega, hq.2⟩
        refine wpAnyH_ready (rs := [14]) (by kernel_rfl) (by simp) ?_
        refine AllReadyH.cons rfl (fun K hK => ?_) AllReadyH.nil
        go_simp
        refine hK.out _ _ (by exact Z9.out.le) (fun hHeld => ?_)
        clear hK K
        try simp only [Act.put, List.setIfInBounds_toArray, List.set_cons_zero, List.set_cons_succ, List.getElem_toArray, List.getElem_cons_succ, List.getElem_cons_zero]
        generalize (x8.setCell ⟨B, 3, none⟩ (.slice (some ⟨g7, 0, none⟩) nm.length cap7)) = w9 at *
        clear b3 bf hB9 hO9 hf9 Zd8 Fd8 Rd8 Td8 Md8 Sd8 kx
        refine wpAnyH_done (by kernel_rfl) ?_ _
        have q0 := M9.out.cell 0
        have q1 := M9.out.cell 1
        have q2 := M9.out.cell 2
        have t0 := T9.out.cell 0
        have t1 := T9.out.cell 1
        have t2 := T9.out.cell 2
        have r0 := R9.out.cell 0
        have r1 := R9.out.cell 1
        have r2 := R9.out.cell 2
        have rf := R9.out.frozen
        simp only [List.getElem?_toArray, List.getElem?_cons_succ, List.getElem?_cons_zero] at q0 q1 q2 r0 r1 r2 t0 t1 t2
        have hg7 : ((.slice (some ⟨g7, 0, none⟩) nm.length cap7) : Value).ownBlock = some g7 := rfl
        have hlt7 := (Z9.out.own.lt _ hg7).2
        have HNG : Hid (some w7.heap.size ≠ ((.slice (some ⟨g7, 0, none⟩) nm.length cap7) : Value).ownBlock) := by
          unfold Hid
          intro e
          have e2 : g7 = w7.heap.size := by simpa [Value.ownBlock] using e.symm
          exact gOLD.out e2
        have SF : Hid (SlM w9 (fun b => w.heap.size < b ∧ some b ≠ ((.slice (some ⟨g7, 0, none⟩) nm.length cap7) : Value).ownBlock) (some ⟨w7.heap.size, 0, none⟩) [r7.t]) := lies_one ⟨by omega, HNG.out⟩ (by simpa using t0) (by simpa using t1) (by simpa using t2) S9.out
        clear hg7 hlt7
        go_wp2_with fail
        refine bodyPost_ret (v := .agg #[.int .i64 2, .int .i64 0, .slice (some ⟨w7.heap.size, 0, none⟩) 1 1]) (by simp [results, Tryz.results101, go_sem, World.cell?_setCell_same, World.cell?_setCell_other, r0, r1, r2]) rfl ?_
        exact lr_fin (t := ⟨2, 0, [r7.t]⟩) HR7.out Z9.out F9.out hBlt ho7 SF.out _ _ _
end Go.Proofs.YtcdabjekppddjaaGreatDoor
