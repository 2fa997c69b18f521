/- Walks: the reader's names. -/
import Derived.Test.YtdmaijmglblccaaGreatDoorW31
namespace Go.Proofs.YtdmaijmglblccaaGreatDoor
open Go.RowKit
set_option linter.unusedSimpArgs false
set_option linter.unusedVariables false
set_option maxRecDepth 8000

/-- How far the reader is. -/
def rdAt (w : World) (B : Nat) : Nat := match w.cell? ⟨B, 1, none⟩ with
  | some (.int _ n) => n.toNat
  | _ => 0
theorem Bx.at {w : World} {B i k : Nat} {s : ByteArray} (h : Bx w B s i k) : rdAt w B = i := by unfold rdAt; rw [h.c1]; simp

/-- What reading a name does: the name, or what is thrown. -/
def NamePost (w : World) (B i k : Nat) (s : ByteArray) (e : Ending) (w' : World) : Prop :=
  if stopAt s i = i then e = .panicked [{ v := .iface 28 (.int .i64 (if i = s.size then 13 else 12)), recovered := false }] ∧ Ex B w w'
  else if nameB (s.extract i (stopAt s i)) = false then e = .panicked [{ v := .iface 28 (.int .i64 1), recovered := false }] ∧ Ex B w w'
  else e = .returned (.string (s.extract i (stopAt s i))) ∧ Bx w' B s (stopAt s i) k ∧ Ex B w w' ∧ w'.heap.size = w.heap.size

theorem ext_size (s : ByteArray) {i j : Nat} (hj : j ≤ s.size) : (s.extract i j).size = j - i := by
  rw [ByteArray.size_extract]; omega
theorem ext_empty {s : ByteArray} {i j : Nat} (hj : j ≤ s.size) (h : j ≤ i) : (s.extract i j).toList.isEmpty = true := isEmpty_zero (by rw [ext_size s hj]; omega)
theorem ext_some {s : ByteArray} {i j : Nat} (hj : j ≤ s.size) (h : i < j) : (s.extract i j).toList.isEmpty = false := isEmpty_pos (by rw [ext_size s hj]; omega)

theorem name_ok {w wr : World} {B i j k n : Nat} {s : ByteArray} (hst : stopAt s i = j) (hji : ¬ j = i) (hn : nameB (s.extract i j) = true) (hx : Bx wr B s j k) (he : Ex B w wr) (hz : wr.heap.size = w.heap.size) : NamePost w B i k s (.returned (.string (s.extract i j))) (wr.drewN n) := by
  unfold NamePost
  rw [hst, if_neg hji, if_neg (by rw [hn]; simp)]
  exact ⟨rfl, hx, he.drewN n, hz⟩

theorem name_bad {w wr : World} {B i j k n : Nat} {s : ByteArray} (hst : stopAt s i = j) (hji : ¬ j = i) (hn : nameB (s.extract i j) = false) (he : Ex B w wr) : NamePost w B i k s (.panicked [{ v := .iface 28 (.int .i64 1), recovered := false }]) (wr.drewN n) := by
  unfold NamePost
  rw [hst, if_neg hji, if_pos hn]
  exact ⟨rfl, he.drewN n⟩
theorem name_none {w wr : World} {B i j k n : Nat} {s : ByteArray} {r : Int} (hst : stopAt s i = j) (hji : j = i) (hr : (if j = s.size then (13 : Int) else 12) = r) (he : Ex B w wr) : NamePost w B i k s (.panicked [{ v := .iface 28 (.int .i64 r), recovered := false }]) (wr.drewN n) := by
  unfold NamePost
  rw [hst, if_pos hji, ← hji, hr]
  exact ⟨rfl, he.drewN n⟩

def NmInv (w : World) (B i k : Nat) (s : ByteArray) (wr : World) : Prop := ∃ j, i ≤ j ∧ j ≤ s.size ∧ stopAt s i = stopAt s j ∧ Bx wr B s j k ∧ Ex B w wr ∧ wr.heap.size = w.heap.size

set_option maxHeartbeats 1000000 in
theorem name_any (B i k : Nat) (s : ByteArray) (hi : i ≤ s.size) (hs : s.size ≤ 4000) (w : World) (h : Bx w B s i k) :
    Calls Tryz.prog 54 #[.pointer (some ⟨B, 0, none⟩)] w fun e w' => NamePost w B i k s e w' := by
  have H := hide h
  have c0 := h.c0
  have c1 := h.c1
  clear h
  go_enter Tryz.func54, Tryz.ntmps54
  go_wp2_with fail
  go_loopw [] (fun wr => NmInv w B i k s wr) (fun wr => (s.size - rdAt wr B))
  case atStart => exact ⟨i, Nat.le_refl _, hi, rfl, H.out, Ex.refl _ _, rfl⟩
  case round =>
    obtain ⟨j, hij, hj, hst, hbx, hex, hsz⟩ := hrel
    have HX := hide hbx
    have HE := hide hex
    have HS := hide hst
    have HZ := hide hsz
    have c0 := hbx.c0
    have c1 := hbx.c1
    have cf := Blk.frozen hbx
    clear hbx hex hst hsz
    by_cases he : j = s.size
    · have HEQ := hide he
      have HST : Hid (stopAt s i = j) := HS.out.trans (stopAt_end (fun h => by omega))
      clear he
      go_wp2_with fail
      go_quiet (first | (go_at_call 58; refine Calls.quiet_of (atEnd_yes B j k s HEQ.out _ ?_); exact HX.out.drewN _))
      go_wp2_with fail
      have hij2 : (i : Int) ≤ (j : Int) := by omega
      have hj2 : (j : Int) ≤ (s.size : Int) := by omega
      go_quiet (fail)
      by_cases hji : j = i
      · have hem := ext_empty (s := s) hj (Nat.le_of_eq hji)
        have HJI := hide hji
        clear hji
        go_wp2_with fail
        refine (rdRefuse_any B j k s _ (by exact HX.out)).mono ?_
        rintro e w' ⟨he, rfl⟩
        unfold thrown at he
        subst he
        generalize hr : (if j = s.size then (13 : Int) else 12) = r
        have HR := hide hr
        clear hr
        go_wp2_with fail
        exact ⟨rfl, name_none HST.out HJI.out HR.out HE.out⟩
      · have hem := ext_some (s := s) hj (show i < j by omega)
        have HJI := hide hji
        clear hji
        cases hn : nameB (s.extract i j) with
        | true =>
          have HN := hide hn
          clear hn
          go_wp2_with fail
          refine (isName_any _ _).mono ?_
          rintro e w' ⟨rfl, rfl⟩
          rw [HN.out]
          go_wp2_with fail
          go_ret
          exact name_ok HST.out HJI.out HN.out HX.out HE.out HZ.out
        | false =>
          have HN := hide hn
          clear hn
          go_wp2_with fail
          refine (isName_any _ _).mono ?_
          rintro e w' ⟨rfl, rfl⟩
          rw [HN.out]
          go_wp2_with fail
          exact ⟨rfl, name_bad HST.out HJI.out HN.out HE.out⟩
    · have hlt : j < s.size := by omega
      have HEQ := hide he
      clear he
      have hb := hide (byteAt_of hlt)
      cases ha : alnB (byteAt s j) with
      | true =>
        have HA := hide ha
        have HAW : Hid (∀ w, Calls Tryz.prog 73 #[.int .u8 (s[j].toNat : Int)] w fun e w' => e = .returned (.bool true) ∧ w' = w) := fun w => by
          have := isSign_any (s[j].toNat : Int) w
          rw [hb.out, HA.out] at this
          rw [hb.out]
          exact this
        clear ha
        go_wp2_with fail
        go_quiet (first | (go_at_call 58; refine Calls.quiet_of (atEnd_no B j k s HEQ.out _ ?_); exact HX.out.drewN _) | (go_at_call 73; refine Calls.quiet_of_same (HAW.out _)))
        go_wp2_with fail
        go_roundw
        case rel => exact ⟨j + 1, by omega, by omega, by rw [HS.out, stopAt_go hlt HA.out], (HX.out.drewN _).next, (HE.out.drewN _).set _ _, by have := HZ.out; simpa [World.setCell] using this⟩
        case measure =>
          have e1 := HX.out.at
          have e2 := ((HX.out.drewN nq).next).at
          rw [e1, e2]; omega
      | false =>
        have HA := hide ha
        have HAW : Hid (∀ w, Calls Tryz.prog 73 #[.int .u8 (s[j].toNat : Int)] w fun e w' => e = .returned (.bool false) ∧ w' = w) := fun w => by
          have := isSign_any (s[j].toNat : Int) w
          rw [hb.out, HA.out] at this
          rw [hb.out]
          exact this
        have HST : Hid (stopAt s i = j) := HS.out.trans (stopAt_end (fun h => by have h1 := h.2; rw [HA.out] at h1; cases h1))
        clear ha
        go_wp2_with fail
        go_quiet (first | (go_at_call 58; refine Calls.quiet_of (atEnd_no B j k s HEQ.out _ ?_); exact HX.out.drewN _) | (go_at_call 73; refine Calls.quiet_of_same (HAW.out _)))
        go_wp2_with fail
        have hij2 : (i : Int) ≤ (j : Int) := by omega
        have hj2 : (j : Int) ≤ (s.size : Int) := by omega
        go_quiet (fail)
        by_cases hji : j = i
        · have hem := ext_empty (s := s) hj (Nat.le_of_eq hji)
          have HJI := hide hji
          clear hji
          go_wp2_with fail
          refine (rdRefuse_any B j k s _ (by exact HX.out)).mono ?_
          rintro e w' ⟨he, rfl⟩
          unfold thrown at he
          subst he
          generalize hr : (if j = s.size then (13 : Int) else 12) = r
          have HR := hide hr
          clear hr
          go_wp2_with fail
          exact ⟨rfl, name_none HST.out HJI.out HR.out HE.out⟩
        · have hem := ext_some (s := s) hj (show i < j by omega)
          have HJI := hide hji
          clear hji
          cases hn : nameB (s.extract i j) with
          | true =>
            have HN := hide hn
            clear hn
            go_wp2_with fail
            refine (isName_any _ _).mono ?_
            rintro e w' ⟨rfl, rfl⟩
            rw [HN.out]
            go_wp2_with fail
            go_ret
            exact name_ok HST.out HJI.out HN.out HX.out HE.out HZ.out
          | false =>
            have HN := hide hn
            clear hn
            go_wp2_with fail
            refine (isName_any _ _).mono ?_
            rintro e w' ⟨rfl, rfl⟩
            rw [HN.out]
            go_wp2_with fail
            exact ⟨rfl, name_bad HST.out HJI.out HN.out HE.out⟩
end Go.Proofs.YtdmaijmglblccaaGreatDoor
