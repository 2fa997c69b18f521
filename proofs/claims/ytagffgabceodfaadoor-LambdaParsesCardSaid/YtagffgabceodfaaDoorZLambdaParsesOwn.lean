/- Several texts in one. -/
import Derived.Test.YtagffgabceodfaaDoorLr3
import Derived.Test.YtagffgabceodfaaDoorLr1
import Derived.Test.YtagffgabceodfaaDoorLt2
import Derived.Test.YtagffgabceodfaaDoorLr2
import Derived.Test.YtagffgabceodfaaDoorLr4
import Derived.Test.YtagffgabceodfaaDoorLr8
import Derived.Test.YtagffgabceodfaaDoorL1
import Derived.Deep.RegionHeld3
import Derived.Test.YtagffgabceodfaaDoorMem
import Derived.Test.YtagffgabceodfaaDoorW28q
import Derived.Deep.RegionWith
import Derived.Test.YtagffgabceodfaaDoorLt4
import Derived.Test.YtagffgabceodfaaDoorLt8
import Derived.Defers
import Derived.Recover
import Derived.Laws.Pointers
import Derived.Test.YtagffgabceodfaaDoorRows
import Derived.Test.YtagffgabceodfaaDoorW7
import Derived.ProofKit
import Derived.Test.YtagffgabceodfaaDoorL
/- Walks: the document's reader of lambda terms: its small functions. -/
namespace Go.Proofs.YtagffgabceodfaaDoor
open Go.RowKit
set_option linter.unusedSimpArgs false
set_option linter.unusedVariables false
set_option maxRecDepth 8000

/-- The state of reading. -/
def Ds (w : World) (B : Nat) (s : ByteArray) (i k e : Int) : Prop := Blk w B #[.string s, .int .i64 i, .int .i64 k, .int .i64 e] 65
theorem Ds.c0 {w : World} {B : Nat} {i k e : Int} {s : ByteArray} (h : Ds w B s i k e) : w.cell? ⟨B, 0, none⟩ = some (.string s) := Blk.cell h 0
theorem Ds.c1 {w : World} {B : Nat} {i k e : Int} {s : ByteArray} (h : Ds w B s i k e) : w.cell? ⟨B, 1, none⟩ = some (.int .i64 i) := Blk.cell h 1
theorem Ds.c2 {w : World} {B : Nat} {i k e : Int} {s : ByteArray} (h : Ds w B s i k e) : w.cell? ⟨B, 2, none⟩ = some (.int .i64 k) := Blk.cell h 2
theorem Ds.c3 {w : World} {B : Nat} {i k e : Int} {s : ByteArray} (h : Ds w B s i k e) : w.cell? ⟨B, 3, none⟩ = some (.int .i64 e) := Blk.cell h 3
theorem Ds.lt {w : World} {B : Nat} {i k e : Int} {s : ByteArray} (h : Ds w B s i k e) : B < w.heap.size := Blk.lt h
theorem Ds.drewN {w : World} {B : Nat} {i k e : Int} {s : ByteArray} (h : Ds w B s i k e) (n : Nat) : Ds (w.drewN n) B s i k e := h
theorem Ds.drew {w : World} {B : Nat} {i k e : Int} {s : ByteArray} (h : Ds w B s i k e) : Ds w.drew B s i k e := h
theorem Ds.at {w : World} {B : Nat} {i k e : Int} {s : ByteArray} (h : Ds w B s i k e) (j : Int) : Ds (w.setCell ⟨B, 1, none⟩ (.int .i64 j)) B s j k e := Blk.set h 1 _
theorem Ds.more {w : World} {B : Nat} {i k e : Int} {s : ByteArray} (h : Ds w B s i k e) (j : Int) : Ds (w.setCell ⟨B, 2, none⟩ (.int .i64 j)) B s i j e := Blk.set h 2 _
theorem Ds.err {w : World} {B : Nat} {i k e : Int} {s : ByteArray} (h : Ds w B s i k e) (j : Int) : Ds (w.setCell ⟨B, 3, none⟩ (.int .i64 j)) B s i k j := Blk.set h 3 _

/-- Is a sign next? -/
def isB (s : ByteArray) (i : Nat) (c : Int) : Bool := decide (i < s.size ∧ byteAt s i = c)
theorem is_any (B i : Nat) (k e c : Int) (s : ByteArray) (w : World) (h : Ds w B s i k e) (hs : s.size ≤ 4000) (hi : i ≤ 4010) :
    Calls Tryd.prog 52 #[.pointer (some ⟨B, 0, none⟩), .int .u8 c] w fun e w' => e = .returned (.bool (isB s i c)) ∧ ∃ n, w' = w.drewN n := by
  have c0 := h.c0
  have c1 := h.c1
  clear h
  unfold isB
  by_cases hlt : i < s.size
  · have hb := hide (byteAt_of hlt)
    go_enter Tryd.func52, Tryd.ntmps52
    go_wp2_with fail
    go_quiet (fail)
    go_wp2_with fail
    all_goals
      go_ret
      refine ⟨ret_bool ?_, ⟨_, rfl⟩⟩
      rw [hb.out, Bool.eq_iff_iff]; simp_all
  · go_enter Tryd.func52, Tryd.ntmps52
    go_wp2_with fail
    go_quiet (fail)
    go_wp2_with fail
    all_goals
      go_ret
      refine ⟨ret_bool ?_, ⟨_, rfl⟩⟩
      symm; exact decide_eq_false fun h => absurd h.1 hlt

/-- One more knot. -/
theorem knot_any (B k : Nat) (i : Int) (s : ByteArray) (w : World) (h : Ds w B s i k 0) (hk : k ≤ 1000) :
    Calls Tryd.prog 53 #[.pointer (some ⟨B, 0, none⟩)] w fun e w' => e = .returned (.tuple #[]) ∧ Ds w' B s i (k + 1 : Nat) (if 200 < k + 1 then 3 else 0) ∧ Ex B w w' ∧ w'.heap.size = w.heap.size := by
  have H := hide h
  have c2 := h.c2
  have c3 := h.c3
  have cf := Blk.frozen h
  clear h
  by_cases hb : 200 < k + 1
  · rw [if_pos hb]
    go_enter Tryd.func53, Tryd.ntmps53
    go_wp2_with fail
    go_end0
    exact ⟨rfl, (H.out.more _).err _, ((Ex.refl _ _).set _ _).set _ _, by simp [World.setCell]⟩
  · rw [if_neg hb]
    go_enter Tryd.func53, Tryd.ntmps53
    go_wp2_with fail
    go_end0
    exact ⟨rfl, H.out.more _, (Ex.refl _ _).set _ _, by simp [World.setCell]⟩

/-- A sign that must be there. -/
theorem want_any (B i : Nat) (k c : Int) (s : ByteArray) (w : World) (h : Ds w B s i k 0) (hi : i ≤ s.size) (hs : s.size ≤ 4000) :
    Calls Tryd.prog 55 #[.pointer (some ⟨B, 0, none⟩), .int .u8 c] w fun e w' => e = .returned (.tuple #[]) ∧ Ds w' B s (i + 1 : Nat) k (askE s i c) ∧ Ex B w w' ∧ w'.heap.size = w.heap.size := by
  have H := hide h
  have c0 := h.c0
  have c1 := h.c1
  have c3 := h.c3
  have cf := Blk.frozen h
  clear h
  unfold askE
  by_cases hlt : i < s.size
  · have hb := hide (byteAt_of hlt)
    by_cases hc : byteAt s i = c
    · rw [if_pos ⟨hlt, hc⟩]
      have hc2 : ((s[i].toNat : Int) != c) = false := by rw [hb.out, hc]; simp
      have hi2 : ((i : Int) == (s.size : Int)) = false := by simp; omega
      clear hc
      go_enter Tryd.func55, Tryd.ntmps55
      go_wp2_with fail
      go_quiet (fail)
      go_wp2_with fail
      go_quiet (fail)
      go_wp2_with fail
      go_end0
      exact ⟨rfl, (H.out.drewN _).at _, ((Ex.refl _ _).drewN _).set _ _, by simp [World.setCell]⟩
    · rw [if_neg (fun h => hc h.2), if_neg (by omega)]
      have hc2 : ((s[i].toNat : Int) != c) = true := by rw [hb.out]; simpa using hc
      have hi2 : ((i : Int) == (s.size : Int)) = false := by simp; omega
      clear hc
      go_enter Tryd.func55, Tryd.ntmps55
      go_wp2_with fail
      go_quiet (fail)
      go_wp2_with fail
      go_quiet (fail)
      go_wp2_with fail
      go_end0
      exact ⟨rfl, ((H.out.drewN _).err _).at _, (((Ex.refl _ _).drewN _).set _ _).set _ _, by simp [World.setCell]⟩
  · rw [if_neg (fun h => hlt h.1), if_pos (by omega)]
    have hi2 : ((i : Int) == (s.size : Int)) = true := by simp; omega
    go_enter Tryd.func55, Tryd.ntmps55
    go_wp2_with fail
    go_quiet (fail)
    go_wp2_with fail
    go_end0
    exact ⟨rfl, ((H.out.drewN _).err _).at _, (((Ex.refl _ _).drewN _).set _ _).set _ _, by simp [World.setCell]⟩
theorem want_err (B : Nat) (i k e c : Int) (he : e ≠ 0) (s : ByteArray) (w : World) (h : Ds w B s i k e) :
    Calls Tryd.prog 55 #[.pointer (some ⟨B, 0, none⟩), .int .u8 c] w fun e w' => e = .returned (.tuple #[]) ∧ w' = w := by
  have c3 := h.c3
  have he2 : (e != 0) = true := by simpa using he
  clear h
  go_enter Tryd.func55, Tryd.ntmps55
  go_wp2_with fail
  refine bodyPost_ret (results_none rfl _ _ _) rfl ?_
  exact ⟨rfl, rfl⟩
theorem name_err (B : Nat) (i k e : Int) (he : e ≠ 0) (s : ByteArray) (w : World) (h : Ds w B s i k e) :
    Calls Tryd.prog 54 #[.pointer (some ⟨B, 0, none⟩)] w fun e w' => e = .returned (.string ⟨#[]⟩) ∧ w' = w := by
  have c3 := h.c3
  have he2 : (e != 0) = true := by simpa using he
  clear h
  go_enter Tryd.func54, Tryd.ntmps54
  go_wp2_with fail
  go_ret
  exact ⟨rfl, rfl⟩
#print axioms want_any
end Go.Proofs.YtagffgabceodfaaDoor

/- Walks: the document's reader of lambda terms: names and constants. -/
namespace Go.Proofs.YtagffgabceodfaaDoor
open Go.RowKit
set_option linter.unusedSimpArgs false
set_option linter.unusedVariables false
set_option maxRecDepth 8000

theorem Ds.pos {w : World} {B j : Nat} {k e : Int} {s : ByteArray} (h : Ds w B s j k e) : rdAtL w B = j := by unfold rdAtL; rw [h.c1]; simp
def DnPost (w : World) (B i : Nat) (k : Int) (s : ByteArray) (e : Ending) (w' : World) : Prop :=
  e = .returned (.string (s.extract i (stopAt s i))) ∧ Ds w' B s (stopAt s i : Nat) k (nameE s i) ∧ Ex B w w' ∧ w'.heap.size = w.heap.size
theorem nameD {w w' : World} {B i j : Nat} {k z : Int} {s : ByteArray} {e : Ending} (hst : stopAt s i = j) (he : e = .returned (.string (s.extract i j))) (hz : nameE s i = z) (hd : Ds w' B s j k z) (hx : Ex B w w') (hs : w'.heap.size = w.heap.size) : DnPost w B i k s e w' := by
  subst hst
  exact ⟨he, by rw [hz]; exact hd, hx, hs⟩
def DnInv (w : World) (B i : Nat) (k : Int) (s : ByteArray) (wr : World) : Prop := ∃ j : Nat, i ≤ j ∧ j ≤ s.size ∧ stopAt s i = stopAt s j ∧ Ds wr B s j k 0 ∧ Ex B w wr ∧ wr.heap.size = w.heap.size

set_option maxHeartbeats 1000000 in
theorem name_anyD (B i : Nat) (k : Int) (s : ByteArray) (hi : i ≤ s.size) (hs : s.size ≤ 4000) (w : World) (h : Ds w B s i k 0) :
    Calls Tryd.prog 54 #[.pointer (some ⟨B, 0, none⟩)] w fun e w' => DnPost w B i k s e w' := by
  have H := hide h
  have c1 := h.c1
  have c3 := h.c3
  clear h
  go_enter Tryd.func54, Tryd.ntmps54
  go_wp2_with fail
  go_loopw [] (fun wr => DnInv w B i k s wr) (fun wr => (s.size - rdAtL wr B))
  case atStart => exact ⟨i, Nat.le_refl _, hi, rfl, H.out, Ex.refl _ _, rfl⟩
  case round =>
    obtain ⟨j, hij, hj, hst, hbx, hex, hsz⟩ := hrel
    have HX := hide hbx
    have HE := hide hex
    have HS := hide hst
    have HZ := hide hsz
    have c0 := hbx.c0
    have c1 := hbx.c1
    have c3 := hbx.c3
    have cf := Blk.frozen hbx
    clear hbx hex hst hsz
    by_cases he : j = s.size
    · have HEQ := hide he
      have HST : Hid (stopAt s i = j) := HS.out.trans (stopAt_end (fun h => by omega))
      have hjz : ((j : Int) == (s.size : Int)) = true := by simp [he]
      have hjl : ¬ j < s.size := by omega
      clear he
      go_wp2_with fail
      go_quiet (fail)
      go_wp2_with fail
      have hij2 : (i : Int) ≤ (j : Int) := by omega
      have hj2 : (j : Int) ≤ (s.size : Int) := by omega
      go_quiet (fail)
      by_cases hji : j = i
      · have hem := ext_emptyL (s := s) hj (Nat.le_of_eq hji)
        have HJI := hide hji
        clear hji
        go_wp2_with fail
        go_quiet (fail)
        go_wp2_with fail
        go_ret
        exact nameD HST.out rfl (by rw [nameE, HST.out, if_pos HJI.out, if_pos (by have := HJI.out; have := HEQ.out; omega)]) ((HX.out.drewN _).err _) ((HE.out.drewN _).set _ _) (by have := HZ.out; simpa [World.setCell] using this)
      · have hem := ext_someL (s := s) hj (show i < j by omega)
        have HJI := hide hji
        clear hji
        cases hn : nameB (s.extract i j) with
        | true =>
          have HN := hide hn
          clear hn
          go_wp2_with fail
          go_quiet (fail)
          go_wp2_with fail
          refine (isNameR_any _ _).mono ?_
          rintro e w' ⟨rfl, rfl⟩
          rw [HN.out]
          go_wp2_with fail
          go_ret
          exact nameD HST.out rfl (by rw [nameE, HST.out, if_neg HJI.out, HN.out]; rfl) (HX.out.drewN _) (HE.out.drewN _) (by have := HZ.out; simpa [World.setCell] using this)
        | false =>
          have HN := hide hn
          clear hn
          go_wp2_with fail
          go_quiet (fail)
          go_wp2_with fail
          refine (isNameR_any _ _).mono ?_
          rintro e w' ⟨rfl, rfl⟩
          rw [HN.out]
          go_wp2_with fail
          go_ret
          exact nameD HST.out rfl (by rw [nameE, HST.out, if_neg HJI.out, HN.out]; rfl) ((HX.out.drewN _).err _) ((HE.out.drewN _).set _ _) (by have := HZ.out; simpa [World.setCell] using this)
    · have hlt : j < s.size := by omega
      have HEQ := hide he
      have hjz : ((j : Int) == (s.size : Int)) = false := by simp; omega
      clear he
      have hb := hide (byteAt_of hlt)
      cases ha : alnB (byteAt s j) with
      | true =>
        have HA := hide ha
        have HAW : Hid (∀ w, Calls Tryd.prog 36 #[.int .u8 (s[j].toNat : Int)] w fun e w' => e = .returned (.bool true) ∧ w' = w) := fun w => by
          have := isLetterR_any (s[j].toNat : Int) w
          rw [hb.out, HA.out] at this
          rw [hb.out]
          exact this
        clear ha
        go_wp2_with fail
        go_quiet (first | (go_at_call 36; refine Calls.quiet_of_same (HAW.out _)))
        go_wp2_with fail
        go_roundw
        case rel => exact ⟨j + 1, by omega, by omega, by rw [HS.out, stopAt_go hlt HA.out], (HX.out.drewN _).at _, (HE.out.drewN _).set _ _, by have := HZ.out; simpa [World.setCell] using this⟩
        case measure =>
          have e1 := HX.out.pos
          have e2 := Ds.pos (j := j + 1) ((HX.out.drewN nq).at ((j + 1 : Nat) : Int))
          have e3 : ((j : Int) + 1) = ((j + 1 : Nat) : Int) := by omega
          rw [e3, e1, e2]; omega
      | false =>
        have HA := hide ha
        have HAW : Hid (∀ w, Calls Tryd.prog 36 #[.int .u8 (s[j].toNat : Int)] w fun e w' => e = .returned (.bool false) ∧ w' = w) := fun w => by
          have := isLetterR_any (s[j].toNat : Int) w
          rw [hb.out, HA.out] at this
          rw [hb.out]
          exact this
        have HST : Hid (stopAt s i = j) := HS.out.trans (stopAt_end (fun h => by have h1 := h.2; rw [HA.out] at h1; cases h1))
        clear ha
        go_wp2_with fail
        go_quiet (first | (go_at_call 36; refine Calls.quiet_of_same (HAW.out _)))
        go_wp2_with fail
        have hij2 : (i : Int) ≤ (j : Int) := by omega
        have hj2 : (j : Int) ≤ (s.size : Int) := by omega
        go_quiet (fail)
        by_cases hji : j = i
        · have hem := ext_emptyL (s := s) hj (Nat.le_of_eq hji)
          have HJI := hide hji
          clear hji
          go_wp2_with fail
          go_quiet (fail)
          go_wp2_with fail
          go_ret
          exact nameD HST.out rfl (by rw [nameE, HST.out, if_pos HJI.out, if_neg (by have := HJI.out; have := HEQ.out; omega)]) ((HX.out.drewN _).err _) ((HE.out.drewN _).set _ _) (by have := HZ.out; simpa [World.setCell] using this)
        · have hem := ext_someL (s := s) hj (show i < j by omega)
          have HJI := hide hji
          clear hji
          cases hn : nameB (s.extract i j) with
          | true =>
            have HN := hide hn
            clear hn
            go_wp2_with fail
            go_quiet (fail)
            go_wp2_with fail
            refine (isNameR_any _ _).mono ?_
            rintro e w' ⟨rfl, rfl⟩
            rw [HN.out]
            go_wp2_with fail
            go_ret
            exact nameD HST.out rfl (by rw [nameE, HST.out, if_neg HJI.out, HN.out]; rfl) (HX.out.drewN _) (HE.out.drewN _) (by have := HZ.out; simpa [World.setCell] using this)
          | false =>
            have HN := hide hn
            clear hn
            go_wp2_with fail
            go_quiet (fail)
            go_wp2_with fail
            refine (isNameR_any _ _).mono ?_
            rintro e w' ⟨rfl, rfl⟩
            rw [HN.out]
            go_wp2_with fail
            go_ret
            exact nameD HST.out rfl (by rw [nameE, HST.out, if_neg HJI.out, HN.out]; rfl) ((HX.out.drewN _).err _) ((HE.out.drewN _).set _ _) (by have := HZ.out; simpa [World.setCell] using this)

/-- The number of a constant's name. -/
def conZ (n : ByteArray) : Int := match conN n with
  | some k => k
  | none => -1
theorem conN_none {n : ByteArray} (h : ∀ j < 40, n.data.toList ≠ 99 :: Lib.decDigits j) : conN n = none := by
  cases hc : conN n with
  | none => rfl
  | some k => exact absurd (conN_some hc).2 (h k (conN_some hc).1)
set_option maxHeartbeats 1000000 in
theorem constOf_any (n : ByteArray) (w : World) : Calls Tryd.prog 71 #[.string n] w fun e w' => e = .returned (.int .i64 (conZ n)) ∧ Below w.heap.size w w' := by
  go_enter Tryd.func71, Tryd.ntmps71
  go_wp2_with fail
  go_loopw [3] (fun v wr => ∃ k : Nat, v = .int .i64 (k : Int) ∧ k ≤ 40 ∧ Below w.heap.size w wr ∧ ∀ j < k, n.data.toList ≠ 99 :: Lib.decDigits j) (fun v wr => 40 - (intOf v).toNat)
  case atStart => exact ⟨0, rfl, by omega, Below.refl _ _, fun j hj => by omega⟩
  case round =>
    obtain ⟨k, rfl, hk, hb, hno⟩ := hrel
    have HB := hide hb
    have HNO := hide hno
    clear hb hno
    by_cases hlt : k < 40
    · go_wp2_with fail
      refine (dec_any k (by omega) _).mono ?_
      rintro e w1 ⟨rfl, hb1⟩
      have HB1 := hide (HB.out.trans (hb1.mono HB.out.size))
      clear hb1
      have hdl : (Lib.decDigits k).length ≤ 1000 := by have := dec_len k; omega
      have hcat : (⟨#[99]⟩ : ByteArray) ++ ⟨(Lib.decDigits k).toArray⟩ = ⟨(99 :: Lib.decDigits k).toArray⟩ := str_cat [99] (Lib.decDigits k)
      by_cases he : n.data.toList = 99 :: Lib.decDigits k
      · have HC : Hid (conZ n = k) := by unfold Hid conZ; rw [conN_is hlt he]
        have he2 : (n.toList == 99 :: Lib.decDigits k) = true := by rw [ByteArray.toList_eq, beq_iff_eq]; exact he
        clear he
        go_wp2_with fail
        go_ret
        exact ⟨by rw [HC.out]; rfl, HB1.out⟩
      · have HNE := hide he
        have he2 : (n.toList == 99 :: Lib.decDigits k) = false := by rw [ByteArray.toList_eq, beq_eq_false_iff_ne]; exact he
        clear he
        go_wp2_with fail
        go_roundw
        case rel => exact ⟨k + 1, by go_num, by omega, HB1.out, fun j hj => by
          by_cases h : j = k
          · subst h; exact HNE.out
          · exact HNO.out j (by omega)⟩
        case measure => simp [intOf]; omega
    · have HC : Hid (conZ n = -1) := by unfold Hid conZ; rw [conN_none (fun j hj => HNO.out j (by omega))]
      go_wp2_with fail
      go_ret
      exact ⟨by rw [HC.out]; rfl, HB.out⟩
#print axioms name_anyD
#print axioms constOf_any
end Go.Proofs.YtagffgabceodfaaDoor

/- Walks: reading a lambda term. -/
namespace Go.Proofs.YtagffgabceodfaaDoor
open Go.RowKit
set_option linter.unusedSimpArgs false
set_option linter.unusedVariables false
set_option maxRecDepth 8000

theorem lrd_term (s : ByteArray) (f : Nat) (nm : List ByteArray) (i k : Nat) : lrd s (f + 1) .term nm i k = if i < s.size ∧ byteAt s i = 92 then bndL s f nm (i + 1) k else if (lrd s f .piece nm i k).err ≠ 0 then noLr (lrd s f .piece nm i k).err else lrd s f (.behind (lrd s f .piece nm i k).t) nm (lrd s f .piece nm i k).pos (lrd s f .piece nm i k).k := by
  first | (rw [lrd]; done) | (rw [lrd]; rfl)
theorem lrd_behind (s : ByteArray) (f : Nat) (t : Lm) (nm : List ByteArray) (i k : Nat) : lrd s (f + 1) (.behind t) nm i k = if i < s.size ∧ byteAt s i = 32 then (if 200 < k + 1 then noLr 3 else if (lrd s f .piece nm (i + 1) (k + 1)).err ≠ 0 then noLr (lrd s f .piece nm (i + 1) (k + 1)).err else lrd s f (.behind ⟨3, 0, [t, (lrd s f .piece nm (i + 1) (k + 1)).t]⟩) nm (lrd s f .piece nm (i + 1) (k + 1)).pos (lrd s f .piece nm (i + 1) (k + 1)).k) else ⟨0, t, i, k⟩ := by
  first | (rw [lrd]; done) | (rw [lrd]; rfl)

theorem lrd_piece (s : ByteArray) (f : Nat) (nm : List ByteArray) (i k : Nat) : lrd s (f + 1) .piece nm i k = if i < s.size ∧ byteAt s i = 40 then
      (if (lrd s f .term nm (i + 1) k).err ≠ 0 then noLr (lrd s f .term nm (i + 1) k).err else if askE s (lrd s f .term nm (i + 1) k).pos 41 ≠ 0 then noLr (askE s (lrd s f .term nm (i + 1) k).pos 41) else ⟨0, (lrd s f .term nm (i + 1) k).t, (lrd s f .term nm (i + 1) k).pos + 1, (lrd s f .term nm (i + 1) k).k⟩)
    else if nameE s i ≠ 0 then noLr (nameE s i)
    else if 200 < k + 1 then noLr 3
    else namedL nm (s.extract i (stopAt s i)) (stopAt s i) (k + 1) := by
  first | (rw [lrd]; done) | (rw [lrd]; rfl)
/-- Knots are never fewer. -/
theorem lrd_kge (s : ByteArray) : ∀ f m nm i k, (lrd s f m nm i k).err = 0 → k ≤ (lrd s f m nm i k).k := by
  intro f
  induction f with
  | zero => intro m nm i k h; simp [lrd, noLr] at h
  | succ f ih =>
    intro m nm i k h
    cases m with
    | term =>
      rw [lrd_term] at h ⊢
      by_cases h1 : i < s.size ∧ byteAt s i = 92
      · rw [if_pos h1] at h ⊢
        unfold bndL at h ⊢
        by_cases h2 : 200 < k + 1
        · rw [if_pos h2] at h; simp [noLr] at h
        rw [if_neg h2] at h ⊢
        by_cases h3 : nameE s (i + 1) ≠ 0
        · rw [if_pos h3] at h; exact absurd h h3
        rw [if_neg h3] at h ⊢
        by_cases h4 : askE s (stopAt s (i + 1)) 46 ≠ 0
        · rw [if_pos h4] at h; exact absurd h h4
        rw [if_neg h4] at h ⊢
        by_cases h5 : (lrd s f .term (nm ++ [s.extract (i + 1) (stopAt s (i + 1))]) (stopAt s (i + 1) + 1) (k + 1)).err ≠ 0
        · rw [if_pos h5] at h; exact absurd h h5
        rw [if_neg h5]
        have := ih .term _ _ _ (by simpa using h5)
        simp only; omega
      · rw [if_neg h1] at h ⊢
        by_cases h5 : (lrd s f .piece nm i k).err ≠ 0
        · rw [if_pos h5] at h; exact absurd h h5
        rw [if_neg h5] at h ⊢
        have g1 := ih .piece nm i k (by simpa using h5)
        have g2 := ih (.behind (lrd s f .piece nm i k).t) nm _ _ h
        omega
    | behind t =>
      rw [lrd_behind] at h ⊢
      by_cases h1 : i < s.size ∧ byteAt s i = 32
      · rw [if_pos h1] at h ⊢
        by_cases h2 : 200 < k + 1
        · rw [if_pos h2] at h; simp [noLr] at h
        rw [if_neg h2] at h ⊢
        by_cases h5 : (lrd s f .piece nm (i + 1) (k + 1)).err ≠ 0
        · rw [if_pos h5] at h; exact absurd h h5
        rw [if_neg h5] at h ⊢
        have g1 := ih .piece nm (i + 1) (k + 1) (by simpa using h5)
        have g2 := ih (.behind ⟨3, 0, [t, (lrd s f .piece nm (i + 1) (k + 1)).t]⟩) nm _ _ h
        omega
      · rw [if_neg h1]
        exact Nat.le_refl _
    | piece =>
      rw [lrd_piece] at h ⊢
      by_cases h1 : i < s.size ∧ byteAt s i = 40
      · rw [if_pos h1] at h ⊢
        by_cases h5 : (lrd s f .term nm (i + 1) k).err ≠ 0
        · rw [if_pos h5] at h; exact absurd h h5
        rw [if_neg h5] at h ⊢
        by_cases h6 : askE s (lrd s f .term nm (i + 1) k).pos 41 ≠ 0
        · rw [if_pos h6] at h; exact absurd h h6
        rw [if_neg h6]
        exact ih .term nm (i + 1) k (by simpa using h5)
      · rw [if_neg h1] at h ⊢
        by_cases h3 : nameE s i ≠ 0
        · rw [if_pos h3] at h; exact absurd h h3
        rw [if_neg h3] at h ⊢
        by_cases h2 : 200 < k + 1
        · rw [if_pos h2] at h; simp [noLr] at h
        rw [if_neg h2] at h ⊢
        rw [(named_ok h).2]
        omega

/-- Two lambda terms in a row of their own. -/
theorem lies_two {W : World} {X : Nat → Prop} {S c c' : Nat} {a a' : Option Addr} {t t' : Lm} (hX : X S) (h0 : W.cell? ⟨S, 0, none⟩ = some (.int .i64 t.kind)) (h1 : W.cell? ⟨S, 1, none⟩ = some (.int .i64 t.idx)) (h2 : W.cell? ⟨S, 2, none⟩ = some (.slice a t.subs.length c)) (h3 : W.cell? ⟨S, 3, none⟩ = some (.int .i64 t'.kind)) (h4 : W.cell? ⟨S, 4, none⟩ = some (.int .i64 t'.idx)) (h5 : W.cell? ⟨S, 5, none⟩ = some (.slice a' t'.subs.length c')) (hs : SlM W X a t.subs) (hs' : SlM W X a' t'.subs) : SlM W X (some ⟨S, 0, none⟩) [t, t'] := by
  obtain ⟨k, x, l⟩ := t
  obtain ⟨k', x', l'⟩ := t'
  refine ⟨by simp, Or.inr ⟨S, 0, rfl, ?_⟩⟩
  simp only [LiesM]
  exact ⟨hX, h0, h1, ⟨a, c, h2, hs.1, hs.2⟩, hX, h3, h4, ⟨a', c', h5, hs'.1, hs'.2⟩, trivial⟩

theorem slm_bfr {w w' : World} {X : Nat → Prop} {a : Option Addr} {l : List Lm} {B : Nat} {nv nv' : Value} (hs : SlM w X a l) (hf : BFr w w' B nv nv') (hX : ∀ b, X b → b ≠ B ∧ some b ≠ nv.ownBlock) : SlM w' (fun b => X b ∧ b < w.heap.size) a l :=
  (hs.mono (Y := fun b => X b ∧ b < w.heap.size) fun b h1 h2 => ⟨h1, h2⟩).kept fun b hb => hf.2.2.2.2.1 b hb.2 (hX b hb.1).1 (hX b hb.1).2
/-- What is known at each round's head. -/
def TmInv (N B T F : Nat) (s : ByteArray) (nm : List ByteArray) (nv : Value) (w : World) (r : Lrd) (wr : World) : Prop :=
  ∃ (f' : Nat) (t : Lm) (p k' : Nat) (nv' : Value) (a : Option Addr) (c : Nat), f' ≤ F ∧ 3 * (s.size - p) + 1 ≤ f' ∧ p ≤ s.size ∧ k' ≤ 200 ∧ nm.length ≤ 100 + k' ∧ r = lrd s f' (.behind t) nm p k' ∧ Rst N B s nm p k' nv' wr ∧ BFr w wr B nv nv' ∧ Blk wr w.heap.size #[.int .i64 0, .int .i64 0, .slice none 0 0] 24 ∧ some w.heap.size ≠ nv'.ownBlock ∧
    Blk wr T #[.int .i64 t.kind, .int .i64 t.idx, .slice a t.subs.length c] 24 ∧ some T ≠ nv'.ownBlock ∧ SlM wr (fun b => w.heap.size < b ∧ b ≠ T ∧ some b ≠ nv'.ownBlock) a t.subs

set_option maxHeartbeats 4000000 in
theorem lterm_of (N B : Nat) (s : ByteArray) (hs : s.size ≤ 4000) (F : Nat) (hT : LTerm N B s F) (hP : ∀ F', F' ≤ F → LPiece N B s F') : LTerm N B s (F + 1) := by
  intro nm nv i k w hst hnk hi hk hF
  have HT := hide hT
  have HP := hide hP
  have hbox := hst.box
  have hBlt := hst.lt
  have HRD := hide (lrd_term s F nm i k)
  generalize lrd s (F + 1) .term nm i k = r at *
  have Z0 := hide (hst.alloc (.cells #[.int .i64 0, .int .i64 0, .slice none 0 0] 24))
  have R0 := hide (Blk.new w #[.int .i64 0, .int .i64 0, .slice none 0 0] 24)
  have F0 : Hid (BFr w (w.alloc (.cells #[.int .i64 0, .int .i64 0, .slice none 0 0] 24)) B nv nv) := BFr.of_below ((Below.refl _ _).alloc (Nat.le_refl _) _) B nv
  have hz0 : (w.alloc (.cells #[.int .i64 0, .int .i64 0, .slice none 0 0] 24)).heap.size = w.heap.size + 1 := by simp
  clear hT hP hst
  go_enter Tryd.func32, Tryd.ntmps32
  go_wp2_with fail
  generalize (w.alloc (.cells #[.int .i64 0, .int .i64 0, .slice none 0 0] 24)) = w0 at *
  refine (take_anyL (nv := nv) B i k s 92 hi hs _ (by exact Z0.out.bx)).mono ?_
  intro e w1 hp
  unfold TookPostL at hp
  by_cases h4 : i < s.size ∧ byteAt s i = 92
  · rw [if_pos h4] at hp
    obtain ⟨rfl, hx1, he1, hz1⟩ := hp
    have Z1 := hide (Z0.out.ex he1 hx1)
    have F1 := hide (F0.out.trans (he1.bfrL nv))
    have R1 := hide (blk_bfr R0.out (he1.bfrL nv) hbox.1 hbox.2)
    have HR : Hid (r = bndL s F nm (i + 1) k) := by unfold Hid; rw [HRD.out, if_pos h4]
    clear he1 hx1 HRD Z0 F0 R0
    go_wp2_with fail
    refine (lbinder_of N B s hs F HT.out nm nv (i + 1) k w1 Z1.out hnk (by omega) hk (by omega)).mono ?_
    intro e w2 hp
    generalize bndL s F nm (i + 1) k = r2 at *
    rcases hp with ⟨hr0, nv2, a2, c2, rfl, hs2, hst2, hf2⟩ | ⟨hr0, rfl, nv2, hf2⟩
    · have R2 := hide (blk_bfr R1.out hf2 hbox.1 hbox.2)
      have ho2 := own_bfr hf2 R1.out.lt hbox.2
      have F2 := hide (F1.out.trans hf2)
      have Z2 := hide hst2
      have S2 : Hid (SlM w2 (fun b => w.heap.size < b ∧ some b ≠ nv2.ownBlock) a2 r2.t.subs) := hs2.mono fun b hb _ => ⟨by omega, hb.2⟩
      have HF : Hid (r = ⟨0, r2.t, r2.pos, r2.k⟩) := by
        unfold Hid; rw [HR.out]; obtain ⟨e0, e1, e2, e3⟩ := r2; simp only at hr0; rw [hr0]
      have r0 := R2.out.cell 0
      have r1 := R2.out.cell 1
      have r2' := R2.out.cell 2
      have rf := R2.out.frozen
      simp only [List.getElem?_toArray, List.getElem?_cons_succ, List.getElem?_cons_zero] at r0 r1 r2'
      clear hf2 hs2 hst2 hr0
      go_wp2_with fail
      refine bodyPost_ret (v := .agg #[.int .i64 r2.t.kind, .int .i64 r2.t.idx, .slice a2 r2.t.subs.length c2]) (by simp [results, Tryd.results32, go_sem, World.cell?_setCell_same, World.cell?_setCell_other, r0, r1, r2']) rfl ?_
      exact lr_fin HF.out Z2.out F2.out hBlt ho2 S2.out _ _ _
    · exact ⟨rfl, Or.inr ⟨by rw [HR.out]; exact hr0, by rw [HR.out], nv2, F1.out.trans hf2⟩⟩
  · rw [if_neg h4] at hp
    obtain ⟨rfl, n1, rfl⟩ := hp
    have Z1 := hide (Z0.out.drewN n1)
    have F1 := hide (F0.out.trans (BFr.of_below (below_drewN (Below.refl _ _) n1) B nv))
    have R1 := hide (R0.out.drewN n1)
    have HR : Hid (r = if (lrd s F .piece nm i k).err ≠ 0 then noLr (lrd s F .piece nm i k).err else lrd s F (.behind (lrd s F .piece nm i k).t) nm (lrd s F .piece nm i k).pos (lrd s F .piece nm i k).k) := by unfold Hid; rw [HRD.out, if_neg h4]
    have hz1 : (w0.drewN n1).heap.size = w.heap.size + 1 := by
      have : (w0.drewN n1).heap = w0.heap := rfl
      rw [this]; exact hz0
    generalize w0.drewN n1 = w1 at *
    clear HRD Z0 F0 R0
    go_wp2_with fail
    refine (HP.out F (Nat.le_refl _) nm nv i k w1 Z1.out hnk hi hk (by omega)).mono ?_
    intro e w2 hp
    have HPO := hide (lrd_pos s F .piece nm i k)
    have HKM := hide (lrd_kge s F .piece nm i k)
    generalize lrd s F .piece nm i k = r2 at *
    rcases hp with ⟨hr0, nv2, a2, c2, rfl, hs2, hst2, hf2⟩ | ⟨hr0, rfl, nv2, hf2⟩
    case inr => exact ⟨rfl, lrP_no (by rw [HR.out, if_pos hr0]) hr0 (F1.out.trans hf2)⟩
    have hpos := HPO.out hr0 hi hk
    have hp2 := hpos.2.2.2 (fun t e => by cases e)
    have HR2 : Hid (r = lrd s F (.behind r2.t) nm r2.pos r2.k) := by unfold Hid; rw [HR.out, if_neg (by rw [hr0]; simp)]
    have R2 := hide (blk_bfr R1.out hf2 hbox.1 hbox.2)
    have ho2 := own_bfr hf2 R1.out.lt hbox.2
    have F2 := hide (F1.out.trans hf2)
    have hz2 : w1.heap.size ≤ w2.heap.size := hf2.2.2.2.1
    have hbx2 := hst2.box
    have Z3 := hide (hst2.alloc (.cells #[.int .i64 r2.t.kind, .int .i64 r2.t.idx, .slice a2 r2.t.subs.length c2] 24))
    have T3 := hide (Blk.new w2 #[.int .i64 r2.t.kind, .int .i64 r2.t.idx, .slice a2 r2.t.subs.length c2] 24)
    have R3 := hide (R2.out.alloc (.cells #[.int .i64 r2.t.kind, .int .i64 r2.t.idx, .slice a2 r2.t.subs.length c2] 24))
    have S3 : Hid (SlM (w2.alloc (.cells #[.int .i64 r2.t.kind, .int .i64 r2.t.idx, .slice a2 r2.t.subs.length c2] 24)) (fun b => w.heap.size < b ∧ b ≠ w2.heap.size ∧ some b ≠ nv2.ownBlock) a2 r2.t.subs) := (hs2.mono (Y := fun b => w.heap.size < b ∧ b ≠ w2.heap.size ∧ some b ≠ nv2.ownBlock) fun b hb hl => ⟨by omega, by omega, hb.2⟩).later ((Below.refl _ _).alloc (Nat.le_refl _) _)
    have F3 := hide (F2.out.trans (BFr.of_below ((Below.refl w2.heap.size w2).alloc (Nat.le_refl _) (.cells #[.int .i64 r2.t.kind, .int .i64 r2.t.idx, .slice a2 r2.t.subs.length c2] 24)) B nv2))
    have hkk : nm.length ≤ 100 + r2.k := by have := HKM.out hr0; omega
    clear hf2 hs2 hst2 R2 F2 hr0 HR HPO
    go_wp2_with fail
    generalize (w2.alloc (.cells #[.int .i64 r2.t.kind, .int .i64 r2.t.idx, .slice a2 r2.t.subs.length c2] 24)) = w3 at *
    have hTgt : w.heap.size < w2.heap.size := by omega
    generalize w2.heap.size = T at *
    go_loopw [] (fun wr => TmInv N B T F s nm nv w r wr) (fun wr => s.size - rdAtL wr B)
    case atStart => exact ⟨F, r2.t, r2.pos, r2.k, nv2, a2, c2, Nat.le_refl _, by omega, hpos.2.1, hpos.2.2.1, hkk, HR2.out, Z3.out, F3.out, R3.out, ho2, T3.out, hbx2.2, S3.out⟩
    case round =>
      obtain ⟨f', t, p, k', nv', a, c, hf1, hf2, hp1, hk1, hnk1, hr, hst, hfr, hR, hRo, hTb, hTo, hsl⟩ := hrel
      obtain ⟨f0, rfl⟩ : ∃ f0, f' = f0 + 1 := ⟨f' - 1, by omega⟩
      have HLB := hide (lrd_behind s f0 t nm p k')
      have HR4 : Hid (r = if p < s.size ∧ byteAt s p = 32 then (if 200 < k' + 1 then noLr 3 else if (lrd s f0 .piece nm (p + 1) (k' + 1)).err ≠ 0 then noLr (lrd s f0 .piece nm (p + 1) (k' + 1)).err else lrd s f0 (.behind ⟨3, 0, [t, (lrd s f0 .piece nm (p + 1) (k' + 1)).t]⟩) nm (lrd s f0 .piece nm (p + 1) (k' + 1)).pos (lrd s f0 .piece nm (p + 1) (k' + 1)).k) else ⟨0, t, p, k'⟩) := by unfold Hid; rw [hr, HLB.out]
      have Z4 := hide hst
      have F4 := hide hfr
      have R4 := hide hR
      have T4 := hide hTb
      have S4 := hide hsl
      have hBr := hst.lt
      have hTr := hTb.lt
      have hTB : T ≠ B := by
        intro e
        have h1 := hst.bx
        have h2 := hTb
        unfold Bl Blk at h1
        unfold Blk at h2
        rw [e, h1] at h2
        simp at h2
      have hAt := hst.bx.at
      clear hr hst hfr hR hTb hsl HLB Z3 F3 R3 T3 S3 HR2
      go_wp2_with fail
      refine (take_anyL (nv := nv') B p k' s 32 hp1 hs _ (by exact Z4.out.bx)).mono ?_
      intro e w5 hp
      unfold TookPostL at hp
      by_cases h5 : p < s.size ∧ byteAt s p = 32
      case neg =>
        rw [if_neg h5] at hp
        obtain ⟨rfl, n5, rfl⟩ := hp
        have HF : Hid (r = ⟨0, t, p, k'⟩) := by unfold Hid; rw [HR4.out, if_neg h5]
        have Z5 := hide (Z4.out.drewN n5)
        have F5 := hide (F4.out.trans (BFr.of_below (below_drewN (Below.refl _ _) n5) B nv'))
        have R5 := hide (R4.out.drewN n5)
        have T5 := hide (T4.out.drewN n5)
        have S5 : Hid (SlM (wr.drewN n5) (fun b => w.heap.size < b ∧ some b ≠ nv'.ownBlock) a t.subs) := (S4.out.later (below_drewN (Below.refl _ _) n5)).mono fun b hb _ => ⟨hb.1, hb.2.2⟩
        generalize wr.drewN n5 = w5 at *
        have q0 := T5.out.cell 0
        have q1 := T5.out.cell 1
        have q2 := T5.out.cell 2
        have r0 := R5.out.cell 0
        have r1 := R5.out.cell 1
        have r2' := R5.out.cell 2
        have rf := R5.out.frozen
        simp only [List.getElem?_toArray, List.getElem?_cons_succ, List.getElem?_cons_zero] at q0 q1 q2 r0 r1 r2'
        go_wp2_with fail
        refine bodyPost_ret (v := .agg #[.int .i64 t.kind, .int .i64 t.idx, .slice a t.subs.length c]) (by simp [results, Tryd.results32, go_sem, World.cell?_setCell_same, World.cell?_setCell_other, r0, r1, r2']) rfl ?_
        exact lr_fin HF.out Z5.out F5.out hBlt hRo S5.out _ _ _
      rw [if_pos h5] at hp
      obtain ⟨rfl, hx5, he5, hz5⟩ := hp
      have HR5 := hide (show r = _ from (HR4.out).trans (if_pos h5))
      have Z5 := hide (Z4.out.ex he5 hx5)
      have F5 := hide (F4.out.trans (he5.bfrL nv'))
      have R5 := hide (blk_bfr R4.out (he5.bfrL nv') hbox.1 hRo)
      have T5 := hide (blk_bfr T4.out (he5.bfrL nv') hTB hTo)
      have S5 : Hid (SlM w5 (fun b => w.heap.size < b ∧ b ≠ T ∧ some b ≠ nv'.ownBlock) a t.subs) := (slm_bfr S4.out (he5.bfrL nv') (fun b hb => ⟨by omega, hb.2.2⟩)).mono fun b hb _ => hb.1
      clear hx5 he5 HR4 Z4 F4 R4 T4 S4
      go_wp2_with fail
      refine (rdKnot_anyL (nv := nv') B (p + 1) k' s (by omega) _ (by exact Z5.out.bx)).mono ?_
      intro e w6 hp
      unfold RdKnotPostL at hp
      by_cases h3 : 200 < k' + 1
      · rw [if_pos h3] at hp
        obtain ⟨he, he3⟩ := hp
        unfold thrownL at he
        subst he
        exact ⟨rfl, lrP_no (by rw [HR5.out, if_pos h3]) (by simp) (F5.out.trans (he3.bfrL nv'))⟩
      rw [if_neg h3] at hp
      obtain ⟨⟨v6, rfl⟩, hx6, he6, hz6⟩ := hp
      have HR6 := hide (show r = _ from (HR5.out).trans (if_neg h3))
      have Z6 := hide (Z5.out.ex he6 hx6)
      have F6 := hide (F5.out.trans (he6.bfrL nv'))
      have R6 := hide (blk_bfr R5.out (he6.bfrL nv') hbox.1 hRo)
      have T6 := hide (blk_bfr T5.out (he6.bfrL nv') hTB hTo)
      have S6 : Hid (SlM w6 (fun b => w.heap.size < b ∧ b ≠ T ∧ some b ≠ nv'.ownBlock) a t.subs) := (slm_bfr S5.out (he6.bfrL nv') (fun b hb => ⟨by omega, hb.2.2⟩)).mono fun b hb _ => hb.1
      clear hx6 he6 HR5 Z5 F5 R5 T5 S5
      go_wp2_with fail
      have Zd := hide (Z6.out.later (Below.drew (Below.refl w6.heap.size w6)))
      have Fd := hide (F6.out.trans (BFr.of_below (Below.drew (Below.refl w6.heap.size w6)) B nv'))
      have Rd : Hid (Blk w6.drew w.heap.size #[.int .i64 0, .int .i64 0, .slice none 0 0] 24) := R6.out
      have Td : Hid (Blk w6.drew T #[.int .i64 t.kind, .int .i64 t.idx, .slice a t.subs.length c] 24) := T6.out
      have Sd := hide (S6.out.later (Below.drew (Below.refl w6.heap.size w6)))
      refine wp_region_held_drew (S := fun w' => N ≤ w'.heap.size) (by kernel_rfl) (by exact Zd.out.le) (fun hHeld => ?_)
      generalize w6.drew = wd at *
      clear Z6 F6 R6 T6 S6
      have HPO7 := hide (lrd_pos s f0 .piece nm (p + 1) (k' + 1))
      have HKM7 := hide (lrd_kge s f0 .piece nm (p + 1) (k' + 1))
      refine wpAnyH_take (i := 1) (v := ?_) rfl (by kernel_rfl) (by kernel_rfl) (by kernel_rfl) (fun _ _ _ h => h) (Or.inl ⟨by rfl, ?_⟩) (by assumption) ?_
      rotate_left
      · intro w' hSw
        go_simp <;> with_reducible rfl
      try simp only [Act.put, List.setIfInBounds_toArray, List.set_cons_zero, List.set_cons_succ, List.getElem_toArray, List.getElem_cons_succ, List.getElem_cons_zero]
      refine wpAnyH_ready (rs := [0, 2]) (by kernel_rfl) (by simp) ?_
      refine AllReadyH.cons rfl (fun K hK => ?_) (AllReadyH.cons rfl (fun K hK => ?_) AllReadyH.nil)
      · have m0 := Td.out.cell 0
        have m1 := Td.out.cell 1
        have m2 := Td.out.cell 2
        simp only [List.getElem?_toArray, List.getElem?_cons_succ, List.getElem?_cons_zero] at m0 m1 m2
        go_simp
        refine hK.out _ _ (by exact Zd.out.le) (fun hHeld => ?_)
        clear hK K
        try simp only [Act.put, List.setIfInBounds_toArray, List.set_cons_zero, List.set_cons_succ, List.getElem_toArray, List.getElem_cons_succ, List.getElem_cons_zero]
        clear m0 m1 m2
        refine wpAnyH_ready (rs := [2]) (by kernel_rfl) (by simp) ?_
        refine AllReadyH.cons rfl (fun K hK => ?_) AllReadyH.nil
        go_simp
        go_at_call 49
        refine (HP.out f0 (by omega) nm nv' (p + 1) (k' + 1) wd Zd.out (by omega) (by omega) (by omega) (by omega)).mono ?_
        intro e w7 hp
        generalize lrd s f0 .piece nm (p + 1) (k' + 1) = r7 at *
        rcases hp with ⟨hr0, nv7, a7, c7, rfl, hs7, hst7, hf7⟩ | ⟨hr0, rfl, nv7, hf7⟩
        case inr => exact ⟨rfl, lrP_no (by rw [HR6.out, if_pos hr0]) hr0 (Fd.out.trans hf7)⟩
        have hpos7 := HPO7.out hr0 (by omega) (by omega)
        have hp7 := hpos7.2.2.2 (fun t e => by cases e)
        have hkm7 := HKM7.out hr0
        have HR7 : Hid (r = lrd s f0 (.behind ⟨3, 0, [t, r7.t]⟩) nm r7.pos r7.k) := by unfold Hid; rw [HR6.out, if_neg (by rw [hr0]; simp)]
        have Z7 := hide hst7
        have F7 := hide (Fd.out.trans hf7)
        have R7 := hide (blk_bfr Rd.out hf7 hbox.1 hRo)
        have hRo7 := own_bfr hf7 Rd.out.lt hRo
        have T7 := hide (blk_bfr Td.out hf7 hTB hTo)
        have hTo7 := own_bfr hf7 Td.out.lt hTo
        have S7 : Hid (SlM w7 (fun b => w.heap.size < b ∧ b ≠ T ∧ some b ≠ nv7.ownBlock) a t.subs) := (slm_bfr Sd.out hf7 (fun b hb => ⟨by omega, hb.2.2⟩)).mono fun b hb _ => ⟨hb.1.1, hb.1.2.1, own_bfr hf7 hb.2 hb.1.2.2⟩
        have hTd := Td.out.lt
        have hRd := Rd.out.lt
        have U7 : Hid (SlM w7 (fun b => w.heap.size < b ∧ b ≠ T ∧ some b ≠ nv7.ownBlock) a7 r7.t.subs) := hs7.mono fun b hb _ => ⟨by omega, by omega, hb.2⟩
        have hz7 : wd.heap.size ≤ w7.heap.size := hf7.2.2.2.1
        clear hs7 hst7 hf7 hr0 HPO7 HKM7
        go_simp
        refine hK.out _ _ (by exact Z7.out.le) (fun hHeld => ?_)
        clear hK K
        try simp only [Act.put, List.setIfInBounds_toArray, List.set_cons_zero, List.set_cons_succ, List.getElem_toArray, List.getElem_cons_succ, List.getElem_cons_zero]
        have Z8 := hide (Z7.out.alloc (.cells #[.int .i64 t.kind, .int .i64 t.idx, .slice a t.subs.length c, .int .i64 r7.t.kind, .int .i64 r7.t.idx, .slice a7 r7.t.subs.length c7] 24))
        have F8 := hide (F7.out.trans (BFr.of_below ((Below.refl w7.heap.size w7).alloc (Nat.le_refl _) (.cells #[.int .i64 t.kind, .int .i64 t.idx, .slice a t.subs.length c, .int .i64 r7.t.kind, .int .i64 r7.t.idx, .slice a7 r7.t.subs.length c7] 24)) B nv7))
        have R8 := hide (R7.out.alloc (.cells #[.int .i64 t.kind, .int .i64 t.idx, .slice a t.subs.length c, .int .i64 r7.t.kind, .int .i64 r7.t.idx, .slice a7 r7.t.subs.length c7] 24))
        have T8 := hide (T7.out.alloc (.cells #[.int .i64 t.kind, .int .i64 t.idx, .slice a t.subs.length c, .int .i64 r7.t.kind, .int .i64 r7.t.idx, .slice a7 r7.t.subs.length c7] 24))
        have S8 := hide (S7.out.later ((Below.refl w7.heap.size w7).alloc (Nat.le_refl _) (.cells #[.int .i64 t.kind, .int .i64 t.idx, .slice a t.subs.length c, .int .i64 r7.t.kind, .int .i64 r7.t.idx, .slice a7 r7.t.subs.length c7] 24)))
        have U8 := hide (U7.out.later ((Below.refl w7.heap.size w7).alloc (Nat.le_refl _) (.cells #[.int .i64 t.kind, .int .i64 t.idx, .slice a t.subs.length c, .int .i64 r7.t.kind, .int .i64 r7.t.idx, .slice a7 r7.t.subs.length c7] 24)))
        have P8 := hide (Blk.new w7 #[.int .i64 t.kind, .int .i64 t.idx, .slice a t.subs.length c, .int .i64 r7.t.kind, .int .i64 r7.t.idx, .slice a7 r7.t.subs.length c7] 24)
        have hbx7 := Z7.out.box
        refine wpAnyH_ready (rs := [3]) (by kernel_rfl) (by simp) ?_
        refine AllReadyH.cons rfl (fun K hK => ?_) AllReadyH.nil
        go_simp
        refine hK.out _ _ (by exact Z8.out.le) (fun hHeld => ?_)
        clear hK K
        try simp only [Act.put, List.setIfInBounds_toArray, List.set_cons_zero, List.set_cons_succ, List.getElem_toArray, List.getElem_cons_succ, List.getElem_cons_zero]
        generalize (w7.alloc (.cells #[.int .i64 t.kind, .int .i64 t.idx, .slice a t.subs.length c, .int .i64 r7.t.kind, .int .i64 r7.t.idx, .slice a7 r7.t.subs.length c7] 24)) = w8 at *
        have hTw7 : T < w7.heap.size := by omega
        have hRw7 : w.heap.size < w7.heap.size := by omega
        have hXS : Hid (w.heap.size < w7.heap.size ∧ w7.heap.size ≠ T ∧ some w7.heap.size ≠ nv7.ownBlock) := ⟨by omega, by omega, hbx7.2⟩
        refine wpAnyH_take (i := 4) (v := ?_) rfl (by kernel_rfl) (by kernel_rfl) (by kernel_rfl) (fun _ _ _ h => h) (Or.inl ⟨by rfl, ?_⟩) (by assumption) ?_
        rotate_left
        · intro w' hSw
          go_simp <;> with_reducible rfl
        try simp only [Act.put, List.setIfInBounds_toArray, List.set_cons_zero, List.set_cons_succ, List.getElem_toArray, List.getElem_cons_succ, List.getElem_cons_zero]
        have m0 := T8.out.cell 0
        have m1 := T8.out.cell 1
        have m2 := T8.out.cell 2
        have mf := T8.out.frozen
        simp only [List.getElem?_toArray, List.getElem?_cons_succ, List.getElem?_cons_zero] at m0 m1 m2
        have kx : ∀ q : Nat, q ≠ T → (((w8.setCell ⟨T, 0, none⟩ (.int .i64 3)).setCell ⟨T, 1, none⟩ (.int .i64 0)).setCell ⟨T, 2, none⟩ (.slice (some ⟨w7.heap.size, 0, none⟩) 2 2)).heap[q]? = w8.heap[q]? := fun q hq => by
          rw [Below.heap_setCell _ _ _ _ (by simpa using hq), Below.heap_setCell _ _ _ _ (by simpa using hq), Below.heap_setCell _ _ _ _ (by simpa using hq)]
        have hf9 : Hid (BFr w8 (((w8.setCell ⟨T, 0, none⟩ (.int .i64 3)).setCell ⟨T, 1, none⟩ (.int .i64 0)).setCell ⟨T, 2, none⟩ (.slice (some ⟨w7.heap.size, 0, none⟩) 2 2)) B nv7 nv7 ∨ True) := Or.inr trivial
        have hz9 : (((w8.setCell ⟨T, 0, none⟩ (.int .i64 3)).setCell ⟨T, 1, none⟩ (.int .i64 0)).setCell ⟨T, 2, none⟩ (.slice (some ⟨w7.heap.size, 0, none⟩) 2 2)).heap.size = w8.heap.size := by simp [World.setCell]
        have hos9 : (((w8.setCell ⟨T, 0, none⟩ (.int .i64 3)).setCell ⟨T, 1, none⟩ (.int .i64 0)).setCell ⟨T, 2, none⟩ (.slice (some ⟨w7.heap.size, 0, none⟩) 2 2)).os = w8.os ∧ (((w8.setCell ⟨T, 0, none⟩ (.int .i64 3)).setCell ⟨T, 1, none⟩ (.int .i64 0)).setCell ⟨T, 2, none⟩ (.slice (some ⟨w7.heap.size, 0, none⟩) 2 2)).tape = w8.tape ∧ (((w8.setCell ⟨T, 0, none⟩ (.int .i64 3)).setCell ⟨T, 1, none⟩ (.int .i64 0)).setCell ⟨T, 2, none⟩ (.slice (some ⟨w7.heap.size, 0, none⟩) 2 2)).output = w8.output := ⟨rfl, rfl, rfl⟩
        have T9 : Hid (Blk (((w8.setCell ⟨T, 0, none⟩ (.int .i64 3)).setCell ⟨T, 1, none⟩ (.int .i64 0)).setCell ⟨T, 2, none⟩ (.slice (some ⟨w7.heap.size, 0, none⟩) 2 2)) T #[.int .i64 3, .int .i64 0, .slice (some ⟨w7.heap.size, 0, none⟩) 2 2] 24) := lt_set3 T8.out _ _ _
        have hN9 : N ≤ (((w8.setCell ⟨T, 0, none⟩ (.int .i64 3)).setCell ⟨T, 1, none⟩ (.int .i64 0)).setCell ⟨T, 2, none⟩ (.slice (some ⟨w7.heap.size, 0, none⟩) 2 2)).heap.size := by rw [hz9]; exact Z8.out.le
        refine wpAnyH_ready (rs := [5]) (by kernel_rfl) (by simp) ?_
        refine AllReadyH.cons rfl (fun K hK => ?_) AllReadyH.nil
        go_simp
        refine hK.out _ _ (by exact hN9) (fun hHeld => ?_)
        clear hK K
        try simp only [Act.put, List.setIfInBounds_toArray, List.set_cons_zero, List.set_cons_succ, List.getElem_toArray, List.getElem_cons_succ, List.getElem_cons_zero]
        generalize (((w8.setCell ⟨T, 0, none⟩ (.int .i64 3)).setCell ⟨T, 1, none⟩ (.int .i64 0)).setCell ⟨T, 2, none⟩ (.slice (some ⟨w7.heap.size, 0, none⟩) 2 2)) = w9 at *
        clear m0 m1 m2 mf hf9
        refine wpAnyH_done (by kernel_rfl) ?_ _
        have R9 : Hid (Blk w9 w.heap.size #[.int .i64 0, .int .i64 0, .slice none 0 0] 24) := (kx _ (by omega)).trans R8.out
        have F9 : Hid (BFr w w9 B nv nv7) := ⟨hos9.1.trans F8.out.1, hos9.2.1.trans F8.out.2.1, hos9.2.2.trans F8.out.2.2.1, by have := F8.out.2.2.2.1; omega, fun q hq h1 h2 => (kx q (by omega)).trans (F8.out.2.2.2.2.1 q hq h1 h2), F8.out.2.2.2.2.2⟩
        have Z9 : Hid (Rst N B s nm r7.pos r7.k nv7 w9) := by
          have hb9 : Below N w8 w9 := ⟨hos9.1, hos9.2.1, hos9.2.2, by omega, fun q hq => kx q (by have := Z8.out.nb; omega)⟩
          refine ⟨?_, Z8.out.own.kept (row := some T) ⟨hos9.1, hos9.2.1, hos9.2.2, by omega, fun q hq hn => kx q (fun e => hn (by rw [e]))⟩ (Or.inr fun e => hTo7 e.symm), Z8.out.nb, hN9, Z8.out.tb.on hb9, Z8.out.ts.on hb9⟩
          have hbx := Z8.out.bx
          unfold Bl Blk at hbx ⊢
          rw [kx B (fun e => hTB e.symm)]
          exact hbx
        have P9 : Hid (Blk w9 w7.heap.size #[.int .i64 t.kind, .int .i64 t.idx, .slice a t.subs.length c, .int .i64 r7.t.kind, .int .i64 r7.t.idx, .slice a7 r7.t.subs.length c7] 24) := (kx _ (by omega)).trans P8.out
        have S9 : Hid (SlM w9 (fun b => w.heap.size < b ∧ b ≠ T ∧ some b ≠ nv7.ownBlock) (some ⟨w7.heap.size, 0, none⟩) [t, r7.t]) := lies_two hXS.out (P9.out.cell 0) (P9.out.cell 1) (P9.out.cell 2) (P9.out.cell 3) (P9.out.cell 4) (P9.out.cell 5) (S8.out.kept fun q hq => kx q hq.2.1) (U8.out.kept fun q hq => kx q hq.2.1)
        have hAt9 := Z9.out.bx.at
        clear kx hos9 hz9 Z8 F8 R8 T8 S8 U8 P8 P9 Z7 F7 R7 T7 S7 U7
        go_wp2_with fail
        go_roundw
        case rel => exact ⟨f0, ⟨3, 0, [t, r7.t]⟩, r7.pos, r7.k, nv7, some ⟨w7.heap.size, 0, none⟩, 2, by omega, by omega, hpos7.2.1, hpos7.2.2.1, by omega, HR7.out, Z9.out, F9.out, R9.out, hRo7, T9.out, hTo7, S9.out⟩
        case measure => rw [hAt9, hAt]; omega
      · go_simp
        go_at_call 49
        refine (HP.out f0 (by omega) nm nv' (p + 1) (k' + 1) wd Zd.out (by omega) (by omega) (by omega) (by omega)).mono ?_
        intro e w7 hp
        generalize lrd s f0 .piece nm (p + 1) (k' + 1) = r7 at *
        rcases hp with ⟨hr0, nv7, a7, c7, rfl, hs7, hst7, hf7⟩ | ⟨hr0, rfl, nv7, hf7⟩
        case inr => exact ⟨rfl, lrP_no (by rw [HR6.out, if_pos hr0]) hr0 (Fd.out.trans hf7)⟩
        have hpos7 := HPO7.out hr0 (by omega) (by omega)
        have hp7 := hpos7.2.2.2 (fun t e => by cases e)
        have hkm7 := HKM7.out hr0
        have HR7 : Hid (r = lrd s f0 (.behind ⟨3, 0, [t, r7.t]⟩) nm r7.pos r7.k) := by unfold Hid; rw [HR6.out, if_neg (by rw [hr0]; simp)]
        have Z7 := hide hst7
        have F7 := hide (Fd.out.trans hf7)
        have R7 := hide (blk_bfr Rd.out hf7 hbox.1 hRo)
        have hRo7 := own_bfr hf7 Rd.out.lt hRo
        have T7 := hide (blk_bfr Td.out hf7 hTB hTo)
        have hTo7 := own_bfr hf7 Td.out.lt hTo
        have S7 : Hid (SlM w7 (fun b => w.heap.size < b ∧ b ≠ T ∧ some b ≠ nv7.ownBlock) a t.subs) := (slm_bfr Sd.out hf7 (fun b hb => ⟨by omega, hb.2.2⟩)).mono fun b hb _ => ⟨hb.1.1, hb.1.2.1, own_bfr hf7 hb.2 hb.1.2.2⟩
        have hTd := Td.out.lt
        have hRd := Rd.out.lt
        have U7 : Hid (SlM w7 (fun b => w.heap.size < b ∧ b ≠ T ∧ some b ≠ nv7.ownBlock) a7 r7.t.subs) := hs7.mono fun b hb _ => ⟨by omega, by omega, hb.2⟩
        have hz7 : wd.heap.size ≤ w7.heap.size := hf7.2.2.2.1
        clear hs7 hst7 hf7 hr0 HPO7 HKM7
        go_simp
        refine hK.out _ _ (by exact Z7.out.le) (fun hHeld => ?_)
        clear hK K
        try simp only [Act.put, List.setIfInBounds_toArray, List.set_cons_zero, List.set_cons_succ, List.getElem_toArray, List.getElem_cons_succ, List.getElem_cons_zero]
        refine wpAnyH_ready (rs := [0]) (by kernel_rfl) (by simp) ?_
        refine AllReadyH.cons rfl (fun K hK => ?_) AllReadyH.nil
        have m0 := T7.out.cell 0
        have m1 := T7.out.cell 1
        have m2 := T7.out.cell 2
        simp only [List.getElem?_toArray, List.getElem?_cons_succ, List.getElem?_cons_zero] at m0 m1 m2
        go_simp
        refine hK.out _ _ (by exact Z7.out.le) (fun hHeld => ?_)
        clear hK K
        try simp only [Act.put, List.setIfInBounds_toArray, List.set_cons_zero, List.set_cons_succ, List.getElem_toArray, List.getElem_cons_succ, List.getElem_cons_zero]
        clear m0 m1 m2
        have Z8 := hide (Z7.out.alloc (.cells #[.int .i64 t.kind, .int .i64 t.idx, .slice a t.subs.length c, .int .i64 r7.t.kind, .int .i64 r7.t.idx, .slice a7 r7.t.subs.length c7] 24))
        have F8 := hide (F7.out.trans (BFr.of_below ((Below.refl w7.heap.size w7).alloc (Nat.le_refl _) (.cells #[.int .i64 t.kind, .int .i64 t.idx, .slice a t.subs.length c, .int .i64 r7.t.kind, .int .i64 r7.t.idx, .slice a7 r7.t.subs.length c7] 24)) B nv7))
        have R8 := hide (R7.out.alloc (.cells #[.int .i64 t.kind, .int .i64 t.idx, .slice a t.subs.length c, .int .i64 r7.t.kind, .int .i64 r7.t.idx, .slice a7 r7.t.subs.length c7] 24))
        have T8 := hide (T7.out.alloc (.cells #[.int .i64 t.kind, .int .i64 t.idx, .slice a t.subs.length c, .int .i64 r7.t.kind, .int .i64 r7.t.idx, .slice a7 r7.t.subs.length c7] 24))
        have S8 := hide (S7.out.later ((Below.refl w7.heap.size w7).alloc (Nat.le_refl _) (.cells #[.int .i64 t.kind, .int .i64 t.idx, .slice a t.subs.length c, .int .i64 r7.t.kind, .int .i64 r7.t.idx, .slice a7 r7.t.subs.length c7] 24)))
        have U8 := hide (U7.out.later ((Below.refl w7.heap.size w7).alloc (Nat.le_refl _) (.cells #[.int .i64 t.kind, .int .i64 t.idx, .slice a t.subs.length c, .int .i64 r7.t.kind, .int .i64 r7.t.idx, .slice a7 r7.t.subs.length c7] 24)))
        have P8 := hide (Blk.new w7 #[.int .i64 t.kind, .int .i64 t.idx, .slice a t.subs.length c, .int .i64 r7.t.kind, .int .i64 r7.t.idx, .slice a7 r7.t.subs.length c7] 24)
        have hbx7 := Z7.out.box
        refine wpAnyH_ready (rs := [3]) (by kernel_rfl) (by simp) ?_
        refine AllReadyH.cons rfl (fun K hK => ?_) AllReadyH.nil
        go_simp
        refine hK.out _ _ (by exact Z8.out.le) (fun hHeld => ?_)
        clear hK K
        try simp only [Act.put, List.setIfInBounds_toArray, List.set_cons_zero, List.set_cons_succ, List.getElem_toArray, List.getElem_cons_succ, List.getElem_cons_zero]
        generalize (w7.alloc (.cells #[.int .i64 t.kind, .int .i64 t.idx, .slice a t.subs.length c, .int .i64 r7.t.kind, .int .i64 r7.t.idx, .slice a7 r7.t.subs.length c7] 24)) = w8 at *
        have hTw7 : T < w7.heap.size := by omega
        have hRw7 : w.heap.size < w7.heap.size := by omega
        have hXS : Hid (w.heap.size < w7.heap.size ∧ w7.heap.size ≠ T ∧ some w7.heap.size ≠ nv7.ownBlock) := ⟨by omega, by omega, hbx7.2⟩
        refine wpAnyH_take (i := 4) (v := ?_) rfl (by kernel_rfl) (by kernel_rfl) (by kernel_rfl) (fun _ _ _ h => h) (Or.inl ⟨by rfl, ?_⟩) (by assumption) ?_
        rotate_left
        · intro w' hSw
          go_simp <;> with_reducible rfl
        try simp only [Act.put, List.setIfInBounds_toArray, List.set_cons_zero, List.set_cons_succ, List.getElem_toArray, List.getElem_cons_succ, List.getElem_cons_zero]
        have m0 := T8.out.cell 0
        have m1 := T8.out.cell 1
        have m2 := T8.out.cell 2
        have mf := T8.out.frozen
        simp only [List.getElem?_toArray, List.getElem?_cons_succ, List.getElem?_cons_zero] at m0 m1 m2
        have kx : ∀ q : Nat, q ≠ T → (((w8.setCell ⟨T, 0, none⟩ (.int .i64 3)).setCell ⟨T, 1, none⟩ (.int .i64 0)).setCell ⟨T, 2, none⟩ (.slice (some ⟨w7.heap.size, 0, none⟩) 2 2)).heap[q]? = w8.heap[q]? := fun q hq => by
          rw [Below.heap_setCell _ _ _ _ (by simpa using hq), Below.heap_setCell _ _ _ _ (by simpa using hq), Below.heap_setCell _ _ _ _ (by simpa using hq)]
        have hf9 : Hid (BFr w8 (((w8.setCell ⟨T, 0, none⟩ (.int .i64 3)).setCell ⟨T, 1, none⟩ (.int .i64 0)).setCell ⟨T, 2, none⟩ (.slice (some ⟨w7.heap.size, 0, none⟩) 2 2)) B nv7 nv7 ∨ True) := Or.inr trivial
        have hz9 : (((w8.setCell ⟨T, 0, none⟩ (.int .i64 3)).setCell ⟨T, 1, none⟩ (.int .i64 0)).setCell ⟨T, 2, none⟩ (.slice (some ⟨w7.heap.size, 0, none⟩) 2 2)).heap.size = w8.heap.size := by simp [World.setCell]
        have hos9 : (((w8.setCell ⟨T, 0, none⟩ (.int .i64 3)).setCell ⟨T, 1, none⟩ (.int .i64 0)).setCell ⟨T, 2, none⟩ (.slice (some ⟨w7.heap.size, 0, none⟩) 2 2)).os = w8.os ∧ (((w8.setCell ⟨T, 0, none⟩ (.int .i64 3)).setCell ⟨T, 1, none⟩ (.int .i64 0)).setCell ⟨T, 2, none⟩ (.slice (some ⟨w7.heap.size, 0, none⟩) 2 2)).tape = w8.tape ∧ (((w8.setCell ⟨T, 0, none⟩ (.int .i64 3)).setCell ⟨T, 1, none⟩ (.int .i64 0)).setCell ⟨T, 2, none⟩ (.slice (some ⟨w7.heap.size, 0, none⟩) 2 2)).output = w8.output := ⟨rfl, rfl, rfl⟩
        have T9 : Hid (Blk (((w8.setCell ⟨T, 0, none⟩ (.int .i64 3)).setCell ⟨T, 1, none⟩ (.int .i64 0)).setCell ⟨T, 2, none⟩ (.slice (some ⟨w7.heap.size, 0, none⟩) 2 2)) T #[.int .i64 3, .int .i64 0, .slice (some ⟨w7.heap.size, 0, none⟩) 2 2] 24) := lt_set3 T8.out _ _ _
        have hN9 : N ≤ (((w8.setCell ⟨T, 0, none⟩ (.int .i64 3)).setCell ⟨T, 1, none⟩ (.int .i64 0)).setCell ⟨T, 2, none⟩ (.slice (some ⟨w7.heap.size, 0, none⟩) 2 2)).heap.size := by rw [hz9]; exact Z8.out.le
        refine wpAnyH_ready (rs := [5]) (by kernel_rfl) (by simp) ?_
        refine AllReadyH.cons rfl (fun K hK => ?_) AllReadyH.nil
        go_simp
        refine hK.out _ _ (by exact hN9) (fun hHeld => ?_)
        clear hK K
        try simp only [Act.put, List.setIfInBounds_toArray, List.set_cons_zero, List.set_cons_succ, List.getElem_toArray, List.getElem_cons_succ, List.getElem_cons_zero]
        generalize (((w8.setCell ⟨T, 0, none⟩ (.int .i64 3)).setCell ⟨T, 1, none⟩ (.int .i64 0)).setCell ⟨T, 2, none⟩ (.slice (some ⟨w7.heap.size, 0, none⟩) 2 2)) = w9 at *
        clear m0 m1 m2 mf hf9
        refine wpAnyH_done (by kernel_rfl) ?_ _
        have R9 : Hid (Blk w9 w.heap.size #[.int .i64 0, .int .i64 0, .slice none 0 0] 24) := (kx _ (by omega)).trans R8.out
        have F9 : Hid (BFr w w9 B nv nv7) := ⟨hos9.1.trans F8.out.1, hos9.2.1.trans F8.out.2.1, hos9.2.2.trans F8.out.2.2.1, by have := F8.out.2.2.2.1; omega, fun q hq h1 h2 => (kx q (by omega)).trans (F8.out.2.2.2.2.1 q hq h1 h2), F8.out.2.2.2.2.2⟩
        have Z9 : Hid (Rst N B s nm r7.pos r7.k nv7 w9) := by
          have hb9 : Below N w8 w9 := ⟨hos9.1, hos9.2.1, hos9.2.2, by omega, fun q hq => kx q (by have := Z8.out.nb; omega)⟩
          refine ⟨?_, Z8.out.own.kept (row := some T) ⟨hos9.1, hos9.2.1, hos9.2.2, by omega, fun q hq hn => kx q (fun e => hn (by rw [e]))⟩ (Or.inr fun e => hTo7 e.symm), Z8.out.nb, hN9, Z8.out.tb.on hb9, Z8.out.ts.on hb9⟩
          have hbx := Z8.out.bx
          unfold Bl Blk at hbx ⊢
          rw [kx B (fun e => hTB e.symm)]
          exact hbx
        have P9 : Hid (Blk w9 w7.heap.size #[.int .i64 t.kind, .int .i64 t.idx, .slice a t.subs.length c, .int .i64 r7.t.kind, .int .i64 r7.t.idx, .slice a7 r7.t.subs.length c7] 24) := (kx _ (by omega)).trans P8.out
        have S9 : Hid (SlM w9 (fun b => w.heap.size < b ∧ b ≠ T ∧ some b ≠ nv7.ownBlock) (some ⟨w7.heap.size, 0, none⟩) [t, r7.t]) := lies_two hXS.out (P9.out.cell 0) (P9.out.cell 1) (P9.out.cell 2) (P9.out.cell 3) (P9.out.cell 4) (P9.out.cell 5) (S8.out.kept fun q hq => kx q hq.2.1) (U8.out.kept fun q hq => kx q hq.2.1)
        have hAt9 := Z9.out.bx.at
        clear kx hos9 hz9 Z8 F8 R8 T8 S8 U8 P8 P9 Z7 F7 R7 T7 S7 U7
        go_wp2_with fail
        go_roundw
        case rel => exact ⟨f0, ⟨3, 0, [t, r7.t]⟩, r7.pos, r7.k, nv7, some ⟨w7.heap.size, 0, none⟩, 2, by omega, by omega, hpos7.2.1, hpos7.2.2.1, by omega, HR7.out, Z9.out, F9.out, R9.out, hRo7, T9.out, hTo7, S9.out⟩
        case measure => rw [hAt9, hAt]; omega
#print axioms lterm_of
end Go.Proofs.YtagffgabceodfaaDoor

/- Walks: two lambda terms that are the same; two answers that are lambda terms. -/
namespace Go.Proofs.YtagffgabceodfaaDoor
open Go.RowKit
set_option linter.unusedSimpArgs false
set_option linter.unusedVariables false
set_option maxRecDepth 8000

theorem below2M {w : World} (o o' : Obj) : Below w.heap.size w ((w.alloc o).alloc o') := ((Below.refl _ _).alloc (Nat.le_refl _) o).alloc (by simp) o'
theorem same_cellsM {w w1 : World} {n : Nat} {p1 p2 p3 p4 p5 p6 p7 p8 : Addr} {v1 v2 v3 v4 v5 v6 v7 v8 : Value} (hb : Below (w.drewN n).heap.size (w.drewN n) w1)
    (h : w.cell? p1 = some v1 ∧ w.cell? p2 = some v2 ∧ w.cell? p3 = some v3 ∧ w.cell? p4 = some v4 ∧ w.cell? p5 = some v5 ∧ w.cell? p6 = some v6 ∧ w.cell? p7 = some v7 ∧ w.cell? p8 = some v8) :
    w1.cell? p1 = some v1 ∧ w1.cell? p2 = some v2 ∧ w1.cell? p3 = some v3 ∧ w1.cell? p4 = some v4 ∧ w1.cell? p5 = some v5 ∧ w1.cell? p6 = some v6 ∧ w1.cell? p7 = some v7 ∧ w1.cell? p8 = some v8 := by
  have hb' : Below w.heap.size w w1 := (below_drewN (Below.refl _ _) n).trans (hb.mono (by simp))
  obtain ⟨h1, h2, h3, h4, h5, h6, h7, h8⟩ := h
  exact ⟨cell_later hb' h1, cell_later hb' h2, cell_later hb' h3, cell_later hb' h4, cell_later hb' h5, cell_later hb' h6, cell_later hb' h7, cell_later hb' h8⟩

set_option maxHeartbeats 1000000 in
theorem sameM_any (t : Lm) : ∀ (v u : Value) (w : World) (X Y : Nat → Prop), MV w X v t → MV w Y u t →
    Calls Tryd.prog 18 #[v, u] w fun e w' => e = .returned (.bool true) ∧ Below w.heap.size w w' := by
  induction t using Lm.ind with
  | h kd ix l ih =>
    intro v u w X Y hv hu
    have IH := hide ih
    clear ih
    obtain ⟨a, c, rfl, hs⟩ := hv
    obtain ⟨a2, c2, rfl, hs2⟩ := hu
    have hl := hs.1
    go_enter Tryd.func18, Tryd.ntmps18
    go_wp2_with fail
    go_loopw [5] (fun i wr => ∃ (k : Nat), k ≤ l.length ∧ i = .int .i64 k ∧ Below w.heap.size w wr ∧ wr.cell? ⟨w.heap.size, 2, none⟩ = some (.slice a l.length c) ∧ wr.cell? ⟨w.heap.size + 1, 2, none⟩ = some (.slice a2 l.length c2) ∧ w.heap.size + 2 ≤ wr.heap.size) (fun i wr => l.length - (intOf i).toNat)
    case atStart => exact ⟨0, Nat.zero_le _, rfl, below2M _ _, by simp, by simp, by simp⟩
    case round =>
      obtain ⟨k, hk, rfl, hb, hc1, hc2, hsz⟩ := hrel
      by_cases hlt : k < l.length
      · obtain ⟨b, o, a', c', rfl, d0, d0', d1, hx⟩ := hs.get hb (fun _ _ h => h) k hlt
        obtain ⟨b2, o2, a2', c2', rfl, e0, e0', e1, hx2⟩ := hs2.get hb (fun _ _ h => h) k hlt
        have HX := hide hx
        have HX2 := hide hx2
        have HB := hide hb
        have HS0 := hide (And.intro hc1 (And.intro hc2 (And.intro d0 (And.intro d0' (And.intro d1 (And.intro e0 (And.intro e0' e1)))))))
        clear hx hx2 hb
        go_wp2_with fail
        go_region_held3 (fun w' => w'.cell? ⟨w.heap.size, 2, none⟩ = some (.slice (some ⟨b, o, none⟩) l.length c) ∧ w'.cell? ⟨w.heap.size + 1, 2, none⟩ = some (.slice (some ⟨b2, o2, none⟩) l.length c2) ∧ w'.cell? ⟨b, o + k * 3, none⟩ = some (.int .i64 l[k].kind) ∧ w'.cell? ⟨b, o + k * 3 + 1, none⟩ = some (.int .i64 l[k].idx) ∧ w'.cell? ⟨b, o + k * 3 + 2, none⟩ = some (.slice a' l[k].subs.length c') ∧ w'.cell? ⟨b2, o2 + k * 3, none⟩ = some (.int .i64 l[k].kind) ∧ w'.cell? ⟨b2, o2 + k * 3 + 1, none⟩ = some (.int .i64 l[k].idx) ∧ w'.cell? ⟨b2, o2 + k * 3 + 2, none⟩ = some (.slice a2' l[k].subs.length c2')) (first | exact HS0.out | exact hS1)
          ((go_at_call 18; refine (IH.out _ (List.getElem_mem hlt) _ _ _ X Y (by exact HX.out.later (below_drewN (Below.refl _ _) 1)) (by exact HX2.out.later (below_drewN (Below.refl _ _) 1))).mono ?_; rintro e w1 ⟨rfl, hb1⟩; have hS1 := same_cellsM (n := 1) hb1 HS0.out))
        go_wp2_with fail
        go_roundw
        case rel => exact ⟨k + 1, by omega, by go_num, (HB.out.trans (below_drewN (Below.refl _ _) 1)).trans (hb1.mono (by simp; omega)), hS1.1, hS1.2.1, by have := hb1.size; simp at this; omega⟩
        case measure => simp [intOf]; omega
      · go_wp2_with fail
        go_ret
        exact ⟨rfl, hb⟩
#print axioms sameM_any

def zeroM : Value := .agg #[.int .i64 0, .int .i64 0, .slice none 0 0]
set_option maxHeartbeats 1000000 in
theorem lam2_ok (t : Lm) (v u : Value) (w : World) (X Y : Nat → Prop) (hv : MV w X v t) (hu : MV w Y u t) :
    Calls Tryd.prog 15 #[v, .int .i64 0, u, .int .i64 0] w fun e w' => e = .returned (.bool true) ∧ Below w.heap.size w w' := by
  obtain ⟨a, c, rfl, hs⟩ := hv
  obtain ⟨a2, c2, rfl, hs2⟩ := hu
  have HV := hide (show MV w X (.agg #[.int .i64 t.kind, .int .i64 t.idx, .slice a t.subs.length c]) t from ⟨a, c, rfl, hs⟩)
  have HU := hide (show MV w Y (.agg #[.int .i64 t.kind, .int .i64 t.idx, .slice a2 t.subs.length c2]) t from ⟨a2, c2, rfl, hs2⟩)
  clear hs hs2
  go_enter Tryd.func15, Tryd.ntmps15
  go_wp2_with fail
  refine (sameM_any t _ _ _ X Y (by exact HV.out.later (below2M _ _)) (by exact HU.out.later (below2M _ _))).mono ?_
  rintro e w1 ⟨rfl, hb1⟩
  go_wp2_with fail
  go_ret
  exact ⟨rfl, (below2M _ _).trans (hb1.mono (by simp; omega))⟩

set_option maxHeartbeats 1000000 in
theorem lam2_err (f : Int) (u : Value) (k2 x2 : Int) (a2 : Option Addr) (n2 c2 : Nat) (hu : u = .agg #[.int .i64 k2, .int .i64 x2, .slice a2 n2 c2]) (w : World) (hf : f ≠ 0) :
    Calls Tryd.prog 15 #[zeroM, .int .i64 f, u, .int .i64 f] w fun e w' => e = .returned (.bool true) ∧ Below w.heap.size w w' := by
  subst hu
  unfold zeroM
  have hf' : (f == 0) = false := by simpa using hf
  go_enter Tryd.func15, Tryd.ntmps15
  go_wp2_with fail
  go_ret
  exact ⟨rfl, below2M _ _⟩
#print axioms lam2_ok
#print axioms lam2_err
end Go.Proofs.YtagffgabceodfaaDoor

/- Walks: lambda terms are made. -/
namespace Go.Proofs.YtagffgabceodfaaDoor
open Go.RowKit
set_option linter.unusedSimpArgs false
set_option linter.unusedVariables false
set_option maxRecDepth 8000

set_option maxHeartbeats 1000000 in
theorem varQ_any (x : Int) (w : World) : Calls Tryd.prog 60 #[.int .i64 x] w fun e w' => e = .returned (.agg #[.int .i64 1, .int .i64 x, .slice none 0 0]) ∧ Below w.heap.size w w' := by
  go_enter Tryd.func60, Tryd.ntmps60
  go_wp2_with fail
  refine bodyPost_ret (v := .agg #[.int .i64 1, .int .i64 x, .slice none 0 0]) (by simp [results, Tryd.results60, go_sem, World.cell?_setCell_same, World.cell?_setCell_other]) rfl ?_
  exact ⟨rfl, by first | exact Below.refl _ _ | exact (Below.refl _ _).alloc (Nat.le_refl _) _⟩
set_option maxHeartbeats 1000000 in
theorem conQ_any (x : Int) (w : World) : Calls Tryd.prog 61 #[.int .i64 x] w fun e w' => e = .returned (.agg #[.int .i64 4, .int .i64 x, .slice none 0 0]) ∧ Below w.heap.size w w' := by
  go_enter Tryd.func61, Tryd.ntmps61
  go_wp2_with fail
  refine bodyPost_ret (v := .agg #[.int .i64 4, .int .i64 x, .slice none 0 0]) (by simp [results, Tryd.results61, go_sem, World.cell?_setCell_same, World.cell?_setCell_other]) rfl ?_
  exact ⟨rfl, by first | exact Below.refl _ _ | exact (Below.refl _ _).alloc (Nat.le_refl _) _⟩
set_option maxHeartbeats 1000000 in
theorem appQ_any (f x : Lm) (fv xv : Value) (w : World) (X : Nat → Prop) (hf : MV w X fv f) (hx : MV w X xv x) :
    Calls Tryd.prog 58 #[fv, xv] w fun e w' => ∃ a c, e = .returned (.agg #[.int .i64 3, .int .i64 0, .slice a 2 c]) ∧ SlM w' (fun b => X b ∨ w.heap.size ≤ b) a [f, x] ∧ Below w.heap.size w w' := by
  obtain ⟨af, cf, rfl, hs⟩ := hf
  obtain ⟨ax, cx, rfl, hs2⟩ := hx
  have HS := hide hs
  have HS2 := hide hs2
  clear hs hs2
  have HB : Hid (Below w.heap.size w ((((w.alloc (.cells #[.int .i64 f.kind, .int .i64 f.idx, .slice af f.subs.length cf] 24)).alloc (.cells #[.int .i64 x.kind, .int .i64 x.idx, .slice ax x.subs.length cx] 24)).alloc (.cells #[.int .i64 3, .int .i64 0, .slice (some ⟨w.heap.size + 1 + 1 + 1, 0, none⟩) 2 2] 24)).alloc (.cells #[.int .i64 f.kind, .int .i64 f.idx, .slice af f.subs.length cf, .int .i64 x.kind, .int .i64 x.idx, .slice ax x.subs.length cx] 24))) := (((below2M _ _).alloc (by simp; omega) _).alloc (by simp; omega) _)
  have q0 : Blk ((((w.alloc (.cells #[.int .i64 f.kind, .int .i64 f.idx, .slice af f.subs.length cf] 24)).alloc (.cells #[.int .i64 x.kind, .int .i64 x.idx, .slice ax x.subs.length cx] 24)).alloc (.cells #[.int .i64 3, .int .i64 0, .slice (some ⟨w.heap.size + 1 + 1 + 1, 0, none⟩) 2 2] 24)).alloc (.cells #[.int .i64 f.kind, .int .i64 f.idx, .slice af f.subs.length cf, .int .i64 x.kind, .int .i64 x.idx, .slice ax x.subs.length cx] 24)) (w.heap.size + 1 + 1) #[.int .i64 3, .int .i64 0, .slice (some ⟨w.heap.size + 1 + 1 + 1, 0, none⟩) 2 2] 24 := by
    have h := (Blk.new ((w.alloc (.cells #[.int .i64 f.kind, .int .i64 f.idx, .slice af f.subs.length cf] 24)).alloc (.cells #[.int .i64 x.kind, .int .i64 x.idx, .slice ax x.subs.length cx] 24)) #[.int .i64 3, .int .i64 0, .slice (some ⟨w.heap.size + 1 + 1 + 1, 0, none⟩) 2 2] 24).alloc (.cells #[.int .i64 f.kind, .int .i64 f.idx, .slice af f.subs.length cf, .int .i64 x.kind, .int .i64 x.idx, .slice ax x.subs.length cx] 24)
    simpa using h
  have HQ : Hid (Blk ((((w.alloc (.cells #[.int .i64 f.kind, .int .i64 f.idx, .slice af f.subs.length cf] 24)).alloc (.cells #[.int .i64 x.kind, .int .i64 x.idx, .slice ax x.subs.length cx] 24)).alloc (.cells #[.int .i64 3, .int .i64 0, .slice (some ⟨w.heap.size + 1 + 1 + 1, 0, none⟩) 2 2] 24)).alloc (.cells #[.int .i64 f.kind, .int .i64 f.idx, .slice af f.subs.length cf, .int .i64 x.kind, .int .i64 x.idx, .slice ax x.subs.length cx] 24)) (w.heap.size + 1 + 1 + 1) #[.int .i64 f.kind, .int .i64 f.idx, .slice af f.subs.length cf, .int .i64 x.kind, .int .i64 x.idx, .slice ax x.subs.length cx] 24) := by
    have h := Blk.new (((w.alloc (.cells #[.int .i64 f.kind, .int .i64 f.idx, .slice af f.subs.length cf] 24)).alloc (.cells #[.int .i64 x.kind, .int .i64 x.idx, .slice ax x.subs.length cx] 24)).alloc (.cells #[.int .i64 3, .int .i64 0, .slice (some ⟨w.heap.size + 1 + 1 + 1, 0, none⟩) 2 2] 24)) #[.int .i64 f.kind, .int .i64 f.idx, .slice af f.subs.length cf, .int .i64 x.kind, .int .i64 x.idx, .slice ax x.subs.length cx] 24
    unfold Hid
    simpa using h
  have c0 := q0.cell 0
  have c1 := q0.cell 1
  have c2 := q0.cell 2
  simp only [List.getElem?_toArray, List.getElem?_cons_succ, List.getElem?_cons_zero] at c0 c1 c2
  clear q0
  go_enter Tryd.func58, Tryd.ntmps58
  go_wp2_with fail
  refine bodyPost_ret (v := .agg #[.int .i64 3, .int .i64 0, .slice (some ⟨w.heap.size + 1 + 1 + 1, 0, none⟩) 2 2]) (by simp [results, Tryd.results58, go_sem, c0, c1, c2]) rfl ?_
  refine ⟨_, _, rfl, ⟨by simp, Or.inr ⟨_, _, rfl, ?_⟩⟩, HB.out⟩
  have h1 : SlM ((((w.alloc (.cells #[.int .i64 f.kind, .int .i64 f.idx, .slice af f.subs.length cf] 24)).alloc (.cells #[.int .i64 x.kind, .int .i64 x.idx, .slice ax x.subs.length cx] 24)).alloc (.cells #[.int .i64 3, .int .i64 0, .slice (some ⟨w.heap.size + 1 + 1 + 1, 0, none⟩) 2 2] 24)).alloc (.cells #[.int .i64 f.kind, .int .i64 f.idx, .slice af f.subs.length cf, .int .i64 x.kind, .int .i64 x.idx, .slice ax x.subs.length cx] 24)) (fun b => X b ∨ w.heap.size ≤ b) af f.subs := (HS.out.later HB.out).mono fun b h _ => Or.inl h
  have h2 : SlM ((((w.alloc (.cells #[.int .i64 f.kind, .int .i64 f.idx, .slice af f.subs.length cf] 24)).alloc (.cells #[.int .i64 x.kind, .int .i64 x.idx, .slice ax x.subs.length cx] 24)).alloc (.cells #[.int .i64 3, .int .i64 0, .slice (some ⟨w.heap.size + 1 + 1 + 1, 0, none⟩) 2 2] 24)).alloc (.cells #[.int .i64 f.kind, .int .i64 f.idx, .slice af f.subs.length cf, .int .i64 x.kind, .int .i64 x.idx, .slice ax x.subs.length cx] 24)) (fun b => X b ∨ w.heap.size ≤ b) ax x.subs := (HS2.out.later HB.out).mono fun b h _ => Or.inl h
  obtain ⟨kf, xf, lf⟩ := f
  obtain ⟨kx, xx, lx⟩ := x
  simp only [LiesM]
  exact ⟨Or.inr (by omega), HQ.out.cell 0, HQ.out.cell 1, ⟨af, cf, HQ.out.cell 2, h1⟩, Or.inr (by omega), HQ.out.cell 3, HQ.out.cell 4, ⟨ax, cx, HQ.out.cell 5, h2⟩, trivial⟩
set_option maxHeartbeats 1000000 in
theorem funQ_any (x : Lm) (xv : Value) (w : World) (X : Nat → Prop) (hx : MV w X xv x) :
    Calls Tryd.prog 56 #[xv] w fun e w' => ∃ a c, e = .returned (.agg #[.int .i64 2, .int .i64 0, .slice a 1 c]) ∧ SlM w' (fun b => X b ∨ w.heap.size ≤ b) a [x] ∧ Below w.heap.size w w' := by
  obtain ⟨ax, cx, rfl, hs2⟩ := hx
  have HS2 := hide hs2
  clear hs2
  have HB : Hid (Below w.heap.size w (((w.alloc (.cells #[.int .i64 x.kind, .int .i64 x.idx, .slice ax x.subs.length cx] 24)).alloc (.cells #[.int .i64 2, .int .i64 0, .slice (some ⟨w.heap.size + 1 + 1, 0, none⟩) 1 1] 24)).alloc (.cells #[.int .i64 x.kind, .int .i64 x.idx, .slice ax x.subs.length cx] 24))) := (below2M _ _).alloc (by simp; omega) _
  have q0 : Blk (((w.alloc (.cells #[.int .i64 x.kind, .int .i64 x.idx, .slice ax x.subs.length cx] 24)).alloc (.cells #[.int .i64 2, .int .i64 0, .slice (some ⟨w.heap.size + 1 + 1, 0, none⟩) 1 1] 24)).alloc (.cells #[.int .i64 x.kind, .int .i64 x.idx, .slice ax x.subs.length cx] 24)) (w.heap.size + 1) #[.int .i64 2, .int .i64 0, .slice (some ⟨w.heap.size + 1 + 1, 0, none⟩) 1 1] 24 := by
    have h := (Blk.new (w.alloc (.cells #[.int .i64 x.kind, .int .i64 x.idx, .slice ax x.subs.length cx] 24)) #[.int .i64 2, .int .i64 0, .slice (some ⟨w.heap.size + 1 + 1, 0, none⟩) 1 1] 24).alloc (.cells #[.int .i64 x.kind, .int .i64 x.idx, .slice ax x.subs.length cx] 24)
    simpa using h
  have HQ : Hid (Blk (((w.alloc (.cells #[.int .i64 x.kind, .int .i64 x.idx, .slice ax x.subs.length cx] 24)).alloc (.cells #[.int .i64 2, .int .i64 0, .slice (some ⟨w.heap.size + 1 + 1, 0, none⟩) 1 1] 24)).alloc (.cells #[.int .i64 x.kind, .int .i64 x.idx, .slice ax x.subs.length cx] 24)) (w.heap.size + 1 + 1) #[.int .i64 x.kind, .int .i64 x.idx, .slice ax x.subs.length cx] 24) := by
    have h := Blk.new ((w.alloc (.cells #[.int .i64 x.kind, .int .i64 x.idx, .slice ax x.subs.length cx] 24)).alloc (.cells #[.int .i64 2, .int .i64 0, .slice (some ⟨w.heap.size + 1 + 1, 0, none⟩) 1 1] 24)) #[.int .i64 x.kind, .int .i64 x.idx, .slice ax x.subs.length cx] 24
    unfold Hid
    simpa using h
  have c0 := q0.cell 0
  have c1 := q0.cell 1
  have c2 := q0.cell 2
  simp only [List.getElem?_toArray, List.getElem?_cons_succ, List.getElem?_cons_zero] at c0 c1 c2
  clear q0
  go_enter Tryd.func56, Tryd.ntmps56
  go_wp2_with fail
  refine bodyPost_ret (v := .agg #[.int .i64 2, .int .i64 0, .slice (some ⟨w.heap.size + 1 + 1, 0, none⟩) 1 1]) (by simp [results, Tryd.results56, go_sem, c0, c1, c2]) rfl ?_
  refine ⟨_, _, rfl, ⟨by simp, Or.inr ⟨_, _, rfl, ?_⟩⟩, HB.out⟩
  have h2 : SlM (((w.alloc (.cells #[.int .i64 x.kind, .int .i64 x.idx, .slice ax x.subs.length cx] 24)).alloc (.cells #[.int .i64 2, .int .i64 0, .slice (some ⟨w.heap.size + 1 + 1, 0, none⟩) 1 1] 24)).alloc (.cells #[.int .i64 x.kind, .int .i64 x.idx, .slice ax x.subs.length cx] 24)) (fun b => X b ∨ w.heap.size ≤ b) ax x.subs := (HS2.out.later HB.out).mono fun b h _ => Or.inl h
  obtain ⟨kx, xx, lx⟩ := x
  simp only [LiesM]
  exact ⟨Or.inr (by omega), HQ.out.cell 0, HQ.out.cell 1, ⟨ax, cx, HQ.out.cell 2, h2⟩, trivial⟩
#print axioms appQ_any
#print axioms funQ_any
end Go.Proofs.YtagffgabceodfaaDoor

/- Walks: the document's reader of lambda terms: a piece. -/
namespace Go.Proofs.YtagffgabceodfaaDoor
open Go.RowKit
set_option linter.unusedSimpArgs false
set_option linter.unusedVariables false
set_option maxRecDepth 8000

theorem Ex.ofBelow {B : Nat} {w w' : World} (h : Below w.heap.size w w') : Ex B w w' := ⟨h.os, h.tape, h.output, h.size, fun k hk _ => h.block k hk⟩
theorem Ex.on {B : Nat} {a w w' : World} (h : Ex B a w) (hb : Below w.heap.size w w') : Ex B a w' := h.trans (Ex.ofBelow hb)
theorem Ds.later {w w' : World} {B : Nat} {i k e : Int} {s : ByteArray} (h : Ds w B s i k e) (hb : Below w.heap.size w w') : Ds w' B s i k e := Blk.below h hb (Blk.lt h)
theorem Ds.alloc {w : World} {B : Nat} {i k e : Int} {s : ByteArray} (h : Ds w B s i k e) (o : Obj) : Ds (w.alloc o) B s i k e := Blk.alloc h o
theorem LV.exL {w w' : World} {B : Nat} {Y : Nat → Prop} {v : Value} {l : List ByteArray} (h : LV Value.string w Y v l) (he : Ex B w w') (hY : ∀ b, Y b → b ≠ B) : LV Value.string w' Y v l :=
  ((h.mono (Y := fun b => Y b ∧ b < w.heap.size) fun b h1 h2 => ⟨h1, h2⟩).kept fun b hb => he.block b hb.2 (hY b hb.1)).mono fun b hb _ => hb.1

theorem SlM.exL {w w' : World} {F : Nat} {X : Nat → Prop} {a : Option Addr} {l : List Lm} (h : SlM w X a l) (he : Ex F w w') (hX : ∀ b, X b → b ≠ F) : SlM w' X a l :=
  ((h.mono (Y := fun b => X b ∧ b < w.heap.size) fun b h1 h2 => ⟨h1, h2⟩).kept fun b hb => he.block b hb.2 (hX b hb.1)).mono fun b hb _ => hb.1

/-- What the document's reading does. -/
def DrP (B : Nat) (w : World) (s : ByteArray) (r : Lrd) (e : Ending) (w' : World) : Prop :=
  ∃ (a : Option Addr) (c : Nat) (t' : Lm) (i' k' : Int), e = .returned (.agg #[.int .i64 t'.kind, .int .i64 t'.idx, .slice a t'.subs.length c]) ∧ SlM w' (fun b => w.heap.size ≤ b) a t'.subs ∧ Ds w' B s i' k' r.err ∧ (r.err = 0 → t' = r.t ∧ i' = r.pos ∧ k' = r.k) ∧ Ex B w w'
theorem slM_nil (w : World) (X : Nat → Prop) (a : Option Addr) : SlM w X a [] := ⟨by simp, Or.inl rfl⟩
theorem drP_end {w W : World} {B : Nat} {s : ByteArray} {r : Lrd} {a : Option Addr} {c : Nat} {t' : Lm} {i' k' : Int} {v0 v1 v2 : Value} (hB : B < w.heap.size) (hs : SlM W (fun b => w.heap.size < b) a t'.subs) (hd : Ds W B s i' k' r.err) (hr : r.err = 0 → t' = r.t ∧ i' = r.pos ∧ k' = r.k) (hx : Ex B w W) :
    DrP B w s r (.returned (.agg #[.int .i64 t'.kind, .int .i64 t'.idx, .slice a t'.subs.length c])) (((W.setCell ⟨w.heap.size, 0, none⟩ v0).setCell ⟨w.heap.size, 1, none⟩ v1).setCell ⟨w.heap.size, 2, none⟩ v2) := by
  refine ⟨a, c, t', i', k', rfl, (hs.kept fun b hb => ?_).mono fun b hb _ => Nat.le_of_lt hb, lt_set3o hd (by omega) _ _ _, hr, ((hx.setNew (Nat.le_refl _) _ _).setNew (Nat.le_refl _) _ _).setNew (Nat.le_refl _) _ _⟩
  rw [Below.heap_setCell _ _ _ _ (by simp; omega), Below.heap_setCell _ _ _ _ (by simp; omega), Below.heap_setCell _ _ _ _ (by simp; omega)]
theorem drP_no {w W : World} {B : Nat} {s : ByteArray} {r : Lrd} {i' k' z : Int} {v0 v1 v2 : Value} (hB : B < w.heap.size) (hr : r = noLr z) (hz : z ≠ 0) (hd : Ds W B s i' k' z) (hx : Ex B w W) :
    DrP B w s r (.returned (.agg #[.int .i64 0, .int .i64 0, .slice none 0 0])) (((W.setCell ⟨w.heap.size, 0, none⟩ v0).setCell ⟨w.heap.size, 1, none⟩ v1).setCell ⟨w.heap.size, 2, none⟩ v2) := by
  subst hr
  exact drP_end (t' := ⟨0, 0, []⟩) hB (slM_nil _ _ _) hd (fun h => absurd h hz) hx

def DTerm (B : Nat) (s : ByteArray) (F : Nat) : Prop := ∀ (nm : List ByteArray) (na : Option Addr) (nc i k : Nat) (w : World) (Y : Nat → Prop), Ds w B s i k 0 → LV Value.string w Y (.slice na nm.length nc) nm → (∀ b, Y b → b ≠ B) → nm.length ≤ 100 + k → i ≤ s.size → k ≤ 200 → 3 * (s.size - i) + 3 ≤ F →
  Calls Tryd.prog 34 #[.pointer (some ⟨B, 0, none⟩), .slice na nm.length nc] w fun e w' => DrP B w s (lrd s F .term nm i k) e w'
def DPiece (B : Nat) (s : ByteArray) (F : Nat) : Prop := ∀ (nm : List ByteArray) (na : Option Addr) (nc i k : Nat) (w : World) (Y : Nat → Prop), Ds w B s i k 0 → LV Value.string w Y (.slice na nm.length nc) nm → (∀ b, Y b → b ≠ B) → nm.length ≤ 100 + k → i ≤ s.size → k ≤ 200 → 3 * (s.size - i) + 2 ≤ F →
  Calls Tryd.prog 57 #[.pointer (some ⟨B, 0, none⟩), .slice na nm.length nc] w fun e w' => DrP B w s (lrd s F .piece nm i k) e w'

/-- With an error nothing is read. -/
theorem piece_err (B : Nat) (s : ByteArray) (v : Value) (i k e : Int) (he : e ≠ 0) (w : World) (h : Ds w B s i k e) :
    Calls Tryd.prog 57 #[.pointer (some ⟨B, 0, none⟩), v] w fun e w' => e = .returned (.agg #[.int .i64 0, .int .i64 0, .slice none 0 0]) ∧ Below w.heap.size w w' := by
  have c3 : ∀ o, (w.alloc o).cell? ⟨B, 3, none⟩ = some (.int .i64 e) := fun o => (h.alloc o).c3
  have he2 : (e != 0) = true := by simpa using he
  clear h
  go_enter Tryd.func57, Tryd.ntmps57
  go_wp2_with fail
  refine bodyPost_ret (v := .agg #[.int .i64 0, .int .i64 0, .slice none 0 0]) (by simp [results, Tryd.results57, go_sem, World.cell?_setCell_same, World.cell?_setCell_other]) rfl ?_
  exact ⟨rfl, by first | exact (Below.refl _ _).alloc (Nat.le_refl _) _ | exact ((((Below.refl _ _).alloc (Nat.le_refl _) _).setCell (by simp) _).setCell (by simp) _).setCell (by simp) _⟩
theorem term_err (B : Nat) (s : ByteArray) (v : Value) (i k e : Int) (he : e ≠ 0) (w : World) (h : Ds w B s i k e) :
    Calls Tryd.prog 34 #[.pointer (some ⟨B, 0, none⟩), v] w fun e w' => e = .returned (.agg #[.int .i64 0, .int .i64 0, .slice none 0 0]) ∧ Below w.heap.size w w' := by
  have c3 : ∀ o, (w.alloc o).cell? ⟨B, 3, none⟩ = some (.int .i64 e) := fun o => (h.alloc o).c3
  have he2 : (e != 0) = true := by simpa using he
  clear h
  go_enter Tryd.func34, Tryd.ntmps34
  go_wp2_with fail
  refine bodyPost_ret (v := .agg #[.int .i64 0, .int .i64 0, .slice none 0 0]) (by simp [results, Tryd.results34, go_sem, World.cell?_setCell_same, World.cell?_setCell_other]) rfl ?_
  exact ⟨rfl, by first | exact (Below.refl _ _).alloc (Nat.le_refl _) _ | exact ((((Below.refl _ _).alloc (Nat.le_refl _) _).setCell (by simp) _).setCell (by simp) _).setCell (by simp) _⟩

set_option maxHeartbeats 4000000 in
theorem dpiece_of (B : Nat) (s : ByteArray) (hs : s.size ≤ 4000) (F : Nat) (hT : DTerm B s F) : DPiece B s (F + 1) := by
  intro nm na nc i k w Y h hn hY hl hi hk hF
  have HT := hide hT
  have HN := hide hn
  have HY := hide hY
  have hB := h.lt
  have HRD := hide (lrd_piece s F nm i k)
  generalize lrd s (F + 1) .piece nm i k = r at *
  have c3 : ∀ o, (w.alloc o).cell? ⟨B, 3, none⟩ = some (.int .i64 0) := fun o => (h.alloc o).c3
  have D0 := hide (h.alloc (.cells #[.int .i64 0, .int .i64 0, .slice none 0 0] 24))
  have R0 := hide (Blk.new w #[.int .i64 0, .int .i64 0, .slice none 0 0] 24)
  have E0 := hide ((Ex.refl B w).alloc (.cells #[.int .i64 0, .int .i64 0, .slice none 0 0] 24))
  clear h hn hY hT
  go_enter Tryd.func57, Tryd.ntmps57
  go_wp2_with fail
  clear c3
  have hz0 : (w.alloc (.cells #[.int .i64 0, .int .i64 0, .slice none 0 0] 24)).heap.size = w.heap.size + 1 := by simp
  generalize w.alloc (.cells #[.int .i64 0, .int .i64 0, .slice none 0 0] 24) = w0 at *
  refine (is_any B i k 0 40 s w0 D0.out hs (by omega)).mono ?_
  rintro e w1 ⟨rfl, n1, rfl⟩
  have D1 := hide (D0.out.drewN n1)
  have R1 := hide (R0.out.drewN n1)
  have E1 := hide (E0.out.drewN n1)
  have hz1 : (w0.drewN n1).heap.size = w.heap.size + 1 := hz0
  generalize w0.drewN n1 = w1 at *
  clear D0 R0 E0 hz0
  by_cases hp : i < s.size ∧ byteAt s i = 40
  · rw [show isB s i 40 = true from decide_eq_true hp]
    have HR1 := hide ((HRD.out).trans (if_pos hp))
    have hi1 := hp.1
    clear HRD hp
    have c1 := D1.out.c1
    have cf := Blk.frozen D1.out
    go_wp2_with fail
    have D2 : Hid (Ds (w1.setCell ⟨B, 1, none⟩ (.int .i64 ((i : Int) + 1))) B s ((i + 1 : Nat) : Int) k 0) := D1.out.at _
    have E2 := hide (E1.out.set 1 (.int .i64 ((i : Int) + 1)))
    have R2 := hide (R1.out.setOther (b' := B) 1 (.int .i64 ((i : Int) + 1)) (by omega))
    have hz2 : (w1.setCell ⟨B, 1, none⟩ (.int .i64 ((i : Int) + 1))).heap.size = w.heap.size + 1 := by simp [hz1]
    clear c1 cf
    generalize w1.setCell ⟨B, 1, none⟩ (.int .i64 ((i : Int) + 1)) = w2 at *
    clear D1 E1 R1 hz1
    refine (HT.out nm na nc (i + 1) k w2 Y D2.out (HN.out.exL E2.out HY.out) HY.out hl (by omega) hk (by omega)).mono ?_
    rintro e w3 ⟨a, c, t', i', k', rfl, hs3, hd3, hr3, hx3⟩
    have hpos := hide (lrd_pos s F .term nm (i + 1) k)
    generalize lrd s F .term nm (i + 1) k = q at *
    have hz3 := hx3.size
    have E3 := hide (E2.out.trans hx3)
    have R3 := hide (R2.out.ex hx3 (by omega))
    have S3 := hide (hs3.mono (Y := fun b => w.heap.size < b ∧ b < w3.heap.size) fun b h1 h2 => ⟨by omega, h2⟩)
    have D3 := hide hd3
    have HQ := hide hr3
    clear hs3 hd3 hr3 hx3 D2 E2 R2
    go_wp2_with fail
    have D4 : Hid (Ds (w3.alloc (.cells #[.int .i64 t'.kind, .int .i64 t'.idx, .slice a t'.subs.length c] 24)) B s i' k' q.err) := D3.out.alloc _
    have E4 := hide (E3.out.alloc (.cells #[.int .i64 t'.kind, .int .i64 t'.idx, .slice a t'.subs.length c] 24))
    have R4 := hide (R3.out.alloc (.cells #[.int .i64 t'.kind, .int .i64 t'.idx, .slice a t'.subs.length c] 24))
    have T4 := hide (Blk.new w3 #[.int .i64 t'.kind, .int .i64 t'.idx, .slice a t'.subs.length c] 24)
    have S4 := hide (S3.out.later ((Below.refl _ _).alloc (Nat.le_refl _) (.cells #[.int .i64 t'.kind, .int .i64 t'.idx, .slice a t'.subs.length c] 24)))
    generalize w3.alloc (.cells #[.int .i64 t'.kind, .int .i64 t'.idx, .slice a t'.subs.length c] 24) = w4 at *
    generalize hT3 : w3.heap.size = T at *
    clear hT3 D3 E3 R3 S3
    by_cases hq : q.err = 0
    · obtain ⟨rfl, rfl, rfl⟩ := HQ.out hq
      have HP := hpos.out hq (by omega) hk
      have HQ0 := hide hq
      have HR2 := hide ((HR1.out).trans (if_neg (by rw [hq]; simp)))
      clear HQ hpos
      rw [hq] at D4
      refine (want_any B q.pos q.k 41 s w4 D4.out HP.2.1 hs).mono ?_
      rintro e w5 ⟨rfl, hd5, hx5, hz5⟩
      have R5 := R4.out.ex hx5 (by omega)
      have T5 := T4.out.ex hx5 (by omega)
      have S5 := hide (S4.out.exL hx5 (fun b hb => by omega))
      have E5 := hide (E4.out.trans hx5)
      have D5 := hide hd5
      have r0 := R5.cell 0
      have r1 := R5.cell 1
      have r2 := R5.cell 2
      have rf := R5.frozen
      have t0 : w5.cell? ⟨T, 0, none⟩ = some (.int .i64 q.t.kind) := T5.cell 0
      have t1 : w5.cell? ⟨T, 1, none⟩ = some (.int .i64 q.t.idx) := T5.cell 1
      have t2 : w5.cell? ⟨T, 2, none⟩ = some (.slice a q.t.subs.length c) := T5.cell 2
      simp only [List.getElem?_toArray, List.getElem?_cons_zero, List.getElem?_cons_succ] at r0 r1 r2
      clear hd5 hx5 R4 T4 S4 E4 D4 R5 T5
      go_wp2_with fail
      refine bodyPost_ret (v := .agg #[.int .i64 q.t.kind, .int .i64 q.t.idx, .slice a q.t.subs.length c]) (by simp [results, Tryd.results57, go_sem, World.cell?_setCell_same, World.cell?_setCell_other, r0, r1, r2]) rfl ?_
      by_cases hw : askE s q.pos 41 = 0
      · have hrr : r = ⟨0, q.t, q.pos + 1, q.k⟩ := (HR2.out).trans (if_neg (by rw [hw]; simp))
        subst hrr
        refine drP_end (t' := q.t) hB (S5.out.mono fun b hb _ => hb.1) (by have := D5.out; rw [hw] at this; exact this) (fun _ => ⟨rfl, rfl, rfl⟩) E5.out
      · have hrr := (HR2.out).trans (if_pos hw)
        subst hrr
        exact drP_end (t' := q.t) hB (S5.out.mono fun b hb _ => hb.1) D5.out (fun h => absurd h hw) E5.out
    · have HR2 := hide ((HR1.out).trans (if_pos hq))
      refine (want_err B i' k' q.err 41 hq s w4 D4.out).mono ?_
      rintro e w5 ⟨rfl, rfl⟩
      have r0 := R4.out.cell 0
      have r1 := R4.out.cell 1
      have r2 := R4.out.cell 2
      have rf := R4.out.frozen
      have t0 : w5.cell? ⟨T, 0, none⟩ = some (.int .i64 t'.kind) := T4.out.cell 0
      have t1 : w5.cell? ⟨T, 1, none⟩ = some (.int .i64 t'.idx) := T4.out.cell 1
      have t2 : w5.cell? ⟨T, 2, none⟩ = some (.slice a t'.subs.length c) := T4.out.cell 2
      simp only [List.getElem?_toArray, List.getElem?_cons_zero, List.getElem?_cons_succ] at r0 r1 r2
      have HQE := hide hq
      clear hq
      go_wp2_with fail
      refine bodyPost_ret (v := .agg #[.int .i64 t'.kind, .int .i64 t'.idx, .slice a t'.subs.length c]) (by simp [results, Tryd.results57, go_sem, World.cell?_setCell_same, World.cell?_setCell_other, r0, r1, r2]) rfl ?_
      have hrr := HR2.out
      subst hrr
      exact drP_end (t' := t') hB (S4.out.mono fun b hb _ => hb.1) D4.out (fun h => absurd h HQE.out) E4.out
  · rw [show isB s i 40 = false from decide_eq_false hp]
    have HR1 := hide ((HRD.out).trans (if_neg hp))
    clear HRD hp
    go_wp2_with fail
    refine (name_anyD B i k s hi hs w1 D1.out).mono ?_
    rintro e w2 ⟨rfl, hd2, hx2, hz2⟩
    have D2 := hide hd2
    have E2 := hide (E1.out.trans hx2)
    have R2 := hide (R1.out.ex hx2 (by omega))
    have hz2' : w2.heap.size = w.heap.size + 1 := by omega
    clear hd2 hx2 D1 E1 R1
    by_cases hne : nameE s i = 0
    case neg =>
      have HRF := hide ((HR1.out).trans (if_pos hne))
      have HNE := hide hne
      have hne2 : (nameE s i != 0) = true := by simpa using hne
      have c3 := D2.out.c3
      have r0 := R2.out.cell 0
      have r1 := R2.out.cell 1
      have r2 := R2.out.cell 2
      have rf := R2.out.frozen
      simp only [List.getElem?_toArray, List.getElem?_cons_zero, List.getElem?_cons_succ] at r0 r1 r2
      clear hne
      go_wp2_with fail
      refine bodyPost_ret (v := .agg #[.int .i64 0, .int .i64 0, .slice none 0 0]) (by simp [results, Tryd.results57, go_sem, World.cell?_setCell_same, World.cell?_setCell_other, r0, r1, r2]) rfl ?_
      exact drP_no hB HRF.out HNE.out D2.out E2.out
    have HR2 := hide ((HR1.out).trans (if_neg (by rw [hne]; simp)))
    have HNM := nameE_go hne
    rw [hne] at D2
    have c3 := D2.out.c3
    clear HR1 hne
    go_wp2_with fail
    clear c3
    refine (knot_any B k _ s w2 D2.out (by omega)).mono ?_
    rintro e w3 ⟨rfl, hd3, hx3, hz3⟩
    have E3 := hide (E2.out.trans hx3)
    have R3 := hide (R2.out.ex hx3 (by omega))
    have N3 := hide (HN.out.exL E3.out HY.out)
    have hz3' : w3.heap.size = w.heap.size + 1 := by omega
    generalize hp0 : stopAt s i = p at *
    generalize hnn : s.extract i p = n at *
    have D3 := hide hd3
    clear hd3 hx3 D2 E2 R2 hz2 hz3
    have HL3 : nm.length ≤ 1000 := by omega
    go_wp2_with fail
    go_loopw [7] (fun v wr => ∃ m : Nat, v = .int .i64 ((m : Int) - 1) ∧ m ≤ nm.length ∧ wr = w3 ∧ ∀ j (h : j < nm.length), m ≤ j → nm[j] ≠ n) (fun v wr => (intOf v + 1).toNat)
    case atStart => exact ⟨nm.length, by go_num, Nat.le_refl _, rfl, fun j h1 h2 => by omega⟩
    case round =>
      obtain ⟨m, rfl, hm, rfl, hno⟩ := hrel
      have HNO := hide hno
      clear hno
      rcases m with _ | m
      · have HLN : Hid (lastN n nm = none) := lastN_none fun j hj => HNO.out j hj (Nat.zero_le _)
        go_wp2_with fail
        refine (constOf_any n _).mono ?_
        rintro e w4 ⟨rfl, hb4⟩
        have D4 := hide (D3.out.later hb4)
        have E4 := hide (E3.out.on hb4)
        have R4 := hide (R3.out.below hb4 R3.out.lt)
        have hz4 := hb4.size
        clear hb4 D3 E3 R3
        by_cases hk2 : 200 < k + 1
        · have hrr := (HR2.out).trans (if_pos hk2)
          rw [if_pos hk2] at D4
          have c3 := D4.out.c3
          subst hrr
          by_cases hc : conZ n < 0
          · have HC := hide hc
            go_wp2_with fail
            refine (conQ_any _ _).mono ?_
            rintro e w5 ⟨rfl, hb5⟩
            have D5 := hide (D4.out.later hb5)
            have E5 := hide ((E4.out).on hb5)
            have R5 := Blk.below R4.out hb5 (Blk.lt R4.out)
            have r0 := R5.cell 0
            have r1 := R5.cell 1
            have r2 := R5.cell 2
            have rf := R5.frozen
            simp only [List.getElem?_toArray, List.getElem?_cons_zero, List.getElem?_cons_succ] at r0 r1 r2
            clear hb5 R5
            go_wp2_with fail
            refine bodyPost_ret (v := .agg #[.int .i64 4, .int .i64 (conZ n), .slice none 0 0]) (by simp [results, Tryd.results57, go_sem, World.cell?_setCell_same, World.cell?_setCell_other, r0, r1, r2]) rfl ?_
            exact drP_end (t' := ⟨4, conZ n, []⟩) hB (slM_nil _ _ _) D5.out (fun h => absurd h (by decide)) E5.out
          · have HC := hide hc
            go_wp2_with fail
            refine (conQ_any _ _).mono ?_
            rintro e w5 ⟨rfl, hb5⟩
            have D5 := hide (D4.out.later hb5)
            have E5 := hide ((E4.out).on hb5)
            have R5 := Blk.below R4.out hb5 (Blk.lt R4.out)
            have r0 := R5.cell 0
            have r1 := R5.cell 1
            have r2 := R5.cell 2
            have rf := R5.frozen
            simp only [List.getElem?_toArray, List.getElem?_cons_zero, List.getElem?_cons_succ] at r0 r1 r2
            clear hb5 R5
            go_wp2_with fail
            refine bodyPost_ret (v := .agg #[.int .i64 4, .int .i64 (conZ n), .slice none 0 0]) (by simp [results, Tryd.results57, go_sem, World.cell?_setCell_same, World.cell?_setCell_other, r0, r1, r2]) rfl ?_
            exact drP_end (t' := ⟨4, conZ n, []⟩) hB (slM_nil _ _ _) D5.out (fun h => absurd h (by decide)) E5.out
        · have hrr := (HR2.out).trans (if_neg hk2)
          rw [if_neg hk2] at D4
          have c3 := D4.out.c3
          have cf := Blk.frozen D4.out
          unfold namedL at hrr
          rw [HLN.out] at hrr
          simp only at hrr
          by_cases hc : conZ n < 0
          · have hcn : conN n = none := by
              cases hq : conN n with
              | none => rfl
              | some c => unfold conZ at hc; rw [hq] at hc; simp only at hc; omega
            rw [hcn] at hrr
            subst hrr
            go_wp2_with fail
            have D4' := hide (D4.out.err 15)
            have E4' := hide (E4.out.set 3 (.int .i64 15))
            have R4' := hide (R4.out.setOther (b' := B) 3 (.int .i64 15) (by omega))
            generalize w4.setCell ⟨B, 3, none⟩ (.int .i64 15) = w4' at *
            clear c3 cf D4 E4 R4
            refine (conQ_any _ _).mono ?_
            rintro e w5 ⟨rfl, hb5⟩
            have D5 := hide (D4'.out.later hb5)
            have E5 := hide ((E4'.out).on hb5)
            have R5 := Blk.below R4'.out hb5 (Blk.lt R4'.out)
            have r0 := R5.cell 0
            have r1 := R5.cell 1
            have r2 := R5.cell 2
            have rf := R5.frozen
            simp only [List.getElem?_toArray, List.getElem?_cons_zero, List.getElem?_cons_succ] at r0 r1 r2
            clear hb5 R5
            go_wp2_with fail
            refine bodyPost_ret (v := .agg #[.int .i64 4, .int .i64 (conZ n), .slice none 0 0]) (by simp [results, Tryd.results57, go_sem, World.cell?_setCell_same, World.cell?_setCell_other, r0, r1, r2]) rfl ?_
            exact drP_end (t' := ⟨4, conZ n, []⟩) hB (slM_nil _ _ _) D5.out (fun h => absurd h (by decide)) E5.out
          · obtain ⟨c, hcn⟩ : ∃ c, conN n = some c := by
              cases hq : conN n with
              | none => unfold conZ at hc; rw [hq] at hc; simp at hc
              | some c => exact ⟨c, rfl⟩
            have HCZ : Hid (conZ n = c) := by unfold Hid conZ; rw [hcn]
            rw [hcn] at hrr
            simp only at hrr
            subst hrr
            go_wp2_with fail
            refine (conQ_any _ _).mono ?_
            rintro e w5 ⟨rfl, hb5⟩
            have D5 := hide (D4.out.later hb5)
            have E5 := hide ((E4.out).on hb5)
            have R5 := Blk.below R4.out hb5 (Blk.lt R4.out)
            have r0 := R5.cell 0
            have r1 := R5.cell 1
            have r2 := R5.cell 2
            have rf := R5.frozen
            simp only [List.getElem?_toArray, List.getElem?_cons_zero, List.getElem?_cons_succ] at r0 r1 r2
            clear hb5 R5
            go_wp2_with fail
            refine bodyPost_ret (v := .agg #[.int .i64 4, .int .i64 (conZ n), .slice none 0 0]) (by simp [results, Tryd.results57, go_sem, World.cell?_setCell_same, World.cell?_setCell_other, r0, r1, r2]) rfl ?_
            exact drP_end (t' := ⟨4, conZ n, []⟩) hB (slM_nil _ _ _) D5.out (fun _ => ⟨by rw [HCZ.out], rfl, rfl⟩) E5.out
      · obtain ⟨a2, c2, e2, _, h3⟩ := N3.out
        simp at e2
        obtain ⟨rfl, rfl⟩ := e2
        obtain ⟨bn, on, rfl, hYb, hc⟩ := h3.resolve_left (fun h => by rw [h] at hm; simp at hm)
        have hcm := hc m (by omega)
        have hxm := hide (show nm[m] = nm[m] from rfl)
        generalize hx : nm[m] = x at hcm
        have HX := hide hx
        clear hx hc h3 hxm
        have hidx : ((m : Int) < (nm.length : Int)) := by omega
        rw [show (((m + 1 : Nat) : Int) - 1) = (m : Int) from by omega]
        by_cases hxn : x = n
        · have HXN := hide hxn
          have hb2 : (x.toList == n.toList) = true := by rw [hxn]; simp
          have HLN : Hid (lastN n nm = some m) := lastN_is (by omega) (HX.out.trans hxn) (fun j hj hjm => HNO.out j hj (by omega))
          clear hxn
          go_wp2_with fail
          refine (varQ_any _ _).mono ?_
          rintro e w5 ⟨rfl, hb5⟩
          have D5 := hide (D3.out.later hb5)
          have E5 := hide (E3.out.on hb5)
          have R5 := R3.out.below hb5 R3.out.lt
          have r0 := R5.cell 0
          have r1 := R5.cell 1
          have r2 := R5.cell 2
          have rf := R5.frozen
          simp only [List.getElem?_toArray, List.getElem?_cons_zero, List.getElem?_cons_succ] at r0 r1 r2
          clear hb5 R5
          go_wp2_with fail
          refine bodyPost_ret (v := .agg #[.int .i64 1, .int .i64 ((nm.length : Int) - 1 - m), .slice none 0 0]) (by simp [results, Tryd.results57, go_sem, World.cell?_setCell_same, World.cell?_setCell_other, r0, r1, r2]) rfl ?_
          by_cases hk2 : 200 < k + 1
          · have hrr := (HR2.out).trans (if_pos hk2)
            rw [if_pos hk2] at D5
            subst hrr
            exact drP_end (t' := ⟨1, (nm.length : Int) - 1 - m, []⟩) hB (slM_nil _ _ _) D5.out (fun h => absurd h (by decide)) E5.out
          · have hrr := (HR2.out).trans (if_neg hk2)
            rw [if_neg hk2] at D5
            unfold namedL at hrr
            rw [HLN.out] at hrr
            simp only at hrr
            subst hrr
            exact drP_end (t' := ⟨1, (nm.length : Int) - 1 - m, []⟩) hB (slM_nil _ _ _) D5.out (fun _ => ⟨rfl, rfl, rfl⟩) E5.out
        · have HXN := hide hxn
          have hb2 : (x.toList == n.toList) = false := by
            rw [beq_eq_false_iff_ne]
            intro h1
            rw [ByteArray.toList_eq, ByteArray.toList_eq] at h1
            exact hxn (ByteArray.ext (Array.toList_inj.1 h1))
          clear hxn
          go_wp2_with fail
          go_roundw
          case rel => exact ⟨m, by go_num, by omega, by trivial, fun j hj hjm => by
            by_cases h : j = m
            · subst h; rw [HX.out]; exact HXN.out
            · exact HNO.out j hj (by omega)⟩
          case measure => simp [intOf] <;> omega
#print axioms dpiece_of
end Go.Proofs.YtagffgabceodfaaDoor

/- Walks: the document's reader of lambda terms: a term. -/
namespace Go.Proofs.YtagffgabceodfaaDoor
open Go.RowKit
set_option linter.unusedSimpArgs false
set_option linter.unusedVariables false
set_option maxRecDepth 8000

theorem name_all (B i : Nat) (k z : Int) (s : ByteArray) (hi : i ≤ s.size) (hs : s.size ≤ 4000) (w : World) (h : Ds w B s i k z) :
    Calls Tryd.prog 54 #[.pointer (some ⟨B, 0, none⟩)] w fun e w' => ∃ (n : ByteArray) (i' : Nat) (z' : Int), e = .returned (.string n) ∧ Ds w' B s i' k z' ∧ Ex B w w' ∧ w'.heap.size = w.heap.size ∧ i' ≤ s.size ∧ (z ≠ 0 → z' = z) ∧ (z = 0 → n = s.extract i (stopAt s i) ∧ i' = stopAt s i ∧ z' = nameE s i) := by
  by_cases hz : z = 0
  · subst hz
    refine (name_anyD B i k s hi hs w h).mono ?_
    rintro e w' ⟨rfl, hd, hx, hs'⟩
    exact ⟨_, _, _, rfl, hd, hx, hs', stopAt_le s hi, fun h => absurd rfl h, fun _ => ⟨rfl, rfl, rfl⟩⟩
  · refine (name_err B i k z hz s w h).mono ?_
    rintro e w' ⟨rfl, rfl⟩
    exact ⟨_, i, z, rfl, h, Ex.refl _ _, rfl, hi, fun _ => rfl, fun h => absurd h hz⟩
theorem want_all (B i : Nat) (k z c : Int) (s : ByteArray) (hi : i ≤ s.size) (hs : s.size ≤ 4000) (w : World) (h : Ds w B s i k z) :
    Calls Tryd.prog 55 #[.pointer (some ⟨B, 0, none⟩), .int .u8 c] w fun e w' => ∃ (i' : Nat) (z' : Int), e = .returned (.tuple #[]) ∧ Ds w' B s i' k z' ∧ Ex B w w' ∧ w'.heap.size = w.heap.size ∧ (z ≠ 0 → z' = z) ∧ (z = 0 → i' = i + 1 ∧ z' = askE s i c) := by
  by_cases hz : z = 0
  · subst hz
    refine (want_any B i k c s w h hi hs).mono ?_
    rintro e w' ⟨rfl, hd, hx, hs'⟩
    exact ⟨_, _, rfl, hd, hx, hs', fun h => absurd rfl h, fun _ => ⟨rfl, rfl⟩⟩
  · refine (want_err B i k z c hz s w h).mono ?_
    rintro e w' ⟨rfl, rfl⟩
    exact ⟨i, z, rfl, h, Ex.refl _ _, rfl, fun _ => rfl, fun h => absurd h hz⟩
def AllP (B : Nat) (w : World) (s : ByteArray) (z : Int) (q : Lrd) (e : Ending) (w' : World) : Prop :=
  ∃ (a : Option Addr) (c : Nat) (t' : Lm) (i' k' z' : Int), e = .returned (.agg #[.int .i64 t'.kind, .int .i64 t'.idx, .slice a t'.subs.length c]) ∧ SlM w' (fun b => w.heap.size ≤ b) a t'.subs ∧ Ds w' B s i' k' z' ∧ Ex B w w' ∧ (z ≠ 0 → z' = z) ∧ (z = 0 → z' = q.err ∧ (q.err = 0 → t' = q.t ∧ i' = q.pos ∧ k' = q.k))
theorem allP_of {B : Nat} {w w' : World} {s : ByteArray} {q : Lrd} {e : Ending} (h : DrP B w s q e w') : AllP B w s 0 q e w' := by
  obtain ⟨a, c, t', i', k', rfl, h1, h2, h3, h4⟩ := h
  exact ⟨a, c, t', i', k', _, rfl, h1, h2, h4, fun h => absurd rfl h, fun _ => ⟨rfl, h3⟩⟩
theorem allP_err {B : Nat} {w w' : World} {s : ByteArray} {q : Lrd} {i k z : Int} (hz : z ≠ 0) (h : Ds w B s i k z) (hb : Below w.heap.size w w') : AllP B w s z q (.returned (.agg #[.int .i64 0, .int .i64 0, .slice none 0 0])) w' :=
  ⟨none, 0, ⟨0, 0, []⟩, i, k, z, rfl, slM_nil _ _ _, h.later hb, Ex.ofBelow hb, fun _ => rfl, fun h => absurd h hz⟩
theorem term_all (B : Nat) (s : ByteArray) (F : Nat) (hT : DTerm B s F) (nm : List ByteArray) (na : Option Addr) (nc i k : Nat) (z : Int) (w : World) (Y : Nat → Prop) (h : Ds w B s i k z) (hn : LV Value.string w Y (.slice na nm.length nc) nm) (hY : ∀ b, Y b → b ≠ B) (hz : z = 0 → nm.length ≤ 100 + k ∧ i ≤ s.size ∧ k ≤ 200 ∧ 3 * (s.size - i) + 3 ≤ F) :
    Calls Tryd.prog 34 #[.pointer (some ⟨B, 0, none⟩), .slice na nm.length nc] w fun e w' => AllP B w s z (lrd s F .term nm i k) e w' := by
  by_cases h0 : z = 0
  · subst h0
    obtain ⟨g1, g2, g3, g4⟩ := hz rfl
    exact (hT nm na nc i k w Y h hn hY g1 g2 g3 g4).mono fun e w' h => allP_of h
  · refine (term_err B s _ i k z h0 w h).mono ?_
    rintro e w' ⟨rfl, hb⟩
    exact allP_err h0 h hb
theorem piece_all (B : Nat) (s : ByteArray) (F : Nat) (hT : DPiece B s F) (nm : List ByteArray) (na : Option Addr) (nc i k : Nat) (z : Int) (w : World) (Y : Nat → Prop) (h : Ds w B s i k z) (hn : LV Value.string w Y (.slice na nm.length nc) nm) (hY : ∀ b, Y b → b ≠ B) (hz : z = 0 → nm.length ≤ 100 + k ∧ i ≤ s.size ∧ k ≤ 200 ∧ 3 * (s.size - i) + 2 ≤ F) :
    Calls Tryd.prog 57 #[.pointer (some ⟨B, 0, none⟩), .slice na nm.length nc] w fun e w' => AllP B w s z (lrd s F .piece nm i k) e w' := by
  by_cases h0 : z = 0
  · subst h0
    obtain ⟨g1, g2, g3, g4⟩ := hz rfl
    exact (hT nm na nc i k w Y h hn hY g1 g2 g3 g4).mono fun e w' h => allP_of h
  · refine (piece_err B s _ i k z h0 w h).mono ?_
    rintro e w' ⟨rfl, hb⟩
    exact allP_err h0 h hb

/-- How much is still to come. -/
def mD (w : World) (B n : Nat) : Nat := match w.cell? ⟨B, 3, none⟩ with
  | some (.int _ 0) => n + 1 - rdAtL w B
  | _ => 0
theorem mD_ok {w : World} {B j n : Nat} {k : Int} {s : ByteArray} (h : Ds w B s j k 0) : mD w B n = n + 1 - j := by unfold mD; rw [h.c3]; simp only; rw [h.pos]
theorem mD_err {w : World} {B n : Nat} {i k z : Int} {s : ByteArray} (hz : z ≠ 0) (h : Ds w B s i k z) : mD w B n = 0 := by
  unfold mD; rw [h.c3]
  split
  · rename_i he
    simp at he
    exact absurd he.2 hz
  · rfl
/-- A binder: what it comes to. -/
theorem bind_round {s : ByteArray} {F : Nat} {nm : List ByteArray} {i k : Nat} {r : Lrd} {z1 z2 z3 z4 : Int} {n : ByteArray} {i2 i3 : Nat} {t' : Lm} {i' k' : Int} (hr : r = bndL s F nm i k) (h1 : z1 = if 200 < k + 1 then 3 else 0)
    (h2e : z1 ≠ 0 → z2 = z1) (h2o : z1 = 0 → n = s.extract i (stopAt s i) ∧ i2 = stopAt s i ∧ z2 = nameE s i) (h3e : z2 ≠ 0 → z3 = z2) (h3o : z2 = 0 → i3 = i2 + 1 ∧ z3 = askE s i2 46)
    (h4e : z3 ≠ 0 → z4 = z3) (h4o : z3 = 0 → z4 = (lrd s F .term (nm ++ [n]) i3 (k + 1)).err ∧ ((lrd s F .term (nm ++ [n]) i3 (k + 1)).err = 0 → t' = (lrd s F .term (nm ++ [n]) i3 (k + 1)).t ∧ i' = (lrd s F .term (nm ++ [n]) i3 (k + 1)).pos ∧ k' = (lrd s F .term (nm ++ [n]) i3 (k + 1)).k)) :
    r.err = z4 ∧ (r.err = 0 → (⟨2, 0, [t']⟩ : Lm) = r.t ∧ i' = r.pos ∧ k' = r.k) := by
  unfold bndL at hr
  by_cases c1 : 200 < k + 1
  · rw [if_pos c1] at hr h1
    subst h1
    have e2 := h2e (by decide)
    have e3 := h3e (by rw [e2]; decide)
    have e4 := h4e (by rw [e3, e2]; decide)
    rw [e3, e2] at e4
    rw [hr, e4]
    exact ⟨rfl, fun h => absurd h (by decide)⟩
  rw [if_neg c1] at hr h1
  obtain ⟨rfl, rfl, e2⟩ := h2o h1
  by_cases c2 : nameE s i ≠ 0
  · rw [if_pos c2] at hr
    have e3 := h3e (by rw [e2]; exact c2)
    have e4 := h4e (by rw [e3, e2]; exact c2)
    rw [hr, e4, e3, e2]
    exact ⟨rfl, fun h => absurd h c2⟩
  rw [if_neg c2] at hr
  obtain ⟨rfl, e3⟩ := h3o (by rw [e2]; simpa using c2)
  by_cases c3 : askE s (stopAt s i) 46 ≠ 0
  · rw [if_pos c3] at hr
    have e4 := h4e (by rw [e3]; exact c3)
    rw [hr, e4, e3]
    exact ⟨rfl, fun h => absurd h c3⟩
  rw [if_neg c3] at hr
  obtain ⟨e4, e5⟩ := h4o (by rw [e3]; simpa using c3)
  generalize lrd s F .term (nm ++ [s.extract i (stopAt s i)]) (stopAt s i + 1) (k + 1) = q at *
  by_cases c4 : q.err ≠ 0
  · rw [if_pos c4] at hr
    rw [hr, e4]
    exact ⟨rfl, fun h => absurd h c4⟩
  rw [if_neg c4] at hr
  have c5 : q.err = 0 := by simpa using c4
  obtain ⟨rfl, rfl, rfl⟩ := e5 c5
  rw [hr, e4, c5]
  exact ⟨rfl, fun _ => ⟨rfl, rfl, rfl⟩⟩
/-- A step behind a term. -/
theorem behind_round {s : ByteArray} {f0 : Nat} {nm : List ByteArray} {j k : Nat} {t t7 : Lm} {r : Lrd} {z2 z7 i7 k7 : Int} (hr : r = if 200 < k + 1 then noLr 3 else if (lrd s f0 .piece nm (j + 1) (k + 1)).err ≠ 0 then noLr (lrd s f0 .piece nm (j + 1) (k + 1)).err else lrd s f0 (.behind ⟨3, 0, [t, (lrd s f0 .piece nm (j + 1) (k + 1)).t]⟩) nm (lrd s f0 .piece nm (j + 1) (k + 1)).pos (lrd s f0 .piece nm (j + 1) (k + 1)).k)
    (h2 : z2 = if 200 < k + 1 then 3 else 0) (h7e : z2 ≠ 0 → z7 = z2) (h7o : z2 = 0 → z7 = (lrd s f0 .piece nm (j + 1) (k + 1)).err ∧ ((lrd s f0 .piece nm (j + 1) (k + 1)).err = 0 → t7 = (lrd s f0 .piece nm (j + 1) (k + 1)).t ∧ i7 = (lrd s f0 .piece nm (j + 1) (k + 1)).pos ∧ k7 = (lrd s f0 .piece nm (j + 1) (k + 1)).k))
    (hpo : (lrd s f0 .piece nm (j + 1) (k + 1)).err = 0 → j + 1 ≤ s.size → k + 1 ≤ 200 → j + 1 ≤ (lrd s f0 .piece nm (j + 1) (k + 1)).pos ∧ (lrd s f0 .piece nm (j + 1) (k + 1)).pos ≤ s.size ∧ (lrd s f0 .piece nm (j + 1) (k + 1)).k ≤ 200 ∧ ((∀ t, Lmode.piece ≠ .behind t) → j + 1 < (lrd s f0 .piece nm (j + 1) (k + 1)).pos)) (hkm : (lrd s f0 .piece nm (j + 1) (k + 1)).err = 0 → k + 1 ≤ (lrd s f0 .piece nm (j + 1) (k + 1)).k) (hk : k ≤ 200) (hj : j < s.size) :
    (z7 ≠ 0 → r.err = z7) ∧ (z7 = 0 → ∃ p k2 : Nat, i7 = (p : Int) ∧ k7 = (k2 : Int) ∧ j + 2 ≤ p ∧ p ≤ s.size ∧ k2 ≤ 200 ∧ k ≤ k2 ∧ r = lrd s f0 (.behind ⟨3, 0, [t, t7]⟩) nm p k2) := by
  by_cases c1 : 200 < k + 1
  · rw [if_pos c1] at hr h2
    have e7 := h7e (by rw [h2]; decide)
    rw [h2] at e7
    rw [hr, e7]
    exact ⟨fun _ => rfl, fun h => absurd h (by decide)⟩
  rw [if_neg c1] at hr h2
  obtain ⟨e7, e8⟩ := h7o h2
  generalize lrd s f0 .piece nm (j + 1) (k + 1) = q at *
  by_cases c4 : q.err ≠ 0
  · rw [if_pos c4] at hr
    rw [hr, e7]
    exact ⟨fun _ => rfl, fun h => absurd h c4⟩
  rw [if_neg c4] at hr
  have c5 : q.err = 0 := by simpa using c4
  obtain ⟨rfl, rfl, rfl⟩ := e8 c5
  have g1 := hpo c5 (by omega) (by omega)
  have g2 := g1.2.2.2 (fun t e => by cases e)
  have g3 := hkm c5
  exact ⟨fun h => absurd (e7.trans c5) h, fun _ => ⟨q.pos, q.k, rfl, rfl, by omega, g1.2.1, g1.2.2.1, by omega, hr⟩⟩

def TmD (B T F : Nat) (s : ByteArray) (nm : List ByteArray) (w : World) (r : Lrd) (wr : World) : Prop :=
  ∃ (t : Lm) (a : Option Addr) (c : Nat) (i' k' z : Int), Blk wr T #[.int .i64 t.kind, .int .i64 t.idx, .slice a t.subs.length c] 24 ∧ SlM wr (fun b => w.heap.size < b ∧ b ≠ T) a t.subs ∧ Ds wr B s i' k' z ∧ Ex B w wr ∧ Blk wr w.heap.size #[.int .i64 0, .int .i64 0, .slice none 0 0] 24 ∧ (z ≠ 0 → r.err = z) ∧ (z = 0 → ∃ f j k : Nat, i' = (j : Int) ∧ k' = (k : Int) ∧ f ≤ F ∧ 3 * (s.size - j) + 1 ≤ f ∧ j ≤ s.size ∧ k ≤ 200 ∧ nm.length ≤ 100 + k ∧ r = lrd s f (.behind t) nm j k)

set_option maxHeartbeats 4000000 in
theorem dterm_of (B : Nat) (s : ByteArray) (hs : s.size ≤ 4000) (F : Nat) (hT : DTerm B s F) (hP : ∀ F', F' ≤ F → DPiece B s F') : DTerm B s (F + 1) := by
  intro nm na nc i k w Y h hn hY hl hi hk hF
  have HT := hide hT
  have HP := hide hP
  have HN := hide hn
  have HY := hide hY
  have hB := h.lt
  have HRD := hide (lrd_term s F nm i k)
  generalize lrd s (F + 1) .term nm i k = r at *
  have c3 : ∀ o, (w.alloc o).cell? ⟨B, 3, none⟩ = some (.int .i64 0) := fun o => (h.alloc o).c3
  have D0 := hide (h.alloc (.cells #[.int .i64 0, .int .i64 0, .slice none 0 0] 24))
  have R0 := hide (Blk.new w #[.int .i64 0, .int .i64 0, .slice none 0 0] 24)
  have E0 := hide ((Ex.refl B w).alloc (.cells #[.int .i64 0, .int .i64 0, .slice none 0 0] 24))
  clear h hn hY hT hP
  go_enter Tryd.func34, Tryd.ntmps34
  go_wp2_with fail
  clear c3
  have hz0 : (w.alloc (.cells #[.int .i64 0, .int .i64 0, .slice none 0 0] 24)).heap.size = w.heap.size + 1 := by simp
  generalize w.alloc (.cells #[.int .i64 0, .int .i64 0, .slice none 0 0] 24) = w0 at *
  refine (is_any B i k 0 92 s w0 D0.out hs (by omega)).mono ?_
  rintro e w1 ⟨rfl, n1, rfl⟩
  have D1 := hide (D0.out.drewN n1)
  have R1 := hide (R0.out.drewN n1)
  have E1 := hide (E0.out.drewN n1)
  have hz1 : (w0.drewN n1).heap.size = w.heap.size + 1 := hz0
  generalize w0.drewN n1 = w1 at *
  clear D0 R0 E0 hz0
  by_cases hp : i < s.size ∧ byteAt s i = 92
  · rw [show isB s i 92 = true from decide_eq_true hp]
    have HR1 := hide ((HRD.out).trans (if_pos hp))
    have hi1 := hp.1
    clear HRD hp
    go_wp2_with fail
    refine (knot_any B k i s w1 D1.out (by omega)).mono ?_
    rintro e w2 ⟨rfl, hd2, hx2, hz2⟩
    obtain ⟨z1, hz1v⟩ : ∃ z1 : Int, z1 = if 200 < k + 1 then 3 else 0 := ⟨_, rfl⟩
    rw [← hz1v] at hd2
    have HZ1 := hide hz1v
    have D2 := hide hd2
    have E2 := hide (E1.out.trans hx2)
    have R2 := hide (R1.out.ex hx2 (by omega))
    have c1 := D2.out.c1
    have cf := Blk.frozen D2.out
    clear hd2 hx2 D1 E1 R1 hz1v
    go_wp2_with fail
    have D3 : Hid (Ds (w2.setCell ⟨B, 1, none⟩ (.int .i64 ((i : Int) + 1))) B s ((i + 1 : Nat) : Int) (k + 1 : Nat) z1) := D2.out.at _
    have E3 := hide (E2.out.set 1 (.int .i64 ((i : Int) + 1)))
    have R3 := hide (R2.out.setOther (b' := B) 1 (.int .i64 ((i : Int) + 1)) (by omega))
    have hz3 : (w2.setCell ⟨B, 1, none⟩ (.int .i64 ((i : Int) + 1))).heap.size = w.heap.size + 1 := by simp; omega
    clear c1 cf
    generalize w2.setCell ⟨B, 1, none⟩ (.int .i64 ((i : Int) + 1)) = w3 at *
    clear D2 E2 R2 hz2
    refine (name_all B (i + 1) _ z1 s (by omega) hs w3 D3.out).mono ?_
    rintro e w4 ⟨n, i4, z4, rfl, hd4, hx4, hz4, hi4, h4e, h4o⟩
    have D4 := hide hd4
    have E4 := hide (E3.out.trans hx4)
    have R4 := hide (R3.out.ex hx4 (by omega))
    have H4 := hide (And.intro h4e h4o)
    clear hd4 hx4 h4e h4o D3 E3 R3
    go_wp2_with fail
    refine (want_all B i4 _ z4 46 s hi4 hs w4 D4.out).mono ?_
    rintro e w5 ⟨i5, z5, rfl, hd5, hx5, hz5, h5e, h5o⟩
    have D5 := hide hd5
    have E5 := hide (E4.out.trans hx5)
    have R5 := hide (R4.out.ex hx5 (by omega))
    have H5 := hide (And.intro h5e h5o)
    have N5 := hide (HN.out.exL E5.out HY.out)
    clear hd5 hx5 h5e h5o D4 E4 R4
    have HBX : Hid (Below w5.heap.size w5 (w5.alloc (.cells #[] 9))) := (Below.refl _ _).alloc (Nat.le_refl _) _
    have OW : Hid ((w5.alloc (.cells #[] 9)).ownsRow w5.heap.size 9 1 (.slice (some ⟨w5.heap.size, 0, none⟩) 0 0) 0 []) := World.ownsRow_lit w5 #[] 0 (Nat.le_refl _) (by unfold maxLen; omega) (by simp)
    obtain ⟨v1, W6, hr1, ho1, hg1⟩ := app_spread (B := w5.heap.size) (l := nm) (a := na) (c := nc) OW.out (by simp) (by omega) (N5.out.later HBX.out)
    have HR6 := hide hr1
    have O6 := hide ho1
    have HB6 := hide (HBX.out.grown hg1 (by simp) (fun q hq => by cases hq; omega))
    clear hr1 ho1 hg1
    have HB7 : Hid (Below w5.heap.size w5 (W6.alloc (.cells #[.string n] 9))) := HB6.out.alloc HB6.out.size _
    have O7 := hide (O6.out.alloc (.cells #[.string n] 9))
    have PC : Hid ((W6.alloc (.cells #[.string n] 9)).cell? ⟨W6.heap.size, 0, none⟩ = some (.string n)) := (Blk.new W6 #[.string n] 9).cell 0
    obtain ⟨v2, W8, hr2, ho2, hg2⟩ := app_one (P := W6.heap.size) (s := n) (l := nm) O7.out HB7.out.size (by omega) PC.out
    have HR8 := hide hr2
    have HB8 := hide (HB7.out.grown hg2 HB7.out.size (fun q hq => (O7.out.lt q hq).1))
    have LV8 : Hid (LV Value.string W8 (fun q => w5.heap.size ≤ q) v2 (nm ++ [n])) := LV.of_own (by rw [List.length_append]; exact ho2)
    obtain ⟨na8, nc8, hv2, _⟩ := LV8.out
    subst hv2
    have HZZ : Hid (w5.heap.size = w.heap.size + 1) := by unfold Hid; omega
    clear hr2 ho2 hg2 HBX OW O6 O7 PC HB7 HB6 hz1 hz3 hz4 hz5
    go_wp2_with (at_builtin; first | (refine wpList_append_eq rfl _ _ _ _ rfl rfl rfl HR6.out ?_; clear HR6) | refine wpList_append_eq rfl _ _ _ _ rfl rfl rfl HR8.out ?_)
    have D8 := hide (D5.out.later HB8.out)
    have E8 := hide (E5.out.on HB8.out)
    have R8 := hide (R5.out.below HB8.out R5.out.lt)
    have hz8 := HB8.out.size
    have hzz := HZZ.out
    have e8 : (nm ++ [n]).length = nm.length + 1 := by simp
    rw [← e8]
    refine (term_all B s F HT.out (nm ++ [n]) na8 nc8 i5 (k + 1) z5 W8 _ D8.out LV8.out (fun b hb => by have := D5.out.lt; omega) (fun h0 => ?_)).mono ?_
    · have hz4 : z4 = 0 := by
        apply Classical.byContradiction
        intro hne
        exact hne ((H5.out.1 hne).symm.trans h0)
      have hz1 : z1 = 0 := by
        apply Classical.byContradiction
        intro hne
        exact hne ((H4.out.1 hne).symm.trans hz4)
      obtain ⟨_, e2, e3⟩ := H4.out.2 hz1
      obtain ⟨e4, e5⟩ := H5.out.2 hz4
      have hk2 : ¬ 200 < k + 1 := fun hk => by have := HZ1.out; rw [if_pos hk] at this; omega
      have g1 := nameE_go (e3.symm.trans hz4)
      have g2 := askE_go (e5.symm.trans h0)
      rw [List.length_append]
      have := stopAt_ge s (i + 1)
      exact ⟨by simp; omega, by omega, by omega, by omega⟩
    rintro e w9 ⟨a, c, t', i', k', z9, rfl, hs9, hd9, hx9, h9e, h9o⟩
    have D9 := hide hd9
    have E9 := hide (E8.out.trans hx9)
    have R9 := hide (R8.out.ex hx9 (by omega))
    have hz9 := hx9.size
    have H9 := hide (And.intro h9e h9o)
    have S9 := hide hs9
    clear hs9 hd9 hx9 h9e h9o D8 E8 R8 D5 E5 R5
    go_wp2_with fail
    refine (funQ_any t' _ w9 (fun b => W8.heap.size ≤ b) ⟨a, c, rfl, S9.out⟩).mono ?_
    rintro e wa ⟨aa, ca, rfl, hsa, hba⟩
    have Da := hide (D9.out.later hba)
    have Ea := hide (E9.out.on hba)
    have Ra := R9.out.below hba R9.out.lt
    have Sa : Hid (SlM wa (fun b => w.heap.size < b) aa [t']) := hsa.mono fun b hb _ => by omega
    have RRc := Ra.cell 0
    have r0 : wa.cell? ⟨w.heap.size, 0, none⟩ = some (.int .i64 0) := Ra.cell 0
    have r1 : wa.cell? ⟨w.heap.size, 1, none⟩ = some (.int .i64 0) := Ra.cell 1
    have r2 : wa.cell? ⟨w.heap.size, 2, none⟩ = some (.slice none 0 0) := Ra.cell 2
    have rf := Blk.frozen Ra
    clear RRc
    clear hsa hba Ra
    go_wp2_with fail
    refine bodyPost_ret (v := .agg #[.int .i64 2, .int .i64 0, .slice aa 1 ca]) (by simp [results, Tryd.results34, go_sem, World.cell?_setCell_same, World.cell?_setCell_other, r0, r1, r2]) rfl ?_
    have HBR := bind_round HR1.out HZ1.out H4.out.1 H4.out.2 H5.out.1 H5.out.2 H9.out.1 H9.out.2
    exact drP_end (t' := ⟨2, 0, [t']⟩) hB Sa.out (by rw [HBR.1]; exact Da.out) HBR.2 Ea.out
  · rw [show isB s i 92 = false from decide_eq_false hp]
    have HR1 := hide ((HRD.out).trans (if_neg hp))
    clear HRD hp
    go_wp2_with fail
    refine (HP.out F (Nat.le_refl _) nm na nc i k w1 Y D1.out (HN.out.exL E1.out HY.out) HY.out hl hi hk (by omega)).mono ?_
    rintro e w3 ⟨a3, c3, t3, i3, k3, rfl, hs3, hd3, hr3, hx3⟩
    have HPO := hide (lrd_pos s F .piece nm i k)
    have HKM := hide (lrd_kge s F .piece nm i k)
    generalize lrd s F .piece nm i k = q at *
    have hz3 := hx3.size
    have E3 := hide (E1.out.trans hx3)
    have R3 := hide (R1.out.ex hx3 (by omega))
    have S3 := hide (hs3.mono (Y := fun b => w.heap.size < b ∧ b ≠ w3.heap.size) fun b h1 h2 => ⟨by omega, by omega⟩)
    have D3 := hide hd3
    have HQ := hide hr3
    clear hs3 hd3 hr3 hx3 D1 E1 R1
    go_wp2_with fail
    have D4 : Hid (Ds (w3.alloc (.cells #[.int .i64 t3.kind, .int .i64 t3.idx, .slice a3 t3.subs.length c3] 24)) B s i3 k3 q.err) := D3.out.alloc _
    have E4 := hide (E3.out.alloc (.cells #[.int .i64 t3.kind, .int .i64 t3.idx, .slice a3 t3.subs.length c3] 24))
    have R4 := hide (R3.out.alloc (.cells #[.int .i64 t3.kind, .int .i64 t3.idx, .slice a3 t3.subs.length c3] 24))
    have T4 := hide (Blk.new w3 #[.int .i64 t3.kind, .int .i64 t3.idx, .slice a3 t3.subs.length c3] 24)
    have S4 := hide (S3.out.later ((Below.refl _ _).alloc (Nat.le_refl _) (.cells #[.int .i64 t3.kind, .int .i64 t3.idx, .slice a3 t3.subs.length c3] 24)))
    have hTR : w.heap.size < w3.heap.size := by omega
    generalize w3.alloc (.cells #[.int .i64 t3.kind, .int .i64 t3.idx, .slice a3 t3.subs.length c3] 24) = w4 at *
    generalize w3.heap.size = T at *
    clear D3 E3 R3 S3
    have hTB : T ≠ B := by omega
    have HST : Hid (TmD B T F s nm w r w4) := by
      refine ⟨t3, a3, c3, i3, k3, q.err, T4.out, S4.out, D4.out, E4.out, R4.out, fun h => ?_, fun h => ?_⟩
      · rw [HR1.out, if_pos h]; rfl
      · obtain ⟨rfl, rfl, rfl⟩ := HQ.out h
        have g1 := HPO.out h hi hk
        have g2 := g1.2.2.2 (fun t e => by cases e)
        have g3 := HKM.out h
        exact ⟨F, q.pos, q.k, rfl, rfl, Nat.le_refl _, by omega, g1.2.1, g1.2.2.1, by omega, by rw [HR1.out, if_neg (by rw [h]; simp)]⟩
    clear D4 E4 R4 T4 S4 HQ HPO HKM HR1
    go_loopw [] (fun wr => TmD B T F s nm w r wr) (fun wr => mD wr B s.size)
    case atStart => exact HST.out
    case round =>
      obtain ⟨t, a, c, i', k', z, hT5, hs5, hd5, hx5, hR5, hze, hzo⟩ := hrel
      by_cases hz : z = 0
      case neg =>
        have hre := hze hz
        have HRE := hide hre
        have HZN := hide hz
        have hzb : (z == 0) = false := by simpa using hz
        have D5 := hide hd5
        have E5 := hide hx5
        have S5 := hide hs5
        have c3 := hd5.c3
        have RRc := hR5.cell 0
        have r0 : wr.cell? ⟨w.heap.size, 0, none⟩ = some (.int .i64 0) := hR5.cell 0
        have r1 : wr.cell? ⟨w.heap.size, 1, none⟩ = some (.int .i64 0) := hR5.cell 1
        have r2 : wr.cell? ⟨w.heap.size, 2, none⟩ = some (.slice none 0 0) := hR5.cell 2
        have rf := Blk.frozen hR5
        clear RRc
        have t0 : wr.cell? ⟨T, 0, none⟩ = some (.int .i64 t.kind) := hT5.cell 0
        have t1 : wr.cell? ⟨T, 1, none⟩ = some (.int .i64 t.idx) := hT5.cell 1
        have t2 : wr.cell? ⟨T, 2, none⟩ = some (.slice a t.subs.length c) := hT5.cell 2
        clear hre hze hzo hs5 hd5 hx5 hR5 hT5 hz
        go_wp2_with fail
        refine bodyPost_ret (v := .agg #[.int .i64 t.kind, .int .i64 t.idx, .slice a t.subs.length c]) (by simp [results, Tryd.results34, go_sem, World.cell?_setCell_same, World.cell?_setCell_other, r0, r1, r2]) rfl ?_
        exact drP_end (t' := t) hB (S5.out.mono fun b hb _ => hb.1) (by rw [HRE.out]; exact D5.out) (fun h => absurd (HRE.out.symm.trans h) HZN.out) E5.out
      subst hz
      obtain ⟨f, j, k, rfl, rfl, hfF, hfj, hj, hk2, hnk, hr⟩ := hzo rfl
      obtain ⟨f0, rfl⟩ : ∃ f0, f = f0 + 1 := ⟨f - 1, by omega⟩
      have HRB := hide (hr.trans (lrd_behind s f0 t nm j k))
      have D5 := hide hd5
      have E5 := hide hx5
      have R5 := hide hR5
      have T5 := hide hT5
      have S5 := hide hs5
      have c3 := hd5.c3
      have hDr := hd5
      clear hr hze hzo hs5 hd5 hx5 hR5 hT5
      go_wp2_with fail
      refine (is_any B j k 0 32 s wr D5.out hs (by omega)).mono ?_
      rintro e w6 ⟨rfl, n6, rfl⟩
      have D6 := hide (D5.out.drewN n6)
      have R6 := hide (R5.out.drewN n6)
      have T6 := hide (T5.out.drewN n6)
      have E6 := hide (E5.out.drewN n6)
      have S6 : Hid (SlM (wr.drewN n6) (fun b => w.heap.size < b ∧ b ≠ T) a t.subs) := S5.out.kept fun b hb => rfl
      clear c3
      generalize wr.drewN n6 = w6 at *
      clear D5 E5 R5 T5 S5
      by_cases hp : j < s.size ∧ byteAt s j = 32
      case neg =>
        rw [show isB s j 32 = false from decide_eq_false hp]
        have hrr := (HRB.out).trans (if_neg hp)
        subst hrr
        have hT6 := T6.out
        have hR6 := R6.out
        have RRc := hR6.cell 0
        have r0 : w6.cell? ⟨w.heap.size, 0, none⟩ = some (.int .i64 0) := hR6.cell 0
        have r1 : w6.cell? ⟨w.heap.size, 1, none⟩ = some (.int .i64 0) := hR6.cell 1
        have r2 : w6.cell? ⟨w.heap.size, 2, none⟩ = some (.slice none 0 0) := hR6.cell 2
        have rf := Blk.frozen hR6
        clear RRc
        have t0 : w6.cell? ⟨T, 0, none⟩ = some (.int .i64 t.kind) := hT6.cell 0
        have t1 : w6.cell? ⟨T, 1, none⟩ = some (.int .i64 t.idx) := hT6.cell 1
        have t2 : w6.cell? ⟨T, 2, none⟩ = some (.slice a t.subs.length c) := hT6.cell 2
        clear hT6 hR6
        go_wp2_with fail
        refine bodyPost_ret (v := .agg #[.int .i64 t.kind, .int .i64 t.idx, .slice a t.subs.length c]) (by simp [results, Tryd.results34, go_sem, World.cell?_setCell_same, World.cell?_setCell_other, r0, r1, r2]) rfl ?_
        exact drP_end (t' := t) hB (S6.out.mono fun b hb _ => hb.1) D6.out (fun h => ⟨rfl, rfl, rfl⟩) E6.out
      rw [show isB s j 32 = true from decide_eq_true hp]
      have HR5 := hide ((HRB.out).trans (if_pos hp))
      have hj1 := hp.1
      have c1 := D6.out.c1
      have cf := Blk.frozen D6.out
      clear HRB hp
      go_wp2_with fail
      have D7 : Hid (Ds (w6.setCell ⟨B, 1, none⟩ (.int .i64 ((j : Int) + 1))) B s ((j + 1 : Nat) : Int) k 0) := D6.out.at _
      have E7 := hide (E6.out.set 1 (.int .i64 ((j : Int) + 1)))
      have R7 := hide (R6.out.setOther (b' := B) 1 (.int .i64 ((j : Int) + 1)) (by omega))
      have T7 := hide (T6.out.setOther (b' := B) 1 (.int .i64 ((j : Int) + 1)) hTB)
      have S7 : Hid (SlM (w6.setCell ⟨B, 1, none⟩ (.int .i64 ((j : Int) + 1))) (fun b => w.heap.size < b ∧ b ≠ T) a t.subs) := S6.out.kept fun b hb => Below.heap_setCell _ _ _ _ (by simp; omega)
      clear c1 cf
      generalize w6.setCell ⟨B, 1, none⟩ (.int .i64 ((j : Int) + 1)) = w7 at *
      clear D6 E6 R6 T6 S6
      refine (knot_any B k _ s w7 D7.out (by omega)).mono ?_
      rintro e w8 ⟨rfl, hd8, hx8, hz8⟩
      obtain ⟨z2, hz2v⟩ : ∃ z2 : Int, z2 = if 200 < k + 1 then 3 else 0 := ⟨_, rfl⟩
      rw [← hz2v] at hd8
      have HZ2v := hide hz2v
      have HZ2 : Hid (z2 = 0 → k + 1 ≤ 200) := fun h => by
        by_cases hk3 : 200 < k + 1
        · rw [if_pos hk3] at hz2v; omega
        · omega
      have D8 := hide hd8
      have E8 := hide (E7.out.trans hx8)
      have R8 := hide (R7.out.ex hx8 (by omega))
      have T8 := hide (T7.out.ex hx8 hTB)
      have S8 := hide (S7.out.exL hx8 (fun b hb => by omega))
      clear hd8 hx8 D7 E7 R7 T7 S7 hz2v
      go_wp2_with fail
      have HPO := hide (lrd_pos s f0 .piece nm (j + 1) (k + 1))
      have HKM := hide (lrd_kge s f0 .piece nm (j + 1) (k + 1))
      have Dd := hide D8.out.drew
      have Ed := hide E8.out.drew
      have Rd : Hid (Blk w8.drew w.heap.size #[.int .i64 0, .int .i64 0, .slice none 0 0] 24) := R8.out
      have Td : Hid (Blk w8.drew T #[.int .i64 t.kind, .int .i64 t.idx, .slice a t.subs.length c] 24) := T8.out
      have Sd : Hid (SlM w8.drew (fun b => w.heap.size < b ∧ b ≠ T) a t.subs) := S8.out.kept fun b hb => rfl
      refine wp_region_held_drew (S := fun w' => True) (by kernel_rfl) trivial (fun hHeld => ?_)
      generalize w8.drew = wd at *
      clear D8 E8 R8 T8 S8
      refine wpAnyH_take (i := 1) (v := ?_) rfl (by kernel_rfl) (by kernel_rfl) (by kernel_rfl) (fun _ _ _ h => h) (Or.inl ⟨by rfl, ?_⟩) (by assumption) ?_
      rotate_left
      · intro w' hSw
        go_simp <;> with_reducible rfl
      try simp only [Act.put, List.setIfInBounds_toArray, List.set_cons_zero, List.set_cons_succ, List.getElem_toArray, List.getElem_cons_succ, List.getElem_cons_zero]
      refine wpAnyH_take (i := 2) (v := ?_) rfl (by kernel_rfl) (by kernel_rfl) (by kernel_rfl) (fun _ _ _ h => h) (Or.inl ⟨by rfl, ?_⟩) (by assumption) ?_
      rotate_left
      · intro w' hSw
        go_simp <;> with_reducible rfl
      try simp only [Act.put, List.setIfInBounds_toArray, List.set_cons_zero, List.set_cons_succ, List.getElem_toArray, List.getElem_cons_succ, List.getElem_cons_zero]
      refine wpAnyH_ready (rs := [0, 3]) (by kernel_rfl) (by simp) ?_
      refine AllReadyH.cons rfl (fun K hK => ?_) (AllReadyH.cons rfl (fun K hK => ?_) AllReadyH.nil)
      · have m0 := Td.out.cell 0
        have m1 := Td.out.cell 1
        have m2 := Td.out.cell 2
        simp only [List.getElem?_toArray, List.getElem?_cons_succ, List.getElem?_cons_zero] at m0 m1 m2
        go_simp
        refine hK.out _ _ trivial (fun hHeld => ?_)
        clear hK K
        try simp only [Act.put, List.setIfInBounds_toArray, List.set_cons_zero, List.set_cons_succ, List.getElem_toArray, List.getElem_cons_succ, List.getElem_cons_zero]
        clear m0 m1 m2
        refine wpAnyH_ready (rs := [3]) (by kernel_rfl) (by simp) ?_
        refine AllReadyH.cons rfl (fun K hK => ?_) AllReadyH.nil
        go_simp
        go_at_call 57
        refine (piece_all B s f0 (HP.out f0 (by omega)) nm na nc (j + 1) (k + 1) z2 wd Y Dd.out (HN.out.exL Ed.out HY.out) HY.out (fun h => ⟨by omega, by omega, by have := HZ2.out h; omega, by omega⟩)).mono ?_
        rintro e w7 ⟨a7, c7, t7, i7, k7, z7, rfl, hs7, hd7, hx7, hz7e, hz7o⟩
        have hz7 := hx7.size
        have hTd := Td.out.lt
        have hRd := Rd.out.lt
        have D7 := hide hd7
        have E7 := hide (Ed.out.trans hx7)
        have R7 := hide (Rd.out.ex hx7 (by omega))
        have T7 := hide (Td.out.ex hx7 hTB)
        have S7 := hide (Sd.out.exL hx7 (fun b hb => by omega))
        have U7 : Hid (SlM w7 (fun b => w.heap.size < b ∧ b ≠ T) a7 t7.subs) := hs7.mono fun b hb _ => ⟨by omega, by omega⟩
        have HZ7 := hide (And.intro hz7e hz7o)
        clear hs7 hd7 hx7 hz7e hz7o
        go_simp
        refine hK.out _ _ trivial (fun hHeld => ?_)
        clear hK K
        try simp only [Act.put, List.setIfInBounds_toArray, List.set_cons_zero, List.set_cons_succ, List.getElem_toArray, List.getElem_cons_succ, List.getElem_cons_zero]
        refine wpAnyH_ready (rs := [4]) (by kernel_rfl) (by simp) ?_
        refine AllReadyH.cons rfl (fun K hK => ?_) AllReadyH.nil
        go_simp
        go_at_call 58
        refine (appQ_any t t7 _ _ w7 (fun b => w.heap.size < b ∧ b ≠ T) ⟨a, c, rfl, S7.out⟩ ⟨a7, c7, rfl, U7.out⟩).mono ?_
        rintro e w8 ⟨a8, c8, rfl, hs8, hb8⟩
        have D8 := hide (D7.out.later hb8)
        have E8 := hide (E7.out.on hb8)
        have R8 := hide (R7.out.below hb8 R7.out.lt)
        have T8 := hide (T7.out.below hb8 T7.out.lt)
        have S8 : Hid (SlM w8 (fun b => w.heap.size < b ∧ b ≠ T) a8 [t, t7]) := hs8.mono fun b hb _ => hb.elim (fun h => h) (fun h => ⟨by omega, by omega⟩)
        clear hs8 hb8
        go_simp
        refine hK.out _ _ trivial (fun hHeld => ?_)
        clear hK K
        try simp only [Act.put, List.setIfInBounds_toArray, List.set_cons_zero, List.set_cons_succ, List.getElem_toArray, List.getElem_cons_succ, List.getElem_cons_zero]
        have m0 := T8.out.cell 0
        have m1 := T8.out.cell 1
        have m2 := T8.out.cell 2
        have mf := T8.out.frozen
        simp only [List.getElem?_toArray, List.getElem?_cons_succ, List.getElem?_cons_zero] at m0 m1 m2
        refine wpAnyH_ready (rs := [5]) (by kernel_rfl) (by simp) ?_
        refine AllReadyH.cons rfl (fun K hK => ?_) AllReadyH.nil
        go_simp
        refine hK.out _ _ trivial (fun hHeld => ?_)
        clear hK K
        try simp only [Act.put, List.setIfInBounds_toArray, List.set_cons_zero, List.set_cons_succ, List.getElem_toArray, List.getElem_cons_succ, List.getElem_cons_zero]
        have T9 := hide (lt_set3 T8.out (.int .i64 3) (.int .i64 0) (.slice a8 2 c8))
        have D9 : Hid (Ds (((w8.setCell ⟨T, 0, none⟩ (.int .i64 3)).setCell ⟨T, 1, none⟩ (.int .i64 0)).setCell ⟨T, 2, none⟩ (.slice a8 2 c8)) B s i7 k7 z7) := lt_set3o D8.out (by omega) _ _ _
        have R9 := hide (lt_set3o (B := T) R8.out (by omega) (.int .i64 3) (.int .i64 0) (.slice a8 2 c8))
        have E9 := hide (((E8.out.setNew (b := T) (by omega) 0 (.int .i64 3)).setNew (b := T) (by omega) 1 (.int .i64 0)).setNew (b := T) (by omega) 2 (.slice a8 2 c8))
        have S9 : Hid (SlM (((w8.setCell ⟨T, 0, none⟩ (.int .i64 3)).setCell ⟨T, 1, none⟩ (.int .i64 0)).setCell ⟨T, 2, none⟩ (.slice a8 2 c8)) (fun b => w.heap.size < b ∧ b ≠ T) a8 [t, t7]) := S8.out.kept fun b hb => by rw [Below.heap_setCell _ _ _ _ (by simp; omega), Below.heap_setCell _ _ _ _ (by simp; omega), Below.heap_setCell _ _ _ _ (by simp; omega)]
        clear m0 m1 m2 mf
        generalize (((w8.setCell ⟨T, 0, none⟩ (.int .i64 3)).setCell ⟨T, 1, none⟩ (.int .i64 0)).setCell ⟨T, 2, none⟩ (.slice a8 2 c8)) = w9 at *
        refine wpAnyH_done (by kernel_rfl) ?_ _
        clear D8 E8 R8 T8 S8 D7 E7 R7 T7 S7 U7
        go_wp2_with fail
        have HRR := behind_round HR5.out HZ2v.out HZ7.out.1 HZ7.out.2 HPO.out HKM.out (by omega) hj1
        go_roundw
        case rel => exact ⟨⟨3, 0, [t, t7]⟩, a8, c8, i7, k7, z7, T9.out, S9.out, D9.out, E9.out, R9.out, HRR.1, fun h0 => by
          obtain ⟨p, k2, e1, e2, h3, h4, h5, h6, h7⟩ := HRR.2 h0
          exact ⟨f0, p, k2, e1, e2, by omega, by omega, h4, h5, by omega, h7⟩⟩
        case measure =>
          have hold : mD wr B s.size = s.size + 1 - j := mD_ok hDr
          rw [hold]
          by_cases h0 : z7 = 0
          · obtain ⟨p, k2, e1, e2, h3, h4, h5, h6, h7⟩ := HRR.2 h0
            have hnew : mD w9 B s.size = s.size + 1 - p := mD_ok (k := k7) (by have := D9.out; rw [h0, e1] at this; exact this)
            rw [hnew]; omega
          · rw [mD_err h0 D9.out]; omega
      · go_simp
        go_at_call 57
        refine (piece_all B s f0 (HP.out f0 (by omega)) nm na nc (j + 1) (k + 1) z2 wd Y Dd.out (HN.out.exL Ed.out HY.out) HY.out (fun h => ⟨by omega, by omega, by have := HZ2.out h; omega, by omega⟩)).mono ?_
        rintro e w7 ⟨a7, c7, t7, i7, k7, z7, rfl, hs7, hd7, hx7, hz7e, hz7o⟩
        have hz7 := hx7.size
        have hTd := Td.out.lt
        have hRd := Rd.out.lt
        have D7 := hide hd7
        have E7 := hide (Ed.out.trans hx7)
        have R7 := hide (Rd.out.ex hx7 (by omega))
        have T7 := hide (Td.out.ex hx7 hTB)
        have S7 := hide (Sd.out.exL hx7 (fun b hb => by omega))
        have U7 : Hid (SlM w7 (fun b => w.heap.size < b ∧ b ≠ T) a7 t7.subs) := hs7.mono fun b hb _ => ⟨by omega, by omega⟩
        have HZ7 := hide (And.intro hz7e hz7o)
        clear hs7 hd7 hx7 hz7e hz7o
        go_simp
        refine hK.out _ _ trivial (fun hHeld => ?_)
        clear hK K
        try simp only [Act.put, List.setIfInBounds_toArray, List.set_cons_zero, List.set_cons_succ, List.getElem_toArray, List.getElem_cons_succ, List.getElem_cons_zero]
        refine wpAnyH_ready (rs := [0]) (by kernel_rfl) (by simp) ?_
        refine AllReadyH.cons rfl (fun K hK => ?_) AllReadyH.nil
        have m0 := T7.out.cell 0
        have m1 := T7.out.cell 1
        have m2 := T7.out.cell 2
        simp only [List.getElem?_toArray, List.getElem?_cons_succ, List.getElem?_cons_zero] at m0 m1 m2
        go_simp
        refine hK.out _ _ trivial (fun hHeld => ?_)
        clear hK K
        try simp only [Act.put, List.setIfInBounds_toArray, List.set_cons_zero, List.set_cons_succ, List.getElem_toArray, List.getElem_cons_succ, List.getElem_cons_zero]
        clear m0 m1 m2
        refine wpAnyH_ready (rs := [4]) (by kernel_rfl) (by simp) ?_
        refine AllReadyH.cons rfl (fun K hK => ?_) AllReadyH.nil
        go_simp
        go_at_call 58
        refine (appQ_any t t7 _ _ w7 (fun b => w.heap.size < b ∧ b ≠ T) ⟨a, c, rfl, S7.out⟩ ⟨a7, c7, rfl, U7.out⟩).mono ?_
        rintro e w8 ⟨a8, c8, rfl, hs8, hb8⟩
        have D8 := hide (D7.out.later hb8)
        have E8 := hide (E7.out.on hb8)
        have R8 := hide (R7.out.below hb8 R7.out.lt)
        have T8 := hide (T7.out.below hb8 T7.out.lt)
        have S8 : Hid (SlM w8 (fun b => w.heap.size < b ∧ b ≠ T) a8 [t, t7]) := hs8.mono fun b hb _ => hb.elim (fun h => h) (fun h => ⟨by omega, by omega⟩)
        clear hs8 hb8
        go_simp
        refine hK.out _ _ trivial (fun hHeld => ?_)
        clear hK K
        try simp only [Act.put, List.setIfInBounds_toArray, List.set_cons_zero, List.set_cons_succ, List.getElem_toArray, List.getElem_cons_succ, List.getElem_cons_zero]
        have m0 := T8.out.cell 0
        have m1 := T8.out.cell 1
        have m2 := T8.out.cell 2
        have mf := T8.out.frozen
        simp only [List.getElem?_toArray, List.getElem?_cons_succ, List.getElem?_cons_zero] at m0 m1 m2
        refine wpAnyH_ready (rs := [5]) (by kernel_rfl) (by simp) ?_
        refine AllReadyH.cons rfl (fun K hK => ?_) AllReadyH.nil
        go_simp
        refine hK.out _ _ trivial (fun hHeld => ?_)
        clear hK K
        try simp only [Act.put, List.setIfInBounds_toArray, List.set_cons_zero, List.set_cons_succ, List.getElem_toArray, List.getElem_cons_succ, List.getElem_cons_zero]
        have T9 := hide (lt_set3 T8.out (.int .i64 3) (.int .i64 0) (.slice a8 2 c8))
        have D9 : Hid (Ds (((w8.setCell ⟨T, 0, none⟩ (.int .i64 3)).setCell ⟨T, 1, none⟩ (.int .i64 0)).setCell ⟨T, 2, none⟩ (.slice a8 2 c8)) B s i7 k7 z7) := lt_set3o D8.out (by omega) _ _ _
        have R9 := hide (lt_set3o (B := T) R8.out (by omega) (.int .i64 3) (.int .i64 0) (.slice a8 2 c8))
        have E9 := hide (((E8.out.setNew (b := T) (by omega) 0 (.int .i64 3)).setNew (b := T) (by omega) 1 (.int .i64 0)).setNew (b := T) (by omega) 2 (.slice a8 2 c8))
        have S9 : Hid (SlM (((w8.setCell ⟨T, 0, none⟩ (.int .i64 3)).setCell ⟨T, 1, none⟩ (.int .i64 0)).setCell ⟨T, 2, none⟩ (.slice a8 2 c8)) (fun b => w.heap.size < b ∧ b ≠ T) a8 [t, t7]) := S8.out.kept fun b hb => by rw [Below.heap_setCell _ _ _ _ (by simp; omega), Below.heap_setCell _ _ _ _ (by simp; omega), Below.heap_setCell _ _ _ _ (by simp; omega)]
        clear m0 m1 m2 mf
        generalize (((w8.setCell ⟨T, 0, none⟩ (.int .i64 3)).setCell ⟨T, 1, none⟩ (.int .i64 0)).setCell ⟨T, 2, none⟩ (.slice a8 2 c8)) = w9 at *
        refine wpAnyH_done (by kernel_rfl) ?_ _
        clear D8 E8 R8 T8 S8 D7 E7 R7 T7 S7 U7
        go_wp2_with fail
        have HRR := behind_round HR5.out HZ2v.out HZ7.out.1 HZ7.out.2 HPO.out HKM.out (by omega) hj1
        go_roundw
        case rel => exact ⟨⟨3, 0, [t, t7]⟩, a8, c8, i7, k7, z7, T9.out, S9.out, D9.out, E9.out, R9.out, HRR.1, fun h0 => by
          obtain ⟨p, k2, e1, e2, h3, h4, h5, h6, h7⟩ := HRR.2 h0
          exact ⟨f0, p, k2, e1, e2, by omega, by omega, h4, h5, by omega, h7⟩⟩
        case measure =>
          have hold : mD wr B s.size = s.size + 1 - j := mD_ok hDr
          rw [hold]
          by_cases h0 : z7 = 0
          · obtain ⟨p, k2, e1, e2, h3, h4, h5, h6, h7⟩ := HRR.2 h0
            have hnew : mD w9 B s.size = s.size + 1 - p := mD_ok (k := k7) (by have := D9.out; rw [h0, e1] at this; exact this)
            rw [hnew]; omega
          · rw [mD_err h0 D9.out]; omega
#print axioms dterm_of
end Go.Proofs.YtagffgabceodfaaDoor

/- Walks: reading a text as a lambda term, and what is thrown is caught. -/
namespace Go.Proofs.YtagffgabceodfaaDoor
open Go.RowKit
set_option linter.unusedSimpArgs false
set_option linter.unusedVariables false
set_option maxRecDepth 8000

theorem lread_all (N B : Nat) (s : ByteArray) (hs : s.size ≤ 4000) : ∀ F, (∀ F', F' ≤ F → LTerm N B s F' ∧ LPiece N B s F') := by
  intro F
  induction F with
  | zero =>
    intro F' hF'
    have : F' = 0 := by omega
    subst this
    exact ⟨fun nm nv i k w h h1 h2 h3 h4 => by omega, fun nm nv i k w h h1 h2 h3 h4 => by omega⟩
  | succ F ih =>
    intro F' hF'
    by_cases h : F' = F + 1
    · subst h
      exact ⟨lterm_of N B s hs F (ih F (Nat.le_refl _)).1 (fun F' h => (ih F' h).2), lpiece_of N B s hs F (ih F (Nat.le_refl _)).1⟩
    · exact ih F' (by omega)

theorem assertErrnoL (v : Value) (xT : TypeId) (w : World) : (Instr.typeAssert (.iface 27 v) xT 27 false).run Tryd.prog w = .ok v w := by
  simp [Instr.typeAssert, run_underlying Tryd.underlying27, go_sem, Result.andThen]

theorem catchL_panicking (Pt Pe : Nat) (z z0 : Int) (x0 x1 : Int) (x2 : Value) (w : World) (ht : Blk w Pt #[.int .i64 x0, .int .i64 x1, x2] 24) (he : Blk w Pe #[.int .i64 z0] 27) :
    CallsD Tryd.prog 29 #[.pointer (some ⟨Pt, 0, none⟩), .pointer (some ⟨Pe, 0, none⟩)] (.panicking [{ v := .iface 27 (.int .i64 z), recovered := false }]) w fun e u' w' =>
      e = .returned (.tuple #[]) ∧ u' = .panicking [{ v := .iface 27 (.int .i64 z), recovered := true }] ∧ w' = ((((w.setCell ⟨Pt, 0, none⟩ (.int .i64 0)).setCell ⟨Pt, 1, none⟩ (.int .i64 0)).setCell ⟨Pt, 2, none⟩ (.slice none 0 0)).setCell ⟨Pe, 0, none⟩ (.int .i64 z)).drew := by
  refine callsD_of_wpS Tryd.func29 rfl fun c₀ cs hu => ?_
  apply wpS_seq
  apply wpS_region
  simp [wpOpsS, go_sem, recoverD, hu, Tryd.ntmps29, Exit.thenS]
  apply wpS_seq
  apply wpS_region
  simp [wpOpsS, go_sem, Exit.thenS, Array.replicate]
  refine wpS_cond (t := true) (by simp [Act.eval, Array.replicate]) ?_
  simp only [if_true]
  refine wpS_of_wp ?_
  have t0 : w.cell? ⟨Pt, 0, none⟩ = some (.int .i64 x0) := ht.cell 0
  have t1 : w.cell? ⟨Pt, 1, none⟩ = some (.int .i64 x1) := ht.cell 1
  have t2 : w.cell? ⟨Pt, 2, none⟩ = some x2 := ht.cell 2
  have tf := ht.frozen
  have e0 : w.cell? ⟨Pe, 0, none⟩ = some (.int .i64 z0) := he.cell 0
  have ef := he.frozen
  have hne : ¬ Pt = Pe := fun h => by
    subst h
    unfold Blk at ht he
    rw [ht] at he
    simp at he
  have hne2 : ¬ Pe = Pt := fun h => hne h.symm
  have hta := assertErrnoL (.int .i64 z)
  go_region
  exact ⟨rfl, _, rfl, .tuple #[], by simp [results, Tryd.results29, go_sem], rfl, rfl, rfl⟩

theorem catchL_idle (Pt Pe : Nat) (w : World) :
    CallsD Tryd.prog 29 #[.pointer (some ⟨Pt, 0, none⟩), .pointer (some ⟨Pe, 0, none⟩)] .returning w fun e u' w' => e = .returned (.tuple #[]) ∧ u' = .returning ∧ w' = w := by
  refine callsD_of_wpS Tryd.func29 rfl fun c₀ cs hu => ?_
  apply wpS_seq
  apply wpS_region
  simp [wpOpsS, go_sem, recoverD, hu, Tryd.ntmps29, Exit.thenS]
  apply wpS_seq
  apply wpS_region
  simp [wpOpsS, go_sem, Exit.thenS, Array.replicate]
  refine wpS_cond (t := false) (by simp [Act.eval, Array.replicate]) ?_
  simp only [Bool.false_eq_true, if_false]
  refine wpS_of_wp (wp_skip ?_)
  cases c₀
  simp_all [bodyPostS, results, Tryd.results29]

/-- What making a reader does. -/
def NewPostL (w : World) (s : ByteArray) (e : Ending) (w' : World) : Prop :=
  if 4000 < s.size then e = thrownL 3 ∧ Below w.heap.size w w' else e = .returned (.agg #[.string s, .int .i64 0, .int .i64 0]) ∧ Below w.heap.size w w'
theorem new_anyL (s : ByteArray) (w : World) : Calls Tryd.prog 30 #[.string s] w fun e w' => NewPostL w s e w' := by
  by_cases hs : 4000 < s.size
  · have HP : Hid (∀ w', Below w.heap.size w w' → NewPostL w s (thrownL 3) w') := fun w' h => by unfold NewPostL; rw [if_pos hs]; exact ⟨rfl, h⟩
    go_enter Tryd.func30, Tryd.ntmps30
    go_wp2_with fail
    exact ⟨rfl, HP.out _ (by first | exact Below.refl _ _ | exact (Below.refl _ _).alloc (Nat.le_refl _) _)⟩
  · have HP : Hid (∀ w', Below w.heap.size w w' → NewPostL w s (.returned (.agg #[.string s, .int .i64 0, .int .i64 0])) w') := fun w' h => by unfold NewPostL; rw [if_neg hs]; exact ⟨rfl, h⟩
    go_enter Tryd.func30, Tryd.ntmps30
    go_wp2_with fail
    refine bodyPost_ret (v := .agg #[.string s, .int .i64 0, .int .i64 0]) (by simp [results, Tryd.results30, go_sem, World.cell?_setCell_same, World.cell?_setCell_other]) rfl ?_
    exact HP.out _ (by first | exact Below.refl _ _ | exact (Below.refl _ _).alloc (Nat.le_refl _) _)
def EndPostL (w : World) (e : Ending) (w' : World) : Prop := (∃ v, e = .returned v) ∧ ∃ m, w' = w.drewN m
theorem end_yesL {nv : Value} (B i k : Nat) (s : ByteArray) (he : i = s.size) (w : World) (h : Bl nv w B s i k) :
    Calls Tryd.prog 33 #[.pointer (some ⟨B, 0, none⟩)] w fun e w' => EndPostL w e w' := by
  have HA := hide (atEnd_yesL (nv := nv) B i k s he w h)
  clear he h
  go_enter Tryd.func33, Tryd.ntmps33
  go_wp2_with fail
  refine HA.out.mono ?_
  rintro e w' ⟨rfl, m, rfl⟩
  go_wp2_with fail
  refine bodyPost_ret (v := .tuple #[]) (by simp [results, Tryd.results33, go_sem]) rfl ?_
  exact ⟨⟨_, rfl⟩, m, rfl⟩
theorem end_noL {nv : Value} (B i k : Nat) (s : ByteArray) (he : ¬ i = s.size) (w : World) (h : Bl nv w B s i k) :
    Calls Tryd.prog 33 #[.pointer (some ⟨B, 0, none⟩)] w fun e w' => e = thrownL 12 ∧ ∃ m, w' = w.drewN m := by
  have HA := hide (atEnd_noL (nv := nv) B i k s he w h)
  clear he h
  go_enter Tryd.func33, Tryd.ntmps33
  go_wp2_with fail
  refine HA.out.mono ?_
  rintro e w' ⟨rfl, m, rfl⟩
  go_wp2_with fail
  exact ⟨rfl, rfl, m, rfl⟩


/-- What reading a whole text gives. -/
def lrdAll (s : ByteArray) (fr : List ByteArray) : Lrd :=
  if freE fr ≠ 0 then noLr (freE fr)
  else if 4000 < s.size then noLr 3
  else if (lrd s (3 * s.size + 3) .term fr 0 0).err ≠ 0 then noLr (lrd s (3 * s.size + 3) .term fr 0 0).err
  else if (lrd s (3 * s.size + 3) .term fr 0 0).pos = s.size then lrd s (3 * s.size + 3) .term fr 0 0
  else noLr 12
def ParsePostL (w : World) (r : Lrd) (e : Ending) (w' : World) : Prop :=
  ∃ v, e = .returned (.tuple #[v, .int .i64 r.err]) ∧ (r.err = 0 → MV w' (fun b => w.heap.size ≤ b) v r.t) ∧ (r.err ≠ 0 → v = .agg #[.int .i64 0, .int .i64 0, .slice none 0 0]) ∧ Below w.heap.size w w'
theorem parseL_no {w w' : World} {r : Lrd} {z : Int} (h : r = noLr z) (hz : z ≠ 0) (hb : Below w.heap.size w w') : ParsePostL w r (.returned (.tuple #[.agg #[.int .i64 0, .int .i64 0, .slice none 0 0], .int .i64 z])) w' := by
  subst h
  exact ⟨_, rfl, fun h => absurd h hz, fun _ => rfl, hb⟩

/-- A copy of names. -/
theorem cloneN_any (fr : List ByteArray) (fa : Option Addr) (fc : Nat) (w : World) (Y : Nat → Prop) (hl : fr.length ≤ 1000) (h : LV Value.string w Y (.slice fa fr.length fc) fr) :
    Calls Tryd.prog 31 #[.slice fa fr.length fc] w fun e w' => ∃ v', e = .returned v' ∧ w'.ownsRow w.heap.size 9 1 v' fr.length (fr.map Value.string) ∧ Below w.heap.size w w' := by
  obtain ⟨a2, c2, e2, ⟨_, hc2⟩, h3⟩ := h
  simp at e2
  obtain ⟨rfl, rfl⟩ := e2
  cases fa with
  | none =>
    rcases h3 with rfl | ⟨b, o, e, _⟩
    · refine (Tryd.slices_Clone_string_nil _ _ w).mono ?_
      rintro e w' ⟨rfl, rfl⟩
      exact ⟨_, rfl, World.ownsRow_nil _ _ _ _, Below.refl _ _⟩
    · cases e
  | some ad =>
    by_cases h0 : fr = []
    · subst h0
      refine (Tryd.slices_Clone_string_zero ad fc w).mono ?_
      rintro e w' ⟨v', rfl, ho, _, hb⟩
      exact ⟨v', rfl, ho, hb⟩
    · obtain ⟨b, o, e, _, hcl⟩ := h3.resolve_left h0
      cases e
      refine (Tryd.slices_Clone_string b o fr.length fc fr w (Nat.le_refl _) (by omega) (fun j hj => by
        have := hcl j hj
        rw [this]
        simp [List.getD, hj])).mono ?_
      rintro e w' ⟨v', rfl, ho, _, hb⟩
      exact ⟨v', rfl, by simpa using ho, hb⟩

set_option maxHeartbeats 4000000 in
theorem parseL_any (s : ByteArray) (fr : List ByteArray) (fa : Option Addr) (fc : Nat) (w : World) (Y : Nat → Prop) (hf : LV Value.string w Y (.slice fa fr.length fc) fr) (hT : Tb w.heap.size w) (hS : Tse w.heap.size w) :
    Calls Tryd.prog 13 #[.string s, .slice fa fr.length fc] w fun e w' => ParsePostL w (lrdAll s fr) e w' := by
  have hmf : ∀ (fn : Fn) (first cap : Array Value) (w : World), (Instr.makeFunc fn first cap).run Tryd.prog w = .ok (.func fn first cap) w := fun _ _ _ _ => rfl
  have HN := hide hf
  have HT := hide hT
  have HS := hide hS
  obtain ⟨r, hr⟩ : ∃ r, r = lrdAll s fr := ⟨_, rfl⟩
  have HR0 : Hid (r = if freE fr ≠ 0 then noLr (freE fr) else if 4000 < s.size then noLr 3 else if (lrd s (3 * s.size + 3) .term fr 0 0).err ≠ 0 then noLr (lrd s (3 * s.size + 3) .term fr 0 0).err else if (lrd s (3 * s.size + 3) .term fr 0 0).pos = s.size then lrd s (3 * s.size + 3) .term fr 0 0 else noLr 12) := by unfold Hid; rw [hr]; rfl
  rw [← hr]
  clear hr hf hT hS
  go_enter_defers Tryd.func13, Tryd.ntmps13
  go_wp2_with fail
  have PT2 := hide (show Blk ((w.alloc (.cells #[.int .i64 0, .int .i64 0, .slice none 0 0] 24)).alloc (.cells #[.int .i64 0] 27)) w.heap.size #[.int .i64 0, .int .i64 0, .slice none 0 0] 24 from (Blk.new w _ _).alloc _)
  have PE2 : Hid (Blk ((w.alloc (.cells #[.int .i64 0, .int .i64 0, .slice none 0 0] 24)).alloc (.cells #[.int .i64 0] 27)) (w.heap.size + 1) #[.int .i64 0] 27) := by
    have h := Blk.new (w.alloc (.cells #[.int .i64 0, .int .i64 0, .slice none 0 0] 24)) #[.int .i64 0] 27
    have hz : (w.alloc (.cells #[.int .i64 0, .int .i64 0, .slice none 0 0] 24)).heap.size = w.heap.size + 1 := by simp
    rw [hz] at h
    exact h
  have PB2 := hide (show Below w.heap.size w ((w.alloc (.cells #[.int .i64 0, .int .i64 0, .slice none 0 0] 24)).alloc (.cells #[.int .i64 0] 27)) from ((Below.refl _ _).alloc (Nat.le_refl _) _).alloc (by simp) _)
  have hz2 : ((w.alloc (.cells #[.int .i64 0, .int .i64 0, .slice none 0 0] 24)).alloc (.cells #[.int .i64 0] 27)).heap.size = w.heap.size + 2 := by simp
  generalize ((w.alloc (.cells #[.int .i64 0, .int .i64 0, .slice none 0 0] 24)).alloc (.cells #[.int .i64 0] 27)) = w2 at *
  refine (lNames_any fr _ _ Y (by exact HN.out.later PB2.out)).mono ?_
  rintro e w3 ⟨rfl, hb3⟩
  have PT3 := hide (PT2.out.below hb3 PT2.out.lt)
  have PE3 := hide (PE2.out.below hb3 PE2.out.lt)
  have PB3 := hide (PB2.out.trans (hb3.mono PB2.out.size))
  have hz3 := hb3.size
  clear hb3 PT2 PE2 PB2
  by_cases h1 : freE fr = 0
  case neg =>
    have HRF : Hid (r = noLr (freE fr)) := by unfold Hid; rw [HR0.out, if_pos h1]
    have hne : (freE fr == 0) = false := by simpa using h1
    have hne2 : (freE fr != 0) = true := by simpa using h1
    go_wp2_with fail
    refine leaves_cons (f := 29) (args := #[.pointer (some ⟨w.heap.size, 0, none⟩), .pointer (some ⟨w.heap.size + 1, 0, none⟩)]) (by simp) (by simp [go_sem]) ?_
    refine (catchL_panicking w.heap.size (w.heap.size + 1) (freE fr) 0 _ _ _ w3 PT3.out PE3.out).mono ?_
    rintro e u' w'' ⟨rfl, rfl, rfl⟩
    have Q := (lt_set3 PT3.out (.int .i64 0) (.int .i64 0) (.slice none 0 0)).setOther (b' := w.heap.size + 1) 0 (.int .i64 (freE fr)) (by omega)
    have q0 := Q.cell 0
    have q1 := Q.cell 1
    have q2 := Q.cell 2
    have q3 := ((lt_set3o (B := w.heap.size) PE3.out (by omega) (.int .i64 0) (.int .i64 0) (.slice none 0 0)).set 0 (.int .i64 (freE fr))).cell 0
    simp at q0 q1 q2 q3
    simp [Leaves, settle, results, Tryd.results13, go_sem, q0, q1, q2, q3]
    exact parseL_no HRF.out h1 (((((PB3.out).setCell (by simp) _).setCell (by simp) _).setCell (by simp) _).setCell (by simp) _).drew
  have HR1 := hide (show r = _ from (HR0.out).trans (if_neg (by rw [h1]; simp)))
  have h40 := (freE_at h1).1
  rw [h1]
  clear HR0 h1
  go_wp2_with fail
  refine (new_anyL s w3).mono ?_
  intro e w4 hp
  unfold NewPostL at hp
  by_cases hs : 4000 < s.size
  case pos =>
    rw [if_pos hs] at hp
    obtain ⟨he, hb4⟩ := hp
    unfold thrownL at he
    subst he
    have HRF : Hid (r = noLr 3) := by unfold Hid; rw [HR1.out, if_pos hs]
    have PT4 := PT3.out.below hb4 PT3.out.lt
    have PE4 := PE3.out.below hb4 PE3.out.lt
    have PB4 := PB3.out.trans (hb4.mono PB3.out.size)
    refine leaves_cons (f := 29) (args := #[.pointer (some ⟨w.heap.size, 0, none⟩), .pointer (some ⟨w.heap.size + 1, 0, none⟩)]) (by simp) (by simp [go_sem]) ?_
    refine (catchL_panicking w.heap.size (w.heap.size + 1) (3) 0 _ _ _ w4 PT4 PE4).mono ?_
    rintro e u' w'' ⟨rfl, rfl, rfl⟩
    have Q := (lt_set3 PT4 (.int .i64 0) (.int .i64 0) (.slice none 0 0)).setOther (b' := w.heap.size + 1) 0 (.int .i64 (3)) (by omega)
    have q0 := Q.cell 0
    have q1 := Q.cell 1
    have q2 := Q.cell 2
    have q3 := ((lt_set3o (B := w.heap.size) PE4 (by omega) (.int .i64 0) (.int .i64 0) (.slice none 0 0)).set 0 (.int .i64 (3))).cell 0
    simp at q0 q1 q2 q3
    simp [Leaves, settle, results, Tryd.results13, go_sem, q0, q1, q2, q3]
    exact parseL_no HRF.out (by decide) (((((PB4).setCell (by simp) _).setCell (by simp) _).setCell (by simp) _).setCell (by simp) _).drew
  rw [if_neg hs] at hp
  obtain ⟨rfl, hb4⟩ := hp
  have HR2 := hide (show r = _ from (HR1.out).trans (if_neg hs))
  have PT4 := hide (PT3.out.below hb4 PT3.out.lt)
  have PE4 := hide (PE3.out.below hb4 PE3.out.lt)
  have PB4 := hide (PB3.out.trans (hb4.mono PB3.out.size))
  have hz4 := hb4.size
  clear hb4 PT3 PE3 PB3 HR1
  go_wp2_with fail
  refine (cloneN_any fr fa fc w4 Y (by omega) (by exact HN.out.later PB4.out)).mono ?_
  rintro e w5 ⟨nv, rfl, ho5, hb5⟩
  have PT5 := hide ((PT4.out.below hb5 PT4.out.lt).alloc (.cells #[.string s, .int .i64 0, .int .i64 0, nv] 61))
  have PE5 := hide ((PE4.out.below hb5 PE4.out.lt).alloc (.cells #[.string s, .int .i64 0, .int .i64 0, nv] 61))
  have hz5 := hb5.size
  have PB5 := hide ((PB4.out.trans (hb5.mono PB4.out.size)).alloc (by omega) (.cells #[.string s, .int .i64 0, .int .i64 0, nv] 61))
  have ZX : Hid (Rst w4.heap.size w5.heap.size s fr 0 0 nv (w5.alloc (.cells #[.string s, .int .i64 0, .int .i64 0, nv] 61))) := by
    have hbb : Below w.heap.size w (w5.alloc (.cells #[.string s, .int .i64 0, .int .i64 0, nv] 61)) := PB5.out
    exact ⟨Blk.new w5 _ _, ho5.alloc _, hz5, by simp; omega, HT.out.raise hbb (by omega), HS.out.raise hbb (by omega)⟩
  have hnv : ∃ a k c, nv = .slice a k c := by
    rcases ho5.2 with ⟨h, _⟩ | ⟨g, cap, cur, h, _⟩
    · exact ⟨_, _, _, h⟩
    · exact ⟨_, _, _, h⟩
  obtain ⟨na, nl, nc, rfl⟩ := hnv
  have hlast := hide (lread_all w4.heap.size w5.heap.size s (by omega) (3 * s.size + 3) (3 * s.size + 3) (Nat.le_refl _)).1
  clear ho5 hb5 PT4 PE4 PB4
  go_wp2_with fail
  have hz6 : (w5.alloc (.cells #[.string s, .int .i64 0, .int .i64 0, .slice na nl nc] 61)).heap.size = w5.heap.size + 1 := by simp
  generalize (w5.alloc (.cells #[.string s, .int .i64 0, .int .i64 0, .slice na nl nc] 61)) = w6 at *
  refine (hlast.out fr _ 0 0 w6 ZX.out (by omega) (by omega) (by omega) (by omega)).mono ?_
  intro e w7 hp
  generalize lrd s (3 * s.size + 3) .term fr 0 0 = q at *
  have hPT := PT5.out.lt
  have hPE := PE5.out.lt
  have hn0 : Hid (∀ b, b < w4.heap.size → some b ≠ (Value.slice na nl nc).ownBlock) := fun b hb e => by have := (ZX.out.own.lt _ e.symm).1; omega
  rcases hp with ⟨hr0, nv7, a, c, rfl, hs7, hst7, hf7⟩ | ⟨hr0, rfl, nv7, hf7⟩
  case inr =>
    have HRF : Hid (r = noLr q.err) := by unfold Hid; rw [HR2.out, if_pos hr0]
    have PT7 := blk_bfr PT5.out hf7 (by omega) (hn0.out _ (by omega))
    have PE7 := blk_bfr PE5.out hf7 (by omega) (hn0.out _ (by omega))
    have PB7 := PB5.out.trans ((ZX.out.fr hf7).mono (by omega))
    refine leaves_cons (f := 29) (args := #[.pointer (some ⟨w.heap.size, 0, none⟩), .pointer (some ⟨w.heap.size + 1, 0, none⟩)]) (by simp) (by simp [go_sem]) ?_
    refine (catchL_panicking w.heap.size (w.heap.size + 1) (q.err) 0 _ _ _ w7 PT7 PE7).mono ?_
    rintro e u' w'' ⟨rfl, rfl, rfl⟩
    have Q := (lt_set3 PT7 (.int .i64 0) (.int .i64 0) (.slice none 0 0)).setOther (b' := w.heap.size + 1) 0 (.int .i64 (q.err)) (by omega)
    have q0 := Q.cell 0
    have q1 := Q.cell 1
    have q2 := Q.cell 2
    have q3 := ((lt_set3o (B := w.heap.size) PE7 (by omega) (.int .i64 0) (.int .i64 0) (.slice none 0 0)).set 0 (.int .i64 (q.err))).cell 0
    simp at q0 q1 q2 q3
    simp [Leaves, settle, results, Tryd.results13, go_sem, q0, q1, q2, q3]
    exact parseL_no HRF.out hr0 (((((PB7).setCell (by simp) _).setCell (by simp) _).setCell (by simp) _).setCell (by simp) _).drew
  have HR3 := hide (show r = _ from (HR2.out).trans (if_neg (by rw [hr0]; simp)))
  have PT7 := hide (blk_bfr PT5.out hf7 (by omega) (hn0.out _ (by omega)))
  have PE7 := hide (blk_bfr PE5.out hf7 (by omega) (hn0.out _ (by omega)))
  have PB7 := hide (PB5.out.trans ((ZX.out.fr hf7).mono (by omega)))
  have X7 := hide hst7.bx
  have HQ0 := hide hr0
  have S7 := hide (hs7.mono (Y := fun b => w.heap.size + 2 ≤ b) fun b hb _ => by omega)
  clear hs7 hst7 hf7 hr0 PT5 PE5 PB5 ZX HR2 hlast
  have t0 : w7.cell? ⟨w.heap.size, 0, none⟩ = some (.int .i64 0) := PT7.out.cell 0
  have t1 : w7.cell? ⟨w.heap.size, 1, none⟩ = some (.int .i64 0) := PT7.out.cell 1
  have t2 : w7.cell? ⟨w.heap.size, 2, none⟩ = some (.slice none 0 0) := PT7.out.cell 2
  have tf := PT7.out.frozen
  go_wp2_with fail
  have PT8 := hide (lt_set3 PT7.out (.int .i64 q.t.kind) (.int .i64 q.t.idx) (.slice a q.t.subs.length c))
  have PE8 := hide (lt_set3o (B := w.heap.size) PE7.out (by omega) (.int .i64 q.t.kind) (.int .i64 q.t.idx) (.slice a q.t.subs.length c))
  have X8 : Hid (Bl nv7 (((w7.setCell ⟨w.heap.size, 0, none⟩ (.int .i64 q.t.kind)).setCell ⟨w.heap.size, 1, none⟩ (.int .i64 q.t.idx)).setCell ⟨w.heap.size, 2, none⟩ (.slice a q.t.subs.length c)) w5.heap.size s q.pos q.k) := lt_set3o X7.out (by omega) _ _ _
  have PB8 := hide (((PB7.out.setCell (p := ⟨w.heap.size, 0, none⟩) (by simp) (.int .i64 q.t.kind)).setCell (p := ⟨w.heap.size, 1, none⟩) (by simp) (.int .i64 q.t.idx)).setCell (p := ⟨w.heap.size, 2, none⟩) (by simp) (.slice a q.t.subs.length c))
  have S8 : Hid (SlM (((w7.setCell ⟨w.heap.size, 0, none⟩ (.int .i64 q.t.kind)).setCell ⟨w.heap.size, 1, none⟩ (.int .i64 q.t.idx)).setCell ⟨w.heap.size, 2, none⟩ (.slice a q.t.subs.length c)) (fun b => w.heap.size + 2 ≤ b) a q.t.subs) := S7.out.kept fun b hb => by rw [Below.heap_setCell _ _ _ _ (by simp; omega), Below.heap_setCell _ _ _ _ (by simp; omega), Below.heap_setCell _ _ _ _ (by simp; omega)]
  clear t0 t1 t2 tf
  generalize (((w7.setCell ⟨w.heap.size, 0, none⟩ (.int .i64 q.t.kind)).setCell ⟨w.heap.size, 1, none⟩ (.int .i64 q.t.idx)).setCell ⟨w.heap.size, 2, none⟩ (.slice a q.t.subs.length c)) = w8 at *
  clear PT7 PE7 X7 PB7 S7
  by_cases hps : q.pos = s.size
  case neg =>
    refine (end_noL w5.heap.size q.pos q.k s hps _ X8.out).mono ?_
    rintro e w9 ⟨he, n9, rfl⟩
    unfold thrownL at he
    subst he
    have HRF : Hid (r = noLr 12) := by unfold Hid; rw [HR3.out, if_neg hps]
    have PT9 := PT8.out.drewN n9
    have PE9 := PE8.out.drewN n9
    have PB9 := below_drewN PB8.out n9
    generalize w8.drewN n9 = w9 at *
    refine leaves_cons (f := 29) (args := #[.pointer (some ⟨w.heap.size, 0, none⟩), .pointer (some ⟨w.heap.size + 1, 0, none⟩)]) (by simp) (by simp [go_sem]) ?_
    refine (catchL_panicking w.heap.size (w.heap.size + 1) (12) 0 _ _ _ w9 PT9 PE9).mono ?_
    rintro e u' w'' ⟨rfl, rfl, rfl⟩
    have Q := (lt_set3 PT9 (.int .i64 0) (.int .i64 0) (.slice none 0 0)).setOther (b' := w.heap.size + 1) 0 (.int .i64 (12)) (by omega)
    have q0 := Q.cell 0
    have q1 := Q.cell 1
    have q2 := Q.cell 2
    have q3 := ((lt_set3o (B := w.heap.size) PE9 (by omega) (.int .i64 0) (.int .i64 0) (.slice none 0 0)).set 0 (.int .i64 (12))).cell 0
    simp at q0 q1 q2 q3
    simp [Leaves, settle, results, Tryd.results13, go_sem, q0, q1, q2, q3]
    exact parseL_no HRF.out (by decide) (((((PB9).setCell (by simp) _).setCell (by simp) _).setCell (by simp) _).setCell (by simp) _).drew
  refine (end_yesL w5.heap.size q.pos q.k s hps _ X8.out).mono ?_
  rintro e w9 ⟨⟨v9, rfl⟩, n9, rfl⟩
  have PT9 := hide (PT8.out.drewN n9)
  have PE9 := hide (PE8.out.drewN n9)
  have PB9 := hide (below_drewN PB8.out n9)
  have S9 : Hid (SlM (w8.drewN n9) (fun b => w.heap.size + 2 ≤ b) a q.t.subs) := S8.out.kept fun b hb => rfl
  generalize w8.drewN n9 = w9 at *
  clear PT8 PE8 PB8 S8 X8
  have t0 : w9.cell? ⟨w.heap.size, 0, none⟩ = some (.int .i64 q.t.kind) := PT9.out.cell 0
  have t1 : w9.cell? ⟨w.heap.size, 1, none⟩ = some (.int .i64 q.t.idx) := PT9.out.cell 1
  have t2 : w9.cell? ⟨w.heap.size, 2, none⟩ = some (.slice a q.t.subs.length c) := PT9.out.cell 2
  have tf := PT9.out.frozen
  have e0 : w9.cell? ⟨w.heap.size + 1, 0, none⟩ = some (.int .i64 0) := PE9.out.cell 0
  have ef := PE9.out.frozen
  have HRF : Hid (r = q) := by unfold Hid; rw [HR3.out, if_pos hps]
  go_wp2_with fail
  refine leaves_cons (f := 29) (args := #[.pointer (some ⟨w.heap.size, 0, none⟩), .pointer (some ⟨w.heap.size + 1, 0, none⟩)]) (by simp) (by simp [go_sem]) ?_
  refine (catchL_idle w.heap.size (w.heap.size + 1) _).mono ?_
  rintro e u' w'' ⟨rfl, rfl, rfl⟩
  have Q := (lt_set3 PT9.out (.int .i64 q.t.kind) (.int .i64 q.t.idx) (.slice a q.t.subs.length c)).setOther (b' := w.heap.size + 1) 0 (.int .i64 0) (by omega)
  have q0 := Q.cell 0
  have q1 := Q.cell 1
  have q2 := Q.cell 2
  have q3 := ((lt_set3o (B := w.heap.size) PE9.out (by omega) (.int .i64 q.t.kind) (.int .i64 q.t.idx) (.slice a q.t.subs.length c)).set 0 (.int .i64 0)).cell 0
  simp at q0 q1 q2 q3
  simp [Leaves, settle, results, Tryd.results13, go_sem, q0, q1, q2, q3]
  refine ⟨.agg #[.int .i64 q.t.kind, .int .i64 q.t.idx, .slice a q.t.subs.length c], by rw [HRF.out, HQ0.out], fun _ => ?_, fun h => absurd (by rw [HRF.out]; exact HQ0.out) h, (((PB9.out.setCell (by simp) _).setCell (by simp) _).setCell (by simp) _).setCell (by simp) _⟩
  rw [HRF.out]
  exact ⟨a, c, rfl, (S9.out.kept fun b hb => by rw [Below.heap_setCell _ _ _ _ (by simp; omega), Below.heap_setCell _ _ _ _ (by simp; omega), Below.heap_setCell _ _ _ _ (by simp; omega), Below.heap_setCell _ _ _ _ (by simp; omega)]).mono fun b hb _ => by omega⟩
#print axioms parseL_any
end Go.Proofs.YtagffgabceodfaaDoor

/- Walks: the document's reader of lambda terms: a text. -/
namespace Go.Proofs.YtagffgabceodfaaDoor
open Go.RowKit
set_option linter.unusedSimpArgs false
set_option linter.unusedVariables false
set_option maxRecDepth 8000

theorem dread_all (B : Nat) (s : ByteArray) (hs : s.size ≤ 4000) : ∀ F, (∀ F', F' ≤ F → DTerm B s F' ∧ DPiece B s F') := by
  intro F
  induction F with
  | zero =>
    intro F' hF'
    have : F' = 0 := by omega
    subst this
    exact ⟨fun nm na nc i k w Y h h1 h2 h3 h4 h5 h6 => by omega, fun nm na nc i k w Y h h1 h2 h3 h4 h5 h6 => by omega⟩
  | succ F ih =>
    intro F' hF'
    by_cases h : F' = F + 1
    · subst h
      exact ⟨dterm_of B s hs F (ih F (Nat.le_refl _)).1 (fun F' h => (ih F' h).2), dpiece_of B s hs F (ih F (Nat.le_refl _)).1⟩
    · exact ih F' (by omega)

set_option maxHeartbeats 4000000 in
theorem lamRead_any (s : ByteArray) (fr : List ByteArray) (fa : Option Addr) (fc : Nat) (w : World) (Y : Nat → Prop) (hf : LV Value.string w Y (.slice fa fr.length fc) fr) :
    Calls Tryd.prog 14 #[.string s, .slice fa fr.length fc] w fun e w' => ParsePostL w (lrdAll s fr) e w' := by
  have HN := hide (hf.mono (Y := fun b => b < w.heap.size) fun b _ h => h)
  obtain ⟨r, hr⟩ : ∃ r, r = lrdAll s fr := ⟨_, rfl⟩
  have HR0 : Hid (r = if freE fr ≠ 0 then noLr (freE fr) else if 4000 < s.size then noLr 3 else if (lrd s (3 * s.size + 3) .term fr 0 0).err ≠ 0 then noLr (lrd s (3 * s.size + 3) .term fr 0 0).err else if (lrd s (3 * s.size + 3) .term fr 0 0).pos = s.size then lrd s (3 * s.size + 3) .term fr 0 0 else noLr 12) := by unfold Hid; rw [hr]; rfl
  rw [← hr]
  have R0 := hide (Blk.new w #[.int .i64 0, .int .i64 0, .slice none 0 0] 24)
  have B0 := hide ((Below.refl w.heap.size w).alloc (Nat.le_refl _) (.cells #[.int .i64 0, .int .i64 0, .slice none 0 0] 24))
  clear hr hf
  go_enter Tryd.func14, Tryd.ntmps14
  go_wp2_with fail
  generalize w.alloc (.cells #[.int .i64 0, .int .i64 0, .slice none 0 0] 24) = w0 at *
  refine (freeMay_any fr _ _ _ (by exact HN.out.later B0.out)).mono ?_
  rintro e w1 ⟨rfl, hb1⟩
  have B1 := hide (B0.out.trans (hb1.mono B0.out.size))
  have R1 := hide (R0.out.below hb1 R0.out.lt)
  have r0 : w1.cell? ⟨w.heap.size, 0, none⟩ = some (.int .i64 0) := R1.out.cell 0
  have r1 : w1.cell? ⟨w.heap.size, 1, none⟩ = some (.int .i64 0) := R1.out.cell 1
  have r2 : w1.cell? ⟨w.heap.size, 2, none⟩ = some (.slice none 0 0) := R1.out.cell 2
  have rf := R1.out.frozen
  clear hb1 R0 B0
  by_cases h1 : freE fr = 0
  case neg =>
    have HRF : Hid (r = noLr (freE fr)) := by unfold Hid; rw [HR0.out, if_pos h1]
    have hne2 : (freE fr != 0) = true := by simpa using h1
    have HN1 := hide h1
    clear h1
    go_wp2_with fail
    refine bodyPost_ret (v := .tuple #[.agg #[.int .i64 0, .int .i64 0, .slice none 0 0], .int .i64 (freE fr)]) (by simp [results, Tryd.results14, go_sem, World.cell?_setCell_same, World.cell?_setCell_other, r0, r1, r2]) rfl ?_
    exact parseL_no HRF.out HN1.out (((B1.out.setCell (by simp) _).setCell (by simp) _).setCell (by simp) _)
  have HR1 := hide (show r = _ from (HR0.out).trans (if_neg (by rw [h1]; simp)))
  have h40 := (freE_at h1).1
  rw [h1]
  clear HR0 h1
  by_cases hs : 4000 < s.size
  case pos =>
    have HRF : Hid (r = noLr 3) := by unfold Hid; rw [HR1.out, if_pos hs]
    go_wp2_with fail
    refine bodyPost_ret (v := .tuple #[.agg #[.int .i64 0, .int .i64 0, .slice none 0 0], .int .i64 3]) (by simp [results, Tryd.results14, go_sem, World.cell?_setCell_same, World.cell?_setCell_other, r0, r1, r2]) rfl ?_
    exact parseL_no HRF.out (by decide) (((B1.out.setCell (by simp) _).setCell (by simp) _).setCell (by simp) _)
  have HR2 := hide (show r = _ from (HR1.out).trans (if_neg hs))
  clear HR1
  have D2 : Hid (Ds (w1.alloc (.cells #[.string s, .int .i64 0, .int .i64 0, .int .i64 0] 65)) w1.heap.size s ((0 : Nat) : Int) ((0 : Nat) : Int) 0) := Blk.new w1 _ _
  have B2 := hide (B1.out.alloc B1.out.size (.cells #[.string s, .int .i64 0, .int .i64 0, .int .i64 0] 65))
  have R2 := hide (R1.out.alloc (.cells #[.string s, .int .i64 0, .int .i64 0, .int .i64 0] 65))
  have hz1 := B1.out.size
  have hlr := R1.out.lt
  clear r0 r1 r2 rf
  go_wp2_with fail
  have hz2 : (w1.alloc (.cells #[.string s, .int .i64 0, .int .i64 0, .int .i64 0] 65)).heap.size = w1.heap.size + 1 := by simp
  generalize (w1.alloc (.cells #[.string s, .int .i64 0, .int .i64 0, .int .i64 0] 65)) = w2 at *
  generalize w1.heap.size = B at *
  clear R1 B1
  refine ((dread_all B s (by omega) (3 * s.size + 3) (3 * s.size + 3) (Nat.le_refl _)).1 fr fa fc 0 0 w2 _ D2.out (HN.out.later B2.out) (fun b hb => by omega) (by omega) (by omega) (by omega) (by omega)).mono ?_
  rintro e w3 ⟨a, c, t, i', k', rfl, hs3, hd3, hr3, hx3⟩
  have HPO := hide (lrd_pos s (3 * s.size + 3) .term fr 0 0)
  generalize lrd s (3 * s.size + 3) .term fr 0 0 = q at *
  have hz3 := hx3.size
  have D3 : Hid (Ds (w3.alloc (.cells #[.int .i64 t.kind, .int .i64 t.idx, .slice a t.subs.length c] 24)) B s i' k' q.err) := hd3.alloc _
  have B3 : Hid (Below w.heap.size w (w3.alloc (.cells #[.int .i64 t.kind, .int .i64 t.idx, .slice a t.subs.length c] 24))) := by
    have h2 : Below w.heap.size w2 w3 := ⟨hx3.os, hx3.tape, hx3.output, hx3.size, fun b hb => hx3.block b (by omega) (by omega)⟩
    exact (B2.out.trans h2).alloc (by omega) _
  have R3 := hide ((R2.out.ex hx3 (by omega)).alloc (.cells #[.int .i64 t.kind, .int .i64 t.idx, .slice a t.subs.length c] 24))
  have T3 := hide (Blk.new w3 #[.int .i64 t.kind, .int .i64 t.idx, .slice a t.subs.length c] 24)
  have S3 := hide ((hs3.later ((Below.refl _ _).alloc (Nat.le_refl _) (.cells #[.int .i64 t.kind, .int .i64 t.idx, .slice a t.subs.length c] 24))).mono (Y := fun b => w.heap.size < b) fun b hb _ => by omega)
  have HQ := hide hr3
  have c1 := fun o => (hd3.alloc o).c1
  have c3 := fun o => (hd3.alloc o).c3
  have cf := fun o i => Blk.frozen (hd3.alloc o) i
  by_cases hq : q.err = 0
  case neg =>
    have HRF : Hid (r = noLr q.err) := by unfold Hid; rw [HR2.out, if_pos hq]
    have HQN := hide hq
    have hqb : (q.err == 0) = false := by simpa using hq
    have hqb2 : (q.err != 0) = true := by simpa using hq
    clear hs3 hd3 hr3 hx3 hq
    go_wp2_with fail
    clear c1 c3 cf
    generalize (w3.alloc (.cells #[.int .i64 t.kind, .int .i64 t.idx, .slice a t.subs.length c] 24)) = w4 at *
    have c3 := D3.out.c3
    have r0 : w4.cell? ⟨w.heap.size, 0, none⟩ = some (.int .i64 0) := R3.out.cell 0
    have r1 : w4.cell? ⟨w.heap.size, 1, none⟩ = some (.int .i64 0) := R3.out.cell 1
    have r2 : w4.cell? ⟨w.heap.size, 2, none⟩ = some (.slice none 0 0) := R3.out.cell 2
    have rf := Blk.frozen R3.out
    go_region
    go_wp2_with fail
    all_goals
      refine bodyPost_ret (v := .tuple #[.agg #[.int .i64 0, .int .i64 0, .slice none 0 0], .int .i64 q.err]) (by simp [results, Tryd.results14, go_sem, World.cell?_setCell_same, World.cell?_setCell_other, r0, r1, r2]) rfl ?_
      exact parseL_no HRF.out HQN.out ((((B3.out.setCell (by simp) _).setCell (by simp) _).setCell (by simp) _).drew)
  obtain ⟨rfl, rfl, rfl⟩ := hr3 hq
  have HR3 := hide (show r = _ from (HR2.out).trans (if_neg (by rw [hq]; simp)))
  have hpos := HPO.out hq (by omega) (by omega)
  have HQ0 := hide hq
  rw [hq] at D3
  simp only [hq] at c3
  clear hs3 hd3 hr3 hx3 hq HQ HR2 HPO
  by_cases hp : q.pos = s.size
  · have HRF : Hid (r = q) := by unfold Hid; rw [HR3.out, if_pos hp]
    have hpl : ¬ q.pos < s.size := by omega
    have t0 := T3.out.cell 0
    have t1 := T3.out.cell 1
    have t2 := T3.out.cell 2
    simp only [List.getElem?_toArray, List.getElem?_cons_succ, List.getElem?_cons_zero] at t0 t1 t2
    have r0 : (w3.alloc (.cells #[.int .i64 q.t.kind, .int .i64 q.t.idx, .slice a q.t.subs.length c] 24)).cell? ⟨w.heap.size, 0, none⟩ = some (.int .i64 0) := R3.out.cell 0
    have r1 : (w3.alloc (.cells #[.int .i64 q.t.kind, .int .i64 q.t.idx, .slice a q.t.subs.length c] 24)).cell? ⟨w.heap.size, 1, none⟩ = some (.int .i64 0) := R3.out.cell 1
    have r2 : (w3.alloc (.cells #[.int .i64 q.t.kind, .int .i64 q.t.idx, .slice a q.t.subs.length c] 24)).cell? ⟨w.heap.size, 2, none⟩ = some (.slice none 0 0) := R3.out.cell 2
    have rf := Blk.frozen R3.out
    go_wp2_with fail
    refine bodyPost_ret (v := .tuple #[.agg #[.int .i64 q.t.kind, .int .i64 q.t.idx, .slice a q.t.subs.length c], .int .i64 0]) (by simp [results, Tryd.results14, go_sem, World.cell?_setCell_same, World.cell?_setCell_other, r0, r1, r2]) rfl ?_
    rw [HRF.out]
    refine ⟨_, by rw [HQ0.out], fun _ => ⟨a, c, rfl, (S3.out.kept fun b hb => ?_).mono fun b hb _ => Nat.le_of_lt hb⟩, fun h => absurd HQ0.out h, ((B3.out.setCell (by simp) _).setCell (by simp) _).setCell (by simp) _⟩
    rw [Below.heap_setCell _ _ _ _ (by simp; omega), Below.heap_setCell _ _ _ _ (by simp; omega), Below.heap_setCell _ _ _ _ (by simp; omega)]
  · have HRF : Hid (r = noLr 12) := by unfold Hid; rw [HR3.out, if_neg hp]
    have hpl : q.pos < s.size := by omega
    go_wp2_with fail
    have D4 := hide (D3.out.err 12)
    have R4 := hide (R3.out.setOther (b' := B) 3 (.int .i64 12) (by omega))
    have B4 := hide (B3.out.setCell (p := ⟨B, 3, none⟩) (by simp; omega) (.int .i64 12))
    clear c1 c3 cf
    generalize (w3.alloc (.cells #[.int .i64 q.t.kind, .int .i64 q.t.idx, .slice a q.t.subs.length c] 24)).setCell ⟨B, 3, none⟩ (.int .i64 12) = w4 at *
    have c3 := D4.out.c3
    have r0 : w4.cell? ⟨w.heap.size, 0, none⟩ = some (.int .i64 0) := R4.out.cell 0
    have r1 : w4.cell? ⟨w.heap.size, 1, none⟩ = some (.int .i64 0) := R4.out.cell 1
    have r2 : w4.cell? ⟨w.heap.size, 2, none⟩ = some (.slice none 0 0) := R4.out.cell 2
    have rf := Blk.frozen R4.out
    go_region
    go_wp2_with fail
    all_goals
      refine bodyPost_ret (v := .tuple #[.agg #[.int .i64 0, .int .i64 0, .slice none 0 0], .int .i64 12]) (by simp [results, Tryd.results14, go_sem, World.cell?_setCell_same, World.cell?_setCell_other, r0, r1, r2]) rfl ?_
      exact parseL_no HRF.out (by decide) ((((B4.out.setCell (by simp) _).setCell (by simp) _).setCell (by simp) _).drew)
#print axioms lamRead_any
end Go.Proofs.YtagffgabceodfaaDoor

/- Walks: the law LambdaParses. -/
namespace Go.Proofs.YtagffgabceodfaaDoor
open Go.RowKit
set_option linter.unusedSimpArgs false
set_option linter.unusedVariables false
set_option maxRecDepth 8000

set_option maxHeartbeats 4000000 in
theorem lambdaParses_any (s : ByteArray) (fr : List ByteArray) (fa : Option Addr) (fc : Nat) (w : World) (Y : Nat → Prop) (hf : LV Value.string w Y (.slice fa fr.length fc) fr) (hT : Tb w.heap.size w) (hS : Tse w.heap.size w) :
    Calls Tryd.prog 4 #[.string s, .slice fa fr.length fc] w fun e w' => e = .returned (.bool true) ∧ Below w.heap.size w w' := by
  have HN := hide hf
  have HC1 := hide (parseL_any s fr fa fc w Y hf hT hS)
  have HC2 := hide (fun (w' : World) (hw : LV Value.string w' Y (.slice fa fr.length fc) fr) => lamRead_any s fr fa fc w' Y hw)
  generalize lrdAll s fr = r at HC1 HC2
  have hl := hf
  obtain ⟨a2, c2, e2, ⟨hl1, hl2⟩, _⟩ := hl
  clear hf hT hS e2 hl2
  go_enter Tryd.func4, Tryd.ntmps4
  by_cases hfl : 100 < fr.length
  · have hfl' : (100 : Int) < (fr.length : Int) := by omega
    go_wp2_with fail
    go_ret
    exact ⟨rfl, Below.refl _ _⟩
  have hfl' : ¬ (100 : Int) < (fr.length : Int) := by omega
  by_cases h1 : 1500 < s.size
  · by_cases h2 : s.size ≤ 4000
    · go_wp2_with fail
      go_ret
      exact ⟨rfl, Below.refl _ _⟩
    · skip
      go_wp2_with fail
      refine HC1.out.mono ?_
      rintro e w1 ⟨v, rfl, hok, hno, hb1⟩
      by_cases he : r.err = 0
      · have HE := hide he
        obtain ⟨a, c, rfl, hs1⟩ := hok he
        rw [he]
        clear he hok hno
        have T1 := hide (Blk.new w1 #[.int .i64 r.t.kind, .int .i64 r.t.idx, .slice a r.t.subs.length c] 24)
        have B2 := hide (hb1.alloc hb1.size (.cells #[.int .i64 r.t.kind, .int .i64 r.t.idx, .slice a r.t.subs.length c] 24))
        have S1 := hide (hs1.later ((Below.refl _ _).alloc (Nat.le_refl _) (.cells #[.int .i64 r.t.kind, .int .i64 r.t.idx, .slice a r.t.subs.length c] 24)))
        clear hs1
        clear hb1
        go_wp2_with fail
        have hz2 : (w1.alloc (.cells #[.int .i64 r.t.kind, .int .i64 r.t.idx, .slice a r.t.subs.length c] 24)).heap.size = w1.heap.size + 1 := by simp
        generalize w1.alloc (.cells #[.int .i64 r.t.kind, .int .i64 r.t.idx, .slice a r.t.subs.length c] 24) = w2 at *
        generalize w1.heap.size = T at *
        refine (HC2.out w2 (HN.out.later B2.out)).mono ?_
        rintro e w3 ⟨v3, rfl, hok3, hno3, hb3⟩
        obtain ⟨a3, c3, rfl, hs3⟩ := hok3 HE.out
        clear hok3 hno3
        rw [HE.out]
        have T1' := hide ((T1.out.below hb3 T1.out.lt).alloc (.cells #[.int .i64 r.t.kind, .int .i64 r.t.idx, .slice a3 r.t.subs.length c3] 24))
        have T3 := hide (Blk.new w3 #[.int .i64 r.t.kind, .int .i64 r.t.idx, .slice a3 r.t.subs.length c3] 24)
        have B4 := hide ((B2.out.trans (hb3.mono B2.out.size)).alloc (by have := B2.out.size; have := hb3.size; omega) (.cells #[.int .i64 r.t.kind, .int .i64 r.t.idx, .slice a3 r.t.subs.length c3] 24))
        have S1' := hide ((S1.out.later hb3).later ((Below.refl _ _).alloc (Nat.le_refl _) (.cells #[.int .i64 r.t.kind, .int .i64 r.t.idx, .slice a3 r.t.subs.length c3] 24)))
        have S3 := hide (hs3.later ((Below.refl _ _).alloc (Nat.le_refl _) (.cells #[.int .i64 r.t.kind, .int .i64 r.t.idx, .slice a3 r.t.subs.length c3] 24)))
        clear hs3
        have q0 := T1'.out.cell 0
        have q1 := T1'.out.cell 1
        have q2 := T1'.out.cell 2
        have p0 := T3.out.cell 0
        have p1 := T3.out.cell 1
        have p2 := T3.out.cell 2
        simp only [List.getElem?_toArray, List.getElem?_cons_succ, List.getElem?_cons_zero] at q0 q1 q2 p0 p1 p2
        clear hb3
        go_wp2_with fail
        refine (lam2_ok r.t _ _ _ _ _ ⟨a, c, rfl, S1'.out⟩ ⟨a3, c3, rfl, S3.out⟩).mono ?_
        rintro e w5 ⟨rfl, hb5⟩
        have HB5 := hide (B4.out.trans (hb5.mono B4.out.size))
        clear hb5
        go_wp2_with fail
        go_ret
        exact ⟨rfl, HB5.out⟩
      · have HE := hide he
        obtain rfl := hno he
        clear he hok hno
        have T1 := hide (Blk.new w1 #[.int .i64 0, .int .i64 0, .slice none 0 0] 24)
        have B2 := hide (hb1.alloc hb1.size (.cells #[.int .i64 0, .int .i64 0, .slice none 0 0] 24))
        clear hb1
        go_wp2_with fail
        have hz2 : (w1.alloc (.cells #[.int .i64 0, .int .i64 0, .slice none 0 0] 24)).heap.size = w1.heap.size + 1 := by simp
        generalize w1.alloc (.cells #[.int .i64 0, .int .i64 0, .slice none 0 0] 24) = w2 at *
        generalize w1.heap.size = T at *
        refine (HC2.out w2 (HN.out.later B2.out)).mono ?_
        rintro e w3 ⟨v3, rfl, hok3, hno3, hb3⟩
        obtain rfl := hno3 HE.out
        clear hok3 hno3
        have T1' := hide ((T1.out.below hb3 T1.out.lt).alloc (.cells #[.int .i64 0, .int .i64 0, .slice none 0 0] 24))
        have T3 := hide (Blk.new w3 #[.int .i64 0, .int .i64 0, .slice none 0 0] 24)
        have B4 := hide ((B2.out.trans (hb3.mono B2.out.size)).alloc (by have := B2.out.size; have := hb3.size; omega) (.cells #[.int .i64 0, .int .i64 0, .slice none 0 0] 24))
        have q0 := T1'.out.cell 0
        have q1 := T1'.out.cell 1
        have q2 := T1'.out.cell 2
        have p0 := T3.out.cell 0
        have p1 := T3.out.cell 1
        have p2 := T3.out.cell 2
        simp only [List.getElem?_toArray, List.getElem?_cons_succ, List.getElem?_cons_zero] at q0 q1 q2 p0 p1 p2
        clear hb3
        go_wp2_with fail
        refine (lam2_err r.err _ 0 0 none 0 0 rfl _ HE.out).mono ?_
        rintro e w5 ⟨rfl, hb5⟩
        have HB5 := hide (B4.out.trans (hb5.mono B4.out.size))
        clear hb5
        go_wp2_with fail
        go_ret
        exact ⟨rfl, HB5.out⟩
  · skip
    go_wp2_with fail
    refine HC1.out.mono ?_
    rintro e w1 ⟨v, rfl, hok, hno, hb1⟩
    by_cases he : r.err = 0
    · have HE := hide he
      obtain ⟨a, c, rfl, hs1⟩ := hok he
      rw [he]
      clear he hok hno
      have T1 := hide (Blk.new w1 #[.int .i64 r.t.kind, .int .i64 r.t.idx, .slice a r.t.subs.length c] 24)
      have B2 := hide (hb1.alloc hb1.size (.cells #[.int .i64 r.t.kind, .int .i64 r.t.idx, .slice a r.t.subs.length c] 24))
      have S1 := hide (hs1.later ((Below.refl _ _).alloc (Nat.le_refl _) (.cells #[.int .i64 r.t.kind, .int .i64 r.t.idx, .slice a r.t.subs.length c] 24)))
      clear hs1
      clear hb1
      go_wp2_with fail
      have hz2 : (w1.alloc (.cells #[.int .i64 r.t.kind, .int .i64 r.t.idx, .slice a r.t.subs.length c] 24)).heap.size = w1.heap.size + 1 := by simp
      generalize w1.alloc (.cells #[.int .i64 r.t.kind, .int .i64 r.t.idx, .slice a r.t.subs.length c] 24) = w2 at *
      generalize w1.heap.size = T at *
      refine (HC2.out w2 (HN.out.later B2.out)).mono ?_
      rintro e w3 ⟨v3, rfl, hok3, hno3, hb3⟩
      obtain ⟨a3, c3, rfl, hs3⟩ := hok3 HE.out
      clear hok3 hno3
      rw [HE.out]
      have T1' := hide ((T1.out.below hb3 T1.out.lt).alloc (.cells #[.int .i64 r.t.kind, .int .i64 r.t.idx, .slice a3 r.t.subs.length c3] 24))
      have T3 := hide (Blk.new w3 #[.int .i64 r.t.kind, .int .i64 r.t.idx, .slice a3 r.t.subs.length c3] 24)
      have B4 := hide ((B2.out.trans (hb3.mono B2.out.size)).alloc (by have := B2.out.size; have := hb3.size; omega) (.cells #[.int .i64 r.t.kind, .int .i64 r.t.idx, .slice a3 r.t.subs.length c3] 24))
      have S1' := hide ((S1.out.later hb3).later ((Below.refl _ _).alloc (Nat.le_refl _) (.cells #[.int .i64 r.t.kind, .int .i64 r.t.idx, .slice a3 r.t.subs.length c3] 24)))
      have S3 := hide (hs3.later ((Below.refl _ _).alloc (Nat.le_refl _) (.cells #[.int .i64 r.t.kind, .int .i64 r.t.idx, .slice a3 r.t.subs.length c3] 24)))
      clear hs3
      have q0 := T1'.out.cell 0
      have q1 := T1'.out.cell 1
      have q2 := T1'.out.cell 2
      have p0 := T3.out.cell 0
      have p1 := T3.out.cell 1
      have p2 := T3.out.cell 2
      simp only [List.getElem?_toArray, List.getElem?_cons_succ, List.getElem?_cons_zero] at q0 q1 q2 p0 p1 p2
      clear hb3
      go_wp2_with fail
      refine (lam2_ok r.t _ _ _ _ _ ⟨a, c, rfl, S1'.out⟩ ⟨a3, c3, rfl, S3.out⟩).mono ?_
      rintro e w5 ⟨rfl, hb5⟩
      have HB5 := hide (B4.out.trans (hb5.mono B4.out.size))
      clear hb5
      go_wp2_with fail
      go_ret
      exact ⟨rfl, HB5.out⟩
    · have HE := hide he
      obtain rfl := hno he
      clear he hok hno
      have T1 := hide (Blk.new w1 #[.int .i64 0, .int .i64 0, .slice none 0 0] 24)
      have B2 := hide (hb1.alloc hb1.size (.cells #[.int .i64 0, .int .i64 0, .slice none 0 0] 24))
      clear hb1
      go_wp2_with fail
      have hz2 : (w1.alloc (.cells #[.int .i64 0, .int .i64 0, .slice none 0 0] 24)).heap.size = w1.heap.size + 1 := by simp
      generalize w1.alloc (.cells #[.int .i64 0, .int .i64 0, .slice none 0 0] 24) = w2 at *
      generalize w1.heap.size = T at *
      refine (HC2.out w2 (HN.out.later B2.out)).mono ?_
      rintro e w3 ⟨v3, rfl, hok3, hno3, hb3⟩
      obtain rfl := hno3 HE.out
      clear hok3 hno3
      have T1' := hide ((T1.out.below hb3 T1.out.lt).alloc (.cells #[.int .i64 0, .int .i64 0, .slice none 0 0] 24))
      have T3 := hide (Blk.new w3 #[.int .i64 0, .int .i64 0, .slice none 0 0] 24)
      have B4 := hide ((B2.out.trans (hb3.mono B2.out.size)).alloc (by have := B2.out.size; have := hb3.size; omega) (.cells #[.int .i64 0, .int .i64 0, .slice none 0 0] 24))
      have q0 := T1'.out.cell 0
      have q1 := T1'.out.cell 1
      have q2 := T1'.out.cell 2
      have p0 := T3.out.cell 0
      have p1 := T3.out.cell 1
      have p2 := T3.out.cell 2
      simp only [List.getElem?_toArray, List.getElem?_cons_succ, List.getElem?_cons_zero] at q0 q1 q2 p0 p1 p2
      clear hb3
      go_wp2_with fail
      refine (lam2_err r.err _ 0 0 none 0 0 rfl _ HE.out).mono ?_
      rintro e w5 ⟨rfl, hb5⟩
      have HB5 := hide (B4.out.trans (hb5.mono B4.out.size))
      clear hb5
      go_wp2_with fail
      go_ret
      exact ⟨rfl, HB5.out⟩

theorem lambdaParses_v (s : ByteArray) (fr : List ByteArray) (x : Value) (w : World) (Y : Nat → Prop) (hf : LV Value.string w Y x fr) (hT : Tb w.heap.size w) (hS : Tse w.heap.size w) :
    Calls Tryd.prog 4 #[.string s, x] w fun e w' => e = .returned (.bool true) ∧ Below w.heap.size w w' := by
  obtain ⟨fa, fc, rfl, h⟩ := hf
  exact lambdaParses_any s fr fa fc w Y ⟨fa, fc, rfl, h⟩ hT hS
#print axioms lambdaParses_any
end Go.Proofs.YtagffgabceodfaaDoor


/- Terms and lists of numbers as they are read before the call. -/
namespace Go.Proofs.YtagffgabceodfaaDoor
open Go.ChangeShapes Go.WideShapes Go.ChangeAt Go.RowKit
set_option linter.unusedSimpArgs false
set_option linter.unusedVariables false
set_option maxRecDepth 8000

theorem Tryd.cellsStr : Tryd.prog.cellsOf 9 = 1 := by kernel_rfl
theorem Tryd.cellsInt : Tryd.prog.cellsOf 3 = 1 := by kernel_rfl

theorem cells2 {w : World} {a : Addr} {cs : List Value} (h : w.cells? 0 a 2 = some cs) : ∃ c0 c1, cs = [c0, c1] ∧ w.cell? a = some c0 ∧ w.cell? (a.add 1) = some c1 := by
  have e : (List.range 2) = [0, 1] := rfl
  simp only [World.cells?, Nat.zero_le, if_true, e] at h
  simp only [List.mapM_cons, List.mapM_nil, Option.bind_eq_bind, Option.bind_eq_some_iff, Option.pure_def] at h
  obtain ⟨c0, h0, r, ⟨c1, h1, r2, h2, h3⟩, h4⟩ := h
  simp only [Option.some.injEq] at h2 h3 h4
  subst h2; subst h3; subst h4
  exact ⟨c0, c1, rfl, by simpa [Addr.add] using h0, h1⟩

theorem cells1 {w : World} {a : Addr} {cs : List Value} (h : w.cells? 0 a 1 = some cs) : ∃ c0, cs = [c0] ∧ w.cell? a = some c0 := by
  have e : (List.range 1) = [0] := rfl
  simp only [World.cells?, Nat.zero_le, if_true, e] at h
  simp only [List.mapM_cons, List.mapM_nil, Option.bind_eq_bind, Option.bind_eq_some_iff, Option.pure_def] at h
  obtain ⟨c0, h0, r, h1, h2⟩ := h
  simp only [Option.some.injEq] at h1 h2
  subst h1; subst h2
  exact ⟨c0, rfl, by simpa [Addr.add] using h0⟩

theorem open_pv {H : Type} {enc : TypeId × Value → H} {w : World} {sp : Nat → Bool} {held : Bool} {r : Reach} {b0 : Nat} {v : Value} {d : DataW H} {p : List MemPlace} (hv : Value.okWide Tryd.prog w r b0 39 v) (h : DataW.Trod enc Tryd.prog w 0 sp held 39 v d p) : ∃ zs, PV w (fun _ => True) v zs := by
  obtain ⟨a0, len0, cap0, rfl⟩ := okWide_slice Tryd.underlying39 hv
  obtain ⟨fuel, hf⟩ := h
  rcases DataW.trod_slice Tryd.underlying39 hf with ⟨e1, _⟩ | ⟨a, len, cap, elems, rest, n2, hn2, e1, _, hb, hlc, hcm, hel, helem, _⟩
  · simp [Value.cells] at e1
    obtain ⟨rfl, rfl, rfl⟩ := e1
    exact ⟨[], none, 0, rfl, by simp, Or.inl rfl⟩
  · simp [Value.cells] at e1
    obtain ⟨rfl, rfl, rfl⟩ := e1
    unfold maxLen at hcm
    rw [Tryd.cellsInt] at helem
    have key : ∀ i, ∃ z : Int, i < len0 → w.cell? (a.add i) = some (.int .i64 z) := by
      intro i
      by_cases hi : i < len0
      · have h1 := helem i hi
        have hie : i < elems.length := by omega
        rw [List.getElem?_eq_getElem hie, Option.bind_eq_some_iff, Nat.mul_one] at h1
        obtain ⟨cs', h2, h3⟩ := h1
        obtain ⟨d0, rfl, g0⟩ := cells1 h2
        obtain ⟨z, e3, _⟩ := DataW.trod_int Tryd.underlying3 h3
        simp at e3
        subst e3
        exact ⟨z, fun _ => g0⟩
      · exact ⟨0, fun h => absurd h hi⟩
    obtain ⟨Z, hZ⟩ := Classical.skolem.1 key
    refine ⟨(List.range len0).map Z, some a, cap0, by simp, by simp; omega, ?_⟩
    by_cases h0 : len0 = 0
    · subst h0; exact Or.inl rfl
    · right
      obtain ⟨b, o, sp⟩ := a
      have g0 := hZ 0 (by omega)
      have hsp : sp = none := by simpa [Addr.add] using World.cell?_spot g0
      subst hsp
      refine ⟨b, o, rfl, trivial, fun i hi => ?_⟩
      simp at hi
      have g1 := hZ i hi
      simp only [List.getElem_map, List.getElem_range]
      by_cases h00 : i = 0
      · subst h00; simpa [Addr.add] using g1
      · simpa [Addr.add, h00] using g1
#print axioms open_pv
end Go.Proofs.YtagffgabceodfaaDoor

/- Lists of texts as they are read before the call. -/
namespace Go.Proofs.YtagffgabceodfaaDoor
open Go.ChangeShapes Go.WideShapes Go.ChangeAt Go.RowKit
set_option linter.unusedSimpArgs false
set_option linter.unusedVariables false
set_option maxRecDepth 8000

theorem open_names {H : Type} {enc : TypeId × Value → H} {w : World} {sp : Nat → Bool} {held : Bool} {r : Reach} {b0 : Nat} {v : Value} {d : DataW H} {p : List MemPlace} (hv : Value.okWide Tryd.prog w r b0 25 v) (h : DataW.Trod enc Tryd.prog w 0 sp held 25 v d p) : ∃ t : List ByteArray, LV Value.string w (fun _ => True) v t := by
  obtain ⟨a0, len0, cap0, rfl⟩ := okWide_slice Tryd.underlying25 hv
  obtain ⟨fuel, hf⟩ := h
  rcases DataW.trod_slice Tryd.underlying25 hf with ⟨e1, _⟩ | ⟨a, len, cap, elems, rest, n2, hn2, e1, _, hb, hlc, hcm, hel, helem, _⟩
  · simp [Value.cells] at e1
    obtain ⟨rfl, rfl, rfl⟩ := e1
    exact ⟨[], none, 0, rfl, by simp, Or.inl rfl⟩
  · simp [Value.cells] at e1
    obtain ⟨rfl, rfl, rfl⟩ := e1
    unfold maxLen at hcm
    rw [Tryd.cellsStr] at helem
    have key : ∀ i, ∃ z : ByteArray, i < len0 → w.cell? (a.add i) = some (.string z) := by
      intro i
      by_cases hi : i < len0
      · have h1 := helem i hi
        have hie : i < elems.length := by omega
        rw [List.getElem?_eq_getElem hie, Option.bind_eq_some_iff, Nat.mul_one] at h1
        obtain ⟨cs', h2, h3⟩ := h1
        obtain ⟨d0, rfl, g0⟩ := cells1 h2
        obtain ⟨z, e3, _, _⟩ := DataW.trod_string Tryd.underlying9 h3
        simp at e3
        subst e3
        exact ⟨z, fun _ => g0⟩
      · exact ⟨⟨#[]⟩, fun h => absurd h hi⟩
    obtain ⟨Z, hZ⟩ := Classical.skolem.1 key
    refine ⟨(List.range len0).map Z, some a, cap0, by simp, by simp; omega, ?_⟩
    by_cases h0 : len0 = 0
    · subst h0; exact Or.inl rfl
    · right
      obtain ⟨b, o, sp⟩ := a
      have g0 := hZ 0 (by omega)
      have hsp : sp = none := by simpa [Addr.add] using World.cell?_spot g0
      subst hsp
      refine ⟨b, o, rfl, trivial, fun i hi => ?_⟩
      simp at hi
      have g1 := hZ i hi
      simp only [List.getElem_map, List.getElem_range]
      by_cases h00 : i = 0
      · subst h00; simpa [Addr.add] using g1
      · simpa [Addr.add, h00] using g1
#print axioms open_names
end Go.Proofs.YtagffgabceodfaaDoor
