/- Walks: do all rules go down? -/
import Derived.Test.YtccbocefgoccdaaZTopDownOwn
import Derived.Test.YtccbocefgoccdaaW141
namespace Go.Proofs.Ytccbocefgoccdaa
open Go.RowKit
set_option linter.unusedSimpArgs false
set_option linter.unusedVariables false
set_option maxRecDepth 8000

/-- Each left side is above its right side. -/
def fallB (row : List ByteArray) (rs : List Pr) : Bool := rs.all fun p => decide (ordE row p.l p.r = 0) && pathB row p.l p.r
theorem fall_next {row : List ByteArray} {rs : List Pr} {k : Nat} (h : k < rs.length) : fallB row (rs.take (k + 1)) = (fallB row (rs.take k) && (decide (ordE row rs[k].l rs[k].r = 0) && pathB row rs[k].l rs[k].r)) := by
  unfold fallB
  rw [List.take_succ_eq_append_getElem h, List.all_append]
  simp
theorem fall_no {row : List ByteArray} {rs : List Pr} {k : Nat} (h : k < rs.length) (h0 : (decide (ordE row rs[k].l rs[k].r = 0) && pathB row rs[k].l rs[k].r) = false) : fallB row rs = false := by
  rw [Bool.eq_false_iff]
  intro h1
  have := List.all_eq_true.1 h1 rs[k] (List.getElem_mem h)
  rw [h0] at this
  cases this
def FaInv (row : List ByteArray) (rs : List Pr) (w : World) (v : Value) (wr : World) : Prop := ∃ k : Nat, v = .int .i64 (k : Int) ∧ k ≤ rs.length ∧ fallB row (rs.take k) = true ∧ Below w.heap.size w wr
set_option maxHeartbeats 4000000 in
theorem falls_any (row : List ByteArray) (rs : List Pr) (ur u : Value) (w : World) (X : Nat → Prop) (hr : LV Value.string w X ur row) (hu : QV w X u rs) :
    Calls Try.prog 11 #[ur, u] w fun e w' => e = .returned (.bool (fallB row rs)) ∧ Below w.heap.size w w' := by
  have HU := hide (hu.mono (Y := fun b => X b ∧ b < w.heap.size) fun b h1 h2 => ⟨h1, h2⟩)
  have HR := hide (hr.mono (Y := fun b => X b ∧ b < w.heap.size) fun b h1 h2 => ⟨h1, h2⟩)
  obtain ⟨a, c, rfl, hl, hu2⟩ := hu
  obtain ⟨ra, rc, rfl, hrl, _⟩ := hr
  clear hu2
  go_enter Try.func11, Try.ntmps11
  go_wp2_with fail
  go_loopw [5] (fun v wr => FaInv row rs w v wr) (fun v wr => rs.length - (intOf v).toNat)
  case atStart => exact ⟨0, rfl, Nat.zero_le _, rfl, Below.refl _ _⟩
  case round =>
    obtain ⟨k, rfl, hk, hT, hb⟩ := hrel
    have HB := hide hb
    have HT := hide hT
    clear hT
    by_cases hlt : k < rs.length
    · obtain ⟨b, o, a1, c1, a2, c2, rfl, d0, d1, d2, d3, hs1, hs2⟩ := (HU.out.later hb).get k hlt
      have hlt2 : (k : Int) < (rs.length : Int) := by omega
      have HX1 := hide hs1
      have HX2 := hide hs2
      have HRR := hide (HR.out.later hb)
      have HN := hide (fall_next (row := row) hlt)
      have HNO := hide (fall_no (row := row) hlt)
      clear hs1 hs2 hb
      generalize rs[k] = d at *
      go_wp2_with fail
      have HS0 := hide (And.intro d0 (And.intro d1 (And.intro d2 d3)))
      obtain ⟨fe, hfe⟩ : ∃ fe, fe = ordE row d.l d.r := ⟨_, rfl⟩
      obtain ⟨fb, hfb⟩ : ∃ fb, fb = (decide (ordE row d.l d.r = 0) && pathB row d.l d.r) := ⟨_, rfl⟩
      have HFE := hide hfe
      have HFB := hide hfb
      have TM : Hid (∀ w', Below wr.heap.size wr w' → Calls Try.prog 8 #[.slice ra row.length rc, .agg #[.string d.l.name, .slice a1 d.l.args.length c1], .agg #[.string d.r.name, .slice a2 d.r.args.length c2]] w' fun e w'' => e = .returned (.tuple #[.bool fb, .int .i64 fe]) ∧ Below wr.heap.size wr w'' ∧ w''.cell? ⟨b, o + k * 4, none⟩ = some (.string d.l.name) ∧ w''.cell? ⟨b, o + k * 4 + 1, none⟩ = some (.slice a1 d.l.args.length c1) ∧ w''.cell? ⟨b, o + k * 4 + 2, none⟩ = some (.string d.r.name) ∧ w''.cell? ⟨b, o + k * 4 + 3, none⟩ = some (.slice a2 d.r.args.length c2)) := fun w' hb => by
        refine (oPath_any row d.l d.r _ _ _ w' _ (HRR.out.later hb) ⟨_, _, rfl, HX1.out.later hb⟩ ⟨_, _, rfl, HX2.out.later hb⟩).mono ?_
        rintro e w'' ⟨rfl, hb2⟩
        have hb3 := hb.trans (hb2.mono hb.size)
        exact ⟨by rw [hfe, hfb], hb3, cell_later hb3 d0, cell_later hb3 d1, cell_later hb3 d2, cell_later hb3 d3⟩
      clear hfe hfb
      go_region_held3 (fun w' => w'.cell? ⟨b, o + k * 4, none⟩ = some (.string d.l.name) ∧ w'.cell? ⟨b, o + k * 4 + 1, none⟩ = some (.slice a1 d.l.args.length c1) ∧ w'.cell? ⟨b, o + k * 4 + 2, none⟩ = some (.string d.r.name) ∧ w'.cell? ⟨b, o + k * 4 + 3, none⟩ = some (.slice a2 d.r.args.length c2)) (first | exact HS0.out | exact hS | go_keep)
        (first
          | (go_at_call 8; refine (TM.out _ (by first | exact Below.refl _ _ | exact (Below.refl _ _).drew)).mono ?_; rintro e w5 ⟨rfl, hb5, hS⟩))
      have HB5 := hide hb5
      clear hb5 hS TM HS0 d0 d1 d2 d3
      by_cases h0 : fe = 0
      · subst h0
        cases hq : fb with
        | true =>
          go_wp2_with fail
          go_roundw
          case rel => exact ⟨k + 1, by go_num, by omega, by rw [HN.out, HT.out, ← HFB.out, hq]; rfl, HB.out.trans (HB5.out.mono HB.out.size)⟩
          case measure => simp [intOf]; omega
        | false =>
          go_wp2_with fail
          go_ret
          exact ⟨by rw [HNO.out (by rw [← HFB.out, hq])]; rfl, HB.out.trans (HB5.out.mono HB.out.size)⟩
      · have hf' : (fe == 0) = false := by simpa using h0
        have HF0 : Hid (fb = false) := by unfold Hid; rw [HFB.out, ← HFE.out]; simp [h0]
        go_wp2_with fail
        go_ret
        exact ⟨by rw [HNO.out (by rw [← HFB.out, HF0.out])]; rfl, HB.out.trans (HB5.out.mono HB.out.size)⟩
    · have htk : rs.take k = rs := List.take_of_length_le (by omega)
      have HF : Hid (fallB row rs = true) := by have h := HT.out; rw [htk] at h; exact h
      go_wp2_with fail
      go_ret
      exact ⟨by rw [HF.out]; rfl, HB.out⟩
#print axioms falls_any
end Go.Proofs.Ytccbocefgoccdaa
