
/- Walks: the face of package order. -/
import Derived.Test.YtccbocefgoccdaaW140
import Derived.Test.YtccbocefgoccdaaZTopDownOwn
namespace Go.Proofs.Ytccbocefgoccdaa
open Go.RowKit
set_option linter.unusedSimpArgs false
set_option linter.unusedVariables false
set_option maxRecDepth 8000

/-- What is wrong, first with the row, then with the terms. -/
def ordE (row : List ByteArray) (a b : Tm) : Int := if rowE row = 0 then twoE a b else rowE row
theorem ordE_zero {row : List ByteArray} {a b : Tm} (h : ordE row a b = 0) : rowE row = 0 ∧ mayE a = 0 ∧ mayE b = 0 := by
  unfold ordE at h
  split at h
  · rename_i h0
    unfold twoE at h
    split at h
    · rename_i h1
      exact ⟨h0, h1, h⟩
    · rename_i h1; exact absurd h h1
  · rename_i h0; exact absurd h h0
theorem mayE_zero {t : Tm} (h : mayE t = 0) : errL [t] = 0 ∧ sizeL [t] ≤ 200 := by
  unfold mayE at h
  split at h
  · exact absurd h (by decide)
  · exact ⟨h, by omega⟩
structure TwW (a b : Tm) (aa : Option Addr) (ca : Nat) (ab : Option Addr) (cb : Nat) (w wr : World) : Prop where
  k1 : Blk wr w.heap.size #[.string a.name, .slice aa a.args.length ca] 27
  k2 : Blk wr (w.heap.size + 1) #[.string b.name, .slice ab b.args.length cb] 27
  bl : Below w.heap.size w wr
theorem TwW.later {a b : Tm} {aa ab : Option Addr} {ca cb : Nat} {w w1 w2 : World} (h : TwW a b aa ca ab cb w w1) (hb : Below w1.heap.size w1 w2) : TwW a b aa ca ab cb w w2 := ⟨h.k1.below hb h.k1.lt, h.k2.below hb h.k2.lt, h.bl.trans (hb.mono h.bl.size)⟩
theorem TwW.start (a b : Tm) (aa : Option Addr) (ca : Nat) (ab : Option Addr) (cb : Nat) (w : World) : TwW a b aa ca ab cb w ((w.alloc (.cells #[.string a.name, .slice aa a.args.length ca] 27)).alloc (.cells #[.string b.name, .slice ab b.args.length cb] 27)) := by
  have k1 := Blk.new w #[.string a.name, .slice aa a.args.length ca] 27
  have e1 : (w.alloc (.cells #[.string a.name, .slice aa a.args.length ca] 27)).heap.size = w.heap.size + 1 := by simp
  have b1 := (Below.refl w.heap.size w).alloc (Nat.le_refl _) (.cells #[.string a.name, .slice aa a.args.length ca] 27)
  generalize (w.alloc (.cells #[.string a.name, .slice aa a.args.length ca] 27)) = w1 at *
  have k2 := Blk.new w1 #[.string b.name, .slice ab b.args.length cb] 27
  rw [e1] at k2
  exact ⟨k1.alloc _, k2, b1.alloc b1.size _⟩

set_option maxHeartbeats 2000000 in
theorem checkAllO_any (row : List ByteArray) (a b : Tm) (u va vb : Value) (w : World) (X : Nat → Prop) (hu : LV Value.string w X u row) (ha : TV w X va a) (hb : TV w X vb b) :
    Calls Try.prog 20 #[u, va, vb] w fun e w' => e = .returned (.int .i64 (ordE row a b)) ∧ Below w.heap.size w w' := by
  have HA := hide ha
  have HB := hide hb
  have HU := hide hu
  obtain ⟨aa, ca, rfl, hsa⟩ := ha
  obtain ⟨ab, cb, rfl, hsb⟩ := hb
  clear hsa hsb hu
  have A2 := hide (TwW.start a b aa ca ab cb w)
  go_enter Try.func20, Try.ntmps20
  go_wp2_with fail
  generalize ((w.alloc (.cells #[.string a.name, .slice aa a.args.length ca] 27)).alloc (.cells #[.string b.name, .slice ab b.args.length cb] 27)) = w2 at *
  refine (oCheck_any row _ _ X (by exact HU.out.later A2.out.bl)).mono ?_
  rintro e w3 ⟨rfl, hb3⟩
  have A3 := hide (A2.out.later hb3)
  clear hb3 A2
  have r0 : w3.cell? ⟨w.heap.size, 0, none⟩ = some (.string a.name) := A3.out.k1.cell 0
  have r1 : w3.cell? ⟨w.heap.size, 1, none⟩ = some (.slice aa a.args.length ca) := A3.out.k1.cell 1
  by_cases h0 : rowE row = 0
  · have HE : Hid (ordE row a b = twoE a b) := by unfold Hid ordE; rw [if_pos h0]
    rw [h0]
    clear h0
    go_wp2_with fail
    refine (check_any a _ _ X (by exact HA.out.later A3.out.bl)).mono ?_
    rintro e w4 ⟨rfl, hb4⟩
    have A4 := hide (A3.out.later hb4)
    clear hb4 A3 r0 r1
    have s0 : w4.cell? ⟨w.heap.size + 1, 0, none⟩ = some (.string b.name) := A4.out.k2.cell 0
    have s1 : w4.cell? ⟨w.heap.size + 1, 1, none⟩ = some (.slice ab b.args.length cb) := A4.out.k2.cell 1
    by_cases h1 : mayE a = 0
    · have HE2 : Hid (ordE row a b = mayE b) := by unfold Hid; rw [HE.out]; unfold twoE; rw [if_pos h1]
      rw [h1]
      clear h1
      go_wp2_with fail
      refine (check_any b _ _ X (by exact HB.out.later A4.out.bl)).mono ?_
      rintro e w5 ⟨rfl, hb5⟩
      have A5 := hide (A4.out.later hb5)
      clear hb5 A4 s0 s1
      go_wp2_with fail
      go_ret
      exact ⟨by rw [HE2.out]; rfl, A5.out.bl⟩
    · have HE2 : Hid (ordE row a b = mayE a) := by unfold Hid; rw [HE.out]; unfold twoE; rw [if_neg h1]
      have h1' : (mayE a == 0) = false := by simpa using h1
      go_wp2_with fail
      go_ret
      exact ⟨by rw [HE2.out]; rfl, A4.out.bl⟩
  · have HE : Hid (ordE row a b = rowE row) := by unfold Hid ordE; rw [if_neg h0]
    have h0' : (rowE row == 0) = false := by simpa using h0
    go_wp2_with fail
    go_ret
    exact ⟨by rw [HE.out]; rfl, A3.out.bl⟩

set_option maxHeartbeats 2000000 in
theorem oPath_any (row : List ByteArray) (a b : Tm) (u va vb : Value) (w : World) (X : Nat → Prop) (hu : LV Value.string w X u row) (ha : TV w X va a) (hb : TV w X vb b) :
    Calls Try.prog 8 #[u, va, vb] w fun e w' => e = .returned (.tuple #[.bool (decide (ordE row a b = 0) && pathB row a b), .int .i64 (ordE row a b)]) ∧ Below w.heap.size w w' := by
  have HA := hide ha
  have HB := hide hb
  have HU := hide hu
  obtain ⟨aa, ca, rfl, hsa⟩ := ha
  obtain ⟨ab, cb, rfl, hsb⟩ := hb
  clear hsa hsb hu
  have A2 := hide (TwW.start a b aa ca ab cb w)
  go_enter Try.func8, Try.ntmps8
  go_wp2_with fail
  generalize ((w.alloc (.cells #[.string a.name, .slice aa a.args.length ca] 27)).alloc (.cells #[.string b.name, .slice ab b.args.length cb] 27)) = w2 at *
  refine (checkAllO_any row a b _ _ _ _ X (by exact HU.out.later A2.out.bl) (by exact HA.out.later A2.out.bl) (by exact HB.out.later A2.out.bl)).mono ?_
  rintro e w3 ⟨rfl, hb3⟩
  have A3 := hide (A2.out.later hb3)
  clear hb3 A2
  have r0 : w3.cell? ⟨w.heap.size, 0, none⟩ = some (.string a.name) := A3.out.k1.cell 0
  have r1 : w3.cell? ⟨w.heap.size, 1, none⟩ = some (.slice aa a.args.length ca) := A3.out.k1.cell 1
  have s0 : w3.cell? ⟨w.heap.size + 1, 0, none⟩ = some (.string b.name) := A3.out.k2.cell 0
  have s1 : w3.cell? ⟨w.heap.size + 1, 1, none⟩ = some (.slice ab b.args.length cb) := A3.out.k2.cell 1
  by_cases h0 : ordE row a b = 0
  · have HR : Hid ((decide (ordE row a b = 0) && pathB row a b) = pathB row a b ∧ ordE row a b = 0) := by unfold Hid; rw [h0]; simp
    obtain ⟨e1, e2, e3⟩ := ordE_zero h0
    have HO := hide (rowE_once e1)
    have HA0 := hide (mayE_zero e2)
    have HB0 := hide (mayE_zero e3)
    rw [h0]
    clear h0 e1 e2 e3
    go_wp2_with fail
    refine (aPath_any row HO.out a b _ _ _ _ X HA0.out.1 HB0.out.1 (by have := HA0.out.2; omega) (by have := HB0.out.2; omega) (by exact HU.out.later A3.out.bl) (by exact HA.out.later A3.out.bl) (by exact HB.out.later A3.out.bl)).mono ?_
    rintro e w4 ⟨rfl, hb4⟩
    have A4 := hide (A3.out.later hb4)
    clear hb4 A3 r0 r1 s0 s1
    go_wp2_with fail
    go_ret2
    exact ⟨by rw [HR.out.1, HR.out.2]; rfl, A4.out.bl⟩
  · have HR : Hid ((decide (ordE row a b = 0) && pathB row a b) = false) := by unfold Hid; simp [h0]
    have h0' : (ordE row a b == 0) = false := by simpa using h0
    go_wp2_with fail
    go_ret2
    exact ⟨by rw [HR.out]; rfl, A3.out.bl⟩
#print axioms oPath_any

end Go.Proofs.Ytccbocefgoccdaa
