/- Walks: the law on orders. -/
import Derived.Test.YthlgknglalcggacW146
namespace Go.Proofs.Ythlgknglalcggac
open Go.RowKit
set_option linter.unusedSimpArgs false
set_option linter.unusedVariables false
set_option maxRecDepth 8000

set_option maxHeartbeats 4000000 in
theorem orderSays_any (row : List ByteArray) (a b : Tm) (u va vb : Value) (w : World) (X : Nat → Prop) (hu : LV Value.string w X u row) (ha : TV w X va a) (hb : TV w X vb b) :
    Calls Try.prog 3 #[u, va, vb] w fun e w' => e = .returned (.bool true) ∧ Below w.heap.size w w' := by
  have HA := hide ha
  have HB := hide hb
  have HU := hide hu
  obtain ⟨aa, ca, rfl, hsa⟩ := ha
  obtain ⟨ab, cb, rfl, hsb⟩ := hb
  obtain ⟨au, cu, rfl, ⟨hul, _⟩, _⟩ := hu
  clear hsa hsb
  have A2 := hide (TwW.start a b aa ca ab cb w)
  go_enter Try.func3, Try.ntmps3
  by_cases h100 : 100 < row.length
  · have h100i : (100 : Int) < (row.length : Int) := by omega
    go_wp2_with fail
    go_ret
    exact ⟨rfl, A2.out.bl⟩
  · have h100i : ¬ (100 : Int) < (row.length : Int) := by omega
    have hrl : row.length ≤ 1000 := by omega
    go_wp2_with fail
    generalize ((w.alloc (.cells #[.string a.name, .slice aa a.args.length ca] 25)).alloc (.cells #[.string b.name, .slice ab b.args.length cb] 25)) = w2 at *
    refine (huge_any a _ _ X (by exact HA.out.later A2.out.bl)).mono ?_
    rintro e w3 ⟨rfl, hb3⟩
    have A3 := hide (A2.out.later hb3)
    clear hb3 A2
    have r0 : w3.cell? ⟨w.heap.size, 0, none⟩ = some (.string a.name) := A3.out.k1.cell 0
    have r1 : w3.cell? ⟨w.heap.size, 1, none⟩ = some (.slice aa a.args.length ca) := A3.out.k1.cell 1
    have s0 : w3.cell? ⟨w.heap.size + 1, 0, none⟩ = some (.string b.name) := A3.out.k2.cell 0
    have s1 : w3.cell? ⟨w.heap.size + 1, 1, none⟩ = some (.slice ab b.args.length cb) := A3.out.k2.cell 1
    by_cases g1 : 3000 < sizeL [a]
    · have g1d : decide (3000 < sizeL [a]) = true := by simpa using g1
      rw [g1d]
      go_wp2_with fail
      go_ret
      exact ⟨rfl, A3.out.bl⟩
    · have g1d : decide (3000 < sizeL [a]) = false := by simpa using g1
      rw [g1d]
      clear g1d
      go_wp2_with fail
      refine (huge_any b _ _ X (by exact HB.out.later A3.out.bl)).mono ?_
      rintro e w4 ⟨rfl, hbw4⟩
      have A4 := hide (A3.out.later hbw4)
      clear hbw4 A3
      clear r0 r1 s0 s1
      have r0 : w4.cell? ⟨w.heap.size, 0, none⟩ = some (.string a.name) := A4.out.k1.cell 0
      have r1 : w4.cell? ⟨w.heap.size, 1, none⟩ = some (.slice aa a.args.length ca) := A4.out.k1.cell 1
      have s0 : w4.cell? ⟨w.heap.size + 1, 0, none⟩ = some (.string b.name) := A4.out.k2.cell 0
      have s1 : w4.cell? ⟨w.heap.size + 1, 1, none⟩ = some (.slice ab b.args.length cb) := A4.out.k2.cell 1

      by_cases g2 : 3000 < sizeL [b]
      · have g2d : decide (3000 < sizeL [b]) = true := by simpa using g2
        rw [g2d]
        go_wp2_with fail
        go_ret
        exact ⟨rfl, A4.out.bl⟩
      · have g2d : decide (3000 < sizeL [b]) = false := by simpa using g2
        rw [g2d]
        clear g2d
        go_wp2_with fail
        refine (rowMay_any row _ _ X (by exact HU.out.later A4.out.bl)).mono ?_
        rintro e w5 ⟨rfl, hbw5⟩
        have A5 := hide (A4.out.later hbw5)
        clear hbw5 A4
        clear r0 r1 s0 s1
        have r0 : w5.cell? ⟨w.heap.size, 0, none⟩ = some (.string a.name) := A5.out.k1.cell 0
        have r1 : w5.cell? ⟨w.heap.size, 1, none⟩ = some (.slice aa a.args.length ca) := A5.out.k1.cell 1
        have s0 : w5.cell? ⟨w.heap.size + 1, 0, none⟩ = some (.string b.name) := A5.out.k2.cell 0
        have s1 : w5.cell? ⟨w.heap.size + 1, 1, none⟩ = some (.slice ab b.args.length cb) := A5.out.k2.cell 1

        by_cases h0 : rowE row = 0
        · have HE : Hid (ordE row a b = twoE a b) := by unfold Hid ordE; rw [if_pos h0]
          rw [h0]
          go_wp2_with fail
          refine (twoMay_any a b _ _ _ X (by exact HA.out.later A5.out.bl) (by exact HB.out.later A5.out.bl)).mono ?_
          rintro e w6 ⟨rfl, hbw6⟩
          have A6 := hide (A5.out.later hbw6)
          clear hbw6 A5
          clear r0 r1 s0 s1
          have r0 : w6.cell? ⟨w.heap.size, 0, none⟩ = some (.string a.name) := A6.out.k1.cell 0
          have r1 : w6.cell? ⟨w.heap.size, 1, none⟩ = some (.slice aa a.args.length ca) := A6.out.k1.cell 1
          have s0 : w6.cell? ⟨w.heap.size + 1, 0, none⟩ = some (.string b.name) := A6.out.k2.cell 0
          have s1 : w6.cell? ⟨w.heap.size + 1, 1, none⟩ = some (.slice ab b.args.length cb) := A6.out.k2.cell 1

          by_cases h1 : twoE a b = 0
          · have HO : Hid (ordE row a b = 0) := by unfold Hid; rw [HE.out, h1]
            rw [h1]
            go_wp2_with fail
            refine (size_any a _ 60 _ X (by exact HA.out.later A6.out.bl) (by decide) (by decide)).mono ?_
            rintro e w7 ⟨rfl, hbw7⟩
            have A7 := hide (A6.out.later hbw7)
            clear hbw7 A6
            clear r0 r1 s0 s1
            have r0 : w7.cell? ⟨w.heap.size, 0, none⟩ = some (.string a.name) := A7.out.k1.cell 0
            have r1 : w7.cell? ⟨w.heap.size, 1, none⟩ = some (.slice aa a.args.length ca) := A7.out.k1.cell 1
            have s0 : w7.cell? ⟨w.heap.size + 1, 0, none⟩ = some (.string b.name) := A7.out.k2.cell 0
            have s1 : w7.cell? ⟨w.heap.size + 1, 1, none⟩ = some (.slice ab b.args.length cb) := A7.out.k2.cell 1

            by_cases z1 : 60 < sizeL [a]
            · have e1 : min ((sizeL [a] : Nat) : Int) (60 + 1) = 61 := by omega
              rw [e1]
              go_wp2_with fail
              go_ret
              exact ⟨rfl, A7.out.bl⟩
            · have e1 : min ((sizeL [a] : Nat) : Int) (60 + 1) = (sizeL [a] : Int) := by omega
              have e1' : ¬ (60 : Int) < (sizeL [a] : Int) := by omega
              rw [e1]
              clear e1
              go_wp2_with fail
              refine (size_any b _ 60 _ X (by exact HB.out.later A7.out.bl) (by decide) (by decide)).mono ?_
              rintro e w8 ⟨rfl, hbw8⟩
              have A8 := hide (A7.out.later hbw8)
              clear hbw8 A7
              clear r0 r1 s0 s1
              have r0 : w8.cell? ⟨w.heap.size, 0, none⟩ = some (.string a.name) := A8.out.k1.cell 0
              have r1 : w8.cell? ⟨w.heap.size, 1, none⟩ = some (.slice aa a.args.length ca) := A8.out.k1.cell 1
              have s0 : w8.cell? ⟨w.heap.size + 1, 0, none⟩ = some (.string b.name) := A8.out.k2.cell 0
              have s1 : w8.cell? ⟨w.heap.size + 1, 1, none⟩ = some (.slice ab b.args.length cb) := A8.out.k2.cell 1

              by_cases z2 : 60 < sizeL [b]
              · have e2 : min ((sizeL [b] : Nat) : Int) (60 + 1) = 61 := by omega
                rw [e2]
                go_wp2_with fail
                go_ret
                exact ⟨rfl, A8.out.bl⟩
              · have e2 : min ((sizeL [b] : Nat) : Int) (60 + 1) = (sizeL [b] : Int) := by omega
                have e2' : ¬ (60 : Int) < (sizeL [b] : Int) := by omega
                rw [e2]
                clear e2
                go_wp2_with fail
                refine (pathOf_any row hrl a b (by omega) (by omega) _ _ _ _ X (by exact HU.out.later A8.out.bl) (by exact HA.out.later A8.out.bl) (by exact HB.out.later A8.out.bl)).mono ?_
                rintro e w9 ⟨rfl, hbw9⟩
                have A9 := hide (A8.out.later hbw9)
                clear hbw9 A8
                clear r0 r1 s0 s1
                have r0 : w9.cell? ⟨w.heap.size, 0, none⟩ = some (.string a.name) := A9.out.k1.cell 0
                have r1 : w9.cell? ⟨w.heap.size, 1, none⟩ = some (.slice aa a.args.length ca) := A9.out.k1.cell 1
                have s0 : w9.cell? ⟨w.heap.size + 1, 0, none⟩ = some (.string b.name) := A9.out.k2.cell 0
                have s1 : w9.cell? ⟨w.heap.size + 1, 1, none⟩ = some (.slice ab b.args.length cb) := A9.out.k2.cell 1
                go_wp2_with fail
                refine (weightOf_any row hrl (sizeL [a]) a b _ _ _ _ X (Nat.le_refl _) (by omega) (by omega) (by exact HU.out.later A9.out.bl) (by exact HA.out.later A9.out.bl) (by exact HB.out.later A9.out.bl)).mono ?_
                rintro e wA ⟨rfl, hbwA⟩
                have AA := hide (A9.out.later hbwA)
                clear hbwA A9
                clear r0 r1 s0 s1
                have r0 : wA.cell? ⟨w.heap.size, 0, none⟩ = some (.string a.name) := AA.out.k1.cell 0
                have r1 : wA.cell? ⟨w.heap.size, 1, none⟩ = some (.slice aa a.args.length ca) := AA.out.k1.cell 1
                have s0 : wA.cell? ⟨w.heap.size + 1, 0, none⟩ = some (.string b.name) := AA.out.k2.cell 0
                have s1 : wA.cell? ⟨w.heap.size + 1, 1, none⟩ = some (.slice ab b.args.length cb) := AA.out.k2.cell 1
                have P1 : Hid ((decide (ordE row a b = 0) && pathB row a b) = pathB row a b) := by unfold Hid; rw [HO.out]; simp
                have P2 : Hid ((decide (ordE row a b = 0) && weightB row a b) = weightB row a b) := by unfold Hid; rw [HO.out]; simp
                go_wp2_with fail
                refine (oPath_any row a b _ _ _ _ X (by exact HU.out.later AA.out.bl) (by exact HA.out.later AA.out.bl) (by exact HB.out.later AA.out.bl)).mono ?_
                rintro e wp ⟨rfl, hbwp⟩
                have Ap := hide (AA.out.later hbwp)
                clear hbwp AA
                clear r0 r1 s0 s1
                have r0 : wp.cell? ⟨w.heap.size, 0, none⟩ = some (.string a.name) := Ap.out.k1.cell 0
                have r1 : wp.cell? ⟨w.heap.size, 1, none⟩ = some (.slice aa a.args.length ca) := Ap.out.k1.cell 1
                have s0 : wp.cell? ⟨w.heap.size + 1, 0, none⟩ = some (.string b.name) := Ap.out.k2.cell 0
                have s1 : wp.cell? ⟨w.heap.size + 1, 1, none⟩ = some (.slice ab b.args.length cb) := Ap.out.k2.cell 1
                rw [P1.out, HO.out]
                go_wp2_with fail
                refine (oWeight_any row a b _ _ _ _ X (by exact HU.out.later Ap.out.bl) (by exact HA.out.later Ap.out.bl) (by exact HB.out.later Ap.out.bl)).mono ?_
                rintro e wq ⟨rfl, hbwq⟩
                have Aq := hide (Ap.out.later hbwq)
                clear hbwq Ap
                clear r0 r1 s0 s1
                have r0 : wq.cell? ⟨w.heap.size, 0, none⟩ = some (.string a.name) := Aq.out.k1.cell 0
                have r1 : wq.cell? ⟨w.heap.size, 1, none⟩ = some (.slice aa a.args.length ca) := Aq.out.k1.cell 1
                have s0 : wq.cell? ⟨w.heap.size + 1, 0, none⟩ = some (.string b.name) := Aq.out.k2.cell 0
                have s1 : wq.cell? ⟨w.heap.size + 1, 1, none⟩ = some (.slice ab b.args.length cb) := Aq.out.k2.cell 1
                rw [P2.out, HO.out]
                go_wp2_with fail
                refine (oCheck_any row _ _ X (by exact HU.out.later Aq.out.bl)).mono ?_
                rintro e wr ⟨rfl, hbwr⟩
                have Ar := hide (Aq.out.later hbwr)
                clear hbwr Aq
                clear r0 r1 s0 s1
                have r0 : wr.cell? ⟨w.heap.size, 0, none⟩ = some (.string a.name) := Ar.out.k1.cell 0
                have r1 : wr.cell? ⟨w.heap.size, 1, none⟩ = some (.slice aa a.args.length ca) := Ar.out.k1.cell 1
                have s0 : wr.cell? ⟨w.heap.size + 1, 0, none⟩ = some (.string b.name) := Ar.out.k2.cell 0
                have s1 : wr.cell? ⟨w.heap.size + 1, 1, none⟩ = some (.slice ab b.args.length cb) := Ar.out.k2.cell 1
                rw [h0]
                generalize pathB row a b = y1 at *
                generalize weightB row a b = y2 at *
                cases y1 <;> cases y2 <;>
                · go_wp2_with fail
                  go_ret
                  exact ⟨rfl, Ar.out.bl⟩
          · have h1' : (twoE a b == 0) = false := by simpa using h1
            have P1 : Hid ((decide (ordE row a b = 0) && pathB row a b) = false) := by unfold Hid; rw [HE.out]; simp [h1]
            have P2 : Hid ((decide (ordE row a b = 0) && weightB row a b) = false) := by unfold Hid; rw [HE.out]; simp [h1]
            go_wp2_with fail
            refine (oPath_any row a b _ _ _ _ X (by exact HU.out.later A6.out.bl) (by exact HA.out.later A6.out.bl) (by exact HB.out.later A6.out.bl)).mono ?_
            rintro e wp ⟨rfl, hbwp⟩
            have Ap := hide (A6.out.later hbwp)
            clear hbwp A6
            clear r0 r1 s0 s1
            have r0 : wp.cell? ⟨w.heap.size, 0, none⟩ = some (.string a.name) := Ap.out.k1.cell 0
            have r1 : wp.cell? ⟨w.heap.size, 1, none⟩ = some (.slice aa a.args.length ca) := Ap.out.k1.cell 1
            have s0 : wp.cell? ⟨w.heap.size + 1, 0, none⟩ = some (.string b.name) := Ap.out.k2.cell 0
            have s1 : wp.cell? ⟨w.heap.size + 1, 1, none⟩ = some (.slice ab b.args.length cb) := Ap.out.k2.cell 1
            rw [P1.out, HE.out]
            go_wp2_with fail
            refine (oWeight_any row a b _ _ _ _ X (by exact HU.out.later Ap.out.bl) (by exact HA.out.later Ap.out.bl) (by exact HB.out.later Ap.out.bl)).mono ?_
            rintro e wq ⟨rfl, hbwq⟩
            have Aq := hide (Ap.out.later hbwq)
            clear hbwq Ap
            clear r0 r1 s0 s1
            have r0 : wq.cell? ⟨w.heap.size, 0, none⟩ = some (.string a.name) := Aq.out.k1.cell 0
            have r1 : wq.cell? ⟨w.heap.size, 1, none⟩ = some (.slice aa a.args.length ca) := Aq.out.k1.cell 1
            have s0 : wq.cell? ⟨w.heap.size + 1, 0, none⟩ = some (.string b.name) := Aq.out.k2.cell 0
            have s1 : wq.cell? ⟨w.heap.size + 1, 1, none⟩ = some (.slice ab b.args.length cb) := Aq.out.k2.cell 1
            rw [P2.out, HE.out]
            go_wp2_with fail
            refine (oCheck_any row _ _ X (by exact HU.out.later Aq.out.bl)).mono ?_
            rintro e wr ⟨rfl, hbwr⟩
            have Ar := hide (Aq.out.later hbwr)
            clear hbwr Aq
            clear r0 r1 s0 s1
            have r0 : wr.cell? ⟨w.heap.size, 0, none⟩ = some (.string a.name) := Ar.out.k1.cell 0
            have r1 : wr.cell? ⟨w.heap.size, 1, none⟩ = some (.slice aa a.args.length ca) := Ar.out.k1.cell 1
            have s0 : wr.cell? ⟨w.heap.size + 1, 0, none⟩ = some (.string b.name) := Ar.out.k2.cell 0
            have s1 : wr.cell? ⟨w.heap.size + 1, 1, none⟩ = some (.slice ab b.args.length cb) := Ar.out.k2.cell 1
            rw [h0]
            go_wp2_with fail
            go_ret
            exact ⟨rfl, Ar.out.bl⟩
        · have h0' : (rowE row == 0) = false := by simpa using h0
          have HE : Hid (ordE row a b = rowE row) := by unfold Hid ordE; rw [if_neg h0]
          have P1 : Hid ((decide (ordE row a b = 0) && pathB row a b) = false) := by unfold Hid; rw [HE.out]; simp [h0]
          have P2 : Hid ((decide (ordE row a b = 0) && weightB row a b) = false) := by unfold Hid; rw [HE.out]; simp [h0]
          go_wp2_with fail
          refine (oPath_any row a b _ _ _ _ X (by exact HU.out.later A5.out.bl) (by exact HA.out.later A5.out.bl) (by exact HB.out.later A5.out.bl)).mono ?_
          rintro e wp ⟨rfl, hbwp⟩
          have Ap := hide (A5.out.later hbwp)
          clear hbwp A5
          clear r0 r1 s0 s1
          have r0 : wp.cell? ⟨w.heap.size, 0, none⟩ = some (.string a.name) := Ap.out.k1.cell 0
          have r1 : wp.cell? ⟨w.heap.size, 1, none⟩ = some (.slice aa a.args.length ca) := Ap.out.k1.cell 1
          have s0 : wp.cell? ⟨w.heap.size + 1, 0, none⟩ = some (.string b.name) := Ap.out.k2.cell 0
          have s1 : wp.cell? ⟨w.heap.size + 1, 1, none⟩ = some (.slice ab b.args.length cb) := Ap.out.k2.cell 1
          rw [P1.out, HE.out]
          go_wp2_with fail
          refine (oWeight_any row a b _ _ _ _ X (by exact HU.out.later Ap.out.bl) (by exact HA.out.later Ap.out.bl) (by exact HB.out.later Ap.out.bl)).mono ?_
          rintro e wq ⟨rfl, hbwq⟩
          have Aq := hide (Ap.out.later hbwq)
          clear hbwq Ap
          clear r0 r1 s0 s1
          have r0 : wq.cell? ⟨w.heap.size, 0, none⟩ = some (.string a.name) := Aq.out.k1.cell 0
          have r1 : wq.cell? ⟨w.heap.size, 1, none⟩ = some (.slice aa a.args.length ca) := Aq.out.k1.cell 1
          have s0 : wq.cell? ⟨w.heap.size + 1, 0, none⟩ = some (.string b.name) := Aq.out.k2.cell 0
          have s1 : wq.cell? ⟨w.heap.size + 1, 1, none⟩ = some (.slice ab b.args.length cb) := Aq.out.k2.cell 1
          rw [P2.out, HE.out]
          go_wp2_with fail
          refine (oCheck_any row _ _ X (by exact HU.out.later Aq.out.bl)).mono ?_
          rintro e wr ⟨rfl, hbwr⟩
          have Ar := hide (Aq.out.later hbwr)
          clear hbwr Aq
          clear r0 r1 s0 s1
          have r0 : wr.cell? ⟨w.heap.size, 0, none⟩ = some (.string a.name) := Ar.out.k1.cell 0
          have r1 : wr.cell? ⟨w.heap.size, 1, none⟩ = some (.slice aa a.args.length ca) := Ar.out.k1.cell 1
          have s0 : wr.cell? ⟨w.heap.size + 1, 0, none⟩ = some (.string b.name) := Ar.out.k2.cell 0
          have s1 : wr.cell? ⟨w.heap.size + 1, 1, none⟩ = some (.slice ab b.args.length cb) := Ar.out.k2.cell 1
          go_wp2_with fail
          go_ret
          exact ⟨rfl, Ar.out.bl⟩
#print axioms orderSays_any
end Go.Proofs.Ythlgknglalcggac
