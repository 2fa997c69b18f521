/- Walks: which term is above another one by weights. -/
import Derived.Test.YthlgknglalcggajW138
import Derived.Test.YthlgknglalcggajW136
namespace Go.Proofs.Ythlgknglalcggaj
open Go.RowKit
set_option linter.unusedSimpArgs false
set_option linter.unusedVariables false
set_option maxRecDepth 8000

structure HvW (S : List Tm) (a b : Tm) (aa : Option Addr) (ca : Nat) (ab : Option Addr) (cb : Nat) (w wr : World) : Prop where
  k1 : Blk wr w.heap.size #[.string a.name, .slice aa a.args.length ca, .int .i64 (numT a S), .int .i64 (sizeL [a])] 128
  k2 : Blk wr (w.heap.size + 1) #[.string b.name, .slice ab b.args.length cb, .int .i64 (numT b S), .int .i64 (sizeL [b])] 128
  bl : Below w.heap.size w wr
theorem HvW.later {S : List Tm} {a b : Tm} {aa ab : Option Addr} {ca cb : Nat} {w w1 w2 : World} (h : HvW S a b aa ca ab cb w w1) (hb : Below w1.heap.size w1 w2) : HvW S a b aa ca ab cb w w2 := ⟨h.k1.below hb h.k1.lt, h.k2.below hb h.k2.lt, h.bl.trans (hb.mono h.bl.size)⟩
theorem HvW.start (S : List Tm) (a b : Tm) (aa : Option Addr) (ca : Nat) (ab : Option Addr) (cb : Nat) (w : World) : HvW S a b aa ca ab cb w ((w.alloc (.cells #[.string a.name, .slice aa a.args.length ca, .int .i64 (numT a S), .int .i64 (sizeL [a])] 128)).alloc (.cells #[.string b.name, .slice ab b.args.length cb, .int .i64 (numT b S), .int .i64 (sizeL [b])] 128)) := by
  have k1 := Blk.new w #[.string a.name, .slice aa a.args.length ca, .int .i64 (numT a S), .int .i64 (sizeL [a])] 128
  have e1 : (w.alloc (.cells #[.string a.name, .slice aa a.args.length ca, .int .i64 (numT a S), .int .i64 (sizeL [a])] 128)).heap.size = w.heap.size + 1 := by simp
  have b1 := (Below.refl w.heap.size w).alloc (Nat.le_refl _) (.cells #[.string a.name, .slice aa a.args.length ca, .int .i64 (numT a S), .int .i64 (sizeL [a])] 128)
  generalize (w.alloc (.cells #[.string a.name, .slice aa a.args.length ca, .int .i64 (numT a S), .int .i64 (sizeL [a])] 128)) = w1 at *
  have k2 := Blk.new w1 #[.string b.name, .slice ab b.args.length cb, .int .i64 (numT b S), .int .i64 (sizeL [b])] 128
  rw [e1] at k2
  exact ⟨k1.alloc _, k2, b1.alloc b1.size _⟩

set_option maxHeartbeats 4000000 in
theorem heavier_any (row : List ByteArray) (S : List Tm) (rk : Nat) : ∀ (N : Nat) (a b : Tm) (va vb : Value) (w : World) (X : Nat → Prop), sizeL [a] ≤ N → sizeL [a] ≤ 20000 → sizeL [b] ≤ 20000 → MapAt w rk (rkL 0 row) → IV w X S va a → IV w X S vb b →
    Calls Try.prog 83 #[.map (some rk), va, vb] w fun e w' => e = .returned (.bool (weightB row a b)) ∧ Below w.heap.size w w'
  | 0 => fun a b va vb w X hN _ _ _ _ _ => by have := size_pos a; omega
  | N + 1 => by
    intro a b va vb w X hN za zb hM ha hb
    have IH := hide (heavier_any row S rk N)
    have HA := hide ha
    have HB := hide hb
    obtain ⟨_, aa, ca, rfl, hsa⟩ := ha
    obtain ⟨_, ab, cb, rfl, hsb⟩ := hb
    have HM := hide hM
    have HWB := hide (weightB_eq row a b)
    clear hsa hsb hM
    have A2 := hide (HvW.start S a b aa ca ab cb w)
    go_enter Try.func83, Try.ntmps83
    go_wp2_with fail
    generalize ((w.alloc (.cells #[.string a.name, .slice aa a.args.length ca, .int .i64 (numT a S), .int .i64 (sizeL [a])] 128)).alloc (.cells #[.string b.name, .slice ab b.args.length cb, .int .i64 (numT b S), .int .i64 (sizeL [b])] 128)) = w2 at *
    refine (hasAllOf_any S a b _ _ _ X za zb (by exact HA.out.later A2.out.bl) (by exact HB.out.later A2.out.bl)).mono ?_
    rintro e w3 ⟨rfl, hb3⟩
    have A3 := hide (A2.out.later hb3)
    clear hb3 A2
    have r0 : w3.cell? ⟨w.heap.size, 0, none⟩ = some (.string a.name) := A3.out.k1.cell 0
    have r1 : w3.cell? ⟨w.heap.size, 1, none⟩ = some (.slice aa a.args.length ca) := A3.out.k1.cell 1
    have r2 : w3.cell? ⟨w.heap.size, 2, none⟩ = some (.int .i64 (numT a S)) := A3.out.k1.cell 2
    have r3 : w3.cell? ⟨w.heap.size, 3, none⟩ = some (.int .i64 (sizeL [a])) := A3.out.k1.cell 3
    have s0 : w3.cell? ⟨w.heap.size + 1, 0, none⟩ = some (.string b.name) := A3.out.k2.cell 0
    have s1 : w3.cell? ⟨w.heap.size + 1, 1, none⟩ = some (.slice ab b.args.length cb) := A3.out.k2.cell 1
    have s2 : w3.cell? ⟨w.heap.size + 1, 2, none⟩ = some (.int .i64 (numT b S)) := A3.out.k2.cell 2
    have s3 : w3.cell? ⟨w.heap.size + 1, 3, none⟩ = some (.int .i64 (sizeL [b])) := A3.out.k2.cell 3
    cases hal : hasAll a b with
    | false =>
      have HR : Hid (weightB row a b = false) := by unfold Hid; rw [HWB.out, if_pos hal]
      clear hal
      go_wp2_with fail
      go_ret
      exact ⟨by rw [HR.out]; rfl, A3.out.bl⟩
    | true =>
      have HAL := hide hal
      clear hal
      by_cases hz : sizeL [a] = sizeL [b]
      · have hz1 : ((sizeL [a] : Int) != (sizeL [b] : Int)) = false := by rw [hz]; simp
        have HZ := hide hz
        clear hz
        go_wp2_with fail
        refine (itemVar_any S a _ _ X (by exact HA.out.later A3.out.bl)).mono ?_
        rintro e w4 ⟨rfl, hb4⟩
        have A4 := hide (A3.out.later hb4)
        clear hb4 A3
        clear r0 r1 r2 r3 s0 s1 s2 s3
        have r0 : w4.cell? ⟨w.heap.size, 0, none⟩ = some (.string a.name) := A4.out.k1.cell 0
        have r1 : w4.cell? ⟨w.heap.size, 1, none⟩ = some (.slice aa a.args.length ca) := A4.out.k1.cell 1
        have r2 : w4.cell? ⟨w.heap.size, 2, none⟩ = some (.int .i64 (numT a S)) := A4.out.k1.cell 2
        have r3 : w4.cell? ⟨w.heap.size, 3, none⟩ = some (.int .i64 (sizeL [a])) := A4.out.k1.cell 3
        have s0 : w4.cell? ⟨w.heap.size + 1, 0, none⟩ = some (.string b.name) := A4.out.k2.cell 0
        have s1 : w4.cell? ⟨w.heap.size + 1, 1, none⟩ = some (.slice ab b.args.length cb) := A4.out.k2.cell 1
        have s2 : w4.cell? ⟨w.heap.size + 1, 2, none⟩ = some (.int .i64 (numT b S)) := A4.out.k2.cell 2
        have s3 : w4.cell? ⟨w.heap.size + 1, 3, none⟩ = some (.int .i64 (sizeL [b])) := A4.out.k2.cell 3
        cases hva : varB a.name with
        | true =>
          have HR : Hid (weightB row a b = false) := by unfold Hid; rw [HWB.out, if_neg (by rw [HAL.out]; simp), if_neg (by rw [HZ.out]; simp), if_pos hva]
          clear hva
          go_wp2_with fail
          go_ret
          exact ⟨by rw [HR.out]; rfl, A4.out.bl⟩
        | false =>
          have HVA := hide hva
          clear hva
          go_wp2_with fail
          refine (itemVar_any S b _ _ X (by exact HB.out.later A4.out.bl)).mono ?_
          rintro e w5 ⟨rfl, hb5⟩
          have A5 := hide (A4.out.later hb5)
          clear hb5 A4
          clear r0 r1 r2 r3 s0 s1 s2 s3
          have r0 : w5.cell? ⟨w.heap.size, 0, none⟩ = some (.string a.name) := A5.out.k1.cell 0
          have r1 : w5.cell? ⟨w.heap.size, 1, none⟩ = some (.slice aa a.args.length ca) := A5.out.k1.cell 1
          have r2 : w5.cell? ⟨w.heap.size, 2, none⟩ = some (.int .i64 (numT a S)) := A5.out.k1.cell 2
          have r3 : w5.cell? ⟨w.heap.size, 3, none⟩ = some (.int .i64 (sizeL [a])) := A5.out.k1.cell 3
          have s0 : w5.cell? ⟨w.heap.size + 1, 0, none⟩ = some (.string b.name) := A5.out.k2.cell 0
          have s1 : w5.cell? ⟨w.heap.size + 1, 1, none⟩ = some (.slice ab b.args.length cb) := A5.out.k2.cell 1
          have s2 : w5.cell? ⟨w.heap.size + 1, 2, none⟩ = some (.int .i64 (numT b S)) := A5.out.k2.cell 2
          have s3 : w5.cell? ⟨w.heap.size + 1, 3, none⟩ = some (.int .i64 (sizeL [b])) := A5.out.k2.cell 3
          cases hvb : varB b.name with
          | true =>
            have HR : Hid (weightB row a b = false) := by unfold Hid; rw [HWB.out, if_neg (by rw [HAL.out]; simp), if_neg (by rw [HZ.out]; simp), if_neg (by rw [HVA.out]; simp), if_pos hvb]
            clear hvb
            go_wp2_with fail
            go_ret
            exact ⟨by rw [HR.out]; rfl, A5.out.bl⟩
          | false =>
            have HEAD : Hid (weightB row a b = if gtS row a b = true then true else if gtS row b a = true then false else match unl a.args b.args with | none => false | some (x, y) => weightB row x y) := by
              unfold Hid
              rw [HWB.out, if_neg (by rw [HAL.out]; simp), if_neg (by rw [HZ.out]; simp), if_neg (by rw [HVA.out]; simp), if_neg (by rw [hvb]; simp)]
              cases unl a.args b.args with
              | none => rfl
              | some p => rfl
            clear hvb HWB HAL HZ HVA
            go_wp2_with fail
            refine (compareR_any row S a b rk _ _ _ X (HM.out.below A5.out.bl HM.out.lt) (by exact HA.out.later A5.out.bl) (by exact HB.out.later A5.out.bl)).mono ?_
            rintro e w6 ⟨rfl, hb6⟩
            have A6 := hide (A5.out.later hb6)
            clear hb6 A5
            clear r0 r1 r2 r3 s0 s1 s2 s3
            have r0 : w6.cell? ⟨w.heap.size, 0, none⟩ = some (.string a.name) := A6.out.k1.cell 0
            have r1 : w6.cell? ⟨w.heap.size, 1, none⟩ = some (.slice aa a.args.length ca) := A6.out.k1.cell 1
            have r2 : w6.cell? ⟨w.heap.size, 2, none⟩ = some (.int .i64 (numT a S)) := A6.out.k1.cell 2
            have r3 : w6.cell? ⟨w.heap.size, 3, none⟩ = some (.int .i64 (sizeL [a])) := A6.out.k1.cell 3
            have s0 : w6.cell? ⟨w.heap.size + 1, 0, none⟩ = some (.string b.name) := A6.out.k2.cell 0
            have s1 : w6.cell? ⟨w.heap.size + 1, 1, none⟩ = some (.slice ab b.args.length cb) := A6.out.k2.cell 1
            have s2 : w6.cell? ⟨w.heap.size + 1, 2, none⟩ = some (.int .i64 (numT b S)) := A6.out.k2.cell 2
            have s3 : w6.cell? ⟨w.heap.size + 1, 3, none⟩ = some (.int .i64 (sizeL [b])) := A6.out.k2.cell 3
            rcases cmpS_cases row a b with ⟨g1, hc⟩ | ⟨g1, hc⟩ | ⟨g1, g2, hc⟩
            · have HR : Hid (weightB row a b = true) := by unfold Hid; rw [HEAD.out, if_pos g1]
              rw [hc]
              clear g1 hc
              go_wp2_with fail
              go_ret
              exact ⟨by rw [HR.out]; rfl, A6.out.bl⟩
            · have HR : Hid (weightB row a b = false) := by unfold Hid; rw [HEAD.out, if_neg (by rw [gtS_asymm g1]; simp), if_pos g1]
              rw [hc]
              clear g1 hc
              go_wp2_with fail
              go_ret
              exact ⟨by rw [HR.out]; rfl, A6.out.bl⟩
            · have HLAST : Hid (weightB row a b = match unl a.args b.args with | none => false | some (x, y) => weightB row x y) := by unfold Hid; rw [HEAD.out, if_neg (by rw [g1]; simp), if_neg (by rw [g2]; simp)]
              have HLEN := hide (gtS_same g1 g2).2
              rw [hc]
              clear g1 g2 hc HEAD
              go_wp2_with fail
              refine (firstUnlike_any S a b HLEN.out _ _ _ X (by exact HA.out.later A6.out.bl) (by exact HB.out.later A6.out.bl)).mono ?_
              rintro e w7 ⟨hb7, hcase⟩
              have A7 := hide (A6.out.later hb7)
              clear hb7 A6
              clear r0 r1 r2 r3 s0 s1 s2 s3
              rcases hcase with ⟨x, y, vx, vy, hu, rfl, hvx, hvy⟩ | ⟨hu, rfl⟩
              · have HVX := hide hvx
                have HVY := hide hvy
                obtain ⟨_, ax, cx, rfl, _⟩ := hvx
                obtain ⟨_, ay, cy, rfl, _⟩ := hvy
                obtain ⟨mx, my⟩ := unl_mem hu
                have sx := size_arg mx
                have sy := size_arg my
                have HU := hide hu
                clear hu mx my
                go_wp2_with fail
                refine (IH.out x y _ _ _ X (by omega) (by omega) (by omega) (by exact ((HM.out.below A7.out.bl HM.out.lt).kept (Below.heap_alloc _ _ _ (by have := A7.out.bl.size; have := HM.out.lt; omega))).kept (Below.heap_alloc _ _ _ (by have := A7.out.bl.size; have := HM.out.lt; simp; omega))) (by exact (HVX.out.alloc _).alloc _) (by exact (HVY.out.alloc _).alloc _)).mono ?_
                rintro e wA ⟨rfl, hbA⟩
                have HBA := hide (((A7.out.bl.alloc A7.out.bl.size _).alloc (by have := A7.out.bl.size; simp; omega) _).trans (hbA.mono (by have := A7.out.bl.size; simp; omega)))
                have HR : Hid (weightB row a b = weightB row x y) := by unfold Hid; rw [HLAST.out, HU.out]
                clear hbA
                go_wp2_with fail
                go_ret
                exact ⟨by rw [HR.out]; rfl, HBA.out⟩
              · have HR : Hid (weightB row a b = false) := by unfold Hid; rw [HLAST.out, hu]
                go_wp2_with fail
                go_ret
                exact ⟨by rw [HR.out]; rfl, (A7.out.bl.alloc A7.out.bl.size _).alloc (by have := A7.out.bl.size; simp; omega) _⟩
      · have hz1 : ((sizeL [a] : Int) != (sizeL [b] : Int)) = true := by rw [bne_iff_ne]; omega
        have HR : Hid (weightB row a b = decide (sizeL [b] < sizeL [a])) := by unfold Hid; rw [HWB.out, if_neg (by rw [HAL.out]; simp), if_pos hz]
        go_wp2_with fail
        go_ret
        refine ⟨?_, A3.out.bl⟩
        rw [HR.out]
        by_cases hg : sizeL [b] < sizeL [a]
        · have : (sizeL [b] : Int) < (sizeL [a] : Int) := by omega
          simp [hg, this]
        · have : ¬ (sizeL [b] : Int) < (sizeL [a] : Int) := by omega
          simp [hg, this]
#print axioms heavier_any
end Go.Proofs.Ythlgknglalcggaj
