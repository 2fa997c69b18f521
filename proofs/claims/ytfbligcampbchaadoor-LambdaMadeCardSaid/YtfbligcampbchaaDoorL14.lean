/- The law LambdaPuts. -/
import Derived.Test.YtfbligcampbchaaDoorL13
namespace Go.Proofs.YtfbligcampbchaaDoor
open Go.RowKit
set_option linter.unusedSimpArgs false
set_option linter.unusedVariables false
set_option maxRecDepth 8000

theorem LpS.set {w wr : World} {t z : Lm} {a az : Option Addr} {c cz : Nat} (h : LpS w t z a az c cz wr) {b : Nat} (hb : w.heap.size + 2 ≤ b) (i : Nat) (v : Value) : LpS w t z a az c cz (wr.setCell ⟨b, i, none⟩ v) :=
  ⟨h.1.setCell (p := ⟨b, i, none⟩) (by show w.heap.size ≤ b; omega) v, h.2.1.setOther _ _ (by omega), h.2.2.setOther _ _ (by omega)⟩
set_option maxHeartbeats 4000000 in
theorem lambdaPuts_any (t z : Lm) (v x : Value) (u : Int) (w : World) (X : Nat → Prop) (hv : MV w X v t) (hx : MV w X x z) :
    Calls Tryd.prog 15 #[v, x, .int .i64 u] w fun e w' => e = .returned (.bool true) ∧ Below w.heap.size w w' := by
  obtain ⟨a, c, rfl, hs⟩ := hv
  obtain ⟨az, cz, rfl, hsz⟩ := hx
  have HS := hide hs
  have HZ := hide hsz
  clear hs hsz
  have P0 := hide (LpS.start w t z a az c cz)
  go_enter Tryd.func15, Tryd.ntmps15
  go_wp2_with fail
  refine (hugeLam_any t _ _ X ⟨a, c, rfl, HS.out.later P0.out.1⟩).mono ?_
  rintro e w1 ⟨rfl, hb⟩
  have Pw1 := hide (P0.out.later hb)
  clear hb P0 
  have t0w1 : w1.cell? ⟨w.heap.size, 0, none⟩ = some (.int .i64 t.kind) := (Pw1.out.2.1).cell 0
  have t0w1a : ∀ o, (w1.alloc o).cell? ⟨w.heap.size, 0, none⟩ = some (.int .i64 t.kind) := fun o => ((Pw1.out.alloc o).2.1).cell 0
  have t1w1 : w1.cell? ⟨w.heap.size, 1, none⟩ = some (.int .i64 t.idx) := (Pw1.out.2.1).cell 1
  have t1w1a : ∀ o, (w1.alloc o).cell? ⟨w.heap.size, 1, none⟩ = some (.int .i64 t.idx) := fun o => ((Pw1.out.alloc o).2.1).cell 1
  have t2w1 : w1.cell? ⟨w.heap.size, 2, none⟩ = some (.slice a t.subs.length c) := (Pw1.out.2.1).cell 2
  have t2w1a : ∀ o, (w1.alloc o).cell? ⟨w.heap.size, 2, none⟩ = some (.slice a t.subs.length c) := fun o => ((Pw1.out.alloc o).2.1).cell 2
  have x0w1 : w1.cell? ⟨w.heap.size + 1, 0, none⟩ = some (.int .i64 z.kind) := (Pw1.out.2.2).cell 0
  have x0w1a : ∀ o, (w1.alloc o).cell? ⟨w.heap.size + 1, 0, none⟩ = some (.int .i64 z.kind) := fun o => ((Pw1.out.alloc o).2.2).cell 0
  have x1w1 : w1.cell? ⟨w.heap.size + 1, 1, none⟩ = some (.int .i64 z.idx) := (Pw1.out.2.2).cell 1
  have x1w1a : ∀ o, (w1.alloc o).cell? ⟨w.heap.size + 1, 1, none⟩ = some (.int .i64 z.idx) := fun o => ((Pw1.out.alloc o).2.2).cell 1
  have x2w1 : w1.cell? ⟨w.heap.size + 1, 2, none⟩ = some (.slice az z.subs.length cz) := (Pw1.out.2.2).cell 2
  have x2w1a : ∀ o, (w1.alloc o).cell? ⟨w.heap.size + 1, 2, none⟩ = some (.slice az z.subs.length cz) := fun o => ((Pw1.out.alloc o).2.2).cell 2
  have hlw1 := Pw1.out.2.2.lt
  by_cases hh : 3000 < sizeM [t]
  · go_wp2_with fail
    go_ret
    exact ⟨rfl, Pw1.out.1⟩
  · go_wp2_with fail
    refine (hugeLam_any z _ _ X ⟨az, cz, rfl, HZ.out.later Pw1.out.1⟩).mono ?_
    rintro e w2 ⟨rfl, hb⟩
    have Pw2 := hide (Pw1.out.later hb)
    clear hb Pw1 t0w1 t0w1a t1w1 t1w1a t2w1 t2w1a x0w1 x0w1a x1w1 x1w1a x2w1 x2w1a hlw1
    have t0w2 : w2.cell? ⟨w.heap.size, 0, none⟩ = some (.int .i64 t.kind) := (Pw2.out.2.1).cell 0
    have t0w2a : ∀ o, (w2.alloc o).cell? ⟨w.heap.size, 0, none⟩ = some (.int .i64 t.kind) := fun o => ((Pw2.out.alloc o).2.1).cell 0
    have t1w2 : w2.cell? ⟨w.heap.size, 1, none⟩ = some (.int .i64 t.idx) := (Pw2.out.2.1).cell 1
    have t1w2a : ∀ o, (w2.alloc o).cell? ⟨w.heap.size, 1, none⟩ = some (.int .i64 t.idx) := fun o => ((Pw2.out.alloc o).2.1).cell 1
    have t2w2 : w2.cell? ⟨w.heap.size, 2, none⟩ = some (.slice a t.subs.length c) := (Pw2.out.2.1).cell 2
    have t2w2a : ∀ o, (w2.alloc o).cell? ⟨w.heap.size, 2, none⟩ = some (.slice a t.subs.length c) := fun o => ((Pw2.out.alloc o).2.1).cell 2
    have x0w2 : w2.cell? ⟨w.heap.size + 1, 0, none⟩ = some (.int .i64 z.kind) := (Pw2.out.2.2).cell 0
    have x0w2a : ∀ o, (w2.alloc o).cell? ⟨w.heap.size + 1, 0, none⟩ = some (.int .i64 z.kind) := fun o => ((Pw2.out.alloc o).2.2).cell 0
    have x1w2 : w2.cell? ⟨w.heap.size + 1, 1, none⟩ = some (.int .i64 z.idx) := (Pw2.out.2.2).cell 1
    have x1w2a : ∀ o, (w2.alloc o).cell? ⟨w.heap.size + 1, 1, none⟩ = some (.int .i64 z.idx) := fun o => ((Pw2.out.alloc o).2.2).cell 1
    have x2w2 : w2.cell? ⟨w.heap.size + 1, 2, none⟩ = some (.slice az z.subs.length cz) := (Pw2.out.2.2).cell 2
    have x2w2a : ∀ o, (w2.alloc o).cell? ⟨w.heap.size + 1, 2, none⟩ = some (.slice az z.subs.length cz) := fun o => ((Pw2.out.alloc o).2.2).cell 2
    have hlw2 := Pw2.out.2.2.lt
    by_cases hh2 : 3000 < sizeM [z]
    · go_wp2_with fail
      go_ret
      exact ⟨rfl, Pw2.out.1⟩
    · by_cases hu0 : u < 0
      · have HE : Hid (putE t z u = 10) := by unfold Hid putE; simp [hu0]
        go_wp2_with fail
        refine (lPut_any t z _ _ u _ X ⟨a, c, rfl, HS.out.later (Pw2.out.alloc (.cells #[.int .i64 0, .int .i64 0, .slice none 0 0] 24)).1⟩ ⟨az, cz, rfl, HZ.out.later (Pw2.out.alloc (.cells #[.int .i64 0, .int .i64 0, .slice none 0 0] 24)).1⟩).mono ?_
        rintro e w9 ⟨hb9, hcase⟩
        have P9 := hide ((Pw2.out.alloc (.cells #[.int .i64 0, .int .i64 0, .slice none 0 0] 24)).later hb9)
        have W9 := hide ((Blk.new w2 #[.int .i64 0, .int .i64 0, .slice none 0 0] 24).below hb9 (by simp))
        rcases hcase with ⟨h0, _⟩ | ⟨_, rfl⟩
        · exact absurd (HE.out.symm.trans h0) (by decide : (10 : Int) ≠ 0)
        rw [HE.out]
        clear hb9 t0w2 t0w2a t1w2 t1w2a t2w2 t2w2a x0w2 x0w2a x1w2 x1w2a x2w2 x2w2a hlw2
        have q0w9 : w9.cell? ⟨w2.heap.size, 0, none⟩ = some (.int .i64 0) := W9.out.cell 0
        have q0w9a : ∀ o, (w9.alloc o).cell? ⟨w2.heap.size, 0, none⟩ = some (.int .i64 0) := fun o => (W9.out.alloc o).cell 0
        have q1w9 : w9.cell? ⟨w2.heap.size, 1, none⟩ = some (.int .i64 0) := W9.out.cell 1
        have q1w9a : ∀ o, (w9.alloc o).cell? ⟨w2.heap.size, 1, none⟩ = some (.int .i64 0) := fun o => (W9.out.alloc o).cell 1
        have q2w9 : w9.cell? ⟨w2.heap.size, 2, none⟩ = some (.slice none 0 0) := W9.out.cell 2
        have q2w9a : ∀ o, (w9.alloc o).cell? ⟨w2.heap.size, 2, none⟩ = some (.slice none 0 0) := fun o => (W9.out.alloc o).cell 2
        have hqw9 := W9.out.lt
        go_wp2_with fail
        refine (lam2_err 10 _ 0 0 none 0 0 rfl _ (by decide : (10 : Int) ≠ 0)).mono ?_
        rintro e w10 ⟨rfl, hb10⟩
        have P10 := hide ((P9.out.alloc (.cells #[.int .i64 0, .int .i64 0, .slice none 0 0] 24)).later hb10)
        clear hb10
        go_wp2_with fail
        go_ret
        exact ⟨rfl, P10.out.1⟩
      · by_cases hu1 : 40 ≤ u
        · have HE : Hid (putE t z u = 10) := by unfold Hid putE; simp [hu1]
          go_wp2_with fail
          refine (lPut_any t z _ _ u _ X ⟨a, c, rfl, HS.out.later (Pw2.out.alloc (.cells #[.int .i64 0, .int .i64 0, .slice none 0 0] 24)).1⟩ ⟨az, cz, rfl, HZ.out.later (Pw2.out.alloc (.cells #[.int .i64 0, .int .i64 0, .slice none 0 0] 24)).1⟩).mono ?_
          rintro e w9 ⟨hb9, hcase⟩
          have P9 := hide ((Pw2.out.alloc (.cells #[.int .i64 0, .int .i64 0, .slice none 0 0] 24)).later hb9)
          have W9 := hide ((Blk.new w2 #[.int .i64 0, .int .i64 0, .slice none 0 0] 24).below hb9 (by simp))
          rcases hcase with ⟨h0, _⟩ | ⟨_, rfl⟩
          · exact absurd (HE.out.symm.trans h0) (by decide : (10 : Int) ≠ 0)
          rw [HE.out]
          clear hb9 t0w2 t0w2a t1w2 t1w2a t2w2 t2w2a x0w2 x0w2a x1w2 x1w2a x2w2 x2w2a hlw2
          have q0w9 : w9.cell? ⟨w2.heap.size, 0, none⟩ = some (.int .i64 0) := W9.out.cell 0
          have q0w9a : ∀ o, (w9.alloc o).cell? ⟨w2.heap.size, 0, none⟩ = some (.int .i64 0) := fun o => (W9.out.alloc o).cell 0
          have q1w9 : w9.cell? ⟨w2.heap.size, 1, none⟩ = some (.int .i64 0) := W9.out.cell 1
          have q1w9a : ∀ o, (w9.alloc o).cell? ⟨w2.heap.size, 1, none⟩ = some (.int .i64 0) := fun o => (W9.out.alloc o).cell 1
          have q2w9 : w9.cell? ⟨w2.heap.size, 2, none⟩ = some (.slice none 0 0) := W9.out.cell 2
          have q2w9a : ∀ o, (w9.alloc o).cell? ⟨w2.heap.size, 2, none⟩ = some (.slice none 0 0) := fun o => (W9.out.alloc o).cell 2
          have hqw9 := W9.out.lt
          go_wp2_with fail
          refine (lam2_err 10 _ 0 0 none 0 0 rfl _ (by decide : (10 : Int) ≠ 0)).mono ?_
          rintro e w10 ⟨rfl, hb10⟩
          have P10 := hide ((P9.out.alloc (.cells #[.int .i64 0, .int .i64 0, .slice none 0 0] 24)).later hb10)
          clear hb10
          go_wp2_with fail
          go_ret
          exact ⟨rfl, P10.out.1⟩
        · have hw1 : IntKind.i64.wrap (u + 1) = u + 1 := by rw [IntKind.wrap_i64]; omega
          have HU : Hid (¬ (u < 0 ∨ 40 ≤ u)) := by unfold Hid; omega
          go_wp2_with fail
          refine (lamMay_any t _ (u + 1) 0 _ X ⟨a, c, rfl, HS.out.later Pw2.out.1⟩).mono ?_
          rintro e w3 ⟨rfl, hb⟩
          have Pw3 := hide (Pw2.out.later hb)
          clear hb Pw2 t0w2 t0w2a t1w2 t1w2a t2w2 t2w2a x0w2 x0w2a x1w2 x1w2a x2w2 x2w2a hlw2
          have t0w3 : w3.cell? ⟨w.heap.size, 0, none⟩ = some (.int .i64 t.kind) := (Pw3.out.2.1).cell 0
          have t0w3a : ∀ o, (w3.alloc o).cell? ⟨w.heap.size, 0, none⟩ = some (.int .i64 t.kind) := fun o => ((Pw3.out.alloc o).2.1).cell 0
          have t1w3 : w3.cell? ⟨w.heap.size, 1, none⟩ = some (.int .i64 t.idx) := (Pw3.out.2.1).cell 1
          have t1w3a : ∀ o, (w3.alloc o).cell? ⟨w.heap.size, 1, none⟩ = some (.int .i64 t.idx) := fun o => ((Pw3.out.alloc o).2.1).cell 1
          have t2w3 : w3.cell? ⟨w.heap.size, 2, none⟩ = some (.slice a t.subs.length c) := (Pw3.out.2.1).cell 2
          have t2w3a : ∀ o, (w3.alloc o).cell? ⟨w.heap.size, 2, none⟩ = some (.slice a t.subs.length c) := fun o => ((Pw3.out.alloc o).2.1).cell 2
          have x0w3 : w3.cell? ⟨w.heap.size + 1, 0, none⟩ = some (.int .i64 z.kind) := (Pw3.out.2.2).cell 0
          have x0w3a : ∀ o, (w3.alloc o).cell? ⟨w.heap.size + 1, 0, none⟩ = some (.int .i64 z.kind) := fun o => ((Pw3.out.alloc o).2.2).cell 0
          have x1w3 : w3.cell? ⟨w.heap.size + 1, 1, none⟩ = some (.int .i64 z.idx) := (Pw3.out.2.2).cell 1
          have x1w3a : ∀ o, (w3.alloc o).cell? ⟨w.heap.size + 1, 1, none⟩ = some (.int .i64 z.idx) := fun o => ((Pw3.out.alloc o).2.2).cell 1
          have x2w3 : w3.cell? ⟨w.heap.size + 1, 2, none⟩ = some (.slice az z.subs.length cz) := (Pw3.out.2.2).cell 2
          have x2w3a : ∀ o, (w3.alloc o).cell? ⟨w.heap.size + 1, 2, none⟩ = some (.slice az z.subs.length cz) := fun o => ((Pw3.out.alloc o).2.2).cell 2
          have hlw3 := Pw3.out.2.2.lt
          by_cases hne : lamE (u + 1) 0 t = 0
          case neg =>
            have HE : Hid (putE t z u = lamE (u + 1) 0 t) := by unfold Hid putE; rw [if_neg HU.out, if_pos hne]
            have hnb : (lamE (u + 1) 0 t == 0) = false := by simpa using hne
            go_wp2_with fail
            refine (lPut_any t z _ _ u _ X ⟨a, c, rfl, HS.out.later (Pw3.out.alloc (.cells #[.int .i64 0, .int .i64 0, .slice none 0 0] 24)).1⟩ ⟨az, cz, rfl, HZ.out.later (Pw3.out.alloc (.cells #[.int .i64 0, .int .i64 0, .slice none 0 0] 24)).1⟩).mono ?_
            rintro e w9 ⟨hb9, hcase⟩
            have P9 := hide ((Pw3.out.alloc (.cells #[.int .i64 0, .int .i64 0, .slice none 0 0] 24)).later hb9)
            have W9 := hide ((Blk.new w3 #[.int .i64 0, .int .i64 0, .slice none 0 0] 24).below hb9 (by simp))
            rcases hcase with ⟨h0, _⟩ | ⟨_, rfl⟩
            · exact absurd (HE.out.symm.trans h0) hne
            rw [HE.out]
            clear hb9 t0w3 t0w3a t1w3 t1w3a t2w3 t2w3a x0w3 x0w3a x1w3 x1w3a x2w3 x2w3a hlw3
            have q0w9 : w9.cell? ⟨w3.heap.size, 0, none⟩ = some (.int .i64 0) := W9.out.cell 0
            have q0w9a : ∀ o, (w9.alloc o).cell? ⟨w3.heap.size, 0, none⟩ = some (.int .i64 0) := fun o => (W9.out.alloc o).cell 0
            have q1w9 : w9.cell? ⟨w3.heap.size, 1, none⟩ = some (.int .i64 0) := W9.out.cell 1
            have q1w9a : ∀ o, (w9.alloc o).cell? ⟨w3.heap.size, 1, none⟩ = some (.int .i64 0) := fun o => (W9.out.alloc o).cell 1
            have q2w9 : w9.cell? ⟨w3.heap.size, 2, none⟩ = some (.slice none 0 0) := W9.out.cell 2
            have q2w9a : ∀ o, (w9.alloc o).cell? ⟨w3.heap.size, 2, none⟩ = some (.slice none 0 0) := fun o => (W9.out.alloc o).cell 2
            have hqw9 := W9.out.lt
            have hEb : ((lamE (u + 1) 0 t) == 0) = false := by have := hne; simpa using this
            go_wp2_with fail
            refine (lam2_err (lamE (u + 1) 0 t) _ 0 0 none 0 0 rfl _ hne).mono ?_
            rintro e w10 ⟨rfl, hb10⟩
            have P10 := hide ((P9.out.alloc (.cells #[.int .i64 0, .int .i64 0, .slice none 0 0] 24)).later hb10)
            clear hb10
            go_wp2_with fail
            go_ret
            exact ⟨rfl, P10.out.1⟩
          case pos =>
            have HT0 := hide hne
            rw [hne]
            clear hne
            go_wp2_with fail
            refine (lamMay_any z _ u 0 _ X ⟨az, cz, rfl, HZ.out.later Pw3.out.1⟩).mono ?_
            rintro e w4 ⟨rfl, hb⟩
            have Pw4 := hide (Pw3.out.later hb)
            clear hb Pw3 t0w3 t0w3a t1w3 t1w3a t2w3 t2w3a x0w3 x0w3a x1w3 x1w3a x2w3 x2w3a hlw3
            have t0w4 : w4.cell? ⟨w.heap.size, 0, none⟩ = some (.int .i64 t.kind) := (Pw4.out.2.1).cell 0
            have t0w4a : ∀ o, (w4.alloc o).cell? ⟨w.heap.size, 0, none⟩ = some (.int .i64 t.kind) := fun o => ((Pw4.out.alloc o).2.1).cell 0
            have t1w4 : w4.cell? ⟨w.heap.size, 1, none⟩ = some (.int .i64 t.idx) := (Pw4.out.2.1).cell 1
            have t1w4a : ∀ o, (w4.alloc o).cell? ⟨w.heap.size, 1, none⟩ = some (.int .i64 t.idx) := fun o => ((Pw4.out.alloc o).2.1).cell 1
            have t2w4 : w4.cell? ⟨w.heap.size, 2, none⟩ = some (.slice a t.subs.length c) := (Pw4.out.2.1).cell 2
            have t2w4a : ∀ o, (w4.alloc o).cell? ⟨w.heap.size, 2, none⟩ = some (.slice a t.subs.length c) := fun o => ((Pw4.out.alloc o).2.1).cell 2
            have x0w4 : w4.cell? ⟨w.heap.size + 1, 0, none⟩ = some (.int .i64 z.kind) := (Pw4.out.2.2).cell 0
            have x0w4a : ∀ o, (w4.alloc o).cell? ⟨w.heap.size + 1, 0, none⟩ = some (.int .i64 z.kind) := fun o => ((Pw4.out.alloc o).2.2).cell 0
            have x1w4 : w4.cell? ⟨w.heap.size + 1, 1, none⟩ = some (.int .i64 z.idx) := (Pw4.out.2.2).cell 1
            have x1w4a : ∀ o, (w4.alloc o).cell? ⟨w.heap.size + 1, 1, none⟩ = some (.int .i64 z.idx) := fun o => ((Pw4.out.alloc o).2.2).cell 1
            have x2w4 : w4.cell? ⟨w.heap.size + 1, 2, none⟩ = some (.slice az z.subs.length cz) := (Pw4.out.2.2).cell 2
            have x2w4a : ∀ o, (w4.alloc o).cell? ⟨w.heap.size + 1, 2, none⟩ = some (.slice az z.subs.length cz) := fun o => ((Pw4.out.alloc o).2.2).cell 2
            have hlw4 := Pw4.out.2.2.lt
            by_cases hne : lamE u 0 z = 0
            case neg =>
              have HE : Hid (putE t z u = lamE u 0 z) := by unfold Hid putE; rw [if_neg HU.out, if_neg (by simpa using HT0.out), if_pos hne]
              have hnb : (lamE u 0 z == 0) = false := by simpa using hne
              go_wp2_with fail
              refine (lPut_any t z _ _ u _ X ⟨a, c, rfl, HS.out.later (Pw4.out.alloc (.cells #[.int .i64 0, .int .i64 0, .slice none 0 0] 24)).1⟩ ⟨az, cz, rfl, HZ.out.later (Pw4.out.alloc (.cells #[.int .i64 0, .int .i64 0, .slice none 0 0] 24)).1⟩).mono ?_
              rintro e w9 ⟨hb9, hcase⟩
              have P9 := hide ((Pw4.out.alloc (.cells #[.int .i64 0, .int .i64 0, .slice none 0 0] 24)).later hb9)
              have W9 := hide ((Blk.new w4 #[.int .i64 0, .int .i64 0, .slice none 0 0] 24).below hb9 (by simp))
              rcases hcase with ⟨h0, _⟩ | ⟨_, rfl⟩
              · exact absurd (HE.out.symm.trans h0) hne
              rw [HE.out]
              clear hb9 t0w4 t0w4a t1w4 t1w4a t2w4 t2w4a x0w4 x0w4a x1w4 x1w4a x2w4 x2w4a hlw4
              have q0w9 : w9.cell? ⟨w4.heap.size, 0, none⟩ = some (.int .i64 0) := W9.out.cell 0
              have q0w9a : ∀ o, (w9.alloc o).cell? ⟨w4.heap.size, 0, none⟩ = some (.int .i64 0) := fun o => (W9.out.alloc o).cell 0
              have q1w9 : w9.cell? ⟨w4.heap.size, 1, none⟩ = some (.int .i64 0) := W9.out.cell 1
              have q1w9a : ∀ o, (w9.alloc o).cell? ⟨w4.heap.size, 1, none⟩ = some (.int .i64 0) := fun o => (W9.out.alloc o).cell 1
              have q2w9 : w9.cell? ⟨w4.heap.size, 2, none⟩ = some (.slice none 0 0) := W9.out.cell 2
              have q2w9a : ∀ o, (w9.alloc o).cell? ⟨w4.heap.size, 2, none⟩ = some (.slice none 0 0) := fun o => (W9.out.alloc o).cell 2
              have hqw9 := W9.out.lt
              have hEb : ((lamE u 0 z) == 0) = false := by have := hne; simpa using this
              go_wp2_with fail
              refine (lam2_err (lamE u 0 z) _ 0 0 none 0 0 rfl _ hne).mono ?_
              rintro e w10 ⟨rfl, hb10⟩
              have P10 := hide ((P9.out.alloc (.cells #[.int .i64 0, .int .i64 0, .slice none 0 0] 24)).later hb10)
              clear hb10
              go_wp2_with fail
              go_ret
              exact ⟨rfl, P10.out.1⟩
            case pos =>
              have HZ0 := hide hne
              rw [hne]
              clear hne
              go_wp2_with fail
              refine (beta_any t z _ _ _ (fun b => X b ∧ b < w.heap.size) ⟨a, c, rfl, (HS.out.mono (Y := fun b => X b ∧ b < w.heap.size) fun b h1 h2 => ⟨h1, h2⟩).later (Pw4.out.alloc (.cells #[.int .i64 0, .int .i64 0, .slice none 0 0] 24)).1⟩ ⟨az, cz, rfl, (HZ.out.mono (Y := fun b => X b ∧ b < w.heap.size) fun b h1 h2 => ⟨h1, h2⟩).later (Pw4.out.alloc (.cells #[.int .i64 0, .int .i64 0, .slice none 0 0] 24)).1⟩ (by have := (lamE_zero HT0.out).1; omega) (lamE_zero HT0.out).2.1 (by have := (lamE_zero HZ0.out).1; omega) (lamE_zero HZ0.out).2.1).mono ?_
              rintro e w5 ⟨a5, c5, rfl, hs5, hb5⟩
              have P5 := hide ((Pw4.out.alloc (.cells #[.int .i64 0, .int .i64 0, .slice none 0 0] 24)).later hb5)
              have Q5 := hide ((Blk.new w4 #[.int .i64 0, .int .i64 0, .slice none 0 0] 24).below hb5 (by simp))
              have hQ : w.heap.size + 2 ≤ w4.heap.size := by have := hlw4; omega
              have S5 : Hid (SlM w5 (fun b => b ≠ w4.heap.size ∧ b < w5.heap.size) a5 (insT z 0 t).subs) := hs5.mono fun b h1 h2 => ⟨by
                rcases h1 with h | h
                · have := h.1.2; omega
                · simp at h; omega, h2⟩
              have HQ := hide hQ
              clear hb5 hs5 hQ t0w4 t0w4a t1w4 t1w4a t2w4 t2w4a x0w4 x0w4a x1w4 x1w4a x2w4 x2w4a hlw4
              generalize w4.heap.size = Q at *
              have q0 : w5.cell? ⟨Q, 0, none⟩ = some (.int .i64 0) := Q5.out.cell 0
              have q1 : w5.cell? ⟨Q, 1, none⟩ = some (.int .i64 0) := Q5.out.cell 1
              have q2 : w5.cell? ⟨Q, 2, none⟩ = some (.slice none 0 0) := Q5.out.cell 2
              have qf := Q5.out.frozen
              have hql := Q5.out.lt
              go_wp2_with fail
              have P6 := hide (((P5.out.set HQ.out 0 (.int .i64 (insT z 0 t).kind)).set HQ.out 1 (.int .i64 (insT z 0 t).idx)).set HQ.out 2 (.slice a5 (insT z 0 t).subs.length c5))
              have Q6 := hide (((Q5.out.set 0 (.int .i64 (insT z 0 t).kind)).set 1 (.int .i64 (insT z 0 t).idx)).set 2 (.slice a5 (insT z 0 t).subs.length c5))
              have S6 : Hid (SlM (((w5.setCell ⟨Q, 0, none⟩ (.int .i64 (insT z 0 t).kind)).setCell ⟨Q, 1, none⟩ (.int .i64 (insT z 0 t).idx)).setCell ⟨Q, 2, none⟩ (.slice a5 (insT z 0 t).subs.length c5)) (fun b => b ≠ Q ∧ b < w5.heap.size) a5 (insT z 0 t).subs) := S5.out.kept fun b hb => by
                rw [Below.heap_setCell _ _ _ _ (by simpa using hb.1), Below.heap_setCell _ _ _ _ (by simpa using hb.1), Below.heap_setCell _ _ _ _ (by simpa using hb.1)]
              clear q0 q1 q2 qf hql P5 Q5 S5
              generalize (((w5.setCell ⟨Q, 0, none⟩ (.int .i64 (insT z 0 t).kind)).setCell ⟨Q, 1, none⟩ (.int .i64 (insT z 0 t).idx)).setCell ⟨Q, 2, none⟩ (.slice a5 (insT z 0 t).subs.length c5)) = w6 at *
              refine (lamSize_any (insT z 0 t) _ 2000 _ (fun b => b ≠ Q ∧ b < w5.heap.size) ⟨a5, c5, rfl, S6.out⟩ (by omega) (by omega)).mono ?_
              rintro e w7 ⟨rfl, hb7⟩
              have P7 := hide (P6.out.later hb7)
              have Q7 : Hid (Blk w7 Q #[.int .i64 (insT z 0 t).kind, .int .i64 (insT z 0 t).idx, .slice a5 (insT z 0 t).subs.length c5] 24) := (Q6.out.below hb7 Q6.out.lt)
              have S7 := hide (S6.out.later hb7)
              clear hb7 P6 Q6 S6
              have t0w7 : w7.cell? ⟨w.heap.size, 0, none⟩ = some (.int .i64 t.kind) := (P7.out.2.1).cell 0
              have t0w7a : ∀ o, (w7.alloc o).cell? ⟨w.heap.size, 0, none⟩ = some (.int .i64 t.kind) := fun o => ((P7.out.alloc o).2.1).cell 0
              have t1w7 : w7.cell? ⟨w.heap.size, 1, none⟩ = some (.int .i64 t.idx) := (P7.out.2.1).cell 1
              have t1w7a : ∀ o, (w7.alloc o).cell? ⟨w.heap.size, 1, none⟩ = some (.int .i64 t.idx) := fun o => ((P7.out.alloc o).2.1).cell 1
              have t2w7 : w7.cell? ⟨w.heap.size, 2, none⟩ = some (.slice a t.subs.length c) := (P7.out.2.1).cell 2
              have t2w7a : ∀ o, (w7.alloc o).cell? ⟨w.heap.size, 2, none⟩ = some (.slice a t.subs.length c) := fun o => ((P7.out.alloc o).2.1).cell 2
              have x0w7 : w7.cell? ⟨w.heap.size + 1, 0, none⟩ = some (.int .i64 z.kind) := (P7.out.2.2).cell 0
              have x0w7a : ∀ o, (w7.alloc o).cell? ⟨w.heap.size + 1, 0, none⟩ = some (.int .i64 z.kind) := fun o => ((P7.out.alloc o).2.2).cell 0
              have x1w7 : w7.cell? ⟨w.heap.size + 1, 1, none⟩ = some (.int .i64 z.idx) := (P7.out.2.2).cell 1
              have x1w7a : ∀ o, (w7.alloc o).cell? ⟨w.heap.size + 1, 1, none⟩ = some (.int .i64 z.idx) := fun o => ((P7.out.alloc o).2.2).cell 1
              have x2w7 : w7.cell? ⟨w.heap.size + 1, 2, none⟩ = some (.slice az z.subs.length cz) := (P7.out.2.2).cell 2
              have x2w7a : ∀ o, (w7.alloc o).cell? ⟨w.heap.size + 1, 2, none⟩ = some (.slice az z.subs.length cz) := fun o => ((P7.out.alloc o).2.2).cell 2
              have hlw7 := P7.out.2.2.lt
              have HP := hide ((lPut_any t z _ _ u w7 X ⟨a, c, rfl, HS.out.later P7.out.1⟩ ⟨az, cz, rfl, HZ.out.later P7.out.1⟩))
              by_cases hgt : 2000 < sizeM [insT z 0 t]
              · have HE : Hid (putE t z u = 8) := by unfold Hid putE; rw [if_neg HU.out, if_neg (by simpa using HT0.out), if_neg (by simpa using HZ0.out), if_pos hgt]
                have hmin : min (sizeM [insT z 0 t] : Int) (2000 + 1) = 2001 := by omega
                rw [hmin]
                clear hgt hmin
                go_wp2_with fail
                refine HP.out.mono ?_
                rintro e w9 ⟨hb9, hcase⟩
                have P9 := hide (P7.out.later hb9)
                have W9 := hide (Q7.out.below hb9 Q7.out.lt)
                rcases hcase with ⟨h0, _⟩ | ⟨_, rfl⟩
                · exact absurd (HE.out.symm.trans h0) (by decide)
                rw [HE.out]
                clear hb9 t0w7 t0w7a t1w7 t1w7a t2w7 t2w7a x0w7 x0w7a x1w7 x1w7a x2w7 x2w7a hlw7
                have q0w9 : w9.cell? ⟨Q, 0, none⟩ = some (.int .i64 (insT z 0 t).kind) := W9.out.cell 0
                have q0w9a : ∀ o, (w9.alloc o).cell? ⟨Q, 0, none⟩ = some (.int .i64 (insT z 0 t).kind) := fun o => (W9.out.alloc o).cell 0
                have q1w9 : w9.cell? ⟨Q, 1, none⟩ = some (.int .i64 (insT z 0 t).idx) := W9.out.cell 1
                have q1w9a : ∀ o, (w9.alloc o).cell? ⟨Q, 1, none⟩ = some (.int .i64 (insT z 0 t).idx) := fun o => (W9.out.alloc o).cell 1
                have q2w9 : w9.cell? ⟨Q, 2, none⟩ = some (.slice a5 (insT z 0 t).subs.length c5) := W9.out.cell 2
                have q2w9a : ∀ o, (w9.alloc o).cell? ⟨Q, 2, none⟩ = some (.slice a5 (insT z 0 t).subs.length c5) := fun o => (W9.out.alloc o).cell 2
                have hqw9 := W9.out.lt
                go_wp2_with fail
                refine (lam2_err 8 _ (insT z 0 t).kind (insT z 0 t).idx a5 (insT z 0 t).subs.length c5 rfl _ (by decide)).mono ?_
                rintro e w10 ⟨rfl, hb10⟩
                have P10 := hide ((P9.out.alloc (.cells #[.int .i64 0, .int .i64 0, .slice none 0 0] 24)).later hb10)
                clear hb10
                go_wp2_with fail
                go_ret
                exact ⟨rfl, P10.out.1⟩
              · have HE : Hid (putE t z u = 0) := by unfold Hid putE; rw [if_neg HU.out, if_neg (by simpa using HT0.out), if_neg (by simpa using HZ0.out), if_neg hgt]
                have hmin : ∃ m : Int, min (sizeM [insT z 0 t] : Int) (2000 + 1) = m ∧ m ≤ 2000 := ⟨_, rfl, by omega⟩
                obtain ⟨m, hm, hm2⟩ := hmin
                rw [hm]
                clear hgt hm
                go_wp2_with fail
                refine HP.out.mono ?_
                rintro e w9 ⟨hb9, hcase⟩
                have P9 := hide (P7.out.later hb9)
                have W9 := hide (Q7.out.below hb9 Q7.out.lt)
                have S9 := hide (S7.out.later hb9)
                rcases hcase with ⟨_, a9, c9, rfl, hs9⟩ | ⟨h0, _⟩
                · have T9 := hide hs9
                  clear hb9 hs9 t0w7 t0w7a t1w7 t1w7a t2w7 t2w7a x0w7 x0w7a x1w7 x1w7a x2w7 x2w7a hlw7
                  have q0w9 : w9.cell? ⟨Q, 0, none⟩ = some (.int .i64 (insT z 0 t).kind) := W9.out.cell 0
                  have q0w9a : ∀ o, (w9.alloc o).cell? ⟨Q, 0, none⟩ = some (.int .i64 (insT z 0 t).kind) := fun o => (W9.out.alloc o).cell 0
                  have q1w9 : w9.cell? ⟨Q, 1, none⟩ = some (.int .i64 (insT z 0 t).idx) := W9.out.cell 1
                  have q1w9a : ∀ o, (w9.alloc o).cell? ⟨Q, 1, none⟩ = some (.int .i64 (insT z 0 t).idx) := fun o => (W9.out.alloc o).cell 1
                  have q2w9 : w9.cell? ⟨Q, 2, none⟩ = some (.slice a5 (insT z 0 t).subs.length c5) := W9.out.cell 2
                  have q2w9a : ∀ o, (w9.alloc o).cell? ⟨Q, 2, none⟩ = some (.slice a5 (insT z 0 t).subs.length c5) := fun o => (W9.out.alloc o).cell 2
                  have hqw9 := W9.out.lt
                  go_wp2_with fail
                  refine (lam2_ok (insT z 0 t) _ _ _ (fun b => w7.heap.size ≤ b) (fun b => b ≠ Q ∧ b < w5.heap.size) ⟨a9, c9, rfl, T9.out.later ((Below.refl _ _).alloc (Nat.le_refl _) _)⟩ ⟨a5, c5, rfl, S9.out.later ((Below.refl _ _).alloc (Nat.le_refl _) _)⟩).mono ?_
                  rintro e w10 ⟨rfl, hb10⟩
                  have P10 := hide ((P9.out.alloc _).later hb10)
                  clear hb10
                  go_wp2_with fail
                  go_ret
                  exact ⟨rfl, P10.out.1⟩
                · exact absurd HE.out h0
#print axioms lambdaPuts_any
end Go.Proofs.YtfbligcampbchaaDoor
