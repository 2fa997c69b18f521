/- Walks: whether bindings may be. -/
import Derived.Test.YtglcijkhlppjfaaDoorZTopPlotkinOwn
namespace Go.Proofs.YtglcijkhlppjfaaDoor
open Go.RowKit
set_option linter.unusedSimpArgs false
set_option linter.unusedVariables false
set_option maxRecDepth 8000

def ScInv (ls : List Bd) (w : World) (v : Value) (wr : World) : Prop := ∃ k : Nat, v = .int .i64 (k : Int) ∧ k ≤ ls.length ∧ bmT ls k = 0 ∧ Below w.heap.size w wr

set_option maxHeartbeats 2000000 in
theorem scheck_any (ls : List Bd) (u : Value) (w : World) (X : Nat → Prop) (hu : BV w X u ls) :
    Calls Tryd.prog 22 #[u] w fun e w' => e = .returned (.int .i64 (bindsE ls)) ∧ Below w.heap.size w w' := by
  have HU := hide hu
  obtain ⟨a, c, rfl, hl, hu2⟩ := hu
  clear hu2
  go_enter Tryd.func22, Tryd.ntmps22
  by_cases h40 : 40 < ls.length
  · go_wp2_with fail
    go_ret
    exact ⟨ret_int (by unfold bindsE; rw [if_pos h40]), Below.refl _ _⟩
  · go_wp2_with fail
    go_loopw [11] (fun v wr => ScInv ls w v wr) (fun v wr => ls.length - (intOf v).toNat)
    case atStart => exact ⟨0, rfl, Nat.zero_le _, rfl, Below.refl _ _⟩
    case round =>
      obtain ⟨k, rfl, hk, hT, hb⟩ := hrel
      have HB := hide hb
      have HT := hide hT
      clear hT
      by_cases hlt : k < ls.length
      · obtain ⟨b, o, a', c', rfl, d0, d1, d2, hs⟩ := (HU.out.later hb).get k hlt
        have hlt2 : (k : Int) < (ls.length : Int) := by omega
        have HX := hide hs
        clear hb hs
        cases hn : nameB ls[k].nm with
        | false =>
          have HK := hide (bmK_name hlt (by rw [hn]; rfl))
          have HN := hide hn
          have HV := hide (rfl : varB ls[k].nm = varB ls[k].nm)
          clear hn
          generalize ls[k] = d at *
          go_wp2_with (first | (go_at_call 41; refine (isName_any _ _).mono ?_; rintro e w' ⟨rfl, rfl⟩; rw [HN.out]) | (go_at_call 42; refine (isVariable_all _ _).mono ?_; rintro e w' ⟨rfl, rfl⟩; rw [HV.out]))
          go_ret
          exact ⟨ret_int (bmT_err hlt h40 HT.out HK.out (by decide)).symm, HB.out.alloc HB.out.size _⟩
        | true =>
          have HN := hide hn
          clear hn
          cases hv : varB ls[k].nm with
          | false =>
            have HK := hide (bmK_name hlt (by rw [HN.out, hv]; rfl))
            have HV := hide hv
            clear hv
            generalize ls[k] = d at *
            go_wp2_with (first | (go_at_call 41; refine (isName_any _ _).mono ?_; rintro e w' ⟨rfl, rfl⟩; rw [HN.out]) | (go_at_call 42; refine (isVariable_all _ _).mono ?_; rintro e w' ⟨rfl, rfl⟩; rw [HV.out]))
            go_ret
            exact ⟨ret_int (bmT_err hlt h40 HT.out HK.out (by decide)).symm, HB.out.alloc HB.out.size _⟩
          | true =>
            have HV := hide hv
            clear hv
            by_cases hk0 : 0 < k
            · obtain ⟨j, rfl⟩ : ∃ j, k = j + 1 := ⟨k - 1, by omega⟩
              have p0 : ∀ ob, (wr.alloc ob).cell? ⟨b, o + j * 3, none⟩ = some (.string ls[j].nm) := fun ob => by
                obtain ⟨b2, o2, a2, c2, e2, p0, p1, p2, hs2⟩ := ((HU.out.later HB.out).alloc ob).get j (by omega)
                simp at e2
                obtain ⟨rfl, rfl⟩ := e2
                exact p0
              have hj0 : (0 : Int) ≤ (j : Int) := by omega
              have hj1 : (j : Int) < (ls.length : Int) := by omega
              have hw1 : IntKind.i64.wrap ((j : Int) + 1 - 1) = (j : Int) := by rw [IntKind.wrap_i64]; omega
              have hw2 : IntKind.i64.wrap (j : Int) = (j : Int) := by rw [IntKind.wrap_i64]; omega
              cases hle : leB ls[j + 1].nm ls[j].nm with
              | true =>
                have HK := hide (bmK_order hlt (by rw [HN.out, HV.out]; rfl) hle)
                have hle2 : (Op.bytesLess ls[j + 1].nm.toList ls[j].nm.toList || ls[j + 1].nm.toList == ls[j].nm.toList) = true := hle
                clear hle
                generalize ls[j + 1] = d at *
                generalize ls[j] = d' at *
                go_wp2_with (first | (go_at_call 41; refine (isName_any _ _).mono ?_; rintro e w' ⟨rfl, rfl⟩; rw [HN.out]) | (go_at_call 42; refine (isVariable_all _ _).mono ?_; rintro e w' ⟨rfl, rfl⟩; rw [HV.out]))
                go_quiet (fail)
                go_wp2_with fail
                go_ret
                exact ⟨ret_int (bmT_err hlt h40 HT.out HK.out (by decide)).symm, below_drewN (HB.out.alloc HB.out.size _) _⟩
              | false =>
                have HK := hide (bmK_may hlt (by rw [HN.out, HV.out]; rfl) hle)
                have hle2 : (Op.bytesLess ls[j + 1].nm.toList ls[j].nm.toList || ls[j + 1].nm.toList == ls[j].nm.toList) = false := hle
                clear hle
                generalize ls[j + 1] = d at *
                generalize ls[j] = d' at *
                go_wp2_with (first | (go_at_call 41; refine (isName_any _ _).mono ?_; rintro e w' ⟨rfl, rfl⟩; rw [HN.out]) | (go_at_call 42; refine (isVariable_all _ _).mono ?_; rintro e w' ⟨rfl, rfl⟩; rw [HV.out]))
                go_quiet (fail)
                go_wp2_with fail
                refine (check_any d.t _ _ X (by exact ⟨a', c', rfl, (HX.out.later ((Below.refl _ _).alloc (Nat.le_refl _) _)).kept fun _ _ => rfl⟩)).mono ?_
                rintro e w5 ⟨rfl, hb5⟩
                have HB5 := hide ((below_drewN (HB.out.alloc HB.out.size (.cells #[.string d.nm, .string d.t.name, .slice a' d.t.args.length c'] 51)) nq).trans (hb5.mono (by have := HB.out.size; simp; omega)))
                clear hb5
                by_cases hm : mayE d.t = 0
                · have HM := hide hm
                  rw [hm]
                  clear hm
                  go_wp2_with fail
                  go_roundw
                  case rel => exact ⟨j + 1 + 1, by go_num, by omega, bmT_next HT.out (HK.out.trans HM.out), HB5.out⟩
                  case measure => simp [intOf]; omega
                · have hm2 : (mayE d.t == 0) = false := by simpa using hm
                  have HM := hide hm
                  clear hm
                  go_wp2_with fail
                  go_ret
                  exact ⟨ret_int (bmT_err hlt h40 HT.out HK.out HM.out).symm, HB5.out⟩
            · have hk00 : k = 0 := by omega
              subst hk00
              have HK := hide (bmK_first hlt (by rw [HN.out, HV.out]; rfl))
              simp only [Nat.zero_mul, Nat.add_zero] at d0 d1 d2
              generalize ls[0] = d at *
              go_wp2_with (first | (go_at_call 41; refine (isName_any _ _).mono ?_; rintro e w' ⟨rfl, rfl⟩; rw [HN.out]) | (go_at_call 42; refine (isVariable_all _ _).mono ?_; rintro e w' ⟨rfl, rfl⟩; rw [HV.out]))
              go_quiet (fail)
              go_wp2_with fail
              refine (check_any d.t _ _ X (by exact ⟨a', c', rfl, (HX.out.later ((Below.refl _ _).alloc (Nat.le_refl _) _)).kept fun _ _ => rfl⟩)).mono ?_
              rintro e w5 ⟨rfl, hb5⟩
              have HB5 := hide ((below_drewN (HB.out.alloc HB.out.size (.cells #[.string d.nm, .string d.t.name, .slice a' d.t.args.length c'] 51)) nq).trans (hb5.mono (by have := HB.out.size; simp; omega)))
              clear hb5
              by_cases hm : mayE d.t = 0
              · have HM := hide hm
                rw [hm]
                clear hm
                go_wp2_with fail
                go_roundw
                case rel => exact ⟨1, by go_num, by omega, bmT_next HT.out (HK.out.trans HM.out), HB5.out⟩
                case measure => simp [intOf]; omega
              · have hm2 : (mayE d.t == 0) = false := by simpa using hm
                have HM := hide hm
                clear hm
                go_wp2_with fail
                go_ret
                exact ⟨ret_int (bmT_err hlt h40 HT.out HK.out HM.out).symm, HB5.out⟩
      · have hkl : k = ls.length := by omega
        go_wp2_with fail
        go_ret
        exact ⟨ret_int (by unfold bindsE; rw [if_neg h40, ← hkl]; exact HT.out.symm), HB.out⟩
end Go.Proofs.YtglcijkhlppjfaaDoor
