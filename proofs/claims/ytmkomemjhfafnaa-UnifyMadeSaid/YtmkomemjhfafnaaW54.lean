/- Walks: whether bindings may be, as the document says. -/
import Derived.Test.YtmkomemjhfafnaaZBUnifyMadeOwn
import Derived.Test.YtmkomemjhfafnaaZUnifyMadeOwn
namespace Go.Proofs.Ytmkomemjhfafnaa
open Go.RowKit
set_option linter.unusedSimpArgs false
set_option linter.unusedVariables false
set_option maxRecDepth 8000

def BmInv (ls : List Bd) (w : World) (v : Value) (wr : World) : Prop := ∃ k : Nat, v = .int .i64 (k : Int) ∧ k ≤ ls.length ∧ bmT ls k = 0 ∧ Below w.heap.size w wr

theorem Below.drewN' {B : Nat} {a w : World} (h : Below B a w) (n : Nat) : Below B a (w.drewN n) := ⟨h.os, h.tape, h.output, h.size, h.block⟩

set_option maxHeartbeats 2000000 in
theorem bindsMay_any (ls : List Bd) (u : Value) (w : World) (X : Nat → Prop) (hu : BV w X u ls) :
    Calls Try.prog 10 #[u] w fun e w' => e = .returned (.int .i64 (bindsE ls)) ∧ Below w.heap.size w w' := by
  have HU := hide hu
  obtain ⟨a, c, rfl, hl, hu2⟩ := hu
  clear hu2
  go_enter Try.func10, Try.ntmps10
  by_cases h40 : 40 < ls.length
  · go_wp2_with fail
    go_ret
    exact ⟨ret_int (by unfold bindsE; rw [if_pos h40]), Below.refl _ _⟩
  · go_wp2_with fail
    go_loopw [3] (fun v wr => BmInv ls w v wr) (fun v wr => ls.length - (intOf v).toNat)
    case atStart => exact ⟨0, rfl, Nat.zero_le _, rfl, Below.refl _ _⟩
    case round =>
      obtain ⟨k, rfl, hk, hT, hb⟩ := hrel
      have HB := hide hb
      have HT := hide hT
      clear hT
      by_cases hlt : k < ls.length
      · obtain ⟨b, o, a', c', rfl, d0, d1, d2, hs⟩ := (HU.out.later hb).get k hlt
        have hlt2 : (k : Int) < (ls.length : Int) := by omega
        have HX := hide hs
        clear hb hs
        cases hn : nameB ls[k].nm with
        | false =>
          have HK := hide (bmK_name hlt (by rw [hn]; rfl))
          have HN := hide hn
          have HV := hide (rfl : varB ls[k].nm = varB ls[k].nm)
          clear hn
          generalize ls[k] = d at *
          go_wp2_with (first | (go_at_call 31; refine (isNameR_any _ _).mono ?_; rintro e w' ⟨rfl, rfl⟩; rw [HN.out]) | (go_at_call 32; refine (isVarR_any _ _).mono ?_; rintro e w' ⟨rfl, rfl⟩; rw [HV.out]))
          go_ret
          exact ⟨ret_int (bmT_err hlt h40 HT.out HK.out (by decide)).symm, HB.out⟩
        | true =>
          have HN := hide hn
          clear hn
          cases hv : varB ls[k].nm with
          | false =>
            have HK := hide (bmK_name hlt (by rw [HN.out, hv]; rfl))
            have HV := hide hv
            clear hv
            generalize ls[k] = d at *
            go_wp2_with (first | (go_at_call 31; refine (isNameR_any _ _).mono ?_; rintro e w' ⟨rfl, rfl⟩; rw [HN.out]) | (go_at_call 32; refine (isVarR_any _ _).mono ?_; rintro e w' ⟨rfl, rfl⟩; rw [HV.out]))
            go_ret
            exact ⟨ret_int (bmT_err hlt h40 HT.out HK.out (by decide)).symm, HB.out⟩
          | true =>
            have HV := hide hv
            clear hv
            by_cases hk0 : 0 < k
            · obtain ⟨j, rfl⟩ : ∃ j, k = j + 1 := ⟨k - 1, by omega⟩
              obtain ⟨b2, o2, a2, c2, e2, p0, p1, p2, hs2⟩ := (HU.out.later HB.out).get j (by omega)
              clear hs2
              simp at e2
              obtain ⟨rfl, rfl⟩ := e2
              have hj0 : (0 : Int) ≤ (j : Int) := by omega
              have hj1 : (j : Int) < (ls.length : Int) := by omega
              have hw1 : IntKind.i64.wrap ((j : Int) + 1 - 1) = (j : Int) := by rw [IntKind.wrap_i64]; omega
              have hw2 : IntKind.i64.wrap (j : Int) = (j : Int) := by rw [IntKind.wrap_i64]; omega
              cases hle : leB ls[j + 1].nm ls[j].nm with
              | true =>
                have HK := hide (bmK_order hlt (by rw [HN.out, HV.out]; rfl) hle)
                have hle2 : (Op.bytesLess ls[j + 1].nm.toList ls[j].nm.toList || ls[j + 1].nm.toList == ls[j].nm.toList) = true := hle
                clear hle
                generalize ls[j + 1] = d at *
                generalize ls[j] = d' at *
                go_wp2_with (first | (go_at_call 31; refine (isNameR_any _ _).mono ?_; rintro e w' ⟨rfl, rfl⟩; rw [HN.out]) | (go_at_call 32; refine (isVarR_any _ _).mono ?_; rintro e w' ⟨rfl, rfl⟩; rw [HV.out]))
                go_quiet (fail)
                go_wp2_with fail
                go_ret
                exact ⟨ret_int (bmT_err hlt h40 HT.out HK.out (by decide)).symm, below_drewN HB.out _⟩
              | false =>
                have HK := hide (bmK_may hlt (by rw [HN.out, HV.out]; rfl) hle)
                have hle2 : (Op.bytesLess ls[j + 1].nm.toList ls[j].nm.toList || ls[j + 1].nm.toList == ls[j].nm.toList) = false := hle
                clear hle
                generalize ls[j + 1] = d at *
                generalize ls[j] = d' at *
                go_wp2_with (first | (go_at_call 31; refine (isNameR_any _ _).mono ?_; rintro e w' ⟨rfl, rfl⟩; rw [HN.out]) | (go_at_call 32; refine (isVarR_any _ _).mono ?_; rintro e w' ⟨rfl, rfl⟩; rw [HV.out]))
                go_quiet (fail)
                go_wp2_with fail
                refine (termMay_any d.t _ _ X (by exact ⟨a', c', rfl, HX.out.kept fun _ _ => rfl⟩)).mono ?_
                rintro e w5 ⟨rfl, hb5⟩
                have HB5 := hide ((below_drewN HB.out _).trans (hb5.mono HB.out.size))
                clear hb5
                by_cases hm : mayE d.t = 0
                · have HM := hide hm
                  rw [hm]
                  clear hm
                  go_wp2_with fail
                  go_roundw
                  case rel => exact ⟨j + 1 + 1, by go_num, by omega, bmT_next HT.out (HK.out.trans HM.out), HB5.out⟩
                  case measure => simp [intOf]; omega
                · have hm2 : (mayE d.t == 0) = false := by simpa using hm
                  have HM := hide hm
                  clear hm
                  go_wp2_with fail
                  go_ret
                  exact ⟨ret_int (bmT_err hlt h40 HT.out HK.out HM.out).symm, HB5.out⟩
            · have hk00 : k = 0 := by omega
              subst hk00
              have HK := hide (bmK_first hlt (by rw [HN.out, HV.out]; rfl))
              have hkz : ¬ (0 : Int) < ((0 : Nat) : Int) := by simp
              simp only [Nat.zero_mul, Nat.add_zero] at d0 d1 d2
              generalize ls[0] = d at *
              go_wp2_with (first | (go_at_call 31; refine (isNameR_any _ _).mono ?_; rintro e w' ⟨rfl, rfl⟩; rw [HN.out]) | (go_at_call 32; refine (isVarR_any _ _).mono ?_; rintro e w' ⟨rfl, rfl⟩; rw [HV.out]))
              go_quiet (fail)
              go_wp2_with fail
              refine (termMay_any d.t _ _ X (by exact ⟨a', c', rfl, HX.out.kept fun _ _ => rfl⟩)).mono ?_
              rintro e w5 ⟨rfl, hb5⟩
              have HB5 := hide ((below_drewN HB.out _).trans (hb5.mono HB.out.size))
              clear hb5
              by_cases hm : mayE d.t = 0
              · have HM := hide hm
                rw [hm]
                clear hm
                go_wp2_with fail
                go_roundw
                case rel => exact ⟨1, by go_num, by omega, bmT_next HT.out (HK.out.trans HM.out), HB5.out⟩
                case measure => simp [intOf]; omega
              · have hm2 : (mayE d.t == 0) = false := by simpa using hm
                have HM := hide hm
                clear hm
                go_wp2_with fail
                go_ret
                exact ⟨ret_int (bmT_err hlt h40 HT.out HK.out HM.out).symm, HB5.out⟩
      · have hkl : k = ls.length := by omega
        go_wp2_with fail
        go_ret
        exact ⟨ret_int (by unfold bindsE; rw [if_neg h40, ← hkl]; exact HT.out.symm), HB.out⟩
#print axioms bindsMay_any
end Go.Proofs.Ytmkomemjhfafnaa
