/- Walks: rules that may be, as the document says. -/
import Derived.Test.YthlgknglalcggacRw1
import Derived.Test.YthlgknglalcggacW110
import Derived.Test.YthlgknglalcggacZRewriteSaysOwn
import Derived.Deep.RegionHeld
import Derived.Deep.RegionHeld3
namespace Go.Proofs.Ythlgknglalcggac
open Go.RowKit
set_option linter.unusedSimpArgs false
set_option linter.unusedVariables false
set_option maxRecDepth 8000

/-- So many rules are looked at. -/
def RmInv (ls : List Pr) (w : World) (v : Value) (wr : World) : Prop := ∃ k : Nat, v = .int .i64 (k : Int) ∧ k ≤ ls.length ∧ rmT ls k = 0 ∧ Below w.heap.size w wr
theorem may200 {t : Tm} (h : mayE t = 0) : sizeL [t] ≤ 200 := by
  unfold mayE at h
  split at h
  · exact absurd h (by decide)
  · omega
theorem all_takeR {l : List ByteArray} {f : ByteArray → Bool} {k : Nat} (h : k < l.length) (h0 : (l.take k).all f = true) (h1 : f l[k] = true) : (l.take (k + 1)).all f = true := by
  rw [List.take_succ_eq_append_getElem h, List.all_append, h0]
  simpa using h1
set_option maxHeartbeats 4000000 in
theorem rulesMay_any (ls : List Pr) (u : Value) (w : World) (X : Nat → Prop) (hu : QV w X u ls) :
    Calls Try.prog 22 #[u] w fun e w' => e = .returned (.int .i64 (rulesE ls)) ∧ Below w.heap.size w w' := by
  have HU := hide (hu.mono (Y := fun b => X b ∧ b < w.heap.size) fun b h1 h2 => ⟨h1, h2⟩)
  obtain ⟨a, c, rfl, hl, hu2⟩ := hu
  clear hu2
  go_enter Try.func22, Try.ntmps22
  by_cases h40 : 40 < ls.length
  · go_wp2_with fail
    go_ret
    exact ⟨ret_int (by unfold rulesE; rw [if_pos h40]), Below.refl _ _⟩
  go_wp2_with fail
  go_loopw [3] (fun v wr => RmInv ls w v wr) (fun v wr => ls.length - (intOf v).toNat)
  case atStart => exact ⟨0, rfl, Nat.zero_le _, rfl, Below.refl _ _⟩
  case round =>
    obtain ⟨k, rfl, hk, hT, hb⟩ := hrel
    have HB := hide hb
    have HT := hide hT
    clear hT
    by_cases hlt : k < ls.length
    · obtain ⟨b, o, a1, c1, a2, c2, rfl, d0, d1, d2, d3, hs1, hs2⟩ := (HU.out.later hb).get k hlt
      have hlt2 : (k : Int) < (ls.length : Int) := by omega
      have HX1 := hide hs1
      have HX2 := hide hs2
      have HY := hide (rmT_err hlt h40 HT.out)
      have HN := hide (rmT_next hlt HT.out)
      clear hs1 hs2 hb
      generalize ls[k] = d at *
      go_wp2_with fail
      have HS0 := hide (And.intro d0 (And.intro d1 (And.intro d2 d3)))
      have TM : Hid (∀ w', Below wr.heap.size wr w' → Calls Try.prog 9 #[.agg #[.string d.l.name, .slice a1 d.l.args.length c1], .agg #[.string d.r.name, .slice a2 d.r.args.length c2]] w' fun e w'' => e = .returned (.int .i64 (twoE d.l d.r)) ∧ Below wr.heap.size wr w'' ∧ w''.cell? ⟨b, o + k * 4, none⟩ = some (.string d.l.name) ∧ w''.cell? ⟨b, o + k * 4 + 1, none⟩ = some (.slice a1 d.l.args.length c1) ∧ w''.cell? ⟨b, o + k * 4 + 2, none⟩ = some (.string d.r.name) ∧ w''.cell? ⟨b, o + k * 4 + 3, none⟩ = some (.slice a2 d.r.args.length c2)) := fun w' hb => by
        refine (twoMay_any d.l d.r _ _ w' _ ⟨_, _, rfl, HX1.out.later hb⟩ ⟨_, _, rfl, HX2.out.later hb⟩).mono ?_
        rintro e w'' ⟨rfl, hb2⟩
        have hb3 := hb.trans (hb2.mono hb.size)
        exact ⟨rfl, hb3, cell_later hb3 d0, cell_later hb3 d1, cell_later hb3 d2, cell_later hb3 d3⟩
      go_region_held3 (fun w' => w'.cell? ⟨b, o + k * 4, none⟩ = some (.string d.l.name) ∧ w'.cell? ⟨b, o + k * 4 + 1, none⟩ = some (.slice a1 d.l.args.length c1) ∧ w'.cell? ⟨b, o + k * 4 + 2, none⟩ = some (.string d.r.name) ∧ w'.cell? ⟨b, o + k * 4 + 3, none⟩ = some (.slice a2 d.r.args.length c2)) (first | exact hS | exact HS0.out | go_keep)
        (first
          | (go_at_call 9; refine (TM.out _ (by first | exact Below.refl _ _ | exact (Below.refl _ _).drew)).mono ?_; rintro e w5 ⟨rfl, hb5, hS⟩))
      have HB5 := hide hb5
      have HS5 := hide hS
      clear hb5 hS TM HS0 d0 d1 d2 d3
      by_cases hm : twoE d.l d.r = 0
      · have HM : Hid (mayE d.l = 0 ∧ mayE d.r = 0) := by
          unfold twoE at hm
          split at hm
          · rename_i h; exact ⟨h, hm⟩
          · rename_i h; exact absurd hm h
        have HRE : Hid (ruleE d = if varB d.l.name = true then 2 else if (varsP [] (preL [d.r])).all (fun n => inB n (varsP [] (preL [d.l]))) = true then 0 else 15) := by unfold Hid ruleE; rw [if_pos hm]
        rw [hm]
        clear hm
        obtain ⟨d0, d1, d2, d3⟩ := HS5.out
        go_wp2_with fail
        refine (isVarR_any _ _).mono ?_
        rintro e w6 ⟨rfl, hw6⟩
        rw [hw6]
        clear hw6 w6
        cases hv : varB d.l.name with
        | true =>
          have HE : Hid (2 = rulesE ls) := by
            have h1 := HRE.out
            rw [if_pos hv] at h1
            have h2 := HY.out (by rw [h1]; decide)
            unfold Hid
            rw [h2, h1]
          clear hv
          go_wp2_with fail
          go_ret
          exact ⟨ret_int HE.out, HB.out.trans (HB5.out.mono HB.out.size)⟩
        | false =>
          have HRF : Hid (ruleE d = if (varsP [] (preL [d.r])).all (fun n => inB n (varsP [] (preL [d.l]))) = true then 0 else 15) := by
            have h1 := HRE.out
            rw [if_neg (by rw [hv]; decide)] at h1
            exact h1
          clear hv HRE
          go_wp2_with fail
          refine (varsOf_any d.l _ _ _ ⟨_, _, rfl, HX1.out.later HB5.out⟩ (by have := may200 HM.out.1; omega)).mono ?_
          rintro e w6 ⟨v6, rfl, hlv6, hb6⟩
          have HB6 := hide (HB5.out.trans (hb6.mono HB5.out.size))
          have L6 := hide (hlv6.mono (Y := fun _ => True) fun _ _ _ => trivial)
          clear hlv6 d0 d1 d2 d3
          have d2 : w6.cell? ⟨b, o + k * 4 + 2, none⟩ = some (.string d.r.name) := cell_later hb6 HS5.out.2.2.1
          have d3 : w6.cell? ⟨b, o + k * 4 + 3, none⟩ = some (.slice a2 d.r.args.length c2) := cell_later hb6 HS5.out.2.2.2
          clear hb6
          go_wp2_with fail
          refine (varsOf_any d.r _ _ _ ⟨_, _, rfl, HX2.out.later HB6.out⟩ (by have := may200 HM.out.2; omega)).mono ?_
          rintro e w7 ⟨v7, rfl, hlv7, hb7⟩
          have HB7 := hide (HB.out.trans ((HB6.out.trans (hb7.mono HB6.out.size)).mono HB.out.size))
          have L67 := hide (L6.out.later hb7)
          clear hb7 d2 d3 L6 HS5
          generalize varsP [] (preL [d.l]) = lh at *
          generalize varsP [] (preL [d.r]) = lr at *
          obtain ⟨a7, c7, rfl, ⟨hl7, hl7'⟩, h7⟩ := hlv7
          go_wp2_with fail
          go_loop [7] (fun i => ∃ j : Nat, j ≤ lr.length ∧ i = .int .i64 j ∧ Hid ((lr.take j).all (fun n => inB n lh) = true)) (fun i => lr.length - (intOf i).toNat)
          case atStart => exact ⟨0, Nat.zero_le _, rfl, by unfold Hid; simp⟩
          case round =>
            obtain ⟨j, hj, rfl, HA⟩ := hrel
            by_cases hjl : j < lr.length
            · obtain ⟨b7, o7, rfl, _, hc7⟩ := h7.resolve_left (fun h => by rw [h] at hjl; simp at hjl)
              have e7 := hc7 j hjl
              have hjl2 : (j : Int) < (lr.length : Int) := by omega
              clear hc7
              have HIN := hide (all_takeR (f := fun n => inB n lh) hjl HA.out)
              have HNO : Hid (inB lr[j] lh = false → lr.all (fun n => inB n lh) = false) := fun h => by
                rw [Bool.eq_false_iff]
                intro h2
                have h3 := List.all_eq_true.1 h2 _ (List.getElem_mem hjl)
                rw [h] at h3
                cases h3
              generalize lr[j] = nm at *
              go_wp2_with fail
              refine (in_any nm lh _ _ (fun _ => True) (by exact L67.out)).mono ?_
              rintro e w8 ⟨rfl, hw8⟩
              rw [hw8]
              clear hw8 w8
              cases hin : inB nm lh with
              | true =>
                have HNX := hide (HIN.out hin)
                clear hin
                go_wp2_with fail
                go_round
                case rel => exact ⟨j + 1, by omega, by go_num, HNX⟩
                case measure => simp [intOf]; omega
              | false =>
                have HE : Hid (15 = rulesE ls) := by
                  have h1 := HRF.out
                  rw [HNO.out hin, if_neg (by decide)] at h1
                  have h2 := HY.out (by rw [h1]; decide)
                  unfold Hid
                  rw [h2, h1]
                clear hin
                go_wp2_with fail
                go_ret
                exact ⟨ret_int HE.out, HB7.out⟩
            · have HZ : Hid (rmT ls (k + 1) = 0) := by
                have h1 := HRF.out
                have h2 := HA.out
                rw [List.take_of_length_le (by omega)] at h2
                rw [h2, if_pos rfl] at h1
                unfold Hid
                rw [HN.out, h1]
              go_wp2_with fail
              go_roundw
              case rel => exact ⟨k + 1, by go_num, by omega, HZ.out, HB7.out⟩
              case measure => simp [intOf]; omega
      · have hm2 : (twoE d.l d.r == 0) = false := by simpa using hm
        have HE : Hid (twoE d.l d.r = rulesE ls) := by
          have h1 : ruleE d = twoE d.l d.r := by unfold ruleE; rw [if_neg hm]
          have h2 := HY.out (by rw [h1]; exact hm)
          unfold Hid
          rw [h2, h1]
        clear hm
        go_wp2_with fail
        go_ret
        exact ⟨ret_int HE.out, HB.out.trans (HB5.out.mono HB.out.size)⟩
    · have hkl : k = ls.length := by omega
      go_wp2_with fail
      go_ret
      exact ⟨ret_int (by unfold rulesE; rw [if_neg h40, ← hkl]; exact HT.out.symm), HB.out⟩
end Go.Proofs.Ythlgknglalcggac
