/- Walks: what the document says of a term. -/
import Derived.Test.YtmkomemjhfafnaaW5
namespace Go.Proofs.Ytmkomemjhfafnaa
open Go.RowKit
set_option linter.unusedSimpArgs false
set_option linter.unusedVariables false

def kErr (t : Tm) : Int := if nameB t.name = true then (if (varB t.name && decide (0 < t.args.length)) = true then 2 else 0) else 1
def errP : List Tm → Int
  | [] => 0
  | t :: r => if kErr t = 0 then errP r else kErr t
theorem errP_append (a b : List Tm) : errP (a ++ b) = if errP a = 0 then errP b else errP a := by
  induction a with
  | nil => simp [errP]
  | cons t r ih => simp only [List.cons_append, errP, ih]; by_cases h : kErr t = 0 <;> simp [h]
theorem errL_preL (l : List Tm) : errL l = errP (preL l) := by
  induction l using Tm.indL with
  | h0 => simp [errL, preL, errP]
  | h s l r ihl ihr =>
    simp only [errL, preL, errP, errP_append, ← ihl, ← ihr, kErr]
    by_cases h1 : nameB s = true
    · by_cases h2 : (varB s && decide (0 < l.length)) = true
      · simp only [h1, h2, if_true]; simp
      · simp only [h1, if_true]; rw [if_neg h2, if_neg h2]; simp
    · rw [if_neg h1, if_neg h1]; simp
theorem errP_take (l : List Tm) (k : Nat) (h : k < l.length) : errP (l.take (k + 1)) = if errP (l.take k) = 0 then kErr l[k] else errP (l.take k) := by
  rw [List.take_succ_eq_append_getElem h, errP_append]
  congr 1
  simp only [errP]
  by_cases h : kErr l[k] = 0 <;> simp [h]
theorem errP_of_take {l : List Tm} {k : Nat} (h : errP (l.take k) ≠ 0) : errP l = errP (l.take k) := by
  have := errP_append (l.take k) (l.drop k)
  rw [List.take_append_drop, if_neg h] at this
  exact this
theorem errP_at {l : List Tm} {k : Nat} (h : k < l.length) (h0 : errP (l.take k) = 0) (h1 : kErr l[k] ≠ 0) : errP l = kErr l[k] := by
  have e := errP_take l k h
  rw [if_pos h0] at e
  rw [← e]
  exact errP_of_take (by rw [e]; exact h1)

set_option maxHeartbeats 400000 in
theorem termMay_any (t : Tm) (v : Value) (w : World) (X : Nat → Prop) (hv : TV w X v t) :
    Calls Try.prog 12 #[v] w fun e w' => e = .returned (.int .i64 (mayE t)) ∧ Below w.heap.size w w' := by
  obtain ⟨a, c, rfl, hs⟩ := hv
  have hv : TV w X (.agg #[.string t.name, .slice a t.args.length c]) t := ⟨a, c, rfl, hs⟩
  go_enter Try.func12, Try.ntmps12
  go_wp2_with fail
  refine (size_any t _ _ _ X (hv.alloc _) (by omega) (by omega)).mono ?_
  rintro e w1 ⟨rfl, hb1⟩
  have c0 : w1.cell? ⟨w.heap.size, 0, none⟩ = some (.string t.name) := by rw [hb1.cell (p := ⟨_, _, none⟩) (by simp)]; simp
  have c1 : w1.cell? ⟨w.heap.size, 1, none⟩ = some (.slice a t.args.length c) := by rw [hb1.cell (p := ⟨_, _, none⟩) (by simp)]; simp
  have hb2 : Below w.heap.size w w1 := ((Below.refl _ _).alloc (Nat.le_refl _) _).trans (hb1.mono (by simp))
  by_cases h : 200 < sizeL [t]
  · have hm : Hid (3 = mayE t) := by simp [Hid, mayE, h]
    have e : min ((sizeL [t] : Int)) (200 + 1) = 201 := by omega
    rw [e]
    go_wp2_with fail
    go_ret
    exact ⟨ret_int hm.out, hb2⟩
  · have hm : Hid (errP (preL [t]) = mayE t) := by simp [Hid, mayE, h, errL_preL]
    have e : min ((sizeL [t] : Int)) (200 + 1) = sizeL [t] := by omega
    rw [e]
    go_wp2_with fail
    refine (knots_any t _ _ X (hv.later hb2) (by omega)).mono ?_
    rintro e w2 ⟨v2, xs, rfl, hown, hrow, hb3⟩
    have hpos : 0 < sizeL [t] := by obtain ⟨s', l'⟩ := t; simp [sizeL]; omega
    obtain ⟨g, cap, rfl, hg, hg', hcel⟩ := owned_val hown hpos
    have hb4 := hide (hb2.trans (hb3.mono hb2.size))
    have HROW := hide hrow
    have HCEL := hide hcel
    have hpl := preL_length [t]
    generalize preL [t] = ks at *
    have hks : ks.length ≤ 1000 := by omega
    rw [← hpl]
    clear hown hrow hcel hb3 hb1 c0 c1 hpl hpos e
    go_wp2_with fail
    go_loop [4] (fun i => ∃ k : Nat, k ≤ ks.length ∧ i = .int .i64 k ∧ errP (ks.take k) = 0) (fun i => ks.length - (intOf i).toNat)
    case atStart => exact ⟨0, Nat.zero_le _, rfl, by simp [errP]⟩
    case round =>
      obtain ⟨k, hk, rfl, he⟩ := hrel
      have HE := hide he
      clear he
      by_cases hlt : k < ks.length
      · obtain ⟨x0, a', c', x1, hsl⟩ := HROW.out.get k hlt
        have d0 := HCEL.out _ _ x0
        have d1 := HCEL.out _ _ x1
        have hl1 := hsl.1
        clear x0 x1
        cases hn : nameB ks[k].name with
        | false =>
          have HN := hide hn
          have hz : Hid (1 = mayE t) := by
            have : kErr ks[k] = 1 := by simp [kErr, hn]
            unfold Hid; rw [← hm.out, errP_at hlt HE.out (by rw [this]; decide), this]
          clear hn
          go_wp2_with (go_at_call 31; refine (isNameR_any _ _).mono ?_; rintro e w' ⟨rfl, rfl⟩; rw [HN.out])
          go_ret
          exact ⟨ret_int hz.out, hb4.out⟩
        | true =>
          have HN := hide hn
          cases hv : varB ks[k].name with
          | true =>
            have HV := hide hv
            by_cases hp : 0 < ks[k].args.length
            · have hz : Hid (2 = mayE t) := by
                have : kErr ks[k] = 2 := by simp [kErr, hn, hv, hp]
                unfold Hid; rw [← hm.out, errP_at hlt HE.out (by rw [this]; decide), this]
              clear hn hv
              go_wp2_with (first | (go_at_call 31; refine (isNameR_any _ _).mono ?_; rintro e w' ⟨rfl, rfl⟩; rw [HN.out]) | (go_at_call 32; refine (isVarR_any _ _).mono ?_; rintro e w' ⟨rfl, rfl⟩; rw [HV.out]))
              go_ret
              exact ⟨ret_int hz.out, hb4.out⟩
            · have hz : Hid (errP (ks.take (k + 1)) = 0) := by
                have : kErr ks[k] = 0 := by simp [kErr, hn, hv, hp]
                unfold Hid; rw [errP_take _ _ hlt, HE.out, this]; rfl
              clear hn hv
              go_wp2_with (first | (go_at_call 31; refine (isNameR_any _ _).mono ?_; rintro e w' ⟨rfl, rfl⟩; rw [HN.out]) | (go_at_call 32; refine (isVarR_any _ _).mono ?_; rintro e w' ⟨rfl, rfl⟩; rw [HV.out]))
              go_round
              case rel => exact ⟨k + 1, by omega, by go_num, hz.out⟩
              case measure => simp [intOf]; omega
          | false =>
            have HV := hide hv
            have hz : Hid (errP (ks.take (k + 1)) = 0) := by
              have : kErr ks[k] = 0 := by simp [kErr, hn, hv]
              unfold Hid; rw [errP_take _ _ hlt, HE.out, this]; rfl
            clear hn hv
            go_wp2_with (first | (go_at_call 31; refine (isNameR_any _ _).mono ?_; rintro e w' ⟨rfl, rfl⟩; rw [HN.out]) | (go_at_call 32; refine (isVarR_any _ _).mono ?_; rintro e w' ⟨rfl, rfl⟩; rw [HV.out]))
            go_round
            case rel => exact ⟨k + 1, by omega, by go_num, hz.out⟩
            case measure => simp [intOf]; omega
      · have htk : ks.take k = ks := List.take_of_length_le (by omega)
        have hz : Hid (0 = mayE t) := by unfold Hid; rw [← hm.out, ← htk, HE.out]
        go_wp2_with fail
        go_ret
        exact ⟨ret_int hz.out, hb4.out⟩

/-- What is wrong with the first, else with the second. -/
def twoE (t x : Tm) : Int := if mayE t = 0 then mayE x else mayE t

set_option maxHeartbeats 400000 in
theorem twoMay_any (t x : Tm) (v u : Value) (w : World) (X : Nat → Prop) (hv : TV w X v t) (hu : TV w X u x) :
    Calls Try.prog 54 #[v, u] w fun e w' => e = .returned (.int .i64 (twoE t x)) ∧ Below w.heap.size w w' := by
  obtain ⟨a, c, rfl, hs⟩ := hv
  obtain ⟨a2, c2, rfl, hs2⟩ := hu
  have hv : TV w X (.agg #[.string t.name, .slice a t.args.length c]) t := ⟨a, c, rfl, hs⟩
  have hu : TV w X (.agg #[.string x.name, .slice a2 x.args.length c2]) x := ⟨a2, c2, rfl, hs2⟩
  go_enter Try.func54, Try.ntmps54
  go_wp2_with fail
  refine (termMay_any t _ _ X ((hv.alloc _).alloc _)).mono ?_
  rintro e w1 ⟨rfl, hb1⟩
  have c0 : w1.cell? ⟨w.heap.size + 1, 0, none⟩ = some (.string x.name) := by rw [hb1.cell (p := ⟨_, _, none⟩) (by simp)]; simp
  have c1 : w1.cell? ⟨w.heap.size + 1, 1, none⟩ = some (.slice a2 x.args.length c2) := by rw [hb1.cell (p := ⟨_, _, none⟩) (by simp)]; simp
  have hb2 : Below w.heap.size w w1 := (((Below.refl _ _).alloc (Nat.le_refl _) _).alloc (by simp) _).trans (hb1.mono (by simp; omega))
  by_cases h : mayE t = 0
  · have hz : Hid (mayE x = twoE t x) := by simp [Hid, twoE, h]
    rw [h]
    clear h
    go_wp2_with fail
    refine (termMay_any x _ _ X (hu.later hb2)).mono ?_
    rintro e w2 ⟨rfl, hb3⟩
    go_wp2_with fail
    go_ret
    exact ⟨ret_int hz.out, hb2.trans (hb3.mono hb2.size)⟩
  · have hz : Hid (mayE t = twoE t x) := by simp [Hid, twoE, h]
    have h' : (mayE t == 0) = false := by simpa using h
    clear h
    go_wp2_with fail
    go_ret
    exact ⟨ret_int hz.out, hb2⟩

set_option maxHeartbeats 400000 in
theorem huge_any (t : Tm) (v : Value) (w : World) (X : Nat → Prop) (hv : TV w X v t) :
    Calls Try.prog 9 #[v] w fun e w' => e = .returned (.bool (decide (3000 < sizeL [t]))) ∧ Below w.heap.size w w' := by
  obtain ⟨a, c, rfl, hs⟩ := hv
  have hv : TV w X (.agg #[.string t.name, .slice a t.args.length c]) t := ⟨a, c, rfl, hs⟩
  go_enter Try.func9, Try.ntmps9
  go_wp2_with fail
  refine (size_any t _ _ _ X (hv.alloc _) (by omega) (by omega)).mono ?_
  rintro e w1 ⟨rfl, hb1⟩
  have hb2 : Below w.heap.size w w1 := ((Below.refl _ _).alloc (Nat.le_refl _) _).trans (hb1.mono (by simp))
  go_wp2_with fail
  go_ret
  exact ⟨ret_bool (by rw [Bool.eq_iff_iff]; simp; omega), hb2⟩
#print axioms termMay_any
#print axioms twoMay_any
#print axioms huge_any
end Go.Proofs.Ytmkomemjhfafnaa
