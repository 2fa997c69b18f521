/- Walks: counting knots with a bound; what is wrong with a term. -/
import Derived.Test.YtmkomemjhfafnaaW1
import Derived.Test.YtmkomemjhfafnaaW3
namespace Go.Proofs.Ytmkomemjhfafnaa
open Go.RowKit
set_option linter.unusedSimpArgs false
set_option linter.unusedVariables false

theorem argsOf_any (s : ByteArray) (a : Option Addr) (n c : Nat) (w : World) :
    Calls Try.prog 74 #[.agg #[.string s, .slice a n c]] w fun e w' => e = .returned (.slice a n c) ∧ w' = w.alloc (.cells #[.string s, .slice a n c] 25) := by
  go_enter Try.func74, Try.ntmps74
  go_wp2_with fail
  go_ret
  exact ⟨rfl, rfl⟩

set_option maxHeartbeats 400000 in
theorem countOn_any (M : Int) (hM0 : 0 ≤ M) (hM1 : M ≤ 1000000) (t : Tm) : ∀ (v : Value) (n : Int) (w : World) (X : Nat → Prop), TV w X v t → 0 ≤ n → n ≤ M →
    Calls Try.prog 84 #[v, .func (.func 74) #[] #[], .int .i64 M, .int .i64 n] w fun e w' => e = .returned (.int .i64 (min (n + sizeL [t]) (M + 1))) ∧ Below w.heap.size w w' := by
  induction t using Tm.ind with
  | h s l ih =>
    intro v n w X hv hn0 hn1
    obtain ⟨a, c, rfl, hs⟩ := hv
    have IH := hide ih
    clear ih
    have hz : Hid ((sizeL [(⟨s, l⟩ : Tm)] : Int) = 1 + sizeL l) := by simp [Hid, sizeL]
    go_enter Try.func84, Try.ntmps84
    go_wp2_with (go_at_call 74; refine (argsOf_any _ _ _ _ _).mono ?_; rintro e w' ⟨rfl, rfl⟩)
    have hB0 : Hid (Below w.heap.size w ((w.alloc (Obj.cells #[Value.string s, Value.slice a l.length c] 25)).alloc (Obj.cells #[Value.string s, Value.slice a l.length c] 25))) := ((Below.refl _ _).alloc (Nat.le_refl _) _).alloc (by simp) _
    have hZ0 : Hid (w.heap.size + 2 ≤ ((w.alloc (Obj.cells #[Value.string s, Value.slice a l.length c] 25)).alloc (Obj.cells #[Value.string s, Value.slice a l.length c] 25)).heap.size) := by simp [Hid]
    generalize ((w.alloc (Obj.cells #[Value.string s, Value.slice a l.length c] 25)).alloc (Obj.cells #[Value.string s, Value.slice a l.length c] 25)) = w0 at *
    go_loopw [9, 18] (fun m i wr => ∃ k : Nat, k ≤ l.length ∧ i = .int .i64 k ∧ m = .int .i64 (min (n + 1 + sizeL (l.take k)) (M + 1)) ∧ Below w.heap.size w wr) (fun m i wr => l.length - (intOf i).toNat)
    case atStart => exact ⟨0, Nat.zero_le _, rfl, by rw [show sizeL (l.take 0) = 0 by simp [sizeL]]; congr 1; omega, hB0.out⟩
    case round =>
      obtain ⟨k, hk, rfl, rfl, hb⟩ := hrel
      have hl := hs.1
      have hsz : w.heap.size ≤ wr.heap.size := hb.size
      by_cases hlt : k < l.length
      · obtain ⟨b, o, a', c', rfl, d0, d1, hx⟩ := hs.get hb (fun _ _ h => h) k hlt
        by_cases hle : n + 1 + (sizeL (l.take k) : Int) ≤ M
        · have hmin : min (n + 1 + (sizeL (l.take k) : Int)) (M + 1) = n + 1 + (sizeL (l.take k) : Int) := by omega
          rw [hmin]
          go_wp2_with fail
          refine (IH.out _ (List.getElem_mem hlt) _ _ _ X (hx.alloc _) (by omega) (by omega)).mono ?_
          rintro e w1 ⟨rfl, hb1⟩
          have Hst := hide (sizeL_take l k hlt)
          go_wp2_with fail
          go_roundw
          case rel => exact ⟨k + 1, by omega, by go_num, by rw [Hst.out]; congr 1; omega, (hb.alloc hsz _).trans (hb1.mono (by simp; omega))⟩
          case measure => simp [intOf]; omega
        · have hmin : min (n + 1 + (sizeL (l.take k) : Int)) (M + 1) = M + 1 := by omega
          rw [hmin]
          have hle2 : sizeL (l.take k) ≤ sizeL l := sizeL_take_le l k
          go_wp2_with fail
          go_ret
          refine ⟨ret_int (by have := hz.out; omega), ?_⟩
          exact hb.alloc (by omega) _
      · have htk : l.take k = l := List.take_of_length_le (by omega)
        rw [htk]
        go_wp2_with fail
        go_ret
        exact ⟨ret_int (by have := hz.out; omega), hb⟩

theorem countT_any (M : Int) (hM0 : 0 ≤ M) (hM1 : M ≤ 1000000) (t : Tm) (v : Value) (w : World) (X : Nat → Prop) (hv : TV w X v t) :
    Calls Try.prog 73 #[v, .func (.func 74) #[] #[], .int .i64 M] w fun e w' => e = .returned (.int .i64 (min (sizeL [t] : Int) (M + 1))) ∧ Below w.heap.size w w' := by
  obtain ⟨a, c, rfl, hs⟩ := hv
  have hv : TV w X (.agg #[.string t.name, .slice a t.args.length c]) t := ⟨a, c, rfl, hs⟩
  go_enter Try.func73, Try.ntmps73
  go_wp2_with fail
  refine (countOn_any M hM0 hM1 t _ _ _ X (hv.alloc _) (by omega) (by omega)).mono ?_
  rintro e w1 ⟨rfl, hb1⟩
  go_wp2_with fail
  go_ret
  exact ⟨ret_int (by omega), ((Below.refl _ _).alloc (Nat.le_refl _) _).trans (hb1.mono (by simp))⟩

theorem count_any (M : Int) (hM0 : 0 ≤ M) (hM1 : M ≤ 1000000) (t : Tm) (v : Value) (w : World) (X : Nat → Prop) (hv : TV w X v t) :
    Calls Try.prog 58 #[v, .int .i64 M] w fun e w' => e = .returned (.int .i64 (min (sizeL [t] : Int) (M + 1))) ∧ Below w.heap.size w w' := by
  obtain ⟨a, c, rfl, hs⟩ := hv
  have hv : TV w X (.agg #[.string t.name, .slice a t.args.length c]) t := ⟨a, c, rfl, hs⟩
  go_enter Try.func58, Try.ntmps58
  go_wp2_with fail
  refine (countT_any M hM0 hM1 t _ _ X (hv.alloc _)).mono ?_
  rintro e w1 ⟨rfl, hb1⟩
  go_wp2_with fail
  go_ret
  exact ⟨ret_int (by omega), ((Below.refl _ _).alloc (Nat.le_refl _) _).trans (hb1.mono (by simp))⟩

/-- What is wrong, knot by knot: 0 nothing, 1 no name, 2 a variable with terms below it. -/
def errL : List Tm → Int
  | [] => 0
  | ⟨s, l⟩ :: r => if nameB s = true then (if (varB s && decide (0 < l.length)) = true then 2 else if errL l = 0 then errL r else errL l) else 1

theorem errL_cons (t : Tm) (r : List Tm) : errL (t :: r) = if errL [t] = 0 then errL r else errL [t] := by
  obtain ⟨s, l⟩ := t
  simp only [errL]
  split
  · split
    · simp
    · split <;> simp_all
  · simp

theorem errL_append (a b : List Tm) : errL (a ++ b) = if errL a = 0 then errL b else errL a := by
  induction a with
  | nil => simp [errL]
  | cons t r ih =>
    rw [List.cons_append, errL_cons, errL_cons t r, ih]
    by_cases h : errL [t] = 0 <;> simp [h]

theorem errL_take (l : List Tm) (k : Nat) (h : k < l.length) : errL (l.take (k + 1)) = if errL (l.take k) = 0 then errL [l[k]] else errL (l.take k) := by
  rw [List.take_succ_eq_append_getElem h, errL_append]

theorem errL_of_take {l : List Tm} {k : Nat} (h : errL (l.take k) ≠ 0) : errL l = errL (l.take k) := by
  have := errL_append (l.take k) (l.drop k)
  rw [List.take_append_drop, if_neg h] at this
  exact this

theorem name_pos {s : ByteArray} (h : nameB s = true) : 0 < s.size := by
  simp [nameB] at h; omega

set_option maxHeartbeats 400000 in
theorem checkKnots_any (t : Tm) : ∀ (v : Value) (w : World) (X : Nat → Prop), TV w X v t →
    Calls Try.prog 59 #[v] w fun e w' => e = .returned (.int .i64 (errL [t])) ∧ Below w.heap.size w w' := by
  induction t using Tm.ind with
  | h s l ih =>
    intro v w X hv
    obtain ⟨a, c, rfl, hs⟩ := hv
    have IH := hide ih
    clear ih
    have hl := hs.1
    cases hn : nameB s with
    | false =>
      have hz : Hid (1 = errL [(⟨s, l⟩ : Tm)]) := by simp [Hid, errL, hn]
      have HN := hide hn
      clear hn
      go_enter Try.func59, Try.ntmps59
      go_wp2_with (go_at_call 44; refine (isName_any _ _).mono ?_; rintro e w' ⟨rfl, rfl⟩; rw [HN.out])
      go_ret
      exact ⟨ret_int hz.out, (Below.refl _ _).alloc (Nat.le_refl _) _⟩
    | true =>
      have HN := hide hn
      have hpos := name_pos hn
      by_cases hvl : varB s = true ∧ 0 < l.length
      · obtain ⟨hv, hlp⟩ := hvl
        have hz : Hid (2 = errL [(⟨s, l⟩ : Tm)]) := by simp [Hid, errL, hn, hv, hlp]
        have HV := hide hv
        clear hn hv
        go_enter Try.func59, Try.ntmps59
        go_wp2_with (first | (go_at_call 44; refine (isName_any _ _).mono ?_; rintro e w' ⟨rfl, rfl⟩; rw [HN.out]) | (go_at_call 45; refine (isVariable_any _ _ hpos).mono ?_; rintro e w' ⟨rfl, rfl⟩; rw [HV.out]))
        go_ret
        exact ⟨ret_int hz.out, (Below.refl _ _).alloc (Nat.le_refl _) _⟩
      · have hz : Hid (errL [(⟨s, l⟩ : Tm)] = errL l) := by
          have : (varB s && decide (0 < l.length)) = false := by
            rw [Bool.eq_false_iff]; intro h; simp at h; exact hvl ⟨h.1, by omega⟩
          simp only [Hid, errL, hn, this]
          by_cases h0 : errL l = 0 <;> simp [h0]
        have hcase : (varB s = true ∧ l.length < 1) ∨ varB s = false := by
          cases hv : varB s with
          | true => exact Or.inl ⟨rfl, by apply Classical.byContradiction; intro h; exact hvl ⟨hv, by omega⟩⟩
          | false => exact Or.inr rfl
        clear hn hvl
        rcases hcase with ⟨hv, hl0⟩ | hv
        · have e0 : l = [] := List.length_eq_zero_iff.1 (by omega)
          subst e0
          have HV := hide hv
          clear hv
          go_enter Try.func59, Try.ntmps59
          go_wp2_with (first | (go_at_call 44; refine (isName_any _ _).mono ?_; rintro e w' ⟨rfl, rfl⟩; rw [HN.out]) | (go_at_call 45; refine (isVariable_any _ _ hpos).mono ?_; rintro e w' ⟨rfl, rfl⟩; rw [HV.out]))
          go_loop [22] (fun i => i = .int .i64 0) (fun i => 0)
          case atStart => rfl
          case round =>
            subst hrel
            have HZ : Hid (0 = errL [(⟨s, []⟩ : Tm)]) := by unfold Hid; rw [hz.out]; simp [errL]
            go_wp2_with fail
            go_ret
            exact ⟨ret_int HZ.out, (Below.refl _ _).alloc (Nat.le_refl _) _⟩
        · have HV := hide hv
          clear hv
          go_enter Try.func59, Try.ntmps59
          go_wp2_with (first | (go_at_call 44; refine (isName_any _ _).mono ?_; rintro e w' ⟨rfl, rfl⟩; rw [HN.out]) | (go_at_call 45; refine (isVariable_any _ _ hpos).mono ?_; rintro e w' ⟨rfl, rfl⟩; rw [HV.out]))
          go_loopw [22] (fun i wr => ∃ k : Nat, k ≤ l.length ∧ i = .int .i64 k ∧ errL (l.take k) = 0 ∧ Below (w.heap.size + 1) (w.alloc (Obj.cells #[Value.string s, Value.slice a l.length c] 25)) wr) (fun i wr => l.length - (intOf i).toNat)
          case atStart => exact ⟨0, Nat.zero_le _, rfl, by simp [errL], Below.refl _ _⟩
          case round =>
            obtain ⟨k, hk, rfl, he, hb⟩ := hrel
            have HE := hide he
            clear he
            have hsz : w.heap.size + 1 ≤ wr.heap.size := by have := hb.size; simpa using this
            by_cases hlt : k < l.length
            · obtain ⟨b, o, a', c', rfl, d0, d1, hx⟩ := hs.get (below_box hb) (fun _ _ h => h) k hlt
              have HT := hide (errL_take l k hlt)
              go_wp2_with fail
              refine (IH.out _ (List.getElem_mem hlt) _ _ X (hx.alloc _)).mono ?_
              rintro e w1 ⟨rfl, hb1⟩
              by_cases hez : errL [l[k]] = 0
              · have HZ := hide hez
                rw [hez]
                clear hez
                go_wp2_with fail
                go_roundw
                case rel => exact ⟨k + 1, by omega, by go_num, by rw [HT.out, HE.out, HZ.out]; rfl, (hb.alloc hsz _).trans (hb1.mono (by simp; omega))⟩
                case measure => simp [intOf]; omega
              · have hez' : (errL [l[k]] == 0) = false := by simpa using hez
                have HZ : Hid (errL [l[k]] = errL [(⟨s, l⟩ : Tm)]) := by
                  have h1 : errL (l.take (k + 1)) = errL [l[k]] := by rw [HT.out, HE.out]; rfl
                  unfold Hid
                  rw [hz.out, errL_of_take (l := l) (k := k + 1) (by rw [h1]; exact hez), h1]
                go_wp2_with fail
                go_ret
                exact ⟨ret_int HZ.out, ((below_box hb).alloc (by omega) _).trans (hb1.mono (by simp; omega))⟩
            · have htk : l.take k = l := List.take_of_length_le (by omega)
              have HZ : Hid (0 = errL [(⟨s, l⟩ : Tm)]) := by unfold Hid; rw [hz.out, ← htk, HE.out]
              go_wp2_with fail
              go_ret
              exact ⟨ret_int HZ.out, below_box hb⟩

/-- What is wrong with a term. -/
def mayE (t : Tm) : Int := if 200 < sizeL [t] then 3 else errL [t]

set_option maxHeartbeats 400000 in
theorem check_any (t : Tm) (v : Value) (w : World) (X : Nat → Prop) (hv : TV w X v t) :
    Calls Try.prog 38 #[v] w fun e w' => e = .returned (.int .i64 (mayE t)) ∧ Below w.heap.size w w' := by
  obtain ⟨a, c, rfl, hs⟩ := hv
  have hv : TV w X (.agg #[.string t.name, .slice a t.args.length c]) t := ⟨a, c, rfl, hs⟩
  go_enter Try.func38, Try.ntmps38
  go_wp2_with fail
  refine (count_any 200 (by omega) (by omega) t _ _ X (hv.alloc _)).mono ?_
  rintro e w1 ⟨rfl, hb1⟩
  have c0 : w1.cell? ⟨w.heap.size, 0, none⟩ = some (.string t.name) := by rw [hb1.cell (p := ⟨_, _, none⟩) (by simp)]; simp
  have c1 : w1.cell? ⟨w.heap.size, 1, none⟩ = some (.slice a t.args.length c) := by rw [hb1.cell (p := ⟨_, _, none⟩) (by simp)]; simp
  have hb2 : Below w.heap.size w w1 := ((Below.refl _ _).alloc (Nat.le_refl _) _).trans (hb1.mono (by simp))
  by_cases h : 200 < sizeL [t]
  · have hm : Hid (3 = mayE t) := by simp [Hid, mayE, h]
    have e : min (sizeL [t] : Int) (200 + 1) = 201 := by omega
    rw [e]
    go_wp2_with fail
    go_ret
    exact ⟨ret_int hm.out, hb2⟩
  · have hm : Hid (errL [t] = mayE t) := by simp [Hid, mayE, h]
    have e : min (sizeL [t] : Int) (200 + 1) = sizeL [t] := by omega
    rw [e]
    go_wp2_with fail
    refine (checkKnots_any t _ _ X (hv.later hb2)).mono ?_
    rintro e w2 ⟨rfl, hb3⟩
    go_wp2_with fail
    go_ret
    exact ⟨ret_int hm.out, hb2.trans (hb3.mono hb2.size)⟩
#print axioms check_any
end Go.Proofs.Ytmkomemjhfafnaa
