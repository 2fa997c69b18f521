/- Walks: the document's ranks, symbols, and how often a name stands. -/
import Derived.Test.YthlgknglalcggacW141
import Derived.Test.YthlgknglalcggacZOrderSaysOwn
namespace Go.Proofs.Ythlgknglalcggac
open Go.RowKit
set_option linter.unusedSimpArgs false
set_option linter.unusedVariables false
set_option maxRecDepth 8000

theorem rank_at {s : ByteArray} : ∀ {row : List ByteArray} {k : Nat} (h : k < row.length), s ∉ row.take k → row[k] = s → rankN s row = k + 1
  | x :: row, 0, _, _, e => by
    have e' : x = s := e
    rw [rankN, if_pos e']
  | x :: row, k + 1, h, hn, e => by
    rw [List.take_succ_cons, List.mem_cons, not_or] at hn
    rw [rankN, if_neg fun e' => hn.1 e'.symm, rank_at (k := k) (by simpa using h) hn.2 (by simpa using e)]
set_option maxHeartbeats 1000000 in
theorem rank_any (row : List ByteArray) (s : ByteArray) (u : Value) (w : World) (X : Nat → Prop) (hu : LV Value.string w X u row) :
    Calls Try.prog 67 #[u, .string s] w fun e w' => e = .returned (.int .i64 ((rankN s row : Int) - 1)) ∧ w' = w := by
  obtain ⟨a, c, rfl, ⟨hl, _⟩, h1⟩ := hu
  go_enter Try.func67, Try.ntmps67
  go_wp2_with fail
  go_loop [5] (fun i => ∃ k : Nat, k ≤ row.length ∧ i = .int .i64 k ∧ s ∉ row.take k) (fun i => row.length - (intOf i).toNat)
  case atStart => exact ⟨0, Nat.zero_le _, rfl, by simp⟩
  case round =>
    obtain ⟨k, hk, rfl, ha⟩ := hrel
    have HA := hide ha
    clear ha
    by_cases hlt : k < row.length
    · obtain ⟨b, o, rfl, _, hc⟩ := h1.resolve_left (fun h => by rw [h] at hlt; simp at hlt)
      have d1 := hc k hlt
      clear hc h1
      by_cases he : row[k] = s
      · have HQ := hide (rank_at hlt HA.out he)
        have hq := bytes_yes he
        go_wp2_with fail
        go_ret
        exact ⟨ret_int (by rw [HQ.out]; omega), rfl⟩
      · have hq := bytes_no he
        have HQ : Hid (s ∉ row.take (k + 1)) := by
          unfold Hid
          rw [List.take_succ_eq_append_getElem hlt, List.mem_append, not_or]
          exact ⟨HA.out, by simpa using fun e => he e.symm⟩
        go_wp2_with fail
        go_round
        case rel => exact ⟨k + 1, by omega, by go_num, HQ.out⟩
        case measure => simp [intOf]; omega
    · have htk : row.take k = row := List.take_of_length_le (by omega)
      have HF : Hid (rankN s row = 0) := by unfold Hid; refine rank_none ?_; have h := HA.out; rw [htk] at h; exact h
      go_wp2_with fail
      go_ret
      exact ⟨ret_int (by rw [HF.out]; rfl), rfl⟩

theorem ltB_def (a b : ByteArray) : ltB a b = Op.bytesLess a.toList b.toList := rfl
set_option maxHeartbeats 2000000 in
theorem greater_any (row : List ByteArray) (a b : Tm) (u va vb : Value) (w : World) (X : Nat → Prop) (hrl : row.length ≤ 1000) (hu : LV Value.string w X u row) (ha : TV w X va a) (hb : TV w X vb b) :
    Calls Try.prog 42 #[u, va, vb] w fun e w' => e = .returned (.bool (gtS row a b)) ∧ Below w.heap.size w w' := by
  have HU := hide hu
  obtain ⟨aa, ca, rfl, hsa⟩ := ha
  obtain ⟨ab, cb, rfl, hsb⟩ := hb
  have hla := hsa.1
  have hlb := hsb.1
  clear hsa hsb hu
  have A2 := hide (TwW.start a b aa ca ab cb w)
  have rka := rank_le a.name row
  have rkb := rank_le b.name row
  have HG : Hid (gtS row a b = if rankN a.name row ≠ rankN b.name row then decide (rankN b.name row < rankN a.name row) else if a.name ≠ b.name then ltB b.name a.name else decide (b.args.length < a.args.length)) := rfl
  go_enter Try.func42, Try.ntmps42
  go_wp2_with fail
  generalize ((w.alloc (.cells #[.string a.name, .slice aa a.args.length ca] 25)).alloc (.cells #[.string b.name, .slice ab b.args.length cb] 25)) = w2 at *
  refine (rank_any row a.name _ _ X (by exact HU.out.later A2.out.bl)).mono ?_
  rintro e w3 ⟨rfl, rfl⟩
  have r0 : w3.cell? ⟨w.heap.size, 0, none⟩ = some (.string a.name) := A2.out.k1.cell 0
  have r1 : w3.cell? ⟨w.heap.size, 1, none⟩ = some (.slice aa a.args.length ca) := A2.out.k1.cell 1
  have s0 : w3.cell? ⟨w.heap.size + 1, 0, none⟩ = some (.string b.name) := A2.out.k2.cell 0
  have s1 : w3.cell? ⟨w.heap.size + 1, 1, none⟩ = some (.slice ab b.args.length cb) := A2.out.k2.cell 1
  go_wp2_with fail
  refine (rank_any row b.name _ _ X (by exact HU.out.later A2.out.bl)).mono ?_
  rintro e w4 ⟨rfl, rfl⟩
  by_cases hr : rankN a.name row = rankN b.name row
  · have hr1 : ((rankN a.name row : Int) - 1 != (rankN b.name row : Int) - 1) = false := by rw [hr]; simp
    by_cases hn : a.name = b.name
    · have hq := bytes_yes hn
      have HR : Hid (gtS row a b = decide (b.args.length < a.args.length)) := by unfold Hid; rw [HG.out, if_neg (by simpa using hr), if_neg (by simpa using hn)]
      go_wp2_with fail
      go_ret
      refine ⟨?_, A2.out.bl⟩
      rw [HR.out]
      by_cases hg : b.args.length < a.args.length
      · have : (b.args.length : Int) < (a.args.length : Int) := by omega
        simp [hg, this]
      · have : ¬ (b.args.length : Int) < (a.args.length : Int) := by omega
        simp [hg, this]
    · have hq := bytes_no hn
      have HR : Hid (gtS row a b = ltB b.name a.name) := by unfold Hid; rw [HG.out, if_neg (by simpa using hr), if_pos hn]
      go_wp2_with fail
      go_ret
      refine ⟨?_, A2.out.bl⟩
      have hgg : (!Op.bytesLess a.name.toList b.name.toList) = Op.bytesLess b.name.toList a.name.toList := by
        rw [← ltB_def, ← ltB_def]
        cases h1 : ltB a.name b.name with
        | true => rw [ltB_asymm h1]; rfl
        | false =>
          cases h2 : ltB b.name a.name with
          | true => rfl
          | false => exact absurd (ltB_conn h1 h2) hn
      rw [HR.out, ltB_def, ← hgg]
      rfl
  · have hr1 : ((rankN a.name row : Int) - 1 != (rankN b.name row : Int) - 1) = true := by rw [bne_iff_ne]; omega
    have HR : Hid (gtS row a b = decide (rankN b.name row < rankN a.name row)) := by unfold Hid; rw [HG.out, if_pos hr]
    go_wp2_with fail
    go_ret
    refine ⟨?_, A2.out.bl⟩
    rw [HR.out]
    by_cases hg : rankN b.name row < rankN a.name row
    · have : (rankN b.name row : Int) - 1 < (rankN a.name row : Int) - 1 := by omega
      simp [hg, this]
    · have : ¬ (rankN b.name row : Int) - 1 < (rankN a.name row : Int) - 1 := by omega
      simp [hg, this]

/-- The knots' names, counted. -/
def OfInv (w : World) (t : Tm) (v : ByteArray) (n i : Value) (wr : World) : Prop := ∃ k q : Nat, k ≤ (preL [t]).length ∧ i = .int .i64 (k : Int) ∧ n = .int .i64 ((((preL [t]).take k).filter fun x => decide (x.name = v)).length : Int) ∧ wr = w.drewN q
theorem oft_take (v : ByteArray) (l : List Tm) (k : Nat) (h : k < l.length) : ((l.take (k + 1)).filter fun x => decide (x.name = v)).length = ((l.take k).filter fun x => decide (x.name = v)).length + if l[k].name = v then 1 else 0 := by
  rw [List.take_succ_eq_append_getElem h, List.filter_append, List.length_append]
  by_cases e : l[k].name = v
  · simp [e]
  · simp [e]
set_option maxHeartbeats 2000000 in
theorem often_any (t : Tm) (s : ByteArray) (v : Value) (w : World) (X : Nat → Prop) (hz : sizeL [t] ≤ 20000) (hv : TV w X v t) :
    Calls Try.prog 41 #[v, .string s] w fun e w' => e = .returned (.int .i64 (oftL s [t] : Int)) ∧ Below w.heap.size w w' := by
  have HV := hide hv
  obtain ⟨a, c, rfl, hs⟩ := hv
  clear hs
  go_enter Try.func41, Try.ntmps41
  go_wp2_with fail
  refine (knots_any t _ _ X (by exact HV.out.alloc _) (by omega)).mono ?_
  rintro e w1 ⟨v1, xs, rfl, hown, hrow, hb1⟩
  have B1 := hide (((Below.refl w.heap.size w).alloc (Nat.le_refl _) (.cells #[.string t.name, .slice a t.args.length c] 25)).trans (hb1.mono (by simp)))
  have hpos := size_pos t
  obtain ⟨g, cap, rfl, hg, hglt, hc⟩ := owned_val hown hpos
  have HROW := hide hrow
  have HC := hide hc
  have hpl := preL_len0 [t]
  clear hown hrow hc hb1
  go_wp2_with fail
  go_loopw [6, 7] (fun n i wr => OfInv w1 t s n i wr) (fun n i wr => sizeL [t] - (intOf i).toNat)
  case atStart => exact ⟨0, 0, Nat.zero_le _, rfl, by simp, rfl⟩
  case round =>
    obtain ⟨k, q, hk, rfl, rfl, rfl⟩ := hrel
    by_cases hlt : k < (preL [t]).length
    · have hlti : (k : Int) < (sizeL [t] : Int) := by omega
      obtain ⟨d0, _⟩ := HROW.out.get k hlt
      have d1 : w1.cell? ⟨g, k * 2, none⟩ = some (.string (preL [t])[k].name) := HC.out _ _ d0
      have hot := oft_take s (preL [t]) k hlt
      have hle : ((preL [t]).take k |>.filter fun x => decide (x.name = s)).length ≤ k := by
        have := List.length_filter_le (fun x : Tm => decide (x.name = s)) ((preL [t]).take k)
        simp at this ⊢
        omega
      have HOT := hide hot
      clear hot d0
      generalize ((preL [t]).take k |>.filter fun x => decide (x.name = s)).length = nn at *
      by_cases he : (preL [t])[k].name = s
      · have hq := bytes_yes he
        have HO : Hid ((((preL [t]).take (k + 1)).filter fun x => decide (x.name = s)).length = nn + 1) := by unfold Hid; rw [HOT.out, if_pos he]
        clear he
        go_wp2_with fail
        go_roundw
        case rel => exact ⟨k + 1, _, by omega, by go_num, by rw [HO.out]; go_num, rfl⟩
        case measure => simp [intOf]; omega
      · have hq := bytes_no he
        have HO : Hid ((((preL [t]).take (k + 1)).filter fun x => decide (x.name = s)).length = nn) := by unfold Hid; rw [HOT.out, if_neg he]; rfl
        clear he
        go_wp2_with fail
        go_roundw
        case rel => exact ⟨k + 1, _, by omega, by go_num, by rw [HO.out], rfl⟩
        case measure => simp [intOf]; omega
    · have htk : (preL [t]).take k = preL [t] := List.take_of_length_le (by omega)
      have HR : Hid ((((preL [t]).take k).filter fun x => decide (x.name = s)).length = oftL s [t]) := by unfold Hid; rw [htk]; rfl
      go_wp2_with fail
      go_ret
      exact ⟨ret_int (by rw [HR.out]), below_drewN B1.out _⟩
#print axioms rank_any
#print axioms greater_any
#print axioms often_any
end Go.Proofs.Ythlgknglalcggac
