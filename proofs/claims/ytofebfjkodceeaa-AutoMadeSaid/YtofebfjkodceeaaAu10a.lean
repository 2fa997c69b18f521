import Derived.Test.YtofebfjkodceeaaZGAutoMadeOwn
namespace Go.Proofs.Ytofebfjkodceeaa
open Go.RowKit
set_option linter.unusedSimpArgs false
set_option linter.unusedVariables false
set_option maxRecDepth 8000
theorem prRow_take {q : Int} {m : Mv} {ns : List Mv} {j : Nat} (h : j < ns.length) : prRow q m (ns.take (j + 1)) = prRow q m (ns.take j) ++ (if alike m ns[j] = true then [prMv q m ns[j]] else []) := by
 unfold prRow
 rw [List.take_succ_eq_append_getElem h, List.filter_append, List.map_append]
 by_cases h1 : alike m ns[j] = true
 ·rw [if_pos h1]; simp [h1]
 ·rw [if_neg h1]; simp [h1]
theorem prMvs_take {q : Int} {ms ns : List Mv} {j : Nat} (h : j < ms.length) : prMvs q (ms.take (j + 1)) ns = prMvs q (ms.take j) ns ++ prRow q ms[j] ns := by
 unfold prMvs
 rw [List.take_succ_eq_append_getElem h, List.flatMap_append]
 simp
theorem zip_take {q : Int} {f g : List Int} {j : Nat} (h : j < f.length) (h2 : j < g.length) : List.zipWith (twoI q) (f.take (j + 1)) (g.take (j + 1)) = List.zipWith (twoI q) (f.take j) (g.take j) ++ [twoI q f[j] g[j]] := by
 rw [List.take_succ_eq_append_getElem h, List.take_succ_eq_append_getElem h2, List.zipWith_append (by rw [List.length_take, List.length_take]; omega)]
 rfl
theorem two_small {q s r : Int} (hq : 0 ≤ q ∧ q ≤ 8) (hs : 0 ≤ s ∧ s ≤ 8) (hr : 0 ≤ r ∧ r ≤ 8) : 0 ≤ s * q ∧ s * q ≤ 64 := by
 refine ⟨Int.mul_nonneg hs.1 hq.1, ?_⟩
 have h1 : s * q ≤ 8 * q := Int.mul_le_mul_of_nonneg_right hs.2 hq.1
 omega
set_option maxHeartbeats 400000 in
theorem both1_any (q s r : Int) (hq : 0 ≤ q ∧ q ≤ 8) (hs : 0 ≤ s ∧ s ≤ 8) (hr : 0 ≤ r ∧ r ≤ 8) (Q : Nat) (w : World) (hc : w.cell? ⟨Q, 0, none⟩ = some (.int .i64 q)) :
  Calls Try.prog 71 #[.int .i64 s, .int .i64 r, .pointer (some ⟨Q, 0, none⟩)] w fun e w' => e = .returned (.int .i64 (twoI q s r)) ∧ Below w.heap.size w w' := by
 have h1 := two_small hq hs hr
 have w1 : IntKind.i64.wrap (s * q) = s * q := by rw [IntKind.wrap_i64]; omega
 have w2 : IntKind.i64.wrap (s * q + r) = s * q + r := by rw [IntKind.wrap_i64]; omega
 have hl := cell_ltA hc
 go_enter Try.func71, Try.ntmps71
 go_wp2_with fail
 go_ret
 exact ⟨rfl, Below.refl _ _⟩
theorem name_inj {s t : ByteArray} (h : s.toList = t.toList) : s = t := by
 rw [ByteArray.toList_eq, ByteArray.toList_eq] at h
 have h1 : s.data = t.data := Array.toList_inj.1 h
 cases s; cases t
 simp only at h1
 rw [h1]
theorem SlV.at {w : World} {X : Nat → Prop} {a : Option Addr} {l : List Mv} (h : SlV w X a l) (k : Nat) (hk : k < l.length) :
  ∃ b o af cf, a = some ⟨b, o, none⟩ ∧ X b ∧ w.cell? ⟨b, o + k * 3, none⟩ = some (.string l[k].name) ∧ w.cell? ⟨b, o + k * 3 + 1, none⟩ = some (.slice af l[k].frm.length cf) ∧ w.cell? ⟨b, o + k * 3 + 2, none⟩ = some (.int .i64 l[k].to) ∧ PV w X (.slice af l[k].frm.length cf) l[k].frm := by
 rcases h.2 with h0 | ⟨b, o, e, hx, h1⟩
 ·subst h0; simp at hk
 ·obtain ⟨g0, ⟨a', c', g1, g2⟩, g3⟩ := h1 k hk
  exact ⟨b, o, a', c', e, hx, g0, g1, g3, g2⟩
theorem flat_take {L : List Int} {f : Int → List Int} {j : Nat} (h : j < L.length) : (L.take (j + 1)).flatMap f = (L.take j).flatMap f ++ f L[j] := by
 rw [List.take_succ_eq_append_getElem h, List.flatMap_append]
 simp
theorem map_take {L : List Int} {f : Int → Int} {j : Nat} (h : j < L.length) : (L.take (j + 1)).map f = (L.take j).map f ++ [f L[j]] := by
 rw [List.take_succ_eq_append_getElem h, List.map_append]; rfl
theorem flat_len8 {L LB : List Int} {q : Int} (h1 : L.length ≤ 8) (h2 : LB.length ≤ 8) : (L.flatMap fun s => LB.map (twoI q s)).length ≤ 64 := by
 have h3 : ∀ l : List Int, (l.flatMap fun s => LB.map (twoI q s)).length = l.length * LB.length := by
  intro l
  induction l with
  | nil => simp
  | cons a r ih => simp only [List.flatMap_cons, List.length_append, List.length_map, ih, List.length_cons]; rw [Nat.add_mul]; omega
 rw [h3]
 exact Nat.le_trans (Nat.mul_le_mul h1 h2) (by omega)
theorem blk_set3A {w : World} {V T : Nat} {x0 x1 x2 : Value} (h : Blk w V #[x0, x1, x2] T) (u0 u1 u2 : Value) : Blk (((w.setCell ⟨V, 0, none⟩ u0).setCell ⟨V, 1, none⟩ u1).setCell ⟨V, 2, none⟩ u2) V #[u0, u1, u2] T := ((h.set 0 u0).set 1 u1).set 2 u2
end Go.Proofs.Ytofebfjkodceeaa
