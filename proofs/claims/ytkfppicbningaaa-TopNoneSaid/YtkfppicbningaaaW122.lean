/- Walks: the law on terms that cannot be made one: it answers true. -/
import Derived.Test.YtkfppicbningaaaNn4
import Derived.Test.YtkfppicbningaaaW100
import Derived.Test.YtkfppicbningaaaW53
import Derived.Test.YtkfppicbningaaaZTopNoneOwn
import Derived.Test.YtkfppicbningaaaZBTopNoneOwn
import Derived.Test.YtkfppicbningaaaW120
namespace Go.Proofs.Ytkfppicbningaaa
open Go.RowKit
set_option linter.unusedSimpArgs false
set_option linter.unusedVariables false
set_option maxRecDepth 8000

def PairMade (w : World) (e : Ending) (w' : World) : Prop :=
  ∃ a c p q, e = .returned (.slice a 1 c) ∧ QV w' (fun _ => True) (.slice a 1 c) [⟨p, q⟩] ∧ (okV 3 [p] ∧ Ar2 [p] ∧ sizeL [p] ≤ 17) ∧ (okV 3 [q] ∧ Ar2 [q] ∧ sizeL [q] ≤ 17) ∧ Below w.heap.size w w'
theorem onAll_two (ls : List Bd) (t : Tm) (u v : Value) (w : World) (X : Nat → Prop) (hu : BV w X u ls) (hv : TV w X v t) (hsm : sizeL [t] ≤ 1000000) :
    Calls Try.prog 16 #[u, v] w fun e w' => ∃ (t' : Tm) (a : Option Addr) (c : Nat) (ok : Bool), e = .returned (.tuple #[.agg #[.string t'.name, .slice a t'.args.length c], .bool ok]) ∧ Below w.heap.size w w' ∧ (ok = true → t' = onT ls t) ∧ Sl w' (fun _ => True) a t'.args := by
  refine (onAll_any ls t u v w X hu hv hsm).mono ?_
  rintro e w' ⟨hb, ⟨h1, rfl⟩ | ⟨h1, a, c, rfl, hs⟩⟩
  · exact ⟨⟨⟨#[]⟩, []⟩, none, 0, false, rfl, hb, by simp, ⟨by simp, Or.inl rfl⟩⟩
  · exact ⟨onT ls t, a, c, true, rfl, hb, fun _ => rfl, hs.mono fun _ _ _ => trivial⟩
theorem mayE_small {t : Tm} (he : errL [t] = 0) (hs : sizeL [t] ≤ 200) : mayE t = 0 := by
  unfold mayE
  rw [if_neg (by omega)]
  exact he
theorem pairsE_one {p q : Tm} (h1 : errL [p] = 0) (h2 : errL [q] = 0) (z1 : sizeL [p] ≤ 17) (z2 : sizeL [q] ≤ 17) : pairsE [⟨p, q⟩] = 0 := by
  have m1 : mayE p = 0 := mayE_small h1 (by omega)
  have m2 : mayE q = 0 := mayE_small h2 (by omega)
  simp [pairsE, pmT, twoE, m1, m2]
theorem none_first {p q : Tm} (hp : okV 3 [p] ∧ Ar2 [p] ∧ sizeL [p] ≤ 17) (hq : okV 3 [q] ∧ Ar2 [q] ∧ sizeL [q] ≤ 17) :
    ∃ code : Int, (code = 0 ∨ ((code = 5 ∨ code = 6) ∧ ∀ s t : List Bd, (∀ d ∈ s, varB d.nm = true) → (∀ d ∈ t, varB d.nm = true) → onT t (onT s p) ≠ onT t (onT s q))) ∧
      ∀ (v : Value) (w : World) (X : Nat → Prop), QV w X v [⟨p, q⟩] → Calls Try.prog 21 #[v] w fun e w' => ∃ v3, e = .returned (.tuple #[v3, .int .i64 code]) ∧ Below w.heap.size w w' := by
  obtain ⟨p1, p2, p3⟩ := hp
  obtain ⟨q1, q2, q3⟩ := hq
  have hE := pairsE_one p1.1 q1.1 p3 q3
  have okb := ok_two p1 q1
  obtain ⟨g, R, hR⟩ := u_ends0 [⟨p, q⟩] okb.1
  have ar : Ar2 [p, q] := fun k hk => by
    rw [preL_cons2] at hk
    rcases List.mem_append.1 hk with hk | hk
    · exact p2 k hk
    · exact q2 k hk
  obtain ⟨k1, k2⟩ := none_pure (fun y hy ho => by
    obtain ⟨k, hk, rfl⟩ := ho
    exact okb.2 k hk hy) ar okb.1 p3 q3 hR
  refine ⟨R.1, k2, fun v w X hv => ?_⟩
  refine (unify_any [⟨p, q⟩] R g (fun _ => hR) v w X hv).mono ?_
  rintro e w' (⟨h, _⟩ | ⟨_, hb, ⟨h, _⟩ | ⟨_, _, rfl⟩ | ⟨_, h, v, rfl, _⟩⟩)
  · exact absurd hE h
  · rw [k1] at h; cases h
  · exact ⟨_, rfl, hb⟩
  · exact ⟨v, by rw [h], hb⟩
theorem none_second {a b : Tm} (no : ∀ t : List Bd, (∀ d ∈ t, varB d.nm = true) → onT t a ≠ onT t b) (v : Value) (w : World) (X : Nat → Prop) (hv : QV w X v [⟨a, b⟩]) :
    Calls Try.prog 21 #[v] w fun e w' => ∃ f : Int, f ≠ 0 ∧ e = .returned (.tuple #[.slice none 0 0, .int .i64 f]) ∧ Below w.heap.size w w' := by
  by_cases hE : pairsE [⟨a, b⟩] = 0
  · obtain ⟨g, R, hR⟩ := u_ends0 _ (pairs_start hE).1
    have h0 := none_next no hE hR
    refine (unify_any _ R g (fun _ => hR) v w X hv).mono ?_
    rintro e w' (⟨h, _⟩ | ⟨_, hb, ⟨h, rfl⟩ | ⟨_, h, rfl⟩ | ⟨_, h, _⟩⟩)
    · exact absurd hE h
    · exact ⟨8, by decide, rfl, hb⟩
    · exact ⟨R.1, h, rfl, hb⟩
    · exact absurd h h0
  · refine (unify_any _ (0, []) 0 (fun h => absurd h hE) v w X hv).mono ?_
    rintro e w' (⟨h, hb, rfl⟩ | ⟨h, _⟩)
    · exact ⟨_, h, rfl, hb⟩
    · exact absurd h hE

set_option maxHeartbeats 4000000 in
theorem topNone_any (FA : Hid (∀ w, Calls Try.prog 23 #[] w fun e w' => e = .returned (.bool true) ∧ Below w.heap.size w w')) (zs : List Int) (hr : ∀ z ∈ zs, Rng z) (y1 : Int) (hy1 : Rng y1) (u : Value) (w : World) (X : Nat → Prop) (hu : PV w X u zs)
    (PF : Hid (zs.length ≤ 256 → ∀ k : Nat, k < 9 → Calls Try.prog 24 #[u, .int .i64 1, .int .i64 (1 + (k : Int)), .int .i64 3] w fun e w' => PairMade w e w')) :
    Calls Try.prog 6 #[u, .int .i64 y1] w fun e w' => e = .returned (.bool true) ∧ Below w.heap.size w w' := by
  have HU := hide hu
  obtain ⟨a, c, rfl, hlc, hu2⟩ := hu
  clear hu2
  by_cases h256 : 256 < zs.length
  · go_enter Try.func6, Try.ntmps6
    go_wp2_with fail
    go_ret
    exact ⟨rfl, Below.refl _ _⟩
  · have PF2 : Hid (∀ k : Nat, k < 9 → Calls Try.prog 24 #[.slice a zs.length c, .int .i64 1, .int .i64 ((k : Int) + 1), .int .i64 3] w fun e w' => PairMade w e w') := fun k hk => by
      have h := PF.out (by omega) k hk
      rw [Int.add_comm] at h
      exact h
    go_enter Try.func6, Try.ntmps6
    go_wp2_with fail
    refine (pick_any _ 9 (by decide) (by decide) hy1 _).mono ?_
    rintro e w1 ⟨k1, rfl, hk1, rfl⟩
    go_wp2_with fail
    refine (by first | exact PF.out (by omega) k1 hk1 | exact PF2.out k1 hk1 : Calls Try.prog 24 _ _ _).mono ?_
    rintro e w2 ⟨a2, c2, p, q, rfl, hq2, hp, hq, hb2⟩
    obtain ⟨code, hcode, UN⟩ := none_first hp hq
    have HC := hide hcode
    have HUN := hide UN
    have HP := hide hp
    have HQq := hide hq
    have Q2 := hide hq2
    have B2 := hide hb2
    clear hcode UN hp hq hq2 hb2 PF PF2
    go_wp2_with fail
    refine (HUN.out _ w2 _ Q2.out).mono ?_
    rintro e w3 ⟨v3, rfl, hb3⟩
    have Q3 := hide (Q2.out.later hb3)
    have B3 := hide (B2.out.trans (hb3.mono B2.out.size))
    clear hb3 Q2 HUN
    go_wp2_with fail
    refine (bindsFrom_any 3 (by decide) (by decide) zs hr (by omega) 4 90 _ w3 X (HU.out.later B3.out) (by omega) (by simp [top])).mono ?_
    rintro e w4 ⟨v4, ls, rfl, hv4, hfour, hall, hb4⟩
    have hvl : ∀ d ∈ ls, varB d.nm = true := fun d hd => (show ∀ n ∈ four, varB n = true by unfold four; decide) _ (hfour.subset (List.mem_map.2 ⟨d, hd, rfl⟩))
    have HVL := hide hvl
    have V4 := hide (hv4.mono (Y := fun _ => True) fun _ _ _ => trivial)
    have Q4 := hide (Q3.out.later hb4)
    have B4 := hide (B3.out.trans (hb4.mono B3.out.size))
    clear hv4 hfour hall hb4 hvl Q3
    obtain ⟨b0, o0, x1, d1, x2, d2, e4, k0, k1', k2, k3, hl4, hr4⟩ := Q4.out.get 0 (by simp)
    subst e4
    simp only [Nat.zero_mul, Nat.add_zero, List.getElem_cons_zero] at k0 k1' k2 k3 hl4 hr4
    have HL4 := hide hl4
    have HR4 := hide hr4
    have hbl : b0 < w4.heap.size := cell_lt k0
    have HK2 := hide k2
    have HK3 := hide k3
    clear hl4 hr4 k2 k3
    go_wp2_with fail
    refine (onAll_two ls p _ (.agg #[.string p.name, .slice x1 p.args.length d1]) w4 (fun _ => True) V4.out ⟨_, _, rfl, HL4.out⟩ (by have := HP.out.2.2; omega)).mono ?_
    rintro e w5 ⟨t5, a5, c5, ok5, rfl, hb5, ht5, hs5⟩
    have hbA : Below w5.heap.size w5 (w5.alloc (.cells #[.string t5.name, .slice a5 t5.args.length c5] 28)) := (Below.refl _ _).alloc (Nat.le_refl _) _
    have hb6 := hb5.trans (hbA.mono hb5.size)
    have A6 := hide (Blk.new w5 #[.string t5.name, .slice a5 t5.args.length c5] 28)
    have S6 := hide (hs5.later hbA)
    have T6 := hide ht5
    have V6 := hide (V4.out.later hb6)
    have R6 := hide (HR4.out.later hb6)
    have B6 := hide (B4.out.trans (hb6.mono B4.out.size))
    have q2 := (hb6.cell (p := ⟨b0, o0 + 2, none⟩) hbl).trans HK2.out
    have q3 := (hb6.cell (p := ⟨b0, o0 + 2 + 1, none⟩) hbl).trans HK3.out
    clear hbA hb5 ht5 hs5 hb6 k0 k1'
    go_wp2_with fail
    generalize w5.alloc (.cells #[.string t5.name, .slice a5 t5.args.length c5] 28) = w6 at *
    generalize w5.heap.size = P6 at *
    refine (onAll_two ls q _ (.agg #[.string q.name, .slice x2 q.args.length d2]) w6 (fun _ => True) V6.out ⟨_, _, rfl, R6.out⟩ (by have := HQq.out.2.2; omega)).mono ?_
    rintro e w7 ⟨t7, a7, c7, ok7, rfl, hb7, ht7, hs7⟩
    have hbA : Below w7.heap.size w7 (w7.alloc (.cells #[.string t7.name, .slice a7 t7.args.length c7] 28)) := (Below.refl _ _).alloc (Nat.le_refl _) _
    have hb8 := hb7.trans (hbA.mono hb7.size)
    have A8 := hide (Blk.new w7 #[.string t7.name, .slice a7 t7.args.length c7] 28)
    have C8 := hide (A6.out.below hb8 A6.out.lt)
    have S8 := hide (hs7.later hbA)
    have S68 := hide (S6.out.later hb8)
    have T8 := hide ht7
    have B8 := hide (B6.out.trans (hb8.mono B6.out.size))
    have r0 := A8.out.cell 0
    have r1 := A8.out.cell 1
    have r2 := C8.out.cell 0
    have r3 := C8.out.cell 1
    clear hbA hb7 ht7 hs7 hb8 q2 q3 V6 R6 A6 S6
    cases ok5 with
    | false =>
      go_wp2_with fail
      go_ret
      exact ⟨rfl, B8.out⟩
    | true =>
    cases ok7 with
    | false =>
      go_wp2_with fail
      go_ret
      exact ⟨rfl, B8.out⟩
    | true =>
    have e5 := T6.out rfl
    have e7 := T8.out rfl
    rcases HC.out with h0 | ⟨h56, hno⟩
    · subst h0
      clear HC e5 e7
      go_wp2_with fail
      refine (FA.out _).mono ?_
      rintro e w9 ⟨rfl, hb9⟩
      go_wp2_with fail
      go_ret
      exact ⟨rfl, B8.out.trans (hb9.mono B8.out.size)⟩
    · have no : ∀ t : List Bd, (∀ d ∈ t, varB d.nm = true) → onT t t5 ≠ onT t t7 := fun t ht => by
        rw [e5, e7]
        exact hno ls t HVL.out ht
      have NO := hide no
      clear HC no hno e5 e7 T6 T8
      have hc0 : code ≠ 0 := by omega
      go_wp2_with fail
      have QB := blk_at (w := w7.alloc (.cells #[.string t7.name, .slice a7 t7.args.length c7] 28)) (n := w7.heap.size + 1) (by simp) #[.string t5.name, .slice a5 t5.args.length c5, .string t7.name, .slice a7 t7.args.length c7] 53
      have hbC : Below w1.heap.size w1 ((w7.alloc (.cells #[.string t7.name, .slice a7 t7.args.length c7] 28)).alloc (.cells #[.string t5.name, .slice a5 t5.args.length c5, .string t7.name, .slice a7 t7.args.length c7] 53)) := B8.out.alloc B8.out.size _
      have hbD : Below (w7.alloc (.cells #[.string t7.name, .slice a7 t7.args.length c7] 28)).heap.size (w7.alloc (.cells #[.string t7.name, .slice a7 t7.args.length c7] 28)) ((w7.alloc (.cells #[.string t7.name, .slice a7 t7.args.length c7] 28)).alloc (.cells #[.string t5.name, .slice a5 t5.args.length c5, .string t7.name, .slice a7 t7.args.length c7] 53)) := (Below.refl _ _).alloc (Nat.le_refl _) _
      have QV8 := qv_one QB (S68.out.later hbD) (S8.out.later hbD)
      refine (none_second NO.out _ _ _ QV8).mono ?_
      rintro e w9 ⟨f, hf, rfl, hb9⟩
      have B9 := hide (hbC.trans (hb9.mono hbC.size))
      clear QB hbC hbD QV8 hb9
      have hf2 : (f != 0) = true := by simpa using hf
      rcases h56 with rfl | rfl
      · go_wp2_with fail
        refine (FA.out _).mono ?_
        rintro e w10 ⟨rfl, hb10⟩
        have B10 := hide (B9.out.trans (hb10.mono B9.out.size))
        clear hb10
        go_wp2_with fail
        go_ret
        exact ⟨rfl, B10.out⟩
      · go_wp2_with fail
        refine (FA.out _).mono ?_
        rintro e w10 ⟨rfl, hb10⟩
        have B10 := hide (B9.out.trans (hb10.mono B9.out.size))
        clear hb10
        go_wp2_with fail
        go_ret
        exact ⟨rfl, B10.out⟩
#print axioms topNone_any
end Go.Proofs.Ytkfppicbningaaa
