/- Walks: the law TopBracket. -/
import Derived.Test.YtgimfiffcalbfaaBk9
import Derived.Test.YtgimfiffcalbfaaW142o
import Derived.Test.YtgimfiffcalbfaaW53
import Derived.Test.YtgimfiffcalbfaaW10
import Derived.Test.YtgimfiffcalbfaaW1
namespace Go.Proofs.Ytgimfiffcalbfaa
open Go.RowKit
set_option linter.unusedSimpArgs false
set_option linter.unusedVariables false
set_option maxRecDepth 8000

/-- A term in a box, and whatever lies below it. -/
structure Ob (t : Tm) (a : Option Addr) (c P : Nat) (w : World) : Prop where
  k : Blk w P #[.string t.name, .slice a t.args.length c] 25
  s : Sl w (fun _ => True) a t.args
theorem Ob.later {t : Tm} {a : Option Addr} {c P : Nat} {w w' : World} (h : Ob t a c P w) (hb : Below w.heap.size w w') : Ob t a c P w' :=
  ⟨h.k.below hb h.k.lt, (h.s.later hb).mono fun _ _ _ => trivial⟩
theorem Ob.alloc {t : Tm} {a : Option Addr} {c P : Nat} {w : World} (h : Ob t a c P w) (o : Obj) : Ob t a c P (w.alloc o) := h.later ((Below.refl _ _).alloc (Nat.le_refl _) o)
theorem Ob.new {t : Tm} {a : Option Addr} {c : Nat} {w : World} {X : Nat → Prop} (hs : Sl w X a t.args) : Ob t a c w.heap.size (w.alloc (.cells #[.string t.name, .slice a t.args.length c] 25)) :=
  ⟨Blk.new _ _ _, (hs.later ((Below.refl _ _).alloc (Nat.le_refl _) _)).mono fun _ _ _ => trivial⟩
theorem Ob.c0 {t : Tm} {a : Option Addr} {c P : Nat} {w : World} (h : Ob t a c P w) : w.cell? ⟨P, 0, none⟩ = some (.string t.name) := h.k.cell 0
theorem Ob.c1 {t : Tm} {a : Option Addr} {c P : Nat} {w : World} (h : Ob t a c P w) : w.cell? ⟨P, 1, none⟩ = some (.slice a t.args.length c) := h.k.cell 1
theorem Ob.tv {t : Tm} {a : Option Addr} {c P : Nat} {w : World} (h : Ob t a c P w) : TV w (fun _ => True) (.agg #[.string t.name, .slice a t.args.length c]) t := ⟨a, c, rfl, h.s⟩
theorem may_ofB {t : Tm} (he : errL [t] = 0) (hz : sizeL [t] ≤ 200) : mayE t = 0 := by unfold mayE; rw [if_neg (by omega)]; exact he
theorem comb_ofB {t : Tm} (hc : isC t = true) (he : errL [t] = 0) (hz : sizeL [t] ≤ 200) : combE t = 0 := by unfold combE; rw [if_pos (may_ofB he hz), if_pos hc]
theorem on_errB {x : Tm} (hx : errL [x] = 0) (n : Nat) : ∀ t : Tm, sizeL [t] ≤ n → isC t = true → errL [t] = 0 → errL [onT [⟨xB, x⟩] t] = 0 := by
  have hv : xB ≠ apB := by decide
  induction n with
  | zero => intro t h; have := size_posC t; omega
  | succ n ih =>
    intro t h hc he
    rcases isC_cases hc with ⟨s, rfl⟩ | ⟨f, y, rfl, h1, h2⟩
    · rw [on_leaf1]
      split
      · exact hx
      · exact he
    · have hsz := size_ap f y
      have a1 := size_posC f
      have a2 := size_posC y
      have hfy := err_apI he
      rw [on_ap1 hv]
      exact err_ap (ih f (by omega) h1 hfy.1) (ih y (by omega) h2 hfy.2)
theorem bv_oneB {w : World} {B : Nat} {n : ByteArray} {t : Tm} {a : Option Addr} {c T : Nat} (h : Blk w B #[.string n, .string t.name, .slice a t.args.length c] T) (hs : Sl w (fun _ => True) a t.args) : BV w (fun _ => True) (.slice (some ⟨B, 0, none⟩) 1 1) [⟨n, t⟩] := by
  refine ⟨some ⟨B, 0, none⟩, 1, rfl, by simp, Or.inr ⟨B, 0, rfl, trivial, fun i hi => ?_⟩⟩
  have e : i = 0 := by simp at hi; omega
  subst e
  exact ⟨h.cell 0, h.cell 1, a, c, h.cell 2, hs⟩
theorem endC_errs (m : Nat) : ∀ t : Tm, (endC m t).1 = 0 ∨ (endC m t).1 = 8 ∨ (endC m t).1 = 9 := by
  induction m with
  | zero =>
    intro t
    unfold endC
    split <;> simp
  | succ m ih =>
    intro t
    unfold endC
    split
    · simp
    · split
      · simp
      · exact ih _
/-- Where a run ends, in a word. -/
theorem en_say {w w' : World} {X : Nat → Prop} {m : Nat} {t : Tm} {e : Ending} (h : EnPost w X m t e w') : Below w.heap.size w w' ∧ ∃ (y : Tm) (a : Option Addr) (c k : Nat) (z : Int), e = .returned (.tuple #[.agg #[.string y.name, .slice a y.args.length c], .int .i64 (k : Int), .int .i64 z]) ∧ Sl w' (fun _ => True) a y.args ∧ z = (endC m t).1 ∧ (z = 0 → y = (endC m t).2.1) := by
  obtain ⟨hb, ⟨h0, v, rfl, a, c, rfl, hs⟩ | ⟨h0, rfl⟩⟩ := h
  · exact ⟨hb, _, a, c, _, 0, rfl, hs.mono fun _ _ _ => trivial, h0.symm, fun _ => rfl⟩
  · exact ⟨hb, ⟨⟨#[]⟩, []⟩, none, 0, 0, _, rfl, ⟨by simp, Or.inl rfl⟩, rfl, fun h => absurd h h0⟩

set_option maxHeartbeats 8000000 in
theorem topBracket_any (zs : List Int) (hr : ∀ z ∈ zs, Rng z) (y1 y2 : Int) (hy1 : Rng y1) (u : Value) (w : World) (X : Nat → Prop) (hu : PV w X u zs) :
    Calls Try.prog 3 #[u, .int .i64 y1, .int .i64 y2] w fun e w' => e = .returned (.bool true) ∧ Below w.heap.size w w' := by
  have HU := hide hu
  obtain ⟨au, cu, rfl, hlc, hu2⟩ := hu
  clear hu2
  have hvn : xB ≠ apB := by decide
  by_cases h256 : 256 < zs.length
  · go_enter Try.func3, Try.ntmps3
    go_wp2_with fail
    go_ret
    exact ⟨rfl, Below.refl _ _⟩
  go_enter Try.func3, Try.ntmps3
  go_wp2_with fail
  refine (pick_any _ 12 (by decide) (by decide) hy1 _).mono ?_
  rintro e w2 ⟨k1, rfl, hk1, hw2⟩
  rw [hw2]
  clear hw2 w2
  go_wp2_with fail
  obtain ⟨n, hn⟩ : ∃ n : Nat, (1 : Int) + (k1 : Int) = (n : Int) := ⟨1 + k1, by simp⟩
  rw [hn]
  have hn9 : n ≤ 12 := by omega
  have HN := hide hn9
  have HTOP : Hid (top n ≤ 23) := by unfold Hid top; split <;> omega
  clear hn hk1 hn9
  refine (combFrom_any zs hr (by omega) n 0 _ _ X (by exact HU.out) (by have := HN.out; omega) (by have := HTOP.out; omega)).mono ?_
  rintro e w1 ⟨a1, c1, t, rfl, hs1, hc1, he1, hz1, hb1⟩
  have T1 := hide (Ob.new (c := c1) hs1)
  have GT : Hid (isC t = true ∧ errL [t] = 0 ∧ sizeL [t] ≤ 23) := ⟨hc1, he1, Nat.le_trans hz1 HTOP.out⟩
  have B1 := hide (hb1.alloc hb1.size (.cells #[.string t.name, .slice a1 t.args.length c1] 25))
  clear hs1 hc1 he1 hz1 hb1 HTOP HN
  go_wp2_with fail
  generalize (w1.alloc (.cells #[.string t.name, .slice a1 t.args.length c1] 25)) = w2 at *
  generalize w1.heap.size = P at *
  refine (combFrom_any zs hr (by omega) 5 60 _ _ X (by exact HU.out.later B1.out) (by omega) (by decide)).mono ?_
  rintro e w3 ⟨a3, c3, x, rfl, hs3, hc3, he3, hz3, hb3⟩
  have X3 := hide (Ob.new (c := c3) hs3)
  have GX : Hid (isC x = true ∧ errL [x] = 0 ∧ sizeL [x] ≤ 9) := ⟨hc3, he3, hz3⟩
  have T3 := hide ((T1.out.later hb3).alloc (.cells #[.string x.name, .slice a3 x.args.length c3] 25))
  have B3 := hide ((B1.out.trans (hb3.mono B1.out.size)).alloc (Nat.le_trans B1.out.size hb3.size) (.cells #[.string x.name, .slice a3 x.args.length c3] 25))
  have t0 := T3.out.c0
  have t1 := T3.out.c1
  clear hs3 hc3 he3 hz3 hb3 T1 B1 HU
  go_wp2_with fail
  clear t0 t1
  generalize (w3.alloc (.cells #[.string x.name, .slice a3 x.args.length c3] 25)) = w4 at *
  generalize w3.heap.size = Q at *
  refine (bracketX_any t GT.out.1 (comb_ofB GT.out.1 GT.out.2.1 (by have := GT.out.2.2; omega)) (by have := GT.out.2.2; omega) _ _ _ T3.out.tv).mono ?_
  rintro e w5 ⟨a5, c5, rfl, hs5, hb5⟩
  obtain ⟨b, hb⟩ : ∃ b, alw (brR xB (sizeL [t]) t) = b := ⟨_, rfl⟩
  have HBB := hide hb
  rw [hb] at hs5 ⊢
  have GB : Hid (isC b = true ∧ errL [b] = 0 ∧ sizeL [b] ≤ 115 ∧ oftL xB [b] = 0) := by
    rw [← hb]
    exact ⟨alw_isC hvn GT.out.1, alw_err hvn GT.out.1 GT.out.2.1, by have := alw_size (v := xB) GT.out.1; have := GT.out.2.2; omega, brack_oft hvn (by decide) (by decide) (by decide) GT.out.1⟩
  have hbe : b.name.toList.isEmpty = false := isEmpty_pos (by
    have h := err_name GB.out.2.1
    apply Classical.byContradiction
    intro h2
    have h3 : b.name.size = 0 := by omega
    simp [nameB, h3] at h)
  have hbn : (b.name.toList == []) = false := by
    cases hl : b.name.toList with
    | nil => rw [hl] at hbe; cases hbe
    | cons a l => rfl
  have O5 := hide (Ob.new (c := c5) hs5)
  have T5 := hide ((T3.out.later hb5).alloc (.cells #[.string b.name, .slice a5 b.args.length c5] 25))
  have X5 := hide ((X3.out.later hb5).alloc (.cells #[.string b.name, .slice a5 b.args.length c5] 25))
  have B5 := hide ((B3.out.trans (hb5.mono B3.out.size)).alloc (Nat.le_trans B3.out.size hb5.size) (.cells #[.string b.name, .slice a5 b.args.length c5] 25))
  have b0 := O5.out.c0
  have b1 := O5.out.c1
  clear hs5 hb5 hb T3 X3 B3
  go_wp2_with fail
  clear b0 b1
  generalize (w5.alloc (.cells #[.string b.name, .slice a5 b.args.length c5] 25)) = w6 at *
  generalize w5.heap.size = R at *
  refine (often_any b xB _ _ _ (by have := GB.out.2.2.1; omega) O5.out.tv).mono ?_
  rintro e w7 ⟨rfl, hb7⟩
  rw [GB.out.2.2.2]
  have O7 := hide (O5.out.later hb7)
  have T7 := hide (T5.out.later hb7)
  have X7 := hide (X5.out.later hb7)
  have B7 := hide (B5.out.trans (hb7.mono B5.out.size))
  have t0 := T7.out.c0
  have t1 := T7.out.c1
  have x0 := X7.out.c0
  have x1 := X7.out.c1
  have tA0 : ∀ o, (w7.alloc o).cell? ⟨P, 0, none⟩ = some (.string t.name) := fun o => (T7.out.alloc o).c0
  have tA1 : ∀ o, (w7.alloc o).cell? ⟨P, 1, none⟩ = some (.slice a1 t.args.length c1) := fun o => (T7.out.alloc o).c1
  clear hb7 T5 X5 B5 O5 hbn hbe
  go_wp2_with fail
  clear t0 t1 x0 x1 tA0 tA1
  have BV7 : Hid (BV (w7.alloc (.cells #[.string xB, .string x.name, .slice a3 x.args.length c3] 35)) (fun _ => True) (.slice (some ⟨w7.heap.size, 0, none⟩) 1 1) [⟨xB, x⟩]) := bv_oneB (Blk.new _ _ _) (X7.out.alloc _).s
  refine (onAll_any [⟨xB, x⟩] t _ _ _ (fun _ => True) (by exact BV7.out) (T7.out.alloc _).tv (by have := GT.out.2.2; omega)).mono ?_
  rintro e w8 ⟨hb8', hcase⟩
  have hb8 : Below w7.heap.size w7 w8 := ((Below.refl _ _).alloc (Nat.le_refl _) _).trans (hb8'.mono (by simp))
  have O8 := hide (O7.out.later hb8)
  have X8 := hide (X7.out.later hb8)
  have B8 := hide (B7.out.trans (hb8.mono B7.out.size))
  clear hb8 hb8' BV7 T7 X7 O7 B7
  rcases hcase with ⟨hbig, rfl⟩ | ⟨hsm, a8, c8, rfl, hs8⟩
  · clear hbig
    go_wp2_with fail
    go_ret
    exact ⟨rfl, by first | exact B8.out | exact B8.out.alloc B8.out.size _⟩
  have HBR : Hid (isC (onT [⟨xB, x⟩] t) = true ∧ errL [onT [⟨xB, x⟩] t] = 0) := ⟨(br_law hvn GX.out.1 _ t (Nat.le_refl _) GT.out.1).2.1, on_errB GX.out.2.1 _ t (Nat.le_refl _) GT.out.1 GT.out.2.1⟩
  have HRU : Hid (sizeL [apT b x] ≤ 2000 → ∀ k m, (endC k (apT b x)).1 = 0 → (endC m (onT [⟨xB, x⟩] t)).1 = 0 → (endC k (apT b x)).2.1 = (endC m (onT [⟨xB, x⟩] t)).2.1) := fun hz k m h1 h2 => by
    rw [← HBB.out] at hz h1 ⊢
    exact brack_runs hvn GT.out.1 GX.out.1 hz hsm h1 h2
  generalize onT [⟨xB, x⟩] t = y at *
  have Y8 := hide (Ob.new (c := c8) hs8)
  have O9 := hide (O8.out.alloc (.cells #[.string y.name, .slice a8 y.args.length c8] 25))
  have X9 := hide (X8.out.alloc (.cells #[.string y.name, .slice a8 y.args.length c8] 25))
  have B9 := hide (B8.out.alloc B8.out.size (.cells #[.string y.name, .slice a8 y.args.length c8] 25))
  have y0 := Y8.out.c0
  have y1' := Y8.out.c1
  clear hs8 O8 X8 B8
  go_wp2_with fail
  clear y0 y1'
  generalize (w8.alloc (.cells #[.string y.name, .slice a8 y.args.length c8] 25)) = w9 at *
  generalize w8.heap.size = S at *
  refine (size_any y _ 200 _ _ Y8.out.tv (by omega) (by omega)).mono ?_
  rintro e w10 ⟨rfl, hb10⟩
  have O10 := hide (O9.out.later hb10)
  have X10 := hide (X9.out.later hb10)
  have Y10 := hide (Y8.out.later hb10)
  have B10 := hide (B9.out.trans (hb10.mono B9.out.size))
  clear hb10 O9 X9 Y8 B9
  by_cases hys : 200 < sizeL [y]
  · have em : min ((sizeL [y] : Int)) (200 + 1) = 201 := by omega
    rw [em]
    go_wp2_with fail
    go_ret
    exact ⟨rfl, B10.out⟩
  have em : min ((sizeL [y] : Int)) (200 + 1) = sizeL [y] := by omega
  rw [em]
  have e3 : decide ((sizeL [y] : Int) > 200) = false := decide_eq_false (by omega)
  have b0 := O10.out.c0
  have b1 := O10.out.c1
  go_wp2_with fail
  clear b0 b1 e3 em
  refine (size_any b _ 150 _ _ O10.out.tv (by omega) (by omega)).mono ?_
  rintro e w11 ⟨rfl, hb11⟩
  have O11 := hide (O10.out.later hb11)
  have X11 := hide (X10.out.later hb11)
  have Y11 := hide (Y10.out.later hb11)
  have B11 := hide (B10.out.trans (hb11.mono B10.out.size))
  have HZB : Hid (sizeL [b] ≤ 115) := GB.out.2.2.1
  have em : min ((sizeL [b] : Int)) (150 + 1) = sizeL [b] := by have := HZB.out; omega
  rw [em]
  have e3 : decide ((sizeL [b] : Int) > 150) = false := decide_eq_false (by have := HZB.out; omega)
  have b0 := O11.out.c0
  have b1 := O11.out.c1
  have x0 := X11.out.c0
  have x1 := X11.out.c1
  clear hb11 O10 X10 Y10 B10 em
  go_wp2_with fail
  clear b0 b1 x0 x1 e3
  refine (put2_any b x _ _ _ _ O11.out.tv X11.out.tv).mono ?_
  rintro e w12 ⟨v12, rfl, hv12, hb12⟩
  have Y12 := hide (Y11.out.later hb12)
  have B12 := hide (B11.out.trans (hb12.mono B11.out.size))
  have hzp : sizeL [apT b x] ≤ 125 := by have h1 := size_ap b x; have h2 := HZB.out; have h3 := GX.out.2.2; omega
  have HCP : Hid (isC (apT b x) = true ∧ errL [apT b x] = 0 ∧ sizeL [apT b x] ≤ 125) := ⟨by rw [isC_ap, GB.out.1, GX.out.1]; rfl, err_ap GB.out.2.1 GX.out.2.1, hzp⟩
  have V12 := hide hv12
  clear hv12 hb12 O11 X11 Y11 B11 hzp
  generalize apT b x = p at *
  go_wp2_with fail
  refine (run_any 60 p _ _ _ (by omega) (comb_ofB HCP.out.1 HCP.out.2.1 (by have := HCP.out.2.2; omega)) HCP.out.1 (by have := HCP.out.2.2; omega) V12.out).mono ?_
  intro e w13 h13
  obtain ⟨hb13, q1, a13, c13, k13, z13, rfl, hs13, hz13, hq13⟩ := en_say h13
  have Q13 := hide (Ob.new (c := c13) hs13)
  have Y13 := hide ((Y12.out.later hb13).alloc (.cells #[.string q1.name, .slice a13 q1.args.length c13] 25))
  have B13 := hide ((B12.out.trans (hb13.mono B12.out.size)).alloc (Nat.le_trans B12.out.size hb13.size) (.cells #[.string q1.name, .slice a13 q1.args.length c13] 25))
  have E13 := hide (And.intro hz13 hq13)
  have y0 := Y13.out.c0
  have y1' := Y13.out.c1
  clear h13 hb13 hs13 hz13 hq13 Y12 B12 V12
  go_wp2_with fail
  clear y0 y1'
  generalize (w13.alloc (.cells #[.string q1.name, .slice a13 q1.args.length c13] 25)) = w14 at *
  generalize w13.heap.size = T at *
  refine (run_any 60 y _ _ _ (by omega) (comb_ofB HBR.out.1 HBR.out.2 (by omega)) HBR.out.1 (by omega) Y13.out.tv).mono ?_
  intro e w15 h15
  obtain ⟨hb15, q2, a15, c15, k15, z15, rfl, hs15, hz15, hq15⟩ := en_say h15
  have Q15 := hide (Ob.new (c := c15) hs15)
  have Q13' := hide ((Q13.out.later hb15).alloc (.cells #[.string q2.name, .slice a15 q2.args.length c15] 25))
  have B15 := hide ((B13.out.trans (hb15.mono B13.out.size)).alloc (Nat.le_trans B13.out.size hb15.size) (.cells #[.string q2.name, .slice a15 q2.args.length c15] 25))
  have E15 := hide (And.intro hz15 hq15)
  clear h15 hb15 hs15 hz15 hq15 Y13 B13 Q13
  have F1 : z13 = 0 ∨ z13 = 8 ∨ z13 = 9 := by rw [E13.out.1]; exact endC_errs _ _
  have F2 : z15 = 0 ∨ z15 = 8 ∨ z15 = 9 := by rw [E15.out.1]; exact endC_errs _ _
  have fin : ∀ z : Int, (z = 0 ∨ z = 8 ∨ z = 9) → (z == 2) = false := fun z h => by rcases h with rfl | rfl | rfl <;> decide
  have f13 := fin z13 F1
  have f15 := fin z15 F2
  clear fin
  by_cases hz1 : z13 = 0
  · by_cases hz2 : z15 = 0
    · have hsame : q1 = q2 := by rw [E13.out.2 hz1, E15.out.2 hz2]; exact HRU.out (by have := HCP.out.2.2; omega) 60 60 (by rw [← E13.out.1, hz1]) (by rw [← E15.out.1, hz2])
      subst hz1
      subst hz2
      subst hsame
      have c0 := Q13'.out.c0
      have c1' := Q13'.out.c1
      have d0 := Q15.out.c0
      have d1 := Q15.out.c1
      clear f13 f15 F1 F2
      go_wp2_with fail
      refine (same_any q1 _ _ _ _ _ Q13'.out.tv Q15.out.tv).mono ?_
      rintro e w16 ⟨rfl, hb16⟩
      have B16 := hide (B15.out.trans (hb16.mono B15.out.size))
      clear hb16
      go_wp2_with fail
      go_ret
      exact ⟨rfl, B16.out⟩
    · subst hz1
      have g2 : (z15 == 0) = false := beq_eq_false_iff_ne.2 hz2
      go_wp2_with fail
      go_ret
      exact ⟨by simp [beq_eq_false_iff_ne.1 f15], B15.out⟩
  · have g1 : (z13 == 0) = false := beq_eq_false_iff_ne.2 hz1
    go_wp2_with fail
    go_ret
    exact ⟨by simp [beq_eq_false_iff_ne.1 f13, beq_eq_false_iff_ne.1 f15], B15.out⟩
#print axioms topBracket_any
end Go.Proofs.Ytgimfiffcalbfaa
