/- The law on doing one behind the other: it answers true. -/
import Derived.Test.YtkfppicbningaaaTcP
import Derived.Test.YtkfppicbningaaaW86
import Derived.Test.YtkfppicbningaaaW90
namespace Go.Proofs.Ytkfppicbningaaa
open Go.RowKit
set_option linter.unusedSimpArgs false
set_option linter.unusedVariables false
set_option maxRecDepth 8000

theorem then_good {k1 m1 k2 m2 : Nat} {ls rs : List Bd} (u v : Value) (w : World) (hu : BV w (fun _ => True) u ls) (hv : BV w (fun _ => True) v rs) (h1 : Gd k1 m1 ls) (h2 : Gd k2 m2 rs) (hk1 : k1 ≤ 40) (hk2 : k2 ≤ 40) (hm1 : m1 ≤ 200) (hm2 : m2 ≤ 200) (p2 : 1 ≤ m2) (hm : m1 * m2 ≤ 2000) :
    Calls Try.prog 10 #[u, v] w fun e w' => ∃ v' l, e = .returned (.tuple #[v', .int .i64 0]) ∧ BV w' (fun _ => True) v' l ∧ IsThen ls rs l ∧ Below w.heap.size w w' := by
  have E1 := h1.E hk1 hm1
  have E2 := h2.E hk2 hm2
  refine (then_any ls rs u v w _ hu hv).mono ?_
  rintro e w' ⟨hb, ⟨h, _⟩ | ⟨_, h, _⟩ | ⟨_, _, h, _⟩ | ⟨_, _, _, v', l, rfl, hv', hp, hs⟩⟩
  · exact absurd E1 h
  · exact absurd E2 h
  · rw [fullB_no fun d hd => ?_] at h
    · cases h
    · obtain ⟨_, g2, g3⟩ := h1.2.2 d hd
      rw [fT_onT E2 _ (mayE_mk g2 (by omega))]
      have h3 := onT_size p2 (fun d hd => (h2.2.2 d hd).2.2) d.t
      have h4 := Nat.mul_le_mul_right m2 g3
      omega
  · exact ⟨v', l, rfl, hv'.mono (fun _ _ _ => trivial), ⟨hp, hs⟩, hb⟩
theorem apply_good {k m : Nat} {ls : List Bd} {t : Tm} (u : Value) (a : Option Addr) (c : Nat) (w : World) (hu : BV w (fun _ => True) u ls) (ht : Sl w (fun _ => True) a t.args) (h1 : Gd k m ls) (hk : k ≤ 40) (hm : m ≤ 200) (p : 1 ≤ m) (he : errL [t] = 0) (hs : sizeL [t] ≤ 200) (hp : sizeL [t] * m ≤ 2000) :
    Calls Try.prog 11 #[u, .agg #[.string t.name, .slice a t.args.length c]] w fun e w' => ∃ a' c', e = .returned (.tuple #[.agg #[.string (onT ls t).name, .slice a' (onT ls t).args.length c'], .int .i64 0]) ∧ Sl w' (fun _ => True) a' (onT ls t).args ∧ Below w.heap.size w w' := by
  have E1 := h1.E hk hm
  have hmt := mayE_mk he hs
  have hz := onT_size p (fun d hd => (h1.2.2 d hd).2.2) t
  refine (apply_on ls t _ _ w (fun _ => True) hu ⟨_, _, rfl, ht⟩).mono ?_
  rintro e w' ⟨hb, ⟨h, _⟩ | ⟨_, h, _⟩ | ⟨_, _, ⟨_, a', c', rfl, hs'⟩ | ⟨h, _⟩⟩⟩
  · exact absurd E1 h
  · exact absurd hmt h
  · rw [fT_onT E1 t hmt] at hs' ⊢
    exact ⟨a', c', rfl, hs'.mono fun _ _ _ => trivial, hb⟩
  · rw [fT_onT E1 t hmt] at h
    omega
theorem bv_one (w : World) (B : Nat) (n s : ByteArray) (T : Nat) (h : Blk w B #[.string n, .string s, .slice none 0 0] T) : BV w (fun _ => True) (.slice (some ⟨B, 0, none⟩) 1 1) [⟨n, ⟨s, []⟩⟩] := by
  refine ⟨some ⟨B, 0, none⟩, 1, rfl, by simp, Or.inr ⟨B, 0, rfl, trivial, fun i hi => ?_⟩⟩
  have e : i = 0 := by simp at hi; omega
  subst e
  exact ⟨h.cell 0, h.cell 1, none, 0, h.cell 2, by simp, Or.inl rfl⟩

set_option maxHeartbeats 3000000 in
theorem puts_any (w : World) : Calls Try.prog 15 #[] w fun e w' => e = .returned (.bool true) ∧ Below w.heap.size w w' := by
  go_enter Try.func15, Try.ntmps15
  go_wp2_with fail
  refine (leaf_any _ _).mono ?_
  rintro e w1 ⟨rfl, hb1⟩
  have HB1 := hide hb1
  clear hb1
  go_wp2_with fail
  have hbA : Below w1.heap.size w1 (w1.alloc (.cells #[.string ⟨#[88]⟩, .string ⟨#[97]⟩, .slice none 0 0] 50)) := (Below.refl _ _).alloc (Nat.le_refl _) _
  have V2 := hide (bv_one _ _ _ _ _ (Blk.new w1 #[.string ⟨#[88]⟩, .string ⟨#[97]⟩, .slice none 0 0] 50))
  have HB2 := hide (HB1.out.trans (hbA.mono HB1.out.size))
  clear hbA
  generalize w1.alloc (.cells #[.string ⟨#[88]⟩, .string ⟨#[97]⟩, .slice none 0 0] 50) = w2 at *
  refine (leaf_any _ _).mono ?_
  rintro e w3 ⟨rfl, hb3⟩
  have V3 := hide (V2.out.later hb3)
  have HB3 := hide (HB2.out.trans (hb3.mono HB2.out.size))
  clear hb3
  have G : Gd 1 1 [⟨⟨#[88]⟩, ⟨⟨#[97]⟩, []⟩⟩] := by
    refine ⟨by simp [SortedB], by simp, fun d hd => ?_⟩
    have e : d = ⟨⟨#[88]⟩, ⟨⟨#[97]⟩, []⟩⟩ := by simpa using hd
    subst e
    exact ⟨by decide, err_leaf (by decide), by simp [sizeL]⟩
  have AP : Hid (Calls Try.prog 11 #[.slice (some ⟨w1.heap.size, 0, none⟩) 1 1, .agg #[.string ⟨#[88]⟩, .slice none 0 0]] w3 fun e w'' => ∃ a' c', e = .returned (.tuple #[.agg #[.string ⟨#[97]⟩, .slice a' 0 c'], .int .i64 0]) ∧ Below w3.heap.size w3 w'') := by
    refine (apply_good (t := ⟨⟨#[88]⟩, []⟩) _ none 0 _ V3.out ⟨by simp, Or.inl rfl⟩ G (by decide) (by decide) (by decide) (err_leaf (by decide)) (by simp [sizeL]) (by simp [sizeL])).mono ?_
    rintro e w' ⟨a', c', rfl, _, hb⟩
    have e2 : onT [⟨⟨#[88]⟩, ⟨⟨#[97]⟩, []⟩⟩] ⟨⟨#[88]⟩, []⟩ = ⟨⟨#[97]⟩, []⟩ := by rw [onT_leaf]; simp [forT]
    rw [e2]
    exact ⟨a', c', rfl, hb⟩
  clear G
  go_wp2_with fail
  refine AP.out.mono ?_
  rintro e w4 ⟨a4, c4, rfl, hb4⟩
  have hbA : Below w4.heap.size w4 (w4.alloc (.cells #[.string ⟨#[97]⟩, .slice a4 0 c4] 28)) := (Below.refl _ _).alloc (Nat.le_refl _) _
  have x0 := (Blk.new w4 #[.string ⟨#[97]⟩, .slice a4 0 c4] 28).cell 0
  have hb5 := hb4.trans (hbA.mono hb4.size)
  have HB5 := hide (HB3.out.trans (hb5.mono HB3.out.size))
  clear hbA hb4 hb5
  go_wp2_with fail
  go_ret
  exact ⟨rfl, HB5.out⟩
#print axioms puts_any

set_option maxHeartbeats 3000000 in
theorem topCompose_any (PU : Hid (∀ w, Calls Try.prog 15 #[] w fun e w' => e = .returned (.bool true) ∧ Below w.heap.size w w')) (zs : List Int) (hr : ∀ z ∈ zs, Rng z) (y : Int) (hy : Rng y) (u : Value) (w : World) (X : Nat → Prop) (hu : PV w X u zs) :
    Calls Try.prog 3 #[u, .int .i64 y] w fun e w' => e = .returned (.bool true) ∧ Below w.heap.size w w' := by
  have HU := hide hu
  obtain ⟨a, c, rfl, hlc, hu2⟩ := hu
  clear hu2
  by_cases h256 : 256 < zs.length
  · go_enter Try.func3, Try.ntmps3
    go_wp2_with fail
    go_ret
    exact ⟨rfl, Below.refl _ _⟩
  · go_enter Try.func3, Try.ntmps3
    go_wp2_with fail
    refine (pick_any _ 7 (by decide) (by decide) hy _).mono ?_
    rintro e w1 ⟨k1, rfl, hk1, rfl⟩
    have BF : Hid (∀ (i : Nat) (w' : World), i ≤ 80 → Below w1.heap.size w1 w' → Calls Try.prog 8 #[.slice a zs.length c, .int .i64 (i : Int), .int .i64 (k1 : Int), .int .i64 4] w' fun e w'' => ∃ v ls, e = .returned v ∧ BV w'' (fun _ => True) v ls ∧ Gd 4 11 ls ∧ Below w'.heap.size w' w'') := fun i w' hi hb => by
      refine (bindsFrom_any 4 (by decide) (by decide) zs hr (by omega) k1 i _ w' X (HU.out.later hb) (by omega) (by unfold top; split <;> omega)).mono ?_
      rintro e w5 ⟨v, ls, rfl, hv, hfo, hsz, hb5⟩
      have ht : top k1 ≤ 11 := by unfold top; split <;> omega
      exact ⟨v, ls, rfl, hv.mono fun _ _ _ => trivial, gd_four (by decide) hfo fun d hd => ⟨by have := (hsz d hd).1; omega, (hsz d hd).2⟩, hb5⟩
    go_wp2_with fail
    refine (BF.out 0 _ (by omega) (Below.refl _ _)).mono ?_
    rintro e w2 ⟨vs, s, rfl, hvs, gs, hb2⟩
    have VS := hide hvs
    have GS := hide gs
    have HB2 := hide hb2
    clear hvs gs hb2
    go_wp2_with fail
    refine (BF.out 40 _ (by omega) HB2.out).mono ?_
    rintro e w3 ⟨vr, r, rfl, hvr, gr, hb3⟩
    have VR := hide hvr
    have GR := hide gr
    have VS3 := hide (VS.out.later hb3)
    have HB3 := hide (HB2.out.trans (hb3.mono HB2.out.size))
    clear hvr gr hb3
    go_wp2_with fail
    refine (BF.out 80 _ (by omega) HB3.out).mono ?_
    rintro e w4 ⟨vq, q, rfl, hvq, gq, hb4⟩
    have VQ := hide hvq
    have GQ := hide gq
    have VS4 := hide (VS3.out.later hb4)
    have VR4 := hide (VR.out.later hb4)
    have HB4 := hide (HB3.out.trans (hb4.mono HB3.out.size))
    clear hvq gq hb4 VS VS3 VR
    go_wp2_with fail
    refine (termOf_any 4 (by decide) (by decide) zs hr (by omega) 7 120 _ _ X (HU.out.later HB4.out) (by omega) (by unfold top; split <;> omega)).mono ?_
    rintro e w5 ⟨t, a5, c5, rfl, hs5, hz5, hb5, he5⟩
    have htop : sizeL [t] ≤ 13 := by
      have : top 7 ≤ 13 := by unfold top; split <;> omega
      omega
    have hbA : Below w5.heap.size w5 (w5.alloc (.cells #[.string t.name, .slice a5 t.args.length c5] 28)) := (Below.refl _ _).alloc (Nat.le_refl _) _
    have hb56 := hb5.trans (hbA.mono hb5.size)
    have P6 := hide (Blk.new w5 #[.string t.name, .slice a5 t.args.length c5] 28)
    have B6 := hide (HB4.out.trans (hb56.mono HB4.out.size))
    have ST := hide ((hs5.later hbA).mono (Y := fun _ => True) fun _ _ _ => trivial)
    have VSA : Hid (∀ w', Below (w5.alloc (.cells #[.string t.name, .slice a5 t.args.length c5] 28)).heap.size (w5.alloc (.cells #[.string t.name, .slice a5 t.args.length c5] 28)) w' → BV w' (fun _ => True) vs s) := fun w' hb => (VS4.out.later hb56).later hb
    have VRA : Hid (∀ w', Below (w5.alloc (.cells #[.string t.name, .slice a5 t.args.length c5] 28)).heap.size (w5.alloc (.cells #[.string t.name, .slice a5 t.args.length c5] 28)) w' → BV w' (fun _ => True) vr r) := fun w' hb => (VR4.out.later hb56).later hb
    have VQA : Hid (∀ w', Below (w5.alloc (.cells #[.string t.name, .slice a5 t.args.length c5] 28)).heap.size (w5.alloc (.cells #[.string t.name, .slice a5 t.args.length c5] 28)) w' → BV w' (fun _ => True) vq q) := fun w' hb => (VQ.out.later hb56).later hb
    clear hb5 hs5 hbA hb56 VS4 VR4 VQ HB2 HB3 HB4 BF
    go_wp2_with fail
    generalize w5.alloc (.cells #[.string t.name, .slice a5 t.args.length c5] 28) = w6 at *
    generalize w5.heap.size = P at *
    have hT := hide he5
    clear he5
    refine (then_good _ _ _ (VSA.out _ (Below.refl _ _)) (VRA.out _ (Below.refl _ _)) GS.out GR.out (by decide) (by decide) (by decide) (by decide) (by decide) (by decide)).mono ?_
    rintro e w7 ⟨v7, sr, rfl, hv7, hi7, hb7⟩
    have HB7 := hide hb7
    have I1 := hide hi7
    have GSR : Hid (Gd 8 121 sr) := hi7.gd GS.out GR.out (by decide) (by decide) (by decide) (by decide) (by decide) (by decide)
    have V7 := hide hv7
    clear hb7 hi7 hv7
    go_wp2_with fail
    refine (then_good _ _ _ (VRA.out _ HB7.out) (VQA.out _ HB7.out) GR.out GQ.out (by decide) (by decide) (by decide) (by decide) (by decide) (by decide)).mono ?_
    rintro e w8 ⟨v8, rq, rfl, hv8, hi8, hb8⟩
    have V7A := hide (V7.out.later hb8)
    have HB8 := hide (HB7.out.trans (hb8.mono HB7.out.size))
    have I2 := hide hi8
    have GRQ : Hid (Gd 8 121 rq) := hi8.gd GR.out GQ.out (by decide) (by decide) (by decide) (by decide) (by decide) (by decide)
    have V8 := hide hv8
    have VS8 : Hid (∀ w', Below w8.heap.size w8 w' → BV w' (fun _ => True) vs s) := fun w' hb => VSA.out _ (HB8.out.trans (hb.mono HB8.out.size))
    have VR8 : Hid (∀ w', Below w8.heap.size w8 w' → BV w' (fun _ => True) vr r) := fun w' hb => VRA.out _ (HB8.out.trans (hb.mono HB8.out.size))
    have VQ8 : Hid (∀ w', Below w8.heap.size w8 w' → BV w' (fun _ => True) vq q) := fun w' hb => VQA.out _ (HB8.out.trans (hb.mono HB8.out.size))
    have V78 : Hid (∀ w', Below w8.heap.size w8 w' → BV w' (fun _ => True) v7 sr) := fun w' hb => V7A.out.later hb
    have V88 : Hid (∀ w', Below w8.heap.size w8 w' → BV w' (fun _ => True) v8 rq) := fun w' hb => V8.out.later hb
    have ST8 : Hid (∀ w', Below w8.heap.size w8 w' → Sl w' (fun _ => True) a5 t.args) := fun w' hb => ST.out.later (HB8.out.trans (hb.mono HB8.out.size))
    have KP8 : Hid (∀ w', Below w8.heap.size w8 w' → w'.cell? ⟨P, 0, none⟩ = some (.string t.name) ∧ w'.cell? ⟨P, 1, none⟩ = some (.slice a5 t.args.length c5)) := fun w' hb => ⟨cell_later (HB8.out.trans (hb.mono HB8.out.size)) (P6.out.cell 0), cell_later (HB8.out.trans (hb.mono HB8.out.size)) (P6.out.cell 1)⟩
    have BW8 := hide (B6.out.trans (HB8.out.mono B6.out.size))
    clear hb8 hi8 hv8 V7 HB7 VSA VRA VQA V7A V8 ST P6 B6 HB8
    obtain ⟨ta, hta⟩ : ∃ ta, ta = onT s t := ⟨_, rfl⟩
    obtain ⟨tb, htb⟩ : ∃ tb, tb = onT r ta := ⟨_, rfl⟩
    have E1 := GS.out.E (by decide) (by decide)
    have E2 := GR.out.E (by decide) (by decide)
    have EA : errL [ta] = 0 := by rw [hta]; exact errL_onT E1 hT.out
    have ZA : sizeL [ta] ≤ 143 := by
      have h3 := onT_size (M := 11) (by decide) (fun d hd => (GS.out.2.2 d hd).2.2) t
      rw [hta]
      omega
    have hsr : onT sr t = tb := by
      rw [htb, hta]
      exact comp_T E1 E2 (GSR.out.E (by decide) (by decide)) (I1.out.val GS.out GR.out (by decide) (by decide) (by decide) (by decide) (by decide) (by decide)) hT.out
    have AP1 : Hid (∀ w', Below w8.heap.size w8 w' → Calls Try.prog 11 #[vs, .agg #[.string t.name, .slice a5 t.args.length c5]] w' fun e w'' => ∃ a' c', e = .returned (.tuple #[.agg #[.string ta.name, .slice a' ta.args.length c'], .int .i64 0]) ∧ Sl w'' (fun _ => True) a' ta.args ∧ Below w'.heap.size w' w'') := fun w' hb => by
      rw [hta]
      exact apply_good _ _ _ _ (VS8.out _ hb) (ST8.out _ hb) GS.out (by decide) (by decide) (by decide) hT.out (by omega) (by omega)
    have AP2 : Hid (∀ w', Below w8.heap.size w8 w' → Calls Try.prog 11 #[v7, .agg #[.string t.name, .slice a5 t.args.length c5]] w' fun e w'' => ∃ a' c', e = .returned (.tuple #[.agg #[.string tb.name, .slice a' tb.args.length c'], .int .i64 0]) ∧ Sl w'' (fun _ => True) a' tb.args ∧ Below w'.heap.size w' w'') := fun w' hb => by
      rw [← hsr]
      exact apply_good _ _ _ _ (V78.out _ hb) (ST8.out _ hb) GSR.out (by decide) (by decide) (by decide) hT.out (by omega) (by omega)
    have AP3 : Hid (∀ a9 c9 w', Below w8.heap.size w8 w' → Sl w' (fun _ => True) a9 ta.args → Calls Try.prog 11 #[vr, .agg #[.string ta.name, .slice a9 ta.args.length c9]] w' fun e w'' => ∃ a' c', e = .returned (.tuple #[.agg #[.string tb.name, .slice a' tb.args.length c'], .int .i64 0]) ∧ Sl w'' (fun _ => True) a' tb.args ∧ Below w'.heap.size w' w'') := fun a9 c9 w' hb hs => by
      rw [htb]
      exact apply_good _ _ _ _ (VR8.out _ hb) hs GR.out (by decide) (by decide) (by decide) EA (by omega) (by omega)
    obtain ⟨p0, p1⟩ := KP8.out _ (Below.refl _ _)
    clear hta htb E1 E2 EA ZA hsr
    go_wp2_with fail
    refine (AP1.out _ (Below.refl _ _)).mono ?_
    rintro e w9 ⟨a9, c9, rfl, hs9, hb9⟩
    have hbA : Below w9.heap.size w9 (w9.alloc (.cells #[.string ta.name, .slice a9 ta.args.length c9] 28)) := (Below.refl _ _).alloc (Nat.le_refl _) _
    have A10 := hide (Blk.new w9 #[.string ta.name, .slice a9 ta.args.length c9] 28)
    have S10 := hide (hs9.later hbA)
    have D10 := hide (hb9.trans (hbA.mono hb9.size))
    clear hbA hs9 hb9 p0 p1
    obtain ⟨p0, p1⟩ := KP8.out _ D10.out
    go_wp2_with fail
    generalize w9.alloc (.cells #[.string ta.name, .slice a9 ta.args.length c9] 28) = w10 at *
    generalize w9.heap.size = A at *
    refine (AP2.out _ D10.out).mono ?_
    rintro e w11 ⟨a11, c11, rfl, hs11, hb11⟩
    have hbA : Below w11.heap.size w11 (w11.alloc (.cells #[.string tb.name, .slice a11 tb.args.length c11] 28)) := (Below.refl _ _).alloc (Nat.le_refl _) _
    have B12 := hide (Blk.new w11 #[.string tb.name, .slice a11 tb.args.length c11] 28)
    have S12 := hide (hs11.later hbA)
    have hbb := hb11.trans (hbA.mono hb11.size)
    have S12a := hide (S10.out.later hbb)
    have D12 := hide (D10.out.trans (hbb.mono D10.out.size))
    have q0 := cell_later hbb (A10.out.cell 0)
    have q1 := cell_later hbb (A10.out.cell 1)
    clear hbA hs11 hb11 hbb p0 p1 S10
    go_wp2_with fail
    generalize w11.alloc (.cells #[.string tb.name, .slice a11 tb.args.length c11] 28) = w12 at *
    generalize w11.heap.size = B at *
    refine (AP3.out _ _ _ D12.out S12a.out).mono ?_
    rintro e w13 ⟨a13, c13, rfl, hs13, hb13⟩
    have hbA : Below w13.heap.size w13 (w13.alloc (.cells #[.string tb.name, .slice a13 tb.args.length c13] 28)) := (Below.refl _ _).alloc (Nat.le_refl _) _
    have C14 := hide (Blk.new w13 #[.string tb.name, .slice a13 tb.args.length c13] 28)
    have S14 := hide (hs13.later hbA)
    have hbb := hb13.trans (hbA.mono hb13.size)
    have S14b := hide (S12.out.later hbb)
    have D14 := hide (D12.out.trans (hbb.mono D12.out.size))
    clear q0 q1
    have q0 := cell_later hbb (B12.out.cell 0)
    have q1 := cell_later hbb (B12.out.cell 1)
    have c0 := C14.out.cell 0
    have c1 := C14.out.cell 1
    clear hbA hs13 hb13 hbb S12 S12a
    go_wp2_with fail
    generalize w13.alloc (.cells #[.string tb.name, .slice a13 tb.args.length c13] 28) = w14 at *
    generalize w13.heap.size = C at *
    refine (sameR_all tb tb _ _ _ _ _ ⟨_, _, rfl, S14b.out⟩ ⟨_, _, rfl, S14.out⟩).mono ?_
    rintro e w15 ⟨rfl, hb15⟩
    rw [sameB_refl]
    have D15 := hide (D14.out.trans (hb15.mono D14.out.size))
    clear hb15 q0 q1 c0 c1
    go_wp2_with fail
    refine (then_good _ _ _ (V78.out _ D15.out) (VQ8.out _ D15.out) GSR.out GQ.out (by decide) (by decide) (by decide) (by decide) (by decide) (by decide)).mono ?_
    rintro e w16 ⟨vx, x, rfl, hvx, hix, hb16⟩
    have D16 := hide (D15.out.trans (hb16.mono D15.out.size))
    have I3 := hide hix
    have VX := hide hvx
    clear hb16 hix hvx
    go_wp2_with fail
    refine (then_good _ _ _ (VS8.out _ D16.out) (V88.out _ D16.out) GS.out GRQ.out (by decide) (by decide) (by decide) (by decide) (by decide) (by decide)).mono ?_
    rintro e w17 ⟨vy, yl, rfl, hvy, hiy, hb17⟩
    have hxy : x = yl := then_assoc GS.out GR.out GQ.out I1.out I2.out I3.out hiy
    subst hxy
    have D17 := hide (D16.out.trans (hb17.mono D16.out.size))
    have VX17 := hide (VX.out.later hb17)
    have VY := hide hvy
    clear hb17 hiy hvy
    go_wp2_with fail
    refine (sameBinds_any x _ _ _ _ _ VX17.out VY.out).mono ?_
    rintro e w18 ⟨rfl, hb18⟩
    have D18 := hide (D17.out.trans (hb18.mono D17.out.size))
    clear hb18
    go_wp2_with fail
    refine (PU.out _).mono ?_
    rintro e w19 ⟨rfl, hb19⟩
    have BWF := hide (BW8.out.trans ((D18.out.trans (hb19.mono D18.out.size)).mono BW8.out.size))
    clear hb19
    go_wp2_with fail
    go_ret
    exact ⟨rfl, BWF.out⟩
#print axioms topCompose_any
end Go.Proofs.Ytkfppicbningaaa
