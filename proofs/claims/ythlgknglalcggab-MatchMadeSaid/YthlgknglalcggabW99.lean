/- The law on matching: it answers true. -/
import Derived.Test.YthlgknglalcggabW98
import Derived.Test.YthlgknglalcggabW86
namespace Go.Proofs.Ythlgknglalcggab
open Go.RowKit
set_option linter.unusedSimpArgs false
set_option linter.unusedVariables false
set_option maxRecDepth 8000

theorem bv_nil (w : World) (X : Nat → Prop) : BV w X (.slice none 0 0) [] := ⟨none, 0, rfl, by simp, Or.inl rfl⟩

set_option maxHeartbeats 1000000 in
theorem matchSays_any (p t : Tm) (pv tv : Value) (w : World) (X0 : Nat → Prop) (hp0 : TV w X0 pv p) (ht0 : TV w X0 tv t) :
    Calls Try.prog 4 #[pv, tv] w fun e w' => e = .returned (.bool true) ∧ Below w.heap.size w w' := by
  obtain ⟨X, hX, hp, ht⟩ : ∃ X : Nat → Prop, (∀ b, X b → b < w.heap.size) ∧ TV w X pv p ∧ TV w X tv t := ⟨fun b => X0 b ∧ b < w.heap.size, fun _ h => h.2, hp0.mono fun b h1 h2 => ⟨h1, h2⟩, ht0.mono fun b h1 h2 => ⟨h1, h2⟩⟩
  clear hp0 ht0
  obtain ⟨a, c, rfl, hs⟩ := hp
  obtain ⟨a2, c2, rfl, hs2⟩ := ht
  have HP := hide (show TV w X (.agg #[.string p.name, .slice a p.args.length c]) p from ⟨a, c, rfl, hs⟩)
  have HT := hide (show TV w X (.agg #[.string t.name, .slice a2 t.args.length c2]) t from ⟨a2, c2, rfl, hs2⟩)
  clear hs hs2
  have HB2 : Hid (Below w.heap.size w ((w.alloc (.cells #[.string p.name, .slice a p.args.length c] 29)).alloc (.cells #[.string t.name, .slice a2 t.args.length c2] 29))) := below2 _ _
  have PA := hide ((Blk.new w #[.string p.name, .slice a p.args.length c] 29).alloc (.cells #[.string t.name, .slice a2 t.args.length c2] 29))
  have PB : Hid (Blk ((w.alloc (.cells #[.string p.name, .slice a p.args.length c] 29)).alloc (.cells #[.string t.name, .slice a2 t.args.length c2] 29)) (w.heap.size + 1) #[.string t.name, .slice a2 t.args.length c2] 29) := by
    have h := Blk.new (w.alloc (.cells #[.string p.name, .slice a p.args.length c] 29)) #[.string t.name, .slice a2 t.args.length c2] 29
    unfold Hid
    simpa using h
  go_enter Try.func4, Try.ntmps4
  go_wp2_with fail
  generalize (w.alloc (.cells #[.string p.name, .slice a p.args.length c] 29)).alloc (.cells #[.string t.name, .slice a2 t.args.length c2] 29) = w2 at *
  have C4 : Hid (∀ w', Below w2.heap.size w2 w' → (w'.cell? ⟨w.heap.size, 0, none⟩ = some (.string p.name) ∧ w'.cell? ⟨w.heap.size, 1, none⟩ = some (.slice a p.args.length c)) ∧ (w'.cell? ⟨w.heap.size + 1, 0, none⟩ = some (.string t.name) ∧ w'.cell? ⟨w.heap.size + 1, 1, none⟩ = some (.slice a2 t.args.length c2))) := fun w' hb =>
    ⟨⟨(PA.out.below hb PA.out.lt).cell 0, (PA.out.below hb PA.out.lt).cell 1⟩, ⟨(PB.out.below hb PB.out.lt).cell 0, (PB.out.below hb PB.out.lt).cell 1⟩⟩
  have HP2 := hide (HP.out.later HB2.out)
  have HT2 := hide (HT.out.later HB2.out)
  clear HP HT PA PB
  refine (huge_any p _ w2 X HP2.out).mono ?_
  rintro e w3 ⟨rfl, hb3⟩
  have HB3 := hide hb3
  obtain ⟨⟨a0, a1⟩, b0, b1⟩ := C4.out w3 hb3
  clear hb3
  by_cases h1 : 3000 < sizeL [p]
  · have e1 : decide (3000 < sizeL [p]) = true := by simpa using h1
    rw [e1]
    clear e1 h1
    go_wp2_with fail
    go_ret
    exact ⟨rfl, HB2.out.trans (HB3.out.mono HB2.out.size)⟩
  have e1 : decide (3000 < sizeL [p]) = false := by simpa using h1
  rw [e1]
  have HSP : Hid (sizeL [p] ≤ 1000000) := by unfold Hid; omega
  clear e1 h1
  go_wp2_with fail
  refine (huge_any t _ w3 X (HT2.out.later HB3.out)).mono ?_
  rintro e w4 ⟨rfl, hb4⟩
  have HB4 := hide (HB3.out.trans (hb4.mono HB3.out.size))
  clear hb4 a0 a1 b0 b1
  obtain ⟨⟨a0, a1⟩, b0, b1⟩ := C4.out w4 HB4.out
  by_cases h1 : 3000 < sizeL [t]
  · have e1 : decide (3000 < sizeL [t]) = true := by simpa using h1
    rw [e1]
    clear e1 h1
    go_wp2_with fail
    go_ret
    exact ⟨rfl, HB2.out.trans (HB4.out.mono HB2.out.size)⟩
  have e1 : decide (3000 < sizeL [t]) = false := by simpa using h1
  rw [e1]
  have HST : Hid (sizeL [t] ≤ 1000000) := by unfold Hid; omega
  clear e1 h1
  go_wp2_with fail
  refine (twoMay_any p t _ _ w4 X (HP2.out.later HB4.out) (HT2.out.later HB4.out)).mono ?_
  rintro e w5 ⟨rfl, hb5⟩
  have HB5 := hide (HB4.out.trans (hb5.mono HB4.out.size))
  clear hb5 a0 a1 b0 b1
  obtain ⟨⟨a0, a1⟩, b0, b1⟩ := C4.out w5 HB5.out
  by_cases hE : twoE p t = 0
  case neg =>
    have hE2 : (twoE p t == 0) = false := by simpa using hE
    have hdf : decide (twoE p t = 0) = false := decide_eq_false hE
    have HE := hide hE
    have HDF := hide hdf
    clear hE hdf
    go_wp2_with fail
    refine (match_any p t _ _ w5 X (HP2.out.later HB5.out) (HT2.out.later HB5.out)).mono ?_
    rintro e w6 ⟨hb6, hc6⟩
    have HB6 := hide (HB5.out.trans (hb6.mono HB5.out.size))
    clear hb6 a0 a1 b0 b1
    obtain ⟨⟨a0, a1⟩, b0, b1⟩ := C4.out w6 HB6.out
    rcases hc6 with ⟨_, rfl⟩ | ⟨h0, _⟩ | ⟨h0, _⟩
    · go_wp2_with fail
      refine (variant_any p t _ _ w6 X (HP2.out.later HB6.out) (HT2.out.later HB6.out)).mono ?_
      rintro e w7 ⟨rfl, hb7⟩
      have HB7 := hide (HB6.out.trans (hb7.mono HB6.out.size))
      clear hb7 a0 a1 b0 b1
      obtain ⟨⟨a0, a1⟩, b0, b1⟩ := C4.out w7 HB7.out
      rw [HDF.out, Bool.false_and]
      go_wp2_with fail
      refine (encompasses_any p t _ _ w7 X (HP2.out.later HB7.out) (HT2.out.later HB7.out)).mono ?_
      rintro e w8 ⟨rfl, hb8⟩
      have HB8 := hide (HB7.out.trans (hb8.mono HB7.out.size))
      clear hb8 a0 a1 b0 b1
      rw [HDF.out, Bool.false_and]
      go_wp2_with fail
      refine (sameBinds_any [] _ _ w8 (fun _ => True) (fun _ => True) (bv_nil _ _) (bv_nil _ _)).mono ?_
      rintro e w9 ⟨rfl, hb9⟩
      have HB9 := hide (HB8.out.trans (hb9.mono HB8.out.size))
      clear hb9
      go_wp2_with fail
      go_ret
      exact ⟨rfl, HB2.out.trans (HB9.out.mono HB2.out.size)⟩
    · exact absurd h0 HE.out
    · exact absurd h0 HE.out
  have HE := hide hE
  have HDT := hide (decide_eq_true hE)
  rw [hE]
  clear hE
  go_wp2_with fail
  refine (matchOf_any p t _ _ w5 X (HP2.out.later HB5.out) (HT2.out.later HB5.out) HSP.out).mono ?_
  rintro e w6 ⟨hb6, hc6⟩
  have HB6 := hide (HB5.out.trans (hb6.mono HB5.out.size))
  clear hb6 a0 a1 b0 b1
  obtain ⟨⟨a0, a1⟩, b0, b1⟩ := C4.out w6 HB6.out
  have VO := hide (fun w' (hb : Below w2.heap.size w2 w') => variantOf_any p t _ _ w' X (HP2.out.later hb) (HT2.out.later hb) HSP.out HST.out)
  have HC := hide (fun w' (hb : Below w2.heap.size w2 w') => hasCaseR_any p t _ _ w' X (HP2.out.later hb) (HT2.out.later hb) HSP.out HST.out)
  have VV := hide (fun w' (hb : Below w2.heap.size w2 w') => variant_any p t _ _ w' X (HP2.out.later hb) (HT2.out.later hb))
  have EE := hide (fun w' (hb : Below w2.heap.size w2 w') => encompasses_any p t _ _ w' X (HP2.out.later hb) (HT2.out.later hb))
  rw [HDT.out, HE.out] at VV EE
  simp only [Bool.true_and] at VV EE
  generalize (mtB p t && mtB t p) = vb at *
  generalize hcB p t = eb at *
  rcases hc6 with ⟨h0, rfl⟩ | ⟨h', v6, l6, h0, rfl, hbv6, hp6, hs6⟩
  · have H0 := hide h0
    clear h0
    go_wp2_with fail
    refine (VO.out w6 HB6.out).mono ?_
    rintro e w7 ⟨rfl, hb7⟩
    have HB7 := hide (HB6.out.trans (hb7.mono HB6.out.size))
    clear hb7 a0 a1 b0 b1
    obtain ⟨⟨a0, a1⟩, b0, b1⟩ := C4.out w7 HB7.out
    go_wp2_with fail
    refine (HC.out w7 HB7.out).mono ?_
    rintro e w8 ⟨rfl, hb8⟩
    have HB8 := hide (HB7.out.trans (hb8.mono HB7.out.size))
    clear hb8 a0 a1 b0 b1
    obtain ⟨⟨a0, a1⟩, b0, b1⟩ := C4.out w8 HB8.out
    go_wp2_with fail
    refine (match_any p t _ _ w8 X (HP2.out.later HB8.out) (HT2.out.later HB8.out)).mono ?_
    rintro e w9 ⟨hb9, hc9⟩
    have HB9 := hide (HB8.out.trans (hb9.mono HB8.out.size))
    clear hb9 a0 a1 b0 b1
    obtain ⟨⟨a0, a1⟩, b0, b1⟩ := C4.out w9 HB9.out
    rcases hc9 with ⟨h9, _⟩ | ⟨_, _, rfl⟩ | ⟨_, h9, _, _, h10, _⟩
    · exact absurd HE.out h9
    · go_wp2_with fail
      refine (VV.out w9 HB9.out).mono ?_
      rintro e w10 ⟨rfl, hb10⟩
      have HB10 := hide (HB9.out.trans (hb10.mono HB9.out.size))
      clear hb10 a0 a1 b0 b1
      obtain ⟨⟨a0, a1⟩, b0, b1⟩ := C4.out w10 HB10.out
      go_wp2_with fail
      refine (EE.out w10 HB10.out).mono ?_
      rintro e w11 ⟨rfl, hb11⟩
      have HB11 := hide (HB10.out.trans (hb11.mono HB10.out.size))
      clear hb11 a0 a1 b0 b1
      go_wp2_with fail
      refine (sameBinds_any [] _ _ w11 (fun _ => True) (fun _ => True) (bv_nil _ _) (bv_nil _ _)).mono ?_
      rintro e w12 ⟨rfl, hb12⟩
      have HB12 := hide (HB11.out.trans (hb12.mono HB11.out.size))
      clear hb12
      go_wp2_with fail
      go_ret
      exact ⟨by simp, HB2.out.trans (HB12.out.mono HB2.out.size)⟩
    · rw [H0.out] at h10; cases h10
  · have H0 := hide h0
    have HBV6 := hide hbv6
    have HP6 := hide hp6
    have HS6 := hide hs6
    clear h0 hbv6 hp6 hs6
    go_wp2_with fail
    refine (VO.out w6 HB6.out).mono ?_
    rintro e w7 ⟨rfl, hb7⟩
    have HB7 := hide (HB6.out.trans (hb7.mono HB6.out.size))
    have HBV7 := hide (HBV6.out.later hb7)
    clear hb7 a0 a1 b0 b1
    obtain ⟨⟨a0, a1⟩, b0, b1⟩ := C4.out w7 HB7.out
    go_wp2_with fail
    refine (HC.out w7 HB7.out).mono ?_
    rintro e w8 ⟨rfl, hb8⟩
    have HB8 := hide (HB7.out.trans (hb8.mono HB7.out.size))
    have HBV8 := hide (HBV7.out.later hb8)
    clear hb8 a0 a1 b0 b1
    obtain ⟨⟨a0, a1⟩, b0, b1⟩ := C4.out w8 HB8.out
    go_wp2_with fail
    refine (match_any p t _ _ w8 X (HP2.out.later HB8.out) (HT2.out.later HB8.out)).mono ?_
    rintro e w9 ⟨hb9, hc9⟩
    have HB9 := hide (HB8.out.trans (hb9.mono HB8.out.size))
    have HBV9 := hide (HBV8.out.later hb9)
    clear hb9 a0 a1 b0 b1
    obtain ⟨⟨a0, a1⟩, b0, b1⟩ := C4.out w9 HB9.out
    rcases hc9 with ⟨h9, _⟩ | ⟨_, h9, _⟩ | ⟨_, h'', v9, l9, h10, rfl, hbv9, hp9, hs9⟩
    · exact absurd HE.out h9
    · rw [H0.out] at h9; cases h9
    · have el : l9 = l6 := by
        rw [H0.out] at h10
        cases h10
        have hap := (mtT_apart H0.out List.Pairwise.nil).1
        exact sortedB_unique (hp9.trans HP6.out.symm) hs9 (sortedB_of (hap.perm HP6.out) HS6.out)
      subst el
      have HX9 := hide hbv9
      clear hbv9 hp9 hs9 h10
      go_wp2_with fail
      refine (VV.out w9 HB9.out).mono ?_
      rintro e w10 ⟨rfl, hb10⟩
      have HB10 := hide (HB9.out.trans (hb10.mono HB9.out.size))
      have HBV10 := hide (HBV9.out.later hb10)
      have HX10 := hide (HX9.out.later hb10)
      clear hb10 a0 a1 b0 b1
      obtain ⟨⟨a0, a1⟩, b0, b1⟩ := C4.out w10 HB10.out
      go_wp2_with fail
      refine (EE.out w10 HB10.out).mono ?_
      rintro e w11 ⟨rfl, hb11⟩
      have HB11 := hide (HB10.out.trans (hb11.mono HB10.out.size))
      have HBV11 := hide (HBV10.out.later hb11)
      have HX11 := hide (HX10.out.later hb11)
      clear hb11 a0 a1 b0 b1
      go_wp2_with fail
      refine (sameBinds_any l9 _ _ w11 _ _ HX11.out HBV11.out).mono ?_
      rintro e w12 ⟨rfl, hb12⟩
      have HB12 := hide (HB11.out.trans (hb12.mono HB11.out.size))
      clear hb12
      go_wp2_with fail
      go_ret
      exact ⟨by simp, HB2.out.trans (HB12.out.mono HB2.out.size)⟩
#print axioms matchSays_any
end Go.Proofs.Ythlgknglalcggab
