/- Walks: whether a part of a term is a case of another one, as the document says. -/
import Derived.Test.YthlgknglalcggabW93
namespace Go.Proofs.Ythlgknglalcggab
open Go.RowKit
set_option linter.unusedSimpArgs false
set_option linter.unusedVariables false
set_option maxRecDepth 8000

theorem four_cells {w w1 : World} {p1 p2 p3 p4 : Addr} {v1 v2 v3 v4 : Value} (hb : Below w.heap.size w w1) (h : w.cell? p1 = some v1 ∧ w.cell? p2 = some v2 ∧ w.cell? p3 = some v3 ∧ w.cell? p4 = some v4) :
    w1.cell? p1 = some v1 ∧ w1.cell? p2 = some v2 ∧ w1.cell? p3 = some v3 ∧ w1.cell? p4 = some v4 := ⟨cell_later hb h.1, cell_later hb h.2.1, cell_later hb h.2.2.1, cell_later hb h.2.2.2⟩

set_option maxHeartbeats 400000 in
theorem hasCaseR_any (t p : Tm) (tv pv : Value) (w : World) (X0 : Nat → Prop) (ht0 : TV w X0 tv t) (hp0 : TV w X0 pv p) (hsz : sizeL [t] ≤ 1000000) (hszp : sizeL [p] ≤ 1000000) :
    Calls Try.prog 17 #[tv, pv] w fun e w' => e = .returned (.bool (hcB t p)) ∧ Below w.heap.size w w' := by
  obtain ⟨X, hX, ht, hp⟩ : ∃ X : Nat → Prop, (∀ b, X b → b < w.heap.size) ∧ TV w X tv t ∧ TV w X pv p := ⟨fun b => X0 b ∧ b < w.heap.size, fun _ h => h.2, ht0.mono fun b h1 h2 => ⟨h1, h2⟩, hp0.mono fun b h1 h2 => ⟨h1, h2⟩⟩
  clear ht0 hp0
  obtain ⟨a, c, rfl, hs⟩ := ht
  obtain ⟨a2, c2, rfl, hs2⟩ := hp
  have HS := hide hs
  have HS2 := hide hs2
  clear hs hs2
  have HB2 : Hid (Below w.heap.size w ((w.alloc (.cells #[.string t.name, .slice a t.args.length c] 29)).alloc (.cells #[.string p.name, .slice a2 p.args.length c2] 29))) := below2 _ _
  have PB : Hid (Blk ((w.alloc (.cells #[.string t.name, .slice a t.args.length c] 29)).alloc (.cells #[.string p.name, .slice a2 p.args.length c2] 29)) (w.heap.size + 1) #[.string p.name, .slice a2 p.args.length c2] 29) := by
    have h := Blk.new (w.alloc (.cells #[.string t.name, .slice a t.args.length c] 29)) #[.string p.name, .slice a2 p.args.length c2] 29
    unfold Hid
    simpa using h
  go_enter Try.func17, Try.ntmps17
  go_wp2_with fail
  generalize (w.alloc (.cells #[.string t.name, .slice a t.args.length c] 29)).alloc (.cells #[.string p.name, .slice a2 p.args.length c2] 29) = w1 at *
  refine (knots_any t _ w1 X ⟨a, c, rfl, HS.out.later HB2.out⟩ hsz).mono ?_
  rintro e w2 ⟨v2, xs, rfl, hown, hrow, hb3⟩
  have hpos : 0 < sizeL [t] := by obtain ⟨s', l'⟩ := t; simp [sizeL]; omega
  obtain ⟨g, cap, rfl, hg, hg', hcel⟩ := owned_val hown hpos
  have HB3 := hide (HB2.out.trans (hb3.mono HB2.out.size))
  have PB3 := hide (PB.out.below hb3 PB.out.lt)
  have HROW : Hid (RowT w2 X (preL [t]) xs) := hrow.imp fun a l h => h.later hb3
  have HCEL := hide hcel
  have hpl := preL_length [t]
  have HRES : Hid (hcB t p = (preL [t]).any fun k => mtB p k) := rfl
  generalize preL [t] = ks at *
  have hks : ks.length ≤ 1000000 := by omega
  rw [← hpl]
  clear hown hrow hcel hb3 hpl hpos
  go_wp2_with fail
  go_loopw [6] (fun v wr => HcInv ks p w2 v wr) (fun v wr => ks.length - (intOf v).toNat)
  case atStart => exact ⟨0, Nat.zero_le _, rfl, by simp, Below.refl _ _⟩
  case round =>
    obtain ⟨k, hk, rfl, hT, hb⟩ := hrel
    have HT := hide hT
    have HB := hide hb
    clear hT
    by_cases hlt : k < ks.length
    · obtain ⟨x0, a', c', x1, hsl⟩ := HROW.out.get k hlt
      have d0 := cell_later hb (HCEL.out _ _ x0)
      have d1 := cell_later hb (HCEL.out _ _ x1)
      have b0 : wr.cell? ⟨w.heap.size + 1, 0, none⟩ = some (.string p.name) := (PB3.out.below hb PB3.out.lt).cell 0
      have b1 : wr.cell? ⟨w.heap.size + 1, 1, none⟩ = some (.slice a2 p.args.length c2) := (PB3.out.below hb PB3.out.lt).cell 1
      have HS0 := hide (And.intro b0 (And.intro b1 (And.intro d0 d1)))
      have MO := hide (matchOf_b p ks[k] (.agg #[.string p.name, .slice a2 p.args.length c2]) (.agg #[.string ks[k].name, .slice a' ks[k].args.length c']) wr.drew X (by exact ⟨_, _, rfl, ((HS2.out.later HB3.out).later hb).later (below_drewN (Below.refl _ _) 1)⟩) (by exact ⟨_, _, rfl, (hsl.later hb).later (below_drewN (Below.refl _ _) 1)⟩) hszp)
      have HTK := hide (hc_take (p := p) hlt)
      have HYS := hide (hc_yes (p := p) hlt)
      clear x0 x1 hsl hb
      generalize ks[k] = y at *
      go_wp2_with fail
      cases hm : mtB p y with
      | true =>
        rw [hm] at MO
        have HF := hide (HYS.out hm)
        go_region_held3 (fun w' => w'.cell? ⟨w.heap.size + 1, 0, none⟩ = some (.string p.name) ∧ w'.cell? ⟨w.heap.size + 1, 1, none⟩ = some (.slice a2 p.args.length c2) ∧ w'.cell? ⟨g, k * 2, none⟩ = some (.string y.name) ∧ w'.cell? ⟨g, k * 2 + 1, none⟩ = some (.slice a' y.args.length c')) (first | exact HS0.out | exact hS1 | go_keep)
          ((go_at_call 15; refine MO.out.mono ?_; rintro e w5 ⟨v5, rfl, hb5⟩; have hS1 := four_cells (w := wr.drew) hb5 HS0.out))
        have HB5 := hide ((HB.out.trans (below_drewN (Below.refl _ _) 1)).trans (hb5.mono (by have := HB.out.size; simp; omega)))
        clear hb5 hS1
        go_wp2_with fail
        go_ret
        exact ⟨ret_bool (by rw [HRES.out, HF.out]), HB3.out.trans (HB5.out.mono HB3.out.size)⟩
      | false =>
        rw [hm] at MO HTK
        go_region_held3 (fun w' => w'.cell? ⟨w.heap.size + 1, 0, none⟩ = some (.string p.name) ∧ w'.cell? ⟨w.heap.size + 1, 1, none⟩ = some (.slice a2 p.args.length c2) ∧ w'.cell? ⟨g, k * 2, none⟩ = some (.string y.name) ∧ w'.cell? ⟨g, k * 2 + 1, none⟩ = some (.slice a' y.args.length c')) (first | exact HS0.out | exact hS1 | go_keep)
          ((go_at_call 15; refine MO.out.mono ?_; rintro e w5 ⟨v5, rfl, hb5⟩; have hS1 := four_cells (w := wr.drew) hb5 HS0.out))
        have HB5 := hide ((HB.out.trans (below_drewN (Below.refl _ _) 1)).trans (hb5.mono (by have := HB.out.size; simp; omega)))
        clear hb5 hS1
        go_wp2_with fail
        go_roundw
        case rel => exact ⟨k + 1, by omega, by go_num, by rw [HTK.out, HT.out]; rfl, HB5.out⟩
        case measure => simp [intOf]; omega
    · have HF : Hid (false = hcB t p) := by
        unfold Hid
        rw [HRES.out, ← HT.out, List.take_of_length_le (by omega)]
      go_wp2_with fail
      go_ret
      exact ⟨ret_bool HF.out, HB3.out.trans (HB.out.mono HB3.out.size)⟩
#print axioms hasCaseR_any
end Go.Proofs.Ythlgknglalcggab
