/- The law on putting a term at a place: it answers true. -/
import Derived.Test.YthlgknglalcggaaW14
namespace Go.Proofs.Ythlgknglalcggaa
open Go.RowKit
set_option linter.unusedSimpArgs false
set_option linter.unusedVariables false
set_option maxRecDepth 8000

theorem blks2 (w : World) (c1 c2 : Array Value) (T : Nat) :
    Blk ((w.alloc (.cells c1 T)).alloc (.cells c2 T)) w.heap.size c1 T ∧ Blk ((w.alloc (.cells c1 T)).alloc (.cells c2 T)) (w.heap.size + 1) c2 T := by
  refine ⟨((Blk.new w c1 T).alloc _), ?_⟩
  have := (Blk.new (w.alloc (.cells c1 T)) c2 T)
  simp at this; exact this

theorem putE_bad {t x : Tm} {zs : List Int} (h : twoE t x ≠ 0) : putE t zs x = twoE t x := by unfold putE; rw [if_neg h]
theorem putE_none {t x : Tm} {zs : List Int} (h : twoE t x = 0) (h2 : atT t zs = none) : putE t zs x = 10 := by simp [putE, h, h2]
theorem putE_some {t x y : Tm} {zs : List Int} (h : twoE t x = 0) (h2 : atT t zs = some y) : putE t zs x = 0 := by simp [putE, h, h2]
theorem two_zero {t x : Tm} (h : twoE t x = 0) : mayE t = 0 ∧ mayE x = 0 := by
  unfold twoE at h
  split at h
  · exact ⟨by assumption, h⟩
  · exact absurd h (by assumption)

set_option maxHeartbeats 1000000 in
theorem termPuts_any (t x : Tm) (zs : List Int) (v p u : Value) (w : World) (X0 : Nat → Prop) (hv0 : TV w X0 v t) (hp0 : PV w X0 p zs) (hu0 : TV w X0 u x) :
    Calls Try.prog 4 #[v, p, u] w fun e w' => e = .returned (.bool true) ∧ Below w.heap.size w w' := by
  obtain ⟨X, hX, hv, hp, hu⟩ : ∃ X : Nat → Prop, (∀ b, X b → b < w.heap.size) ∧ TV w X v t ∧ PV w X p zs ∧ TV w X u x := ⟨fun b => X0 b ∧ b < w.heap.size, fun _ h => h.2, hv0.mono fun b h1 h2 => ⟨h1, h2⟩, hp0.mono fun b h1 h2 => ⟨h1, h2⟩, hu0.mono fun b h1 h2 => ⟨h1, h2⟩⟩
  clear hv0 hp0 hu0
  obtain ⟨a, c, rfl, hs⟩ := hv
  obtain ⟨ax, cx, rfl, hsx⟩ := hu
  obtain ⟨pa, pc, rfl, hpr⟩ := hp
  have HV := hide (show TV w X (.agg #[.string t.name, .slice a t.args.length c]) t from ⟨a, c, rfl, hs⟩)
  have HU := hide (show TV w X (.agg #[.string x.name, .slice ax x.args.length cx]) x from ⟨ax, cx, rfl, hsx⟩)
  have HP := hide (show PV w X (.slice pa zs.length pc) zs from ⟨pa, pc, rfl, hpr⟩)
  clear hs hsx hpr
  go_enter Try.func4, Try.ntmps4
  go_wp2_with fail
  refine (huge_any t _ _ X (by exact HV.out.later (below2 _ _))).mono ?_
  rintro e w1 ⟨rfl, hb1⟩
  obtain ⟨k1, k2⟩ := blks2 w #[.string t.name, .slice a t.args.length c] #[.string x.name, .slice ax x.args.length cx] 24
  have B1 := hide (k1.below hb1 k1.lt)
  have B2 := hide (k2.below hb1 k2.lt)
  have HW1 := hide ((below2 (w := w) (.cells #[.string t.name, .slice a t.args.length c] 24) (.cells #[.string x.name, .slice ax x.args.length cx] 24)).trans (hb1.mono (by simp; omega)))
  clear k1 k2 hb1
  by_cases h1 : 3000 < sizeL [t]
  · have e1 : decide (3000 < sizeL [t]) = true := by simpa using h1
    rw [e1]
    clear e1 h1
    go_wp2_with fail
    go_ret
    exact ⟨rfl, HW1.out⟩
  · have e1 : decide (3000 < sizeL [t]) = false := by simpa using h1
    rw [e1]
    clear e1 h1
    have x0 : w1.cell? ⟨w.heap.size + 1, 0, none⟩ = some (.string x.name) := B2.out.cell 0
    have x1 : w1.cell? ⟨w.heap.size + 1, 1, none⟩ = some (.slice ax x.args.length cx) := B2.out.cell 1
    go_wp2_with fail
    refine (huge_any x _ _ X (by exact HU.out.later HW1.out)).mono ?_
    rintro e w2 ⟨rfl, hb2⟩
    have C1 := hide (B1.out.below hb2 B1.out.lt)
    have C2 := hide (B2.out.below hb2 B2.out.lt)
    have HW2 := hide (HW1.out.trans (hb2.mono HW1.out.size))
    clear hb2 x0 x1
    by_cases h2 : 3000 < sizeL [x]
    · have e1 : decide (3000 < sizeL [x]) = true := by simpa using h2
      rw [e1]
      clear e1 h2
      go_wp2_with fail
      go_ret
      exact ⟨rfl, HW2.out⟩
    · have e1 : decide (3000 < sizeL [x]) = false := by simpa using h2
      rw [e1]
      clear e1 h2
      by_cases h3 : 100 < zs.length
      · go_wp2_with fail
        go_ret
        exact ⟨rfl, HW2.out⟩
      · have x0 : w2.cell? ⟨w.heap.size, 0, none⟩ = some (.string t.name) := C1.out.cell 0
        have x1 : w2.cell? ⟨w.heap.size, 1, none⟩ = some (.slice a t.args.length c) := C1.out.cell 1
        have x2 : w2.cell? ⟨w.heap.size + 1, 0, none⟩ = some (.string x.name) := C2.out.cell 0
        have x3 : w2.cell? ⟨w.heap.size + 1, 1, none⟩ = some (.slice ax x.args.length cx) := C2.out.cell 1
        go_wp2_with fail
        refine (twoMay_any t x _ _ _ X (by exact HV.out.later HW2.out) (by exact HU.out.later HW2.out)).mono ?_
        rintro e w3 ⟨rfl, hb3⟩
        have D1 := hide (C1.out.below hb3 C1.out.lt)
        have D2 := hide (C2.out.below hb3 C2.out.lt)
        have HW3 := hide (HW2.out.trans (hb3.mono HW2.out.size))
        clear hb3 x0 x1 x2 x3
        have hW4 := fun o => HW3.out.alloc HW3.out.size o
        have HW4 := hide hW4
        clear hW4
        by_cases h4 : twoE t x = 0
        · have HZ := hide h4
          obtain ⟨ht0, hx0⟩ := two_zero h4
          have HSZ := hide (may_size ht0)
          rw [h4]
          clear h4 ht0 hx0
          have y0 : ∀ o, (w3.alloc o).cell? ⟨w.heap.size, 0, none⟩ = some (.string t.name) := fun o => (D1.out.alloc o).cell 0
          have y1 : ∀ o, (w3.alloc o).cell? ⟨w.heap.size, 1, none⟩ = some (.slice a t.args.length c) := fun o => (D1.out.alloc o).cell 1
          have y2 : ∀ o, (w3.alloc o).cell? ⟨w.heap.size + 1, 0, none⟩ = some (.string x.name) := fun o => (D2.out.alloc o).cell 0
          have y3 : ∀ o, (w3.alloc o).cell? ⟨w.heap.size + 1, 1, none⟩ = some (.slice ax x.args.length cx) := fun o => (D2.out.alloc o).cell 1
          go_wp2_with fail
          refine (atOf_any zs t _ _ _ X (by exact HV.out.later (HW4.out _)) (by exact HP.out.later (HW4.out _))).mono ?_
          rintro e w5 ⟨v5, rfl, hyes, hno, hb5⟩
          obtain ⟨s5, a5, n5, c5, rfl⟩ := tvform hyes hno
          have E1 := hide ((D1.out.alloc _).below hb5 (by have := D1.out.lt; simp; omega))
          have E2 := hide ((D2.out.alloc _).below hb5 (by have := D2.out.lt; simp; omega))
          have E3 := hide ((Blk.new w3 #[.string ⟨#[]⟩, .slice none 0 0] 24).below hb5 (by simp))
          have HW5 := hide ((HW4.out _).trans (hb5.mono (by have := HW3.out.size; simp; omega)))
          have hW6 := fun o => HW5.out.alloc HW5.out.size o
          have HW6 := hide hW6
          clear hb5 hyes hno y0 y1 y2 y3 hW6
          have y0 : ∀ o, (w5.alloc o).cell? ⟨w.heap.size, 0, none⟩ = some (.string t.name) := fun o => (E1.out.alloc o).cell 0
          have y1 : ∀ o, (w5.alloc o).cell? ⟨w.heap.size, 1, none⟩ = some (.slice a t.args.length c) := fun o => (E1.out.alloc o).cell 1
          have y2 : ∀ o, (w5.alloc o).cell? ⟨w.heap.size + 1, 0, none⟩ = some (.string x.name) := fun o => (E2.out.alloc o).cell 0
          have y3 : ∀ o, (w5.alloc o).cell? ⟨w.heap.size + 1, 1, none⟩ = some (.slice ax x.args.length cx) := fun o => (E2.out.alloc o).cell 1
          cases hat : atT t zs with
          | none =>
            have HE := hide (putE_none HZ.out hat)
            simp only [Option.isSome_none]
            clear hat
            go_wp2_with fail
            refine (put_any t x zs _ _ _ _ X (by exact HV.out.later (HW6.out _)) (by exact HP.out.later (HW6.out _)) (by exact HU.out.later (HW6.out _))).mono ?_
            rintro e w7 ⟨v7, rfl, hyes, hno, hb7⟩
            have hv7 : v7 = .agg #[.string ⟨#[]⟩, .slice none 0 0] := hno (by rw [HE.out]; decide)
            subst hv7
            rw [HE.out]
            have W7 : ∀ o, Blk (w7.alloc o) w3.heap.size #[.string ⟨#[]⟩, .slice none 0 0] 24 := fun o => ((E3.out.alloc _).below hb7 (by have := E3.out.lt; simp; omega)).alloc o
            have q0 : ∀ o, (w7.alloc o).cell? ⟨w3.heap.size, 0, none⟩ = some (.string ⟨#[]⟩) := fun o => (W7 o).cell 0
            have q1 : ∀ o, (w7.alloc o).cell? ⟨w3.heap.size, 1, none⟩ = some (.slice none 0 0) := fun o => (W7 o).cell 1
            have HW7 := hide ((HW6.out _).trans (hb7.mono (by have := HW5.out.size; simp; omega)))
            clear hb7 hyes hno W7 y0 y1 y2 y3
            go_wp2_with fail
            refine (term2_err 10 _ _ _ _ _ rfl _ (by decide)).mono ?_
            rintro e w8 ⟨rfl, hb8⟩
            go_wp2_with fail
            go_ret
            exact ⟨rfl, (HW7.out.alloc HW7.out.size _).trans (hb8.mono (by have := HW7.out.size; simp; omega))⟩
          | some y =>
            have HE := hide (putE_some HZ.out hat)
            simp only [Option.isSome_some]
            clear hat
            go_wp2_with fail
            refine (putOf_any x zs t _ _ _ _ X (by exact HV.out.later (HW6.out _)) (by exact HP.out.later (HW6.out _)) (by exact HU.out.later (HW6.out _)) HSZ.out).mono ?_
            rintro e w7 ⟨v7, rfl, ht7, hb7⟩
            obtain ⟨a7, c7, rfl, hs7⟩ := ht7
            have F1 := hide ((E1.out.alloc _).below hb7 (by have := E1.out.lt; simp; omega))
            have F2 := hide ((E2.out.alloc _).below hb7 (by have := E2.out.lt; simp; omega))
            have F3 := hide ((E3.out.alloc _).below hb7 (by have := E3.out.lt; simp; omega))
            have HW7 := hide ((HW6.out _).trans (hb7.mono (by have := HW5.out.size; simp; omega)))
            have HS7 : Hid (Sl w7 (fun b => X b ∨ w5.heap.size + 1 ≤ b) a7 (putT x zs t).args) := hs7.mono fun b h _ => by simpa using h
            have h35 : w3.heap.size < w5.heap.size := E3.out.lt
            have hN3 := HW3.out.size
            have hND := D2.out.lt
            clear hb7 hs7 y0 y1 y2 y3
            generalize hn7 : (putT x zs t).name = s7
            generalize hl7 : (putT x zs t).args.length = n7
            have HN7 := hide hn7
            have HL7 := hide hl7
            clear hn7 hl7
            have r0 : w7.cell? ⟨w3.heap.size, 0, none⟩ = some (.string ⟨#[]⟩) := F3.out.cell 0
            have r1 : w7.cell? ⟨w3.heap.size, 1, none⟩ = some (.slice none 0 0) := F3.out.cell 1
            have rf := F3.out.frozen
            obtain ⟨w8, hw8⟩ : ∃ w8, w8 = (w7.setCell ⟨w3.heap.size, 0, none⟩ (.string s7)).setCell ⟨w3.heap.size, 1, none⟩ (.slice a7 n7 c7) := ⟨_, rfl⟩
            have hk8 : ∀ b, b ≠ w3.heap.size → w8.heap[b]? = w7.heap[b]? := fun b hb => by
              rw [hw8, Below.heap_setCell _ _ _ _ (by simpa using hb), Below.heap_setCell _ _ _ _ (by simpa using hb)]
            have G1 : Hid (Blk w8 w.heap.size #[.string t.name, .slice a t.args.length c] 24) := by unfold Hid Blk; rw [hk8 _ (by omega)]; exact F1.out
            have G2 : Hid (Blk w8 (w.heap.size + 1) #[.string x.name, .slice ax x.args.length cx] 24) := by unfold Hid Blk; rw [hk8 _ (by omega)]; exact F2.out
            have G3 : Hid (Blk w8 w3.heap.size #[.string s7, .slice a7 n7 c7] 24) := by unfold Hid; rw [hw8]; exact (F3.out.set 0 _).set 1 _
            have HW8 : Hid (Below w.heap.size w w8) := by unfold Hid; rw [hw8]; exact (HW7.out.setCell (by simp; omega) _).setCell (by simp; omega) _
            have HS8 : Hid (TV w8 (fun b => X b ∨ w5.heap.size + 1 ≤ b) (.agg #[.string s7, .slice a7 n7 c7]) (putT x zs t)) :=
              ⟨a7, c7, by rw [HN7.out, HL7.out], HS7.out.kept fun b hb => hk8 b (hb.elim (fun h => by have := hX b h; omega) (fun h => by omega))⟩
            have HWE := hide hw8
            clear hk8
            have y0 : w8.cell? ⟨w.heap.size, 0, none⟩ = some (.string t.name) := G1.out.cell 0
            have y1 : w8.cell? ⟨w.heap.size, 1, none⟩ = some (.slice a t.args.length c) := G1.out.cell 1
            have y2 : w8.cell? ⟨w.heap.size + 1, 0, none⟩ = some (.string x.name) := G2.out.cell 0
            have y3 : w8.cell? ⟨w.heap.size + 1, 1, none⟩ = some (.slice ax x.args.length cx) := G2.out.cell 1
            rw [hw8] at y0 y1 y2 y3
            clear hw8
            go_wp2_with fail
            rw [← HWE.out]
            clear r0 r1 rf y0 y1 y2 y3
            refine (put_any t x zs _ _ _ _ X (by exact HV.out.later HW8.out) (by exact HP.out.later HW8.out) (by exact HU.out.later HW8.out)).mono ?_
            rintro e w9 ⟨v9, rfl, hyes, hno, hb9⟩
            have ht9 := hyes HE.out
            obtain ⟨a9, c9, rfl, hs9⟩ := ht9
            have HT9 := hide (show TV w9 (fun b => w8.heap.size ≤ b) (.agg #[.string (putT x zs t).name, .slice a9 (putT x zs t).args.length c9]) (putT x zs t) from ⟨a9, c9, rfl, hs9⟩)
            have HT8 := hide (HS8.out.later hb9)
            have W9 : ∀ o, Blk (w9.alloc o) w3.heap.size #[.string s7, .slice a7 n7 c7] 24 := fun o => ((G3.out.below hb9 G3.out.lt)).alloc o
            have q0 : ∀ o, (w9.alloc o).cell? ⟨w3.heap.size, 0, none⟩ = some (.string s7) := fun o => (W9 o).cell 0
            have q1 : ∀ o, (w9.alloc o).cell? ⟨w3.heap.size, 1, none⟩ = some (.slice a7 n7 c7) := fun o => (W9 o).cell 1
            have HW9 := hide (HW8.out.trans (hb9.mono HW8.out.size))
            rw [HE.out]
            clear hb9 hyes hno W9 hs9
            go_wp2_with fail
            refine (term2_ok (putT x zs t) _ _ _ _ _ (by exact HT9.out.alloc _) (by exact HT8.out.alloc _)).mono ?_
            rintro e w10 ⟨rfl, hb10⟩
            go_wp2_with fail
            go_ret
            exact ⟨rfl, (HW9.out.alloc HW9.out.size _).trans (hb10.mono (by have := HW9.out.size; simp; omega))⟩
        · have h4' : (twoE t x == 0) = false := by simpa using h4
          have HE := hide (putE_bad (zs := zs) h4)
          have HNE := hide h4
          clear h4
          have y0 : ∀ o, (w3.alloc o).cell? ⟨w.heap.size, 0, none⟩ = some (.string t.name) := fun o => (D1.out.alloc o).cell 0
          have y1 : ∀ o, (w3.alloc o).cell? ⟨w.heap.size, 1, none⟩ = some (.slice a t.args.length c) := fun o => (D1.out.alloc o).cell 1
          have y2 : ∀ o, (w3.alloc o).cell? ⟨w.heap.size + 1, 0, none⟩ = some (.string x.name) := fun o => (D2.out.alloc o).cell 0
          have y3 : ∀ o, (w3.alloc o).cell? ⟨w.heap.size + 1, 1, none⟩ = some (.slice ax x.args.length cx) := fun o => (D2.out.alloc o).cell 1
          go_wp2_with fail
          refine (put_any t x zs _ _ _ _ X (by exact HV.out.later (HW4.out _)) (by exact HP.out.later (HW4.out _)) (by exact HU.out.later (HW4.out _))).mono ?_
          rintro e w5 ⟨v5, rfl, hyes, hno, hb5⟩
          have hv5 : v5 = .agg #[.string ⟨#[]⟩, .slice none 0 0] := hno (by rw [HE.out]; exact HNE.out)
          subst hv5
          rw [HE.out]
          have W5 : ∀ o, Blk (w5.alloc o) w3.heap.size #[.string ⟨#[]⟩, .slice none 0 0] 24 := fun o => ((Blk.new w3 _ _).below hb5 (by simp)).alloc o
          have q0 : ∀ o, (w5.alloc o).cell? ⟨w3.heap.size, 0, none⟩ = some (.string ⟨#[]⟩) := fun o => (W5 o).cell 0
          have q1 : ∀ o, (w5.alloc o).cell? ⟨w3.heap.size, 1, none⟩ = some (.slice none 0 0) := fun o => (W5 o).cell 1
          have HW5 := hide ((HW4.out _).trans (hb5.mono (by have := HW3.out.size; simp; omega)))
          clear hb5 hyes hno W5 y0 y1 y2 y3
          go_wp2_with fail
          refine (term2_err (twoE t x) _ _ _ _ _ rfl _ HNE.out).mono ?_
          rintro e w6 ⟨rfl, hb6⟩
          go_wp2_with fail
          go_ret
          exact ⟨rfl, (HW5.out.alloc HW5.out.size _).trans (hb6.mono (by have := HW5.out.size; simp; omega))⟩
#print axioms termPuts_any
end Go.Proofs.Ythlgknglalcggaa
