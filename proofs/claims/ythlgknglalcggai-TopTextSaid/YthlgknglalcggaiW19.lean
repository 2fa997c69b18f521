/- Walks: the term at a place, copied. -/
import Derived.Test.YthlgknglalcggaiW14
namespace Go.Proofs.Ythlgknglalcggai
open Go.RowKit
set_option linter.unusedSimpArgs false
set_option linter.unusedVariables false
set_option maxRecDepth 8000

/-- What is wrong with a place. -/
def atE (t : Tm) (zs : List Int) : Int := if mayE t = 0 then (if (atT t zs).isSome = true then 0 else 10) else mayE t

theorem atT_size {zs : List Int} : ∀ {t x : Tm}, atT t zs = some x → sizeL [x] ≤ sizeL [t] := by
  induction zs with
  | nil => intro t x h; simp only [atT, Option.some.injEq] at h; subst h; exact Nat.le_refl _
  | cons z zs ih =>
    intro t x h
    simp only [atT] at h
    split at h
    · rename_i hh
      have h1 := ih h
      have h2 := sizeL_take t.args z.toNat hh.2
      have h3 := sizeL_take_le t.args (z.toNat + 1)
      obtain ⟨s, l⟩ := t
      have : sizeL [(⟨s, l⟩ : Tm)] = 1 + sizeL l := by simp [sizeL]
      simp only at *
      omega
    · cases h

set_option maxHeartbeats 1000000 in
theorem at_any (t : Tm) (zs : List Int) (v p : Value) (w : World) (X : Nat → Prop) (hv : TV w X v t) (hp : PV w X p zs) :
    Calls Try.prog 11 #[v, p] w fun e w' => ∃ v', e = .returned (.tuple #[v', .int .i64 (atE t zs)]) ∧ (∀ x, mayE t = 0 → atT t zs = some x → TV w' (fun b => w.heap.size ≤ b) v' x) ∧ (atE t zs ≠ 0 → v' = zeroT) ∧ Below w.heap.size w w' := by
  obtain ⟨a, c, rfl, hs⟩ := hv
  obtain ⟨pa, pc, rfl, hpr⟩ := hp
  have HV := hide (show TV w X (.agg #[.string t.name, .slice a t.args.length c]) t from ⟨a, c, rfl, hs⟩)
  have HP := hide (show PV w X (.slice pa zs.length pc) zs from ⟨pa, pc, rfl, hpr⟩)
  clear hs hpr
  go_enter Try.func11, Try.ntmps11
  go_wp2_with fail
  refine (check_any t _ _ X (by exact HV.out.later (below2 _ _))).mono ?_
  rintro e w1 ⟨rfl, hb1⟩
  have k1 := ((Blk.new w #[.string t.name, .slice a t.args.length c] 25).alloc (.cells #[.string ⟨#[]⟩, .slice none 0 0] 25))
  have k2 : Blk ((w.alloc (.cells #[.string t.name, .slice a t.args.length c] 25)).alloc (.cells #[.string ⟨#[]⟩, .slice none 0 0] 25)) (w.heap.size + 1) #[.string ⟨#[]⟩, .slice none 0 0] 25 := by
    have := Blk.new (w.alloc (.cells #[.string t.name, .slice a t.args.length c] 25)) #[.string ⟨#[]⟩, .slice none 0 0] 25
    simp at this; exact this
  have B1 := hide (k1.below hb1 k1.lt)
  have B2 := hide (k2.below hb1 k2.lt)
  have HW1 := hide ((below2 (w := w) (.cells #[.string t.name, .slice a t.args.length c] 25) (.cells #[.string ⟨#[]⟩, .slice none 0 0] 25)).trans (hb1.mono (by simp; omega)))
  clear k1 k2 hb1
  by_cases h1 : mayE t = 0
  · have HM := hide h1
    have HS1 := hide (may_size h1)
    rw [h1]
    clear h1
    have x0 : w1.cell? ⟨w.heap.size, 0, none⟩ = some (.string t.name) := B1.out.cell 0
    have x1 : w1.cell? ⟨w.heap.size, 1, none⟩ = some (.slice a t.args.length c) := B1.out.cell 1
    go_wp2_with fail
    refine (find_any t zs _ _ _ X (by exact HV.out.later HW1.out) (by exact HP.out.later HW1.out)).mono ?_
    rintro e w3 ⟨v3, rfl, hyes, hno, hb3⟩
    obtain ⟨s3, a3, n3, c3, rfl⟩ := tvform hyes hno
    have D2 := hide (B2.out.below hb3 B2.out.lt)
    have HW3 := hide (HW1.out.trans (hb3.mono HW1.out.size))
    have HYES := hide hyes
    have HB3 := hide hb3
    clear hb3 x0 x1 hyes hno
    cases hat : atT t zs with
    | none =>
      have HE : Hid (10 = atE t zs) := by simp [Hid, atE, HM.out, hat]
      have hne : atE t zs ≠ 0 := by rw [← HE.out]; decide
      have HAT := hide hat
      have r0 := fun o => (D2.out.alloc o).cell 0
      have r1 := fun o => (D2.out.alloc o).cell 1
      have rf := fun o => (D2.out.alloc o).frozen
      simp only [Option.isSome_none]
      clear hat
      go_wp2_with fail
      refine bodyPost_ret (v := .tuple #[zeroT, .int .i64 10]) (by simp [results, Try.results11, go_sem, zeroT, r0, r1, World.cell?_setCell_same, World.cell?_setCell_other]) rfl ⟨_, by rw [← HE.out], (fun x _ h => by rw [HAT.out] at h; cases h), fun _ => rfl, ?_⟩
      exact ((HW3.out.alloc HW3.out.size _).setCell (by simp) _).setCell (by simp) _
    | some y =>
      have HE : Hid (0 = atE t zs) := by simp [Hid, atE, HM.out, hat]
      have HAT := hide hat
      have hty := HYES.out y hat
      have hysz : sizeL [y] ≤ 1000000 := Nat.le_trans (atT_size hat) HS1.out
      obtain ⟨a4, c4, e4, hs4⟩ := hty
      simp at e4
      obtain ⟨rfl, rfl, rfl, rfl⟩ := e4
      have HTY := hide (show TV w3 X (.agg #[.string y.name, .slice a3 y.args.length c3]) y from (show TV w1 X (.agg #[.string y.name, .slice a3 y.args.length c3]) y from ⟨a3, c3, rfl, hs4⟩).later HB3.out)
      simp only [Option.isSome_some]
      clear hat hs4
      go_wp2_with fail
      refine (copyOf_any y _ _ X (by exact HTY.out.alloc _) hysz).mono ?_
      rintro e w5 ⟨v5, rfl, ht5, hb5⟩
      obtain ⟨a5, c5, rfl, hs5⟩ := ht5
      have E3 := hide ((D2.out.alloc _).below hb5 (by have := D2.out.lt; simp; omega))
      have r0 : w5.cell? ⟨w.heap.size + 1, 0, none⟩ = some (.string ⟨#[]⟩) := E3.out.cell 0
      have r1 : w5.cell? ⟨w.heap.size + 1, 1, none⟩ = some (.slice none 0 0) := E3.out.cell 1
      have rf := E3.out.frozen
      have HW5 := hide ((HW3.out.alloc HW3.out.size _).trans (hb5.mono (by have := HW3.out.size; simp; omega)))
      have HS5 := hide hs5
      clear hs5 hb5
      go_wp2_with fail
      refine bodyPost_ret (v := .tuple #[.agg #[.string y.name, .slice a5 y.args.length c5], .int .i64 0]) (by simp [results, Try.results11, go_sem, r0, r1, World.cell?_setCell_same, World.cell?_setCell_other]) rfl ⟨_, by rw [← HE.out], (fun x _ h => ?_), fun h => absurd HE.out.symm h, ?_⟩
      · rw [HAT.out] at h
        obtain rfl := Option.some.inj h
        refine ⟨a5, c5, rfl, ?_⟩
        have hk : Sl w5 (fun b => w3.heap.size + 1 ≤ b) a5 y.args := HS5.out.mono fun b h _ => by simpa using h
        have hsz3 := D2.out.lt
        have hsz4 := HW3.out.size
        exact (hk.kept fun b hb => by rw [Below.heap_setCell _ _ _ _ (by simp; omega), Below.heap_setCell _ _ _ _ (by simp; omega)]).mono fun b hb _ => by omega
      · exact (HW5.out.setCell (by simp) _).setCell (by simp) _
  · have HE : Hid (mayE t = atE t zs) := by unfold Hid atE; rw [if_neg h1]
    have hne : atE t zs ≠ 0 := by rw [← HE.out]; exact h1
    have h1' : (mayE t == 0) = false := by simpa using h1
    have HM := hide h1
    have r0 : w1.cell? ⟨w.heap.size + 1, 0, none⟩ = some (.string ⟨#[]⟩) := B2.out.cell 0
    have r1 : w1.cell? ⟨w.heap.size + 1, 1, none⟩ = some (.slice none 0 0) := B2.out.cell 1
    have rf := B2.out.frozen
    clear h1
    go_wp2_with fail
    refine bodyPost_ret (v := .tuple #[zeroT, .int .i64 (mayE t)]) (by simp [results, Try.results11, go_sem, zeroT, r0, r1, World.cell?_setCell_same, World.cell?_setCell_other]) rfl ⟨_, by rw [← HE.out], (fun x h _ => absurd h HM.out), fun _ => rfl, ?_⟩
    exact (HW1.out.setCell (by simp) _).setCell (by simp) _
#print axioms at_any
end Go.Proofs.Ythlgknglalcggai
