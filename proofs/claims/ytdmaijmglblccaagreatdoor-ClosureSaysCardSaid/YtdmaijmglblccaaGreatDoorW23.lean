
/- Walks: Text. -/
import Derived.Test.YtdmaijmglblccaaGreatDoorW22
import Derived.Test.YtdmaijmglblccaaGreatDoorW18
import Derived.Test.YtdmaijmglblccaaGreatDoorShelf
namespace Go.Proofs.YtdmaijmglblccaaGreatDoor
open Go.RowKit
set_option linter.unusedSimpArgs false
set_option linter.unusedVariables false
set_option maxRecDepth 8000

theorem name_le {s : ByteArray} (h : nameB s = true) : s.size ≤ 8 := by
  simp [nameB] at h; omega

/-- A text is not long. -/
theorem txt_len (l : List Tm) (h : errL l = 0) : (txtL l).length ≤ 11 * sizeL l := by
  induction l using Tm.indL with
  | h0 => simp [txtL]
  | h s l r ihl ihr =>
    rw [errL_cons] at h
    by_cases h0 : errL [(⟨s, l⟩ : Tm)] = 0
    · rw [if_pos h0] at h
      obtain ⟨hn, hl⟩ := err_name h0
      have h1 := ihl hl
      have h2 := ihr h
      have h3 := name_le hn
      have h4 : s.data.toList.length = s.size := by rw [Array.length_toList]; rfl
      simp only [txtL, sizeL, List.length_append]
      split <;> split <;> simp only [List.length_nil, List.length_cons, List.length_append] <;> omega
    · rw [if_neg h0] at h; exact absurd h h0

theorem bytes_cells (l : List UInt8) : bytesV l = Lib.byteCells l := rfl

set_option maxHeartbeats 1000000 in
theorem ktext_any (t : Tm) (v : Value) (w : World) (X : Nat → Prop) (hv : TV w X v t) (hlen : (txtL [t]).length ≤ 1000000) :
    Calls Tryz.prog 48 #[v] w fun e w' => e = .returned (.string ⟨(txtL [t]).toArray⟩) ∧ Below w.heap.size w w' := by
  obtain ⟨X', hX, hv'⟩ : ∃ X' : Nat → Prop, (∀ b, X' b → b < w.heap.size) ∧ TV w X' v t := ⟨fun b => X b ∧ b < w.heap.size, fun _ h => h.2, hv.mono fun b h1 h2 => ⟨h1, h2⟩⟩
  clear hv
  obtain ⟨a, c, rfl, hs⟩ := hv'
  have HV := hide (show TV w X' (.agg #[.string t.name, .slice a t.args.length c]) t from ⟨a, c, rfl, hs⟩)
  clear hs
  generalize hR : (.string ⟨(txtL [t]).toArray⟩ : Value) = R
  have HR := hide hR
  clear hR
  have K1 := hide (Blk.new w #[.string t.name, .slice a t.args.length c] 25)
  have HB := hide ((Below.refl w.heap.size w).alloc (Nat.le_refl _) (.cells #[.string t.name, .slice a t.args.length c] 25))
  have c0 : ∀ o, ((w.alloc (.cells #[.string t.name, .slice a t.args.length c] 25)).alloc o).cell? ⟨w.heap.size, 0, none⟩ = some (.string t.name) := fun o => (K1.out.alloc o).cell 0
  have c1 : ∀ o, ((w.alloc (.cells #[.string t.name, .slice a t.args.length c] 25)).alloc o).cell? ⟨w.heap.size, 1, none⟩ = some (.slice a t.args.length c) := fun o => (K1.out.alloc o).cell 1
  have HBD : Hid (Bld ((w.alloc (.cells #[.string t.name, .slice a t.args.length c] 25)).alloc (.cells #[.pointer none, .slice none 0 0] 100)) (w.heap.size + 1) (w.heap.size + 1) (bytesV []) (.slice none 0 0)) := ⟨Nat.le_refl _, ⟨_, Or.inl rfl, by have h := heap_alloc_new (w.alloc (.cells #[.string t.name, .slice a t.args.length c] 25)) (.cells #[.pointer none, .slice none 0 0] 100); simpa using h⟩, World.ownsRow_nil _ _ _ _⟩
  go_enter Tryz.func48, Tryz.ntmps48
  go_wp2_with fail
  have hz1 : (w.alloc (.cells #[.string t.name, .slice a t.args.length c] 25)).heap.size = w.heap.size + 1 := by simp
  generalize (w.alloc (.cells #[.string t.name, .slice a t.args.length c] 25)) = w1 at *
  rw [← hz1] at HBD ⊢
  clear hz1
  refine (write_any t _ _ [] w1.heap.size w1.heap.size _ X' (by exact (HV.out.later HB.out).alloc _) (fun b hb => by have := hX b hb; have := HB.out.size; omega) (by exact HBD.out) (by simp) (by simp; omega)).mono ?_
  rintro e w3 ⟨rfl, q3, hbd3, hfr3⟩
  have HISB : Hid (Lib.IsBuilder 100 5 w1.heap.size w1.heap.size (Lib.byteCells (txtL [t])) w3) := by
    have h1 : Bld w3 w1.heap.size w1.heap.size (Lib.byteCells (txtL [t])) q3 := by simpa [bytes_cells] using hbd3
    have hne := bd_ne h1
    obtain ⟨g1, ⟨p, hp, hb⟩, hown⟩ := h1
    rcases hp with rfl | rfl
    · exact Or.inl ⟨g1, q3, hb, hown, hne⟩
    · exact Or.inr ⟨g1, q3, hb, hown, hne⟩
  have hsz3 : w1.heap.size ≤ w3.heap.size := by have := hfr3.2.2.2.1; simp at this; omega
  have HB3 : Hid (Below w.heap.size w w3) := by
    refine HB.out.trans ⟨hfr3.1, hfr3.2.1, hfr3.2.2.1, hsz3, fun k hk => ?_⟩
    have hk1 : k < w1.heap.size := Nat.lt_of_lt_of_le hk HB.out.size
    rw [hfr3.2.2.2.2.1 k (by simp; omega) (by omega) (by simp [Value.ownBlock]), Below.heap_alloc _ _ _ hk1]
  clear hbd3 hfr3 c0 c1
  go_wp2_with fail
  refine (Tryz.Builder_String_any w1.heap.size w1.heap.size (txtL [t]) _ HISB.out hsz3).mono ?_
  rintro e w4 ⟨rfl, hb4⟩
  go_wp2_with fail
  go_ret
  exact ⟨by rw [← HR.out]; rfl, HB3.out.trans (hb4.mono HB.out.size)⟩

end Go.Proofs.YtdmaijmglblccaaGreatDoor
