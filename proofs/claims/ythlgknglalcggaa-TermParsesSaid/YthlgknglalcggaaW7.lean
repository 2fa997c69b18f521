/- Walks: what stands at a place. -/
import Derived.Test.YthlgknglalcggaaW6
namespace Go.Proofs.Ythlgknglalcggaa
open Go.RowKit
set_option linter.unusedSimpArgs false
set_option linter.unusedVariables false

/-- What stands at a place. -/
def atT : Tm → List Int → Option Tm
  | t, [] => some t
  | t, i :: r => if h : 0 ≤ i ∧ i.toNat < t.args.length then atT (t.args[i.toNat]'h.2) r else none

/-- A list of numbers in memory. -/
def PV (w : World) (X : Nat → Prop) (v : Value) (zs : List Int) : Prop :=
  ∃ a c, v = .slice a zs.length c ∧ (zs.length ≤ 9223372036854775807 ∧ zs.length ≤ c) ∧ (zs = [] ∨ ∃ b o, a = some ⟨b, o, none⟩ ∧ X b ∧ ∀ i (h : i < zs.length), w.cell? ⟨b, o + i, none⟩ = some (.int .i64 zs[i]))

theorem PV.kept {w w' : World} {X : Nat → Prop} {v : Value} {zs : List Int} (h : PV w X v zs) (hk : ∀ b, X b → w'.heap[b]? = w.heap[b]?) : PV w' X v zs := by
  obtain ⟨a, c, e, hl, h⟩ := h
  refine ⟨a, c, e, hl, ?_⟩
  rcases h with h | ⟨b, o, e, hx, h⟩
  · exact Or.inl h
  · exact Or.inr ⟨b, o, e, hx, fun i hi => by rw [World.cell?_of_block (hk b hx)]; exact h i hi⟩

theorem PV.mono {w : World} {X Y : Nat → Prop} {v : Value} {zs : List Int} (h : PV w X v zs) (hk : ∀ b, X b → b < w.heap.size → Y b) : PV w Y v zs := by
  obtain ⟨a, c, e, hl, h⟩ := h
  refine ⟨a, c, e, hl, ?_⟩
  rcases h with h | ⟨b, o, e, hx, h⟩
  · exact Or.inl h
  · by_cases h0 : zs = []
    · exact Or.inl h0
    · have hp : 0 < zs.length := List.length_pos_iff.2 h0
      exact Or.inr ⟨b, o, e, hk b hx (World.block_lt_of_cell? w _ (h 0 hp)), h⟩

theorem PV.below {w w' : World} {X : Nat → Prop} {v : Value} {zs : List Int} {B : Nat} (h : PV w X v zs) (hb : Below B w w') (hX : ∀ b, X b → b < w.heap.size → b < B) : PV w' X v zs := by
  have h1 : PV w (fun b => X b ∧ b < B) v zs := h.mono fun b hx hs => ⟨hx, hX b hx hs⟩
  have h2 : PV w' (fun b => X b ∧ b < B) v zs := h1.kept fun b hx => hb.block b hx.2
  exact h2.mono fun b hx _ => hx.1

theorem PV.later {w w' : World} {X : Nat → Prop} {v : Value} {zs : List Int} (h : PV w X v zs) (hb : Below w.heap.size w w') : PV w' X v zs := h.below hb (fun _ _ h => h)
theorem PV.alloc {w : World} {X : Nat → Prop} {v : Value} {zs : List Int} (h : PV w X v zs) (o : Obj) : PV (w.alloc o) X v zs := h.later ((Below.refl _ _).alloc (Nat.le_refl _) o)

/-- The empty term's value. -/
def zeroT : Value := .agg #[.string ⟨#[]⟩, .slice none 0 0]

theorem below2 {w : World} (o1 o2 : Obj) : Below w.heap.size w ((w.alloc o1).alloc o2) := ((Below.refl _ _).alloc (Nat.le_refl _) _).alloc (by simp) _

set_option maxHeartbeats 400000 in
theorem find_any (t : Tm) (zs : List Int) (v p : Value) (w : World) (X : Nat → Prop) (hv : TV w X v t) (hp : PV w X p zs) :
    Calls Try.prog 49 #[v, p] w fun e w' => ∃ v', e = .returned (.tuple #[v', .bool (atT t zs).isSome]) ∧ (∀ x, atT t zs = some x → TV w X v' x) ∧ (atT t zs = none → v' = zeroT) ∧ Below w.heap.size w w' := by
  obtain ⟨a, c, rfl, hs⟩ := hv
  obtain ⟨pa, pc, rfl, hzl, hz⟩ := hp
  go_enter Try.func49, Try.ntmps49
  go_wp2_with fail
  go_loopw [10, 7] (fun i j wr => ∃ (k : Nat) (tk : Tm) (a : Option Addr) (c : Nat), k ≤ zs.length ∧ i = .int .i64 k ∧ Sl w X a tk.args ∧ atT t zs = atT tk (zs.drop k) ∧ wr = (w.alloc (.cells #[.string tk.name, .slice a tk.args.length c] 24)).alloc (.cells #[.string ⟨#[]⟩, .slice none 0 0] 24)) (fun i j wr => zs.length - (intOf i).toNat)
  case atStart => exact ⟨0, t, a, c, Nat.zero_le _, rfl, hs, rfl, rfl⟩
  case round =>
    obtain ⟨k, tk, a1, c1, hk, rfl, hs1, hat, rfl⟩ := hrel
    have HAT := hide hat
    clear hat
    by_cases hlt : k < zs.length
    · obtain ⟨b, o, rfl, hx, hcell⟩ := hz.resolve_left (fun h => by rw [h] at hlt; simp at hlt)
      have hcx := (below2 (w := w) (.cells #[.string tk.name, .slice a1 tk.args.length c1] 24) (.cells #[.string ⟨#[]⟩, .slice none 0 0] 24)).cell (p := ⟨b, o + k, none⟩) (World.block_lt_of_cell? w _ (hcell k hlt))
      rw [hcell k hlt] at hcx
      have HD := hide (List.drop_eq_getElem_cons hlt)
      have htl := hs1.1
      by_cases hin : 0 ≤ zs[k] ∧ zs[k].toNat < tk.args.length
      · obtain ⟨hi0, hi1⟩ := hin
        obtain ⟨b1, o1, a2, c2, rfl, e0, e1, hx2⟩ := hs1.get (Below.refl w.heap.size w) (fun _ _ h => h) _ hi1
        have d0 := cell_later (below2 (w := w) (.cells #[.string tk.name, .slice (some ⟨b1, o1, none⟩) tk.args.length c1] 24) (.cells #[.string ⟨#[]⟩, .slice none 0 0] 24)) e0
        have d1 := cell_later (below2 (w := w) (.cells #[.string tk.name, .slice (some ⟨b1, o1, none⟩) tk.args.length c1] 24) (.cells #[.string ⟨#[]⟩, .slice none 0 0] 24)) e1
        clear e0 e1
        have HX2 : Hid (Sl w X a2 tk.args[zs[k].toNat].args) := by
          obtain ⟨a3, c3, h3, h4⟩ := hx2
          simp at h3
          rw [h3.1]
          exact h4
        have HAT2 : Hid (atT t zs = atT (tk.args[zs[k].toNat]) (zs.drop (k + 1))) := by
          unfold Hid; rw [HAT.out, HD.out]; simp only [atT]; rw [dif_pos ⟨hi0, hi1⟩]
        have hz0 : ¬ zs[k] < 0 := by omega
        have hz1 : zs[k] < (tk.args.length : Int) := by omega
        go_wp2_with fail
        go_roundw
        case rel => exact ⟨k + 1, tk.args[zs[k].toNat], a2, c2, by omega, by go_num, HX2.out, HAT2.out, rfl⟩
        case measure => simp [intOf]; omega
      · have HN : Hid (atT t zs = none) := by
          unfold Hid; rw [HAT.out, HD.out]; simp only [atT]; rw [dif_neg hin]
        have hcase : zs[k] < 0 ∨ (¬ zs[k] < 0 ∧ (tk.args.length : Int) ≤ zs[k]) := by omega
        rcases hcase with h0 | ⟨h0, h1⟩
        all_goals
          go_wp2_with fail
          refine bodyPost_ret (v := .tuple #[zeroT, .bool false]) (by simp [results, Try.results49, go_sem, zeroT]) rfl ⟨_, by rw [HN.out]; rfl, ?_, fun _ => rfl, below2 _ _⟩
          intro x hx
          rw [HN.out] at hx
          cases hx
    · have HS : Hid (atT t zs = some tk) := by
        unfold Hid; rw [HAT.out, List.drop_eq_nil_of_le (by omega)]; simp only [atT]
      go_wp2_with fail
      refine bodyPost_ret (v := .tuple #[.agg #[.string tk.name, .slice a1 tk.args.length c1], .bool true]) (by simp [results, Try.results49, go_sem]) rfl ⟨_, by rw [HS.out]; rfl, ?_, ?_, below2 _ _⟩
      · intro x hx
        rw [HS.out] at hx
        obtain rfl := Option.some.inj hx
        exact ⟨a1, c1, rfl, hs1⟩
      · intro h; rw [HS.out] at h; cases h
#print axioms find_any
end Go.Proofs.Ythlgknglalcggaa
