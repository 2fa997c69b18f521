/- Walks: all knots of a term. -/
import Derived.Test.YtmkomemjhfafnaaW4
import Derived.Test.YtmkomemjhfafnaaRow
namespace Go.Proofs.Ytmkomemjhfafnaa
open Go.RowKit
set_option linter.unusedSimpArgs false
set_option linter.unusedVariables false

theorem Try.infoTerm : (Try.prog.info? 25).map (fun i => (i.zero, i.size, i.bytes)) = some (some (.agg #[.string ByteArray.empty, .slice none 0 0]), 2, 40) := by kernel_rfl

theorem ownsRow_base {w : World} {base base' e size : Nat} {v : Value} {n : Nat} {xs : List Value} (h : w.ownsRow base e size v n xs) (hb : base' ≤ base) : w.ownsRow base' e size v n xs := by
  obtain ⟨h0, h1⟩ := h
  refine ⟨h0, ?_⟩
  rcases h1 with h1 | ⟨g, cap, cur, hv, hg, r⟩
  · exact Or.inl h1
  · exact Or.inr ⟨g, cap, cur, hv, Nat.le_trans hb hg, r⟩

set_option maxHeartbeats 400000 in
theorem knots_any (t : Tm) : ∀ (v : Value) (w : World) (X : Nat → Prop), TV w X v t → sizeL [t] ≤ 1000000 →
    Calls Try.prog 35 #[v] w fun e w' => ∃ v' xs, e = .returned v' ∧ w'.ownsRow w.heap.size 25 2 v' (sizeL [t]) xs ∧ RowT w X (preL [t]) xs ∧ Below w.heap.size w w' := by
  induction t using Tm.ind with
  | h s l ih =>
    intro v w X0 hv0 hsm
    obtain ⟨X, hX, hXX, hv⟩ : ∃ X : Nat → Prop, (∀ b, X b → b < w.heap.size) ∧ (∀ b, X b → X0 b) ∧ TV w X v ⟨s, l⟩ := ⟨fun b => X0 b ∧ b < w.heap.size, fun _ h => h.2, fun _ h => h.1, hv0.mono fun b h1 h2 => ⟨h1, h2⟩⟩
    clear hv0
    obtain ⟨a, c, rfl, hs⟩ := hv
    have IH := hide ih
    clear ih
    have hl := hs.1
    have hz : sizeL [(⟨s, l⟩ : Tm)] = 1 + sizeL l := by simp [sizeL]
    rw [hz] at hsm ⊢
    clear hz
    obtain ⟨i0, hi, hz0, hz1, hz2⟩ := info_parts Try.infoTerm
    go_enter Try.func35, Try.ntmps35
    go_wp2_with fail
    go_loopw [3, 4] (fun v i wr => ∃ (k : Nat) (xs : List Value), k ≤ l.length ∧ i = .int .i64 k ∧ wr.ownsRow (w.heap.size + 1) 25 2 v (1 + sizeL (l.take k)) xs ∧ RowT w X (⟨s, l⟩ :: preL (l.take k)) xs ∧ Below (w.heap.size + 1) (w.alloc (Obj.cells #[Value.string s, Value.slice a l.length c] 25)) wr) (fun v i wr => l.length - (intOf i).toNat)
    case atStart =>
      refine ⟨0, [.string s, .slice a l.length c], Nat.zero_le _, rfl, ⟨by simp [sizeL], Or.inr ⟨w.heap.size + 1, 1, #[.string s, .slice a l.length c], by simp [sizeL], Nat.le_refl _, ?_, by simp [sizeL], by decide, by simp, by simp [sizeL]⟩⟩, ⟨a, c, [], rfl, hs, by simp [preL, RowT]⟩, (Below.refl _ _).alloc (by simp) _⟩
      have := heap_alloc_new (w.alloc (Obj.cells #[Value.string s, Value.slice a l.length c] 25)) (Obj.cells #[Value.string s, Value.slice a l.length c] 25)
      simpa using this
    case round =>
      obtain ⟨k, xs, hk, rfl, hown, hrow, hb⟩ := hrel
      have HROW := hide hrow
      clear hrow
      have hc := bcell hb
      have c0 : wr.cell? ⟨w.heap.size, 0, none⟩ = some (.string s) := by rw [hc.1 _ _ (by omega)]; simp
      have c1 : wr.cell? ⟨w.heap.size, 1, none⟩ = some (.slice a l.length c) := by rw [hc.1 _ _ (by omega)]; simp
      clear hc
      have hsz : w.heap.size + 1 ≤ wr.heap.size := by have := hb.size; simpa using this
      by_cases hlt : k < l.length
      · obtain ⟨b, o, a', c', rfl, d0, d1, hx⟩ := hs.get (below_box hb) (fun _ _ h => h) k hlt
        have Hst := hide (sizeL_take l k hlt)
        have hle := sizeL_take_le l (k + 1)
        have hle1 : sizeL (l.take k) + sizeL [l[k]] ≤ sizeL l := by rw [← Hst.out]; exact hle
        have hpos : 0 < sizeL [l[k]] := by generalize l[k] = t; obtain ⟨s', l'⟩ := t; simp [sizeL]; omega
        clear hle
        go_wp2_with fail
        refine (IH.out _ (List.getElem_mem hlt) _ _ X hx (by omega)).mono ?_
        rintro e w1 ⟨v1, ys, rfl, hown1, hrow1, hb1⟩
        have HROW1 : Hid (RowT w X (preL [l[k]]) ys) := hrow1.imp fun a l h => h.back (below_box hb) hX
        have hlen1 := hide hown1.1
        have hcells := hide (owned_val hown1 hpos)
        obtain ⟨g1, cap1, rfl, hg1, hg1', hcel⟩ := hcells.out
        have hownw1 : w1.ownsRow (w.heap.size + 1) 25 2 _ (1 + sizeL (l.take k)) xs := hown.kept (w' := w1) (row := none) ⟨hb1.os, hb1.tape, hb1.output, hb1.size, fun j hj _ => hb1.block j hj⟩ (by rcases Option.eq_none_or_eq_some (Value.ownBlock _) with h | ⟨x, h⟩; exact Or.inl h; exact Or.inr (by rw [h]; simp))
        have hyl : ys.length = sizeL [l[k]] * 2 := hlen1.out
        obtain ⟨v2, w2, hr2, hown2, hgr2, hnil2⟩ := run_append_own (P := Try.prog) w1 (w.heap.size + 1) 23 23 25 i0 _ 2 40 Try.underlying23 hi hz0 hz1 hz2 rfl (by decide) _ _ xs hownw1
          ⟨g1, 0, none⟩ (sizeL [l[k]]) cap1 ys hyl (fun j u hj => by
            have := hcel j u hj
            by_cases h0 : j = 0
            · subst h0; simpa [Addr.add] using this
            · simpa [Addr.add, h0] using this) HROW1.out.one (by unfold maxLen; omega) (by omega) (by have := hb1.size; omega)
        clear hnil2
        have hb2 : Hid (Below (w.heap.size + 1) (w.alloc (Obj.cells #[Value.string s, Value.slice (some ⟨b, o, none⟩) l.length c] 25)) w2) :=
          (hb.trans (hb1.mono hsz)).grown hgr2 (by have := hb1.size; omega) (fun j hj => (hownw1.lt j hj).1)
        have HR2 : Hid (RowT w X (⟨s, l⟩ :: preL (l.take (k + 1))) (xs ++ ys)) := by
          have := HROW.out.append HROW1.out
          unfold Hid
          rw [preL_take l k hlt]
          simpa using this
        have hown3 := hide hown2
        clear hown1 hownw1 hown2 hgr2 hcel hyl
        have HA := hide hr2
        clear hr2
        go_wp2_with (at_builtin; refine wpList_append_eq rfl _ _ _ _ rfl rfl rfl HA.out ?_)
        go_roundw
        case rel => exact ⟨k + 1, xs ++ ys, by omega, by go_num, by have := hown3.out; rw [Hst.out, ← Nat.add_assoc]; exact this, HR2.out, hb2.out⟩
        case measure => simp [intOf]; omega
      · have htk : l.take k = l := List.take_of_length_le (by omega)
        rw [htk] at hown
        have hown3 := hide hown
        have hr3 : Hid (RowT w X0 (preL [(⟨s, l⟩ : Tm)]) xs) := by
          have := HROW.out
          rw [htk] at this
          have h2 : RowT w X0 (⟨s, l⟩ :: preL l) xs := this.imp fun a l h => h.mono fun b hb _ => hXX b hb
          unfold Hid
          simpa [preL] using h2
        clear hown
        go_wp2_with fail
        go_ret
        exact ⟨_, xs, rfl, ownsRow_base hown3.out (by omega), hr3.out, below_box hb⟩
#print axioms knots_any
end Go.Proofs.Ytmkomemjhfafnaa
