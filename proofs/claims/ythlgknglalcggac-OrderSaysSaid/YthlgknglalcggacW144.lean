/- Walks: of each knot the number behind all within it, as the document counts. -/
import Derived.Test.YthlgknglalcggacW142
import Derived.Test.YthlgknglalcggacZOrderSaysOwn
namespace Go.Proofs.Ythlgknglalcggac
open Go.RowKit
set_option linter.unusedSimpArgs false
set_option linter.unusedVariables false
set_option maxRecDepth 8000

theorem infoI4 : (Try.prog.info? 3).map (fun i => (i.zero, i.size, i.bytes)) = some (some (.int .i64 0), 1, 8) := by kernel_rfl
theorem ints_append {w : World} {B : Nat} {q : Value} {acc : List Int} (z : Int) (h : w.ownsRow B 3 1 q acc.length (acc.map fun z => .int .i64 z)) (hB : B ≤ w.heap.size) (hn : acc.length ≤ 1000000) (A : Nat) (hA : w.heap.size = A) :
    ∃ g cap w3, (Builtin.append_ #[34, 34] 34 #[q, .slice (some ⟨A, 0, none⟩) 1 1]).run Try.prog (w.alloc (.cells #[.int .i64 z] 3)) = .ok (.slice (some ⟨g, 0, none⟩) (acc.length + 1) cap) w3 ∧ w3.ownsRow B 3 1 (.slice (some ⟨g, 0, none⟩) (acc.length + 1) cap) (acc ++ [z]).length ((acc ++ [z]).map fun z => .int .i64 z) ∧ (w.alloc (.cells #[.int .i64 z] 3)).grownBy w3 q.ownBlock := by
  subst hA
  obtain ⟨i0, hi, hz0, hz1, hz2⟩ := info_parts infoI4
  obtain ⟨g, cap, w3, hr, ho, hg, hat, hlt⟩ := run_append_lies (P := Try.prog) (w := w.alloc (.cells #[.int .i64 z] 3)) 34 34 B 3 i0 _ 1 8 Try.underlying34 hi hz0 hz1 hz2 rfl (by decide) q acc.length (acc.map fun z => .int .i64 z) (h.alloc _)
    ⟨w.heap.size, 0, none⟩ 1 1 [.int .i64 z] rfl (World.news_of_block (cs := #[.int .i64 z]) (heap_alloc_new w _)) (fun x hx => by simp at hx; subst hx; rfl) (by decide) (by unfold maxLen; omega) (by omega) (by simp; omega) _ rfl
  exact ⟨g, cap, w3, hr, by simpa using ho, hg⟩
/-- The j-th ends there. -/
def endAt (t : Tm) (j : Nat) : Int := (j : Int) + (sizeL [(preL [t]).getD j ⟨⟨#[]⟩, []⟩] : Int)
def endK (t : Tm) (k : Nat) : List Int := (List.range k).map (endAt t)
theorem endK_len (t : Tm) (k : Nat) : (endK t k).length = k := by simp [endK]
theorem endK_push (t : Tm) (k : Nat) : endK t (k + 1) = endK t k ++ [endAt t k] := by simp [endK, List.range_succ]
theorem endK_get (t : Tm) (n k : Nat) (h : k < n) : (endK t n)[k]'(by rw [endK_len]; exact h) = endAt t k := by simp [endK]
theorem endAt_get {t : Tm} {j : Nat} (h : j < (preL [t]).length) : endAt t j = (j : Int) + (sizeL [(preL [t])[j]] : Int) := by
  unfold endAt
  have e : (preL [t]).getD j ⟨⟨#[]⟩, []⟩ = (preL [t])[j] := by simp [List.getD, h]
  rw [e]
def EnInv (t : Tm) (w w1 : World) (u i : Value) (wr : World) : Prop := ∃ k : Nat, k ≤ sizeL [t] ∧ i = .int .i64 (k : Int) ∧ wr.ownsRow w1.heap.size 3 1 u (endK t k).length ((endK t k).map fun z => .int .i64 z) ∧ Below w1.heap.size w1 wr
set_option maxHeartbeats 2000000 in
theorem ends_any (t : Tm) (v : Value) (w : World) (X : Nat → Prop) (hz : sizeL [t] ≤ 20000) (hv : TV w X v t) :
    Calls Try.prog 38 #[v] w fun e w' => ∃ u, e = .returned u ∧ LV (fun z => .int .i64 z) w' (fun b => w.heap.size ≤ b) u (endK t (sizeL [t])) ∧ Below w.heap.size w w' := by
  have HV := hide (hv.mono (Y := fun b => X b ∧ b < w.heap.size) fun b h1 h2 => ⟨h1, h2⟩)
  obtain ⟨a, c, rfl, hs⟩ := hv
  clear hs
  go_enter Try.func38, Try.ntmps38
  go_wp2_with fail
  refine (knots_any t _ _ _ (by exact HV.out.alloc _) (by omega)).mono ?_
  rintro e w1 ⟨v1, xs, rfl, hown, hrow, hb1⟩
  have B1 := hide (((Below.refl w.heap.size w).alloc (Nat.le_refl _) (.cells #[.string t.name, .slice a t.args.length c] 25)).trans (hb1.mono (by simp)))
  have hpos := size_pos t
  obtain ⟨g, cap, rfl, hg, hglt, hc⟩ := owned_val hown hpos
  have HROW : Hid (RowT w1 (fun b => X b ∧ b < w.heap.size) (preL [t]) xs) := hrow.imp fun a l h => h.later hb1
  have HC := hide hc
  have hpl := preL_len0 [t]
  clear hown hrow hc hb1
  go_wp2_with fail
  go_loopw [4, 5] (fun u i wr => EnInv t w w1 u i wr) (fun u i wr => sizeL [t] - (intOf i).toNat)
  case atStart => exact ⟨0, Nat.zero_le _, rfl, World.ownsRow_nil _ _ _ _, Below.refl _ _⟩
  case round =>
    obtain ⟨k, hk, rfl, hown, hb⟩ := hrel
    have HOWN := hide hown
    have HB := hide hb
    by_cases hlt : k < sizeL [t]
    · have hlti : (k : Int) < (sizeL [t] : Int) := by omega
      have hlp : k < (preL [t]).length := by omega
      obtain ⟨d0, a', c', d1, hs⟩ := HROW.out.get k hlp
      have e0 : wr.cell? ⟨g, k * 2, none⟩ = some (.string (preL [t])[k].name) := (hb.cell (p := ⟨g, k * 2, none⟩) hglt).trans (HC.out _ _ d0)
      have e1 : wr.cell? ⟨g, k * 2 + 1, none⟩ = some (.slice a' (preL [t])[k].args.length c') := (hb.cell (p := ⟨g, k * 2 + 1, none⟩) hglt).trans (HC.out _ _ d1)
      have HS := hide (hs.later hb)
      have hsz : sizeL [(preL [t])[k]] ≤ sizeL [t] := by
        have := kid_end [t] k _ (List.getElem?_eq_getElem hlp)
        omega
      have HEK : Hid (endK t (k + 1) = endK t k ++ [(k : Int) + (sizeL [(preL [t])[k]] : Int)]) := by unfold Hid; rw [endK_push, endAt_get hlp]
      generalize (preL [t])[k] = x at *
      clear hs d0 d1 hown hb
      go_wp2_with fail
      refine (knots_any x _ _ _ ⟨a', c', rfl, HS.out⟩ (by omega)).mono ?_
      rintro e w2 ⟨v2, xs2, rfl, hown2, _, hb2⟩
      obtain ⟨g2, cap2, rfl, _, _, _⟩ := owned_val hown2 (size_pos x)
      have OW2 := HOWN.out.kept (w' := w2) (row := none) ⟨hb2.os, hb2.tape, hb2.output, hb2.size, fun j hj _ => hb2.block j hj⟩ (by rcases Option.eq_none_or_eq_some (Value.ownBlock u4) with h | ⟨x, h⟩; exact Or.inl h; exact Or.inr (by rw [h]; simp))
      have B2 := hide (HB.out.trans (hb2.mono HB.out.size))
      have hekl := endK_len t k
      obtain ⟨g5, cap5, w5, hrun, hown5, hg5⟩ := ints_append ((k : Int) + (sizeL [x] : Int)) OW2 B2.out.size (by omega) _ rfl
      rw [hekl] at hrun hown5
      have HRUN := hide hrun
      have HOWN5 := hide hown5
      have HB5 : Hid (Below w1.heap.size w1 w5) := (B2.out.alloc B2.out.size _).grown hg5 (by have := B2.out.size; simp; omega) (fun j hj => (OW2.lt j hj).1)
      clear hrun hown5 hg5 OW2 hb2 hown2
      go_wp2_with (at_builtin; refine wpList_append_eq rfl _ _ _ _ rfl rfl rfl HRUN.out ?_)
      go_roundw
      case rel => exact ⟨k + 1, by omega, by go_num, by rw [HEK.out]; exact HOWN5.out, HB5.out⟩
      case measure => simp [intOf]; omega
    · have hkk : k = sizeL [t] := by omega
      subst hkk
      have HL := hide (LV.of_own HOWN.out)
      go_wp2_with fail
      go_ret
      exact ⟨_, rfl, HL.out.mono (fun b hb _ => by have := B1.out.size; omega), B1.out.trans (HB.out.mono B1.out.size)⟩
#print axioms ends_any
end Go.Proofs.Ythlgknglalcggac
