/- Walks: what stands at a place, as the document says. -/
import Derived.Test.YthlgknglalcggaaW7
import Derived.BigQuiet
import Derived.Deep.RegionHeld
namespace Go.Proofs.Ythlgknglalcggaa
open Go.RowKit
set_option linter.unusedSimpArgs false
set_option linter.unusedVariables false

theorem isome_none {α : Type} {o : Option α} (h : o = none) : o.isSome = false := by rw [h]; rfl
theorem isome_some {α : Type} {o : Option α} {x : α} (h : o = some x) : o.isSome = true := by rw [h]; rfl

theorem PV.tail {w : World} {X : Nat → Prop} {b o c : Nat} {z : Int} {zs : List Int} (hl : zs.length + 1 ≤ 9223372036854775807 ∧ zs.length + 1 ≤ c) (hx : X b) (h : ∀ i (h : i < (z :: zs).length), w.cell? ⟨b, o + i, none⟩ = some (.int .i64 (z :: zs)[i])) :
    PV w X (.slice (some ⟨b, o + 1, none⟩) zs.length (c - 1)) zs := by
  refine ⟨_, _, rfl, by omega, Or.inr ⟨b, o + 1, rfl, hx, fun i hi => ?_⟩⟩
  have := h (i + 1) (by simpa using hi)
  rw [show o + 1 + i = o + (i + 1) by omega]
  simpa using this

theorem TV.back {w w' : World} {X : Nat → Prop} {v : Value} {t : Tm} {B : Nat} (h : TV w' X v t) (hb : Below B w w') (hX : ∀ b, X b → b < B) : TV w X v t := by
  obtain ⟨a, c, e, h⟩ := h
  exact ⟨a, c, e, h.back hb hX⟩

theorem tvform {w : World} {X : Nat → Prop} {v' : Value} {o : Option Tm} (h1 : ∀ x, o = some x → TV w X v' x) (h2 : o = none → v' = zeroT) : ∃ s a n c, v' = .agg #[.string s, .slice a n c] := by
  cases o with
  | none => exact ⟨_, _, _, _, h2 rfl⟩
  | some x => obtain ⟨a, c, e, _⟩ := h1 x rfl; exact ⟨_, _, _, _, e⟩

theorem below_tv {w w' : World} {X : Nat → Prop} {v : Value} {t : Tm} (hb : Below w.heap.size w w') (h : TV w X v t) : TV w' X v t := h.later hb

theorem res_cell0 {w w1 : World} {o1 : Obj} {x0 x1 : Value} {T n : Nat} (hb : Below (((w.alloc o1).alloc (.cells #[x0, x1] T)).drewN n).heap.size (((w.alloc o1).alloc (.cells #[x0, x1] T)).drewN n) w1) : w1.cell? ⟨w.heap.size + 1, 0, none⟩ = some x0 := by rw [hb.cell (p := ⟨_, _, none⟩) (by simp)]; simp
theorem res_cell1 {w w1 : World} {o1 : Obj} {x0 x1 : Value} {T n : Nat} (hb : Below (((w.alloc o1).alloc (.cells #[x0, x1] T)).drewN n).heap.size (((w.alloc o1).alloc (.cells #[x0, x1] T)).drewN n) w1) : w1.cell? ⟨w.heap.size + 1, 1, none⟩ = some x1 := by rw [hb.cell (p := ⟨_, _, none⟩) (by simp)]; simp
theorem res_frozen {w w1 : World} {o1 : Obj} {x0 x1 : Value} {T n : Nat} (hb : Below (((w.alloc o1).alloc (.cells #[x0, x1] T)).drewN n).heap.size (((w.alloc o1).alloc (.cells #[x0, x1] T)).drewN n) w1) : ∀ i, w1.frozen? ⟨w.heap.size + 1, i, none⟩ = false := by intro i; rw [hb.frozen (p := ⟨_, _, none⟩) (by simp)]; simp

theorem res_box1 {w w1 : World} {y0 y1 : Value} {o2 : Obj} {T n : Nat} (hb : Below (((w.alloc (.cells #[y0, y1] T)).alloc o2).drewN n).heap.size (((w.alloc (.cells #[y0, y1] T)).alloc o2).drewN n) w1) : w1.cell? ⟨w.heap.size, 1, none⟩ = some y1 := by rw [hb.cell (p := ⟨_, _, none⟩) (by simp; omega)]; simp
theorem res_old {w w1 : World} {o1 o2 : Obj} {n : Nat} {p : Addr} {v : Value} (hb : Below (((w.alloc o1).alloc o2).drewN n).heap.size (((w.alloc o1).alloc o2).drewN n) w1) (h : w.cell? p = some v) : w1.cell? p = some v :=
  cell_later ((below_drewN (below2 o1 o2) n).trans (hb.mono (by simp; omega))) h
theorem set2_keep {w : World} {K i j : Nat} {u u' v : Value} {p : Addr} (h : w.cell? p = some v) (hp : p.block ≠ K) : ((w.setCell ⟨K, i, none⟩ u).setCell ⟨K, j, none⟩ u').cell? p = some v := by
  rw [World.cell?_of_block (Below.heap_setCell _ _ _ _ (by simpa using hp)), World.cell?_of_block (Below.heap_setCell _ _ _ _ (by simpa using hp)), h]
theorem held4 {w : World} {K i j : Nat} {u u' v1 v2 v3 v4 : Value} {p1 p2 p3 p4 : Addr} (h : w.cell? p1 = some v1 ∧ w.cell? p2 = some v2 ∧ w.cell? p3 = some v3 ∧ w.cell? p4 = some v4) (h1 : p1.block ≠ K) (h2 : p2.block ≠ K) (h3 : p3.block ≠ K) (h4 : p4.block ≠ K) :
    ((w.setCell ⟨K, i, none⟩ u).setCell ⟨K, j, none⟩ u').cell? p1 = some v1 ∧ ((w.setCell ⟨K, i, none⟩ u).setCell ⟨K, j, none⟩ u').cell? p2 = some v2 ∧ ((w.setCell ⟨K, i, none⟩ u).setCell ⟨K, j, none⟩ u').cell? p3 = some v3 ∧ ((w.setCell ⟨K, i, none⟩ u).setCell ⟨K, j, none⟩ u').cell? p4 = some v4 :=
  ⟨set2_keep h.1 h1, set2_keep h.2.1 h2, set2_keep h.2.2.1 h3, set2_keep h.2.2.2 h4⟩

set_option maxHeartbeats 1000000 in
theorem atOf_any (zs : List Int) : ∀ (t : Tm) (v p : Value) (w : World) (X : Nat → Prop), TV w X v t → PV w X p zs →
    Calls Try.prog 14 #[v, p] w fun e w' => ∃ v', e = .returned (.tuple #[v', .bool (atT t zs).isSome]) ∧ (∀ x, atT t zs = some x → TV w X v' x) ∧ (atT t zs = none → v' = zeroT) ∧ Below w.heap.size w w' := by
  induction zs with
  | nil =>
    intro t v p w X hv hp
    obtain ⟨a, c, rfl, hs⟩ := hv
    obtain ⟨pa, pc, rfl, hzl, hz⟩ := hp
    have HS : Hid (atT t [] = some t) := by simp [Hid, atT]
    go_enter Try.func14, Try.ntmps14
    go_wp2_with fail
    refine bodyPost_ret (v := .tuple #[.agg #[.string t.name, .slice a t.args.length c], .bool true]) (by simp [results, Try.results14, go_sem]) rfl ⟨_, by rw [HS.out]; rfl, ?_, ?_, below2 _ _⟩
    · intro x hx
      rw [HS.out] at hx
      obtain rfl := Option.some.inj hx
      exact ⟨a, c, rfl, hs⟩
    · intro h; rw [HS.out] at h; cases h
  | cons z zs ih =>
    intro t v p w X0 hv0 hp0
    have IH := hide ih
    clear ih
    obtain ⟨X, hX, hXX, hv, hp⟩ : ∃ X : Nat → Prop, (∀ b, X b → b < w.heap.size) ∧ (∀ b, X b → X0 b) ∧ TV w X v t ∧ PV w X p (z :: zs) := ⟨fun b => X0 b ∧ b < w.heap.size, fun _ h => h.2, fun _ h => h.1, hv0.mono fun b h1 h2 => ⟨h1, h2⟩, hp0.mono fun b h1 h2 => ⟨h1, h2⟩⟩
    clear hv0 hp0
    obtain ⟨a, c, rfl, hs⟩ := hv
    obtain ⟨pa, pc, rfl, hzl, hz⟩ := hp
    obtain ⟨b, o, rfl, hx, hcell⟩ := hz.resolve_left (fun h => by cases h)
    have h0 := hcell 0 (by simp)
    simp only [Nat.add_zero, List.getElem_cons_zero] at h0
    have hcx := fun o1 o2 => cell_later (below2 (w := w) o1 o2) h0
    have hne : (((z :: zs).length : Nat) : Int) = (zs.length : Int) + 1 := by simp
    have htl := hs.1
    have hzl' : zs.length + 1 ≤ 9223372036854775807 ∧ zs.length + 1 ≤ pc := by simpa using hzl
    obtain ⟨hzl1, hzl2⟩ := hzl'
    simp only [List.length_cons] at *
    by_cases hin : 0 ≤ z ∧ z.toNat < t.args.length
    · obtain ⟨hi0, hi1⟩ := hin
      obtain ⟨b1, o1, a2, c2, rfl, e0, e1, hx2⟩ := hs.get (Below.refl w.heap.size w) (fun _ _ h => h) _ hi1
      have d0 := fun o1 o2 => cell_later (below2 (w := w) o1 o2) e0
      have d1 := fun o1 o2 => cell_later (below2 (w := w) o1 o2) e1
      have e0' := e0
      have e1' := e1
      have HAT : Hid (atT t (z :: zs) = atT (t.args[z.toNat]) zs) := by
        unfold Hid; simp only [atT]; rw [dif_pos ⟨hi0, hi1⟩]
      have hz0 : ¬ z < 0 := by omega
      have hz1 : z < (t.args.length : Int) := by omega
      obtain ⟨sa, HSA, HT⟩ : ∃ sa : Option Addr, Hid ((if pc = 1 then some (⟨b, o, none⟩ : Addr) else some ⟨b, o + 1, none⟩) = sa) ∧ Hid (PV w X (.slice sa zs.length (pc - 1)) zs) := by
        by_cases h1 : pc = 1
        · refine ⟨_, rfl, ?_⟩
          have : zs = [] := List.length_eq_zero_iff.1 (by omega)
          subst this
          exact ⟨_, _, rfl, by simp, Or.inl rfl⟩
        · refine ⟨_, rfl, ?_⟩
          rw [if_neg h1]
          exact PV.tail ⟨hzl1, hzl2⟩ hx hcell
      have HX := hide hx2
      clear hcell
      have HT' : ∀ o1 o2 n, PV (((w.alloc o1).alloc o2).drewN n) X (.slice sa zs.length (pc - 1)) zs := fun o1 o2 n => HT.out.later (below_drewN (below2 _ _) _)
      have hblt : b < w.heap.size := World.block_lt_of_cell? w _ h0
      have hb1lt : b1 < w.heap.size := World.block_lt_of_cell? w _ e0
      clear e0 e1
      have HT' := hide HT'
      by_cases hpc : pc = 1
      all_goals
        have hsa := HSA.out
        first | rw [if_pos hpc] at hsa | rw [if_neg hpc] at hsa
        subst hsa
        try (have hnil : zs = [] := List.length_eq_zero_iff.1 (by omega); subst hnil; subst hpc)
        go_enter Try.func14, Try.ntmps14
        go_wp2_with fail
        go_quiet (fail)
        go_wp2_with fail
        go_region_held (fun w' => w'.cell? ⟨w.heap.size, 1, none⟩ = some (.slice (some ⟨b1, o1, none⟩) t.args.length c) ∧ w'.cell? ⟨b, o, none⟩ = some (.int .i64 z) ∧ w'.cell? ⟨b1, o1 + z.toNat * 2, none⟩ = some (.string t.args[z.toNat].name) ∧ w'.cell? ⟨b1, o1 + z.toNat * 2 + 1, none⟩ = some (.slice a2 t.args[z.toNat].args.length c2)) (first | assumption | (simp [*]; done) | exact held4 hS1 (by simp) (by simp; omega) (by simp; omega) (by simp; omega))
          ((go_at_call 14; refine (IH.out _ _ _ _ X (by exact below_tv (below_drewN (below2 _ _) _) HX.out) (by exact HT'.out _ _ _)).mono ?_; rintro e w1 ⟨v', rfl, hyes, hno, hb1⟩; obtain ⟨s1, a3, n3, c3, rfl⟩ := tvform hyes hno; have f0 := res_cell0 hb1; have f1 := res_cell1 hb1; have f2 := res_frozen hb1; have hS1 := And.intro (res_box1 hb1) (And.intro (res_old hb1 h0) (And.intro (res_old hb1 e0') (res_old hb1 e1')))))
        go_wp2_with fail
        refine bodyPost_ret (v := .tuple #[.agg #[.string s1, .slice a3 n3 c3], .bool _]) (by simp [results, Try.results14, go_sem, f0, f1, World.cell?_setCell_same, World.cell?_setCell_other]; rfl) rfl ⟨_, by rw [HAT.out], ?_, ?_, ?_⟩
        · rw [HAT.out]; intro x hx; exact ((hyes x hx).back (below_drewN (below2 _ _) _) hX).mono fun b hb _ => hXX b hb
        · rw [HAT.out]; exact hno
        · exact (((below_drewN (below2 _ _) _).trans (hb1.mono (by simp; omega))).setCell (by simp) _).setCell (by simp) _
    · have HN : Hid (atT t (z :: zs) = none) := by
          unfold Hid; simp only [atT]; rw [dif_neg hin]
      have hcase : z < 0 ∨ (¬ z < 0 ∧ (t.args.length : Int) ≤ z) := by omega
      rcases hcase with h0 | ⟨h0, h1⟩
      all_goals
        go_enter Try.func14, Try.ntmps14
        go_wp2_with fail
        go_quiet (fail)
        go_wp2_with fail
        refine bodyPost_ret (v := .tuple #[zeroT, .bool false]) (by simp [results, Try.results14, go_sem, zeroT]) rfl ⟨_, by rw [HN.out]; rfl, ?_, fun _ => rfl, ((below_drewN (below2 _ _) _).setCell (by simp) _).setCell (by simp) _⟩
        intro x hx
        rw [HN.out] at hx
        cases hx
#print axioms atOf_any
end Go.Proofs.Ythlgknglalcggaa
