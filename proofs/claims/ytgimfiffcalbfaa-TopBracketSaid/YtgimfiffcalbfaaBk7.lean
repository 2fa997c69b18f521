/- Walks: terms of s, k, i, X and a constant, out of raw numbers. -/
import Derived.Test.YtgimfiffcalbfaaW29
import Derived.Test.YtgimfiffcalbfaaCb2
namespace Go.Proofs.Ytgimfiffcalbfaa
open Go.RowKit
set_option linter.unusedSimpArgs false
set_option linter.unusedVariables false
set_option maxRecDepth 8000

/-- A term put together by ap, small, of new memory. -/
def CgPost (w : World) (i m : Nat) (e : Ending) (w' : World) : Prop :=
  ∃ (a : Option Addr) (c n : Nat) (t : Tm), e = .returned (.tuple #[.agg #[.string t.name, .slice a t.args.length c], .int .i64 (n : Int)]) ∧ Sl w' (fun b => w.heap.size ≤ b) a t.args ∧ isC t = true ∧ errL [t] = 0 ∧ sizeL [t] ≤ top m ∧ i ≤ n ∧ n ≤ i + top m ∧ Below w.heap.size w w'
theorem cg_end {w w7 : World} {i m n : Nat} {t : Tm} {a : Option Addr} {c : Nat} (hs : Sl w7 (fun b => w.heap.size + 1 ≤ b) a t.args) (hB : Below w.heap.size w w7) (hc : isC t = true) (he : errL [t] = 0) (hz : sizeL [t] ≤ top m) (hn : i ≤ n) (hn' : n ≤ i + top m) (u u' : Value) :
    CgPost w i m (.returned (.tuple #[.agg #[.string t.name, .slice a t.args.length c], .int .i64 (n : Int)])) ((w7.setCell ⟨w.heap.size, 0, none⟩ u).setCell ⟨w.heap.size, 1, none⟩ u') := by
  refine ⟨a, c, n, t, rfl, ?_, hc, he, hz, hn, hn', (hB.setCell (p := ⟨w.heap.size, 0, none⟩) (by simp) _).setCell (p := ⟨w.heap.size, 1, none⟩) (by simp) _⟩
  refine (hs.kept fun b hb => ?_).mono fun b hb _ => by omega
  have hne : b ≠ w.heap.size := by omega
  rw [Below.heap_setCell _ _ _ _ (by simpa using hne), Below.heap_setCell _ _ _ _ (by simpa using hne)]
theorem err_ap {f x : Tm} (hf : errL [f] = 0) (hx : errL [x] = 0) : errL [apT f x] = 0 := by
  unfold apT
  refine err_node (by decide) (by decide) ?_
  rw [errL_cons, if_pos hf]; exact hx

theorem pick_sev (k : Nat) (hk : k < 7) : ∃ s, errL [(⟨s, []⟩ : Tm)] = 0 ∧ ∀ w : World, (w.alloc (.cells #[.string ⟨#[115]⟩, .string ⟨#[107]⟩, .string ⟨#[105]⟩, .string ⟨#[88]⟩, .string ⟨#[88]⟩, .string ⟨#[99, 49]⟩, .string ⟨#[88]⟩] 9)).cell? ⟨w.heap.size, k, none⟩ = some (.string s) := by
  have hk' : k < ([⟨#[115]⟩, ⟨#[107]⟩, ⟨#[105]⟩, ⟨#[88]⟩, ⟨#[88]⟩, ⟨#[99, 49]⟩, ⟨#[88]⟩] : List ByteArray).length := by simpa using hk
  refine ⟨([⟨#[115]⟩, ⟨#[107]⟩, ⟨#[105]⟩, ⟨#[88]⟩, ⟨#[88]⟩, ⟨#[99, 49]⟩, ⟨#[88]⟩] : List ByteArray)[k], err_leaf ((show ∀ s ∈ ([⟨#[115]⟩, ⟨#[107]⟩, ⟨#[105]⟩, ⟨#[88]⟩, ⟨#[88]⟩, ⟨#[99, 49]⟩, ⟨#[88]⟩] : List ByteArray), nameB s = true by decide) _ (List.getElem_mem hk')), fun w => ?_⟩
  have h := heap_alloc_new w (.cells (([⟨#[115]⟩, ⟨#[107]⟩, ⟨#[105]⟩, ⟨#[88]⟩, ⟨#[88]⟩, ⟨#[99, 49]⟩, ⟨#[88]⟩] : List ByteArray).map Value.string).toArray 9)
  refine (Lib.cell_of_heap h k).trans ?_
  rw [List.getElem?_toArray, List.getElem?_map, List.getElem?_eq_getElem hk']
  rfl

set_option maxHeartbeats 4000000 in
theorem combGrow_any (zs : List Int) (hr : ∀ z ∈ zs, Rng z) (hzl : zs.length ≤ 1000000) : ∀ (m i : Nat) (u : Value) (w : World) (X : Nat → Prop), PV w X u zs → m ≤ 100 → i + top m ≤ 1000 →
    Calls Try.prog 13 #[u, .int .i64 (i : Int), .int .i64 (m : Int)] w fun e w' => CgPost w i m e w' := by
  intro m
  induction m using Nat.strongRecOn with
  | ind m ih =>
    intro i u w X hu hm hi
    have IH := hide ih
    clear ih
    have HU := hide hu
    clear hu
    go_enter Try.func13, Try.ntmps13
    go_wp2_with fail
    refine (raw_any zs _ _ X (by exact HU.out.alloc _) hr i (by omega) hzl).mono ?_
    rintro e w1 ⟨c, rfl, hc, hb1⟩
    have B1 := hide (((Below.refl w.heap.size w).alloc (Nat.le_refl _) (.cells #[.string ⟨#[]⟩, .slice none 0 0] 25)).trans (hb1.mono (by simp)))
    have R1 := hide ((Blk.new w #[.string ⟨#[]⟩, .slice none 0 0] 25).below hb1 (by simp))
    clear hb1
    by_cases h3 : m < 3
    · go_wp2_with fail
      refine (pick_any _ 7 (by decide) (by decide) ⟨by omega, by omega⟩ _).mono ?_
      rintro e w2 ⟨k3, rfl, hk3, rfl⟩
      obtain ⟨s5, hes5, hs6⟩ := pick_sev k3 hk3
      have hk4 : (k3 : Int) < 7 := by omega
      have HE5 := hide hes5
      clear hes5
      go_wp2_with fail
      refine (leaf_any _ _).mono ?_
      rintro e w4 ⟨rfl, hb4⟩
      have R4 := hide ((R1.out.alloc _).below hb4 (by have := R1.out.lt; simp; omega))
      have B4 := hide ((B1.out.alloc B1.out.size _).trans (hb4.mono (by have := B1.out.size; simp; omega)))
      clear hb4 hs6
      have r0 : w4.cell? ⟨w.heap.size, 0, none⟩ = some (.string ⟨#[]⟩) := R4.out.cell 0
      have r1 : w4.cell? ⟨w.heap.size, 1, none⟩ = some (.slice none 0 0) := R4.out.cell 1
      have rf := R4.out.frozen
      go_wp2_with fail
      refine bodyPost_ret (v := .tuple #[.agg #[.string s5, .slice none 0 0], .int .i64 ((i : Int) + 1)]) (by simp [results, Try.results13, go_sem, World.cell?_setCell_same, World.cell?_setCell_other, r0, r1]) rfl ?_
      exact cg_end (t := ⟨s5, []⟩) (n := i + 1) ⟨by simp, Or.inl rfl⟩ B4.out (isC_leaf _) HE5.out (by have := top_pos m; simp [sizeL]; omega) (by omega) (by have := top_pos m; omega) _ _
    · go_wp2_with fail
      refine (pick_any _ 5 (by decide) (by decide) ⟨by omega, by omega⟩ _).mono ?_
      rintro e w1b ⟨k1, rfl, hk1, rfl⟩
      by_cases h1 : k1 = 0
      · subst h1
        go_wp2_with fail
        refine (pick_any _ 7 (by decide) (by decide) ⟨by omega, by omega⟩ _).mono ?_
        rintro e w2 ⟨k3, rfl, hk3, rfl⟩
        obtain ⟨s5, hes5, hs6⟩ := pick_sev k3 hk3
        have hk4 : (k3 : Int) < 7 := by omega
        have HE5 := hide hes5
        clear hes5
        go_wp2_with fail
        refine (leaf_any _ _).mono ?_
        rintro e w4 ⟨rfl, hb4⟩
        have R4 := hide ((R1.out.alloc _).below hb4 (by have := R1.out.lt; simp; omega))
        have B4 := hide ((B1.out.alloc B1.out.size _).trans (hb4.mono (by have := B1.out.size; simp; omega)))
        clear hb4 hs6
        have r0 : w4.cell? ⟨w.heap.size, 0, none⟩ = some (.string ⟨#[]⟩) := R4.out.cell 0
        have r1 : w4.cell? ⟨w.heap.size, 1, none⟩ = some (.slice none 0 0) := R4.out.cell 1
        have rf := R4.out.frozen
        go_wp2_with fail
        refine bodyPost_ret (v := .tuple #[.agg #[.string s5, .slice none 0 0], .int .i64 ((i : Int) + 1)]) (by simp [results, Try.results13, go_sem, World.cell?_setCell_same, World.cell?_setCell_other, r0, r1]) rfl ?_
        exact cg_end (t := ⟨s5, []⟩) (n := i + 1) ⟨by simp, Or.inl rfl⟩ B4.out (isC_leaf _) HE5.out (by have := top_pos m; simp [sizeL]; omega) (by omega) (by have := top_pos m; omega) _ _
      · obtain ⟨m, rfl⟩ : ∃ m', m = m' + 1 := ⟨m - 1, by omega⟩
        obtain ⟨h, hh, hh2⟩ : ∃ h : Nat, ((m : Int) + 1) / 2 = h ∧ h = (m + 1) / 2 := ⟨(m + 1) / 2, by omega, rfl⟩
        have hth := top_half (m := m) (by omega) hh2
        have hhb : h < m + 1 ∧ h ≤ 100 := by omega
        have hk1' : ((k1 : Int) == 0) = false := beq_eq_false_iff_ne.2 (by omega)
        clear hh2
        go_wp2_with fail
        refine (IH.out h (by omega) (i + 1) _ _ X (by exact HU.out.later B1.out) (by omega) (by omega)).mono ?_
        rintro e w5 ⟨a5, c5, n5, t5, rfl, hs5, hi5, he5, hz5, hn5, hn5', hb5⟩
        have R5 := hide (R1.out.below hb5 R1.out.lt)
        have B5 := hide (B1.out.trans (hb5.mono B1.out.size))
        have hlt1 : w.heap.size < w1b.heap.size := R1.out.lt
        have S5 : Hid (Sl w5 (fun b => w.heap.size + 1 ≤ b) a5 t5.args) := hs5.mono fun b h1 _ => by omega
        have G5 := hide (And.intro hi5 he5)
        have X5 := hide (Blk.new w5 #[.string t5.name, .slice a5 t5.args.length c5] 25)
        have hlt5 : w.heap.size < w5.heap.size := R5.out.lt
        clear hb5 hs5 hi5 he5
        go_wp2_with fail
        refine (IH.out h (by omega) n5 _ _ X (by exact HU.out.later (B5.out.alloc B5.out.size _)) (by omega) (by omega)).mono ?_
        rintro e w6 ⟨a6, c6, n6, t6, rfl, hs6, hi6, he6, hz6, hn6, hn6', hb6⟩
        have R6 := hide ((R5.out.alloc _).below hb6 (by simp; omega))
        have X6 := hide (X5.out.below hb6 (by simp))
        have B6 := hide ((B5.out.alloc B5.out.size _).trans (hb6.mono (by have := B5.out.size; simp; omega)))
        have S56 := hide ((S5.out.later ((Below.refl w5.heap.size w5).alloc (Nat.le_refl _) _)).later hb6)
        have S6 : Hid (Sl w6 (fun b => w.heap.size + 1 ≤ b) a6 t6.args) := hs6.mono fun b h1 _ => by simp at h1; omega
        have G6 := hide (And.intro hi6 he6)
        have hlt6 : w5.heap.size < w6.heap.size := X6.out.lt
        clear hb6 hs6 hi6 he6
        have Y6 := hide (Blk.new w6 #[.string t6.name, .slice a6 t6.args.length c6] 25)
        have x0 : ∀ o, (w6.alloc o).cell? ⟨w5.heap.size, 0, none⟩ = some (.string t5.name) := fun o => (X6.out.alloc o).cell 0
        have x1 : ∀ o, (w6.alloc o).cell? ⟨w5.heap.size, 1, none⟩ = some (.slice a5 t5.args.length c5) := fun o => (X6.out.alloc o).cell 1
        go_wp2_with fail
        refine (put2_any t5 t6 _ _ _ (fun b => w.heap.size + 1 ≤ b) (by exact ⟨a5, c5, rfl, S56.out.later ((Below.refl w6.heap.size w6).alloc (Nat.le_refl _) _)⟩) (by exact ⟨a6, c6, rfl, S6.out.later ((Below.refl w6.heap.size w6).alloc (Nat.le_refl _) _)⟩)).mono ?_
        rintro e w7 ⟨v7, rfl, ⟨a7, c7, rfl, hs7⟩, hb7⟩
        have R7 := hide ((R6.out.alloc _).below hb7 (by simp; omega))
        have B7 := hide ((B6.out.alloc B6.out.size _).trans (hb7.mono (by have := B6.out.size; simp; omega)))
        have S7 : Hid (Sl w7 (fun b => w.heap.size + 1 ≤ b) a7 (apT t5 t6).args) := hs7.mono fun b h _ => by
          rcases h with h | h
          · exact h
          · simp at h; omega
        have r0 : w7.cell? ⟨w.heap.size, 0, none⟩ = some (.string ⟨#[]⟩) := R7.out.cell 0
        have r1 : w7.cell? ⟨w.heap.size, 1, none⟩ = some (.slice none 0 0) := R7.out.cell 1
        have rf := R7.out.frozen
        clear hs7 hb7 x0 x1
        go_wp2_with fail
        refine bodyPost_ret (v := .tuple #[.agg #[.string (apT t5 t6).name, .slice a7 (apT t5 t6).args.length c7], .int .i64 (n6 : Int)]) (by simp [results, Try.results13, go_sem, World.cell?_setCell_same, World.cell?_setCell_other, r0, r1]) rfl ?_
        exact cg_end (n := n6) S7.out B7.out (by rw [isC_ap, G5.out.1, G6.out.1]; rfl) (err_ap G5.out.2 G6.out.2) (by have := size_ap t5 t6; omega) (by omega) (by omega) _ _

def CfPost (w : World) (m : Nat) (e : Ending) (w' : World) : Prop :=
  ∃ (a : Option Addr) (c : Nat) (t : Tm), e = .returned (.agg #[.string t.name, .slice a t.args.length c]) ∧ Sl w' (fun b => w.heap.size ≤ b) a t.args ∧ isC t = true ∧ errL [t] = 0 ∧ sizeL [t] ≤ top m ∧ Below w.heap.size w w'
theorem cf_end {w w7 : World} {m : Nat} {t : Tm} {a : Option Addr} {c : Nat} {o : Obj} (hs : Sl w7 (fun b => w.heap.size + 1 ≤ b) a t.args) (hB : Below w.heap.size w w7) (hc : isC t = true) (he : errL [t] = 0) (hz : sizeL [t] ≤ top m) (u u' : Value) :
    CfPost w m (.returned (.agg #[.string t.name, .slice a t.args.length c])) (((w7.setCell ⟨w.heap.size, 0, none⟩ u).setCell ⟨w.heap.size, 1, none⟩ u').alloc o) := by
  have h1 : Below w.heap.size w ((w7.setCell ⟨w.heap.size, 0, none⟩ u).setCell ⟨w.heap.size, 1, none⟩ u') := (hB.setCell (p := ⟨w.heap.size, 0, none⟩) (by simp) _).setCell (p := ⟨w.heap.size, 1, none⟩) (by simp) _
  refine ⟨a, c, t, rfl, ?_, hc, he, hz, h1.alloc h1.size _⟩
  have h2 : Sl ((w7.setCell ⟨w.heap.size, 0, none⟩ u).setCell ⟨w.heap.size, 1, none⟩ u') (fun b => w.heap.size + 1 ≤ b) a t.args := by
    refine hs.kept fun b hb => ?_
    have hne : b ≠ w.heap.size := by omega
    rw [Below.heap_setCell _ _ _ _ (by simpa using hne), Below.heap_setCell _ _ _ _ (by simpa using hne)]
  exact (h2.later ((Below.refl _ _).alloc (Nat.le_refl _) o)).mono fun b h _ => by omega
set_option maxHeartbeats 2000000 in
theorem combFrom_any (zs : List Int) (hr : ∀ z ∈ zs, Rng z) (hzl : zs.length ≤ 1000000) (m i : Nat) (u : Value) (w : World) (X : Nat → Prop) (hu : PV w X u zs) (hm : m ≤ 100) (hi : i + top m ≤ 1000) :
    Calls Try.prog 4 #[u, .int .i64 (i : Int), .int .i64 (m : Int)] w fun e w' => CfPost w m e w' := by
  have HU := hide hu
  clear hu
  go_enter Try.func4, Try.ntmps4
  go_wp2_with fail
  refine (combGrow_any zs hr hzl m i _ _ X (by exact HU.out.alloc _) hm hi).mono ?_
  rintro e w5 ⟨a5, c5, n5, t5, rfl, hs5, hi5, he5, hz5, hn5, hn5', hb5⟩
  have B5 := hide (((Below.refl w.heap.size w).alloc (Nat.le_refl _) (.cells #[.string ⟨#[]⟩, .slice none 0 0] 25)).trans (hb5.mono (by simp)))
  have R5 := hide ((Blk.new w #[.string ⟨#[]⟩, .slice none 0 0] 25).below hb5 (by simp))
  have hlt5 : w.heap.size < w5.heap.size := R5.out.lt
  have S5 : Hid (Sl w5 (fun b => w.heap.size + 1 ≤ b) a5 t5.args) := hs5.mono fun b h1 _ => by simp at h1; omega
  have G5 := hide (And.intro hi5 (And.intro he5 hz5))
  have r0 : ∀ o, (w5.alloc o).cell? ⟨w.heap.size, 0, none⟩ = some (.string ⟨#[]⟩) := fun o => (R5.out.alloc o).cell 0
  have r1 : ∀ o, (w5.alloc o).cell? ⟨w.heap.size, 1, none⟩ = some (.slice none 0 0) := fun o => (R5.out.alloc o).cell 1
  have r0w : w5.cell? ⟨w.heap.size, 0, none⟩ = some (.string ⟨#[]⟩) := R5.out.cell 0
  have r1w : w5.cell? ⟨w.heap.size, 1, none⟩ = some (.slice none 0 0) := R5.out.cell 1
  have rfw : ∀ i, w5.frozen? ⟨w.heap.size, i, none⟩ = false := R5.out.frozen
  have rf : ∀ o i, (w5.alloc o).frozen? ⟨w.heap.size, i, none⟩ = false := fun o => (R5.out.alloc o).frozen
  have q := Blk.new w5 #[.string t5.name, .slice a5 t5.args.length c5] 25
  have q0 : (w5.alloc (.cells #[.string t5.name, .slice a5 t5.args.length c5] 25)).cell? ⟨w5.heap.size, 0, none⟩ = some (.string t5.name) := q.cell 0
  have q1 : (w5.alloc (.cells #[.string t5.name, .slice a5 t5.args.length c5] 25)).cell? ⟨w5.heap.size, 1, none⟩ = some (.slice a5 t5.args.length c5) := q.cell 1
  clear hs5 hi5 he5 hz5 hb5 q
  go_wp2_with fail
  refine bodyPost_ret (v := .agg #[.string t5.name, .slice a5 t5.args.length c5]) (by simp [results, Try.results4, go_sem, World.cell?_setCell_same, World.cell?_setCell_other, r0w, r1w, hlt5, World.cell?_alloc_old]) rfl ?_
  exact cf_end S5.out B5.out G5.out.1 G5.out.2.1 G5.out.2.2 _ _
#print axioms combFrom_any
end Go.Proofs.Ytgimfiffcalbfaa
