/- Walks: terms without variables out of raw numbers. -/
import Derived.Test.YtdmaijmglblccaaGreatDoorW29
import Derived.Test.YtdmaijmglblccaaGreatDoorOp1
import Derived.Test.YtdmaijmglblccaaGreatDoorZTopClassesOwn
namespace Go.Proofs.YtdmaijmglblccaaGreatDoor
open Go.RowKit
set_option linter.unusedSimpArgs false
set_option linter.unusedVariables false
set_option maxRecDepth 8000

def GrdP (w : World) (i m : Nat) (e : Ending) (w' : World) : Prop :=
  ∃ (a : Option Addr) (c n : Nat) (t : Tm), e = .returned (.tuple #[.agg #[.string t.name, .slice a t.args.length c], .int .i64 (n : Int)]) ∧ Sl w' (fun b => w.heap.size ≤ b) a t.args ∧ sizeL [t] ≤ top m ∧ i ≤ n ∧ n ≤ i + top m ∧ Below w.heap.size w w' ∧ errL [t] = 0 ∧ grd t
theorem grd_leaf {s : ByteArray} (h : varB s = false) : grd ⟨s, []⟩ := fun k hk => by
  simp only [preL, List.append_nil, List.mem_cons, List.not_mem_nil, or_false] at hk
  rw [hk]; exact h
theorem grd_node {s : ByteArray} {l : List Tm} (h : varB s = false) (hl : ∀ x ∈ l, grd x) : grd ⟨s, l⟩ := fun k hk => by
  have e : preL [(⟨s, l⟩ : Tm)] = ⟨s, l⟩ :: preL l := by simp [preL]
  rw [e, List.mem_cons] at hk
  rcases hk with rfl | hk
  · exact h
  · clear e
    induction l with
    | nil => simp [preL] at hk
    | cons t r ih =>
      rw [preL_cons2, List.mem_append] at hk
      rcases hk with hk | hk
      · exact hl t (by simp) k hk
      · exact ih (fun x hx => hl x (by simp [hx])) hk
theorem gleaf {w w' : World} {s : ByteArray} {i m : Nat} (hn : nameB s = true) (hv : varB s = false) (hb : Below w.heap.size w w') : GrdP w i m (.returned (.tuple #[.agg #[.string s, .slice none 0 0], .int .i64 ((i : Int) + 1)])) w' := by
  have := top_pos m
  exact ⟨none, 0, i + 1, ⟨s, []⟩, by simp, ⟨by simp, Or.inl rfl⟩, by simp [sizeL]; omega, by omega, by omega, hb, err_leaf hn, grd_leaf hv⟩
theorem pick_ab (w : World) (T k : Nat) (hk : k < 2) : ∃ s, (nameB s = true ∧ varB s = false) ∧ (w.alloc (.cells #[.string ⟨#[97]⟩, .string ⟨#[98]⟩] T)).cell? ⟨w.heap.size, k, none⟩ = some (.string s) := by
  have h := Blk.new w #[.string ⟨#[97]⟩, .string ⟨#[98]⟩] T
  match k, hk with
  | 0, _ => exact ⟨⟨#[97]⟩, by decide, h.cell 0⟩
  | 1, _ => exact ⟨⟨#[98]⟩, by decide, h.cell 1⟩
theorem gone {w w5 : World} {Z : Nat → Prop} {i m n T : Nat} {a5 : Option Addr} {c5 : Nat} {t5 : Tm} {v0 v1 : Value} {o1 : Obj} (hB : Below w.heap.size w w5) (hlt : w.heap.size < w5.heap.size) (hs : Sl w5 Z a5 t5.args) (hZ : ∀ b, Z b → w.heap.size < b) (hz : sizeL [t5] ≤ top m) (hm : 3 ≤ m + 1) (hn : i ≤ n) (hn' : n ≤ i + 1 + top m) (he : errL [t5] = 0) (hg : grd t5) :
    GrdP w i (m + 1) (.returned (.tuple #[.agg #[.string ⟨#[104]⟩, .slice (some ⟨w5.heap.size + 1, 0, none⟩) 1 1], .int .i64 (n : Int)])) ((((w5.setCell ⟨w.heap.size, 0, none⟩ v0).setCell ⟨w.heap.size, 1, none⟩ v1).alloc o1).alloc (.cells #[.string t5.name, .slice a5 t5.args.length c5] T)) := by
  have ht := top_step hm
  have hb0 : Below w.heap.size w (((w5.setCell ⟨w.heap.size, 0, none⟩ v0).setCell ⟨w.heap.size, 1, none⟩ v1).alloc o1) := ((hB.setCell (by simp) _).setCell (by simp) _).alloc (by simp [World.setCell]; omega) _
  refine ⟨some ⟨w5.heap.size + 1, 0, none⟩, 1, n, ⟨⟨#[104]⟩, [t5]⟩, rfl, ?_, by simp [sizeL] at hz ⊢; omega, hn, by omega, hb0.alloc hb0.size _, err_node (by decide) (by decide) he, grd_node (by decide) (fun x hx => by simp at hx; rw [hx]; exact hg)⟩
  have hnew := heap_alloc_new (((w5.setCell ⟨w.heap.size, 0, none⟩ v0).setCell ⟨w.heap.size, 1, none⟩ v1).alloc o1) (.cells #[.string t5.name, .slice a5 t5.args.length c5] T)
  have e : (((w5.setCell ⟨w.heap.size, 0, none⟩ v0).setCell ⟨w.heap.size, 1, none⟩ v1).alloc o1).heap.size = w5.heap.size + 1 := by simp [World.setCell]
  rw [e] at hnew
  refine sl_one hnew (by omega) ((hs.mono (Y := fun b => Z b ∧ b < w5.heap.size) fun b h1 h2 => ⟨h1, h2⟩).kept (w' := _) fun b hb => ?_) (fun b hb _ => by have := hZ b hb.1; omega)
  have := hZ b hb.1
  rw [Below.heap_alloc _ _ _ (by rw [e]; omega), Below.heap_alloc _ _ _ (by simp [World.setCell]; omega), Below.heap_setCell _ _ _ _ (by simp; omega), Below.heap_setCell _ _ _ _ (by simp; omega)]
theorem gtwo {w w6 : World} {Z6 : Nat → Prop} {i m n T : Nat} {a5 a6 : Option Addr} {c5 c6 : Nat} {t5 t6 : Tm} {v0 v1 : Value} {o1 : Obj} (hB : Below w.heap.size w w6) (hlt : w.heap.size < w6.heap.size) (h5 : Sl w6 (fun b => w.heap.size < b) a5 t5.args) (h6 : Sl w6 Z6 a6 t6.args) (hZ6 : ∀ b, Z6 b → w.heap.size < b) (hz : sizeL [t5] + sizeL [t6] + 1 ≤ top (m + 1)) (hn : i ≤ n) (hn' : n ≤ i + top (m + 1)) (e5 : errL [t5] = 0) (e6 : errL [t6] = 0) (g5 : grd t5) (g6 : grd t6) :
    GrdP w i (m + 1) (.returned (.tuple #[.agg #[.string ⟨#[102]⟩, .slice (some ⟨w6.heap.size + 1, 0, none⟩) 2 2], .int .i64 (n : Int)])) ((((w6.alloc o1).alloc (.cells #[.string t5.name, .slice a5 t5.args.length c5, .string t6.name, .slice a6 t6.args.length c6] T)).setCell ⟨w.heap.size, 0, none⟩ v0).setCell ⟨w.heap.size, 1, none⟩ v1) := by
  have hb0 : Below w.heap.size w ((w6.alloc o1).alloc (.cells #[.string t5.name, .slice a5 t5.args.length c5, .string t6.name, .slice a6 t6.args.length c6] T)) := (hB.alloc hB.size _).alloc (by simp; omega) _
  have hnew : Blk ((((w6.alloc o1).alloc (.cells #[.string t5.name, .slice a5 t5.args.length c5, .string t6.name, .slice a6 t6.args.length c6] T)).setCell ⟨w.heap.size, 0, none⟩ v0).setCell ⟨w.heap.size, 1, none⟩ v1) (w6.heap.size + 1) #[.string t5.name, .slice a5 t5.args.length c5, .string t6.name, .slice a6 t6.args.length c6] T := by
    have h := Blk.new (w6.alloc o1) #[.string t5.name, .slice a5 t5.args.length c5, .string t6.name, .slice a6 t6.args.length c6] T
    have e : (w6.alloc o1).heap.size = w6.heap.size + 1 := by simp
    rw [e] at h
    exact (h.setOther 0 v0 (by omega)).setOther 1 v1 (by omega)
  have hzz : sizeL [(⟨⟨#[102]⟩, [t5, t6]⟩ : Tm)] = 1 + (sizeL [t5] + sizeL [t6]) := by
    rw [size_one, show [t5, t6] = [t5] ++ [t6] from rfl, sizeL_append]
  refine ⟨some ⟨w6.heap.size + 1, 0, none⟩, 2, n, ⟨⟨#[102]⟩, [t5, t6]⟩, rfl, ?_, by omega, hn, by omega, (hb0.setCell (by simp) _).setCell (by simp) _, err_node (by decide) (by decide) (by rw [errL_cons, if_pos e5]; exact e6), grd_node (by decide) (fun x hx => by
    simp at hx
    rcases hx with rfl | rfl
    · exact g5
    · exact g6)⟩
  have key : ∀ {Z : Nat → Prop} {a : Option Addr} {l : List Tm}, Sl w6 Z a l → (∀ b, Z b → w.heap.size < b) → Sl ((((w6.alloc o1).alloc (.cells #[.string t5.name, .slice a5 t5.args.length c5, .string t6.name, .slice a6 t6.args.length c6] T)).setCell ⟨w.heap.size, 0, none⟩ v0).setCell ⟨w.heap.size, 1, none⟩ v1) (fun b => Z b ∧ b < w6.heap.size) a l := fun {Z} _ _ hs hZ => by
    refine (hs.mono (Y := fun b => Z b ∧ b < w6.heap.size) fun b h1 h2 => ⟨h1, h2⟩).kept fun b hb => ?_
    have := hZ b hb.1
    rw [Below.heap_setCell _ _ _ _ (by simp; omega), Below.heap_setCell _ _ _ _ (by simp; omega), Below.heap_alloc _ _ _ (by have := hb.2; simp; omega), Below.heap_alloc _ _ _ hb.2]
  exact sl_two hnew (by omega) (key h5 (fun b hb => hb)) (key h6 hZ6) (fun b hb _ => by have := hb.1; omega) (fun b hb _ => by have := hZ6 b hb.1; omega)
set_option maxHeartbeats 4000000 in
theorem ground_any (zs : List Int) (hr : ∀ z ∈ zs, Rng z) (hzl : zs.length ≤ 1000000) : ∀ (m i : Nat) (u : Value) (w : World) (X : Nat → Prop), PV w X u zs → m ≤ 100 → i + top m ≤ 1000 →
    Calls Tryz.prog 20 #[u, .int .i64 (i : Int), .int .i64 (m : Int)] w fun e w' => GrdP w i m e w' := by
  intro m
  induction m using Nat.strongRecOn with
  | ind m ih =>
    intro i u w X hu hm hi
    have IH := hide ih
    clear ih
    have HU := hide hu
    clear hu
    go_enter Tryz.func20, Tryz.ntmps20
    go_wp2_with fail
    refine (raw_any zs _ _ X (by exact HU.out.alloc _) hr i (by omega) hzl).mono ?_
    rintro e w1 ⟨c, rfl, hc, hb1⟩
    have B1 := hide (((Below.refl w.heap.size w).alloc (Nat.le_refl _) (.cells #[.string ⟨#[]⟩, .slice none 0 0] 25)).trans (hb1.mono (by simp)))
    have R1 := hide ((Blk.new w #[.string ⟨#[]⟩, .slice none 0 0] 25).below hb1 (by simp))
    clear hb1
    by_cases h3 : m < 3
    · go_wp2_with fail
      refine (pick_any _ 2 (by decide) (by decide) ⟨by omega, by omega⟩ _).mono ?_
      rintro e w3 ⟨k3, rfl, hk3, rfl⟩
      obtain ⟨s5, hes5, hs5⟩ := pick_ab w1 9 k3 hk3
      have hs6 : (w1.alloc (.cells #[.string ⟨#[97]⟩, .string ⟨#[98]⟩] 9)).cell? ⟨w1.heap.size, k3, none⟩ = some (.string s5) := hs5
      have hk4 : (k3 : Int) < 2 := by omega
      clear hs5
      go_wp2_with fail
      refine (leaf_any _ _).mono ?_
      rintro e w4 ⟨rfl, hb4⟩
      have R4 := hide ((R1.out.alloc _).below hb4 (by have := R1.out.lt; simp; omega))
      have B4 := hide ((B1.out.alloc B1.out.size _).trans (hb4.mono (by have := B1.out.size; simp; omega)))
      clear hb4 hs6
      have r0 : w4.cell? ⟨w.heap.size, 0, none⟩ = some (.string ⟨#[]⟩) := R4.out.cell 0
      have r1 : w4.cell? ⟨w.heap.size, 1, none⟩ = some (.slice none 0 0) := R4.out.cell 1
      have rf := R4.out.frozen
      go_wp2_with fail
      refine bodyPost_ret (v := .tuple #[.agg #[.string s5, .slice none 0 0], .int .i64 ((i : Int) + 1)]) (by simp [results, Tryz.results20, go_sem, World.cell?_setCell_same, World.cell?_setCell_other, r0, r1]) rfl ?_
      exact gleaf hes5.1 hes5.2 ((B4.out.setCell (by simp) _).setCell (by simp) _)
    · go_wp2_with fail
      refine (pick_any _ 5 (by decide) (by decide) ⟨by omega, by omega⟩ _).mono ?_
      rintro e w1b ⟨k1, rfl, hk1, rfl⟩
      by_cases h1 : k1 < 2
      · go_wp2_with fail
        refine (pick_any _ 2 (by decide) (by decide) ⟨by omega, by omega⟩ _).mono ?_
        rintro e w3 ⟨k3, rfl, hk3, rfl⟩
        obtain ⟨s5, hes5, hs5⟩ := pick_ab w1b 9 k3 hk3
        have hs6 : (w1b.alloc (.cells #[.string ⟨#[97]⟩, .string ⟨#[98]⟩] 9)).cell? ⟨w1b.heap.size, k3, none⟩ = some (.string s5) := hs5
        have hk4 : (k3 : Int) < 2 := by omega
        clear hs5
        go_wp2_with fail
        refine (leaf_any _ _).mono ?_
        rintro e w4 ⟨rfl, hb4⟩
        have R4 := hide ((R1.out.alloc _).below hb4 (by have := R1.out.lt; simp; omega))
        have B4 := hide ((B1.out.alloc B1.out.size _).trans (hb4.mono (by have := B1.out.size; simp; omega)))
        clear hb4 hs6
        have r0 : w4.cell? ⟨w.heap.size, 0, none⟩ = some (.string ⟨#[]⟩) := R4.out.cell 0
        have r1 : w4.cell? ⟨w.heap.size, 1, none⟩ = some (.slice none 0 0) := R4.out.cell 1
        have rf := R4.out.frozen
        go_wp2_with fail
        refine bodyPost_ret (v := .tuple #[.agg #[.string s5, .slice none 0 0], .int .i64 ((i : Int) + 1)]) (by simp [results, Tryz.results20, go_sem, World.cell?_setCell_same, World.cell?_setCell_other, r0, r1]) rfl ?_
        exact gleaf hes5.1 hes5.2 ((B4.out.setCell (by simp) _).setCell (by simp) _)
      · go_wp2_with fail
        refine (pick_any _ 2 (by decide) (by decide) ⟨by omega, by omega⟩ _).mono ?_
        rintro e w2 ⟨k2, rfl, hk2, rfl⟩
        obtain ⟨m, rfl⟩ : ∃ q, m = q + 1 := ⟨m - 1, by omega⟩
        have hts := top_step (m := m) (by omega)
        by_cases h2 : k2 = 0
        · subst h2
          go_wp2_with fail
          have ei : (i : Int) + 1 = ((i + 1 : Nat) : Int) := by omega
          rw [ei]
          clear ei
          refine (IH.out m (by omega) (i + 1) u _ X (by exact HU.out.later B1.out) (by omega) (by omega)).mono ?_
          rintro e w5 ⟨a5, c5, n5, t5, rfl, hs5, hz5, hn5, hn5', hb5, he5, hg5⟩
          have R5 := hide (R1.out.below hb5 R1.out.lt)
          have B5 := hide (B1.out.trans (hb5.mono B1.out.size))
          have hlt5 : w.heap.size < w5.heap.size := R5.out.lt
          have hl1 := R1.out.lt
          have S5 := hide (hs5.mono (Y := fun b => w.heap.size < b) fun b hb _ => by omega)
          have HE5 := hide (And.intro he5 hg5)
          clear hs5 hb5 he5 hg5
          have r0 : w5.cell? ⟨w.heap.size, 0, none⟩ = some (.string ⟨#[]⟩) := R5.out.cell 0
          have r1 : w5.cell? ⟨w.heap.size, 1, none⟩ = some (.slice none 0 0) := R5.out.cell 1
          have rf := R5.out.frozen
          go_wp2_with fail
          have q0 := ((((R5.out.set 0 (.string ⟨#[104]⟩)).set 1 (.slice (some ⟨w5.heap.size + 1, 0, none⟩) 1 1)).alloc (.cells #[.string t5.name, .slice a5 t5.args.length c5] 25)).alloc (.cells #[.string t5.name, .slice a5 t5.args.length c5] 25)).cell 0
          have q1 := ((((R5.out.set 0 (.string ⟨#[104]⟩)).set 1 (.slice (some ⟨w5.heap.size + 1, 0, none⟩) 1 1)).alloc (.cells #[.string t5.name, .slice a5 t5.args.length c5] 25)).alloc (.cells #[.string t5.name, .slice a5 t5.args.length c5] 25)).cell 1
          refine bodyPost_ret (v := .tuple #[.agg #[.string ⟨#[104]⟩, .slice (some ⟨w5.heap.size + 1, 0, none⟩) 1 1], .int .i64 (n5 : Int)]) (by simp [results, Tryz.results20, go_sem, q0, q1]) rfl ?_
          exact gone B5.out hlt5 S5.out (fun b hb => hb) hz5 (by omega) (by omega) (by omega) HE5.out.1 HE5.out.2
        · have hk21 : k2 = 1 := by omega
          subst hk21
          obtain ⟨h, hh⟩ : ∃ h : Nat, h = (m + 1) / 2 := ⟨_, rfl⟩
          have hth := top_half (m := m) (by omega) hh
          have HH := hide hh
          clear hh
          have hq : ((m : Int) + 1) / 2 = (h : Int) := by have := HH.out; omega
          go_wp2_with fail
          have ei : (i : Int) + 1 = ((i + 1 : Nat) : Int) := by omega
          rw [ei]
          clear ei
          have hhm : h < m + 1 := by have := HH.out; omega
          refine (IH.out h hhm (i + 1) u _ X (by exact HU.out.later B1.out) (by omega) (by omega)).mono ?_
          rintro e w5 ⟨a5, c5, n5, t5, rfl, hs5, hz5, hn5, hn5', hb5, he5, hg5⟩
          have R5 := hide (R1.out.below hb5 R1.out.lt)
          have B5 := hide (B1.out.trans (hb5.mono B1.out.size))
          have hlt5 : w.heap.size < w5.heap.size := R5.out.lt
          have hl1 := R1.out.lt
          have S5 := hide (hs5.mono (Y := fun b => w.heap.size < b) fun b hb _ => by omega)
          have HE5 := hide (And.intro he5 hg5)
          clear hs5 hb5 he5 hg5
          go_wp2_with fail
          refine (IH.out h hhm n5 u _ X (by exact HU.out.later (B5.out.alloc B5.out.size _)) (by omega) (by omega)).mono ?_
          rintro e w6 ⟨a6, c6, n6, t6, rfl, hs6, hz6, hn6, hn6', hb6, he6, hg6⟩
          have R6 := hide ((R5.out.alloc (.cells #[.string t5.name, .slice a5 t5.args.length c5] 25)).below hb6 (by simp; omega))
          have T6 := hide ((Blk.new w5 #[.string t5.name, .slice a5 t5.args.length c5] 25).below hb6 (by simp))
          have B6 := hide ((B5.out.alloc B5.out.size (.cells #[.string t5.name, .slice a5 t5.args.length c5] 25)).trans (hb6.mono (by have := B5.out.size; simp; omega)))
          have hlt6 : w5.heap.size < w6.heap.size := T6.out.lt
          have S56 := hide ((S5.out.later ((Below.refl w5.heap.size w5).alloc (Nat.le_refl _) (.cells #[.string t5.name, .slice a5 t5.args.length c5] 25))).later hb6)
          have S6 := hide (hs6.mono (Y := fun b => w.heap.size < b) fun b hb _ => by simp at hb; omega)
          have HE6 := hide (And.intro he6 hg6)
          clear hs6 hb6 he6 hg6
          have r0 : w6.cell? ⟨w.heap.size, 0, none⟩ = some (.string ⟨#[]⟩) := R6.out.cell 0
          have r1 : w6.cell? ⟨w.heap.size, 1, none⟩ = some (.slice none 0 0) := R6.out.cell 1
          have rf := R6.out.frozen
          have z0 : ∀ o o', ((w6.alloc o).alloc o').cell? ⟨w.heap.size, 0, none⟩ = some (.string ⟨#[]⟩) := fun o o' => ((R6.out.alloc o).alloc o').cell 0
          have z1 : ∀ o o', ((w6.alloc o).alloc o').cell? ⟨w.heap.size, 1, none⟩ = some (.slice none 0 0) := fun o o' => ((R6.out.alloc o).alloc o').cell 1
          have zf : ∀ o o' i, ((w6.alloc o).alloc o').frozen? ⟨w.heap.size, i, none⟩ = false := fun o o' i => ((R6.out.alloc o).alloc o').frozen i
          have q0 : w6.cell? ⟨w5.heap.size, 0, none⟩ = some (.string t5.name) := T6.out.cell 0
          have q1 : w6.cell? ⟨w5.heap.size, 1, none⟩ = some (.slice a5 t5.args.length c5) := T6.out.cell 1
          have p0 : ∀ o, (w6.alloc o).cell? ⟨w5.heap.size, 0, none⟩ = some (.string t5.name) := fun o => (T6.out.alloc o).cell 0
          have p1 : ∀ o, (w6.alloc o).cell? ⟨w5.heap.size, 1, none⟩ = some (.slice a5 t5.args.length c5) := fun o => (T6.out.alloc o).cell 1
          go_wp2_with fail
          have g0 := ((((R6.out.alloc (.cells #[.string t6.name, .slice a6 t6.args.length c6] 25)).alloc (.cells #[.string t5.name, .slice a5 t5.args.length c5, .string t6.name, .slice a6 t6.args.length c6] 25)).set 0 (.string ⟨#[102]⟩)).set 1 (.slice (some ⟨w6.heap.size + 1, 0, none⟩) 2 2)).cell 0
          have g1 := ((((R6.out.alloc (.cells #[.string t6.name, .slice a6 t6.args.length c6] 25)).alloc (.cells #[.string t5.name, .slice a5 t5.args.length c5, .string t6.name, .slice a6 t6.args.length c6] 25)).set 0 (.string ⟨#[102]⟩)).set 1 (.slice (some ⟨w6.heap.size + 1, 0, none⟩) 2 2)).cell 1
          refine bodyPost_ret (v := .tuple #[.agg #[.string ⟨#[102]⟩, .slice (some ⟨w6.heap.size + 1, 0, none⟩) 2 2], .int .i64 (n6 : Int)]) (by simp [results, Tryz.results20, go_sem, g0, g1]) rfl ?_
          exact gtwo B6.out (by omega) S56.out S6.out (fun b hb => hb) (by omega) (by omega) (by omega) HE5.out.1 HE6.out.1 HE5.out.2 HE6.out.2
end Go.Proofs.YtdmaijmglblccaaGreatDoor
