/- Walks: a class goes into another one (closure's classes.size, swallow). -/
import Derived.Test.YtdmaijmglblccaaGreatDoorZBTopClassesOwn
import Derived.BigQuiet
import Derived.Deep.RegionHeld3
import Derived.Deep.DeepCutAuto
namespace Go.Proofs.YtdmaijmglblccaaGreatDoor
open Go.RowKit
set_option linter.unusedSimpArgs false
set_option linter.unusedVariables false
set_option maxRecDepth 8000

/-- An inner row, as it is read. -/
theorem KlAt.mb_at {N B r : Nat} {X : Nat → Prop} {w : World} {o : Nat → Oid} {k : Kl} {m : Km} (h : KlAt N B r X w o k m) {i : Nat} (hi : i < k.mb.length) : ∃ g3 c3 a c, m.v3 = .slice (some ⟨g3, 0, none⟩) m.vm.length c3 ∧ gd m.vm nV i = .slice a (k.M i).length c ∧ w.cell? ⟨g3, i, none⟩ = some (.slice a (k.M i).length c) ∧ w.frozen? ⟨g3, i, none⟩ = false ∧ g3 ≠ B ∧ w.cell? ⟨B, 3, none⟩ = some (.slice (some ⟨g3, 0, none⟩) m.vm.length c3) ∧ o g3 = (6, 0) := by
  have row := h.i3 i hi
  obtain ⟨a, c, hv⟩ := row.shape
  have h4 := h.r3
  obtain ⟨a4, c4, hv4⟩ := h4.shape
  rw [hv4] at h4
  obtain ⟨g4, u4, rfl, hu4, hc4, hf4, ho4, -, -⟩ := h4.at (i := i) (by rw [h.l3]; exact hi)
  have hue : u4 = gd m.vm nV i := by unfold gd; rw [hu4]; rfl
  rw [hue, hv, iL_len] at hc4
  rw [iL_len] at hv
  refine ⟨g4, c4, a, c, hv4, hv, hc4, hf4, fun e => ?_, by rw [h.box.cell]; simp [hv4], ho4⟩
  rw [e, h.oB] at ho4
  cases ho4
theorem KlAt.ab_at {N B r : Nat} {X : Nat → Prop} {w : World} {o : Nat → Oid} {k : Kl} {m : Km} (h : KlAt N B r X w o k m) {i : Nat} (hi : i < k.ab.length) : ∃ g3 c3 a c, m.v4 = .slice (some ⟨g3, 0, none⟩) m.va.length c3 ∧ gd m.va nV i = .slice a (k.A i).length c ∧ w.cell? ⟨g3, i, none⟩ = some (.slice a (k.A i).length c) ∧ w.frozen? ⟨g3, i, none⟩ = false ∧ g3 ≠ B ∧ w.cell? ⟨B, 4, none⟩ = some (.slice (some ⟨g3, 0, none⟩) m.va.length c3) ∧ o g3 = (7, 0) := by
  have row := h.i4 i hi
  obtain ⟨a, c, hv⟩ := row.shape
  have h4 := h.r4
  obtain ⟨a4, c4, hv4⟩ := h4.shape
  rw [hv4] at h4
  obtain ⟨g4, u4, rfl, hu4, hc4, hf4, ho4, -, -⟩ := h4.at (i := i) (by rw [h.l4]; exact hi)
  have hue : u4 = gd m.va nV i := by unfold gd; rw [hu4]; rfl
  rw [hue, hv, iL_len] at hc4
  rw [iL_len] at hv
  refine ⟨g4, c4, a, c, hv4, hv, hc4, hf4, fun e => ?_, by rw [h.box.cell]; simp [hv4], ho4⟩
  rw [e, h.oB] at ho4
  cases ho4
set_option maxHeartbeats 4000000 in
theorem ksize_any {N B r : Nat} {X : Nat → Prop} {w : World} {o : Nat → Oid} {k : Kl} {m : Km} (h : KlAt N B r X w o k m) {c : Nat} (h1 : c < k.mb.length) (h2 : c < k.ab.length) (hz : (k.M c).length ≤ 900000 ∧ (k.A c).length ≤ 900000) :
    Calls Tryz.prog 63 #[.pointer (some ⟨B, 0, none⟩), .int .i64 (c : Int)] w fun e w' => e = .returned (.int .i64 (((k.M c).length : Int) + ((k.A c).length : Int))) ∧ Below w.heap.size w w' := by
  obtain ⟨g3, c3, a3, d3, -, -, e3, -, -, e4, -⟩ := h.mb_at h1
  obtain ⟨g4, c4, a4, d4, -, -, e5, -, -, e6, -⟩ := h.ab_at h2
  have hi1 : (c : Int) < (m.vm.length : Int) := by rw [h.l3]; omega
  have hi2 : (c : Int) < (m.va.length : Int) := by rw [h.l4]; omega
  obtain ⟨hz1, hz2⟩ := hz
  clear h h1 h2
  go_enter Tryz.func63, Tryz.ntmps63
  go_upto_region 1 with fail
  go_quiet (fail)
  go_wp2_with fail
  go_ret
  exact ⟨rfl, below_drewN (Below.refl _ _) _⟩
/-- Numbers put for some. -/
def clP (cl : List Nat) (ns : List Nat) (m : Nat) : List Nat := ns.foldl (fun c n => c.set n m) cl
theorem clP_len (m : Nat) : ∀ (ns cl : List Nat), (clP cl ns m).length = cl.length
  | [], _ => rfl
  | n :: r, cl => by
    show (clP (cl.set n m) r m).length = _
    rw [clP_len m r]
    simp
theorem clP_snoc (cl ns : List Nat) (n m : Nat) : clP cl (ns ++ [n]) m = (clP cl ns m).set n m := by simp [clP]
theorem clP_get (m : Nat) : ∀ (ns cl : List Nat) (i : Nat), i < cl.length → gd (clP cl ns m) 0 i = if i ∈ ns then m else gd cl 0 i
  | [], cl, i, _ => by simp [clP]
  | n :: r, cl, i, h => by
    show gd (clP (cl.set n m) r m) 0 i = _
    rw [clP_get m r _ i (by simpa using h)]
    by_cases h1 : i ∈ r
    · rw [if_pos h1, if_pos (List.mem_cons_of_mem _ h1)]
    · rw [if_neg h1]
      by_cases h2 : n = i
      · subst h2
        rw [gd_set h, if_pos (List.mem_cons_self ..)]
      · rw [gd_set_ne h2, if_neg]
        intro h3
        rcases List.mem_cons.1 h3 with h3 | h3
        · exact h2 h3.symm
        · exact h1 h3
theorem clP_all {k : Kl} {l m : Nat} (hl : ∀ i, i < k.cl.length → (i ∈ k.M l ↔ k.C i = l)) : clP k.cl (k.M l) m = k.cl.map (fun c => if c = l then m else c) := by
  apply List.ext_getElem (by rw [clP_len]; simp)
  intro i h1 h2
  have h3 : i < k.cl.length := by simpa using h2
  rw [← gd_get (d := 0) h1, clP_get m _ _ i h3, List.getElem_map]
  have e : k.cl[i] = k.C i := (gd_get h3).symm
  rw [e]
  by_cases h : k.C i = l
  · rw [if_pos h, if_pos ((hl i h3).2 h)]
  · rw [if_neg h, if_neg (fun q => h ((hl i h3).1 q))]
    rfl
/-- A row within above that is given away. -/
theorem KlAt.free_ab {N B r : Nat} {X : Nat → Prop} {w : World} {o : Nat → Oid} {k : Kl} {m : Km} (h : KlAt N B r X w o k m) {i : Nat} (hn : gd m.va nV i = nV) {v : Value} (hv : ∀ b, v.ownBlock = some b → o b = (10, i)) : KlAt N B r X w (upV o v eX) k m := by
  have oth : ∀ {id : Oid} {T e : Nat} {u : Value} {n : Nat} {xs : List Value}, Rwo w N o id T e u n xs → id ≠ (10, i) → Rwo w N (upV o v eX) id T e u n xs := fun hh hne => hh.other hv hne
  have one : ∀ b, o b ≠ (10, i) → upV o v eX b = o b := fun b hb => upV_no fun e => hb (hv b e)
  refine ⟨h.box, h.map, h.nB, h.nr, h.nN, (one B (by rw [h.oB]; simp)).trans h.oB, (one r (by rw [h.oR]; simp)).trans h.oR, oth h.r0 (by simp), h.ts, h.tx, fun b hb => ⟨(h.hX b hb).1, (one b (by rw [(h.hX b hb).2]; simp)).trans (h.hX b hb).2⟩, oth h.r1 (by simp), oth h.r2 (by simp), oth h.r3 (by simp), oth h.r4 (by simp), h.l1, h.l3, h.l4, fun j hj => oth (h.i1 j hj) (by simp), fun j hj => oth (h.i3 j hj) (by simp), fun j hj => ?_⟩
  by_cases hij : j = i
  · subst hij
    have h1 := h.i4 j hj
    rw [hn] at h1 ⊢
    exact ⟨h1.1, fun b hb => by simp [Value.ownBlock] at hb⟩
  · exact oth (h.i4 j hj) (by simp; exact hij)
/-- What is left behind: the terms that look otherwise now. -/
def SwP (N B r : Nat) (X : Nat → Prop) (k : Kl) (l m : Nat) (o : Nat → Oid) (w : World) (e : Ending) (w' : World) : Prop :=
  ∃ v m' o', e = .returned v ∧ Rwo w' N o' eX 3 1 v (iL (k.A l)).length (iL (k.A l)) ∧ (∀ b, v.ownBlock = some b → b < w.heap.size ∧ o b ≠ eX) ∧ KlAt N B r X w' o' (k.swal l m) m' ∧ Exo o w o' w'
/-- While the members are put. -/
def SwI (N B r : Nat) (X : Nat → Prop) (k : Kl) (l m : Nat) (q0 : Km) (o : Nat → Oid) (w : World) (i : Value) (wr : World) : Prop :=
  ∃ q : Nat, q ≤ (k.M l).length ∧ i = .int .i64 (q : Int) ∧ KlAt N B r X wr o { k with cl := clP k.cl ((k.M l).take q) m } q0 ∧ Exo o w o wr
set_option maxHeartbeats 8000000 in
theorem swallow_any {N B r : Nat} {X : Nat → Prop} {w : World} {o : Nat → Oid} {k : Kl} {km : Km} (h : KlAt N B r X w o k km) {l m : Nat} (hl : l < k.mb.length) (hm : m < k.mb.length) (hl2 : l < k.ab.length) (hm2 : m < k.ab.length) (hne : l ≠ m) (hmem : ∀ i, i < k.cl.length → (i ∈ k.M l ↔ k.C i = l)) (hmlt : ∀ i ∈ k.M l, i < k.cl.length) (hz : (k.M l).length + (k.M m).length ≤ 900000 ∧ (k.A l).length + (k.A m).length ≤ 900000) :
    Calls Tryz.prog 64 #[.pointer (some ⟨B, 0, none⟩), .int .i64 (l : Int), .int .i64 (m : Int)] w (SwP N B r X k l m o w) := by
  obtain ⟨g3, c3, a3, d3, hv3, hvl, e3, -, hg3B, e4, -⟩ := h.mb_at hl
  have hli : (l : Int) < (km.vm.length : Int) := by rw [h.l3]; omega
  have hmi : (m : Int) < (km.vm.length : Int) := by rw [h.l3]; omega
  have hli2 : (l : Int) < (km.va.length : Int) := by rw [h.l4]; omega
  have hmi2 : (m : Int) < (km.va.length : Int) := by rw [h.l4]; omega
  have HH := hide h
  have HMEM := hide hmem
  have HMLT := hide hmlt
  have HL := hide hl
  have HM := hide hm
  have HL2 := hide hl2
  have HM2 := hide hm2
  have HNE := hide hne
  have HV3 := hide hv3
  have HVL := hide hvl
  have HZ := hide hz
  have hML : (k.M l).length ≤ 900000 := by omega
  clear h hmem hmlt hl hm hl2 hm2 hne hv3 hvl hz
  go_enter Tryz.func64, Tryz.ntmps64
  go_wp2_with fail
  clear e3 e4
  go_loopw [18] (fun i wr => SwI N B r X k l m km o w i wr) (fun i wr => (k.M l).length - (intOf i).toNat)
  case atStart => exact ⟨0, Nat.zero_le _, rfl, HH.out, Exo.refl _ _⟩
  case round =>
    obtain ⟨q, hq, rfl, hK, hX⟩ := hrel
    by_cases hql : q < (k.M l).length
    · have hqi : (q : Int) < ((k.M l).length : Int) := by omega
      have row : Rwo wr N o (9, l) 3 1 (.slice a3 (k.M l).length d3) (k.M l).length (iL (k.M l)) := by
        have h1 := hK.i3 l HL.out
        have e : Kl.M { k with cl := clP k.cl ((k.M l).take q) m } l = k.M l := rfl
        rw [e, HVL.out, iL_len] at h1
        exact h1
      obtain ⟨gq, uq, rfl, huq, hcq, -, -, -, -⟩ := row.at hql
      have huq2 := iL_at huq
      rw [gd_get hql] at huq2
      subst huq2
      have hr2 := hK.r2
      obtain ⟨a2, d2, hv2⟩ := hr2.shape
      rw [hv2] at hr2
      have hnl := HMLT.out (k.M l)[q] (List.getElem_mem hql)
      obtain ⟨g2, u2, rfl, -, hc2, hf2, -, -, -⟩ := hr2.at (i := (k.M l)[q]) (by rw [iL_len, clP_len]; exact hnl)
      obtain ⟨K2, F2⟩ := hK.put_cl hv2 (k.M l)[q] m
      have b2 : wr.cell? ⟨B, 2, none⟩ = some (.slice (some ⟨g2, 0, none⟩) (iL (clP k.cl ((k.M l).take q) m)).length d2) := by rw [hK.box.cell]; simp [hv2]
      have hnli : (((k.M l)[q] : Nat) : Int) < ((iL (clP k.cl ((k.M l).take q) m)).length : Int) := by rw [iL_len, clP_len]; omega
      have NXT : Hid (SwI N B r X k l m km o w (.int .i64 ((q + 1 : Nat) : Int)) (wr.setCell ⟨g2, (k.M l)[q], none⟩ (iV m))) := ⟨q + 1, hql, rfl, by rw [List.take_succ_eq_append_getElem hql, clP_snoc]; exact K2, hX.trans (F2.exo (by simp))⟩
      clear hK hX row huq hr2 hv2 hnl K2 F2
      generalize (iL (clP k.cl ((k.M l).take q) m)).length = zl at *
      generalize (k.M l)[q] = n at *
      go_wp2_with fail
      go_roundw
      case rel => exact NXT.out
      case measure => simp [intOf]; omega
    · have hqi : ¬ (q : Int) < ((k.M l).length : Int) := by omega
      have etk : (k.M l).take q = k.M l := List.take_of_length_le (by omega)
      rw [etk, clP_all HMEM.out] at hK
      have row4 := hK.i4 l HL2.out
      obtain ⟨g4, c4, a4, d4, hv4, hal, e5, -, hg4B, e6, hog4⟩ := hK.ab_at (i := l) HL2.out
      have eA : Kl.A { k with cl := k.cl.map (fun c => if c = l then m else c) } l = k.A l := rfl
      rw [eA] at row4 hal e5
      rw [hal] at row4
      have HK := hide hK
      have HX := hide hX
      have HR4 := hide row4
      have HV4 := hide hv4
      have HAL := hide hal
      clear hK hX row4 hv4 hal eA
      go_upto_region 7 with fail
      clear e5 e6
      have kd : Below wr.heap.size wr wr.drew := (Below.refl _ _).drew
      have KD := HK.out.later kd
      have XD := HX.out.trans (Exo.below kd fun _ _ => rfl)
      have RD := HR4.out.later kd
      obtain ⟨v5, w5, o5, hr5, R5, F5⟩ := app_sp (KD.i3 m HM.out) (KD.i3 l HL.out) KD.nN (by have := HZ.out; show (k.M m).length + (k.M l).length ≤ _; omega)
      obtain ⟨g3', c3', hv3', hc5, hf5, K5, FF5⟩ := KD.row_mb HM.out F5 R5
      obtain ⟨rfl, rfl⟩ : g3 = g3' ∧ c3 = c3' := by rw [HV3.out] at hv3'; cases hv3'; exact ⟨rfl, rfl⟩
      obtain ⟨gm, cm, am, dm, hvm, hgm, em, -, -, bm, -⟩ := KD.mb_at (i := m) HM.out
      obtain ⟨rfl, rfl⟩ : g3 = gm ∧ c3 = cm := by rw [HV3.out] at hvm; cases hvm; exact ⟨rfl, rfl⟩
      obtain ⟨gm2, cm2, am2, dm2, hvm2, hgm2, el, -, -, -, hog3⟩ := KD.mb_at (i := l) HL.out
      obtain ⟨rfl, rfl⟩ : g3 = gm2 ∧ c3 = cm2 := by rw [HV3.out] at hvm2; cases hvm2; exact ⟨rfl, rfl⟩
      obtain ⟨a5, d5, hv5⟩ := R5.shape
      subst hv5
      rw [hgm] at hr5 hc5
      rw [hgm2] at hr5
      have HR5 := hide hr5
      have HC5 := hide hc5
      have HF5 := hide hf5
      have HK5 := hide K5
      have HX5 := hide (XD.trans (FF5.exo (by simp)))
      have HR45 := hide (RD.fr FF5 (by simp))
      have hb5 : Hid (w5.cell? ⟨B, 3, none⟩ = some (.slice (some ⟨g3, 0, none⟩) km.vm.length c3) ∧ w5.cell? ⟨g3, l, none⟩ = some (.slice am2 (Kl.M { k with cl := k.cl.map (fun c => if c = l then m else c) } l).length dm2)) := by
        have q1 := F5.blk B KD.box.lt (by rw [KD.oB]; simp)
        have q2 := F5.blk g3 (World.block_lt_of_cell? _ _ el) (by rw [hog3]; simp)
        exact ⟨(World.cell?_of_block q1.1).trans bm, (World.cell?_of_block q2.1).trans el⟩
      clear hr5 hc5 hf5 K5 FF5 XD RD R5 F5 hv3' hvm hvm2 hgm hgm2 hog3 kd KD
      refine wp_region_held_drew (S := fun w' => w'.cell? ⟨B, 3, none⟩ = some (.slice (some ⟨g3, 0, none⟩) km.vm.length c3) ∧ w'.cell? ⟨g3, l, none⟩ = some (.slice am2 (Kl.M { k with cl := k.cl.map (fun c => if c = l then m else c) } l).length dm2)) (by kernel_rfl) ⟨bm, el⟩ (fun hHeld => ?_)
      generalize wr.drew = wd at *
      refine wpAnyH_take (i := 0) (v := ?_) rfl (by kernel_rfl) (by kernel_rfl) (by kernel_rfl) (fun _ _ _ h => h) (Or.inl ⟨by rfl, ?_⟩) (by assumption) ?_
      rotate_left
      · intro w' hSw
        go_simp <;> with_reducible rfl
      try simp only [Act.put, List.setIfInBounds_toArray, List.set_cons_zero, List.set_cons_succ, List.getElem_toArray, List.getElem_cons_succ, List.getElem_cons_zero]
      refine wpAnyH_take (i := 1) (v := ?_) rfl (by kernel_rfl) (by kernel_rfl) (by kernel_rfl) (fun _ _ _ h => h) (Or.inl ⟨by rfl, ?_⟩) (by assumption) ?_
      rotate_left
      · intro w' hSw
        go_simp <;> with_reducible rfl
      try simp only [Act.put, List.setIfInBounds_toArray, List.set_cons_zero, List.set_cons_succ, List.getElem_toArray, List.getElem_cons_succ, List.getElem_cons_zero]
      refine wpAnyH_take (i := 2) (v := ?_) rfl (by kernel_rfl) (by kernel_rfl) (by kernel_rfl) (fun _ _ _ h => h) (Or.inl ⟨by rfl, ?_⟩) (by assumption) ?_
      rotate_left
      · intro w' hSw
        go_simp <;> with_reducible rfl
      try simp only [Act.put, List.setIfInBounds_toArray, List.set_cons_zero, List.set_cons_succ, List.getElem_toArray, List.getElem_cons_succ, List.getElem_cons_zero]
      refine wpAnyH_take (i := 3) (v := ?_) rfl (by kernel_rfl) (by kernel_rfl) (by kernel_rfl) (fun _ _ _ h => h) (Or.inl ⟨by rfl, ?_⟩) (by assumption) ?_
      rotate_left
      · intro w' hSw
        have x0 := hSw.1
        go_simp <;> with_reducible rfl
      try simp only [Act.put, List.setIfInBounds_toArray, List.set_cons_zero, List.set_cons_succ, List.getElem_toArray, List.getElem_cons_succ, List.getElem_cons_zero]
      refine wpAnyH_take (i := 4) (v := ?_) rfl (by kernel_rfl) (by kernel_rfl) (by kernel_rfl) (fun _ _ _ h => h) (Or.inl ⟨by rfl, ?_⟩) (by assumption) ?_
      rotate_left
      · intro w' hSw
        go_simp <;> with_reducible rfl
      try simp only [Act.put, List.setIfInBounds_toArray, List.set_cons_zero, List.set_cons_succ, List.getElem_toArray, List.getElem_cons_succ, List.getElem_cons_zero]
      refine wpAnyH_take (i := 5) (v := ?_) rfl (by kernel_rfl) (by kernel_rfl) (by kernel_rfl) (fun _ _ _ h => h) (Or.inl ⟨by rfl, ?_⟩) (by assumption) ?_
      rotate_left
      · intro w' hSw
        go_simp <;> with_reducible rfl
      try simp only [Act.put, List.setIfInBounds_toArray, List.set_cons_zero, List.set_cons_succ, List.getElem_toArray, List.getElem_cons_succ, List.getElem_cons_zero]
      refine wpAnyH_take (i := 6) (v := ?_) rfl (by kernel_rfl) (by kernel_rfl) (by kernel_rfl) (fun _ _ _ h => h) (Or.inl ⟨by rfl, ?_⟩) (by assumption) ?_
      rotate_left
      · intro w' hSw
        go_simp <;> with_reducible rfl
      try simp only [Act.put, List.setIfInBounds_toArray, List.set_cons_zero, List.set_cons_succ, List.getElem_toArray, List.getElem_cons_succ, List.getElem_cons_zero]
      refine wpAnyH_take (i := 7) (v := ?_) rfl (by kernel_rfl) (by kernel_rfl) (by kernel_rfl) (fun _ _ _ h => h) (Or.inl ⟨by rfl, ?_⟩) (by assumption) ?_
      rotate_left
      · intro w' hSw
        go_simp <;> with_reducible rfl
      try simp only [Act.put, List.setIfInBounds_toArray, List.set_cons_zero, List.set_cons_succ, List.getElem_toArray, List.getElem_cons_succ, List.getElem_cons_zero]
      refine wpAnyH_take (i := 8) (v := ?_) rfl (by kernel_rfl) (by kernel_rfl) (by kernel_rfl) (fun _ _ _ h => h) (Or.inl ⟨by rfl, ?_⟩) (by assumption) ?_
      rotate_left
      · intro w' hSw
        have x0 := hSw.1
        go_simp <;> with_reducible rfl
      try simp only [Act.put, List.setIfInBounds_toArray, List.set_cons_zero, List.set_cons_succ, List.getElem_toArray, List.getElem_cons_succ, List.getElem_cons_zero]
      refine wpAnyH_take (i := 9) (v := ?_) rfl (by kernel_rfl) (by kernel_rfl) (by kernel_rfl) (fun _ _ _ h => h) (Or.inl ⟨by rfl, ?_⟩) (by assumption) ?_
      rotate_left
      · intro w' hSw
        go_simp <;> with_reducible rfl
      try simp only [Act.put, List.setIfInBounds_toArray, List.set_cons_zero, List.set_cons_succ, List.getElem_toArray, List.getElem_cons_succ, List.getElem_cons_zero]
      refine wpAnyH_take (i := 10) (v := ?_) rfl (by kernel_rfl) (by kernel_rfl) (by kernel_rfl) (fun _ _ _ h => h) (Or.inl ⟨by rfl, ?_⟩) (by assumption) ?_
      rotate_left
      · intro w' hSw
        go_simp <;> with_reducible rfl
      try simp only [Act.put, List.setIfInBounds_toArray, List.set_cons_zero, List.set_cons_succ, List.getElem_toArray, List.getElem_cons_succ, List.getElem_cons_zero]
      refine wpAnyH_take (i := 12) (v := ?_) rfl (by kernel_rfl) (by kernel_rfl) (by kernel_rfl) (fun _ _ _ h => h) (Or.inl ⟨by rfl, ?_⟩) (by assumption) ?_
      rotate_left
      · intro w' hSw
        go_simp <;> with_reducible rfl
      try simp only [Act.put, List.setIfInBounds_toArray, List.set_cons_zero, List.set_cons_succ, List.getElem_toArray, List.getElem_cons_succ, List.getElem_cons_zero]
      refine wpAnyH_take (i := 13) (v := ?_) rfl (by kernel_rfl) (by kernel_rfl) (by kernel_rfl) (fun _ _ _ h => h) (Or.inl ⟨by rfl, ?_⟩) (by assumption) ?_
      rotate_left
      · intro w' hSw
        go_simp <;> with_reducible rfl
      try simp only [Act.put, List.setIfInBounds_toArray, List.set_cons_zero, List.set_cons_succ, List.getElem_toArray, List.getElem_cons_succ, List.getElem_cons_zero]
      refine wpAnyH_take (i := 14) (v := ?_) rfl (by kernel_rfl) (by kernel_rfl) (by kernel_rfl) (fun _ _ _ h => h) (Or.inl ⟨by rfl, ?_⟩) (by assumption) ?_
      rotate_left
      · intro w' hSw
        go_simp <;> with_reducible rfl
      try simp only [Act.put, List.setIfInBounds_toArray, List.set_cons_zero, List.set_cons_succ, List.getElem_toArray, List.getElem_cons_succ, List.getElem_cons_zero]
      refine wpAnyH_take (i := 15) (v := ?_) rfl (by kernel_rfl) (by kernel_rfl) (by kernel_rfl) (fun _ _ _ h => h) (Or.inl ⟨by rfl, ?_⟩) (by assumption) ?_
      rotate_left
      · intro w' hSw
        have x0 := hSw.1
        go_simp <;> with_reducible rfl
      try simp only [Act.put, List.setIfInBounds_toArray, List.set_cons_zero, List.set_cons_succ, List.getElem_toArray, List.getElem_cons_succ, List.getElem_cons_zero]
      refine wpAnyH_take (i := 16) (v := ?_) rfl (by kernel_rfl) (by kernel_rfl) (by kernel_rfl) (fun _ _ _ h => h) (Or.inl ⟨by rfl, ?_⟩) (by assumption) ?_
      rotate_left
      · intro w' hSw
        go_simp <;> with_reducible rfl
      try simp only [Act.put, List.setIfInBounds_toArray, List.set_cons_zero, List.set_cons_succ, List.getElem_toArray, List.getElem_cons_succ, List.getElem_cons_zero]
      refine wpAnyH_take (i := 17) (v := ?_) rfl (by kernel_rfl) (by kernel_rfl) (by kernel_rfl) (fun _ _ _ h => h) (Or.inl ⟨by rfl, ?_⟩) (by assumption) ?_
      rotate_left
      · intro w' hSw
        go_simp <;> with_reducible rfl
      try simp only [Act.put, List.setIfInBounds_toArray, List.set_cons_zero, List.set_cons_succ, List.getElem_toArray, List.getElem_cons_succ, List.getElem_cons_zero]
      refine wpAnyH_take (i := 18) (v := ?_) rfl (by kernel_rfl) (by kernel_rfl) (by kernel_rfl) (fun _ _ _ h => h) (Or.inl ⟨by rfl, ?_⟩) (by assumption) ?_
      rotate_left
      · intro w' hSw
        have x0 := hSw.2
        go_simp <;> with_reducible rfl
      try simp only [Act.put, List.setIfInBounds_toArray, List.set_cons_zero, List.set_cons_succ, List.getElem_toArray, List.getElem_cons_succ, List.getElem_cons_zero]
      refine wpAnyH_ready (rs := [11]) (by kernel_rfl) (by simp) ?_
      refine AllReadyH.cons rfl (fun K hK => ?_) AllReadyH.nil
      go_simp
      refine hK.out _ _ (by exact ⟨bm, el⟩) (fun hHeld => ?_)
      clear hK K
      try simp only [Act.put, List.setIfInBounds_toArray, List.set_cons_zero, List.set_cons_succ, List.getElem_toArray, List.getElem_cons_succ, List.getElem_cons_zero]
      refine wpAnyH_ready (rs := [19]) (by kernel_rfl) (by simp) ?_
      refine AllReadyH.cons rfl (fun K hK => ?_) AllReadyH.nil
      refine step_append_eqK rfl _ _ _ _ rfl rfl rfl HR5.out ?_
      refine hK.out _ _ (by exact hb5.out) (fun hHeld => ?_)
      clear hK K
      try simp only [Act.put, List.setIfInBounds_toArray, List.set_cons_zero, List.set_cons_succ, List.getElem_toArray, List.getElem_cons_succ, List.getElem_cons_zero]
      refine wpAnyH_take (i := 20) (v := ?_) rfl (by kernel_rfl) (by kernel_rfl) (by kernel_rfl) (fun _ _ _ h => h) (Or.inl ⟨by rfl, ?_⟩) (by assumption) ?_
      rotate_left
      · intro w' hSw
        go_simp <;> with_reducible rfl
      try simp only [Act.put, List.setIfInBounds_toArray, List.set_cons_zero, List.set_cons_succ, List.getElem_toArray, List.getElem_cons_succ, List.getElem_cons_zero]
      have c5 := HC5.out
      have f5 := HF5.out
      refine wpAnyH_ready (rs := [21]) (by kernel_rfl) (by simp) ?_
      refine AllReadyH.cons rfl (fun K hK => ?_) AllReadyH.nil
      go_simp
      refine hK.out _ _ (by exact ⟨(World.cell?_of_block (Below.heap_setCell _ _ _ _ (by simpa using fun e => hg3B e.symm))).trans hb5.out.1, (World.cell?_setCell_other _ _ _ _ (by simpa using fun e => HNE.out e.symm)).trans hb5.out.2⟩) (fun hHeld => ?_)
      clear hK K
      try simp only [Act.put, List.setIfInBounds_toArray, List.set_cons_zero, List.set_cons_succ, List.getElem_toArray, List.getElem_cons_succ, List.getElem_cons_zero]
      refine wpAnyH_done (by kernel_rfl) ?_ _
      clear hHeld c5 f5 bm el em
      generalize (w5.setCell ⟨g3, m, none⟩ _) = w7 at *
      clear HR5 HC5 HF5 hb5
      have hal7 := (HK5.out.ab_at (i := m) HM2.out)
      obtain ⟨h4', i4', am4, dm4, hvm4, hgm4, em4, -, -, bm4, hog4'⟩ := hal7
      obtain ⟨rfl, rfl⟩ : g4 = h4' ∧ c4 = i4' := by have h9 := HV4.out; rw [show (Km.v4 _) = km.v4 from rfl, h9] at hvm4; cases hvm4; exact ⟨rfl, rfl⟩
      go_upto_region 8 with fail
      have kd : Below w7.heap.size w7 w7.drew := (Below.refl _ _).drew
      have KD := HK5.out.later kd
      have XD := HX5.out.trans (Exo.below kd fun _ _ => rfl)
      have RD := HR45.out.later kd
      obtain ⟨v8, w8, o8, hr8, R8, F8⟩ := app_sp (KD.i4 m HM2.out) RD KD.nN (by have := HZ.out; show (k.A m).length + (k.A l).length ≤ _; omega)
      obtain ⟨g8', c8', hv8', hc8, hf8, K8, FF8⟩ := KD.row_ab HM2.out F8 R8
      obtain ⟨rfl, rfl⟩ : g4 = g8' ∧ c4 = c8' := by have h9 := HV4.out; rw [show (Km.v4 _) = km.v4 from rfl, h9] at hv8'; cases hv8'; exact ⟨rfl, rfl⟩
      obtain ⟨a8, d8, hv8⟩ := R8.shape
      subst hv8
      rw [hgm4] at hr8 hc8
      have HR8 := hide hr8
      have HC8 := hide hc8
      have HF8 := hide hf8
      have HK8 := hide K8
      have HX8 := hide (XD.trans (FF8.exo (by simp)))
      have HR48 := hide (RD.fr FF8 (by simp; exact HNE.out))
      have hb8 : Hid (w8.cell? ⟨B, 4, none⟩ = some (.slice (some ⟨g4, 0, none⟩) km.va.length c4)) := by
        have q1 := F8.blk B KD.box.lt (by rw [KD.oB]; simp)
        exact (World.cell?_of_block q1.1).trans bm4
      clear hr8 hc8 hf8 K8 FF8 XD RD R8 F8 hv8' hvm4 hgm4 kd KD HK5 HX5 HR45
      have em5 : w7.drew.cell? ⟨g4, m, none⟩ = some (.slice am4 (Kl.A { k with cl := k.cl.map (fun c => if c = l then m else c) } m).length dm4) := em4
      have bm5 : w7.drew.cell? ⟨B, 4, none⟩ = some (.slice (some ⟨g4, 0, none⟩) km.va.length c4) := bm4
      clear em4 bm4
      refine wp_region_held_drew (S := fun w' => w'.cell? ⟨B, 4, none⟩ = some (.slice (some ⟨g4, 0, none⟩) km.va.length c4)) (by kernel_rfl) bm5 (fun hHeld => ?_)
      generalize w7.drew = wd at *
      refine wpAnyH_take (i := 0) (v := ?_) rfl (by kernel_rfl) (by kernel_rfl) (by kernel_rfl) (fun _ _ _ h => h) (Or.inl ⟨by rfl, ?_⟩) (by assumption) ?_
      rotate_left
      · intro w' hSw
        go_simp <;> with_reducible rfl
      try simp only [Act.put, List.setIfInBounds_toArray, List.set_cons_zero, List.set_cons_succ, List.getElem_toArray, List.getElem_cons_succ, List.getElem_cons_zero]
      refine wpAnyH_take (i := 1) (v := ?_) rfl (by kernel_rfl) (by kernel_rfl) (by kernel_rfl) (fun _ _ _ h => h) (Or.inl ⟨by rfl, ?_⟩) (by assumption) ?_
      rotate_left
      · intro w' hSw
        go_simp <;> with_reducible rfl
      try simp only [Act.put, List.setIfInBounds_toArray, List.set_cons_zero, List.set_cons_succ, List.getElem_toArray, List.getElem_cons_succ, List.getElem_cons_zero]
      refine wpAnyH_take (i := 2) (v := ?_) rfl (by kernel_rfl) (by kernel_rfl) (by kernel_rfl) (fun _ _ _ h => h) (Or.inl ⟨by rfl, ?_⟩) (by assumption) ?_
      rotate_left
      · intro w' hSw
        go_simp <;> with_reducible rfl
      try simp only [Act.put, List.setIfInBounds_toArray, List.set_cons_zero, List.set_cons_succ, List.getElem_toArray, List.getElem_cons_succ, List.getElem_cons_zero]
      refine wpAnyH_take (i := 3) (v := ?_) rfl (by kernel_rfl) (by kernel_rfl) (by kernel_rfl) (fun _ _ _ h => h) (Or.inl ⟨by rfl, ?_⟩) (by assumption) ?_
      rotate_left
      · intro w' hSw
        have x0 : w'.cell? ⟨B, 4, none⟩ = some (.slice (some ⟨g4, 0, none⟩) km.va.length c4) := hSw
        go_simp <;> with_reducible rfl
      try simp only [Act.put, List.setIfInBounds_toArray, List.set_cons_zero, List.set_cons_succ, List.getElem_toArray, List.getElem_cons_succ, List.getElem_cons_zero]
      refine wpAnyH_take (i := 4) (v := ?_) rfl (by kernel_rfl) (by kernel_rfl) (by kernel_rfl) (fun _ _ _ h => h) (Or.inl ⟨by rfl, ?_⟩) (by assumption) ?_
      rotate_left
      · intro w' hSw
        go_simp <;> with_reducible rfl
      try simp only [Act.put, List.setIfInBounds_toArray, List.set_cons_zero, List.set_cons_succ, List.getElem_toArray, List.getElem_cons_succ, List.getElem_cons_zero]
      refine wpAnyH_take (i := 5) (v := ?_) rfl (by kernel_rfl) (by kernel_rfl) (by kernel_rfl) (fun _ _ _ h => h) (Or.inl ⟨by rfl, ?_⟩) (by assumption) ?_
      rotate_left
      · intro w' hSw
        go_simp <;> with_reducible rfl
      try simp only [Act.put, List.setIfInBounds_toArray, List.set_cons_zero, List.set_cons_succ, List.getElem_toArray, List.getElem_cons_succ, List.getElem_cons_zero]
      refine wpAnyH_take (i := 6) (v := ?_) rfl (by kernel_rfl) (by kernel_rfl) (by kernel_rfl) (fun _ _ _ h => h) (Or.inl ⟨by rfl, ?_⟩) (by assumption) ?_
      rotate_left
      · intro w' hSw
        go_simp <;> with_reducible rfl
      try simp only [Act.put, List.setIfInBounds_toArray, List.set_cons_zero, List.set_cons_succ, List.getElem_toArray, List.getElem_cons_succ, List.getElem_cons_zero]
      refine wpAnyH_take (i := 7) (v := ?_) rfl (by kernel_rfl) (by kernel_rfl) (by kernel_rfl) (fun _ _ _ h => h) (Or.inl ⟨by rfl, ?_⟩) (by assumption) ?_
      rotate_left
      · intro w' hSw
        go_simp <;> with_reducible rfl
      try simp only [Act.put, List.setIfInBounds_toArray, List.set_cons_zero, List.set_cons_succ, List.getElem_toArray, List.getElem_cons_succ, List.getElem_cons_zero]
      refine wpAnyH_take (i := 8) (v := ?_) rfl (by kernel_rfl) (by kernel_rfl) (by kernel_rfl) (fun _ _ _ h => h) (Or.inl ⟨by rfl, ?_⟩) (by assumption) ?_
      rotate_left
      · intro w' hSw
        have x0 : w'.cell? ⟨B, 4, none⟩ = some (.slice (some ⟨g4, 0, none⟩) km.va.length c4) := hSw
        go_simp <;> with_reducible rfl
      try simp only [Act.put, List.setIfInBounds_toArray, List.set_cons_zero, List.set_cons_succ, List.getElem_toArray, List.getElem_cons_succ, List.getElem_cons_zero]
      refine wpAnyH_take (i := 9) (v := ?_) rfl (by kernel_rfl) (by kernel_rfl) (by kernel_rfl) (fun _ _ _ h => h) (Or.inl ⟨by rfl, ?_⟩) (by assumption) ?_
      rotate_left
      · intro w' hSw
        go_simp <;> with_reducible rfl
      try simp only [Act.put, List.setIfInBounds_toArray, List.set_cons_zero, List.set_cons_succ, List.getElem_toArray, List.getElem_cons_succ, List.getElem_cons_zero]
      refine wpAnyH_take (i := 10) (v := ?_) rfl (by kernel_rfl) (by kernel_rfl) (by kernel_rfl) (fun _ _ _ h => h) (Or.inl ⟨by rfl, ?_⟩) (by assumption) ?_
      rotate_left
      · intro w' hSw
        go_simp <;> with_reducible rfl
      try simp only [Act.put, List.setIfInBounds_toArray, List.set_cons_zero, List.set_cons_succ, List.getElem_toArray, List.getElem_cons_succ, List.getElem_cons_zero]
      refine wpAnyH_take (i := 12) (v := ?_) rfl (by kernel_rfl) (by kernel_rfl) (by kernel_rfl) (fun _ _ _ h => h) (Or.inl ⟨by rfl, ?_⟩) (by assumption) ?_
      rotate_left
      · intro w' hSw
        go_simp <;> with_reducible rfl
      try simp only [Act.put, List.setIfInBounds_toArray, List.set_cons_zero, List.set_cons_succ, List.getElem_toArray, List.getElem_cons_succ, List.getElem_cons_zero]
      refine wpAnyH_ready (rs := [11]) (by kernel_rfl) (by simp) ?_
      refine AllReadyH.cons rfl (fun K hK => ?_) AllReadyH.nil
      go_simp
      refine hK.out _ _ (by exact bm5) (fun hHeld => ?_)
      clear hK K
      try simp only [Act.put, List.setIfInBounds_toArray, List.set_cons_zero, List.set_cons_succ, List.getElem_toArray, List.getElem_cons_succ, List.getElem_cons_zero]
      refine wpAnyH_ready (rs := [13]) (by kernel_rfl) (by simp) ?_
      refine AllReadyH.cons rfl (fun K hK => ?_) AllReadyH.nil
      refine step_append_eqK rfl _ _ _ _ rfl rfl rfl HR8.out ?_
      refine hK.out _ _ (by exact hb8.out) (fun hHeld => ?_)
      clear hK K
      try simp only [Act.put, List.setIfInBounds_toArray, List.set_cons_zero, List.set_cons_succ, List.getElem_toArray, List.getElem_cons_succ, List.getElem_cons_zero]
      refine wpAnyH_take (i := 14) (v := ?_) rfl (by kernel_rfl) (by kernel_rfl) (by kernel_rfl) (fun _ _ _ h => h) (Or.inl ⟨by rfl, ?_⟩) (by assumption) ?_
      rotate_left
      · intro w' hSw
        go_simp <;> with_reducible rfl
      try simp only [Act.put, List.setIfInBounds_toArray, List.set_cons_zero, List.set_cons_succ, List.getElem_toArray, List.getElem_cons_succ, List.getElem_cons_zero]
      have c8 := HC8.out
      have f8 := HF8.out
      refine wpAnyH_ready (rs := [15]) (by kernel_rfl) (by simp) ?_
      refine AllReadyH.cons rfl (fun K hK => ?_) AllReadyH.nil
      go_simp
      refine hK.out _ _ (by exact (World.cell?_of_block (Below.heap_setCell _ _ _ _ (by simpa using fun e => hg4B e.symm))).trans hb8.out) (fun hHeld => ?_)
      clear hK K
      try simp only [Act.put, List.setIfInBounds_toArray, List.set_cons_zero, List.set_cons_succ, List.getElem_toArray, List.getElem_cons_succ, List.getElem_cons_zero]
      refine wpAnyH_done (by kernel_rfl) ?_ _
      clear hHeld c8 f8 bm5 em5
      generalize (w8.setCell ⟨g4, m, none⟩ _) = w8x at *
      clear HR8 HC8 HF8 hb8
      go_upto_region 9 with fail
      have kd : Below w8x.heap.size w8x w8x.drew := (Below.refl _ _).drew
      have HKd := hide (HK8.out.later kd)
      have HXd := hide (HX8.out.trans (Exo.below kd fun _ _ => rfl))
      have HRd := hide (HR48.out.later kd)
      have bx3 : w8x.drew.cell? ⟨B, 3, none⟩ = some (.slice (some ⟨g3, 0, none⟩) km.vm.length c3) := by rw [HKd.out.box.cell]; simp [HV3.out]
      have bx4 : w8x.drew.cell? ⟨B, 4, none⟩ = some (.slice (some ⟨g4, 0, none⟩) km.va.length c4) := by rw [HKd.out.box.cell]; simp [HV4.out]
      clear HK8 HX8 HR48 kd
      refine wp_region_held_drew (S := fun w' => w'.cell? ⟨B, 3, none⟩ = some (.slice (some ⟨g3, 0, none⟩) km.vm.length c3) ∧ w'.cell? ⟨B, 4, none⟩ = some (.slice (some ⟨g4, 0, none⟩) km.va.length c4)) (by kernel_rfl) ⟨bx3, bx4⟩ (fun hHeld => ?_)
      generalize w8x.drew = w9 at *
      have HK8 := HKd
      have HX8 := HXd
      have HR48 := HRd
      clear HKd HXd HRd
      obtain ⟨h3', i3', a9, d9, hvm9, hgm9, em9, f9, -, bm9, -⟩ := HK8.out.mb_at (i := l) (by simp; exact HL.out)
      obtain ⟨rfl, rfl⟩ : g3 = h3' ∧ c3 = i3' := by
        have q9 : km.v3 = .slice (some ⟨h3', 0, none⟩) _ i3' := hvm9
        rw [HV3.out] at q9
        simpa using q9
      obtain ⟨h4', i4', b9, e9, hvm8, hgm8, en9, n9, -, bn9, hog9⟩ := HK8.out.ab_at (i := l) (by simp; exact HL2.out)
      obtain ⟨rfl, rfl⟩ : g4 = h4' ∧ c4 = i4' := by
        have q9 : km.v4 = .slice (some ⟨h4', 0, none⟩) _ i4' := hvm8
        rw [HV4.out] at q9
        simpa using q9
      simp only [List.length_set] at bm9 bn9
      obtain ⟨s3, sc3, hvs, hcs9, hfs9, K10, F10⟩ := HK8.out.row_mb (i := l) (by simp; exact HL.out) (Fr.refl _ _ _) (v := nV) (l := []) (Rwo.nil _ _ _ _ _ _)
      obtain ⟨rfl, rfl⟩ : g3 = s3 ∧ c3 = sc3 := by
        have q9 : km.v3 = .slice (some ⟨s3, 0, none⟩) _ sc3 := hvs
        rw [HV3.out] at q9
        simpa using q9
      obtain ⟨s4, sc4, hvt, hct9, hft9, K11, F11⟩ := K10.row_ab (i := l) (by simp; exact HL2.out) (Fr.refl _ _ _) (v := nV) (l := []) (Rwo.nil _ _ _ _ _ _)
      obtain ⟨rfl, rfl⟩ : g4 = s4 ∧ c4 = sc4 := by
        have q9 : km.v4 = .slice (some ⟨s4, 0, none⟩) _ sc4 := hvt
        rw [HV4.out] at q9
        simpa using q9
      have R11 := (HR48.out.fr F10 (by simp)).fr (fr_box (o := o8) (w := (w9.setCell ⟨g3, l, none⟩ nV)) hog9 l nV) (by simp)
      have K12 := K11.free_ab (i := l) (by show gd (List.set _ l nV) nV l = nV; exact gd_set (by simp; rw [HK.out.l4]; exact HL2.out)) HR48.out.2
      have HR12 := hide (R11.give (id' := eX))
      have HNX : Hid (∀ b, (Value.slice a4 (k.A l).length d4).ownBlock = some b → b < w.heap.size ∧ o b ≠ eX) := fun b hb => by
        have h1 := HH.out.i4 l HL2.out
        have h2 : gd km.va nV l = .slice a4 (k.A l).length d4 := HAL.out
        rw [h2] at h1
        exact ⟨(h1.1.lt b hb).2, by rw [h1.2 b hb]; simp⟩
      have HK12 : Hid (∃ m', KlAt N B r X ((w9.setCell ⟨g3, l, none⟩ nV).setCell ⟨g4, l, none⟩ nV) (upV o8 (.slice a4 (k.A l).length d4) eX) (k.swal l m) m') := ⟨_, K12⟩
      have HX12 : Hid (Exo o w (upV o8 (.slice a4 (k.A l).length d4) eX) ((w9.setCell ⟨g3, l, none⟩ nV).setCell ⟨g4, l, none⟩ nV)) := by
        have h1 := (HX8.out.trans (F10.exo (by simp))).trans (F11.exo (by simp))
        refine ⟨h1.1, h1.2.1, h1.2.2.1, h1.2.2.2.1, fun b hb he => ?_⟩
        obtain ⟨q1, q2⟩ := h1.2.2.2.2 b hb he
        refine ⟨q1, ?_⟩
        unfold upV
        split
        · rfl
        · exact q2
      have HC9 : Hid ((w9.setCell ⟨g3, l, none⟩ nV).cell? ⟨B, 3, none⟩ = some (.slice (some ⟨g3, 0, none⟩) km.vm.length c3) ∧ (w9.setCell ⟨g3, l, none⟩ nV).cell? ⟨B, 4, none⟩ = some (.slice (some ⟨g4, 0, none⟩) km.va.length c4)) := ⟨(World.cell?_of_block (Below.heap_setCell _ _ _ _ (by simpa using fun e => hg3B e.symm))).trans bm9, (World.cell?_of_block (Below.heap_setCell _ _ _ _ (by simpa using fun e => hg3B e.symm))).trans bn9⟩
      have hg34 : Hid (g3 ≠ g4) := fun e => by
        have h1 := HK8.out.r3.2 g3 (by rw [show (Km.v3 _) = km.v3 from rfl, HV3.out]; rfl)
        have h2 := HK8.out.r4.2 g3 (by rw [show (Km.v4 _) = km.v4 from rfl, HV4.out, e]; rfl)
        rw [h1] at h2
        cases h2
      have hn9 : (w9.setCell ⟨g3, l, none⟩ nV).cell? ⟨g4, l, none⟩ = some (gd (km.va.set m (.slice a8 (iL (Kl.A { k with cl := k.cl.map (fun c => if c = l then m else c) } m ++ k.A l)).length d8)) nV l) := hct9
      have hm9 : (w9.setCell ⟨g3, l, none⟩ nV).frozen? ⟨g4, l, none⟩ = false := hft9
      have hg9 := em9
      have hgf9 := f9
      clear HK8 HX8 HR48 hvm9 hgm9 hvm8 hgm8 en9 n9 hog9 hvs hcs9 hfs9 K10 F10 hvt hct9 hft9 K11 F11 R11 K12 bm9 bn9 em9 f9
      refine wpAnyH_take (i := 0) (v := ?_) rfl (by kernel_rfl) (by kernel_rfl) (by kernel_rfl) (fun _ _ _ h => h) (Or.inl ⟨by rfl, ?_⟩) (by assumption) ?_
      rotate_left
      · intro w' hSw
        go_simp <;> with_reducible rfl
      try simp only [Act.put, List.setIfInBounds_toArray, List.set_cons_zero, List.set_cons_succ, List.getElem_toArray, List.getElem_cons_succ, List.getElem_cons_zero]
      refine wpAnyH_take (i := 1) (v := ?_) rfl (by kernel_rfl) (by kernel_rfl) (by kernel_rfl) (fun _ _ _ h => h) (Or.inl ⟨by rfl, ?_⟩) (by assumption) ?_
      rotate_left
      · intro w' hSw
        go_simp <;> with_reducible rfl
      try simp only [Act.put, List.setIfInBounds_toArray, List.set_cons_zero, List.set_cons_succ, List.getElem_toArray, List.getElem_cons_succ, List.getElem_cons_zero]
      refine wpAnyH_take (i := 2) (v := ?_) rfl (by kernel_rfl) (by kernel_rfl) (by kernel_rfl) (fun _ _ _ h => h) (Or.inl ⟨by rfl, ?_⟩) (by assumption) ?_
      rotate_left
      · intro w' hSw
        go_simp <;> with_reducible rfl
      try simp only [Act.put, List.setIfInBounds_toArray, List.set_cons_zero, List.set_cons_succ, List.getElem_toArray, List.getElem_cons_succ, List.getElem_cons_zero]
      refine wpAnyH_take (i := 3) (v := ?_) rfl (by kernel_rfl) (by kernel_rfl) (by kernel_rfl) (fun _ _ _ h => h) (Or.inl ⟨by rfl, ?_⟩) (by assumption) ?_
      rotate_left
      · intro w' hSw
        have x0 := hSw.1
        have x1 := hSw.2
        go_simp <;> with_reducible rfl
      try simp only [Act.put, List.setIfInBounds_toArray, List.set_cons_zero, List.set_cons_succ, List.getElem_toArray, List.getElem_cons_succ, List.getElem_cons_zero]
      refine wpAnyH_take (i := 4) (v := ?_) rfl (by kernel_rfl) (by kernel_rfl) (by kernel_rfl) (fun _ _ _ h => h) (Or.inl ⟨by rfl, ?_⟩) (by assumption) ?_
      rotate_left
      · intro w' hSw
        go_simp <;> with_reducible rfl
      try simp only [Act.put, List.setIfInBounds_toArray, List.set_cons_zero, List.set_cons_succ, List.getElem_toArray, List.getElem_cons_succ, List.getElem_cons_zero]
      refine wpAnyH_take (i := 5) (v := ?_) rfl (by kernel_rfl) (by kernel_rfl) (by kernel_rfl) (fun _ _ _ h => h) (Or.inl ⟨by rfl, ?_⟩) (by assumption) ?_
      rotate_left
      · intro w' hSw
        go_simp <;> with_reducible rfl
      try simp only [Act.put, List.setIfInBounds_toArray, List.set_cons_zero, List.set_cons_succ, List.getElem_toArray, List.getElem_cons_succ, List.getElem_cons_zero]
      refine wpAnyH_take (i := 6) (v := ?_) rfl (by kernel_rfl) (by kernel_rfl) (by kernel_rfl) (fun _ _ _ h => h) (Or.inl ⟨by rfl, ?_⟩) (by assumption) ?_
      rotate_left
      · intro w' hSw
        go_simp <;> with_reducible rfl
      try simp only [Act.put, List.setIfInBounds_toArray, List.set_cons_zero, List.set_cons_succ, List.getElem_toArray, List.getElem_cons_succ, List.getElem_cons_zero]
      refine wpAnyH_take (i := 7) (v := ?_) rfl (by kernel_rfl) (by kernel_rfl) (by kernel_rfl) (fun _ _ _ h => h) (Or.inl ⟨by rfl, ?_⟩) (by assumption) ?_
      rotate_left
      · intro w' hSw
        go_simp <;> with_reducible rfl
      try simp only [Act.put, List.setIfInBounds_toArray, List.set_cons_zero, List.set_cons_succ, List.getElem_toArray, List.getElem_cons_succ, List.getElem_cons_zero]
      refine wpAnyH_take (i := 8) (v := ?_) rfl (by kernel_rfl) (by kernel_rfl) (by kernel_rfl) (fun _ _ _ h => h) (Or.inl ⟨by rfl, ?_⟩) (by assumption) ?_
      rotate_left
      · intro w' hSw
        have x0 := hSw.1
        have x1 := hSw.2
        go_simp <;> with_reducible rfl
      try simp only [Act.put, List.setIfInBounds_toArray, List.set_cons_zero, List.set_cons_succ, List.getElem_toArray, List.getElem_cons_succ, List.getElem_cons_zero]
      refine wpAnyH_take (i := 9) (v := ?_) rfl (by kernel_rfl) (by kernel_rfl) (by kernel_rfl) (fun _ _ _ h => h) (Or.inl ⟨by rfl, ?_⟩) (by assumption) ?_
      rotate_left
      · intro w' hSw
        go_simp <;> with_reducible rfl
      try simp only [Act.put, List.setIfInBounds_toArray, List.set_cons_zero, List.set_cons_succ, List.getElem_toArray, List.getElem_cons_succ, List.getElem_cons_zero]
      refine wpAnyH_take (i := 10) (v := ?_) rfl (by kernel_rfl) (by kernel_rfl) (by kernel_rfl) (fun _ _ _ h => h) (Or.inl ⟨by rfl, ?_⟩) (by assumption) ?_
      rotate_left
      · intro w' hSw
        go_simp <;> with_reducible rfl
      try simp only [Act.put, List.setIfInBounds_toArray, List.set_cons_zero, List.set_cons_succ, List.getElem_toArray, List.getElem_cons_succ, List.getElem_cons_zero]
      refine wpAnyH_ready (rs := [11]) (by kernel_rfl) (by simp) ?_
      refine AllReadyH.cons rfl (fun K hK => ?_) AllReadyH.nil
      go_simp
      refine hK.out _ _ (by exact HC9.out) (fun hHeld => ?_)
      clear hK K
      try simp only [Act.put, List.setIfInBounds_toArray, List.set_cons_zero, List.set_cons_succ, List.getElem_toArray, List.getElem_cons_succ, List.getElem_cons_zero]
      clear hg9 hgf9
      refine wpAnyH_take (i := 12) (v := ?_) rfl (by kernel_rfl) (by kernel_rfl) (by kernel_rfl) (fun _ _ _ h => h) (Or.inl ⟨by rfl, ?_⟩) (by assumption) ?_
      rotate_left
      · intro w' hSw
        go_simp <;> with_reducible rfl
      try simp only [Act.put, List.setIfInBounds_toArray, List.set_cons_zero, List.set_cons_succ, List.getElem_toArray, List.getElem_cons_succ, List.getElem_cons_zero]
      refine wpAnyH_ready (rs := [13]) (by kernel_rfl) (by simp) ?_
      refine AllReadyH.cons rfl (fun K hK => ?_) AllReadyH.nil
      go_simp
      refine hK.out _ _ (by exact ⟨(World.cell?_of_block (Below.heap_setCell _ _ _ _ (by simpa using fun e => hg4B e.symm))).trans HC9.out.1, (World.cell?_of_block (Below.heap_setCell _ _ _ _ (by simpa using fun e => hg4B e.symm))).trans HC9.out.2⟩) (fun hHeld => ?_)
      clear hK K
      try simp only [Act.put, List.setIfInBounds_toArray, List.set_cons_zero, List.set_cons_succ, List.getElem_toArray, List.getElem_cons_succ, List.getElem_cons_zero]
      refine wpAnyH_done (by kernel_rfl) ?_ _
      clear hHeld hn9 hm9
      obtain ⟨m9, hKm⟩ := HK12.out
      go_wp2_with fail
      go_ret
      exact ⟨_, m9, _, rfl, HR12.out, HNX.out, hKm, HX12.out⟩
end Go.Proofs.YtdmaijmglblccaaGreatDoor
