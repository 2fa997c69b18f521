/- Walks: reading a lambda term: a binder. -/
import Derived.Test.YtfkjejpfhflanaaGreatDoorLr7
namespace Go.Proofs.YtfkjejpfhflanaaGreatDoor
open Go.RowKit
set_option linter.unusedSimpArgs false
set_option linter.unusedVariables false
set_option maxRecDepth 8000

/-- Behind the sign of a binder. -/
def bndL (s : ByteArray) (F : Nat) (nm : List ByteArray) (i k : Nat) : Lrd :=
  if 200 < k + 1 then noLr 3
  else if nameE s i ≠ 0 then noLr (nameE s i)
  else if askE s (stopAt s i) 46 ≠ 0 then noLr (askE s (stopAt s i) 46)
  else if (lrd s F .term (nm ++ [s.extract i (stopAt s i)]) (stopAt s i + 1) (k + 1)).err ≠ 0 then noLr (lrd s F .term (nm ++ [s.extract i (stopAt s i)]) (stopAt s i + 1) (k + 1)).err
  else ⟨0, ⟨2, 0, [(lrd s F .term (nm ++ [s.extract i (stopAt s i)]) (stopAt s i + 1) (k + 1)).t]⟩, (lrd s F .term (nm ++ [s.extract i (stopAt s i)]) (stopAt s i + 1) (k + 1)).pos, (lrd s F .term (nm ++ [s.extract i (stopAt s i)]) (stopAt s i + 1) (k + 1)).k⟩

/-- One name more. -/
theorem app_oneL {W : World} {N P : Nat} {v : Value} {x : ByteArray} {l : List ByteArray} (hown : W.ownsRow N 9 1 v l.length (l.map Value.string)) (hN : N ≤ W.heap.size) (hl : l.length ≤ 100000) (hP : W.cell? ⟨P, 0, none⟩ = some (.string x)) :
    ∃ g cap W1, (Builtin.append_ #[65, 65] 65 #[v, .slice (some ⟨P, 0, none⟩) 1 1]).run Tryz.prog W = .ok (.slice (some ⟨g, 0, none⟩) (l.length + 1) cap) W1 ∧ W1.ownsRow N 9 1 (.slice (some ⟨g, 0, none⟩) (l.length + 1) cap) (l ++ [x]).length ((l ++ [x]).map Value.string) ∧ W.grownBy W1 v.ownBlock ∧ (v.ownBlock = some g ∨ g = W.heap.size) := by
  obtain ⟨i0, hi, hz0, hz1, hz2⟩ := info_parts Tryz.infoStr
  obtain ⟨g, cap, W1, hr, ho, hg, hat, _⟩ := run_append_lies (P := Tryz.prog) (w := W) 65 65 N 9 i0 _ 1 16 Tryz.underlying65 hi hz0 hz1 hz2 rfl (by decide) v l.length _ hown ⟨P, 0, none⟩ 1 1 [.string x] rfl (fun j u hj => by
    cases j with
    | zero => simp at hj; subst hj; exact hP
    | succ j => simp at hj) (fun u hu => by simp at hu; subst hu; rfl) (by decide) (by unfold maxLen; omega) (by omega) hN _ rfl
  exact ⟨g, cap, W1, hr, by simpa using ho, hg, hat⟩
/-- One name less. -/
theorem pop_own {W : World} {N g cap n : Nat} {x : ByteArray} {l : List ByteArray} (h : W.ownsRow N 9 1 (.slice (some ⟨g, 0, none⟩) (n + 1) cap) (l ++ [x]).length ((l ++ [x]).map Value.string)) (hn : n = l.length) : W.ownsRow N 9 1 (.slice (some ⟨g, 0, none⟩) n cap) l.length (l.map Value.string) := by
  subst hn
  obtain ⟨h1, h2⟩ := h
  rcases h2 with ⟨h2, _⟩ | ⟨g', cap', cur, e, hb, hh, hnc, hcm, hcs, htk⟩
  · cases h2
  · simp at e
    obtain ⟨rfl, rfl⟩ := e
    refine ⟨by simp, Or.inr ⟨g, cap, cur, rfl, hb, hh, by simp at hnc; omega, hcm, hcs, ?_⟩⟩
    have h3 := congrArg (List.take l.length) htk
    simp at h3
    simpa [List.take_take] using h3

/-- One lambda term in a row of its own. -/
theorem lies_one {W : World} {X : Nat → Prop} {S c : Nat} {a : Option Addr} {t : Lm} (hX : X S) (h0 : W.cell? ⟨S, 0, none⟩ = some (.int .i64 t.kind)) (h1 : W.cell? ⟨S, 1, none⟩ = some (.int .i64 t.idx)) (h2 : W.cell? ⟨S, 2, none⟩ = some (.slice a t.subs.length c)) (hs : SlM W X a t.subs) : SlM W X (some ⟨S, 0, none⟩) [t] := by
  obtain ⟨k, x, l⟩ := t
  refine ⟨by simp, Or.inr ⟨S, 0, rfl, ?_⟩⟩
  simp only [LiesM]
  exact ⟨hX, h0, h1, ⟨a, c, h2, hs.1, hs.2⟩, trivial⟩

set_option maxHeartbeats 4000000 in
theorem lbinder_of (N B : Nat) (s : ByteArray) (hs : s.size ≤ 4000) (F : Nat) (hT : LTerm N B s F) (nm : List ByteArray) (nv : Value) (i k : Nat) (w : World) (hst : Rst N B s nm i k nv w) (hnk : nm.length ≤ 100 + k) (hi : i ≤ s.size) (hk : k ≤ 200) (hF : 3 * (s.size - i) + 3 ≤ F) :
    Calls Tryz.prog 62 #[.pointer (some ⟨B, 0, none⟩)] w fun e w' => LrP N B s nm nv w (bndL s F nm i k) e w' := by
  have HT := hide hT
  have hbox := hst.box
  have hBlt := hst.lt
  have HRD : Hid (bndL s F nm i k = bndL s F nm i k) := rfl
  have Z0 := hide (hst.alloc (.cells #[.int .i64 0, .int .i64 0, .slice none 0 0] 25))
  have R0 := hide (Blk.new w #[.int .i64 0, .int .i64 0, .slice none 0 0] 25)
  have F0 : Hid (BFr w (w.alloc (.cells #[.int .i64 0, .int .i64 0, .slice none 0 0] 25)) B nv nv) := BFr.of_below ((Below.refl _ _).alloc (Nat.le_refl _) _) B nv
  have HR : Hid (∀ r, r = bndL s F nm i k → r = if 200 < k + 1 then noLr 3
      else if nameE s i ≠ 0 then noLr (nameE s i)
      else if askE s (stopAt s i) 46 ≠ 0 then noLr (askE s (stopAt s i) 46)
      else if (lrd s F .term (nm ++ [s.extract i (stopAt s i)]) (stopAt s i + 1) (k + 1)).err ≠ 0 then noLr (lrd s F .term (nm ++ [s.extract i (stopAt s i)]) (stopAt s i + 1) (k + 1)).err
      else ⟨0, ⟨2, 0, [(lrd s F .term (nm ++ [s.extract i (stopAt s i)]) (stopAt s i + 1) (k + 1)).t]⟩, (lrd s F .term (nm ++ [s.extract i (stopAt s i)]) (stopAt s i + 1) (k + 1)).pos, (lrd s F .term (nm ++ [s.extract i (stopAt s i)]) (stopAt s i + 1) (k + 1)).k⟩) := fun r h => h
  obtain ⟨r, hr⟩ : ∃ r, r = bndL s F nm i k := ⟨_, rfl⟩
  rw [← hr]
  have HR1 := hide (HR.out r hr)
  clear hT hst HR HRD hr
  go_enter Tryz.func62, Tryz.ntmps62
  go_wp2_with fail
  generalize hw0 : (w.alloc (.cells #[.int .i64 0, .int .i64 0, .slice none 0 0] 25)) = w0 at *
  have hz0 : w0.heap.size = w.heap.size + 1 := by rw [← hw0]; simp
  clear hw0
  refine (rdKnot_anyL (nv := nv) B i k s (by omega) _ (by exact Z0.out.bx)).mono ?_
  intro e w1 hp
  unfold RdKnotPostL at hp
  by_cases h3 : 200 < k + 1
  · rw [if_pos h3] at hp
    obtain ⟨he, he3⟩ := hp
    unfold thrownL at he
    subst he
    exact ⟨rfl, lrP_no (by rw [HR1.out, if_pos h3]) (by simp) (F0.out.trans (he3.bfrL nv))⟩
  rw [if_neg h3] at hp
  obtain ⟨⟨v1, rfl⟩, hx1, he1, hz1⟩ := hp
  have Z1 := hide (Z0.out.ex he1 hx1)
  have F1 := hide (F0.out.trans (he1.bfrL nv))
  have R1 := hide (blk_bfr R0.out (he1.bfrL nv) hbox.1 hbox.2)
  have HR2 := hide (show r = _ from (HR1.out).trans (if_neg h3))
  clear hx1 he1 Z0 F0 R0 HR1
  go_wp2_with fail
  have Zd := hide (Z1.out.later (Below.drew (Below.refl w1.heap.size w1)))
  have Fd := hide (F1.out.trans (BFr.of_below (Below.drew (Below.refl w1.heap.size w1)) B nv))
  have Rd : Hid (Blk w1.drew w.heap.size #[.int .i64 0, .int .i64 0, .slice none 0 0] 25) := R1.out
  have hzd : w1.drew.heap.size = w.heap.size + 1 := by
    have : w1.drew.heap = w1.heap := rfl
    rw [this]; omega
  refine wp_region_held_drew (S := fun w' => N ≤ w'.heap.size) (by kernel_rfl) (by exact Zd.out.le) (fun hHeld => ?_)
  generalize w1.drew = wd at *
  clear Z1 F1 R1 hz1
  refine wpAnyH_take (i := 0) (v := ?_) rfl (by kernel_rfl) (by kernel_rfl) (by kernel_rfl) (fun _ _ _ h => h) (Or.inl ⟨by rfl, ?_⟩) (by assumption) ?_
  rotate_left
  · intro w' hSw
    go_simp <;> with_reducible rfl
  try simp only [Act.put, List.setIfInBounds_toArray, List.set_cons_zero, List.set_cons_succ, List.getElem_toArray, List.getElem_cons_succ, List.getElem_cons_zero]
  refine wpAnyH_take (i := 1) (v := ?_) rfl (by kernel_rfl) (by kernel_rfl) (by kernel_rfl) (fun _ _ _ h => h) (Or.inl ⟨by rfl, ?_⟩) (by assumption) ?_
  rotate_left
  · intro w' hSw
    go_simp <;> with_reducible rfl
  try simp only [Act.put, List.setIfInBounds_toArray, List.set_cons_zero, List.set_cons_succ, List.getElem_toArray, List.getElem_cons_succ, List.getElem_cons_zero]
  refine wpAnyH_take (i := 2) (v := ?_) rfl (by kernel_rfl) (by kernel_rfl) (by kernel_rfl) (fun _ _ _ h => h) (Or.inl ⟨by rfl, ?_⟩) (by assumption) ?_
  rotate_left
  · intro w' hSw
    go_simp <;> with_reducible rfl
  try simp only [Act.put, List.setIfInBounds_toArray, List.set_cons_zero, List.set_cons_succ, List.getElem_toArray, List.getElem_cons_succ, List.getElem_cons_zero]
  refine wpAnyH_take (i := 3) (v := ?_) rfl (by kernel_rfl) (by kernel_rfl) (by kernel_rfl) (fun _ _ _ h => h) (Or.inl ⟨by rfl, ?_⟩) (by assumption) ?_
  rotate_left
  · intro w' hSw
    go_simp <;> with_reducible rfl
  try simp only [Act.put, List.setIfInBounds_toArray, List.set_cons_zero, List.set_cons_succ, List.getElem_toArray, List.getElem_cons_succ, List.getElem_cons_zero]
  refine wpAnyH_take (i := 5) (v := ?_) rfl (by kernel_rfl) (by kernel_rfl) (by kernel_rfl) (fun _ _ _ h => h) (Or.inl ⟨by rfl, ?_⟩) (by assumption) ?_
  rotate_left
  · intro w' hSw
    go_simp <;> with_reducible rfl
  try simp only [Act.put, List.setIfInBounds_toArray, List.set_cons_zero, List.set_cons_succ, List.getElem_toArray, List.getElem_cons_succ, List.getElem_cons_zero]
  refine wpAnyH_take (i := 6) (v := ?_) rfl (by kernel_rfl) (by kernel_rfl) (by kernel_rfl) (fun _ _ _ h => h) (Or.inl ⟨by rfl, ?_⟩) (by assumption) ?_
  rotate_left
  · intro w' hSw
    go_simp <;> with_reducible rfl
  try simp only [Act.put, List.setIfInBounds_toArray, List.set_cons_zero, List.set_cons_succ, List.getElem_toArray, List.getElem_cons_succ, List.getElem_cons_zero]
  refine wpAnyH_take (i := 7) (v := ?_) rfl (by kernel_rfl) (by kernel_rfl) (by kernel_rfl) (fun _ _ _ h => h) (Or.inl ⟨by rfl, ?_⟩) (by assumption) ?_
  rotate_left
  · intro w' hSw
    go_simp <;> with_reducible rfl
  try simp only [Act.put, List.setIfInBounds_toArray, List.set_cons_zero, List.set_cons_succ, List.getElem_toArray, List.getElem_cons_succ, List.getElem_cons_zero]
  refine wpAnyH_ready (rs := [4, 8]) (by kernel_rfl) (by simp) ?_
  refine AllReadyH.cons rfl (fun K hK => ?_) (AllReadyH.cons rfl (fun K hK => ?_) AllReadyH.nil)
  · have b3 : wd.cell? ⟨B, 3, none⟩ = some nv := Zd.out.bx.cell 3
    go_simp
    refine hK.out _ _ (by exact Zd.out.le) (fun hHeld => ?_)
    clear hK K
    try simp only [Act.put, List.setIfInBounds_toArray, List.set_cons_zero, List.set_cons_succ, List.getElem_toArray, List.getElem_cons_succ, List.getElem_cons_zero]
    clear b3
    refine wpAnyH_ready (rs := [8]) (by kernel_rfl) (by simp) ?_
    refine AllReadyH.cons rfl (fun K hK => ?_) AllReadyH.nil
    go_simp
    go_at_call 84
    refine (name_anyL (nv := nv) B i (k + 1) s hi hs _ (by exact Zd.out.bx)).mono ?_
    intro e w2 hp
    unfold NamePostL at hp
    by_cases h1 : stopAt s i = i
    · rw [if_pos h1] at hp
      obtain ⟨rfl, he⟩ := hp
      have HNE : Hid (nameE s i = if i = s.size then 13 else 12) := by unfold Hid nameE; rw [if_pos h1]
      have HNZ : Hid ((if i = s.size then (13 : Int) else 12) ≠ 0) := by unfold Hid; split <;> omega
      exact ⟨rfl, lrP_no (by rw [HR2.out, if_pos (by rw [HNE.out]; exact HNZ.out), HNE.out]) HNZ.out (Fd.out.trans (he.bfrL nv))⟩
    rw [if_neg h1] at hp
    by_cases h2 : nameB (s.extract i (stopAt s i)) = false
    · rw [if_pos h2] at hp
      obtain ⟨rfl, he⟩ := hp
      have HNE : Hid (nameE s i = 1) := by unfold Hid nameE; rw [if_neg h1, if_pos h2]
      exact ⟨rfl, lrP_no (by rw [HR2.out, if_pos (by rw [HNE.out]; simp), HNE.out]) (by simp) (Fd.out.trans (he.bfrL nv))⟩
    rw [if_neg h2] at hp
    obtain ⟨rfl, hx2, he2, hz2⟩ := hp
    have HNE : Hid (nameE s i = 0) := by unfold Hid nameE; rw [if_neg h1, if_neg h2]
    have HR3 := hide (show r = _ from (HR2.out).trans (if_neg (by rw [HNE.out]; simp)))
    have hjs := stopAt_le s hi
    have hji := stopAt_ge s i
    have hjl : i < stopAt s i := by omega
    have Z2 := hide (Zd.out.ex he2 hx2)
    have F2 := hide (Fd.out.trans (he2.bfrL nv))
    have R2 := hide (blk_bfr Rd.out (he2.bfrL nv) hbox.1 hbox.2)
    clear hx2 he2 h1 h2 Zd Fd Rd HR2 HNE
    generalize s.extract i (stopAt s i) = x at *
    generalize stopAt s i = j at *
    go_simp
    refine hK.out _ _ (by exact Z2.out.le) (fun hHeld => ?_)
    clear hK K
    try simp only [Act.put, List.setIfInBounds_toArray, List.set_cons_zero, List.set_cons_succ, List.getElem_toArray, List.getElem_cons_succ, List.getElem_cons_zero]
    have Z3 := hide (Z2.out.alloc (.cells #[.string x] 9))
    have R3 := hide (R2.out.alloc (.cells #[.string x] 9))
    have F3 := hide (F2.out.trans (BFr.of_below ((Below.refl w2.heap.size w2).alloc (Nat.le_refl _) (.cells #[.string x] 9)) B nv))
    have P3 := hide (Blk.new w2 #[.string x] 9)
    have hz3 : (w2.alloc (.cells #[.string x] 9)).heap.size = w.heap.size + 2 := by simp; omega
    refine wpAnyH_ready (rs := [9]) (by kernel_rfl) (by simp) ?_
    refine AllReadyH.cons rfl (fun K hK => ?_) AllReadyH.nil
    go_simp
    refine hK.out _ _ (by exact Z3.out.le) (fun hHeld => ?_)
    clear hK K
    try simp only [Act.put, List.setIfInBounds_toArray, List.set_cons_zero, List.set_cons_succ, List.getElem_toArray, List.getElem_cons_succ, List.getElem_cons_zero]
    generalize (w2.alloc (.cells #[.string x] 9)) = w3 at *
    have hw2 : w2.heap.size = w.heap.size + 1 := by omega
    rw [hw2] at P3
    try rw [hw2]
    obtain ⟨g, cap, w4, hr4, ho4, hg4, hat4⟩ := app_oneL (P := w.heap.size + 1) (x := x) Z3.out.own Z3.out.le (by omega) (by have := P3.out.cell 0; simpa using this)
    have HR4 := hide hr4
    have HO4 := hide ho4
    have hB4 : Hid (Bl nv w4 B s j (k + 1)) := by
      unfold Hid Bl Blk
      rw [hg4.block B Z3.out.lt (fun e => Z3.out.ne e.symm)]
      exact Z3.out.bx
    have hf4 : BFr w3 w4 B nv (.slice (some ⟨g, 0, none⟩) (nm.length + 1) cap) := ⟨hg4.os, hg4.tape, hg4.output, hg4.size, fun q hq h1 h2 => hg4.block q hq h2, fun q hq => by
      simp [Value.ownBlock] at hq
      subst hq
      rcases hat4 with e | e
      · exact Or.inl e
      · right; omega⟩
    have R4 := hide (blk_bfr R3.out hf4 hbox.1 hbox.2)
    have ho4' := own_bfr hf4 R3.out.lt hbox.2
    have F4 := hide (F3.out.trans hf4)
    have HB4 := hide (Z3.out.fr hf4)
    have hz4 := hg4.size
    have hsz4 : Hid (g ≠ B) := by
      unfold Hid
      intro e
      rcases hat4 with e2 | e2
      · exact Z3.out.ne (by rw [e2, e])
      · have := Z3.out.lt; omega
    clear hr4 ho4 hg4 hat4 hf4
    have hle4 : N ≤ w4.heap.size := by have := Z3.out.le; omega
    refine wpAnyH_ready (rs := [10]) (by kernel_rfl) (by simp) ?_
    refine AllReadyH.cons rfl (fun K hK => ?_) AllReadyH.nil
    refine step_append_eqM rfl _ _ _ _ rfl rfl rfl HR4.out ?_
    refine hK.out _ _ (by exact hle4) (fun hHeld => ?_)
    clear hK K
    try simp only [Act.put, List.setIfInBounds_toArray, List.set_cons_zero, List.set_cons_succ, List.getElem_toArray, List.getElem_cons_succ, List.getElem_cons_zero]
    refine wpAnyH_take (i := 11) (v := ?_) rfl (by kernel_rfl) (by kernel_rfl) (by kernel_rfl) (fun _ _ _ h => h) (Or.inl ⟨by rfl, ?_⟩) (by assumption) ?_
    rotate_left
    · intro w' hSw
      go_simp <;> with_reducible rfl
    try simp only [Act.put, List.setIfInBounds_toArray, List.set_cons_zero, List.set_cons_succ, List.getElem_toArray, List.getElem_cons_succ, List.getElem_cons_zero]
    refine wpAnyH_take (i := 12) (v := ?_) rfl (by kernel_rfl) (by kernel_rfl) (by kernel_rfl) (fun _ _ _ h => h) (Or.inl ⟨by rfl, ?_⟩) (by assumption) ?_
    rotate_left
    · intro w' hSw
      go_simp <;> with_reducible rfl
    try simp only [Act.put, List.setIfInBounds_toArray, List.set_cons_zero, List.set_cons_succ, List.getElem_toArray, List.getElem_cons_succ, List.getElem_cons_zero]
    have b3 : w4.cell? ⟨B, 3, none⟩ = some nv := hB4.out.cell 3
    have bf : w4.frozen? ⟨B, 3, none⟩ = false := Blk.frozen hB4.out 3
    have hB5 : Hid (Bl (.slice (some ⟨g, 0, none⟩) (nm.length + 1) cap) (w4.setCell ⟨B, 3, none⟩ (.slice (some ⟨g, 0, none⟩) (nm.length + 1) cap)) B s j (k + 1)) := Blk.set hB4.out 3 _
    have hO5 : Hid ((w4.setCell ⟨B, 3, none⟩ (.slice (some ⟨g, 0, none⟩) (nm.length + 1) cap)).ownsRow N 9 1 (.slice (some ⟨g, 0, none⟩) (nm.length + 1) cap) (nm ++ [x]).length ((nm ++ [x]).map Value.string)) := HO4.out.kept (row := some B) ⟨rfl, rfl, rfl, by simp [World.setCell], fun q hq hb => Below.heap_setCell _ _ _ _ (by simp at hb; simpa using hb)⟩ (Or.inr (by simp [Value.ownBlock]; exact hsz4.out))
    have hf5 : Hid (BFr w4 (w4.setCell ⟨B, 3, none⟩ (.slice (some ⟨g, 0, none⟩) (nm.length + 1) cap)) B (.slice (some ⟨g, 0, none⟩) (nm.length + 1) cap) (.slice (some ⟨g, 0, none⟩) (nm.length + 1) cap)) := ⟨rfl, rfl, rfl, by simp [World.setCell], fun q hq h1 _ => Below.heap_setCell _ _ _ _ (by simpa using h1), fun _ h => Or.inl h⟩
    have R5 := hide (blk_bfr R4.out hf5.out hbox.1 ho4')
    have F5 := hide (F4.out.trans hf5.out)
    have Z5 : Hid (Rst N B s (nm ++ [x]) j (k + 1) (.slice (some ⟨g, 0, none⟩) (nm.length + 1) cap) (w4.setCell ⟨B, 3, none⟩ (.slice (some ⟨g, 0, none⟩) (nm.length + 1) cap))) := by
      have hb5 : Below N w4 (w4.setCell ⟨B, 3, none⟩ (.slice (some ⟨g, 0, none⟩) (nm.length + 1) cap)) := (Below.refl _ _).setCell (by have := Z3.out.nb; simpa using this) _
      exact ⟨hB5.out, hO5.out, Z3.out.nb, by simp [World.setCell]; omega, (Z3.out.tb.on HB4.out).on hb5, (Z3.out.ts.on HB4.out).on hb5⟩
    have hz5 : w4.heap.size ≤ (w4.setCell ⟨B, 3, none⟩ (.slice (some ⟨g, 0, none⟩) (nm.length + 1) cap)).heap.size := by simp [World.setCell]
    refine wpAnyH_ready (rs := [13]) (by kernel_rfl) (by simp) ?_
    refine AllReadyH.cons rfl (fun K hK => ?_) AllReadyH.nil
    go_simp
    refine hK.out _ _ (by exact Z5.out.le) (fun hHeld => ?_)
    clear hK K
    try simp only [Act.put, List.setIfInBounds_toArray, List.set_cons_zero, List.set_cons_succ, List.getElem_toArray, List.getElem_cons_succ, List.getElem_cons_zero]
    generalize (w4.setCell ⟨B, 3, none⟩ (.slice (some ⟨g, 0, none⟩) (nm.length + 1) cap)) = w5 at *
    clear b3 bf hB5 hO5 hf5 R4 F4 Z3 F3 R3 P3 HO4 HR4 hB4 HB4
    refine wpAnyH_done (by kernel_rfl) ?_ _
    go_wp2_with fail
    refine (rdAsk_anyL (nv := (.slice (some ⟨g, 0, none⟩) (nm.length + 1) cap)) B j (k + 1) s 46 hjs hs _ (by exact Z5.out.bx)).mono ?_
    intro e w6 hp
    unfold RdAskPostL at hp
    by_cases h6 : j < s.size ∧ byteAt s j = 46
    case neg =>
      rw [if_neg h6] at hp
      obtain ⟨he, n6, rfl⟩ := hp
      have HAE : Hid (askE s j 46 = if j = s.size then 13 else 12) := by unfold Hid askE; rw [if_neg h6]
      have HNZ : Hid ((if j = s.size then (13 : Int) else 12) ≠ 0) := by unfold Hid; split <;> omega
      unfold thrownL at he
      subst he
      exact ⟨rfl, lrP_no (by rw [HR3.out, if_pos (by rw [HAE.out]; exact HNZ.out), HAE.out]) HNZ.out (F5.out.trans (BFr.of_below (below_drewN (Below.refl _ _) n6) B (.slice (some ⟨g, 0, none⟩) (nm.length + 1) cap)))⟩
    rw [if_pos h6] at hp
    obtain ⟨⟨v6, rfl⟩, hx6, he6, hz6⟩ := hp
    have HAE : Hid (askE s j 46 = 0) := by unfold Hid askE; rw [if_pos h6]
    have HR6 := hide (show r = _ from (HR3.out).trans (if_neg (by rw [HAE.out]; simp)))
    have Z6 := hide (Z5.out.ex he6 hx6)
    have F6 := hide (F5.out.trans (he6.bfrL (.slice (some ⟨g, 0, none⟩) (nm.length + 1) cap)))
    have R6 := hide (blk_bfr R5.out (he6.bfrL (.slice (some ⟨g, 0, none⟩) (nm.length + 1) cap)) hbox.1 ho4')
    have hwz6 : w.heap.size + 2 ≤ w6.heap.size := by omega
    clear hx6 he6 hz6 HR3 Z5 F5 R5 HAE
    go_wp2_with fail
    refine (HT.out (nm ++ [x]) (.slice (some ⟨g, 0, none⟩) (nm.length + 1) cap) (j + 1) (k + 1) w6 Z6.out (by simp; omega) (by omega) (by omega) (by omega)).mono ?_
    intro e w7 hp
    generalize lrd s F .term (nm ++ [x]) (j + 1) (k + 1) = r7 at *
    rcases hp with ⟨hr0, nv7, a7, c7, rfl, hs7, hst7, hf7⟩ | ⟨hr0, rfl, nv7, hf7⟩
    case inr => exact ⟨rfl, lrP_no (by rw [HR6.out, if_pos hr0]) hr0 (F6.out.trans hf7)⟩
    obtain ⟨g7, cap7, rfl, hgc7⟩ : ∃ g7 cap7, nv7 = (.slice (some ⟨g7, 0, none⟩) (nm.length + 1) cap7) ∧ nm.length + 1 ≤ cap7 := by
      have h := hst7.own.2
      simp only [List.length_append, List.length_cons, List.length_nil, Nat.zero_add] at h
      rcases h with ⟨_, h⟩ | ⟨g7, cap7, cur, h, _, _, hnc, _⟩
      · omega
      · exact ⟨g7, cap7, h, hnc⟩
    have HR7 : Hid (r = ⟨0, ⟨2, 0, [r7.t]⟩, r7.pos, r7.k⟩) := by unfold Hid; rw [HR6.out, if_neg (by rw [hr0]; simp)]
    have F7 := hide (F6.out.trans hf7)
    have R7 := hide (blk_bfr R6.out hf7 hbox.1 ho4')
    have ho7 := own_bfr hf7 R6.out.lt ho4'
    have hz7 : w6.heap.size ≤ w7.heap.size := hf7.2.2.2.1
    have Z7 := hide hst7
    have gOLD : Hid (g7 ≠ w7.heap.size) := fun e => by have := (hst7.own.lt g7 rfl).2; omega
    have S7 := hide hs7
    clear hs7 hst7 hf7 hr0 HR6 Z6 F6 R6
    have B8 : Hid (Below w7.heap.size w7 ((w7.alloc (.cells #[.int .i64 r7.t.kind, .int .i64 r7.t.idx, .slice a7 r7.t.subs.length c7] 25)).alloc (.cells #[.int .i64 2, .int .i64 0, .slice (some ⟨w7.heap.size, 0, none⟩) 1 1] 25))) := ((Below.refl _ _).alloc (Nat.le_refl _) _).alloc (by simp) _
    have T8 := hide ((Blk.new w7 #[.int .i64 r7.t.kind, .int .i64 r7.t.idx, .slice a7 r7.t.subs.length c7] 25).alloc (.cells #[.int .i64 2, .int .i64 0, .slice (some ⟨w7.heap.size, 0, none⟩) 1 1] 25))
    have M8 : Hid (Blk ((w7.alloc (.cells #[.int .i64 r7.t.kind, .int .i64 r7.t.idx, .slice a7 r7.t.subs.length c7] 25)).alloc (.cells #[.int .i64 2, .int .i64 0, .slice (some ⟨w7.heap.size, 0, none⟩) 1 1] 25)) (w7.heap.size + 1) #[.int .i64 2, .int .i64 0, .slice (some ⟨w7.heap.size, 0, none⟩) 1 1] 25) := by
      have h := Blk.new (w7.alloc (.cells #[.int .i64 r7.t.kind, .int .i64 r7.t.idx, .slice a7 r7.t.subs.length c7] 25)) #[.int .i64 2, .int .i64 0, .slice (some ⟨w7.heap.size, 0, none⟩) 1 1] 25
      have hz : (w7.alloc (.cells #[.int .i64 r7.t.kind, .int .i64 r7.t.idx, .slice a7 r7.t.subs.length c7] 25)).heap.size = w7.heap.size + 1 := by simp
      rw [hz] at h
      exact h
    have hz8 : ((w7.alloc (.cells #[.int .i64 r7.t.kind, .int .i64 r7.t.idx, .slice a7 r7.t.subs.length c7] 25)).alloc (.cells #[.int .i64 2, .int .i64 0, .slice (some ⟨w7.heap.size, 0, none⟩) 1 1] 25)).heap.size = w7.heap.size + 2 := by simp
    have Z8 := hide (Z7.out.later B8.out)
    have F8 := hide (F7.out.trans (BFr.of_below B8.out B (.slice (some ⟨g7, 0, none⟩) (nm.length + 1) cap7)))
    have R8 := hide (R7.out.below B8.out R7.out.lt)
    have S8 := hide (S7.out.later B8.out)
    clear Z7 F7 R7 S7 B8
    go_wp2_with fail
    generalize ((w7.alloc (.cells #[.int .i64 r7.t.kind, .int .i64 r7.t.idx, .slice a7 r7.t.subs.length c7] 25)).alloc (.cells #[.int .i64 2, .int .i64 0, .slice (some ⟨w7.heap.size, 0, none⟩) 1 1] 25)) = w8 at *
    have Zd8 := hide (Z8.out.later (Below.drew (Below.refl w8.heap.size w8)))
    have Fd8 := hide (F8.out.trans (BFr.of_below (Below.drew (Below.refl w8.heap.size w8)) B (.slice (some ⟨g7, 0, none⟩) (nm.length + 1) cap7)))
    have Rd8 : Hid (Blk w8.drew w.heap.size #[.int .i64 0, .int .i64 0, .slice none 0 0] 25) := R8.out
    have Td8 : Hid (Blk w8.drew w7.heap.size #[.int .i64 r7.t.kind, .int .i64 r7.t.idx, .slice a7 r7.t.subs.length c7] 25) := T8.out
    have Md8 : Hid (Blk w8.drew (w7.heap.size + 1) #[.int .i64 2, .int .i64 0, .slice (some ⟨w7.heap.size, 0, none⟩) 1 1] 25) := M8.out
    have Sd8 : Hid (SlM w8.drew (fun b => w6.heap.size ≤ b ∧ some b ≠ ((.slice (some ⟨g7, 0, none⟩) (nm.length + 1) cap7) : Value).ownBlock) a7 r7.t.subs) := S8.out.later (Below.drew (Below.refl w8.heap.size w8))
    have hzd8 : w8.drew.heap.size = w7.heap.size + 2 := by
      have : w8.drew.heap = w8.heap := rfl
      rw [this]; exact hz8
    refine wp_region_held_drew (S := fun w' => N ≤ w'.heap.size) (by kernel_rfl) (by exact Zd8.out.le) (fun hHeld => ?_)
    generalize w8.drew = x8 at *
    clear Z8 F8 R8 T8 M8 S8 hz8
    have W1 : Hid (IntKind.i64.wrap (((nm.length + 1 : Nat) : Int) - 1) = (nm.length : Int)) := by
      unfold Hid; rw [show (((nm.length + 1 : Nat) : Int) - 1) = (nm.length : Int) by omega]; exact wrap_is (by omega) (by omega)
    have W2 : Hid (IntKind.i64.wrap ((nm.length : Int) + 1 - 1) = (nm.length : Int)) := by
      unfold Hid; rw [show ((nm.length : Int) + 1 - 1) = (nm.length : Int) by omega]; exact wrap_is (by omega) (by omega)
    have W3 : Hid (IntKind.i64.wrap (nm.length : Int) = (nm.length : Int)) := wrap_is (by omega) (by omega)
    refine wpAnyH_take (i := 0) (v := ?_) rfl (by kernel_rfl) (by kernel_rfl) (by kernel_rfl) (fun _ _ _ h => h) (Or.inl ⟨by rfl, ?_⟩) (by assumption) ?_
    rotate_left
    · intro w' hSw
      go_simp <;> with_reducible rfl
    try simp only [Act.put, List.setIfInBounds_toArray, List.set_cons_zero, List.set_cons_succ, List.getElem_toArray, List.getElem_cons_succ, List.getElem_cons_zero]
    refine wpAnyH_take (i := 1) (v := ?_) rfl (by kernel_rfl) (by kernel_rfl) (by kernel_rfl) (fun _ _ _ h => h) (Or.inl ⟨by rfl, ?_⟩) (by assumption) ?_
    rotate_left
    · intro w' hSw
      go_simp <;> with_reducible rfl
    try simp only [Act.put, List.setIfInBounds_toArray, List.set_cons_zero, List.set_cons_succ, List.getElem_toArray, List.getElem_cons_succ, List.getElem_cons_zero]
    refine wpAnyH_take (i := 2) (v := ?_) rfl (by kernel_rfl) (by kernel_rfl) (by kernel_rfl) (fun _ _ _ h => h) (Or.inl ⟨by rfl, ?_⟩) (by assumption) ?_
    rotate_left
    · intro w' hSw
      go_simp <;> with_reducible rfl
    try simp only [Act.put, List.setIfInBounds_toArray, List.set_cons_zero, List.set_cons_succ, List.getElem_toArray, List.getElem_cons_succ, List.getElem_cons_zero]
    refine wpAnyH_take (i := 3) (v := ?_) rfl (by kernel_rfl) (by kernel_rfl) (by kernel_rfl) (fun _ _ _ h => h) (Or.inl ⟨by rfl, ?_⟩) (by assumption) ?_
    rotate_left
    · intro w' hSw
      go_simp <;> with_reducible rfl
    try simp only [Act.put, List.setIfInBounds_toArray, List.set_cons_zero, List.set_cons_succ, List.getElem_toArray, List.getElem_cons_succ, List.getElem_cons_zero]
    refine wpAnyH_take (i := 5) (v := ?_) rfl (by kernel_rfl) (by kernel_rfl) (by kernel_rfl) (fun _ _ _ h => h) (Or.inl ⟨by rfl, ?_⟩) (by assumption) ?_
    rotate_left
    · intro w' hSw
      go_simp <;> with_reducible rfl
    try simp only [Act.put, List.setIfInBounds_toArray, List.set_cons_zero, List.set_cons_succ, List.getElem_toArray, List.getElem_cons_succ, List.getElem_cons_zero]
    refine wpAnyH_take (i := 6) (v := ?_) rfl (by kernel_rfl) (by kernel_rfl) (by kernel_rfl) (fun _ _ _ h => h) (Or.inl ⟨by rfl, ?_⟩) (by assumption) ?_
    rotate_left
    · intro w' hSw
      go_simp <;> with_reducible rfl
    try simp only [Act.put, List.setIfInBounds_toArray, List.set_cons_zero, List.set_cons_succ, List.getElem_toArray, List.getElem_cons_succ, List.getElem_cons_zero]
    refine wpAnyH_take (i := 7) (v := ?_) rfl (by kernel_rfl) (by kernel_rfl) (by kernel_rfl) (fun _ _ _ h => h) (Or.inl ⟨by rfl, ?_⟩) (by assumption) ?_
    rotate_left
    · intro w' hSw
      go_simp <;> with_reducible rfl
    try simp only [Act.put, List.setIfInBounds_toArray, List.set_cons_zero, List.set_cons_succ, List.getElem_toArray, List.getElem_cons_succ, List.getElem_cons_zero]
    refine wpAnyH_ready (rs := [4, 8]) (by kernel_rfl) (by simp) ?_
    refine AllReadyH.cons rfl (fun K hK => ?_) (AllReadyH.cons rfl (fun K hK => ?_) AllReadyH.nil)
    · have b3 : x8.cell? ⟨B, 3, none⟩ = some (.slice (some ⟨g7, 0, none⟩) (nm.length + 1) cap7) := Zd8.out.bx.cell 3
      go_simp
      refine hK.out _ _ (by exact Zd8.out.le) (fun hHeld => ?_)
      clear hK K
      try simp only [Act.put, List.setIfInBounds_toArray, List.set_cons_zero, List.set_cons_succ, List.getElem_toArray, List.getElem_cons_succ, List.getElem_cons_zero]
      clear b3
      refine wpAnyH_ready (rs := [8]) (by kernel_rfl) (by simp) ?_
      refine AllReadyH.cons rfl (fun K hK => ?_) AllReadyH.nil
      have b3 : x8.cell? ⟨B, 3, none⟩ = some (.slice (some ⟨g7, 0, none⟩) (nm.length + 1) cap7) := Zd8.out.bx.cell 3
      go_simp
      refine hK.out _ _ (by exact Zd8.out.le) (fun hHeld => ?_)
      clear hK K
      try simp only [Act.put, List.setIfInBounds_toArray, List.set_cons_zero, List.set_cons_succ, List.getElem_toArray, List.getElem_cons_succ, List.getElem_cons_zero]
      clear b3
      refine wpAnyH_take (i := 9) (v := ?_) rfl (by kernel_rfl) (by kernel_rfl) (by kernel_rfl) (fun _ _ _ h => h) (Or.inl ⟨by rfl, ?_⟩) (by assumption) ?_
      rotate_left
      · intro w' hSw
        go_simp <;> with_reducible rfl
      try simp only [Act.put, List.setIfInBounds_toArray, List.set_cons_zero, List.set_cons_succ, List.getElem_toArray, List.getElem_cons_succ, List.getElem_cons_zero]
      refine wpAnyH_take (i := 10) (v := ?_) rfl (by kernel_rfl) (by kernel_rfl) (by kernel_rfl) (fun _ _ _ h => h) (Or.inl ⟨by rfl, ?_⟩) (by assumption) ?_
      rotate_left
      · intro w' hSw
        go_simp <;> with_reducible rfl
      try simp only [Act.put, List.setIfInBounds_toArray, List.set_cons_zero, List.set_cons_succ, List.getElem_toArray, List.getElem_cons_succ, List.getElem_cons_zero]
      first | rw [W1.out] | rw [W2.out] | rw [W3.out]
      refine wpAnyH_take (i := 11) (v := ?_) rfl (by kernel_rfl) (by kernel_rfl) (by kernel_rfl) (fun _ _ _ h => h) (Or.inl ⟨by rfl, ?_⟩) (by assumption) ?_
      rotate_left
      · intro w' hSw
        have hkc : (nm.length : Int) ≤ (cap7 : Int) := by omega
        go_simp <;> with_reducible rfl
      try simp only [Act.put, List.setIfInBounds_toArray, List.set_cons_zero, List.set_cons_succ, List.getElem_toArray, List.getElem_cons_succ, List.getElem_cons_zero]
      refine wpAnyH_take (i := 12) (v := ?_) rfl (by kernel_rfl) (by kernel_rfl) (by kernel_rfl) (fun _ _ _ h => h) (Or.inl ⟨by rfl, ?_⟩) (by assumption) ?_
      rotate_left
      · intro w' hSw
        go_simp <;> with_reducible rfl
      try simp only [Act.put, List.setIfInBounds_toArray, List.set_cons_zero, List.set_cons_succ, List.getElem_toArray, List.getElem_cons_succ, List.getElem_cons_zero]
      refine wpAnyH_take (i := 13) (v := ?_) rfl (by kernel_rfl) (by kernel_rfl) (by kernel_rfl) (fun _ _ _ h => h) (Or.inl ⟨by rfl, ?_⟩) (by assumption) ?_
      rotate_left
      · intro w' hSw
        go_simp <;> with_reducible rfl
      try simp only [Act.put, List.setIfInBounds_toArray, List.set_cons_zero, List.set_cons_succ, List.getElem_toArray, List.getElem_cons_succ, List.getElem_cons_zero]
      have hg7B : Hid (g7 ≠ B) := fun e => Zd8.out.ne (by rw [e]; rfl)
      have b3 : x8.cell? ⟨B, 3, none⟩ = some (.slice (some ⟨g7, 0, none⟩) (nm.length + 1) cap7) := Zd8.out.bx.cell 3
      have bf : x8.frozen? ⟨B, 3, none⟩ = false := Blk.frozen Zd8.out.bx 3
      have hB9 : Hid (Bl (.slice (some ⟨g7, 0, none⟩) nm.length cap7) (x8.setCell ⟨B, 3, none⟩ (.slice (some ⟨g7, 0, none⟩) nm.length cap7)) B s r7.pos r7.k) := Blk.set Zd8.out.bx 3 _
      have hf9 : Hid (BFr x8 (x8.setCell ⟨B, 3, none⟩ (.slice (some ⟨g7, 0, none⟩) nm.length cap7)) B (.slice (some ⟨g7, 0, none⟩) (nm.length + 1) cap7) (.slice (some ⟨g7, 0, none⟩) nm.length cap7)) := ⟨rfl, rfl, rfl, by simp [World.setCell], fun q hq h1 _ => Below.heap_setCell _ _ _ _ (by simpa using h1), fun _ h => Or.inl h⟩
      have hO9 : Hid ((x8.setCell ⟨B, 3, none⟩ (.slice (some ⟨g7, 0, none⟩) nm.length cap7)).ownsRow N 9 1 (.slice (some ⟨g7, 0, none⟩) nm.length cap7) nm.length (nm.map Value.string)) := (pop_own (n := nm.length) Zd8.out.own rfl).kept (row := some B) ⟨rfl, rfl, rfl, by simp [World.setCell], fun q hq hb => Below.heap_setCell _ _ _ _ (by simp at hb; simpa using hb)⟩ (Or.inr (by simp [Value.ownBlock]; exact hg7B.out))
      have Z9 := hide (Zd8.out.step hf9.out hB9.out hO9.out)
      have F9 := hide (Fd8.out.trans hf9.out)
      have R9 := hide (blk_bfr Rd8.out hf9.out hbox.1 ho7)
      have kx : ∀ q : Nat, q ≠ B → (x8.setCell ⟨B, 3, none⟩ (.slice (some ⟨g7, 0, none⟩) nm.length cap7)).heap[q]? = x8.heap[q]? := fun q hq => Below.heap_setCell _ _ _ _ (by simpa using hq)
      have T9 : Hid (Blk (x8.setCell ⟨B, 3, none⟩ (.slice (some ⟨g7, 0, none⟩) nm.length cap7)) w7.heap.size #[.int .i64 r7.t.kind, .int .i64 r7.t.idx, .slice a7 r7.t.subs.length c7] 25) := (kx _ (by omega)).trans Td8.out
      have M9 : Hid (Blk (x8.setCell ⟨B, 3, none⟩ (.slice (some ⟨g7, 0, none⟩) nm.length cap7)) (w7.heap.size + 1) #[.int .i64 2, .int .i64 0, .slice (some ⟨w7.heap.size, 0, none⟩) 1 1] 25) := (kx _ (by omega)).trans Md8.out
      have S9 : Hid (SlM (x8.setCell ⟨B, 3, none⟩ (.slice (some ⟨g7, 0, none⟩) nm.length cap7)) (fun b => w.heap.size < b ∧ some b ≠ ((.slice (some ⟨g7, 0, none⟩) nm.length cap7) : Value).ownBlock) a7 r7.t.subs) := (Sd8.out.kept fun q hq => kx q (by omega)).mono fun q hq _ => ⟨by omega, hq.2⟩
      refine wpAnyH_ready (rs := [14]) (by kernel_rfl) (by simp) ?_
      refine AllReadyH.cons rfl (fun K hK => ?_) AllReadyH.nil
      go_simp
      refine hK.out _ _ (by exact Z9.out.le) (fun hHeld => ?_)
      clear hK K
      try simp only [Act.put, List.setIfInBounds_toArray, List.set_cons_zero, List.set_cons_succ, List.getElem_toArray, List.getElem_cons_succ, List.getElem_cons_zero]
      generalize (x8.setCell ⟨B, 3, none⟩ (.slice (some ⟨g7, 0, none⟩) nm.length cap7)) = w9 at *
      clear b3 bf hB9 hO9 hf9 Zd8 Fd8 Rd8 Td8 Md8 Sd8 kx
      refine wpAnyH_done (by kernel_rfl) ?_ _
      have q0 := M9.out.cell 0
      have q1 := M9.out.cell 1
      have q2 := M9.out.cell 2
      have t0 := T9.out.cell 0
      have t1 := T9.out.cell 1
      have t2 := T9.out.cell 2
      have r0 := R9.out.cell 0
      have r1 := R9.out.cell 1
      have r2 := R9.out.cell 2
      have rf := R9.out.frozen
      simp only [List.getElem?_toArray, List.getElem?_cons_succ, List.getElem?_cons_zero] at q0 q1 q2 r0 r1 r2 t0 t1 t2
      have hg7 : ((.slice (some ⟨g7, 0, none⟩) nm.length cap7) : Value).ownBlock = some g7 := rfl
      have hlt7 := (Z9.out.own.lt _ hg7).2
      have HNG : Hid (some w7.heap.size ≠ ((.slice (some ⟨g7, 0, none⟩) nm.length cap7) : Value).ownBlock) := by
        unfold Hid
        intro e
        have e2 : g7 = w7.heap.size := by simpa [Value.ownBlock] using e.symm
        exact gOLD.out e2
      have SF : Hid (SlM w9 (fun b => w.heap.size < b ∧ some b ≠ ((.slice (some ⟨g7, 0, none⟩) nm.length cap7) : Value).ownBlock) (some ⟨w7.heap.size, 0, none⟩) [r7.t]) := lies_one ⟨by omega, HNG.out⟩ (by simpa using t0) (by simpa using t1) (by simpa using t2) S9.out
      clear hg7 hlt7
      go_wp2_with fail
      refine bodyPost_ret (v := .agg #[.int .i64 2, .int .i64 0, .slice (some ⟨w7.heap.size, 0, none⟩) 1 1]) (by simp [results, Tryz.results62, go_sem, World.cell?_setCell_same, World.cell?_setCell_other, r0, r1, r2]) rfl ?_
      exact lr_fin (t := ⟨2, 0, [r7.t]⟩) HR7.out Z9.out F9.out hBlt ho7 SF.out _ _ _
    · have b3 : x8.cell? ⟨B, 3, none⟩ = some (.slice (some ⟨g7, 0, none⟩) (nm.length + 1) cap7) := Zd8.out.bx.cell 3
      go_simp
      refine hK.out _ _ (by exact Zd8.out.le) (fun hHeld => ?_)
      clear hK K
      try simp only [Act.put, List.setIfInBounds_toArray, List.set_cons_zero, List.set_cons_succ, List.getElem_toArray, List.getElem_cons_succ, List.getElem_cons_zero]
      clear b3
      refine wpAnyH_take (i := 9) (v := ?_) rfl (by kernel_rfl) (by kernel_rfl) (by kernel_rfl) (fun _ _ _ h => h) (Or.inl ⟨by rfl, ?_⟩) (by assumption) ?_
      rotate_left
      · intro w' hSw
        go_simp <;> with_reducible rfl
      try simp only [Act.put, List.setIfInBounds_toArray, List.set_cons_zero, List.set_cons_succ, List.getElem_toArray, List.getElem_cons_succ, List.getElem_cons_zero]
      refine wpAnyH_take (i := 10) (v := ?_) rfl (by kernel_rfl) (by kernel_rfl) (by kernel_rfl) (fun _ _ _ h => h) (Or.inl ⟨by rfl, ?_⟩) (by assumption) ?_
      rotate_left
      · intro w' hSw
        go_simp <;> with_reducible rfl
      try simp only [Act.put, List.setIfInBounds_toArray, List.set_cons_zero, List.set_cons_succ, List.getElem_toArray, List.getElem_cons_succ, List.getElem_cons_zero]
      first | rw [W1.out] | rw [W2.out] | rw [W3.out]
      refine wpAnyH_ready (rs := [4]) (by kernel_rfl) (by simp) ?_
      refine AllReadyH.cons rfl (fun K hK => ?_) AllReadyH.nil
      have b3 : x8.cell? ⟨B, 3, none⟩ = some (.slice (some ⟨g7, 0, none⟩) (nm.length + 1) cap7) := Zd8.out.bx.cell 3
      go_simp
      refine hK.out _ _ (by exact Zd8.out.le) (fun hHeld => ?_)
      clear hK K
      try simp only [Act.put, List.setIfInBounds_toArray, List.set_cons_zero, List.set_cons_succ, List.getElem_toArray, List.getElem_cons_succ, List.getElem_cons_zero]
      clear b3
      refine wpAnyH_take (i := 11) (v := ?_) rfl (by kernel_rfl) (by kernel_rfl) (by kernel_rfl) (fun _ _ _ h => h) (Or.inl ⟨by rfl, ?_⟩) (by assumption) ?_
      rotate_left
      · intro w' hSw
        have hkc : (nm.length : Int) ≤ (cap7 : Int) := by omega
        go_simp <;> with_reducible rfl
      try simp only [Act.put, List.setIfInBounds_toArray, List.set_cons_zero, List.set_cons_succ, List.getElem_toArray, List.getElem_cons_succ, List.getElem_cons_zero]
      refine wpAnyH_take (i := 12) (v := ?_) rfl (by kernel_rfl) (by kernel_rfl) (by kernel_rfl) (fun _ _ _ h => h) (Or.inl ⟨by rfl, ?_⟩) (by assumption) ?_
      rotate_left
      · intro w' hSw
        go_simp <;> with_reducible rfl
      try simp only [Act.put, List.setIfInBounds_toArray, List.set_cons_zero, List.set_cons_succ, List.getElem_toArray, List.getElem_cons_succ, List.getElem_cons_zero]
      refine wpAnyH_take (i := 13) (v := ?_) rfl (by kernel_rfl) (by kernel_rfl) (by kernel_rfl) (fun _ _ _ h => h) (Or.inl ⟨by rfl, ?_⟩) (by assumption) ?_
      rotate_left
      · intro w' hSw
        go_simp <;> with_reducible rfl
      try simp only [Act.put, List.setIfInBounds_toArray, List.set_cons_zero, List.set_cons_succ, List.getElem_toArray, List.getElem_cons_succ, List.getElem_cons_zero]
      have hg7B : Hid (g7 ≠ B) := fun e => Zd8.out.ne (by rw [e]; rfl)
      have b3 : x8.cell? ⟨B, 3, none⟩ = some (.slice (some ⟨g7, 0, none⟩) (nm.length + 1) cap7) := Zd8.out.bx.cell 3
      have bf : x8.frozen? ⟨B, 3, none⟩ = false := Blk.frozen Zd8.out.bx 3
      have hB9 : Hid (Bl (.slice (some ⟨g7, 0, none⟩) nm.length cap7) (x8.setCell ⟨B, 3, none⟩ (.slice (some ⟨g7, 0, none⟩) nm.length cap7)) B s r7.pos r7.k) := Blk.set Zd8.out.bx 3 _
      have hf9 : Hid (BFr x8 (x8.setCell ⟨B, 3, none⟩ (.slice (some ⟨g7, 0, none⟩) nm.length cap7)) B (.slice (some ⟨g7, 0, none⟩) (nm.length + 1) cap7) (.slice (some ⟨g7, 0, none⟩) nm.length cap7)) := ⟨rfl, rfl, rfl, by simp [World.setCell], fun q hq h1 _ => Below.heap_setCell _ _ _ _ (by simpa using h1), fun _ h => Or.inl h⟩
      have hO9 : Hid ((x8.setCell ⟨B, 3, none⟩ (.slice (some ⟨g7, 0, none⟩) nm.length cap7)).ownsRow N 9 1 (.slice (some ⟨g7, 0, none⟩) nm.length cap7) nm.length (nm.map Value.string)) := (pop_own (n := nm.length) Zd8.out.own rfl).kept (row := some B) ⟨rfl, rfl, rfl, by simp [World.setCell], fun q hq hb => Below.heap_setCell _ _ _ _ (by simp at hb; simpa using hb)⟩ (Or.inr (by simp [Value.ownBlock]; exact hg7B.out))
      have Z9 := hide (Zd8.out.step hf9.out hB9.out hO9.out)
      have F9 := hide (Fd8.out.trans hf9.out)
      have R9 := hide (blk_bfr Rd8.out hf9.out hbox.1 ho7)
      have kx : ∀ q : Nat, q ≠ B → (x8.setCell ⟨B, 3, none⟩ (.slice (some ⟨g7, 0, none⟩) nm.length cap7)).heap[q]? = x8.heap[q]? := fun q hq => Below.heap_setCell _ _ _ _ (by simpa using hq)
      have T9 : Hid (Blk (x8.setCell ⟨B, 3, none⟩ (.slice (some ⟨g7, 0, none⟩) nm.length cap7)) w7.heap.size #[.int .i64 r7.t.kind, .int .i64 r7.t.idx, .slice a7 r7.t.subs.length c7] 25) := (kx _ (by omega)).trans Td8.out
      have M9 : Hid (Blk (x8.setCell ⟨B, 3, none⟩ (.slice (some ⟨g7, 0, none⟩) nm.length cap7)) (w7.heap.size + 1) #[.int .i64 2, .int .i64 0, .slice (some ⟨w7.heap.size, 0, none⟩) 1 1] 25) := (kx _ (by omega)).trans Md8.out
      have S9 : Hid (SlM (x8.setCell ⟨B, 3, none⟩ (.slice (some ⟨g7, 0, none⟩) nm.length cap7)) (fun b => w.heap.size < b ∧ some b ≠ ((.slice (some ⟨g7, 0, none⟩) nm.length cap7) : Value).ownBlock) a7 r7.t.subs) := (Sd8.out.kept fun q hq => kx q (by omega)).mono fun q hq _ => ⟨by omega, hq.2⟩
      refine wpAnyH_ready (rs := [14]) (by kernel_rfl) (by simp) ?_
      refine AllReadyH.cons rfl (fun K hK => ?_) AllReadyH.nil
      go_simp
      refine hK.out _ _ (by exact Z9.out.le) (fun hHeld => ?_)
      clear hK K
      try simp only [Act.put, List.setIfInBounds_toArray, List.set_cons_zero, List.set_cons_succ, List.getElem_toArray, List.getElem_cons_succ, List.getElem_cons_zero]
      generalize (x8.setCell ⟨B, 3, none⟩ (.slice (some ⟨g7, 0, none⟩) nm.length cap7)) = w9 at *
      clear b3 bf hB9 hO9 hf9 Zd8 Fd8 Rd8 Td8 Md8 Sd8 kx
      refine wpAnyH_done (by kernel_rfl) ?_ _
      have q0 := M9.out.cell 0
      have q1 := M9.out.cell 1
      have q2 := M9.out.cell 2
      have t0 := T9.out.cell 0
      have t1 := T9.out.cell 1
      have t2 := T9.out.cell 2
      have r0 := R9.out.cell 0
      have r1 := R9.out.cell 1
      have r2 := R9.out.cell 2
      have rf := R9.out.frozen
      simp only [List.getElem?_toArray, List.getElem?_cons_succ, List.getElem?_cons_zero] at q0 q1 q2 r0 r1 r2 t0 t1 t2
      have hg7 : ((.slice (some ⟨g7, 0, none⟩) nm.length cap7) : Value).ownBlock = some g7 := rfl
      have hlt7 := (Z9.out.own.lt _ hg7).2
      have HNG : Hid (some w7.heap.size ≠ ((.slice (some ⟨g7, 0, none⟩) nm.length cap7) : Value).ownBlock) := by
        unfold Hid
        intro e
        have e2 : g7 = w7.heap.size := by simpa [Value.ownBlock] using e.symm
        exact gOLD.out e2
      have SF : Hid (SlM w9 (fun b => w.heap.size < b ∧ some b ≠ ((.slice (some ⟨g7, 0, none⟩) nm.length cap7) : Value).ownBlock) (some ⟨w7.heap.size, 0, none⟩) [r7.t]) := lies_one ⟨by omega, HNG.out⟩ (by simpa using t0) (by simpa using t1) (by simpa using t2) S9.out
      clear hg7 hlt7
      go_wp2_with fail
      refine bodyPost_ret (v := .agg #[.int .i64 2, .int .i64 0, .slice (some ⟨w7.heap.size, 0, none⟩) 1 1]) (by simp [results, Tryz.results62, go_sem, World.cell?_setCell_same, World.cell?_setCell_other, r0, r1, r2]) rfl ?_
      exact lr_fin (t := ⟨2, 0, [r7.t]⟩) HR7.out Z9.out F9.out hBlt ho7 SF.out _ _ _
  · go_simp
    go_at_call 84
    refine (name_anyL (nv := nv) B i (k + 1) s hi hs _ (by exact Zd.out.bx)).mono ?_
    intro e w2 hp
    unfold NamePostL at hp
    by_cases h1 : stopAt s i = i
    · rw [if_pos h1] at hp
      obtain ⟨rfl, he⟩ := hp
      have HNE : Hid (nameE s i = if i = s.size then 13 else 12) := by unfold Hid nameE; rw [if_pos h1]
      have HNZ : Hid ((if i = s.size then (13 : Int) else 12) ≠ 0) := by unfold Hid; split <;> omega
      exact ⟨rfl, lrP_no (by rw [HR2.out, if_pos (by rw [HNE.out]; exact HNZ.out), HNE.out]) HNZ.out (Fd.out.trans (he.bfrL nv))⟩
    rw [if_neg h1] at hp
    by_cases h2 : nameB (s.extract i (stopAt s i)) = false
    · rw [if_pos h2] at hp
      obtain ⟨rfl, he⟩ := hp
      have HNE : Hid (nameE s i = 1) := by unfold Hid nameE; rw [if_neg h1, if_pos h2]
      exact ⟨rfl, lrP_no (by rw [HR2.out, if_pos (by rw [HNE.out]; simp), HNE.out]) (by simp) (Fd.out.trans (he.bfrL nv))⟩
    rw [if_neg h2] at hp
    obtain ⟨rfl, hx2, he2, hz2⟩ := hp
    have HNE : Hid (nameE s i = 0) := by unfold Hid nameE; rw [if_neg h1, if_neg h2]
    have HR3 := hide (show r = _ from (HR2.out).trans (if_neg (by rw [HNE.out]; simp)))
    have hjs := stopAt_le s hi
    have hji := stopAt_ge s i
    have hjl : i < stopAt s i := by omega
    have Z2 := hide (Zd.out.ex he2 hx2)
    have F2 := hide (Fd.out.trans (he2.bfrL nv))
    have R2 := hide (blk_bfr Rd.out (he2.bfrL nv) hbox.1 hbox.2)
    clear hx2 he2 h1 h2 Zd Fd Rd HR2 HNE
    generalize s.extract i (stopAt s i) = x at *
    generalize stopAt s i = j at *
    go_simp
    refine hK.out _ _ (by exact Z2.out.le) (fun hHeld => ?_)
    clear hK K
    try simp only [Act.put, List.setIfInBounds_toArray, List.set_cons_zero, List.set_cons_succ, List.getElem_toArray, List.getElem_cons_succ, List.getElem_cons_zero]
    have Z3 := hide (Z2.out.alloc (.cells #[.string x] 9))
    have R3 := hide (R2.out.alloc (.cells #[.string x] 9))
    have F3 := hide (F2.out.trans (BFr.of_below ((Below.refl w2.heap.size w2).alloc (Nat.le_refl _) (.cells #[.string x] 9)) B nv))
    have P3 := hide (Blk.new w2 #[.string x] 9)
    have hz3 : (w2.alloc (.cells #[.string x] 9)).heap.size = w.heap.size + 2 := by simp; omega
    refine wpAnyH_ready (rs := [4, 9]) (by kernel_rfl) (by simp) ?_
    refine AllReadyH.cons rfl (fun K hK => ?_) (AllReadyH.cons rfl (fun K hK => ?_) AllReadyH.nil)
    · have b3 : w2.cell? ⟨B, 3, none⟩ = some nv := Z2.out.bx.cell 3
      go_simp
      refine hK.out _ _ (by exact Z2.out.le) (fun hHeld => ?_)
      clear hK K
      try simp only [Act.put, List.setIfInBounds_toArray, List.set_cons_zero, List.set_cons_succ, List.getElem_toArray, List.getElem_cons_succ, List.getElem_cons_zero]
      clear b3
      refine wpAnyH_ready (rs := [9]) (by kernel_rfl) (by simp) ?_
      refine AllReadyH.cons rfl (fun K hK => ?_) AllReadyH.nil
      go_simp
      refine hK.out _ _ (by exact Z3.out.le) (fun hHeld => ?_)
      clear hK K
      try simp only [Act.put, List.setIfInBounds_toArray, List.set_cons_zero, List.set_cons_succ, List.getElem_toArray, List.getElem_cons_succ, List.getElem_cons_zero]
      generalize (w2.alloc (.cells #[.string x] 9)) = w3 at *
      have hw2 : w2.heap.size = w.heap.size + 1 := by omega
      rw [hw2] at P3
      try rw [hw2]
      obtain ⟨g, cap, w4, hr4, ho4, hg4, hat4⟩ := app_oneL (P := w.heap.size + 1) (x := x) Z3.out.own Z3.out.le (by omega) (by have := P3.out.cell 0; simpa using this)
      have HR4 := hide hr4
      have HO4 := hide ho4
      have hB4 : Hid (Bl nv w4 B s j (k + 1)) := by
        unfold Hid Bl Blk
        rw [hg4.block B Z3.out.lt (fun e => Z3.out.ne e.symm)]
        exact Z3.out.bx
      have hf4 : BFr w3 w4 B nv (.slice (some ⟨g, 0, none⟩) (nm.length + 1) cap) := ⟨hg4.os, hg4.tape, hg4.output, hg4.size, fun q hq h1 h2 => hg4.block q hq h2, fun q hq => by
        simp [Value.ownBlock] at hq
        subst hq
        rcases hat4 with e | e
        · exact Or.inl e
        · right; omega⟩
      have R4 := hide (blk_bfr R3.out hf4 hbox.1 hbox.2)
      have ho4' := own_bfr hf4 R3.out.lt hbox.2
      have F4 := hide (F3.out.trans hf4)
      have HB4 := hide (Z3.out.fr hf4)
      have hz4 := hg4.size
      have hsz4 : Hid (g ≠ B) := by
        unfold Hid
        intro e
        rcases hat4 with e2 | e2
        · exact Z3.out.ne (by rw [e2, e])
        · have := Z3.out.lt; omega
      clear hr4 ho4 hg4 hat4 hf4
      have hle4 : N ≤ w4.heap.size := by have := Z3.out.le; omega
      refine wpAnyH_ready (rs := [10]) (by kernel_rfl) (by simp) ?_
      refine AllReadyH.cons rfl (fun K hK => ?_) AllReadyH.nil
      refine step_append_eqM rfl _ _ _ _ rfl rfl rfl HR4.out ?_
      refine hK.out _ _ (by exact hle4) (fun hHeld => ?_)
      clear hK K
      try simp only [Act.put, List.setIfInBounds_toArray, List.set_cons_zero, List.set_cons_succ, List.getElem_toArray, List.getElem_cons_succ, List.getElem_cons_zero]
      refine wpAnyH_take (i := 11) (v := ?_) rfl (by kernel_rfl) (by kernel_rfl) (by kernel_rfl) (fun _ _ _ h => h) (Or.inl ⟨by rfl, ?_⟩) (by assumption) ?_
      rotate_left
      · intro w' hSw
        go_simp <;> with_reducible rfl
      try simp only [Act.put, List.setIfInBounds_toArray, List.set_cons_zero, List.set_cons_succ, List.getElem_toArray, List.getElem_cons_succ, List.getElem_cons_zero]
      refine wpAnyH_take (i := 12) (v := ?_) rfl (by kernel_rfl) (by kernel_rfl) (by kernel_rfl) (fun _ _ _ h => h) (Or.inl ⟨by rfl, ?_⟩) (by assumption) ?_
      rotate_left
      · intro w' hSw
        go_simp <;> with_reducible rfl
      try simp only [Act.put, List.setIfInBounds_toArray, List.set_cons_zero, List.set_cons_succ, List.getElem_toArray, List.getElem_cons_succ, List.getElem_cons_zero]
      have b3 : w4.cell? ⟨B, 3, none⟩ = some nv := hB4.out.cell 3
      have bf : w4.frozen? ⟨B, 3, none⟩ = false := Blk.frozen hB4.out 3
      have hB5 : Hid (Bl (.slice (some ⟨g, 0, none⟩) (nm.length + 1) cap) (w4.setCell ⟨B, 3, none⟩ (.slice (some ⟨g, 0, none⟩) (nm.length + 1) cap)) B s j (k + 1)) := Blk.set hB4.out 3 _
      have hO5 : Hid ((w4.setCell ⟨B, 3, none⟩ (.slice (some ⟨g, 0, none⟩) (nm.length + 1) cap)).ownsRow N 9 1 (.slice (some ⟨g, 0, none⟩) (nm.length + 1) cap) (nm ++ [x]).length ((nm ++ [x]).map Value.string)) := HO4.out.kept (row := some B) ⟨rfl, rfl, rfl, by simp [World.setCell], fun q hq hb => Below.heap_setCell _ _ _ _ (by simp at hb; simpa using hb)⟩ (Or.inr (by simp [Value.ownBlock]; exact hsz4.out))
      have hf5 : Hid (BFr w4 (w4.setCell ⟨B, 3, none⟩ (.slice (some ⟨g, 0, none⟩) (nm.length + 1) cap)) B (.slice (some ⟨g, 0, none⟩) (nm.length + 1) cap) (.slice (some ⟨g, 0, none⟩) (nm.length + 1) cap)) := ⟨rfl, rfl, rfl, by simp [World.setCell], fun q hq h1 _ => Below.heap_setCell _ _ _ _ (by simpa using h1), fun _ h => Or.inl h⟩
      have R5 := hide (blk_bfr R4.out hf5.out hbox.1 ho4')
      have F5 := hide (F4.out.trans hf5.out)
      have Z5 : Hid (Rst N B s (nm ++ [x]) j (k + 1) (.slice (some ⟨g, 0, none⟩) (nm.length + 1) cap) (w4.setCell ⟨B, 3, none⟩ (.slice (some ⟨g, 0, none⟩) (nm.length + 1) cap))) := by
        have hb5 : Below N w4 (w4.setCell ⟨B, 3, none⟩ (.slice (some ⟨g, 0, none⟩) (nm.length + 1) cap)) := (Below.refl _ _).setCell (by have := Z3.out.nb; simpa using this) _
        exact ⟨hB5.out, hO5.out, Z3.out.nb, by simp [World.setCell]; omega, (Z3.out.tb.on HB4.out).on hb5, (Z3.out.ts.on HB4.out).on hb5⟩
      have hz5 : w4.heap.size ≤ (w4.setCell ⟨B, 3, none⟩ (.slice (some ⟨g, 0, none⟩) (nm.length + 1) cap)).heap.size := by simp [World.setCell]
      refine wpAnyH_ready (rs := [13]) (by kernel_rfl) (by simp) ?_
      refine AllReadyH.cons rfl (fun K hK => ?_) AllReadyH.nil
      go_simp
      refine hK.out _ _ (by exact Z5.out.le) (fun hHeld => ?_)
      clear hK K
      try simp only [Act.put, List.setIfInBounds_toArray, List.set_cons_zero, List.set_cons_succ, List.getElem_toArray, List.getElem_cons_succ, List.getElem_cons_zero]
      generalize (w4.setCell ⟨B, 3, none⟩ (.slice (some ⟨g, 0, none⟩) (nm.length + 1) cap)) = w5 at *
      clear b3 bf hB5 hO5 hf5 R4 F4 Z3 F3 R3 P3 HO4 HR4 hB4 HB4
      refine wpAnyH_done (by kernel_rfl) ?_ _
      go_wp2_with fail
      refine (rdAsk_anyL (nv := (.slice (some ⟨g, 0, none⟩) (nm.length + 1) cap)) B j (k + 1) s 46 hjs hs _ (by exact Z5.out.bx)).mono ?_
      intro e w6 hp
      unfold RdAskPostL at hp
      by_cases h6 : j < s.size ∧ byteAt s j = 46
      case neg =>
        rw [if_neg h6] at hp
        obtain ⟨he, n6, rfl⟩ := hp
        have HAE : Hid (askE s j 46 = if j = s.size then 13 else 12) := by unfold Hid askE; rw [if_neg h6]
        have HNZ : Hid ((if j = s.size then (13 : Int) else 12) ≠ 0) := by unfold Hid; split <;> omega
        unfold thrownL at he
        subst he
        exact ⟨rfl, lrP_no (by rw [HR3.out, if_pos (by rw [HAE.out]; exact HNZ.out), HAE.out]) HNZ.out (F5.out.trans (BFr.of_below (below_drewN (Below.refl _ _) n6) B (.slice (some ⟨g, 0, none⟩) (nm.length + 1) cap)))⟩
      rw [if_pos h6] at hp
      obtain ⟨⟨v6, rfl⟩, hx6, he6, hz6⟩ := hp
      have HAE : Hid (askE s j 46 = 0) := by unfold Hid askE; rw [if_pos h6]
      have HR6 := hide (show r = _ from (HR3.out).trans (if_neg (by rw [HAE.out]; simp)))
      have Z6 := hide (Z5.out.ex he6 hx6)
      have F6 := hide (F5.out.trans (he6.bfrL (.slice (some ⟨g, 0, none⟩) (nm.length + 1) cap)))
      have R6 := hide (blk_bfr R5.out (he6.bfrL (.slice (some ⟨g, 0, none⟩) (nm.length + 1) cap)) hbox.1 ho4')
      have hwz6 : w.heap.size + 2 ≤ w6.heap.size := by omega
      clear hx6 he6 hz6 HR3 Z5 F5 R5 HAE
      go_wp2_with fail
      refine (HT.out (nm ++ [x]) (.slice (some ⟨g, 0, none⟩) (nm.length + 1) cap) (j + 1) (k + 1) w6 Z6.out (by simp; omega) (by omega) (by omega) (by omega)).mono ?_
      intro e w7 hp
      generalize lrd s F .term (nm ++ [x]) (j + 1) (k + 1) = r7 at *
      rcases hp with ⟨hr0, nv7, a7, c7, rfl, hs7, hst7, hf7⟩ | ⟨hr0, rfl, nv7, hf7⟩
      case inr => exact ⟨rfl, lrP_no (by rw [HR6.out, if_pos hr0]) hr0 (F6.out.trans hf7)⟩
      obtain ⟨g7, cap7, rfl, hgc7⟩ : ∃ g7 cap7, nv7 = (.slice (some ⟨g7, 0, none⟩) (nm.length + 1) cap7) ∧ nm.length + 1 ≤ cap7 := by
        have h := hst7.own.2
        simp only [List.length_append, List.length_cons, List.length_nil, Nat.zero_add] at h
        rcases h with ⟨_, h⟩ | ⟨g7, cap7, cur, h, _, _, hnc, _⟩
        · omega
        · exact ⟨g7, cap7, h, hnc⟩
      have HR7 : Hid (r = ⟨0, ⟨2, 0, [r7.t]⟩, r7.pos, r7.k⟩) := by unfold Hid; rw [HR6.out, if_neg (by rw [hr0]; simp)]
      have F7 := hide (F6.out.trans hf7)
      have R7 := hide (blk_bfr R6.out hf7 hbox.1 ho4')
      have ho7 := own_bfr hf7 R6.out.lt ho4'
      have hz7 : w6.heap.size ≤ w7.heap.size := hf7.2.2.2.1
      have Z7 := hide hst7
      have gOLD : Hid (g7 ≠ w7.heap.size) := fun e => by have := (hst7.own.lt g7 rfl).2; omega
      have S7 := hide hs7
      clear hs7 hst7 hf7 hr0 HR6 Z6 F6 R6
      have B8 : Hid (Below w7.heap.size w7 ((w7.alloc (.cells #[.int .i64 r7.t.kind, .int .i64 r7.t.idx, .slice a7 r7.t.subs.length c7] 25)).alloc (.cells #[.int .i64 2, .int .i64 0, .slice (some ⟨w7.heap.size, 0, none⟩) 1 1] 25))) := ((Below.refl _ _).alloc (Nat.le_refl _) _).alloc (by simp) _
      have T8 := hide ((Blk.new w7 #[.int .i64 r7.t.kind, .int .i64 r7.t.idx, .slice a7 r7.t.subs.length c7] 25).alloc (.cells #[.int .i64 2, .int .i64 0, .slice (some ⟨w7.heap.size, 0, none⟩) 1 1] 25))
      have M8 : Hid (Blk ((w7.alloc (.cells #[.int .i64 r7.t.kind, .int .i64 r7.t.idx, .slice a7 r7.t.subs.length c7] 25)).alloc (.cells #[.int .i64 2, .int .i64 0, .slice (some ⟨w7.heap.size, 0, none⟩) 1 1] 25)) (w7.heap.size + 1) #[.int .i64 2, .int .i64 0, .slice (some ⟨w7.heap.size, 0, none⟩) 1 1] 25) := by
        have h := Blk.new (w7.alloc (.cells #[.int .i64 r7.t.kind, .int .i64 r7.t.idx, .slice a7 r7.t.subs.length c7] 25)) #[.int .i64 2, .int .i64 0, .slice (some ⟨w7.heap.size, 0, none⟩) 1 1] 25
        have hz : (w7.alloc (.cells #[.int .i64 r7.t.kind, .int .i64 r7.t.idx, .slice a7 r7.t.subs.length c7] 25)).heap.size = w7.heap.size + 1 := by simp
        rw [hz] at h
        exact h
      have hz8 : ((w7.alloc (.cells #[.int .i64 r7.t.kind, .int .i64 r7.t.idx, .slice a7 r7.t.subs.length c7] 25)).alloc (.cells #[.int .i64 2, .int .i64 0, .slice (some ⟨w7.heap.size, 0, none⟩) 1 1] 25)).heap.size = w7.heap.size + 2 := by simp
      have Z8 := hide (Z7.out.later B8.out)
      have F8 := hide (F7.out.trans (BFr.of_below B8.out B (.slice (some ⟨g7, 0, none⟩) (nm.length + 1) cap7)))
      have R8 := hide (R7.out.below B8.out R7.out.lt)
      have S8 := hide (S7.out.later B8.out)
      clear Z7 F7 R7 S7 B8
      go_wp2_with fail
      generalize ((w7.alloc (.cells #[.int .i64 r7.t.kind, .int .i64 r7.t.idx, .slice a7 r7.t.subs.length c7] 25)).alloc (.cells #[.int .i64 2, .int .i64 0, .slice (some ⟨w7.heap.size, 0, none⟩) 1 1] 25)) = w8 at *
      have Zd8 := hide (Z8.out.later (Below.drew (Below.refl w8.heap.size w8)))
      have Fd8 := hide (F8.out.trans (BFr.of_below (Below.drew (Below.refl w8.heap.size w8)) B (.slice (some ⟨g7, 0, none⟩) (nm.length + 1) cap7)))
      have Rd8 : Hid (Blk w8.drew w.heap.size #[.int .i64 0, .int .i64 0, .slice none 0 0] 25) := R8.out
      have Td8 : Hid (Blk w8.drew w7.heap.size #[.int .i64 r7.t.kind, .int .i64 r7.t.idx, .slice a7 r7.t.subs.length c7] 25) := T8.out
      have Md8 : Hid (Blk w8.drew (w7.heap.size + 1) #[.int .i64 2, .int .i64 0, .slice (some ⟨w7.heap.size, 0, none⟩) 1 1] 25) := M8.out
      have Sd8 : Hid (SlM w8.drew (fun b => w6.heap.size ≤ b ∧ some b ≠ ((.slice (some ⟨g7, 0, none⟩) (nm.length + 1) cap7) : Value).ownBlock) a7 r7.t.subs) := S8.out.later (Below.drew (Below.refl w8.heap.size w8))
      have hzd8 : w8.drew.heap.size = w7.heap.size + 2 := by
        have : w8.drew.heap = w8.heap := rfl
        rw [this]; exact hz8
      refine wp_region_held_drew (S := fun w' => N ≤ w'.heap.size) (by kernel_rfl) (by exact Zd8.out.le) (fun hHeld => ?_)
      generalize w8.drew = x8 at *
      clear Z8 F8 R8 T8 M8 S8 hz8
      have W1 : Hid (IntKind.i64.wrap (((nm.length + 1 : Nat) : Int) - 1) = (nm.length : Int)) := by
        unfold Hid; rw [show (((nm.length + 1 : Nat) : Int) - 1) = (nm.length : Int) by omega]; exact wrap_is (by omega) (by omega)
      have W2 : Hid (IntKind.i64.wrap ((nm.length : Int) + 1 - 1) = (nm.length : Int)) := by
        unfold Hid; rw [show ((nm.length : Int) + 1 - 1) = (nm.length : Int) by omega]; exact wrap_is (by omega) (by omega)
      have W3 : Hid (IntKind.i64.wrap (nm.length : Int) = (nm.length : Int)) := wrap_is (by omega) (by omega)
      refine wpAnyH_take (i := 0) (v := ?_) rfl (by kernel_rfl) (by kernel_rfl) (by kernel_rfl) (fun _ _ _ h => h) (Or.inl ⟨by rfl, ?_⟩) (by assumption) ?_
      rotate_left
      · intro w' hSw
        go_simp <;> with_reducible rfl
      try simp only [Act.put, List.setIfInBounds_toArray, List.set_cons_zero, List.set_cons_succ, List.getElem_toArray, List.getElem_cons_succ, List.getElem_cons_zero]
      refine wpAnyH_take (i := 1) (v := ?_) rfl (by kernel_rfl) (by kernel_rfl) (by kernel_rfl) (fun _ _ _ h => h) (Or.inl ⟨by rfl, ?_⟩) (by assumption) ?_
      rotate_left
      · intro w' hSw
        go_simp <;> with_reducible rfl
      try simp only [Act.put, List.setIfInBounds_toArray, List.set_cons_zero, List.set_cons_succ, List.getElem_toArray, List.getElem_cons_succ, List.getElem_cons_zero]
      refine wpAnyH_take (i := 2) (v := ?_) rfl (by kernel_rfl) (by kernel_rfl) (by kernel_rfl) (fun _ _ _ h => h) (Or.inl ⟨by rfl, ?_⟩) (by assumption) ?_
      rotate_left
      · intro w' hSw
        go_simp <;> with_reducible rfl
      try simp only [Act.put, List.setIfInBounds_toArray, List.set_cons_zero, List.set_cons_succ, List.getElem_toArray, List.getElem_cons_succ, List.getElem_cons_zero]
      refine wpAnyH_take (i := 3) (v := ?_) rfl (by kernel_rfl) (by kernel_rfl) (by kernel_rfl) (fun _ _ _ h => h) (Or.inl ⟨by rfl, ?_⟩) (by assumption) ?_
      rotate_left
      · intro w' hSw
        go_simp <;> with_reducible rfl
      try simp only [Act.put, List.setIfInBounds_toArray, List.set_cons_zero, List.set_cons_succ, List.getElem_toArray, List.getElem_cons_succ, List.getElem_cons_zero]
      refine wpAnyH_take (i := 5) (v := ?_) rfl (by kernel_rfl) (by kernel_rfl) (by kernel_rfl) (fun _ _ _ h => h) (Or.inl ⟨by rfl, ?_⟩) (by assumption) ?_
      rotate_left
      · intro w' hSw
        go_simp <;> with_reducible rfl
      try simp only [Act.put, List.setIfInBounds_toArray, List.set_cons_zero, List.set_cons_succ, List.getElem_toArray, List.getElem_cons_succ, List.getElem_cons_zero]
      refine wpAnyH_take (i := 6) (v := ?_) rfl (by kernel_rfl) (by kernel_rfl) (by kernel_rfl) (fun _ _ _ h => h) (Or.inl ⟨by rfl, ?_⟩) (by assumption) ?_
      rotate_left
      · intro w' hSw
        go_simp <;> with_reducible rfl
      try simp only [Act.put, List.setIfInBounds_toArray, List.set_cons_zero, List.set_cons_succ, List.getElem_toArray, List.getElem_cons_succ, List.getElem_cons_zero]
      refine wpAnyH_take (i := 7) (v := ?_) rfl (by kernel_rfl) (by kernel_rfl) (by kernel_rfl) (fun _ _ _ h => h) (Or.inl ⟨by rfl, ?_⟩) (by assumption) ?_
      rotate_left
      · intro w' hSw
        go_simp <;> with_reducible rfl
      try simp only [Act.put, List.setIfInBounds_toArray, List.set_cons_zero, List.set_cons_succ, List.getElem_toArray, List.getElem_cons_succ, List.getElem_cons_zero]
      refine wpAnyH_ready (rs := [4, 8]) (by kernel_rfl) (by simp) ?_
      refine AllReadyH.cons rfl (fun K hK => ?_) (AllReadyH.cons rfl (fun K hK => ?_) AllReadyH.nil)
      · have b3 : x8.cell? ⟨B, 3, none⟩ = some (.slice (some ⟨g7, 0, none⟩) (nm.length + 1) cap7) := Zd8.out.bx.cell 3
        go_simp
        refine hK.out _ _ (by exact Zd8.out.le) (fun hHeld => ?_)
        clear hK K
        try simp only [Act.put, List.setIfInBounds_toArray, List.set_cons_zero, List.set_cons_succ, List.getElem_toArray, List.getElem_cons_succ, List.getElem_cons_zero]
        clear b3
        refine wpAnyH_ready (rs := [8]) (by kernel_rfl) (by simp) ?_
        refine AllReadyH.cons rfl (fun K hK => ?_) AllReadyH.nil
        have b3 : x8.cell? ⟨B, 3, none⟩ = some (.slice (some ⟨g7, 0, none⟩) (nm.length + 1) cap7) := Zd8.out.bx.cell 3
        go_simp
        refine hK.out _ _ (by exact Zd8.out.le) (fun hHeld => ?_)
        clear hK K
        try simp only [Act.put, List.setIfInBounds_toArray, List.set_cons_zero, List.set_cons_succ, List.getElem_toArray, List.getElem_cons_succ, List.getElem_cons_zero]
        clear b3
        refine wpAnyH_take (i := 9) (v := ?_) rfl (by kernel_rfl) (by kernel_rfl) (by kernel_rfl) (fun _ _ _ h => h) (Or.inl ⟨by rfl, ?_⟩) (by assumption) ?_
        rotate_left
        · intro w' hSw
          go_simp <;> with_reducible rfl
        try simp only [Act.put, List.setIfInBounds_toArray, List.set_cons_zero, List.set_cons_succ, List.getElem_toArray, List.getElem_cons_succ, List.getElem_cons_zero]
        refine wpAnyH_take (i := 10) (v := ?_) rfl (by kernel_rfl) (by kernel_rfl) (by kernel_rfl) (fun _ _ _ h => h) (Or.inl ⟨by rfl, ?_⟩) (by assumption) ?_
        rotate_left
        · intro w' hSw
          go_simp <;> with_reducible rfl
        try simp only [Act.put, List.setIfInBounds_toArray, List.set_cons_zero, List.set_cons_succ, List.getElem_toArray, List.getElem_cons_succ, List.getElem_cons_zero]
        first | rw [W1.out] | rw [W2.out] | rw [W3.out]
        refine wpAnyH_take (i := 11) (v := ?_) rfl (by kernel_rfl) (by kernel_rfl) (by kernel_rfl) (fun _ _ _ h => h) (Or.inl ⟨by rfl, ?_⟩) (by assumption) ?_
        rotate_left
        · intro w' hSw
          have hkc : (nm.length : Int) ≤ (cap7 : Int) := by omega
          go_simp <;> with_reducible rfl
        try simp only [Act.put, List.setIfInBounds_toArray, List.set_cons_zero, List.set_cons_succ, List.getElem_toArray, List.getElem_cons_succ, List.getElem_cons_zero]
        refine wpAnyH_take (i := 12) (v := ?_) rfl (by kernel_rfl) (by kernel_rfl) (by kernel_rfl) (fun _ _ _ h => h) (Or.inl ⟨by rfl, ?_⟩) (by assumption) ?_
        rotate_left
        · intro w' hSw
          go_simp <;> with_reducible rfl
        try simp only [Act.put, List.setIfInBounds_toArray, List.set_cons_zero, List.set_cons_succ, List.getElem_toArray, List.getElem_cons_succ, List.getElem_cons_zero]
        refine wpAnyH_take (i := 13) (v := ?_) rfl (by kernel_rfl) (by kernel_rfl) (by kernel_rfl) (fun _ _ _ h => h) (Or.inl ⟨by rfl, ?_⟩) (by assumption) ?_
        rotate_left
        · intro w' hSw
          go_simp <;> with_reducible rfl
        try simp only [Act.put, List.setIfInBounds_toArray, List.set_cons_zero, List.set_cons_succ, List.getElem_toArray, List.getElem_cons_succ, List.getElem_cons_zero]
        have hg7B : Hid (g7 ≠ B) := fun e => Zd8.out.ne (by rw [e]; rfl)
        have b3 : x8.cell? ⟨B, 3, none⟩ = some (.slice (some ⟨g7, 0, none⟩) (nm.length + 1) cap7) := Zd8.out.bx.cell 3
        have bf : x8.frozen? ⟨B, 3, none⟩ = false := Blk.frozen Zd8.out.bx 3
        have hB9 : Hid (Bl (.slice (some ⟨g7, 0, none⟩) nm.length cap7) (x8.setCell ⟨B, 3, none⟩ (.slice (some ⟨g7, 0, none⟩) nm.length cap7)) B s r7.pos r7.k) := Blk.set Zd8.out.bx 3 _
        have hf9 : Hid (BFr x8 (x8.setCell ⟨B, 3, none⟩ (.slice (some ⟨g7, 0, none⟩) nm.length cap7)) B (.slice (some ⟨g7, 0, none⟩) (nm.length + 1) cap7) (.slice (some ⟨g7, 0, none⟩) nm.length cap7)) := ⟨rfl, rfl, rfl, by simp [World.setCell], fun q hq h1 _ => Below.heap_setCell _ _ _ _ (by simpa using h1), fun _ h => Or.inl h⟩
        have hO9 : Hid ((x8.setCell ⟨B, 3, none⟩ (.slice (some ⟨g7, 0, none⟩) nm.length cap7)).ownsRow N 9 1 (.slice (some ⟨g7, 0, none⟩) nm.length cap7) nm.length (nm.map Value.string)) := (pop_own (n := nm.length) Zd8.out.own rfl).kept (row := some B) ⟨rfl, rfl, rfl, by simp [World.setCell], fun q hq hb => Below.heap_setCell _ _ _ _ (by simp at hb; simpa using hb)⟩ (Or.inr (by simp [Value.ownBlock]; exact hg7B.out))
        have Z9 := hide (Zd8.out.step hf9.out hB9.out hO9.out)
        have F9 := hide (Fd8.out.trans hf9.out)
        have R9 := hide (blk_bfr Rd8.out hf9.out hbox.1 ho7)
        have kx : ∀ q : Nat, q ≠ B → (x8.setCell ⟨B, 3, none⟩ (.slice (some ⟨g7, 0, none⟩) nm.length cap7)).heap[q]? = x8.heap[q]? := fun q hq => Below.heap_setCell _ _ _ _ (by simpa using hq)
        have T9 : Hid (Blk (x8.setCell ⟨B, 3, none⟩ (.slice (some ⟨g7, 0, none⟩) nm.length cap7)) w7.heap.size #[.int .i64 r7.t.kind, .int .i64 r7.t.idx, .slice a7 r7.t.subs.length c7] 25) := (kx _ (by omega)).trans Td8.out
        have M9 : Hid (Blk (x8.setCell ⟨B, 3, none⟩ (.slice (some ⟨g7, 0, none⟩) nm.length cap7)) (w7.heap.size + 1) #[.int .i64 2, .int .i64 0, .slice (some ⟨w7.heap.size, 0, none⟩) 1 1] 25) := (kx _ (by omega)).trans Md8.out
        have S9 : Hid (SlM (x8.setCell ⟨B, 3, none⟩ (.slice (some ⟨g7, 0, none⟩) nm.length cap7)) (fun b => w.heap.size < b ∧ some b ≠ ((.slice (some ⟨g7, 0, none⟩) nm.length cap7) : Value).ownBlock) a7 r7.t.subs) := (Sd8.out.kept fun q hq => kx q (by omega)).mono fun q hq _ => ⟨by omega, hq.2⟩
        refine wpAnyH_ready (rs := [14]) (by kernel_rfl) (by simp) ?_
        refine AllReadyH.cons rfl (fun K hK => ?_) AllReadyH.nil
        go_simp
        refine hK.out _ _ (by exact Z9.out.le) (fun hHeld => ?_)
        clear hK K
        try simp only [Act.put, List.setIfInBounds_toArray, List.set_cons_zero, List.set_cons_succ, List.getElem_toArray, List.getElem_cons_succ, List.getElem_cons_zero]
        generalize (x8.setCell ⟨B, 3, none⟩ (.slice (some ⟨g7, 0, none⟩) nm.length cap7)) = w9 at *
        clear b3 bf hB9 hO9 hf9 Zd8 Fd8 Rd8 Td8 Md8 Sd8 kx
        refine wpAnyH_done (by kernel_rfl) ?_ _
        have q0 := M9.out.cell 0
        have q1 := M9.out.cell 1
        have q2 := M9.out.cell 2
        have t0 := T9.out.cell 0
        have t1 := T9.out.cell 1
        have t2 := T9.out.cell 2
        have r0 := R9.out.cell 0
        have r1 := R9.out.cell 1
        have r2 := R9.out.cell 2
        have rf := R9.out.frozen
        simp only [List.getElem?_toArray, List.getElem?_cons_succ, List.getElem?_cons_zero] at q0 q1 q2 r0 r1 r2 t0 t1 t2
        have hg7 : ((.slice (some ⟨g7, 0, none⟩) nm.length cap7) : Value).ownBlock = some g7 := rfl
        have hlt7 := (Z9.out.own.lt _ hg7).2
        have HNG : Hid (some w7.heap.size ≠ ((.slice (some ⟨g7, 0, none⟩) nm.length cap7) : Value).ownBlock) := by
          unfold Hid
          intro e
          have e2 : g7 = w7.heap.size := by simpa [Value.ownBlock] using e.symm
          exact gOLD.out e2
        have SF : Hid (SlM w9 (fun b => w.heap.size < b ∧ some b ≠ ((.slice (some ⟨g7, 0, none⟩) nm.length cap7) : Value).ownBlock) (some ⟨w7.heap.size, 0, none⟩) [r7.t]) := lies_one ⟨by omega, HNG.out⟩ (by simpa using t0) (by simpa using t1) (by simpa using t2) S9.out
        clear hg7 hlt7
        go_wp2_with fail
        refine bodyPost_ret (v := .agg #[.int .i64 2, .int .i64 0, .slice (some ⟨w7.heap.size, 0, none⟩) 1 1]) (by simp [results, Tryz.results62, go_sem, World.cell?_setCell_same, World.cell?_setCell_other, r0, r1, r2]) rfl ?_
        exact lr_fin (t := ⟨2, 0, [r7.t]⟩) HR7.out Z9.out F9.out hBlt ho7 SF.out _ _ _
      · have b3 : x8.cell? ⟨B, 3, none⟩ = some (.slice (some ⟨g7, 0, none⟩) (nm.length + 1) cap7) := Zd8.out.bx.cell 3
        go_simp
        refine hK.out _ _ (by exact Zd8.out.le) (fun hHeld => ?_)
        clear hK K
        try simp only [Act.put, List.setIfInBounds_toArray, List.set_cons_zero, List.set_cons_succ, List.getElem_toArray, List.getElem_cons_succ, List.getElem_cons_zero]
        clear b3
        refine wpAnyH_take (i := 9) (v := ?_) rfl (by kernel_rfl) (by kernel_rfl) (by kernel_rfl) (fun _ _ _ h => h) (Or.inl ⟨by rfl, ?_⟩) (by assumption) ?_
        rotate_left
        · intro w' hSw
          go_simp <;> with_reducible rfl
        try simp only [Act.put, List.setIfInBounds_toArray, List.set_cons_zero, List.set_cons_succ, List.getElem_toArray, List.getElem_cons_succ, List.getElem_cons_zero]
        refine wpAnyH_take (i := 10) (v := ?_) rfl (by kernel_rfl) (by kernel_rfl) (by kernel_rfl) (fun _ _ _ h => h) (Or.inl ⟨by rfl, ?_⟩) (by assumption) ?_
        rotate_left
        · intro w' hSw
          go_simp <;> with_reducible rfl
        try simp only [Act.put, List.setIfInBounds_toArray, List.set_cons_zero, List.set_cons_succ, List.getElem_toArray, List.getElem_cons_succ, List.getElem_cons_zero]
        first | rw [W1.out] | rw [W2.out] | rw [W3.out]
        refine wpAnyH_ready (rs := [4]) (by kernel_rfl) (by simp) ?_
        refine AllReadyH.cons rfl (fun K hK => ?_) AllReadyH.nil
        have b3 : x8.cell? ⟨B, 3, none⟩ = some (.slice (some ⟨g7, 0, none⟩) (nm.length + 1) cap7) := Zd8.out.bx.cell 3
        go_simp
        refine hK.out _ _ (by exact Zd8.out.le) (fun hHeld => ?_)
        clear hK K
        try simp only [Act.put, List.setIfInBounds_toArray, List.set_cons_zero, List.set_cons_succ, List.getElem_toArray, List.getElem_cons_succ, List.getElem_cons_zero]
        clear b3
        refine wpAnyH_take (i := 11) (v := ?_) rfl (by kernel_rfl) (by kernel_rfl) (by kernel_rfl) (fun _ _ _ h => h) (Or.inl ⟨by rfl, ?_⟩) (by assumption) ?_
        rotate_left
        · intro w' hSw
          have hkc : (nm.length : Int) ≤ (cap7 : Int) := by omega
          go_simp <;> with_reducible rfl
        try simp only [Act.put, List.setIfInBounds_toArray, List.set_cons_zero, List.set_cons_succ, List.getElem_toArray, List.getElem_cons_succ, List.getElem_cons_zero]
        refine wpAnyH_take (i := 12) (v := ?_) rfl (by kernel_rfl) (by kernel_rfl) (by kernel_rfl) (fun _ _ _ h => h) (Or.inl ⟨by rfl, ?_⟩) (by assumption) ?_
        rotate_left
        · intro w' hSw
          go_simp <;> with_reducible rfl
        try simp only [Act.put, List.setIfInBounds_toArray, List.set_cons_zero, List.set_cons_succ, List.getElem_toArray, List.getElem_cons_succ, List.getElem_cons_zero]
        refine wpAnyH_take (i := 13) (v := ?_) rfl (by kernel_rfl) (by kernel_rfl) (by kernel_rfl) (fun _ _ _ h => h) (Or.inl ⟨by rfl, ?_⟩) (by assumption) ?_
        rotate_left
        · intro w' hSw
          go_simp <;> with_reducible rfl
        try simp only [Act.put, List.setIfInBounds_toArray, List.set_cons_zero, List.set_cons_succ, List.getElem_toArray, List.getElem_cons_succ, List.getElem_cons_zero]
        have hg7B : Hid (g7 ≠ B) := fun e => Zd8.out.ne (by rw [e]; rfl)
        have b3 : x8.cell? ⟨B, 3, none⟩ = some (.slice (some ⟨g7, 0, none⟩) (nm.length + 1) cap7) := Zd8.out.bx.cell 3
        have bf : x8.frozen? ⟨B, 3, none⟩ = false := Blk.frozen Zd8.out.bx 3
        have hB9 : Hid (Bl (.slice (some ⟨g7, 0, none⟩) nm.length cap7) (x8.setCell ⟨B, 3, none⟩ (.slice (some ⟨g7, 0, none⟩) nm.length cap7)) B s r7.pos r7.k) := Blk.set Zd8.out.bx 3 _
        have hf9 : Hid (BFr x8 (x8.setCell ⟨B, 3, none⟩ (.slice (some ⟨g7, 0, none⟩) nm.length cap7)) B (.slice (some ⟨g7, 0, none⟩) (nm.length + 1) cap7) (.slice (some ⟨g7, 0, none⟩) nm.length cap7)) := ⟨rfl, rfl, rfl, by simp [World.setCell], fun q hq h1 _ => Below.heap_setCell _ _ _ _ (by simpa using h1), fun _ h => Or.inl h⟩
        have hO9 : Hid ((x8.setCell ⟨B, 3, none⟩ (.slice (some ⟨g7, 0, none⟩) nm.length cap7)).ownsRow N 9 1 (.slice (some ⟨g7, 0, none⟩) nm.length cap7) nm.length (nm.map Value.string)) := (pop_own (n := nm.length) Zd8.out.own rfl).kept (row := some B) ⟨rfl, rfl, rfl, by simp [World.setCell], fun q hq hb => Below.heap_setCell _ _ _ _ (by simp at hb; simpa using hb)⟩ (Or.inr (by simp [Value.ownBlock]; exact hg7B.out))
        have Z9 := hide (Zd8.out.step hf9.out hB9.out hO9.out)
        have F9 := hide (Fd8.out.trans hf9.out)
        have R9 := hide (blk_bfr Rd8.out hf9.out hbox.1 ho7)
        have kx : ∀ q : Nat, q ≠ B → (x8.setCell ⟨B, 3, none⟩ (.slice (some ⟨g7, 0, none⟩) nm.length cap7)).heap[q]? = x8.heap[q]? := fun q hq => Below.heap_setCell _ _ _ _ (by simpa using hq)
        have T9 : Hid (Blk (x8.setCell ⟨B, 3, none⟩ (.slice (some ⟨g7, 0, none⟩) nm.length cap7)) w7.heap.size #[.int .i64 r7.t.kind, .int .i64 r7.t.idx, .slice a7 r7.t.subs.length c7] 25) := (kx _ (by omega)).trans Td8.out
        have M9 : Hid (Blk (x8.setCell ⟨B, 3, none⟩ (.slice (some ⟨g7, 0, none⟩) nm.length cap7)) (w7.heap.size + 1) #[.int .i64 2, .int .i64 0, .slice (some ⟨w7.heap.size, 0, none⟩) 1 1] 25) := (kx _ (by omega)).trans Md8.out
        have S9 : Hid (SlM (x8.setCell ⟨B, 3, none⟩ (.slice (some ⟨g7, 0, none⟩) nm.length cap7)) (fun b => w.heap.size < b ∧ some b ≠ ((.slice (some ⟨g7, 0, none⟩) nm.length cap7) : Value).ownBlock) a7 r7.t.subs) := (Sd8.out.kept fun q hq => kx q (by omega)).mono fun q hq _ => ⟨by omega, hq.2⟩
        refine wpAnyH_ready (rs := [14]) (by kernel_rfl) (by simp) ?_
        refine AllReadyH.cons rfl (fun K hK => ?_) AllReadyH.nil
        go_simp
        refine hK.out _ _ (by exact Z9.out.le) (fun hHeld => ?_)
        clear hK K
        try simp only [Act.put, List.setIfInBounds_toArray, List.set_cons_zero, List.set_cons_succ, List.getElem_toArray, List.getElem_cons_succ, List.getElem_cons_zero]
        generalize (x8.setCell ⟨B, 3, none⟩ (.slice (some ⟨g7, 0, none⟩) nm.length cap7)) = w9 at *
        clear b3 bf hB9 hO9 hf9 Zd8 Fd8 Rd8 Td8 Md8 Sd8 kx
        refine wpAnyH_done (by kernel_rfl) ?_ _
        have q0 := M9.out.cell 0
        have q1 := M9.out.cell 1
        have q2 := M9.out.cell 2
        have t0 := T9.out.cell 0
        have t1 := T9.out.cell 1
        have t2 := T9.out.cell 2
        have r0 := R9.out.cell 0
        have r1 := R9.out.cell 1
        have r2 := R9.out.cell 2
        have rf := R9.out.frozen
        simp only [List.getElem?_toArray, List.getElem?_cons_succ, List.getElem?_cons_zero] at q0 q1 q2 r0 r1 r2 t0 t1 t2
        have hg7 : ((.slice (some ⟨g7, 0, none⟩) nm.length cap7) : Value).ownBlock = some g7 := rfl
        have hlt7 := (Z9.out.own.lt _ hg7).2
        have HNG : Hid (some w7.heap.size ≠ ((.slice (some ⟨g7, 0, none⟩) nm.length cap7) : Value).ownBlock) := by
          unfold Hid
          intro e
          have e2 : g7 = w7.heap.size := by simpa [Value.ownBlock] using e.symm
          exact gOLD.out e2
        have SF : Hid (SlM w9 (fun b => w.heap.size < b ∧ some b ≠ ((.slice (some ⟨g7, 0, none⟩) nm.length cap7) : Value).ownBlock) (some ⟨w7.heap.size, 0, none⟩) [r7.t]) := lies_one ⟨by omega, HNG.out⟩ (by simpa using t0) (by simpa using t1) (by simpa using t2) S9.out
        clear hg7 hlt7
        go_wp2_with fail
        refine bodyPost_ret (v := .agg #[.int .i64 2, .int .i64 0, .slice (some ⟨w7.heap.size, 0, none⟩) 1 1]) (by simp [results, Tryz.results62, go_sem, World.cell?_setCell_same, World.cell?_setCell_other, r0, r1, r2]) rfl ?_
        exact lr_fin (t := ⟨2, 0, [r7.t]⟩) HR7.out Z9.out F9.out hBlt ho7 SF.out _ _ _
    · go_simp
      refine hK.out _ _ (by exact Z3.out.le) (fun hHeld => ?_)
      clear hK K
      try simp only [Act.put, List.setIfInBounds_toArray, List.set_cons_zero, List.set_cons_succ, List.getElem_toArray, List.getElem_cons_succ, List.getElem_cons_zero]
      generalize (w2.alloc (.cells #[.string x] 9)) = w3 at *
      have hw2 : w2.heap.size = w.heap.size + 1 := by omega
      rw [hw2] at P3
      try rw [hw2]
      refine wpAnyH_ready (rs := [4]) (by kernel_rfl) (by simp) ?_
      refine AllReadyH.cons rfl (fun K hK => ?_) AllReadyH.nil
      have b3 : w3.cell? ⟨B, 3, none⟩ = some nv := Z3.out.bx.cell 3
      go_simp
      refine hK.out _ _ (by exact Z3.out.le) (fun hHeld => ?_)
      clear hK K
      try simp only [Act.put, List.setIfInBounds_toArray, List.set_cons_zero, List.set_cons_succ, List.getElem_toArray, List.getElem_cons_succ, List.getElem_cons_zero]
      clear b3
      obtain ⟨g, cap, w4, hr4, ho4, hg4, hat4⟩ := app_oneL (P := w.heap.size + 1) (x := x) Z3.out.own Z3.out.le (by omega) (by have := P3.out.cell 0; simpa using this)
      have HR4 := hide hr4
      have HO4 := hide ho4
      have hB4 : Hid (Bl nv w4 B s j (k + 1)) := by
        unfold Hid Bl Blk
        rw [hg4.block B Z3.out.lt (fun e => Z3.out.ne e.symm)]
        exact Z3.out.bx
      have hf4 : BFr w3 w4 B nv (.slice (some ⟨g, 0, none⟩) (nm.length + 1) cap) := ⟨hg4.os, hg4.tape, hg4.output, hg4.size, fun q hq h1 h2 => hg4.block q hq h2, fun q hq => by
        simp [Value.ownBlock] at hq
        subst hq
        rcases hat4 with e | e
        · exact Or.inl e
        · right; omega⟩
      have R4 := hide (blk_bfr R3.out hf4 hbox.1 hbox.2)
      have ho4' := own_bfr hf4 R3.out.lt hbox.2
      have F4 := hide (F3.out.trans hf4)
      have HB4 := hide (Z3.out.fr hf4)
      have hz4 := hg4.size
      have hsz4 : Hid (g ≠ B) := by
        unfold Hid
        intro e
        rcases hat4 with e2 | e2
        · exact Z3.out.ne (by rw [e2, e])
        · have := Z3.out.lt; omega
      clear hr4 ho4 hg4 hat4 hf4
      have hle4 : N ≤ w4.heap.size := by have := Z3.out.le; omega
      refine wpAnyH_ready (rs := [10]) (by kernel_rfl) (by simp) ?_
      refine AllReadyH.cons rfl (fun K hK => ?_) AllReadyH.nil
      refine step_append_eqM rfl _ _ _ _ rfl rfl rfl HR4.out ?_
      refine hK.out _ _ (by exact hle4) (fun hHeld => ?_)
      clear hK K
      try simp only [Act.put, List.setIfInBounds_toArray, List.set_cons_zero, List.set_cons_succ, List.getElem_toArray, List.getElem_cons_succ, List.getElem_cons_zero]
      refine wpAnyH_take (i := 11) (v := ?_) rfl (by kernel_rfl) (by kernel_rfl) (by kernel_rfl) (fun _ _ _ h => h) (Or.inl ⟨by rfl, ?_⟩) (by assumption) ?_
      rotate_left
      · intro w' hSw
        go_simp <;> with_reducible rfl
      try simp only [Act.put, List.setIfInBounds_toArray, List.set_cons_zero, List.set_cons_succ, List.getElem_toArray, List.getElem_cons_succ, List.getElem_cons_zero]
      refine wpAnyH_take (i := 12) (v := ?_) rfl (by kernel_rfl) (by kernel_rfl) (by kernel_rfl) (fun _ _ _ h => h) (Or.inl ⟨by rfl, ?_⟩) (by assumption) ?_
      rotate_left
      · intro w' hSw
        go_simp <;> with_reducible rfl
      try simp only [Act.put, List.setIfInBounds_toArray, List.set_cons_zero, List.set_cons_succ, List.getElem_toArray, List.getElem_cons_succ, List.getElem_cons_zero]
      have b3 : w4.cell? ⟨B, 3, none⟩ = some nv := hB4.out.cell 3
      have bf : w4.frozen? ⟨B, 3, none⟩ = false := Blk.frozen hB4.out 3
      have hB5 : Hid (Bl (.slice (some ⟨g, 0, none⟩) (nm.length + 1) cap) (w4.setCell ⟨B, 3, none⟩ (.slice (some ⟨g, 0, none⟩) (nm.length + 1) cap)) B s j (k + 1)) := Blk.set hB4.out 3 _
      have hO5 : Hid ((w4.setCell ⟨B, 3, none⟩ (.slice (some ⟨g, 0, none⟩) (nm.length + 1) cap)).ownsRow N 9 1 (.slice (some ⟨g, 0, none⟩) (nm.length + 1) cap) (nm ++ [x]).length ((nm ++ [x]).map Value.string)) := HO4.out.kept (row := some B) ⟨rfl, rfl, rfl, by simp [World.setCell], fun q hq hb => Below.heap_setCell _ _ _ _ (by simp at hb; simpa using hb)⟩ (Or.inr (by simp [Value.ownBlock]; exact hsz4.out))
      have hf5 : Hid (BFr w4 (w4.setCell ⟨B, 3, none⟩ (.slice (some ⟨g, 0, none⟩) (nm.length + 1) cap)) B (.slice (some ⟨g, 0, none⟩) (nm.length + 1) cap) (.slice (some ⟨g, 0, none⟩) (nm.length + 1) cap)) := ⟨rfl, rfl, rfl, by simp [World.setCell], fun q hq h1 _ => Below.heap_setCell _ _ _ _ (by simpa using h1), fun _ h => Or.inl h⟩
      have R5 := hide (blk_bfr R4.out hf5.out hbox.1 ho4')
      have F5 := hide (F4.out.trans hf5.out)
      have Z5 : Hid (Rst N B s (nm ++ [x]) j (k + 1) (.slice (some ⟨g, 0, none⟩) (nm.length + 1) cap) (w4.setCell ⟨B, 3, none⟩ (.slice (some ⟨g, 0, none⟩) (nm.length + 1) cap))) := by
        have hb5 : Below N w4 (w4.setCell ⟨B, 3, none⟩ (.slice (some ⟨g, 0, none⟩) (nm.length + 1) cap)) := (Below.refl _ _).setCell (by have := Z3.out.nb; simpa using this) _
        exact ⟨hB5.out, hO5.out, Z3.out.nb, by simp [World.setCell]; omega, (Z3.out.tb.on HB4.out).on hb5, (Z3.out.ts.on HB4.out).on hb5⟩
      have hz5 : w4.heap.size ≤ (w4.setCell ⟨B, 3, none⟩ (.slice (some ⟨g, 0, none⟩) (nm.length + 1) cap)).heap.size := by simp [World.setCell]
      refine wpAnyH_ready (rs := [13]) (by kernel_rfl) (by simp) ?_
      refine AllReadyH.cons rfl (fun K hK => ?_) AllReadyH.nil
      go_simp
      refine hK.out _ _ (by exact Z5.out.le) (fun hHeld => ?_)
      clear hK K
      try simp only [Act.put, List.setIfInBounds_toArray, List.set_cons_zero, List.set_cons_succ, List.getElem_toArray, List.getElem_cons_succ, List.getElem_cons_zero]
      generalize (w4.setCell ⟨B, 3, none⟩ (.slice (some ⟨g, 0, none⟩) (nm.length + 1) cap)) = w5 at *
      clear b3 bf hB5 hO5 hf5 R4 F4 Z3 F3 R3 P3 HO4 HR4 hB4 HB4
      refine wpAnyH_done (by kernel_rfl) ?_ _
      go_wp2_with fail
      refine (rdAsk_anyL (nv := (.slice (some ⟨g, 0, none⟩) (nm.length + 1) cap)) B j (k + 1) s 46 hjs hs _ (by exact Z5.out.bx)).mono ?_
      intro e w6 hp
      unfold RdAskPostL at hp
      by_cases h6 : j < s.size ∧ byteAt s j = 46
      case neg =>
        rw [if_neg h6] at hp
        obtain ⟨he, n6, rfl⟩ := hp
        have HAE : Hid (askE s j 46 = if j = s.size then 13 else 12) := by unfold Hid askE; rw [if_neg h6]
        have HNZ : Hid ((if j = s.size then (13 : Int) else 12) ≠ 0) := by unfold Hid; split <;> omega
        unfold thrownL at he
        subst he
        exact ⟨rfl, lrP_no (by rw [HR3.out, if_pos (by rw [HAE.out]; exact HNZ.out), HAE.out]) HNZ.out (F5.out.trans (BFr.of_below (below_drewN (Below.refl _ _) n6) B (.slice (some ⟨g, 0, none⟩) (nm.length + 1) cap)))⟩
      rw [if_pos h6] at hp
      obtain ⟨⟨v6, rfl⟩, hx6, he6, hz6⟩ := hp
      have HAE : Hid (askE s j 46 = 0) := by unfold Hid askE; rw [if_pos h6]
      have HR6 := hide (show r = _ from (HR3.out).trans (if_neg (by rw [HAE.out]; simp)))
      have Z6 := hide (Z5.out.ex he6 hx6)
      have F6 := hide (F5.out.trans (he6.bfrL (.slice (some ⟨g, 0, none⟩) (nm.length + 1) cap)))
      have R6 := hide (blk_bfr R5.out (he6.bfrL (.slice (some ⟨g, 0, none⟩) (nm.length + 1) cap)) hbox.1 ho4')
      have hwz6 : w.heap.size + 2 ≤ w6.heap.size := by omega
      clear hx6 he6 hz6 HR3 Z5 F5 R5 HAE
      go_wp2_with fail
      refine (HT.out (nm ++ [x]) (.slice (some ⟨g, 0, none⟩) (nm.length + 1) cap) (j + 1) (k + 1) w6 Z6.out (by simp; omega) (by omega) (by omega) (by omega)).mono ?_
      intro e w7 hp
      generalize lrd s F .term (nm ++ [x]) (j + 1) (k + 1) = r7 at *
      rcases hp with ⟨hr0, nv7, a7, c7, rfl, hs7, hst7, hf7⟩ | ⟨hr0, rfl, nv7, hf7⟩
      case inr => exact ⟨rfl, lrP_no (by rw [HR6.out, if_pos hr0]) hr0 (F6.out.trans hf7)⟩
      obtain ⟨g7, cap7, rfl, hgc7⟩ : ∃ g7 cap7, nv7 = (.slice (some ⟨g7, 0, none⟩) (nm.length + 1) cap7) ∧ nm.length + 1 ≤ cap7 := by
        have h := hst7.own.2
        simp only [List.length_append, List.length_cons, List.length_nil, Nat.zero_add] at h
        rcases h with ⟨_, h⟩ | ⟨g7, cap7, cur, h, _, _, hnc, _⟩
        · omega
        · exact ⟨g7, cap7, h, hnc⟩
      have HR7 : Hid (r = ⟨0, ⟨2, 0, [r7.t]⟩, r7.pos, r7.k⟩) := by unfold Hid; rw [HR6.out, if_neg (by rw [hr0]; simp)]
      have F7 := hide (F6.out.trans hf7)
      have R7 := hide (blk_bfr R6.out hf7 hbox.1 ho4')
      have ho7 := own_bfr hf7 R6.out.lt ho4'
      have hz7 : w6.heap.size ≤ w7.heap.size := hf7.2.2.2.1
      have Z7 := hide hst7
      have gOLD : Hid (g7 ≠ w7.heap.size) := fun e => by have := (hst7.own.lt g7 rfl).2; omega
      have S7 := hide hs7
      clear hs7 hst7 hf7 hr0 HR6 Z6 F6 R6
      have B8 : Hid (Below w7.heap.size w7 ((w7.alloc (.cells #[.int .i64 r7.t.kind, .int .i64 r7.t.idx, .slice a7 r7.t.subs.length c7] 25)).alloc (.cells #[.int .i64 2, .int .i64 0, .slice (some ⟨w7.heap.size, 0, none⟩) 1 1] 25))) := ((Below.refl _ _).alloc (Nat.le_refl _) _).alloc (by simp) _
      have T8 := hide ((Blk.new w7 #[.int .i64 r7.t.kind, .int .i64 r7.t.idx, .slice a7 r7.t.subs.length c7] 25).alloc (.cells #[.int .i64 2, .int .i64 0, .slice (some ⟨w7.heap.size, 0, none⟩) 1 1] 25))
      have M8 : Hid (Blk ((w7.alloc (.cells #[.int .i64 r7.t.kind, .int .i64 r7.t.idx, .slice a7 r7.t.subs.length c7] 25)).alloc (.cells #[.int .i64 2, .int .i64 0, .slice (some ⟨w7.heap.size, 0, none⟩) 1 1] 25)) (w7.heap.size + 1) #[.int .i64 2, .int .i64 0, .slice (some ⟨w7.heap.size, 0, none⟩) 1 1] 25) := by
        have h := Blk.new (w7.alloc (.cells #[.int .i64 r7.t.kind, .int .i64 r7.t.idx, .slice a7 r7.t.subs.length c7] 25)) #[.int .i64 2, .int .i64 0, .slice (some ⟨w7.heap.size, 0, none⟩) 1 1] 25
        have hz : (w7.alloc (.cells #[.int .i64 r7.t.kind, .int .i64 r7.t.idx, .slice a7 r7.t.subs.length c7] 25)).heap.size = w7.heap.size + 1 := by simp
        rw [hz] at h
        exact h
      have hz8 : ((w7.alloc (.cells #[.int .i64 r7.t.kind, .int .i64 r7.t.idx, .slice a7 r7.t.subs.length c7] 25)).alloc (.cells #[.int .i64 2, .int .i64 0, .slice (some ⟨w7.heap.size, 0, none⟩) 1 1] 25)).heap.size = w7.heap.size + 2 := by simp
      have Z8 := hide (Z7.out.later B8.out)
      have F8 := hide (F7.out.trans (BFr.of_below B8.out B (.slice (some ⟨g7, 0, none⟩) (nm.length + 1) cap7)))
      have R8 := hide (R7.out.below B8.out R7.out.lt)
      have S8 := hide (S7.out.later B8.out)
      clear Z7 F7 R7 S7 B8
      go_wp2_with fail
      generalize ((w7.alloc (.cells #[.int .i64 r7.t.kind, .int .i64 r7.t.idx, .slice a7 r7.t.subs.length c7] 25)).alloc (.cells #[.int .i64 2, .int .i64 0, .slice (some ⟨w7.heap.size, 0, none⟩) 1 1] 25)) = w8 at *
      have Zd8 := hide (Z8.out.later (Below.drew (Below.refl w8.heap.size w8)))
      have Fd8 := hide (F8.out.trans (BFr.of_below (Below.drew (Below.refl w8.heap.size w8)) B (.slice (some ⟨g7, 0, none⟩) (nm.length + 1) cap7)))
      have Rd8 : Hid (Blk w8.drew w.heap.size #[.int .i64 0, .int .i64 0, .slice none 0 0] 25) := R8.out
      have Td8 : Hid (Blk w8.drew w7.heap.size #[.int .i64 r7.t.kind, .int .i64 r7.t.idx, .slice a7 r7.t.subs.length c7] 25) := T8.out
      have Md8 : Hid (Blk w8.drew (w7.heap.size + 1) #[.int .i64 2, .int .i64 0, .slice (some ⟨w7.heap.size, 0, none⟩) 1 1] 25) := M8.out
      have Sd8 : Hid (SlM w8.drew (fun b => w6.heap.size ≤ b ∧ some b ≠ ((.slice (some ⟨g7, 0, none⟩) (nm.length + 1) cap7) : Value).ownBlock) a7 r7.t.subs) := S8.out.later (Below.drew (Below.refl w8.heap.size w8))
      have hzd8 : w8.drew.heap.size = w7.heap.size + 2 := by
        have : w8.drew.heap = w8.heap := rfl
        rw [this]; exact hz8
      refine wp_region_held_drew (S := fun w' => N ≤ w'.heap.size) (by kernel_rfl) (by exact Zd8.out.le) (fun hHeld => ?_)
      generalize w8.drew = x8 at *
      clear Z8 F8 R8 T8 M8 S8 hz8
      have W1 : Hid (IntKind.i64.wrap (((nm.length + 1 : Nat) : Int) - 1) = (nm.length : Int)) := by
        unfold Hid; rw [show (((nm.length + 1 : Nat) : Int) - 1) = (nm.length : Int) by omega]; exact wrap_is (by omega) (by omega)
      have W2 : Hid (IntKind.i64.wrap ((nm.length : Int) + 1 - 1) = (nm.length : Int)) := by
        unfold Hid; rw [show ((nm.length : Int) + 1 - 1) = (nm.length : Int) by omega]; exact wrap_is (by omega) (by omega)
      have W3 : Hid (IntKind.i64.wrap (nm.length : Int) = (nm.length : Int)) := wrap_is (by omega) (by omega)
      refine wpAnyH_take (i := 0) (v := ?_) rfl (by kernel_rfl) (by kernel_rfl) (by kernel_rfl) (fun _ _ _ h => h) (Or.inl ⟨by rfl, ?_⟩) (by assumption) ?_
      rotate_left
      · intro w' hSw
        go_simp <;> with_reducible rfl
      try simp only [Act.put, List.setIfInBounds_toArray, List.set_cons_zero, List.set_cons_succ, List.getElem_toArray, List.getElem_cons_succ, List.getElem_cons_zero]
      refine wpAnyH_take (i := 1) (v := ?_) rfl (by kernel_rfl) (by kernel_rfl) (by kernel_rfl) (fun _ _ _ h => h) (Or.inl ⟨by rfl, ?_⟩) (by assumption) ?_
      rotate_left
      · intro w' hSw
        go_simp <;> with_reducible rfl
      try simp only [Act.put, List.setIfInBounds_toArray, List.set_cons_zero, List.set_cons_succ, List.getElem_toArray, List.getElem_cons_succ, List.getElem_cons_zero]
      refine wpAnyH_take (i := 2) (v := ?_) rfl (by kernel_rfl) (by kernel_rfl) (by kernel_rfl) (fun _ _ _ h => h) (Or.inl ⟨by rfl, ?_⟩) (by assumption) ?_
      rotate_left
      · intro w' hSw
        go_simp <;> with_reducible rfl
      try simp only [Act.put, List.setIfInBounds_toArray, List.set_cons_zero, List.set_cons_succ, List.getElem_toArray, List.getElem_cons_succ, List.getElem_cons_zero]
      refine wpAnyH_take (i := 3) (v := ?_) rfl (by kernel_rfl) (by kernel_rfl) (by kernel_rfl) (fun _ _ _ h => h) (Or.inl ⟨by rfl, ?_⟩) (by assumption) ?_
      rotate_left
      · intro w' hSw
        go_simp <;> with_reducible rfl
      try simp only [Act.put, List.setIfInBounds_toArray, List.set_cons_zero, List.set_cons_succ, List.getElem_toArray, List.getElem_cons_succ, List.getElem_cons_zero]
      refine wpAnyH_take (i := 5) (v := ?_) rfl (by kernel_rfl) (by kernel_rfl) (by kernel_rfl) (fun _ _ _ h => h) (Or.inl ⟨by rfl, ?_⟩) (by assumption) ?_
      rotate_left
      · intro w' hSw
        go_simp <;> with_reducible rfl
      try simp only [Act.put, List.setIfInBounds_toArray, List.set_cons_zero, List.set_cons_succ, List.getElem_toArray, List.getElem_cons_succ, List.getElem_cons_zero]
      refine wpAnyH_take (i := 6) (v := ?_) rfl (by kernel_rfl) (by kernel_rfl) (by kernel_rfl) (fun _ _ _ h => h) (Or.inl ⟨by rfl, ?_⟩) (by assumption) ?_
      rotate_left
      · intro w' hSw
        go_simp <;> with_reducible rfl
      try simp only [Act.put, List.setIfInBounds_toArray, List.set_cons_zero, List.set_cons_succ, List.getElem_toArray, List.getElem_cons_succ, List.getElem_cons_zero]
      refine wpAnyH_take (i := 7) (v := ?_) rfl (by kernel_rfl) (by kernel_rfl) (by kernel_rfl) (fun _ _ _ h => h) (Or.inl ⟨by rfl, ?_⟩) (by assumption) ?_
      rotate_left
      · intro w' hSw
        go_simp <;> with_reducible rfl
      try simp only [Act.put, List.setIfInBounds_toArray, List.set_cons_zero, List.set_cons_succ, List.getElem_toArray, List.getElem_cons_succ, List.getElem_cons_zero]
      refine wpAnyH_ready (rs := [4, 8]) (by kernel_rfl) (by simp) ?_
      refine AllReadyH.cons rfl (fun K hK => ?_) (AllReadyH.cons rfl (fun K hK => ?_) AllReadyH.nil)
      · have b3 : x8.cell? ⟨B, 3, none⟩ = some (.slice (some ⟨g7, 0, none⟩) (nm.length + 1) cap7) := Zd8.out.bx.cell 3
        go_simp
        refine hK.out _ _ (by exact Zd8.out.le) (fun hHeld => ?_)
        clear hK K
        try simp only [Act.put, List.setIfInBounds_toArray, List.set_cons_zero, List.set_cons_succ, List.getElem_toArray, List.getElem_cons_succ, List.getElem_cons_zero]
        clear b3
        refine wpAnyH_ready (rs := [8]) (by kernel_rfl) (by simp) ?_
        refine AllReadyH.cons rfl (fun K hK => ?_) AllReadyH.nil
        have b3 : x8.cell? ⟨B, 3, none⟩ = some (.slice (some ⟨g7, 0, none⟩) (nm.length + 1) cap7) := Zd8.out.bx.cell 3
        go_simp
        refine hK.out _ _ (by exact Zd8.out.le) (fun hHeld => ?_)
        clear hK K
        try simp only [Act.put, List.setIfInBounds_toArray, List.set_cons_zero, List.set_cons_succ, List.getElem_toArray, List.getElem_cons_succ, List.getElem_cons_zero]
        clear b3
        refine wpAnyH_take (i := 9) (v := ?_) rfl (by kernel_rfl) (by kernel_rfl) (by kernel_rfl) (fun _ _ _ h => h) (Or.inl ⟨by rfl, ?_⟩) (by assumption) ?_
        rotate_left
        · intro w' hSw
          go_simp <;> with_reducible rfl
        try simp only [Act.put, List.setIfInBounds_toArray, List.set_cons_zero, List.set_cons_succ, List.getElem_toArray, List.getElem_cons_succ, List.getElem_cons_zero]
        refine wpAnyH_take (i := 10) (v := ?_) rfl (by kernel_rfl) (by kernel_rfl) (by kernel_rfl) (fun _ _ _ h => h) (Or.inl ⟨by rfl, ?_⟩) (by assumption) ?_
        rotate_left
        · intro w' hSw
          go_simp <;> with_reducible rfl
        try simp only [Act.put, List.setIfInBounds_toArray, List.set_cons_zero, List.set_cons_succ, List.getElem_toArray, List.getElem_cons_succ, List.getElem_cons_zero]
        first | rw [W1.out] | rw [W2.out] | rw [W3.out]
        refine wpAnyH_take (i := 11) (v := ?_) rfl (by kernel_rfl) (by kernel_rfl) (by kernel_rfl) (fun _ _ _ h => h) (Or.inl ⟨by rfl, ?_⟩) (by assumption) ?_
        rotate_left
        · intro w' hSw
          have hkc : (nm.length : Int) ≤ (cap7 : Int) := by omega
          go_simp <;> with_reducible rfl
        try simp only [Act.put, List.setIfInBounds_toArray, List.set_cons_zero, List.set_cons_succ, List.getElem_toArray, List.getElem_cons_succ, List.getElem_cons_zero]
        refine wpAnyH_take (i := 12) (v := ?_) rfl (by kernel_rfl) (by kernel_rfl) (by kernel_rfl) (fun _ _ _ h => h) (Or.inl ⟨by rfl, ?_⟩) (by assumption) ?_
        rotate_left
        · intro w' hSw
          go_simp <;> with_reducible rfl
        try simp only [Act.put, List.setIfInBounds_toArray, List.set_cons_zero, List.set_cons_succ, List.getElem_toArray, List.getElem_cons_succ, List.getElem_cons_zero]
        refine wpAnyH_take (i := 13) (v := ?_) rfl (by kernel_rfl) (by kernel_rfl) (by kernel_rfl) (fun _ _ _ h => h) (Or.inl ⟨by rfl, ?_⟩) (by assumption) ?_
        rotate_left
        · intro w' hSw
          go_simp <;> with_reducible rfl
        try simp only [Act.put, List.setIfInBounds_toArray, List.set_cons_zero, List.set_cons_succ, List.getElem_toArray, List.getElem_cons_succ, List.getElem_cons_zero]
        have hg7B : Hid (g7 ≠ B) := fun e => Zd8.out.ne (by rw [e]; rfl)
        have b3 : x8.cell? ⟨B, 3, none⟩ = some (.slice (some ⟨g7, 0, none⟩) (nm.length + 1) cap7) := Zd8.out.bx.cell 3
        have bf : x8.frozen? ⟨B, 3, none⟩ = false := Blk.frozen Zd8.out.bx 3
        have hB9 : Hid (Bl (.slice (some ⟨g7, 0, none⟩) nm.length cap7) (x8.setCell ⟨B, 3, none⟩ (.slice (some ⟨g7, 0, none⟩) nm.length cap7)) B s r7.pos r7.k) := Blk.set Zd8.out.bx 3 _
        have hf9 : Hid (BFr x8 (x8.setCell ⟨B, 3, none⟩ (.slice (some ⟨g7, 0, none⟩) nm.length cap7)) B (.slice (some ⟨g7, 0, none⟩) (nm.length + 1) cap7) (.slice (some ⟨g7, 0, none⟩) nm.length cap7)) := ⟨rfl, rfl, rfl, by simp [World.setCell], fun q hq h1 _ => Below.heap_setCell _ _ _ _ (by simpa using h1), fun _ h => Or.inl h⟩
        have hO9 : Hid ((x8.setCell ⟨B, 3, none⟩ (.slice (some ⟨g7, 0, none⟩) nm.length cap7)).ownsRow N 9 1 (.slice (some ⟨g7, 0, none⟩) nm.length cap7) nm.length (nm.map Value.string)) := (pop_own (n := nm.length) Zd8.out.own rfl).kept (row := some B) ⟨rfl, rfl, rfl, by simp [World.setCell], fun q hq hb => Below.heap_setCell _ _ _ _ (by simp at hb; simpa using hb)⟩ (Or.inr (by simp [Value.ownBlock]; exact hg7B.out))
        have Z9 := hide (Zd8.out.step hf9.out hB9.out hO9.out)
        have F9 := hide (Fd8.out.trans hf9.out)
        have R9 := hide (blk_bfr Rd8.out hf9.out hbox.1 ho7)
        have kx : ∀ q : Nat, q ≠ B → (x8.setCell ⟨B, 3, none⟩ (.slice (some ⟨g7, 0, none⟩) nm.length cap7)).heap[q]? = x8.heap[q]? := fun q hq => Below.heap_setCell _ _ _ _ (by simpa using hq)
        have T9 : Hid (Blk (x8.setCell ⟨B, 3, none⟩ (.slice (some ⟨g7, 0, none⟩) nm.length cap7)) w7.heap.size #[.int .i64 r7.t.kind, .int .i64 r7.t.idx, .slice a7 r7.t.subs.length c7] 25) := (kx _ (by omega)).trans Td8.out
        have M9 : Hid (Blk (x8.setCell ⟨B, 3, none⟩ (.slice (some ⟨g7, 0, none⟩) nm.length cap7)) (w7.heap.size + 1) #[.int .i64 2, .int .i64 0, .slice (some ⟨w7.heap.size, 0, none⟩) 1 1] 25) := (kx _ (by omega)).trans Md8.out
        have S9 : Hid (SlM (x8.setCell ⟨B, 3, none⟩ (.slice (some ⟨g7, 0, none⟩) nm.length cap7)) (fun b => w.heap.size < b ∧ some b ≠ ((.slice (some ⟨g7, 0, none⟩) nm.length cap7) : Value).ownBlock) a7 r7.t.subs) := (Sd8.out.kept fun q hq => kx q (by omega)).mono fun q hq _ => ⟨by omega, hq.2⟩
        refine wpAnyH_ready (rs := [14]) (by kernel_rfl) (by simp) ?_
        refine AllReadyH.cons rfl (fun K hK => ?_) AllReadyH.nil
        go_simp
        refine hK.out _ _ (by exact Z9.out.le) (fun hHeld => ?_)
        clear hK K
        try simp only [Act.put, List.setIfInBounds_toArray, List.set_cons_zero, List.set_cons_succ, List.getElem_toArray, List.getElem_cons_succ, List.getElem_cons_zero]
        generalize (x8.setCell ⟨B, 3, none⟩ (.slice (some ⟨g7, 0, none⟩) nm.length cap7)) = w9 at *
        clear b3 bf hB9 hO9 hf9 Zd8 Fd8 Rd8 Td8 Md8 Sd8 kx
        refine wpAnyH_done (by kernel_rfl) ?_ _
        have q0 := M9.out.cell 0
        have q1 := M9.out.cell 1
        have q2 := M9.out.cell 2
        have t0 := T9.out.cell 0
        have t1 := T9.out.cell 1
        have t2 := T9.out.cell 2
        have r0 := R9.out.cell 0
        have r1 := R9.out.cell 1
        have r2 := R9.out.cell 2
        have rf := R9.out.frozen
        simp only [List.getElem?_toArray, List.getElem?_cons_succ, List.getElem?_cons_zero] at q0 q1 q2 r0 r1 r2 t0 t1 t2
        have hg7 : ((.slice (some ⟨g7, 0, none⟩) nm.length cap7) : Value).ownBlock = some g7 := rfl
        have hlt7 := (Z9.out.own.lt _ hg7).2
        have HNG : Hid (some w7.heap.size ≠ ((.slice (some ⟨g7, 0, none⟩) nm.length cap7) : Value).ownBlock) := by
          unfold Hid
          intro e
          have e2 : g7 = w7.heap.size := by simpa [Value.ownBlock] using e.symm
          exact gOLD.out e2
        have SF : Hid (SlM w9 (fun b => w.heap.size < b ∧ some b ≠ ((.slice (some ⟨g7, 0, none⟩) nm.length cap7) : Value).ownBlock) (some ⟨w7.heap.size, 0, none⟩) [r7.t]) := lies_one ⟨by omega, HNG.out⟩ (by simpa using t0) (by simpa using t1) (by simpa using t2) S9.out
        clear hg7 hlt7
        go_wp2_with fail
        refine bodyPost_ret (v := .agg #[.int .i64 2, .int .i64 0, .slice (some ⟨w7.heap.size, 0, none⟩) 1 1]) (by simp [results, Tryz.results62, go_sem, World.cell?_setCell_same, World.cell?_setCell_other, r0, r1, r2]) rfl ?_
        exact lr_fin (t := ⟨2, 0, [r7.t]⟩) HR7.out Z9.out F9.out hBlt ho7 SF.out _ _ _
      · have b3 : x8.cell? ⟨B, 3, none⟩ = some (.slice (some ⟨g7, 0, none⟩) (nm.length + 1) cap7) := Zd8.out.bx.cell 3
        go_simp
        refine hK.out _ _ (by exact Zd8.out.le) (fun hHeld => ?_)
        clear hK K
        try simp only [Act.put, List.setIfInBounds_toArray, List.set_cons_zero, List.set_cons_succ, List.getElem_toArray, List.getElem_cons_succ, List.getElem_cons_zero]
        clear b3
        refine wpAnyH_take (i := 9) (v := ?_) rfl (by kernel_rfl) (by kernel_rfl) (by kernel_rfl) (fun _ _ _ h => h) (Or.inl ⟨by rfl, ?_⟩) (by assumption) ?_
        rotate_left
        · intro w' hSw
          go_simp <;> with_reducible rfl
        try simp only [Act.put, List.setIfInBounds_toArray, List.set_cons_zero, List.set_cons_succ, List.getElem_toArray, List.getElem_cons_succ, List.getElem_cons_zero]
        refine wpAnyH_take (i := 10) (v := ?_) rfl (by kernel_rfl) (by kernel_rfl) (by kernel_rfl) (fun _ _ _ h => h) (Or.inl ⟨by rfl, ?_⟩) (by assumption) ?_
        rotate_left
        · intro w' hSw
          go_simp <;> with_reducible rfl
        try simp only [Act.put, List.setIfInBounds_toArray, List.set_cons_zero, List.set_cons_succ, List.getElem_toArray, List.getElem_cons_succ, List.getElem_cons_zero]
        first | rw [W1.out] | rw [W2.out] | rw [W3.out]
        refine wpAnyH_ready (rs := [4]) (by kernel_rfl) (by simp) ?_
        refine AllReadyH.cons rfl (fun K hK => ?_) AllReadyH.nil
        have b3 : x8.cell? ⟨B, 3, none⟩ = some (.slice (some ⟨g7, 0, none⟩) (nm.length + 1) cap7) := Zd8.out.bx.cell 3
        go_simp
        refine hK.out _ _ (by exact Zd8.out.le) (fun hHeld => ?_)
        clear hK K
        try simp only [Act.put, List.setIfInBounds_toArray, List.set_cons_zero, List.set_cons_succ, List.getElem_toArray, List.getElem_cons_succ, List.getElem_cons_zero]
        clear b3
        refine wpAnyH_take (i := 11) (v := ?_) rfl (by kernel_rfl) (by kernel_rfl) (by kernel_rfl) (fun _ _ _ h => h) (Or.inl ⟨by rfl, ?_⟩) (by assumption) ?_
        rotate_left
        · intro w' hSw
          have hkc : (nm.length : Int) ≤ (cap7 : Int) := by omega
          go_simp <;> with_reducible rfl
        try simp only [Act.put, List.setIfInBounds_toArray, List.set_cons_zero, List.set_cons_succ, List.getElem_toArray, List.getElem_cons_succ, List.getElem_cons_zero]
        refine wpAnyH_take (i := 12) (v := ?_) rfl (by kernel_rfl) (by kernel_rfl) (by kernel_rfl) (fun _ _ _ h => h) (Or.inl ⟨by rfl, ?_⟩) (by assumption) ?_
        rotate_left
        · intro w' hSw
          go_simp <;> with_reducible rfl
        try simp only [Act.put, List.setIfInBounds_toArray, List.set_cons_zero, List.set_cons_succ, List.getElem_toArray, List.getElem_cons_succ, List.getElem_cons_zero]
        refine wpAnyH_take (i := 13) (v := ?_) rfl (by kernel_rfl) (by kernel_rfl) (by kernel_rfl) (fun _ _ _ h => h) (Or.inl ⟨by rfl, ?_⟩) (by assumption) ?_
        rotate_left
        · intro w' hSw
          go_simp <;> with_reducible rfl
        try simp only [Act.put, List.setIfInBounds_toArray, List.set_cons_zero, List.set_cons_succ, List.getElem_toArray, List.getElem_cons_succ, List.getElem_cons_zero]
        have hg7B : Hid (g7 ≠ B) := fun e => Zd8.out.ne (by rw [e]; rfl)
        have b3 : x8.cell? ⟨B, 3, none⟩ = some (.slice (some ⟨g7, 0, none⟩) (nm.length + 1) cap7) := Zd8.out.bx.cell 3
        have bf : x8.frozen? ⟨B, 3, none⟩ = false := Blk.frozen Zd8.out.bx 3
        have hB9 : Hid (Bl (.slice (some ⟨g7, 0, none⟩) nm.length cap7) (x8.setCell ⟨B, 3, none⟩ (.slice (some ⟨g7, 0, none⟩) nm.length cap7)) B s r7.pos r7.k) := Blk.set Zd8.out.bx 3 _
        have hf9 : Hid (BFr x8 (x8.setCell ⟨B, 3, none⟩ (.slice (some ⟨g7, 0, none⟩) nm.length cap7)) B (.slice (some ⟨g7, 0, none⟩) (nm.length + 1) cap7) (.slice (some ⟨g7, 0, none⟩) nm.length cap7)) := ⟨rfl, rfl, rfl, by simp [World.setCell], fun q hq h1 _ => Below.heap_setCell _ _ _ _ (by simpa using h1), fun _ h => Or.inl h⟩
        have hO9 : Hid ((x8.setCell ⟨B, 3, none⟩ (.slice (some ⟨g7, 0, none⟩) nm.length cap7)).ownsRow N 9 1 (.slice (some ⟨g7, 0, none⟩) nm.length cap7) nm.length (nm.map Value.string)) := (pop_own (n := nm.length) Zd8.out.own rfl).kept (row := some B) ⟨rfl, rfl, rfl, by simp [World.setCell], fun q hq hb => Below.heap_setCell _ _ _ _ (by simp at hb; simpa using hb)⟩ (Or.inr (by simp [Value.ownBlock]; exact hg7B.out))
        have Z9 := hide (Zd8.out.step hf9.out hB9.out hO9.out)
        have F9 := hide (Fd8.out.trans hf9.out)
        have R9 := hide (blk_bfr Rd8.out hf9.out hbox.1 ho7)
        have kx : ∀ q : Nat, q ≠ B → (x8.setCell ⟨B, 3, none⟩ (.slice (some ⟨g7, 0, none⟩) nm.length cap7)).heap[q]? = x8.heap[q]? := fun q hq => Below.heap_setCell _ _ _ _ (by simpa using hq)
        have T9 : Hid (Blk (x8.setCell ⟨B, 3, none⟩ (.slice (some ⟨g7, 0, none⟩) nm.length cap7)) w7.heap.size #[.int .i64 r7.t.kind, .int .i64 r7.t.idx, .slice a7 r7.t.subs.length c7] 25) := (kx _ (by omega)).trans Td8.out
        have M9 : Hid (Blk (x8.setCell ⟨B, 3, none⟩ (.slice (some ⟨g7, 0, none⟩) nm.length cap7)) (w7.heap.size + 1) #[.int .i64 2, .int .i64 0, .slice (some ⟨w7.heap.size, 0, none⟩) 1 1] 25) := (kx _ (by omega)).trans Md8.out
        have S9 : Hid (SlM (x8.setCell ⟨B, 3, none⟩ (.slice (some ⟨g7, 0, none⟩) nm.length cap7)) (fun b => w.heap.size < b ∧ some b ≠ ((.slice (some ⟨g7, 0, none⟩) nm.length cap7) : Value).ownBlock) a7 r7.t.subs) := (Sd8.out.kept fun q hq => kx q (by omega)).mono fun q hq _ => ⟨by omega, hq.2⟩
        refine wpAnyH_ready (rs := [14]) (by kernel_rfl) (by simp) ?_
        refine AllReadyH.cons rfl (fun K hK => ?_) AllReadyH.nil
        go_simp
        refine hK.out _ _ (by exact Z9.out.le) (fun hHeld => ?_)
        clear hK K
        try simp only [Act.put, List.setIfInBounds_toArray, List.set_cons_zero, List.set_cons_succ, List.getElem_toArray, List.getElem_cons_succ, List.getElem_cons_zero]
        generalize (x8.setCell ⟨B, 3, none⟩ (.slice (some ⟨g7, 0, none⟩) nm.length cap7)) = w9 at *
        clear b3 bf hB9 hO9 hf9 Zd8 Fd8 Rd8 Td8 Md8 Sd8 kx
        refine wpAnyH_done (by kernel_rfl) ?_ _
        have q0 := M9.out.cell 0
        have q1 := M9.out.cell 1
        have q2 := M9.out.cell 2
        have t0 := T9.out.cell 0
        have t1 := T9.out.cell 1
        have t2 := T9.out.cell 2
        have r0 := R9.out.cell 0
        have r1 := R9.out.cell 1
        have r2 := R9.out.cell 2
        have rf := R9.out.frozen
        simp only [List.getElem?_toArray, List.getElem?_cons_succ, List.getElem?_cons_zero] at q0 q1 q2 r0 r1 r2 t0 t1 t2
        have hg7 : ((.slice (some ⟨g7, 0, none⟩) nm.length cap7) : Value).ownBlock = some g7 := rfl
        have hlt7 := (Z9.out.own.lt _ hg7).2
        have HNG : Hid (some w7.heap.size ≠ ((.slice (some ⟨g7, 0, none⟩) nm.length cap7) : Value).ownBlock) := by
          unfold Hid
          intro e
          have e2 : g7 = w7.heap.size := by simpa [Value.ownBlock] using e.symm
          exact gOLD.out e2
        have SF : Hid (SlM w9 (fun b => w.heap.size < b ∧ some b ≠ ((.slice (some ⟨g7, 0, none⟩) nm.length cap7) : Value).ownBlock) (some ⟨w7.heap.size, 0, none⟩) [r7.t]) := lies_one ⟨by omega, HNG.out⟩ (by simpa using t0) (by simpa using t1) (by simpa using t2) S9.out
        clear hg7 hlt7
        go_wp2_with fail
        refine bodyPost_ret (v := .agg #[.int .i64 2, .int .i64 0, .slice (some ⟨w7.heap.size, 0, none⟩) 1 1]) (by simp [results, Tryz.results62, go_sem, World.cell?_setCell_same, World.cell?_setCell_other, r0, r1, r2]) rfl ?_
        exact lr_fin (t := ⟨2, 0, [r7.t]⟩) HR7.out Z9.out F9.out hBlt ho7 SF.out _ _ _
end Go.Proofs.YtfkjejpfhflanaaGreatDoor
