/- Several texts in one. -/
import Derived.Test.YteojdfmdhgnmfaaGreatZTopEmbedOwn
import Derived.Deep.RegionHeld
import Derived.Deep.RegionHeld3
import Derived.RegionTactic
import Derived.ChangeAlike
import Derived.WideKeyPair
import Derived.Maps.RangeRun
import Derived.Lib.Builder
import Derived.Lib.AppendStr
import Derived.Deep.AppendSrc
import Derived.Test.YteojdfmdhgnmfaaGreatShelf
import Derived.Ground.SlgnProg
import Derived.Shelf.SlicesE.Clone
import Derived.Deep.DeepCutAuto
/- Walks: how two symbols compare. -/
namespace Go.Proofs.YteojdfmdhgnmfaaGreat
open Go.RowKit
set_option linter.unusedSimpArgs false
set_option linter.unusedVariables false
set_option maxRecDepth 8000

def CmpS (row : List ByteArray) (a b : Tm) (aa : Option Addr) (ca : Nat) (ab : Option Addr) (cb : Nat) (r : Nat) (w w' : World) : Prop :=
  w'.cell? ⟨w.heap.size, 0, none⟩ = some (.string a.name) ∧ w'.cell? ⟨w.heap.size, 1, none⟩ = some (.slice aa a.args.length ca) ∧ w'.cell? ⟨w.heap.size + 1, 0, none⟩ = some (.string b.name) ∧ w'.cell? ⟨w.heap.size + 1, 1, none⟩ = some (.slice ab b.args.length cb) ∧
  MapAt w' r (rkL 0 row) ∧ Below w.heap.size w w'
theorem CmpS.later {row : List ByteArray} {a b : Tm} {aa ab : Option Addr} {ca cb r : Nat} {w w1 w2 : World} (h : CmpS row a b aa ca ab cb r w w1) (hb : Below w1.heap.size w1 w2) : CmpS row a b aa ca ab cb r w w2 := by
  obtain ⟨h1, h2, h3, h4, h5, h6⟩ := h
  exact ⟨(hb.cell (p := ⟨w.heap.size, 0, none⟩) (cell_lt h1)).trans h1, (hb.cell (p := ⟨w.heap.size, 1, none⟩) (cell_lt h2)).trans h2, (hb.cell (p := ⟨w.heap.size + 1, 0, none⟩) (cell_lt h3)).trans h3, (hb.cell (p := ⟨w.heap.size + 1, 1, none⟩) (cell_lt h4)).trans h4, h5.below hb h5.lt, h6.trans (hb.mono h6.size)⟩
theorem look_rank {row : List ByteArray} {w : World} {r : Nat} (h : MapAt w r (rkL 0 row)) (n : ByteArray) : (Instr.lookup 72 (.map (some r)) (.string n) false).run Tryz.prog w = .ok (.int .i64 (rankN n row)) w := by
  rw [run_look1 (P := Tryz.prog) Tryz.underlying72 Tryz.underlying9 (Tryz.zeroValue3 w) h n, rkL_at]
theorem orI_three (row : List ByteArray) (a b : Tm) : orI [cmpI (rankN a.name row) (rankN b.name row), cmpN a.name b.name, cmpI a.args.length b.args.length] = cmpS row a b := by
  unfold orI cmpS
  by_cases h1 : cmpI (rankN a.name row) (rankN b.name row) = 0
  · by_cases h2 : cmpN a.name b.name = 0
    · by_cases h3 : cmpI a.args.length b.args.length = 0
      · simp [h1, h2, h3]
      · simp [h1, h2, h3]
    · simp [h1, h2]
  · simp [h1]
set_option maxHeartbeats 2000000 in
theorem compareR_any (row : List ByteArray) (S : List Tm) (a b : Tm) (r : Nat) (va vb : Value) (w : World) (X : Nat → Prop) (hM : MapAt w r (rkL 0 row)) (ha : IV w X S va a) (hb : IV w X S vb b) :
    Calls Tryz.prog 65 #[.map (some r), va, vb] w fun e w' => e = .returned (.int .i64 (cmpS row a b)) ∧ Below w.heap.size w w' := by
  obtain ⟨_, aa, ca, rfl, hsa⟩ := ha
  obtain ⟨_, ab, cb, rfl, hsb⟩ := hb
  have hla := hsa.1
  have hlb := hsb.1
  clear hsa hsb
  have hz : ∀ w', (zeroValue 3).run Tryz.prog w' = .ok (.int .i64 0) w' := fun w' => Tryz.zeroValue3 w'
  have HS0 : Hid (CmpS row a b aa ca ab cb r w (((w.alloc (.cells #[.string a.name, .slice aa a.args.length ca, .int .i64 (numT a S), .int .i64 (sizeL [a])] 79)).alloc (.cells #[.string b.name, .slice ab b.args.length cb, .int .i64 (numT b S), .int .i64 (sizeL [b])] 79)).drew)) := by
    have k1 := (Blk.new w #[.string a.name, .slice aa a.args.length ca, .int .i64 (numT a S), .int .i64 (sizeL [a])] 79).alloc (.cells #[.string b.name, .slice ab b.args.length cb, .int .i64 (numT b S), .int .i64 (sizeL [b])] 79)
    have k2 := Blk.new (w.alloc (.cells #[.string a.name, .slice aa a.args.length ca, .int .i64 (numT a S), .int .i64 (sizeL [a])] 79)) #[.string b.name, .slice ab b.args.length cb, .int .i64 (numT b S), .int .i64 (sizeL [b])] 79
    have hB := ((Below.refl w.heap.size w).alloc (Nat.le_refl _) (.cells #[.string a.name, .slice aa a.args.length ca, .int .i64 (numT a S), .int .i64 (sizeL [a])] 79)).alloc (by simp) (.cells #[.string b.name, .slice ab b.args.length cb, .int .i64 (numT b S), .int .i64 (sizeL [b])] 79)
    have e1 : (w.alloc (.cells #[.string a.name, .slice aa a.args.length ca, .int .i64 (numT a S), .int .i64 (sizeL [a])] 79)).heap.size = w.heap.size + 1 := by simp
    rw [e1] at k2
    have hM2 := hM.below hB hM.lt
    generalize (w.alloc (.cells #[.string a.name, .slice aa a.args.length ca, .int .i64 (numT a S), .int .i64 (sizeL [a])] 79)).alloc (.cells #[.string b.name, .slice ab b.args.length cb, .int .i64 (numT b S), .int .i64 (sizeL [b])] 79) = w2 at *
    exact ⟨k1.cell 0, k1.cell 1, k2.cell 0, k2.cell 1, hM2, below_drewN hB 1⟩
  clear hM
  go_enter Tryz.func65, Tryz.ntmps65
  go_wp2_with fail
  refine wp_region_held_drew (S := CmpS row a b aa ca ab cb r w) (by kernel_rfl) HS0.out (fun hHeld => ?_)
  refine wpAnyH_take (i := 0) (v := ?_) rfl (by kernel_rfl) (by kernel_rfl) (by kernel_rfl) (fun _ _ _ h => h) (Or.inl ⟨by rfl, ?_⟩) (by assumption) ?_
  rotate_left
  · intro w' hSw
    obtain ⟨k1, k2, k3, k4, k5, k6⟩ := hSw
    have la := look_rank k5 a.name
    have lb := look_rank k5 b.name
    go_simp <;> with_reducible rfl
  try simp only [Act.put, List.setIfInBounds_toArray, List.set_cons_zero, List.set_cons_succ, List.getElem_toArray, List.getElem_cons_succ, List.getElem_cons_zero]
  refine wpAnyH_take (i := 1) (v := ?_) rfl (by kernel_rfl) (by kernel_rfl) (by kernel_rfl) (fun _ _ _ h => h) (Or.inl ⟨by rfl, ?_⟩) (by assumption) ?_
  rotate_left
  · intro w' hSw
    obtain ⟨k1, k2, k3, k4, k5, k6⟩ := hSw
    have la := look_rank k5 a.name
    have lb := look_rank k5 b.name
    go_simp <;> with_reducible rfl
  try simp only [Act.put, List.setIfInBounds_toArray, List.set_cons_zero, List.set_cons_succ, List.getElem_toArray, List.getElem_cons_succ, List.getElem_cons_zero]
  refine wpAnyH_take (i := 2) (v := ?_) rfl (by kernel_rfl) (by kernel_rfl) (by kernel_rfl) (fun _ _ _ h => h) (Or.inl ⟨by rfl, ?_⟩) (by assumption) ?_
  rotate_left
  · intro w' hSw
    obtain ⟨k1, k2, k3, k4, k5, k6⟩ := hSw
    have la := look_rank k5 a.name
    have lb := look_rank k5 b.name
    go_simp <;> with_reducible rfl
  try simp only [Act.put, List.setIfInBounds_toArray, List.set_cons_zero, List.set_cons_succ, List.getElem_toArray, List.getElem_cons_succ, List.getElem_cons_zero]
  refine wpAnyH_take (i := 3) (v := ?_) rfl (by kernel_rfl) (by kernel_rfl) (by kernel_rfl) (fun _ _ _ h => h) (Or.inl ⟨by rfl, ?_⟩) (by assumption) ?_
  rotate_left
  · intro w' hSw
    obtain ⟨k1, k2, k3, k4, k5, k6⟩ := hSw
    have la := look_rank k5 a.name
    have lb := look_rank k5 b.name
    go_simp <;> with_reducible rfl
  try simp only [Act.put, List.setIfInBounds_toArray, List.set_cons_zero, List.set_cons_succ, List.getElem_toArray, List.getElem_cons_succ, List.getElem_cons_zero]
  refine wpAnyH_take (i := 4) (v := ?_) rfl (by kernel_rfl) (by kernel_rfl) (by kernel_rfl) (fun _ _ _ h => h) (Or.inl ⟨by rfl, ?_⟩) (by assumption) ?_
  rotate_left
  · intro w' hSw
    obtain ⟨k1, k2, k3, k4, k5, k6⟩ := hSw
    have la := look_rank k5 a.name
    have lb := look_rank k5 b.name
    go_simp <;> with_reducible rfl
  try simp only [Act.put, List.setIfInBounds_toArray, List.set_cons_zero, List.set_cons_succ, List.getElem_toArray, List.getElem_cons_succ, List.getElem_cons_zero]
  refine wpAnyH_take (i := 5) (v := ?_) rfl (by kernel_rfl) (by kernel_rfl) (by kernel_rfl) (fun _ _ _ h => h) (Or.inl ⟨by rfl, ?_⟩) (by assumption) ?_
  rotate_left
  · intro w' hSw
    obtain ⟨k1, k2, k3, k4, k5, k6⟩ := hSw
    have la := look_rank k5 a.name
    have lb := look_rank k5 b.name
    go_simp <;> with_reducible rfl
  try simp only [Act.put, List.setIfInBounds_toArray, List.set_cons_zero, List.set_cons_succ, List.getElem_toArray, List.getElem_cons_succ, List.getElem_cons_zero]
  refine wpAnyH_take (i := 6) (v := ?_) rfl (by kernel_rfl) (by kernel_rfl) (by kernel_rfl) (fun _ _ _ h => h) (Or.inl ⟨by rfl, ?_⟩) (by assumption) ?_
  rotate_left
  · intro w' hSw
    obtain ⟨k1, k2, k3, k4, k5, k6⟩ := hSw
    have la := look_rank k5 a.name
    have lb := look_rank k5 b.name
    go_simp <;> with_reducible rfl
  try simp only [Act.put, List.setIfInBounds_toArray, List.set_cons_zero, List.set_cons_succ, List.getElem_toArray, List.getElem_cons_succ, List.getElem_cons_zero]
  refine wpAnyH_take (i := 7) (v := ?_) rfl (by kernel_rfl) (by kernel_rfl) (by kernel_rfl) (fun _ _ _ h => h) (Or.inl ⟨by rfl, ?_⟩) (by assumption) ?_
  rotate_left
  · intro w' hSw
    obtain ⟨k1, k2, k3, k4, k5, k6⟩ := hSw
    have la := look_rank k5 a.name
    have lb := look_rank k5 b.name
    go_simp <;> with_reducible rfl
  try simp only [Act.put, List.setIfInBounds_toArray, List.set_cons_zero, List.set_cons_succ, List.getElem_toArray, List.getElem_cons_succ, List.getElem_cons_zero]
  refine wpAnyH_take (i := 9) (v := ?_) rfl (by kernel_rfl) (by kernel_rfl) (by kernel_rfl) (fun _ _ _ h => h) (Or.inl ⟨by rfl, ?_⟩) (by assumption) ?_
  rotate_left
  · intro w' hSw
    obtain ⟨k1, k2, k3, k4, k5, k6⟩ := hSw
    have la := look_rank k5 a.name
    have lb := look_rank k5 b.name
    go_simp <;> with_reducible rfl
  try simp only [Act.put, List.setIfInBounds_toArray, List.set_cons_zero, List.set_cons_succ, List.getElem_toArray, List.getElem_cons_succ, List.getElem_cons_zero]
  refine wpAnyH_take (i := 10) (v := ?_) rfl (by kernel_rfl) (by kernel_rfl) (by kernel_rfl) (fun _ _ _ h => h) (Or.inl ⟨by rfl, ?_⟩) (by assumption) ?_
  rotate_left
  · intro w' hSw
    obtain ⟨k1, k2, k3, k4, k5, k6⟩ := hSw
    have la := look_rank k5 a.name
    have lb := look_rank k5 b.name
    go_simp <;> with_reducible rfl
  try simp only [Act.put, List.setIfInBounds_toArray, List.set_cons_zero, List.set_cons_succ, List.getElem_toArray, List.getElem_cons_succ, List.getElem_cons_zero]
  refine wpAnyH_take (i := 11) (v := ?_) rfl (by kernel_rfl) (by kernel_rfl) (by kernel_rfl) (fun _ _ _ h => h) (Or.inl ⟨by rfl, ?_⟩) (by assumption) ?_
  rotate_left
  · intro w' hSw
    obtain ⟨k1, k2, k3, k4, k5, k6⟩ := hSw
    have la := look_rank k5 a.name
    have lb := look_rank k5 b.name
    go_simp <;> with_reducible rfl
  try simp only [Act.put, List.setIfInBounds_toArray, List.set_cons_zero, List.set_cons_succ, List.getElem_toArray, List.getElem_cons_succ, List.getElem_cons_zero]
  refine wpAnyH_take (i := 12) (v := ?_) rfl (by kernel_rfl) (by kernel_rfl) (by kernel_rfl) (fun _ _ _ h => h) (Or.inl ⟨by rfl, ?_⟩) (by assumption) ?_
  rotate_left
  · intro w' hSw
    obtain ⟨k1, k2, k3, k4, k5, k6⟩ := hSw
    have la := look_rank k5 a.name
    have lb := look_rank k5 b.name
    go_simp <;> with_reducible rfl
  try simp only [Act.put, List.setIfInBounds_toArray, List.set_cons_zero, List.set_cons_succ, List.getElem_toArray, List.getElem_cons_succ, List.getElem_cons_zero]
  refine wpAnyH_take (i := 14) (v := ?_) rfl (by kernel_rfl) (by kernel_rfl) (by kernel_rfl) (fun _ _ _ h => h) (Or.inl ⟨by rfl, ?_⟩) (by assumption) ?_
  rotate_left
  · intro w' hSw
    obtain ⟨k1, k2, k3, k4, k5, k6⟩ := hSw
    have la := look_rank k5 a.name
    have lb := look_rank k5 b.name
    go_simp <;> with_reducible rfl
  try simp only [Act.put, List.setIfInBounds_toArray, List.set_cons_zero, List.set_cons_succ, List.getElem_toArray, List.getElem_cons_succ, List.getElem_cons_zero]
  refine wpAnyH_take (i := 15) (v := ?_) rfl (by kernel_rfl) (by kernel_rfl) (by kernel_rfl) (fun _ _ _ h => h) (Or.inl ⟨by rfl, ?_⟩) (by assumption) ?_
  rotate_left
  · intro w' hSw
    obtain ⟨k1, k2, k3, k4, k5, k6⟩ := hSw
    have la := look_rank k5 a.name
    have lb := look_rank k5 b.name
    go_simp <;> with_reducible rfl
  try simp only [Act.put, List.setIfInBounds_toArray, List.set_cons_zero, List.set_cons_succ, List.getElem_toArray, List.getElem_cons_succ, List.getElem_cons_zero]
  refine wpAnyH_take (i := 16) (v := ?_) rfl (by kernel_rfl) (by kernel_rfl) (by kernel_rfl) (fun _ _ _ h => h) (Or.inl ⟨by rfl, ?_⟩) (by assumption) ?_
  rotate_left
  · intro w' hSw
    obtain ⟨k1, k2, k3, k4, k5, k6⟩ := hSw
    have la := look_rank k5 a.name
    have lb := look_rank k5 b.name
    go_simp <;> with_reducible rfl
  try simp only [Act.put, List.setIfInBounds_toArray, List.set_cons_zero, List.set_cons_succ, List.getElem_toArray, List.getElem_cons_succ, List.getElem_cons_zero]
  refine wpAnyH_take (i := 17) (v := ?_) rfl (by kernel_rfl) (by kernel_rfl) (by kernel_rfl) (fun _ _ _ h => h) (Or.inl ⟨by rfl, ?_⟩) (by assumption) ?_
  rotate_left
  · intro w' hSw
    obtain ⟨k1, k2, k3, k4, k5, k6⟩ := hSw
    have la := look_rank k5 a.name
    have lb := look_rank k5 b.name
    go_simp <;> with_reducible rfl
  try simp only [Act.put, List.setIfInBounds_toArray, List.set_cons_zero, List.set_cons_succ, List.getElem_toArray, List.getElem_cons_succ, List.getElem_cons_zero]
  refine wpAnyH_take (i := 18) (v := ?_) rfl (by kernel_rfl) (by kernel_rfl) (by kernel_rfl) (fun _ _ _ h => h) (Or.inl ⟨by rfl, ?_⟩) (by assumption) ?_
  rotate_left
  · intro w' hSw
    obtain ⟨k1, k2, k3, k4, k5, k6⟩ := hSw
    have la := look_rank k5 a.name
    have lb := look_rank k5 b.name
    go_simp <;> with_reducible rfl
  try simp only [Act.put, List.setIfInBounds_toArray, List.set_cons_zero, List.set_cons_succ, List.getElem_toArray, List.getElem_cons_succ, List.getElem_cons_zero]
  refine wpAnyH_take (i := 19) (v := ?_) rfl (by kernel_rfl) (by kernel_rfl) (by kernel_rfl) (fun _ _ _ h => h) (Or.inl ⟨by rfl, ?_⟩) (by assumption) ?_
  rotate_left
  · intro w' hSw
    obtain ⟨k1, k2, k3, k4, k5, k6⟩ := hSw
    have la := look_rank k5 a.name
    have lb := look_rank k5 b.name
    go_simp <;> with_reducible rfl
  try simp only [Act.put, List.setIfInBounds_toArray, List.set_cons_zero, List.set_cons_succ, List.getElem_toArray, List.getElem_cons_succ, List.getElem_cons_zero]
  refine wpAnyH_ready (rs := [8]) (by kernel_rfl) (by simp) ?_
  refine AllReadyH.cons rfl (fun K hK => ?_) AllReadyH.nil
  go_simp
  go_at_call 81
  refine (compareI_any _ _ _).mono ?_
  rintro e w' ⟨rfl, rfl⟩
  go_simp
  refine hK.out _ _ (by exact hHeld) (fun hHeld => ?_)
  clear hK K
  try simp only [Act.put, List.setIfInBounds_toArray, List.set_cons_zero, List.set_cons_succ, List.getElem_toArray, List.getElem_cons_succ, List.getElem_cons_zero]
  refine wpAnyH_ready (rs := [13]) (by kernel_rfl) (by simp) ?_
  refine AllReadyH.cons rfl (fun K hK => ?_) AllReadyH.nil
  go_simp
  go_at_call 82
  refine (compare_any _ _ _).mono ?_
  rintro e w' ⟨rfl, rfl⟩
  go_simp
  refine hK.out _ _ (by exact hHeld) (fun hHeld => ?_)
  clear hK K
  try simp only [Act.put, List.setIfInBounds_toArray, List.set_cons_zero, List.set_cons_succ, List.getElem_toArray, List.getElem_cons_succ, List.getElem_cons_zero]
  refine wpAnyH_ready (rs := [20]) (by kernel_rfl) (by simp) ?_
  refine AllReadyH.cons rfl (fun K hK => ?_) AllReadyH.nil
  go_simp
  go_at_call 81
  refine (compareI_any _ _ _).mono ?_
  rintro e w' ⟨rfl, rfl⟩
  go_simp
  refine hK.out _ _ (by exact hHeld) (fun hHeld => ?_)
  clear hK K
  try simp only [Act.put, List.setIfInBounds_toArray, List.set_cons_zero, List.set_cons_succ, List.getElem_toArray, List.getElem_cons_succ, List.getElem_cons_zero]
  refine wpAnyH_ready (rs := [21]) (by kernel_rfl) (by simp) ?_
  refine AllReadyH.cons rfl (fun K hK => ?_) AllReadyH.nil
  have KL : Hid (LV (fun z => .int .i64 z) (((w.alloc (.cells #[.string a.name, .slice aa a.args.length ca, .int .i64 (numT a S), .int .i64 (sizeL [a])] 79)).alloc (.cells #[.string b.name, .slice ab b.args.length cb, .int .i64 (numT b S), .int .i64 (sizeL [b])] 79)).alloc (.cells #[.int .i64 (cmpI (rankN a.name row) (rankN b.name row)), .int .i64 (cmpN a.name b.name), .int .i64 (cmpI a.args.length b.args.length)] 3)).drew (fun _ => True) (.slice (some ⟨w.heap.size + 1 + 1, 0, none⟩) 3 3) [cmpI (rankN a.name row) (rankN b.name row), cmpN a.name b.name, cmpI a.args.length b.args.length]) := by
    have k := Blk.new ((w.alloc (.cells #[.string a.name, .slice aa a.args.length ca, .int .i64 (numT a S), .int .i64 (sizeL [a])] 79)).alloc (.cells #[.string b.name, .slice ab b.args.length cb, .int .i64 (numT b S), .int .i64 (sizeL [b])] 79)) #[.int .i64 (cmpI (rankN a.name row) (rankN b.name row)), .int .i64 (cmpN a.name b.name), .int .i64 (cmpI a.args.length b.args.length)] 3
    refine ⟨_, _, rfl, ⟨by simp, Nat.le_refl _⟩, Or.inr ⟨_, 0, rfl, trivial, fun i hi => ?_⟩⟩
    have e : ((w.alloc (.cells #[.string a.name, .slice aa a.args.length ca, .int .i64 (numT a S), .int .i64 (sizeL [a])] 79)).alloc (.cells #[.string b.name, .slice ab b.args.length cb, .int .i64 (numT b S), .int .i64 (sizeL [b])] 79)).heap.size = w.heap.size + 1 + 1 := by simp
    rw [e] at k
    match i, hi with
    | 0, _ => exact k.cell 0
    | 1, _ => exact k.cell 1
    | 2, _ => exact k.cell 2
  go_simp
  refine hK.out _ _ (by exact hHeld.later ⟨rfl, rfl, rfl, by simp, fun k hk => Below.heap_alloc _ _ _ (by simpa using hk)⟩) (fun hHeld => ?_)
  clear hK K
  try simp only [Act.put, List.setIfInBounds_toArray, List.set_cons_zero, List.set_cons_succ, List.getElem_toArray, List.getElem_cons_succ, List.getElem_cons_zero]
  refine wpAnyH_ready (rs := [22]) (by kernel_rfl) (by simp) ?_
  refine AllReadyH.cons rfl (fun K hK => ?_) AllReadyH.nil
  go_simp
  go_at_call 80
  refine (or_any _ _ _ _ KL.out).mono ?_
  rintro e w' ⟨rfl, hb⟩
  rw [orI_three]
  go_simp
  refine hK.out _ _ (by exact hHeld.later hb) (fun hHeld => ?_)
  clear hK K
  try simp only [Act.put, List.setIfInBounds_toArray, List.set_cons_zero, List.set_cons_succ, List.getElem_toArray, List.getElem_cons_succ, List.getElem_cons_zero]
  refine wpAnyH_take (i := 23) (v := ?_) rfl (by kernel_rfl) (by kernel_rfl) (by kernel_rfl) (fun _ _ _ h => h) (Or.inl ⟨by rfl, ?_⟩) (by assumption) ?_
  rotate_left
  · intro w' hSw
    go_simp <;> with_reducible rfl
  try simp only [Act.put, List.setIfInBounds_toArray, List.set_cons_zero, List.set_cons_succ, List.getElem_toArray, List.getElem_cons_succ, List.getElem_cons_zero]
  refine wpAnyH_done (by kernel_rfl) ?_ _
  go_wp2_with fail
  go_ret
  exact ⟨rfl, hHeld.2.2.2.2.2⟩
#print axioms compareR_any
end Go.Proofs.YteojdfmdhgnmfaaGreat

/- Walks: is a numbered term a variable; the first ones that are unlike. -/
namespace Go.Proofs.YteojdfmdhgnmfaaGreat
open Go.RowKit
set_option linter.unusedSimpArgs false
set_option linter.unusedVariables false
set_option maxRecDepth 8000

set_option maxHeartbeats 1000000 in
theorem itemVar_any (S : List Tm) (t : Tm) (v : Value) (w : World) (X : Nat → Prop) (hv : IV w X S v t) :
    Calls Tryz.prog 63 #[v] w fun e w' => e = .returned (.bool (varB t.name)) ∧ Below w.heap.size w w' := by
  obtain ⟨_, a, c, rfl, hs⟩ := hv
  go_enter Tryz.func63, Tryz.ntmps63
  go_wp2_with (go_at_call 39; refine (isVariable_all _ _).mono ?_; rintro e w' ⟨rfl, rfl⟩)
  go_ret
  exact ⟨rfl, (Below.refl _ _).alloc (Nat.le_refl _) _⟩

/-- All alike so far. -/
theorem unl_from : ∀ {a b : List Tm} {k : Nat} (ha : k < a.length) (hb : k < b.length), (∀ j (h1 : j < k), a[j] = b[j]) → a[k] ≠ b[k] → unl a b = some (a[k], b[k])
  | t :: a, u :: b, 0, _, _, _, h => by
    have h' : t ≠ u := h
    rw [unl, if_neg fun e => h' (sameB_iff.1 e)]
    rfl
  | t :: a, u :: b, k + 1, ha, hb, hall, h => by
    have h0 : t = u := hall 0 (by omega)
    subst h0
    rw [unl, if_pos (sameB_iff.2 rfl), unl_from (k := k) (by simpa using ha) (by simpa using hb) (fun j hj => hall (j + 1) (by omega)) (by simpa using h)]
    rfl
theorem unl_all : ∀ {a b : List Tm}, a.length = b.length → (∀ j (h1 : j < a.length) (h2 : j < b.length), a[j] = b[j]) → unl a b = none
  | [], _, _, _ => by simp [unl]
  | t :: a, [], h, _ => by simp at h
  | t :: a, u :: b, h, hall => by
    have h0 : t = u := hall 0 (by simp) (by simp)
    subst h0
    rw [unl, if_pos (sameB_iff.2 rfl)]
    exact unl_all (by simpa using h) fun j h1 h2 => by
      have h3 := hall (j + 1) (by simpa using h1) (by simpa using h2)
      simp only [List.getElem_cons_succ] at h3
      exact h3
theorem cell_alloc {w : World} {b o : Nat} {v : Value} (h : w.cell? ⟨b, o, none⟩ = some v) (ob : Obj) : (w.alloc ob).cell? ⟨b, o, none⟩ = some v := by
  rw [← h]
  exact ((Below.refl w.heap.size w).alloc (Nat.le_refl _) ob).cell (p := ⟨b, o, none⟩) (cell_lt h)
theorem fu_end {S : List Tm} {X : Nat → Prop} {w w5 w' : World} (hB : Below w.heap.size w w5) (hq : ExQ (fun b => b = w.heap.size + 2 ∨ b = w.heap.size + 3) w5 w') : Below w.heap.size w w' ∧ ∀ v x, IV w5 (fun b => X b ∧ b < w.heap.size) S v x → IV w' X S v x := by
  refine ⟨hB.trans (hq.below hB.size fun b hb => by rcases hb with h | h <;> omega), fun v x hx => ?_⟩
  have hz := hB.size
  exact (hx.kept fun b hb => hq.block b (by have := hb.2; omega) (fun h => by have := hb.2; rcases h with h | h <;> omega)).mono fun b hb _ => hb.1
theorem fu_fin1 {S : List Tm} {X : Nat → Prop} {a b x y : Tm} {vx vy : Value} {e : Ending} {w w5 w' : World} (hB : Below w.heap.size w w5) (hq : ExQ (fun b => b = w.heap.size + 2 ∨ b = w.heap.size + 3) w5 w') (hu : unl a.args b.args = some (x, y)) (he : e = .returned (.tuple #[vx, vy, .bool true])) (hx : IV w5 (fun b => X b ∧ b < w.heap.size) S vx x) (hy : IV w5 (fun b => X b ∧ b < w.heap.size) S vy y) :
    Below w.heap.size w w' ∧ ((∃ x y vx vy, unl a.args b.args = some (x, y) ∧ e = .returned (.tuple #[vx, vy, .bool true]) ∧ IV w' X S vx x ∧ IV w' X S vy y) ∨
      (unl a.args b.args = none ∧ e = .returned (.tuple #[.agg #[.string ⟨#[]⟩, .slice none 0 0, .int .i64 0, .int .i64 0], .agg #[.string ⟨#[]⟩, .slice none 0 0, .int .i64 0, .int .i64 0], .bool false]))) :=
  have FE := fu_end (S := S) (X := X) hB hq
  ⟨FE.1, Or.inl ⟨x, y, vx, vy, hu, he, FE.2 _ _ hx, FE.2 _ _ hy⟩⟩
theorem fu_fin2 {S : List Tm} {X : Nat → Prop} {a b : Tm} {e : Ending} {w w5 w' : World} (hB : Below w.heap.size w w5) (hq : ExQ (fun b => b = w.heap.size + 2 ∨ b = w.heap.size + 3) w5 w') (hu : unl a.args b.args = none) (he : e = .returned (.tuple #[.agg #[.string ⟨#[]⟩, .slice none 0 0, .int .i64 0, .int .i64 0], .agg #[.string ⟨#[]⟩, .slice none 0 0, .int .i64 0, .int .i64 0], .bool false])) :
    Below w.heap.size w w' ∧ ((∃ x y vx vy, unl a.args b.args = some (x, y) ∧ e = .returned (.tuple #[vx, vy, .bool true]) ∧ IV w' X S vx x ∧ IV w' X S vy y) ∨
      (unl a.args b.args = none ∧ e = .returned (.tuple #[.agg #[.string ⟨#[]⟩, .slice none 0 0, .int .i64 0, .int .i64 0], .agg #[.string ⟨#[]⟩, .slice none 0 0, .int .i64 0, .int .i64 0], .bool false]))) :=
  have FE := fu_end (S := S) (X := X) hB hq
  ⟨FE.1, Or.inr ⟨hu, he⟩⟩
def FuInv (S : List Tm) (a b : Tm) (aa : Option Addr) (ca : Nat) (ab : Option Addr) (cb : Nat) (w : World) (i : Value) (wr : World) : Prop :=
  ∃ k : Nat, k ≤ a.args.length ∧ i = .int .i64 (k : Int) ∧ (∀ j (h1 : j < k) (h2 : j < a.args.length) (h3 : j < b.args.length), a.args[j] = b.args[j]) ∧ Blk wr w.heap.size #[.string a.name, .slice aa a.args.length ca, .int .i64 (numT a S), .int .i64 (sizeL [a])] 79 ∧
    Blk wr (w.heap.size + 1) #[.string b.name, .slice ab b.args.length cb, .int .i64 (numT b S), .int .i64 (sizeL [b])] 79 ∧ Blk wr (w.heap.size + 2) #[.string ⟨#[]⟩, .slice none 0 0, .int .i64 0, .int .i64 0] 79 ∧ Blk wr (w.heap.size + 3) #[.string ⟨#[]⟩, .slice none 0 0, .int .i64 0, .int .i64 0] 79 ∧ Below w.heap.size w wr
set_option maxHeartbeats 2000000 in
theorem firstUnlike_any (S : List Tm) (a b : Tm) (hl : a.args.length = b.args.length) (va vb : Value) (w : World) (X : Nat → Prop) (ha : IV w X S va a) (hb : IV w X S vb b) :
    Calls Tryz.prog 67 #[va, vb] w fun e w' => Below w.heap.size w w' ∧ ((∃ x y vx vy, unl a.args b.args = some (x, y) ∧ e = .returned (.tuple #[vx, vy, .bool true]) ∧ IV w' X S vx x ∧ IV w' X S vy y) ∨
      (unl a.args b.args = none ∧ e = .returned (.tuple #[.agg #[.string ⟨#[]⟩, .slice none 0 0, .int .i64 0, .int .i64 0], .agg #[.string ⟨#[]⟩, .slice none 0 0, .int .i64 0, .int .i64 0], .bool false]))) := by
  obtain ⟨_, aa, ca, rfl, hsa⟩ := ha
  obtain ⟨_, ab, cb, rfl, hsb⟩ := hb
  have HSA := hide (hsa.mono (Y := fun b => X b ∧ b < w.heap.size) fun b h1 h2 => ⟨h1, h2⟩)
  have HSB := hide (hsb.mono (Y := fun b => X b ∧ b < w.heap.size) fun b h1 h2 => ⟨h1, h2⟩)
  have hla := hsa.1
  have hlb := hsb.1
  have HL := hide hl
  clear hsa hsb hl
  go_enter Tryz.func67, Tryz.ntmps67
  go_wp2_with fail
  have I0 : Hid (FuInv S a b aa ca ab cb w (.int .i64 0) ((((w.alloc (.cells #[.string a.name, .slice aa a.args.length ca, .int .i64 (numT a S), .int .i64 (sizeL [a])] 79)).alloc (.cells #[.string b.name, .slice ab b.args.length cb, .int .i64 (numT b S), .int .i64 (sizeL [b])] 79)).alloc (.cells #[.string ⟨#[]⟩, .slice none 0 0, .int .i64 0, .int .i64 0] 79)).alloc (.cells #[.string ⟨#[]⟩, .slice none 0 0, .int .i64 0, .int .i64 0] 79))) := by
    have k1 := Blk.new w #[.string a.name, .slice aa a.args.length ca, .int .i64 (numT a S), .int .i64 (sizeL [a])] 79
    have b1 := (Below.refl w.heap.size w).alloc (Nat.le_refl _) (.cells #[.string a.name, .slice aa a.args.length ca, .int .i64 (numT a S), .int .i64 (sizeL [a])] 79)
    have e1 : (w.alloc (.cells #[.string a.name, .slice aa a.args.length ca, .int .i64 (numT a S), .int .i64 (sizeL [a])] 79)).heap.size = w.heap.size + 1 := by simp
    generalize w.alloc (.cells #[.string a.name, .slice aa a.args.length ca, .int .i64 (numT a S), .int .i64 (sizeL [a])] 79) = w1 at *
    have k2 := Blk.new w1 #[.string b.name, .slice ab b.args.length cb, .int .i64 (numT b S), .int .i64 (sizeL [b])] 79
    have b2 := b1.alloc b1.size (.cells #[.string b.name, .slice ab b.args.length cb, .int .i64 (numT b S), .int .i64 (sizeL [b])] 79)
    have k1' := k1.alloc (.cells #[.string b.name, .slice ab b.args.length cb, .int .i64 (numT b S), .int .i64 (sizeL [b])] 79)
    have e2 : (w1.alloc (.cells #[.string b.name, .slice ab b.args.length cb, .int .i64 (numT b S), .int .i64 (sizeL [b])] 79)).heap.size = w.heap.size + 2 := by simp [e1]
    generalize w1.alloc (.cells #[.string b.name, .slice ab b.args.length cb, .int .i64 (numT b S), .int .i64 (sizeL [b])] 79) = w2 at *
    have k3 := Blk.new w2 #[.string ⟨#[]⟩, .slice none 0 0, .int .i64 0, .int .i64 0] 79
    have b3 := b2.alloc b2.size (.cells #[.string ⟨#[]⟩, .slice none 0 0, .int .i64 0, .int .i64 0] 79)
    have k2' := k2.alloc (.cells #[.string ⟨#[]⟩, .slice none 0 0, .int .i64 0, .int .i64 0] 79)
    have k1'' := k1'.alloc (.cells #[.string ⟨#[]⟩, .slice none 0 0, .int .i64 0, .int .i64 0] 79)
    have e3 : (w2.alloc (.cells #[.string ⟨#[]⟩, .slice none 0 0, .int .i64 0, .int .i64 0] 79)).heap.size = w.heap.size + 3 := by simp [e2]
    generalize w2.alloc (.cells #[.string ⟨#[]⟩, .slice none 0 0, .int .i64 0, .int .i64 0] 79) = w3 at *
    have k4 := Blk.new w3 #[.string ⟨#[]⟩, .slice none 0 0, .int .i64 0, .int .i64 0] 79
    rw [e1] at k2'
    rw [e2] at k3
    rw [e3] at k4
    exact ⟨0, Nat.zero_le _, rfl, fun j h => by omega, k1''.alloc _, k2'.alloc _, k3.alloc _, k4, b3.alloc b3.size _⟩
  generalize (((w.alloc (.cells #[.string a.name, .slice aa a.args.length ca, .int .i64 (numT a S), .int .i64 (sizeL [a])] 79)).alloc (.cells #[.string b.name, .slice ab b.args.length cb, .int .i64 (numT b S), .int .i64 (sizeL [b])] 79)).alloc (.cells #[.string ⟨#[]⟩, .slice none 0 0, .int .i64 0, .int .i64 0] 79)).alloc (.cells #[.string ⟨#[]⟩, .slice none 0 0, .int .i64 0, .int .i64 0] 79) = w4 at *
  go_loopw [13] (fun i wr => FuInv S a b aa ca ab cb w i wr) (fun i wr => a.args.length - (intOf i).toNat)
  case atStart => exact I0.out
  case round =>
    clear I0
    obtain ⟨k, hk, rfl, hall, h1, h2, h3, h4, hB⟩ := hrel
    have HH1 := hide h1
    have HH2 := hide h2
    have HH3 := hide h3
    have HH4 := hide h4
    have HBB := hide hB
    have HALL := hide hall
    have z1 : wr.heap.size ≥ w.heap.size + 4 := by have := h4.lt; omega
    by_cases hlt : k < a.args.length
    · have hlt2 : k < b.args.length := by have := HL.out; omega
      have hlti : (k : Int) < (a.args.length : Int) := by omega
      have hltj : (k : Int) < (b.args.length : Int) := by omega
      obtain ⟨b1, o1, a1, c1, rfl, d10, d11, d12, d13, hx⟩ := HSA.out.get hB (fun _ _ h => h) k hlt
      obtain ⟨b2, o2, a2, c2, rfl, d20, d21, d22, d23, hy⟩ := HSB.out.get hB (fun _ _ h => h) k hlt2
      have q : ∀ o, (wr.alloc o).cell? ⟨w.heap.size + 1, 1, none⟩ = some (.slice (some ⟨b2, o2, none⟩) b.args.length cb) := fun o => (h2.alloc o).cell 1
      have f20 := fun o => cell_alloc d20 o
      have f21 := fun o => cell_alloc d21 o
      have f22 := fun o => cell_alloc d22 o
      have f23 := fun o => cell_alloc d23 o
      have HX := hide hx
      have HY := hide hy
      clear h1 h2 h3 h4 hB hall hx hy d20 d21 d22 d23
      by_cases he : a.args[k] = b.args[k]
      · have hne : ((numT a.args[k] S : Int) != (numT b.args[k] S : Int)) = false := by rw [he]; simp
        have HE := hide he
        clear he
        go_wp2_with fail
        go_roundw
        case rel =>
          refine ⟨k + 1, by omega, by go_num, fun j h1 h2 h3 => ?_, (HH1.out.alloc _).alloc _, (HH2.out.alloc _).alloc _, (HH3.out.alloc _).alloc _, (HH4.out.alloc _).alloc _, (HBB.out.alloc HBB.out.size _).alloc (by have := HBB.out.size; simp; omega) _⟩
          by_cases hj : j = k
          · subst hj; exact HE.out
          · exact HALL.out j (by omega) h2 h3
        case measure => simp [intOf]; omega
      · have hne : ((numT a.args[k] S : Int) != (numT b.args[k] S : Int)) = true := by
          rw [bne_iff_ne]
          intro e
          exact he (numT_inj HX.out.1 HY.out.1 (by omega))
        have HU := hide (unl_from hlt hlt2 (fun j hj => HALL.out j hj (by omega) (by omega)) he)
        clear he
        go_wp2_with fail
        generalize hxx : a.args[k] = x at *
        generalize hyy : b.args[k] = y at *
        have w0 := (Blk.new wr #[.string x.name, .slice a1 x.args.length c1, .int .i64 (numT x S), .int .i64 (sizeL [x])] 79).alloc (.cells #[.string y.name, .slice a2 y.args.length c2, .int .i64 (numT y S), .int .i64 (sizeL [y])] 79)
        have w9 := Blk.new (wr.alloc (.cells #[.string x.name, .slice a1 x.args.length c1, .int .i64 (numT x S), .int .i64 (sizeL [x])] 79)) #[.string y.name, .slice a2 y.args.length c2, .int .i64 (numT y S), .int .i64 (sizeL [y])] 79
        have e9 : (wr.alloc (.cells #[.string x.name, .slice a1 x.args.length c1, .int .i64 (numT x S), .int .i64 (sizeL [x])] 79)).heap.size = wr.heap.size + 1 := by simp
        rw [e9] at w9
        have wr3 := (HH3.out.alloc (.cells #[.string x.name, .slice a1 x.args.length c1, .int .i64 (numT x S), .int .i64 (sizeL [x])] 79)).alloc (.cells #[.string y.name, .slice a2 y.args.length c2, .int .i64 (numT y S), .int .i64 (sizeL [y])] 79)
        have wr4 := (HH4.out.alloc (.cells #[.string x.name, .slice a1 x.args.length c1, .int .i64 (numT x S), .int .i64 (sizeL [x])] 79)).alloc (.cells #[.string y.name, .slice a2 y.args.length c2, .int .i64 (numT y S), .int .i64 (sizeL [y])] 79)
        have BL := hide ((HBB.out.alloc HBB.out.size (.cells #[.string x.name, .slice a1 x.args.length c1, .int .i64 (numT x S), .int .i64 (sizeL [x])] 79)).alloc (by have := HBB.out.size; simp; omega) (.cells #[.string y.name, .slice a2 y.args.length c2, .int .i64 (numT y S), .int .i64 (sizeL [y])] 79))
        have HX2 := hide ((HX.out.alloc (.cells #[.string x.name, .slice a1 x.args.length c1, .int .i64 (numT x S), .int .i64 (sizeL [x])] 79)).alloc (.cells #[.string y.name, .slice a2 y.args.length c2, .int .i64 (numT y S), .int .i64 (sizeL [y])] 79))
        have HY2 := hide ((HY.out.alloc (.cells #[.string x.name, .slice a1 x.args.length c1, .int .i64 (numT x S), .int .i64 (sizeL [x])] 79)).alloc (.cells #[.string y.name, .slice a2 y.args.length c2, .int .i64 (numT y S), .int .i64 (sizeL [y])] 79))
        generalize ((wr.alloc (.cells #[.string x.name, .slice a1 x.args.length c1, .int .i64 (numT x S), .int .i64 (sizeL [x])] 79)).alloc (.cells #[.string y.name, .slice a2 y.args.length c2, .int .i64 (numT y S), .int .i64 (sizeL [y])] 79)) = w5 at *
        have p0 := w0.cell 0
        have p1 := w0.cell 1
        have p2 := w0.cell 2
        have p3 := w0.cell 3
        have q0 := w9.cell 0
        have q1 := w9.cell 1
        have q2 := w9.cell 2
        have q3 := w9.cell 3
        have r0 := wr3.cell 0
        have r1 := wr3.cell 1
        have r2 := wr3.cell 2
        have r3 := wr3.cell 3
        have rf := wr3.frozen
        have s0 := wr4.cell 0
        have s1 := wr4.cell 1
        have s2 := wr4.cell 2
        have s3 := wr4.cell 3
        have sf := wr4.frozen
        simp only [List.getElem?_toArray, List.getElem?_cons_zero, List.getElem?_cons_succ] at p0 p1 p2 p3 q0 q1 q2 q3 r0 r1 r2 r3 s0 s1 s2 s3
        clear w0 w9 wr3 wr4 f20 f21 f22 f23 q
        go_region
        all_goals
          go_wp2_with fail
          refine bodyPost_ret (v := .tuple #[.agg #[.string x.name, .slice a1 x.args.length c1, .int .i64 (numT x S), .int .i64 (sizeL [x])], .agg #[.string y.name, .slice a2 y.args.length c2, .int .i64 (numT y S), .int .i64 (sizeL [y])], .bool true]) (by simp [results, Tryz.results67, go_sem, World.cell?_setCell_same, World.cell?_setCell_other, r0, r1, r2, r3, s0, s1, s2, s3]) rfl ?_
          refine fu_fin1 BL.out ?_ HU.out rfl HX2.out HY2.out
          refine ExQ.drew ?_
          iterate 8 refine ExQ.set ?_ (by simp) _ _
          exact ExQ.refl _ _
    · have HN : Hid (unl a.args b.args = none) := unl_all HL.out fun j h1 h2 => HALL.out j (by omega) h1 h2
      have r0 := h3.cell 0
      have r1 := h3.cell 1
      have r2 := h3.cell 2
      have r3 := h3.cell 3
      have rf := h3.frozen
      have s0 := h4.cell 0
      have s1 := h4.cell 1
      have s2 := h4.cell 2
      have s3 := h4.cell 3
      have sf := h4.frozen
      simp only [List.getElem?_toArray, List.getElem?_cons_zero, List.getElem?_cons_succ] at r0 r1 r2 r3 s0 s1 s2 s3
      clear h1 h2 h3 h4 hB hall
      go_wp2_with fail
      refine bodyPost_ret (v := .tuple #[.agg #[.string ⟨#[]⟩, .slice none 0 0, .int .i64 0, .int .i64 0], .agg #[.string ⟨#[]⟩, .slice none 0 0, .int .i64 0, .int .i64 0], .bool false]) (by simp [results, Tryz.results67, go_sem, World.cell?_setCell_same, World.cell?_setCell_other, r0, r1, r2, r3, s0, s1, s2, s3]) rfl ?_
      refine fu_fin2 HBB.out ?_ HN.out rfl
      iterate 8 refine ExQ.set ?_ (by simp) _ _
      exact ExQ.refl _ _
#print axioms firstUnlike_any
end Go.Proofs.YteojdfmdhgnmfaaGreat

/- Maps by two numbers, as they lie in memory: what holds of all that stand in them. -/
namespace Go.Proofs.YteojdfmdhgnmfaaGreat
open Go.RowKit
open Go.WideMaps
set_option linter.unusedSimpArgs false
set_option linter.unusedVariables false

def pairV (p : Nat × Nat) : Value := .agg #[.int .i64 p.1, .int .i64 p.2]
def PrOk (p : Nat × Nat) : Prop := p.1 < 9000000000000000000 ∧ p.2 < 9000000000000000000
/-- All that stand in the map at r are right. -/
def MapP (w : World) (r : Nat) (Q : Nat × Nat → Bool → Prop) : Prop :=
  ∃ es clk, w.heap[r]? = some (.map es clk) ∧ ∀ e ∈ es.toList, ∃ p v, e.key = pairV p ∧ PrOk p ∧ e.val = .agg #[.bool v] ∧ Q p v

theorem MapP.new (w : World) (Q : Nat × Nat → Bool → Prop) : MapP (w.alloc (.map #[] 0)) w.heap.size Q := ⟨#[], 0, heap_alloc_new w _, by simp⟩
theorem MapP.lt {w : World} {r : Nat} {Q : Nat × Nat → Bool → Prop} (h : MapP w r Q) : r < w.heap.size := by
  obtain ⟨es, clk, h, _⟩ := h
  exact (Array.getElem?_eq_some_iff.1 h).1
theorem MapP.kept {w w' : World} {r : Nat} {Q : Nat × Nat → Bool → Prop} (h : MapP w r Q) (hk : w'.heap[r]? = w.heap[r]?) : MapP w' r Q := by
  obtain ⟨es, clk, h1, h2⟩ := h
  exact ⟨es, clk, hk.trans h1, h2⟩
theorem MapP.below {w w' : World} {r B : Nat} {Q : Nat × Nat → Bool → Prop} (h : MapP w r Q) (hb : Below B w w') (hB : r < B) : MapP w' r Q := h.kept (hb.block r hB)

theorem pair_key {P : Program} {k e : TypeId} (A : ArrKey P k e 2) (he : P.underlying e = some (.int .i64)) (hsz : ∃ m, P.types.size = m + 1) {p : Nat × Nat} (h : PrOk p) : ∃ l, keyOf P k (pairV p) = some l := by
  obtain ⟨h1, h2⟩ := h
  exact ⟨_, keyOf_pair A he hsz (by simp [Lit.wf, IntKind.min, IntKind.max, IntKind.signed, IntKind.bits]; omega) (by simp [Lit.wf, IntKind.min, IntKind.max, IntKind.signed, IntKind.bits]; omega)⟩

theorem pairV_inj {p q : Nat × Nat} (h : pairV p = pairV q) : p = q := by
  obtain ⟨a, b⟩ := p
  obtain ⟨c, d⟩ := q
  simp [pairV] at h
  obtain ⟨h1, h2⟩ := h
  have e1 : a = c := by omega
  have e2 : b = d := by omega
  rw [e1, e2]

theorem run_lookP {P : Program} {w : World} {T k e el : TypeId} {r : Nat} {Q : Nat × Nat → Bool → Prop} (A : ArrKey P k e 2) (he : P.underlying e = some (.int .i64)) (hsz : ∃ m, P.types.size = m + 1) (hm : P.underlying T = some (.map k el)) (hz : (zeroValue el).run P w = .ok (.agg #[.bool false]) w) (h : MapP w r Q) {p : Nat × Nat} (hp : PrOk p) :
    (∃ v, Q p v ∧ (Instr.lookup T (.map (some r)) (pairV p) true).run P w = .ok (.tuple #[.agg #[.bool v], .bool true]) w) ∨ (Instr.lookup T (.map (some r)) (pairV p) true).run P w = .ok (.tuple #[.agg #[.bool false], .bool false]) w := by
  obtain ⟨es, clk, hb, hes⟩ := h
  obtain ⟨l, hl⟩ := pair_key A he hsz hp
  have hc := fun b => A.law.check w b hl
  have hall : ∀ x ∈ es.toList, ∃ l, keyOf P k x.key = some l := fun x hx => by
    obtain ⟨q, v, hk, hq, _⟩ := hes x hx
    rw [hk]; exact pair_key A he hsz hq
  rcases A.law.find w hl es.toList hall with ⟨hf, _⟩ | ⟨j, x, hf, hj, hx⟩
  · refine Or.inr ?_
    simp [Instr.lookup, run_underlying hm, MapKept.run_getObj_map hb, hc, hf, Result.andThen, hz]
  · have hmem : x ∈ es.toList := List.mem_of_getElem? hj
    obtain ⟨q, v, hk, hq, hv, hQ⟩ := hes x hmem
    have e1 : q = p := pairV_inj (hk.symm.trans hx)
    subst e1
    refine Or.inl ⟨v, hQ, ?_⟩
    simp [Instr.lookup, run_underlying hm, MapKept.run_getObj_map hb, hc, hf, Result.andThen, hv]

theorem run_putP {P : Program} {w : World} {T k e el : TypeId} {r : Nat} {Q : Nat × Nat → Bool → Prop} (A : ArrKey P k e 2) (he : P.underlying e = some (.int .i64)) (hsz : ∃ m, P.types.size = m + 1) (hm : P.underlying T = some (.map k el)) (h : MapP w r Q) {p : Nat × Nat} (hp : PrOk p) {v : Bool} (hQ : Q p v) :
    ∃ w', (Instr.mapUpdate T (.map (some r)) (pairV p) (.agg #[.bool v])).run P w = .ok () w' ∧ MapP w' r Q ∧ w'.heap.size = w.heap.size ∧ w'.os = w.os ∧ w'.tape = w.tape ∧ w'.output = w.output ∧ (∀ b, b ≠ r → w'.heap[b]? = w.heap[b]?) := by
  obtain ⟨es, clk, hb, hes⟩ := h
  obtain ⟨l, hl⟩ := pair_key A he hsz hp
  have hc := fun b => A.law.check w b hl
  have hall : ∀ x ∈ es.toList, ∃ l, keyOf P k x.key = some l := fun x hx => by
    obtain ⟨q, v, hk, hq, _⟩ := hes x hx
    rw [hk]; exact pair_key A he hsz hq
  rcases A.law.find w hl es.toList hall with ⟨hf, _⟩ | ⟨j, x, hf, hj, hx⟩
  · refine ⟨{ w with heap := w.heap.setIfInBounds r (.map (es.push { key := pairV p, val := .agg #[.bool v], born := clk }) (clk + 1)) }, ?_, ⟨_, _, (MapKept.heap_set hb).1, fun y hy => ?_⟩, by simp, rfl, rfl, rfl, fun b hne => (MapKept.heap_set hb).2 b hne⟩
    · simp [Instr.mapUpdate, run_underlying hm, MapKept.run_getObj_map hb, hc, hf, MapKept.run_setObj_map _ hb, Result.andThen]
    · rw [Array.toList_push, List.mem_append] at hy
      rcases hy with hy | hy
      · exact hes y hy
      · have e2 : y = { key := pairV p, val := .agg #[.bool v], born := clk } := by simpa using hy
        subst e2
        exact ⟨p, v, rfl, hp, rfl, hQ⟩
  · have hj' : es[j]? = some x := by simpa using hj
    have hst := A.law.stays w hl
    refine ⟨{ w with heap := w.heap.setIfInBounds r (.map (es.modify j fun e => { e with key := pairV p, val := .agg #[.bool v] }) clk) }, ?_, ⟨_, _, (MapKept.heap_set hb).1, fun y hy => ?_⟩, by simp, rfl, rfl, rfl, fun b hne => (MapKept.heap_set hb).2 b hne⟩
    · simp [Instr.mapUpdate, run_underlying hm, MapKept.run_getObj_map hb, hc, hf, hj', hx, hst, MapKept.run_setObj_map _ hb, Result.andThen]
    · rw [Array.toList_modify] at hy
      obtain ⟨i, hi⟩ := List.getElem?_of_mem hy
      by_cases hij : j = i
      · subst hij
        simp [List.getElem?_modify, hj'] at hi
        subst hi
        exact ⟨p, v, rfl, hp, rfl, hQ⟩
      · simp [List.getElem?_modify, hij] at hi
        exact hes y (by simpa using Array.mem_of_getElem? hi)
#print axioms run_lookP
#print axioms run_putP
end Go.Proofs.YteojdfmdhgnmfaaGreat

/- Walks: which term is above another one by paths. -/
namespace Go.Proofs.YteojdfmdhgnmfaaGreat
open Go.RowKit
open Go.WideMaps
set_option linter.unusedSimpArgs false
set_option linter.unusedVariables false
set_option maxRecDepth 8000

/-- What stands in the map of answers is right. -/
def AskQ (row : List ByteArray) (S : List Tm) (p : Nat × Nat) (v : Bool) : Prop := ∃ x y, x ∈ S ∧ y ∈ S ∧ p = (numT x S, numT y S) ∧ v = pathB row x y
theorem AskQ.val {row : List ByteArray} {S : List Tm} {a b : Tm} {v : Bool} (h : AskQ row S (numT a S, numT b S) v) (ha : a ∈ S) (hb : b ∈ S) : v = pathB row a b := by
  obtain ⟨x, y, hx, hy, e, hv⟩ := h
  simp only [Prod.mk.injEq] at e
  rw [hv, numT_inj ha hx e.1, numT_inj hb hy e.2]
/-- The two maps. -/
structure PS (row : List ByteArray) (S : List Tm) (rk m : Nat) (w : World) : Prop where
  ranks : MapAt w rk (rkL 0 row)
  asked : MapP w m (AskQ row S)
  ne : rk ≠ m
theorem PS.later {row : List ByteArray} {S : List Tm} {rk m : Nat} {w w' : World} (h : PS row S rk m w) (hb : Below w.heap.size w w') : PS row S rk m w' := ⟨h.ranks.below hb h.ranks.lt, h.asked.below hb h.asked.lt, h.ne⟩
theorem PS.ex {row : List ByteArray} {S : List Tm} {rk m : Nat} {w w' : World} (h : PS row S rk m w) (he : Ex m w w') (ha : MapP w' m (AskQ row S)) : PS row S rk m w' := ⟨h.ranks.kept (he.block rk h.ranks.lt h.ne), ha, h.ne⟩
theorem PS.alloc {row : List ByteArray} {S : List Tm} {rk m : Nat} {w : World} (h : PS row S rk m w) (o : Obj) : PS row S rk m (w.alloc o) := h.later ((Below.refl _ _).alloc (Nat.le_refl _) o)
theorem IV.ex {w w' : World} {X : Nat → Prop} {S : List Tm} {v : Value} {t : Tm} {B : Nat} (h : IV w X S v t) (he : Ex B w w') (hX : ∀ b, X b → b ≠ B) : IV w' X S v t :=
  ((h.mono (Y := fun b => X b ∧ b < w.heap.size) fun b h1 h2 => ⟨h1, h2⟩).kept fun b hb => he.block b hb.2 (hX b hb.1)).mono fun b hb _ => hb.1
theorem ISl.ex {w w' : World} {X : Nat → Prop} {S : List Tm} {a : Option Addr} {l : List Tm} {B : Nat} (h : ISl w X S a l) (he : Ex B w w') (hX : ∀ b, X b → b ≠ B) : ISl w' X S a l :=
  ((h.mono (Y := fun b => X b ∧ b < w.heap.size) fun b h1 h2 => ⟨h1, h2⟩).kept fun b hb => he.block b hb.2 (hX b hb.1)).mono fun b hb _ => hb.1
theorem Ex.ofBel {B : Nat} {w w' : World} (h : Below w.heap.size w w') : Ex B w w' := ⟨h.os, h.tape, h.output, h.size, fun k hk _ => h.block k hk⟩
theorem pairKey : ArrKey Tryz.prog 93 3 2 := ⟨Tryz.underlying93, by kernel_rfl, by kernel_rfl, by kernel_rfl⟩
theorem typesPos : ∃ m, Tryz.prog.types.size = m + 1 := ⟨_, rfl⟩

/-- Terms with at most so many knots together are told apart. -/
def AboveOK (row : List ByteArray) (S : List Tm) (rk m N : Nat) : Prop := ∀ (a b : Tm) (va vb : Value) (w : World) (X : Nat → Prop), sizeL [a] + sizeL [b] ≤ N → (∀ b, X b → b ≠ m) → PS row S rk m w → IV w X S va a → IV w X S vb b →
    Calls Tryz.prog 35 #[.agg #[.map (some rk), .map (some m)], va, vb] w fun e w' => e = .returned (.bool (pathB row a b)) ∧ MapP w' m (AskQ row S) ∧ Ex m w w'

def LoInv (row : List ByteArray) (S : List Tm) (rk m : Nat) (a b : Tm) (aa : Option Addr) (ca : Nat) (ab : Option Addr) (cb : Nat) (w : World) (i : Value) (wr : World) : Prop :=
  ∃ k : Nat, k ≤ a.args.length ∧ i = .int .i64 (k : Int) ∧ ((a.args.take k).any fun x => sameB x b || pathB row x b) = false ∧ Blk wr w.heap.size #[.map (some rk), .map (some m)] 76 ∧
    Blk wr (w.heap.size + 1) #[.string a.name, .slice aa a.args.length ca, .int .i64 (numT a S), .int .i64 (sizeL [a])] 79 ∧ Blk wr (w.heap.size + 2) #[.string b.name, .slice ab b.args.length cb, .int .i64 (numT b S), .int .i64 (sizeL [b])] 79 ∧ MapP wr m (AskQ row S) ∧ Ex m w wr
theorem any_take {α : Type} {f : α → Bool} {l : List α} {k : Nat} (h : k < l.length) (h0 : (l.take k).any f = false) : (f l[k] = true → l.any f = true) ∧ (f l[k] = false → (l.take (k + 1)).any f = false) := by
  refine ⟨fun h1 => List.any_eq_true.2 ⟨l[k], List.getElem_mem h, h1⟩, fun h1 => ?_⟩
  rw [List.take_succ_eq_append_getElem h, List.any_append, h0]
  simp [h1]
theorem all_take {α : Type} {f : α → Bool} {l : List α} {k : Nat} (h : k < l.length) (h0 : (l.take k).all f = true) : (f l[k] = false → l.all f = false) ∧ (f l[k] = true → (l.take (k + 1)).all f = true) := by
  refine ⟨fun h1 => ?_, fun h1 => ?_⟩
  · rw [List.all_eq_false]
    exact ⟨l[k], List.getElem_mem h, by rw [h1]; simp⟩
  · rw [List.take_succ_eq_append_getElem h, List.all_append, h0]
    simp [h1]
theorem num_eq {S : List Tm} {x b : Tm} (hx : x ∈ S) (hb : b ∈ S) : ((numT x S : Int) == (numT b S : Int)) = sameB x b := by
  by_cases h : x = b
  · subst h
    rw [sameB_iff.2 rfl]
    simp
  · have h1 : sameB x b = false := by
      cases hs : sameB x b with
      | false => rfl
      | true => exact absurd (sameB_iff.1 hs) h
    rw [h1, beq_eq_false_iff_ne]
    exact fun e => h (numT_inj hx hb (by omega))

set_option maxHeartbeats 2000000 in
theorem below_any {row : List ByteArray} {S : List Tm} {rk m N : Nat} (IH : Hid (AboveOK row S rk m N)) (a b : Tm) (va vb : Value) (w : World) (X : Nat → Prop) (hN : sizeL [a] + sizeL [b] ≤ N + 1) (hX : ∀ b, X b → b ≠ m) (hP : PS row S rk m w) (ha : IV w X S va a) (hb : IV w X S vb b) :
    Calls Tryz.prog 64 #[.agg #[.map (some rk), .map (some m)], va, vb] w fun e w' => e = .returned (.bool (a.args.any fun x => sameB x b || pathB row x b)) ∧ MapP w' m (AskQ row S) ∧ Ex m w w' := by
  have HB := hide hb
  obtain ⟨_, aa, ca, rfl, hsa⟩ := ha
  obtain ⟨hbS, ab, cb, rfl, hsb⟩ := hb
  have HSA := hide hsa
  have hla := hsa.1
  have HP := hide hP
  have hml := hP.asked.lt
  clear hsa hsb hP
  go_enter Tryz.func64, Tryz.ntmps64
  go_wp2_with fail
  have I0 : Hid (LoInv row S rk m a b aa ca ab cb w (.int .i64 0) (((w.alloc (.cells #[.map (some rk), .map (some m)] 76)).alloc (.cells #[.string a.name, .slice aa a.args.length ca, .int .i64 (numT a S), .int .i64 (sizeL [a])] 79)).alloc (.cells #[.string b.name, .slice ab b.args.length cb, .int .i64 (numT b S), .int .i64 (sizeL [b])] 79))) := by
    have k1 := Blk.new w #[.map (some rk), .map (some m)] 76
    have e1 : (w.alloc (.cells #[.map (some rk), .map (some m)] 76)).heap.size = w.heap.size + 1 := by simp
    have x1 : Ex m w (w.alloc (.cells #[.map (some rk), .map (some m)] 76)) := (Ex.refl m w).alloc _
    have p1 := HP.out.alloc (.cells #[.map (some rk), .map (some m)] 76)
    generalize (w.alloc (.cells #[.map (some rk), .map (some m)] 76)) = w1 at *
    have k2 := Blk.new w1 #[.string a.name, .slice aa a.args.length ca, .int .i64 (numT a S), .int .i64 (sizeL [a])] 79
    have e2 : (w1.alloc (.cells #[.string a.name, .slice aa a.args.length ca, .int .i64 (numT a S), .int .i64 (sizeL [a])] 79)).heap.size = w.heap.size + 2 := by simp [e1]
    have x2 : Ex m w (w1.alloc (.cells #[.string a.name, .slice aa a.args.length ca, .int .i64 (numT a S), .int .i64 (sizeL [a])] 79)) := x1.alloc _
    have p2 := p1.alloc (.cells #[.string a.name, .slice aa a.args.length ca, .int .i64 (numT a S), .int .i64 (sizeL [a])] 79)
    have k1' := k1.alloc (.cells #[.string a.name, .slice aa a.args.length ca, .int .i64 (numT a S), .int .i64 (sizeL [a])] 79)
    generalize w1.alloc (.cells #[.string a.name, .slice aa a.args.length ca, .int .i64 (numT a S), .int .i64 (sizeL [a])] 79) = w2 at *
    have k3 := Blk.new w2 #[.string b.name, .slice ab b.args.length cb, .int .i64 (numT b S), .int .i64 (sizeL [b])] 79
    rw [e1] at k2
    rw [e2] at k3
    exact ⟨0, Nat.zero_le _, rfl, by simp, k1'.alloc _, k2.alloc _, k3, (p2.alloc _).asked, x2.alloc _⟩
  generalize (((w.alloc (.cells #[.map (some rk), .map (some m)] 76)).alloc (.cells #[.string a.name, .slice aa a.args.length ca, .int .i64 (numT a S), .int .i64 (sizeL [a])] 79)).alloc (.cells #[.string b.name, .slice ab b.args.length cb, .int .i64 (numT b S), .int .i64 (sizeL [b])] 79)) = w3 at *
  go_loopw [12] (fun i wr => LoInv row S rk m a b aa ca ab cb w i wr) (fun i wr => a.args.length - (intOf i).toNat)
  case atStart => exact I0.out
  case round =>
    clear I0
    obtain ⟨k, hk, rfl, hany, h1, h2, h3, hM, hE⟩ := hrel
    have HH1 := hide h1
    have HH2 := hide h2
    have HH3 := hide h3
    have HM := hide hM
    have HE := hide hE
    have HANY := hide hany
    have z1 : w.heap.size + 3 ≤ wr.heap.size := by have := h3.lt; omega
    by_cases hlt : k < a.args.length
    · have hlti : (k : Int) < (a.args.length : Int) := by omega
      obtain ⟨b1, o1, a1, c1, rfl, d10, d11, d12, d13, hx⟩ := (HSA.out.ex hE hX).get (Below.refl _ _) (fun _ _ h => h) k hlt
      have HX := hide hx
      have q0 : ∀ o, (wr.alloc o).cell? ⟨w.heap.size, 0, none⟩ = some (.map (some rk)) := fun o => (h1.alloc o).cell 0
      have q1 : ∀ o, (wr.alloc o).cell? ⟨w.heap.size, 1, none⟩ = some (.map (some m)) := fun o => (h1.alloc o).cell 1
      have r0 : ∀ o, (wr.alloc o).cell? ⟨w.heap.size + 2, 0, none⟩ = some (.string b.name) := fun o => (h3.alloc o).cell 0
      have r1 : ∀ o, (wr.alloc o).cell? ⟨w.heap.size + 2, 1, none⟩ = some (.slice ab b.args.length cb) := fun o => (h3.alloc o).cell 1
      have r2 : ∀ o, (wr.alloc o).cell? ⟨w.heap.size + 2, 2, none⟩ = some (.int .i64 (numT b S)) := fun o => (h3.alloc o).cell 2
      have r3 : ∀ o, (wr.alloc o).cell? ⟨w.heap.size + 2, 3, none⟩ = some (.int .i64 (sizeL [b])) := fun o => (h3.alloc o).cell 3
      have hsx := size_arg (List.getElem_mem hlt)
      have heq := num_eq hx.1 hbS
      clear hx h1 h2 h3 hM hE hany
      cases hs : sameB a.args[k] b with
      | true =>
        rw [hs] at heq
        have HR := hide ((any_take hlt HANY.out).1 (by simp [hs]))
        clear hs
        go_wp2_with fail
        go_ret
        exact ⟨by rw [HR.out]; rfl, HM.out.kept (Below.heap_alloc _ _ _ HM.out.lt), HE.out.alloc _⟩
      | false =>
        rw [hs] at heq
        have HSM := hide hs
        clear hs
        go_wp2_with fail
        have PW : PS row S rk m wr := HP.out.ex HE.out HM.out
        refine (IH.out a.args[k] b _ _ _ X (by omega) hX (PW.alloc _) (by exact HX.out.alloc _) (by exact (HB.out.ex HE.out hX).alloc _)).mono ?_
        rintro e w5 ⟨rfl, hM5, hE5⟩
        have HM5 := hide hM5
        have HE5 := hide (HE.out.trans (((Ex.refl m wr).alloc _).trans hE5))
        have hml2 := HM.out.lt
        have K1 := hide ((HH1.out.alloc _).ex hE5 (by omega))
        have K2 := hide ((HH2.out.alloc _).ex hE5 (by omega))
        have K3 := hide ((HH3.out.alloc _).ex hE5 (by omega))
        clear hM5 hE5 PW
        cases hp : pathB row a.args[k] b with
        | true =>
          have HR := hide ((any_take hlt HANY.out).1 (by simp [hp]))
          clear hp
          go_wp2_with fail
          go_ret
          exact ⟨by rw [HR.out]; rfl, HM5.out, HE5.out⟩
        | false =>
          have HR := hide ((any_take hlt HANY.out).2 (by simp [hp, HSM.out]))
          clear hp
          go_wp2_with fail
          go_roundw
          case rel => exact ⟨k + 1, by omega, by go_num, HR.out, K1.out, K2.out, K3.out, HM5.out, HE5.out⟩
          case measure => simp [intOf]; omega
    · have htk : a.args.take k = a.args := List.take_of_length_le (by omega)
      rw [htk] at hany
      have HR := hide hany
      clear h1 h2 h3 hM hE hany htk
      go_wp2_with fail
      go_ret
      exact ⟨by rw [HR.out]; rfl, HM.out, HE.out⟩
#print axioms below_any
end Go.Proofs.YteojdfmdhgnmfaaGreat

/- Walks: which term is above another one by paths: all of it. -/
namespace Go.Proofs.YteojdfmdhgnmfaaGreat
open Go.RowKit
open Go.WideMaps
set_option linter.unusedSimpArgs false
set_option linter.unusedVariables false
set_option maxRecDepth 8000

def AlInv (row : List ByteArray) (S : List Tm) (rk m : Nat) (a : Tm) (l : List Tm) (aa : Option Addr) (ca : Nat) (w : World) (i : Value) (wr : World) : Prop :=
  ∃ k : Nat, k ≤ l.length ∧ i = .int .i64 (k : Int) ∧ ((l.take k).all fun y => pathB row a y) = true ∧ Blk wr w.heap.size #[.map (some rk), .map (some m)] 76 ∧
    Blk wr (w.heap.size + 1) #[.string a.name, .slice aa a.args.length ca, .int .i64 (numT a S), .int .i64 (sizeL [a])] 79 ∧ MapP wr m (AskQ row S) ∧ Ex m w wr
set_option maxHeartbeats 2000000 in
theorem allOf_any {row : List ByteArray} {S : List Tm} {rk m N : Nat} (IH : Hid (AboveOK row S rk m N)) (a : Tm) (l : List Tm) (va : Value) (al : Option Addr) (cl : Nat) (w : World) (X : Nat → Prop) (hN : ∀ y ∈ l, sizeL [a] + sizeL [y] ≤ N) (hX : ∀ b, X b → b ≠ m) (hP : PS row S rk m w) (ha : IV w X S va a) (hl : ISl w X S al l) :
    Calls Tryz.prog 66 #[.agg #[.map (some rk), .map (some m)], va, .slice al l.length cl] w fun e w' => e = .returned (.bool (l.all fun y => pathB row a y)) ∧ MapP w' m (AskQ row S) ∧ Ex m w w' := by
  have HA := hide ha
  obtain ⟨_, aa, ca, rfl, hsa⟩ := ha
  have HSL := hide hl
  have hll := hl.1
  have HP := hide hP
  have hml := hP.asked.lt
  have HN := hide hN
  clear hsa hl hP hN
  go_enter Tryz.func66, Tryz.ntmps66
  go_wp2_with fail
  have I0 : Hid (AlInv row S rk m a l aa ca w (.int .i64 0) ((w.alloc (.cells #[.map (some rk), .map (some m)] 76)).alloc (.cells #[.string a.name, .slice aa a.args.length ca, .int .i64 (numT a S), .int .i64 (sizeL [a])] 79))) := by
    have k1 := Blk.new w #[.map (some rk), .map (some m)] 76
    have e1 : (w.alloc (.cells #[.map (some rk), .map (some m)] 76)).heap.size = w.heap.size + 1 := by simp
    have x1 : Ex m w (w.alloc (.cells #[.map (some rk), .map (some m)] 76)) := (Ex.refl m w).alloc _
    have p1 := HP.out.alloc (.cells #[.map (some rk), .map (some m)] 76)
    generalize (w.alloc (.cells #[.map (some rk), .map (some m)] 76)) = w1 at *
    have k2 := Blk.new w1 #[.string a.name, .slice aa a.args.length ca, .int .i64 (numT a S), .int .i64 (sizeL [a])] 79
    rw [e1] at k2
    exact ⟨0, Nat.zero_le _, rfl, by simp, k1.alloc _, k2, (p1.alloc _).asked, x1.alloc _⟩
  generalize ((w.alloc (.cells #[.map (some rk), .map (some m)] 76)).alloc (.cells #[.string a.name, .slice aa a.args.length ca, .int .i64 (numT a S), .int .i64 (sizeL [a])] 79)) = w3 at *
  go_loopw [11] (fun i wr => AlInv row S rk m a l aa ca w i wr) (fun i wr => l.length - (intOf i).toNat)
  case atStart => exact I0.out
  case round =>
    clear I0
    obtain ⟨k, hk, rfl, hall, h1, h2, hM, hE⟩ := hrel
    have HH1 := hide h1
    have HH2 := hide h2
    have HM := hide hM
    have HE := hide hE
    have HALL := hide hall
    have z1 : w.heap.size + 2 ≤ wr.heap.size := by have := h2.lt; omega
    by_cases hlt : k < l.length
    · have hlti : (k : Int) < (l.length : Int) := by omega
      obtain ⟨b1, o1, a1, c1, rfl, d10, d11, d12, d13, hx⟩ := (HSL.out.ex hE hX).get (Below.refl _ _) (fun _ _ h => h) k hlt
      have HX := hide hx
      have q0 : ∀ o, (wr.alloc o).cell? ⟨w.heap.size, 0, none⟩ = some (.map (some rk)) := fun o => (h1.alloc o).cell 0
      have q1 : ∀ o, (wr.alloc o).cell? ⟨w.heap.size, 1, none⟩ = some (.map (some m)) := fun o => (h1.alloc o).cell 1
      have r0 : ∀ o, (wr.alloc o).cell? ⟨w.heap.size + 1, 0, none⟩ = some (.string a.name) := fun o => (h2.alloc o).cell 0
      have r1 : ∀ o, (wr.alloc o).cell? ⟨w.heap.size + 1, 1, none⟩ = some (.slice aa a.args.length ca) := fun o => (h2.alloc o).cell 1
      have r2 : ∀ o, (wr.alloc o).cell? ⟨w.heap.size + 1, 2, none⟩ = some (.int .i64 (numT a S)) := fun o => (h2.alloc o).cell 2
      have r3 : ∀ o, (wr.alloc o).cell? ⟨w.heap.size + 1, 3, none⟩ = some (.int .i64 (sizeL [a])) := fun o => (h2.alloc o).cell 3
      clear hx h1 h2 hM hE hall
      go_wp2_with fail
      have PW : PS row S rk m wr := HP.out.ex HE.out HM.out
      refine (IH.out a l[k] _ _ _ X (HN.out _ (List.getElem_mem hlt)) hX (PW.alloc _) (by exact (HA.out.ex HE.out hX).alloc _) (by exact HX.out.alloc _)).mono ?_
      rintro e w5 ⟨rfl, hM5, hE5⟩
      have HM5 := hide hM5
      have HE5 := hide (HE.out.trans (((Ex.refl m wr).alloc _).trans hE5))
      have hml2 := HM.out.lt
      have K1 := hide ((HH1.out.alloc _).ex hE5 (by omega))
      have K2 := hide ((HH2.out.alloc _).ex hE5 (by omega))
      clear hM5 hE5 PW q0 q1 r0 r1 r2 r3
      cases hp : pathB row a l[k] with
      | false =>
        have HR := hide ((all_take hlt HALL.out).1 hp)
        clear hp
        go_wp2_with fail
        go_ret
        exact ⟨by rw [HR.out]; rfl, HM5.out, HE5.out⟩
      | true =>
        have HR := hide ((all_take hlt HALL.out).2 hp)
        clear hp
        go_wp2_with fail
        go_roundw
        case rel => exact ⟨k + 1, by omega, by go_num, HR.out, K1.out, K2.out, HM5.out, HE5.out⟩
        case measure => simp [intOf]; omega
    · have htk : l.take k = l := List.take_of_length_le (by omega)
      rw [htk] at hall
      have HR := hide hall
      clear h1 h2 hM hE hall htk
      go_wp2_with fail
      go_ret
      exact ⟨by rw [HR.out]; rfl, HM.out, HE.out⟩

/-- The three boxes, and the maps. -/
structure AskW (row : List ByteArray) (S : List Tm) (rk m : Nat) (a b : Tm) (aa : Option Addr) (ca : Nat) (ab : Option Addr) (cb : Nat) (w wr : World) : Prop where
  k1 : Blk wr w.heap.size #[.map (some rk), .map (some m)] 76
  k2 : Blk wr (w.heap.size + 1) #[.string a.name, .slice aa a.args.length ca, .int .i64 (numT a S), .int .i64 (sizeL [a])] 79
  k3 : Blk wr (w.heap.size + 2) #[.string b.name, .slice ab b.args.length cb, .int .i64 (numT b S), .int .i64 (sizeL [b])] 79
  mp : MapP wr m (AskQ row S)
  ex : Ex m w wr
theorem AskW.later {row : List ByteArray} {S : List Tm} {rk m : Nat} {a b : Tm} {aa ab : Option Addr} {ca cb : Nat} {w w1 w2 : World} (h : AskW row S rk m a b aa ca ab cb w w1) (hb : Below w1.heap.size w1 w2) : AskW row S rk m a b aa ca ab cb w w2 :=
  ⟨h.k1.below hb h.k1.lt, h.k2.below hb h.k2.lt, h.k3.below hb h.k3.lt, h.mp.below hb h.mp.lt, h.ex.trans (Ex.ofBel hb)⟩
theorem AskW.step {row : List ByteArray} {S : List Tm} {rk m : Nat} {a b : Tm} {aa ab : Option Addr} {ca cb : Nat} {w w1 w2 : World} (h : AskW row S rk m a b aa ca ab cb w w1) (hm : m < w.heap.size) (hM : MapP w2 m (AskQ row S)) (hE : Ex m w1 w2) : AskW row S rk m a b aa ca ab cb w w2 :=
  ⟨h.k1.ex hE (by omega), h.k2.ex hE (by omega), h.k3.ex hE (by omega), hM, h.ex.trans hE⟩
theorem AskW.start {row : List ByteArray} {S : List Tm} {rk m : Nat} {w : World} (a b : Tm) (aa : Option Addr) (ca : Nat) (ab : Option Addr) (cb : Nat) (hP : PS row S rk m w) : AskW row S rk m a b aa ca ab cb w (((w.alloc (.cells #[.map (some rk), .map (some m)] 76)).alloc (.cells #[.string a.name, .slice aa a.args.length ca, .int .i64 (numT a S), .int .i64 (sizeL [a])] 79)).alloc (.cells #[.string b.name, .slice ab b.args.length cb, .int .i64 (numT b S), .int .i64 (sizeL [b])] 79)) := by
  have k1 := Blk.new w #[.map (some rk), .map (some m)] 76
  have e1 : (w.alloc (.cells #[.map (some rk), .map (some m)] 76)).heap.size = w.heap.size + 1 := by simp
  have x1 : Ex m w (w.alloc (.cells #[.map (some rk), .map (some m)] 76)) := (Ex.refl m w).alloc _
  have p1 := hP.alloc (.cells #[.map (some rk), .map (some m)] 76)
  generalize (w.alloc (.cells #[.map (some rk), .map (some m)] 76)) = w1 at *
  have k2 := Blk.new w1 #[.string a.name, .slice aa a.args.length ca, .int .i64 (numT a S), .int .i64 (sizeL [a])] 79
  have e2 : (w1.alloc (.cells #[.string a.name, .slice aa a.args.length ca, .int .i64 (numT a S), .int .i64 (sizeL [a])] 79)).heap.size = w.heap.size + 2 := by simp [e1]
  have x2 : Ex m w (w1.alloc (.cells #[.string a.name, .slice aa a.args.length ca, .int .i64 (numT a S), .int .i64 (sizeL [a])] 79)) := x1.alloc _
  have p2 := p1.alloc (.cells #[.string a.name, .slice aa a.args.length ca, .int .i64 (numT a S), .int .i64 (sizeL [a])] 79)
  have k1' := k1.alloc (.cells #[.string a.name, .slice aa a.args.length ca, .int .i64 (numT a S), .int .i64 (sizeL [a])] 79)
  generalize w1.alloc (.cells #[.string a.name, .slice aa a.args.length ca, .int .i64 (numT a S), .int .i64 (sizeL [a])] 79) = w2 at *
  have k3 := Blk.new w2 #[.string b.name, .slice ab b.args.length cb, .int .i64 (numT b S), .int .i64 (sizeL [b])] 79
  rw [e1] at k2
  rw [e2] at k3
  exact ⟨k1'.alloc _, k2.alloc _, k3, (p2.alloc _).asked, x2.alloc _⟩

set_option maxHeartbeats 4000000 in
theorem ask_any {row : List ByteArray} {S : List Tm} {rk m N : Nat} (IH : Hid (AboveOK row S rk m N)) (a b : Tm) (va vb : Value) (w : World) (X : Nat → Prop) (hN : sizeL [a] + sizeL [b] ≤ N + 1) (hX : ∀ b, X b → b ≠ m) (hP : PS row S rk m w) (ha : IV w X S va a) (hb : IV w X S vb b) :
    Calls Tryz.prog 49 #[.agg #[.map (some rk), .map (some m)], va, vb] w fun e w' => e = .returned (.bool (pathB row a b)) ∧ MapP w' m (AskQ row S) ∧ Ex m w w' := by
  have HA := hide ha
  have HB := hide hb
  obtain ⟨_, aa, ca, rfl, hsa⟩ := ha
  obtain ⟨_, ab, cb, rfl, hsb⟩ := hb
  have HSB := hide hsb
  have HP := hide hP
  have hml := hP.asked.lt
  have HPB := hide (pathB_eq row a b)
  clear hsa hsb hP
  have A3 := hide (AskW.start a b aa ca ab cb HP.out)
  go_enter Tryz.func49, Tryz.ntmps49
  go_wp2_with fail
  generalize (((w.alloc (.cells #[.map (some rk), .map (some m)] 76)).alloc (.cells #[.string a.name, .slice aa a.args.length ca, .int .i64 (numT a S), .int .i64 (sizeL [a])] 79)).alloc (.cells #[.string b.name, .slice ab b.args.length cb, .int .i64 (numT b S), .int .i64 (sizeL [b])] 79)) = w3 at *
  refine (itemVar_any S a _ _ X (by exact HA.out.ex A3.out.ex hX)).mono ?_
  rintro e w4 ⟨rfl, hb4⟩
  have A4 := hide (A3.out.later hb4)
  clear hb4 A3
  have q0 : w4.cell? ⟨w.heap.size, 0, none⟩ = some (.map (some rk)) := A4.out.k1.cell 0
  have q1 : w4.cell? ⟨w.heap.size, 1, none⟩ = some (.map (some m)) := A4.out.k1.cell 1
  have r0 : w4.cell? ⟨w.heap.size + 1, 0, none⟩ = some (.string a.name) := A4.out.k2.cell 0
  have r1 : w4.cell? ⟨w.heap.size + 1, 1, none⟩ = some (.slice aa a.args.length ca) := A4.out.k2.cell 1
  have r2 : w4.cell? ⟨w.heap.size + 1, 2, none⟩ = some (.int .i64 (numT a S)) := A4.out.k2.cell 2
  have r3 : w4.cell? ⟨w.heap.size + 1, 3, none⟩ = some (.int .i64 (sizeL [a])) := A4.out.k2.cell 3
  have s0 : w4.cell? ⟨w.heap.size + 2, 0, none⟩ = some (.string b.name) := A4.out.k3.cell 0
  have s1 : w4.cell? ⟨w.heap.size + 2, 1, none⟩ = some (.slice ab b.args.length cb) := A4.out.k3.cell 1
  have s2 : w4.cell? ⟨w.heap.size + 2, 2, none⟩ = some (.int .i64 (numT b S)) := A4.out.k3.cell 2
  have s3 : w4.cell? ⟨w.heap.size + 2, 3, none⟩ = some (.int .i64 (sizeL [b])) := A4.out.k3.cell 3
  cases hva : varB a.name with
  | true =>
    have HR : Hid (pathB row a b = false) := by unfold Hid; rw [HPB.out, if_pos hva]
    clear hva
    go_wp2_with fail
    go_ret
    exact ⟨by rw [HR.out]; rfl, A4.out.mp, A4.out.ex⟩
  | false =>
    have HVA := hide hva
    clear hva
    go_wp2_with fail
    refine (below_any IH a b _ _ _ X hN hX (HP.out.ex A4.out.ex A4.out.mp) (by exact HA.out.ex A4.out.ex hX) (by exact HB.out.ex A4.out.ex hX)).mono ?_
    rintro e w5 ⟨rfl, hM5, hE5⟩
    have A5 := hide (A4.out.step hml hM5 hE5)
    clear hM5 hE5 A4
    clear q0 q1 r0 r1 r2 r3 s0 s1 s2 s3
    have q0 : w5.cell? ⟨w.heap.size, 0, none⟩ = some (.map (some rk)) := A5.out.k1.cell 0
    have q1 : w5.cell? ⟨w.heap.size, 1, none⟩ = some (.map (some m)) := A5.out.k1.cell 1
    have r0 : w5.cell? ⟨w.heap.size + 1, 0, none⟩ = some (.string a.name) := A5.out.k2.cell 0
    have r1 : w5.cell? ⟨w.heap.size + 1, 1, none⟩ = some (.slice aa a.args.length ca) := A5.out.k2.cell 1
    have r2 : w5.cell? ⟨w.heap.size + 1, 2, none⟩ = some (.int .i64 (numT a S)) := A5.out.k2.cell 2
    have r3 : w5.cell? ⟨w.heap.size + 1, 3, none⟩ = some (.int .i64 (sizeL [a])) := A5.out.k2.cell 3
    have s0 : w5.cell? ⟨w.heap.size + 2, 0, none⟩ = some (.string b.name) := A5.out.k3.cell 0
    have s1 : w5.cell? ⟨w.heap.size + 2, 1, none⟩ = some (.slice ab b.args.length cb) := A5.out.k3.cell 1
    have s2 : w5.cell? ⟨w.heap.size + 2, 2, none⟩ = some (.int .i64 (numT b S)) := A5.out.k3.cell 2
    have s3 : w5.cell? ⟨w.heap.size + 2, 3, none⟩ = some (.int .i64 (sizeL [b])) := A5.out.k3.cell 3
    cases hany : a.args.any fun x => sameB x b || pathB row x b with
    | true =>
      have HR : Hid (pathB row a b = true) := by unfold Hid; rw [HPB.out, if_neg (by rw [HVA.out]; simp), if_pos hany]
      clear hany
      go_wp2_with fail
      go_ret
      exact ⟨by rw [HR.out]; rfl, A5.out.mp, A5.out.ex⟩
    | false =>
      have HAN := hide hany
      clear hany
      go_wp2_with fail
      refine (itemVar_any S b _ _ X (by exact HB.out.ex A5.out.ex hX)).mono ?_
      rintro e w6 ⟨rfl, hb6⟩
      have A6 := hide (A5.out.later hb6)
      clear hb6 A5
      clear q0 q1 r0 r1 r2 r3 s0 s1 s2 s3
      have q0 : w6.cell? ⟨w.heap.size, 0, none⟩ = some (.map (some rk)) := A6.out.k1.cell 0
      have q1 : w6.cell? ⟨w.heap.size, 1, none⟩ = some (.map (some m)) := A6.out.k1.cell 1
      have r0 : w6.cell? ⟨w.heap.size + 1, 0, none⟩ = some (.string a.name) := A6.out.k2.cell 0
      have r1 : w6.cell? ⟨w.heap.size + 1, 1, none⟩ = some (.slice aa a.args.length ca) := A6.out.k2.cell 1
      have r2 : w6.cell? ⟨w.heap.size + 1, 2, none⟩ = some (.int .i64 (numT a S)) := A6.out.k2.cell 2
      have r3 : w6.cell? ⟨w.heap.size + 1, 3, none⟩ = some (.int .i64 (sizeL [a])) := A6.out.k2.cell 3
      have s0 : w6.cell? ⟨w.heap.size + 2, 0, none⟩ = some (.string b.name) := A6.out.k3.cell 0
      have s1 : w6.cell? ⟨w.heap.size + 2, 1, none⟩ = some (.slice ab b.args.length cb) := A6.out.k3.cell 1
      have s2 : w6.cell? ⟨w.heap.size + 2, 2, none⟩ = some (.int .i64 (numT b S)) := A6.out.k3.cell 2
      have s3 : w6.cell? ⟨w.heap.size + 2, 3, none⟩ = some (.int .i64 (sizeL [b])) := A6.out.k3.cell 3
      cases hvb : varB b.name with
      | true =>
        have HR : Hid (pathB row a b = false) := by unfold Hid; rw [HPB.out, if_neg (by rw [HVA.out]; simp), if_neg (by rw [HAN.out]; simp), if_pos hvb]
        clear hvb
        go_wp2_with fail
        go_ret
        exact ⟨by rw [HR.out]; rfl, A6.out.mp, A6.out.ex⟩
      | false =>
        have HVB := hide hvb
        clear hvb
        go_wp2_with fail
        refine (compareR_any row S a b rk _ _ _ X (HP.out.ex A6.out.ex A6.out.mp).ranks (by exact HA.out.ex A6.out.ex hX) (by exact HB.out.ex A6.out.ex hX)).mono ?_
        rintro e w7 ⟨rfl, hb7⟩
        have A7 := hide (A6.out.later hb7)
        clear hb7 A6
        clear q0 q1 r0 r1 r2 r3 s0 s1 s2 s3
        have q0 : w7.cell? ⟨w.heap.size, 0, none⟩ = some (.map (some rk)) := A7.out.k1.cell 0
        have q1 : w7.cell? ⟨w.heap.size, 1, none⟩ = some (.map (some m)) := A7.out.k1.cell 1
        have r0 : w7.cell? ⟨w.heap.size + 1, 0, none⟩ = some (.string a.name) := A7.out.k2.cell 0
        have r1 : w7.cell? ⟨w.heap.size + 1, 1, none⟩ = some (.slice aa a.args.length ca) := A7.out.k2.cell 1
        have r2 : w7.cell? ⟨w.heap.size + 1, 2, none⟩ = some (.int .i64 (numT a S)) := A7.out.k2.cell 2
        have r3 : w7.cell? ⟨w.heap.size + 1, 3, none⟩ = some (.int .i64 (sizeL [a])) := A7.out.k2.cell 3
        have s0 : w7.cell? ⟨w.heap.size + 2, 0, none⟩ = some (.string b.name) := A7.out.k3.cell 0
        have s1 : w7.cell? ⟨w.heap.size + 2, 1, none⟩ = some (.slice ab b.args.length cb) := A7.out.k3.cell 1
        have s2 : w7.cell? ⟨w.heap.size + 2, 2, none⟩ = some (.int .i64 (numT b S)) := A7.out.k3.cell 2
        have s3 : w7.cell? ⟨w.heap.size + 2, 3, none⟩ = some (.int .i64 (sizeL [b])) := A7.out.k3.cell 3
        have HEAD : Hid (pathB row a b = if gtS row b a = true then false else if (b.args.all fun y => pathB row a y) = false then false else if gtS row a b = true then true else match unl a.args b.args with | none => false | some (x, y) => pathB row x y) := by
          unfold Hid
          rw [HPB.out, if_neg (by rw [HVA.out]; simp), if_neg (by rw [HAN.out]; simp), if_neg (by rw [HVB.out]; simp)]
          cases unl a.args b.args with
          | none => rfl
          | some p => rfl
        clear HPB HVA HAN HVB
        have callAll : ∀ al cl, ISl w7 X S al b.args → Calls Tryz.prog 66 #[.agg #[.map (some rk), .map (some m)], .agg #[.string a.name, .slice aa a.args.length ca, .int .i64 (numT a S), .int .i64 (sizeL [a])], .slice al b.args.length cl] w7 fun e w' => e = .returned (.bool (b.args.all fun y => pathB row a y)) ∧ MapP w' m (AskQ row S) ∧ Ex m w7 w' := fun al cl hl =>
          allOf_any IH a b.args _ al cl w7 X (fun y hy => by have := size_arg hy; omega) hX (HP.out.ex A7.out.ex A7.out.mp) (by exact HA.out.ex A7.out.ex hX) hl
        have HCA := hide callAll
        clear callAll
        rcases cmpS_cases row a b with ⟨g1, hc⟩ | ⟨g1, hc⟩ | ⟨g1, g2, hc⟩
        · have g2 := gtS_asymm g1
          rw [hc]
          go_wp2_with fail
          refine (HCA.out _ _ (by exact HSB.out.ex A7.out.ex hX)).mono ?_
          rintro e w8 ⟨rfl, hM8, hE8⟩
          have A8 := hide (A7.out.step hml hM8 hE8)
          clear hM8 hE8 A7 HCA
          clear q0 q1 r0 r1 r2 r3 s0 s1 s2 s3
          cases hall : b.args.all fun y => pathB row a y with
          | false =>
            have HR : Hid (pathB row a b = false) := by unfold Hid; rw [HEAD.out, if_neg (by rw [g2]; simp), if_pos hall]
            clear hall
            go_wp2_with fail
            go_ret
            exact ⟨by rw [HR.out]; rfl, A8.out.mp, A8.out.ex⟩
          | true =>
            have HR : Hid (pathB row a b = true) := by unfold Hid; rw [HEAD.out, if_neg (by rw [g2]; simp), if_neg (by rw [hall]; simp), if_pos g1]
            clear hall
            go_wp2_with fail
            go_ret
            exact ⟨by rw [HR.out]; rfl, A8.out.mp, A8.out.ex⟩
        · have HR : Hid (pathB row a b = false) := by unfold Hid; rw [HEAD.out, if_pos g1]
          rw [hc]
          go_wp2_with fail
          go_ret
          exact ⟨by rw [HR.out]; rfl, A7.out.mp, A7.out.ex⟩
        · rw [hc]
          go_wp2_with fail
          refine (HCA.out _ _ (by exact HSB.out.ex A7.out.ex hX)).mono ?_
          rintro e w8 ⟨rfl, hM8, hE8⟩
          have A8 := hide (A7.out.step hml hM8 hE8)
          clear hM8 hE8 A7 HCA
          clear q0 q1 r0 r1 r2 r3 s0 s1 s2 s3
          have q0 : w8.cell? ⟨w.heap.size, 0, none⟩ = some (.map (some rk)) := A8.out.k1.cell 0
          have q1 : w8.cell? ⟨w.heap.size, 1, none⟩ = some (.map (some m)) := A8.out.k1.cell 1
          have r0 : w8.cell? ⟨w.heap.size + 1, 0, none⟩ = some (.string a.name) := A8.out.k2.cell 0
          have r1 : w8.cell? ⟨w.heap.size + 1, 1, none⟩ = some (.slice aa a.args.length ca) := A8.out.k2.cell 1
          have r2 : w8.cell? ⟨w.heap.size + 1, 2, none⟩ = some (.int .i64 (numT a S)) := A8.out.k2.cell 2
          have r3 : w8.cell? ⟨w.heap.size + 1, 3, none⟩ = some (.int .i64 (sizeL [a])) := A8.out.k2.cell 3
          have s0 : w8.cell? ⟨w.heap.size + 2, 0, none⟩ = some (.string b.name) := A8.out.k3.cell 0
          have s1 : w8.cell? ⟨w.heap.size + 2, 1, none⟩ = some (.slice ab b.args.length cb) := A8.out.k3.cell 1
          have s2 : w8.cell? ⟨w.heap.size + 2, 2, none⟩ = some (.int .i64 (numT b S)) := A8.out.k3.cell 2
          have s3 : w8.cell? ⟨w.heap.size + 2, 3, none⟩ = some (.int .i64 (sizeL [b])) := A8.out.k3.cell 3
          cases hall : b.args.all fun y => pathB row a y with
          | false =>
            have HR : Hid (pathB row a b = false) := by unfold Hid; rw [HEAD.out, if_neg (by rw [g2]; simp), if_pos hall]
            clear hall
            go_wp2_with fail
            go_ret
            exact ⟨by rw [HR.out]; rfl, A8.out.mp, A8.out.ex⟩
          | true =>
            have HLAST : Hid (pathB row a b = match unl a.args b.args with | none => false | some (x, y) => pathB row x y) := by unfold Hid; rw [HEAD.out, if_neg (by rw [g2]; simp), if_neg (by rw [hall]; simp), if_neg (by rw [g1]; simp)]
            have HLEN := hide (gtS_same g1 g2).2
            clear hall g1 g2 hc HEAD
            go_wp2_with fail
            refine (firstUnlike_any S a b HLEN.out _ _ _ X (by exact HA.out.ex A8.out.ex hX) (by exact HB.out.ex A8.out.ex hX)).mono ?_
            rintro e w9 ⟨hb9, hcase⟩
            have A9 := hide (A8.out.later hb9)
            clear hb9 A8
            clear q0 q1 r0 r1 r2 r3 s0 s1 s2 s3
            rcases hcase with ⟨x, y, vx, vy, hu, rfl, hvx, hvy⟩ | ⟨hu, rfl⟩
            · have HVX := hide hvx
              have HVY := hide hvy
              obtain ⟨_, ax, cx, rfl, _⟩ := hvx
              obtain ⟨_, ay, cy, rfl, _⟩ := hvy
              obtain ⟨mx, my⟩ := unl_mem hu
              have sx := size_arg mx
              have sy := size_arg my
              have HU := hide hu
              have q0 : ∀ o o', ((w9.alloc o).alloc o').cell? ⟨w.heap.size, 0, none⟩ = some (.map (some rk)) := fun o o' => ((A9.out.k1.alloc o).alloc o').cell 0
              have q1 : ∀ o o', ((w9.alloc o).alloc o').cell? ⟨w.heap.size, 1, none⟩ = some (.map (some m)) := fun o o' => ((A9.out.k1.alloc o).alloc o').cell 1
              clear hu mx my
              go_wp2_with fail
              have P9 : PS row S rk m w9 := HP.out.ex A9.out.ex A9.out.mp
              refine (IH.out x y _ _ _ X (by omega) hX ((P9.alloc _).alloc _) (by exact (HVX.out.alloc _).alloc _) (by exact (HVY.out.alloc _).alloc _)).mono ?_
              rintro e wA ⟨rfl, hMA, hEA⟩
              have HMA := hide hMA
              have HEA := hide (A9.out.ex.trans ((((Ex.refl m w9).alloc _).alloc _).trans hEA))
              have HR : Hid (pathB row a b = pathB row x y) := by unfold Hid; rw [HLAST.out, HU.out]
              clear hMA hEA P9 q0 q1
              go_wp2_with fail
              go_ret
              exact ⟨by rw [HR.out]; rfl, HMA.out, HEA.out⟩
            · have HR : Hid (pathB row a b = false) := by unfold Hid; rw [HLAST.out, hu]
              go_wp2_with fail
              go_ret
              exact ⟨by rw [HR.out]; rfl, (A9.out.mp.kept (Below.heap_alloc _ _ _ A9.out.mp.lt)).kept (Below.heap_alloc _ _ _ (by have := A9.out.mp.lt; simp; omega)), (A9.out.ex.alloc _).alloc _⟩
#print axioms ask_any

set_option maxHeartbeats 4000000 in
theorem above_step {row : List ByteArray} {S : List Tm} {rk m N : Nat} (hS : S.length < 9000000000000000000) (IH : Hid (AboveOK row S rk m N)) (a b : Tm) (va vb : Value) (w : World) (X : Nat → Prop) (hN : sizeL [a] + sizeL [b] ≤ N + 1) (hX : ∀ b, X b → b ≠ m) (hP : PS row S rk m w) (ha : IV w X S va a) (hb : IV w X S vb b) :
    Calls Tryz.prog 35 #[.agg #[.map (some rk), .map (some m)], va, vb] w fun e w' => e = .returned (.bool (pathB row a b)) ∧ MapP w' m (AskQ row S) ∧ Ex m w w' := by
  have HA := hide ha
  have HB := hide hb
  have haS := ha.1
  have hbS := hb.1
  obtain ⟨_, aa, ca, rfl, hsa⟩ := ha
  obtain ⟨_, ab, cb, rfl, hsb⟩ := hb
  have HP := hide hP
  have hml := hP.asked.lt
  have hok : PrOk (numT a S, numT b S) := ⟨by have := numT_le a S; show numT a S < _; omega, by have := numT_le b S; show numT b S < _; omega⟩
  have HOK := hide hok
  have A3 := hide (AskW.start a b aa ca ab cb HP.out)
  have hz : ∀ w', (zeroValue 95).run Tryz.prog w' = .ok (.agg #[.bool false]) w' := fun w' => Tryz.zeroValue95 w'
  have M4 : MapP ((((w.alloc (.cells #[.map (some rk), .map (some m)] 76)).alloc (.cells #[.string a.name, .slice aa a.args.length ca, .int .i64 (numT a S), .int .i64 (sizeL [a])] 79)).alloc (.cells #[.string b.name, .slice ab b.args.length cb, .int .i64 (numT b S), .int .i64 (sizeL [b])] 79)).alloc (.cells #[.int .i64 (numT a S), .int .i64 (numT b S)] 93)) m (AskQ row S) := A3.out.mp.kept (Below.heap_alloc _ _ _ A3.out.mp.lt)
  have hlk := run_lookP (P := Tryz.prog) pairKey Tryz.underlying3 typesPos Tryz.underlying74 (hz _) M4 hok
  clear hsa hsb hP M4 hz hok
  rcases hlk with ⟨v, hQ, hrun⟩ | hrun
  · have HV := hide (hQ.val haS hbS)
    have hrun' : (Instr.lookup 74 (.map (some m)) (.agg #[.int .i64 (numT a S), .int .i64 (numT b S)]) true).run Tryz.prog ((((w.alloc (.cells #[.map (some rk), .map (some m)] 76)).alloc (.cells #[.string a.name, .slice aa a.args.length ca, .int .i64 (numT a S), .int .i64 (sizeL [a])] 79)).alloc (.cells #[.string b.name, .slice ab b.args.length cb, .int .i64 (numT b S), .int .i64 (sizeL [b])] 79)).alloc (.cells #[.int .i64 (numT a S), .int .i64 (numT b S)] 93)) = .ok (.tuple #[.agg #[.bool v], .bool true]) ((((w.alloc (.cells #[.map (some rk), .map (some m)] 76)).alloc (.cells #[.string a.name, .slice aa a.args.length ca, .int .i64 (numT a S), .int .i64 (sizeL [a])] 79)).alloc (.cells #[.string b.name, .slice ab b.args.length cb, .int .i64 (numT b S), .int .i64 (sizeL [b])] 79)).alloc (.cells #[.int .i64 (numT a S), .int .i64 (numT b S)] 93)) := hrun
    clear hrun hQ
    go_enter Tryz.func35, Tryz.ntmps35
    go_wp2_with fail
    go_ret
    refine ⟨by rw [← HV.out]; rfl, ?_, ((A3.out.ex.alloc _).alloc _)⟩
    exact (A3.out.mp.kept (Below.heap_alloc _ _ _ A3.out.mp.lt)).kept (Below.heap_alloc _ _ _ (by have := A3.out.mp.lt; simp at this ⊢; omega))
  · have hrun' : (Instr.lookup 74 (.map (some m)) (.agg #[.int .i64 (numT a S), .int .i64 (numT b S)]) true).run Tryz.prog ((((w.alloc (.cells #[.map (some rk), .map (some m)] 76)).alloc (.cells #[.string a.name, .slice aa a.args.length ca, .int .i64 (numT a S), .int .i64 (sizeL [a])] 79)).alloc (.cells #[.string b.name, .slice ab b.args.length cb, .int .i64 (numT b S), .int .i64 (sizeL [b])] 79)).alloc (.cells #[.int .i64 (numT a S), .int .i64 (numT b S)] 93)) = .ok (.tuple #[.agg #[.bool false], .bool false]) ((((w.alloc (.cells #[.map (some rk), .map (some m)] 76)).alloc (.cells #[.string a.name, .slice aa a.args.length ca, .int .i64 (numT a S), .int .i64 (sizeL [a])] 79)).alloc (.cells #[.string b.name, .slice ab b.args.length cb, .int .i64 (numT b S), .int .i64 (sizeL [b])] 79)).alloc (.cells #[.int .i64 (numT a S), .int .i64 (numT b S)] 93)) := hrun
    clear hrun
    go_enter Tryz.func35, Tryz.ntmps35
    go_wp2_with fail
    have A5 : Hid (AskW row S rk m a b aa ca ab cb w (((((w.alloc (.cells #[.map (some rk), .map (some m)] 76)).alloc (.cells #[.string a.name, .slice aa a.args.length ca, .int .i64 (numT a S), .int .i64 (sizeL [a])] 79)).alloc (.cells #[.string b.name, .slice ab b.args.length cb, .int .i64 (numT b S), .int .i64 (sizeL [b])] 79)).alloc (.cells #[.int .i64 (numT a S), .int .i64 (numT b S)] 93)).alloc (.cells #[.bool false] 95))) := (A3.out.later ((Below.refl _ _).alloc (Nat.le_refl _) _)).later ((Below.refl _ _).alloc (Nat.le_refl _) _)
    have e3 : (((w.alloc (.cells #[.map (some rk), .map (some m)] 76)).alloc (.cells #[.string a.name, .slice aa a.args.length ca, .int .i64 (numT a S), .int .i64 (sizeL [a])] 79)).alloc (.cells #[.string b.name, .slice ab b.args.length cb, .int .i64 (numT b S), .int .i64 (sizeL [b])] 79)).heap.size = w.heap.size + 3 := by simp
    have KB : Hid (Blk (((((w.alloc (.cells #[.map (some rk), .map (some m)] 76)).alloc (.cells #[.string a.name, .slice aa a.args.length ca, .int .i64 (numT a S), .int .i64 (sizeL [a])] 79)).alloc (.cells #[.string b.name, .slice ab b.args.length cb, .int .i64 (numT b S), .int .i64 (sizeL [b])] 79)).alloc (.cells #[.int .i64 (numT a S), .int .i64 (numT b S)] 93)).alloc (.cells #[.bool false] 95)) (w.heap.size + 3) #[.int .i64 (numT a S), .int .i64 (numT b S)] 93) := by
      have h := (Blk.new (((w.alloc (.cells #[.map (some rk), .map (some m)] 76)).alloc (.cells #[.string a.name, .slice aa a.args.length ca, .int .i64 (numT a S), .int .i64 (sizeL [a])] 79)).alloc (.cells #[.string b.name, .slice ab b.args.length cb, .int .i64 (numT b S), .int .i64 (sizeL [b])] 79)) #[.int .i64 (numT a S), .int .i64 (numT b S)] 93).alloc (.cells #[.bool false] 95)
      rw [e3] at h
      exact h
    have KK : Hid (Blk (((((w.alloc (.cells #[.map (some rk), .map (some m)] 76)).alloc (.cells #[.string a.name, .slice aa a.args.length ca, .int .i64 (numT a S), .int .i64 (sizeL [a])] 79)).alloc (.cells #[.string b.name, .slice ab b.args.length cb, .int .i64 (numT b S), .int .i64 (sizeL [b])] 79)).alloc (.cells #[.int .i64 (numT a S), .int .i64 (numT b S)] 93)).alloc (.cells #[.bool false] 95)) (w.heap.size + 4) #[.bool false] 95) := by
      have h := Blk.new ((((w.alloc (.cells #[.map (some rk), .map (some m)] 76)).alloc (.cells #[.string a.name, .slice aa a.args.length ca, .int .i64 (numT a S), .int .i64 (sizeL [a])] 79)).alloc (.cells #[.string b.name, .slice ab b.args.length cb, .int .i64 (numT b S), .int .i64 (sizeL [b])] 79)).alloc (.cells #[.int .i64 (numT a S), .int .i64 (numT b S)] 93)) #[.bool false] 95
      have e4 : ((((w.alloc (.cells #[.map (some rk), .map (some m)] 76)).alloc (.cells #[.string a.name, .slice aa a.args.length ca, .int .i64 (numT a S), .int .i64 (sizeL [a])] 79)).alloc (.cells #[.string b.name, .slice ab b.args.length cb, .int .i64 (numT b S), .int .i64 (sizeL [b])] 79)).alloc (.cells #[.int .i64 (numT a S), .int .i64 (numT b S)] 93)).heap.size = w.heap.size + 4 := by simp
      rw [e4] at h
      exact h
    clear e3 hrun'
    generalize ((((w.alloc (.cells #[.map (some rk), .map (some m)] 76)).alloc (.cells #[.string a.name, .slice aa a.args.length ca, .int .i64 (numT a S), .int .i64 (sizeL [a])] 79)).alloc (.cells #[.string b.name, .slice ab b.args.length cb, .int .i64 (numT b S), .int .i64 (sizeL [b])] 79)).alloc (.cells #[.int .i64 (numT a S), .int .i64 (numT b S)] 93)).alloc (.cells #[.bool false] 95) = w5 at *
    refine (ask_any IH a b _ _ _ X hN hX (HP.out.ex A5.out.ex A5.out.mp) (by exact HA.out.ex A5.out.ex hX) (by exact HB.out.ex A5.out.ex hX)).mono ?_
    rintro e w6 ⟨rfl, hM6, hE6⟩
    have A6 := hide (A5.out.step hml hM6 hE6)
    have KB6 := hide (KB.out.ex hE6 (by omega))
    have KK6 := hide (KK.out.ex hE6 (by omega))
    have M7 : MapP (w6.setCell ⟨w.heap.size + 4, 0, none⟩ (.bool (pathB row a b))) m (AskQ row S) := hM6.kept (Below.heap_setCell _ _ _ _ (by simp; omega))
    obtain ⟨w7, hput, hM7, hz7, ho7, ht7, hu7, hk7⟩ := run_putP (P := Tryz.prog) pairKey Tryz.underlying3 typesPos Tryz.underlying74 M7 HOK.out (v := pathB row a b) ⟨a, b, haS, hbS, rfl, rfl⟩
    have hput' : (Instr.mapUpdate 74 (.map (some m)) (.agg #[.int .i64 (numT a S), .int .i64 (numT b S)]) (.agg #[.bool (pathB row a b)])).run Tryz.prog (w6.setCell ⟨w.heap.size + 4, 0, none⟩ (.bool (pathB row a b))) = .ok () w7 := hput
    have E7 : Hid (Ex m w w7) := by
      have h1 := A6.out.ex.setNew (b := w.heap.size + 4) (by omega) 0 (.bool (pathB row a b))
      exact ⟨ho7.trans h1.os, ht7.trans h1.tape, hu7.trans h1.output, by rw [hz7]; exact h1.size, fun k hk hn => (hk7 k hn).trans (h1.block k hk hn)⟩
    have HM7 := hide hM7
    have kk7 : w7.cell? ⟨w.heap.size + 4, 0, none⟩ = some (.bool (pathB row a b)) := by
      have h1 := KK6.out.set 0 (.bool (pathB row a b))
      have h2 : Blk w7 (w.heap.size + 4) _ 95 := (hk7 (w.heap.size + 4) (by omega)).trans h1
      exact h2.cell 0
    have kf := KK6.out.frozen 0
    have k60 : w6.cell? ⟨w.heap.size + 4, 0, none⟩ = some (.bool false) := KK6.out.cell 0
    have z0 : ∀ v, (w6.setCell ⟨w.heap.size + 4, 0, none⟩ v).cell? ⟨w.heap.size, 1, none⟩ = some (.map (some m)) := fun v => (A6.out.k1.setOther 0 v (by omega)).cell 1
    have z1 : ∀ v, (w6.setCell ⟨w.heap.size + 4, 0, none⟩ v).cell? ⟨w.heap.size + 3, 0, none⟩ = some (.int .i64 (numT a S)) := fun v => (KB6.out.setOther 0 v (by omega)).cell 0
    have z2 : ∀ v, (w6.setCell ⟨w.heap.size + 4, 0, none⟩ v).cell? ⟨w.heap.size + 3, 1, none⟩ = some (.int .i64 (numT b S)) := fun v => (KB6.out.setOther 0 v (by omega)).cell 1
    clear hM6 hE6 M7 hput hM7 hz7 ho7 ht7 hu7 hk7
    generalize hzz : pathB row a b = z at *
    have HZZ := hide hzz
    clear hzz
    go_wp2_with fail
    go_ret
    exact ⟨by rw [HZZ.out]; rfl, HM7.out, E7.out⟩

/-- The answers that were given are the ones that are kept. -/
theorem above_any (row : List ByteArray) (S : List Tm) (rk m : Nat) (hS : S.length < 9000000000000000000) : ∀ N, AboveOK row S rk m N
  | 0 => fun a b va vb w X hN _ _ _ _ => by have := size_pos a; omega
  | N + 1 => by
    have IH := hide (above_any row S rk m hS N)
    intro a b va vb w X hN hX hP ha hb
    exact above_step hS IH a b va vb w X hN hX hP ha hb
#print axioms above_any
end Go.Proofs.YteojdfmdhgnmfaaGreat

/- Maps by texts: a loop over one, and what is struck in it. -/
namespace Go.Proofs.YteojdfmdhgnmfaaGreat
open Go.RowKit
open Go.ChangeMaps (setBlock)
set_option linter.unusedSimpArgs false
set_option linter.unusedVariables false

/-- A loop over the map at b, its iterator at r: the map's entries, and those that are still to come. -/
def RangeAt (w : World) (b r : Nat) (L rem : List (ByteArray × Value)) : Prop :=
  ∃ es clk since seen c0, w.heap[b]? = some (.map es clk) ∧ es.toList.map (fun e => (e.key, e.val)) = L.map (fun p => (Value.string p.1, p.2)) ∧ Stamps es clk ∧
    w.heap[r]? = some (.mapIter (some b) since seen c0) ∧ (∀ x ∈ es.toList, x.born < since) ∧ since ≤ c0 ∧ since ≤ clk ∧
    (leftOf es seen).toList.map (fun e => (e.key, e.val)) = rem.map (fun p => (Value.string p.1, p.2))

/-- How many are still to come. -/
def leftAt (w : World) (b r : Nat) : Nat :=
  match w.heap[b]?, w.heap[r]? with
  | some (.map es _), some (.mapIter _ _ seen _) => (leftOf es seen).size
  | _, _ => 0

theorem RangeAt.left {w : World} {b r : Nat} {L rem : List (ByteArray × Value)} (h : RangeAt w b r L rem) : leftAt w b r = rem.length := by
  obtain ⟨es, clk, since, seen, c0, hb, _, _, hr, _, _, _, hl⟩ := h
  have := congrArg List.length hl
  simp only [List.length_map, Array.length_toList] at this
  simp only [leftAt, hb, hr]
  exact this
theorem RangeAt.map {w : World} {b r : Nat} {L rem : List (ByteArray × Value)} (h : RangeAt w b r L rem) : MapAt w b L := by
  obtain ⟨es, clk, since, seen, c0, hb, he, hs, _⟩ := h
  exact ⟨es, clk, hb, he, hs⟩
theorem RangeAt.ne {w : World} {b r : Nat} {L rem : List (ByteArray × Value)} (h : RangeAt w b r L rem) : r ≠ b := by
  obtain ⟨es, clk, since, seen, c0, hb, he, hs, hr, _⟩ := h
  intro e
  rw [e, hb] at hr
  cases hr
theorem RangeAt.lt {w : World} {b r : Nat} {L rem : List (ByteArray × Value)} (h : RangeAt w b r L rem) : r < w.heap.size := by
  obtain ⟨es, clk, since, seen, c0, hb, he, hs, hr, _⟩ := h
  exact (Array.getElem?_eq_some_iff.1 hr).1
theorem RangeAt.kept {w w' : World} {b r : Nat} {L rem : List (ByteArray × Value)} (h : RangeAt w b r L rem) (hb' : w'.heap[b]? = w.heap[b]?) (hr' : w'.heap[r]? = w.heap[r]?) : RangeAt w' b r L rem := by
  obtain ⟨es, clk, since, seen, c0, hb, he, hs, hr, rest⟩ := h
  exact ⟨es, clk, since, seen, c0, hb'.trans hb, he, hs, hr'.trans hr, rest⟩
theorem RangeAt.below {w w' : World} {b r B : Nat} {L rem : List (ByteArray × Value)} (h : RangeAt w b r L rem) (hb : Below B w w') (h1 : b < B) (h2 : r < B) : RangeAt w' b r L rem := h.kept (hb.block b h1) (hb.block r h2)

theorem MapAt.range {P : Program} {w : World} {T kt et : TypeId} {b : Nat} {L : List (ByteArray × Value)} (h : MapAt w b L) (hm : P.underlying T = some (.map kt et)) :
    ∃ o, (Instr.range T (.map (some b))).run P w = .ok (.pointer (some ⟨w.heap.size, 0, none⟩)) (w.alloc o) ∧ RangeAt (w.alloc o) b w.heap.size L L := by
  have hlt := h.lt
  obtain ⟨es, clk, hb, he, hs⟩ := h
  refine ⟨_, run_range_map w T kt et b es clk hm hb, es, clk, clk, #[], clk, (Below.heap_alloc _ _ _ hlt).trans hb, he, hs, heap_alloc_new w _, hs.1, Nat.le_refl _, Nat.le_refl _, ?_⟩
  rw [← he]
  congr 1
  simp [leftOf]

theorem kv_inj {l : List MapEntry} {L : List (ByteArray × Value)} (h : l.map (fun e => (e.key, e.val)) = L.map (fun p => (Value.string p.1, p.2))) {e : MapEntry} (he : e ∈ l) : ∃ p ∈ L, e.key = .string p.1 ∧ e.val = p.2 := by
  have : (e.key, e.val) ∈ L.map (fun p => (Value.string p.1, p.2)) := by rw [← h]; exact List.mem_map.2 ⟨e, he, rfl⟩
  obtain ⟨p, hp, e2⟩ := List.mem_map.1 this
  simp only [Prod.mk.injEq] at e2
  exact ⟨p, hp, e2.1.symm, e2.2.symm⟩

/-- One goes out of those that were left. -/
theorem left_out (seen : Array Nat) (e : MapEntry) : ∀ (l : List MapEntry) (R : List (ByteArray × Value)), (l.map (·.born)).Nodup → e ∈ l → seen.contains e.born = false → (l.filter fun x => !seen.contains x.born).map (fun e => (e.key, e.val)) = R.map (fun p => (Value.string p.1, p.2)) →
    ∃ p R', e.key = .string p.1 ∧ e.val = p.2 ∧ R.Perm (p :: R') ∧ (l.filter fun x => !(seen.push e.born).contains x.born).map (fun e => (e.key, e.val)) = R'.map (fun p => (Value.string p.1, p.2))
  | [], R, _, he, _, _ => by cases he
  | a :: l, R, hn, he, hs, hR => by
    simp only [List.map_cons, List.nodup_cons] at hn
    obtain ⟨hn1, hn2⟩ := hn
    by_cases ha : a.born = e.born
    · have hae : e = a := by
        rcases List.mem_cons.1 he with h | h
        · exact h
        · exact absurd (List.mem_map.2 ⟨e, h, ha.symm⟩) hn1
      subst hae
      have hs' : (!seen.contains e.born) = true := by rw [hs]; rfl
      rw [List.filter_cons_of_pos (by simpa using hs')] at hR
      match R, hR with
      | p :: R', hR =>
        simp only [List.map_cons, List.cons.injEq, Prod.mk.injEq] at hR
        refine ⟨p, R', hR.1.1, hR.1.2, List.Perm.refl _, ?_⟩
        rw [List.filter_cons_of_neg (by simp), ← hR.2]
        congr 1
        refine List.filter_congr fun x hx => ?_
        have hne : x.born ≠ e.born := fun h => hn1 (List.mem_map.2 ⟨x, hx, h⟩)
        simp [hne]
    · have he' : e ∈ l := by
        rcases List.mem_cons.1 he with h | h
        · exact absurd (by rw [h]) ha
        · exact h
      by_cases hsa : seen.contains a.born = true
      · rw [List.filter_cons_of_neg (by simpa using hsa)] at hR
        obtain ⟨p, R', h1, h2, h3, h4⟩ := left_out seen e l R hn2 he' hs hR
        refine ⟨p, R', h1, h2, h3, ?_⟩
        rw [List.filter_cons_of_neg (by simp at hsa ⊢; exact fun h => absurd hsa h), h4]
      · have hsa' : seen.contains a.born = false := by simpa using hsa
        rw [List.filter_cons_of_pos (by simpa using hsa')] at hR
        match R, hR with
        | q :: R0, hR =>
          simp only [List.map_cons, List.cons.injEq] at hR
          obtain ⟨p, R', h1, h2, h3, h4⟩ := left_out seen e l R0 hn2 he' hs hR.2
          refine ⟨p, q :: R', h1, h2, (List.Perm.cons q h3).trans (List.Perm.swap p q R'), ?_⟩
          rw [List.filter_cons_of_pos (by simp at hsa' ⊢; exact ⟨hsa', ha⟩), List.map_cons, List.map_cons, h4, hR.1]

theorem RangeAt.next {P : Program} {w : World} {b r : Nat} {L rem : List (ByteArray × Value)} (h : RangeAt w b r L rem) (ty : TypeId) :
    (rem = [] ∧ (Instr.next (.pointer (some ⟨r, 0, none⟩)) false ty).run P w = .ok (.tuple #[.bool false]) w) ∨
    ∃ p rem' w', rem.Perm (p :: rem') ∧ (Instr.next (.pointer (some ⟨r, 0, none⟩)) false ty).run P w = .ok (.tuple #[.bool true, .string p.1, p.2]) w' ∧ RangeAt w' b r L rem' ∧
      w'.heap.size = w.heap.size ∧ w'.os = w.os ∧ w'.tape = w.tape ∧ w'.output = w.output ∧ (∀ j, j ≠ r → w'.heap[j]? = w.heap[j]?) ∧ (Instr.entry (.pointer (some ⟨r, 0, none⟩))).run P w' = .ok (.tuple #[.string p.1, p.2]) w' := by
  have hne := h.ne
  obtain ⟨es, clk, since, seen, c0, hb, he, hs, hr, hold, hsc, hsk, hl⟩ := h
  rcases run_next_at (P := P) w ty r b since c0 seen es clk hr hb hold hsc with ⟨h0, hrun⟩ | ⟨e, hem, w1, hal, hrun⟩
  · refine Or.inl ⟨?_, hrun⟩
    have := congrArg List.length hl
    simp only [List.length_map, Array.length_toList, h0] at this
    exact List.length_eq_zero_iff.1 this.symm
  · obtain ⟨hm1, hm2⟩ := mem_left hem
    have hl' : (es.toList.filter fun x => !seen.contains x.born).map (fun e => (e.key, e.val)) = rem.map (fun p => (Value.string p.1, p.2)) := by
      rw [← hl]; unfold leftOf; rw [Array.toList_filter]
    obtain ⟨p, rem', hk, hv, hperm, hrem⟩ := left_out seen e es.toList rem hs.2 hm1 hm2 hl'
    have hr1 : w1.heap[r]? = some (.mapIter (some b) since seen c0) := by rcases hal with rfl | rfl <;> exact hr
    have hb1 : w1.heap[b]? = some (.map es clk) := by rcases hal with rfl | rfl <;> exact hb
    have hset := MapKept.heap_set (o' := .mapIter (some b) since (seen.push e.born) clk) hr1
    have hb' : (setBlock w1 r (.mapIter (some b) since (seen.push e.born) clk)).heap[b]? = some (.map es clk) := (hset.2 b (fun e1 => hne e1.symm)).trans hb1
    rw [hk, hv] at hrun
    refine Or.inr ⟨p, rem', _, hperm, hrun, ⟨es, clk, since, seen.push e.born, clk, hb', he, hs, hset.1, hold, hsk, hsk, ?_⟩, ?_, ?_, ?_, ?_, ?_, ?_⟩
    · rw [← hrem]; unfold leftOf; rw [Array.toList_filter]
    · rcases hal with rfl | rfl <;> simp [setBlock]
    · rcases hal with rfl | rfl <;> rfl
    · rcases hal with rfl | rfl <;> rfl
    · rcases hal with rfl | rfl <;> rfl
    · intro j hj
      have := hset.2 j hj
      rcases hal with rfl | rfl <;> exact this
    · have := run_entry_at (P := P) _ r b since seen es clk e hset.1 hb' hm1 hs.2
      rw [hk, hv] at this
      exact this

/-- What is left when a key is struck. -/
def delP : List (ByteArray × Value) → ByteArray → List (ByteArray × Value)
  | [], _ => []
  | p :: r, n => if p.1 = n then r else p :: delP r n
theorem findNow_del (n : ByteArray) (q : MapEntry → Bool) : ∀ (l : List MapEntry) (L : List (ByteArray × Value)) (i : Nat), l.map (fun e => (e.key, e.val)) = L.map (fun p => (Value.string p.1, p.2)) → (∀ e ∈ l, e.key = .string n → q e = false) →
    (mapGet L n = none → delP L n = L) ∧ (∀ v, mapGet L n = some v → ∃ j, Instr.findNow .string (.string n) l i = some (some (i + j, v)) ∧ j < l.length ∧ (l.eraseIdx j).map (fun e => (e.key, e.val)) = (delP L n).map (fun p => (Value.string p.1, p.2)) ∧ (l.eraseIdx j).filter q = l.filter q)
  | [], [], i, h, _ => ⟨fun _ => rfl, fun v hv => by simp [mapGet] at hv⟩
  | [], p :: L, i, h, _ => by simp at h
  | e :: l, [], i, h, _ => by simp at h
  | e :: l, p :: L, i, h, hq => by
    simp only [List.map_cons, List.cons.injEq, Prod.mk.injEq] at h
    obtain ⟨⟨hk, he⟩, ht⟩ := h
    obtain ⟨ih1, ih2⟩ := findNow_del n q l L (i + 1) ht fun e he => hq e (by simp [he])
    by_cases hn : p.1 = n
    · have hs : Instr.sameNow .string (.string n) e.key = some true := by
        rw [hk, hn]
        show some (n == n) = some true
        rw [show (n == n) = true from (MapKept.bytes_beq _ _).2 rfl]
      refine ⟨fun h => by simp [mapGet, hn] at h, fun v hv => ?_⟩
      simp only [mapGet, hn, if_true, Option.some.injEq] at hv
      refine ⟨0, by simp [Instr.findNow, hs, he, hv], by simp, ?_, ?_⟩
      · simp [delP, hn, ht]
      · rw [List.eraseIdx_cons_zero, List.filter_cons_of_neg (by rw [hq e (by simp) (by rw [hk, hn])]; simp)]
    · have hs : Instr.sameNow .string (.string n) e.key = some false := by
        rw [hk]
        show some (n == p.1) = some false
        have hb : (n == p.1) = false := by
          cases hh : (n == p.1) with
          | false => rfl
          | true => exact absurd ((MapKept.bytes_beq _ _).1 hh).symm hn
        rw [hb]
      refine ⟨fun h => ?_, fun v hv => ?_⟩
      · rw [mapGet, if_neg hn] at h
        rw [delP, if_neg hn, ih1 h]
      · rw [mapGet, if_neg hn] at hv
        obtain ⟨j, h1, h2, h3, h4⟩ := ih2 v hv
        refine ⟨j + 1, by simp [Instr.findNow, hs, h1]; omega, by simpa using h2, ?_, ?_⟩
        · rw [delP, if_neg hn]; simp [h3, hk, he]
        · rw [List.eraseIdx_cons_succ]
          cases hqe : q e with
          | true => rw [List.filter_cons_of_pos hqe, List.filter_cons_of_pos hqe, h4]
          | false => rw [List.filter_cons_of_neg (by simp [hqe]), List.filter_cons_of_neg (by simp [hqe]), h4]

theorem RangeAt.drop {P : Program} {w : World} {T kt et ty : TypeId} {b r : Nat} {L rem : List (ByteArray × Value)} (h : RangeAt w b r L rem) (hm : P.underlying T = some (.map kt et)) (hk : P.underlying kt = some .string) (n : ByteArray) (hr0 : ∀ p ∈ rem, p.1 ≠ n) (v : Value) (hv : mapGet L n = some v) :
    ∃ w', (Builtin.delete_ #[T, kt] ty #[.map (some b), .string n]).run P w = .ok (.tuple #[]) w' ∧ RangeAt w' b r (delP L n) rem ∧ w'.heap.size = w.heap.size ∧ w'.os = w.os ∧ w'.tape = w.tape ∧ w'.output = w.output ∧ (∀ j, j ≠ b → w'.heap[j]? = w.heap[j]?) := by
  have hne := h.ne
  obtain ⟨es, clk, since, seen, c0, hb, he, hs, hr, hold, hsc, hsk, hl⟩ := h
  have hl' : (es.toList.filter fun x => !seen.contains x.born).map (fun e => (e.key, e.val)) = rem.map (fun p => (Value.string p.1, p.2)) := by
    rw [← hl]; unfold leftOf; rw [Array.toList_filter]
  have hq : ∀ e ∈ es.toList, e.key = .string n → (!seen.contains e.born) = false := fun e hee hke => by
    cases hc : seen.contains e.born with
    | true => rfl
    | false =>
      obtain ⟨p, hp, h1, _⟩ := kv_inj hl' (List.mem_filter.2 ⟨hee, by rw [hc]; rfl⟩)
      rw [hke] at h1
      exact absurd (Value.string.inj h1).symm (hr0 p hp)
  obtain ⟨j, h1, h2, h3, h4⟩ := (findNow_del n (fun x => !seen.contains x.born) es.toList L 0 he hq).2 v hv
  rw [Nat.zero_add] at h1
  have hc : ∀ b, (Instr.checkKey b 10000 kt (.string n)).run P w = .ok () w := fun b => MapKept.run_checkKey (k := .string n) hk (by simp [MapKept.IsKey]) b 9999
  have hsub : (es.eraseIdxIfInBounds j).toList = es.toList.eraseIdx j := by
    unfold Array.eraseIdxIfInBounds
    rw [dif_pos (by simpa using h2)]
    simp
  have hmem : ∀ x ∈ (es.eraseIdxIfInBounds j).toList, x ∈ es.toList := fun x hx => by rw [hsub] at hx; exact (List.eraseIdx_sublist _ _).subset hx
  refine ⟨setBlock w b (.map (es.eraseIdxIfInBounds j) clk), ?_, ⟨es.eraseIdxIfInBounds j, clk, since, seen, c0, (MapKept.heap_set hb).1, by rw [hsub]; exact h3, ⟨fun x hx => hs.1 x (hmem x hx), ?_⟩, ((MapKept.heap_set hb).2 r hne).trans hr, fun x hx => hold x (hmem x hx), hsc, hsk, ?_⟩, by simp [setBlock], rfl, rfl, rfl, fun i hi => (MapKept.heap_set hb).2 i hi⟩
  · simp [Builtin.delete_, run_underlying hm, MapKept.run_getObj_map hb, hc, MapKept.run_findKey hk h1, MapKept.run_setObj_map _ hb, Result.andThen, setBlock]
  · rw [hsub]
    exact hs.2.sublist ((List.eraseIdx_sublist _ _).map _)
  · unfold leftOf
    rw [Array.toList_filter, hsub, h4]
    exact hl'
#print axioms RangeAt.next
#print axioms RangeAt.drop
end Go.Proofs.YteojdfmdhgnmfaaGreat


/- Walks: how often each variable stands in one term, and in another one. -/
namespace Go.Proofs.YteojdfmdhgnmfaaGreat
open Go.RowKit
set_option linter.unusedSimpArgs false
set_option linter.unusedVariables false
set_option maxRecDepth 8000

/-- How often a variable stands. -/
def vo (v : ByteArray) (l : List Tm) : Nat := if varB v = true then oftL v l else 0
theorem vo_app (v : ByteArray) (a b : List Tm) : vo v (a ++ b) = vo v a + vo v b := by
  unfold vo
  split
  · exact oft_app v a b
  · rfl
theorem vo_one (v s : ByteArray) (l : List Tm) : vo v [(⟨s, l⟩ : Tm)] = (if varB s = true ∧ s = v then 1 else 0) + vo v l := by
  unfold vo
  by_cases hv : varB v = true
  · rw [if_pos hv, if_pos hv, oft_one]
    by_cases h : s = v
    · subst h; simp [hv]
    · simp [h]
  · rw [if_neg hv, if_neg hv]
    have : ¬ (varB s = true ∧ s = v) := fun h => hv (by rw [← h.2]; exact h.1)
    rw [if_neg this]
theorem oft_le (v : ByteArray) (l : List Tm) : oftL v l ≤ sizeL l := by
  unfold oftL
  rw [← preL_len0]
  exact List.length_filter_le _ _
theorem vo_le (v : ByteArray) (l : List Tm) : vo v l ≤ sizeL l := by
  unfold vo
  split
  · exact oft_le v l
  · exact Nat.zero_le _
theorem vo_take (v : ByteArray) (l : List Tm) (k : Nat) (h : k < l.length) : vo v (l.take (k + 1)) = vo v (l.take k) + vo v [l[k]] := by rw [List.take_succ_eq_append_getElem h, vo_app]

/-- The map holds so much for each name. -/
def TalAt (w : World) (r : Nat) (f : ByteArray → Int) : Prop := ∃ L, MapAt w r L ∧ (∀ p ∈ L, p.2 = .int .i64 (f p.1)) ∧ (∀ v, mapGet L v = none → f v = 0) ∧ (L.map (·.1)).Nodup
theorem TalAt.lt {w : World} {r : Nat} {f : ByteArray → Int} (h : TalAt w r f) : r < w.heap.size := by obtain ⟨L, h, _⟩ := h; exact h.lt
theorem TalAt.kept {w w' : World} {r : Nat} {f : ByteArray → Int} (h : TalAt w r f) (hk : w'.heap[r]? = w.heap[r]?) : TalAt w' r f := by obtain ⟨L, h, h2⟩ := h; exact ⟨L, h.kept hk, h2⟩
theorem TalAt.congr {w : World} {r : Nat} {f g : ByteArray → Int} (h : TalAt w r f) (e : ∀ v, f v = g v) : TalAt w r g := by
  have : f = g := funext e
  rw [← this]; exact h
theorem mapGet_mem {n : ByteArray} {v : Value} : ∀ {L : List (ByteArray × Value)}, mapGet L n = some v → (n, v) ∈ L
  | [], h => by simp [mapGet] at h
  | p :: L, h => by
    by_cases hp : p.1 = n
    · simp only [mapGet, hp, if_true, Option.some.injEq] at h
      obtain ⟨a, b⟩ := p
      simp only at hp h
      subst hp; subst h
      simp
    · rw [mapGet, if_neg hp] at h
      exact List.mem_cons_of_mem _ (mapGet_mem h)
theorem mapGet_has {n : ByteArray} : ∀ {L : List (ByteArray × Value)}, mapGet L n = none ↔ n ∉ L.map (·.1)
  | [] => by simp [mapGet]
  | p :: L => by
    by_cases hp : p.1 = n
    · simp [mapGet, hp]
    · rw [mapGet, if_neg hp, mapGet_has, List.map_cons, List.mem_cons, not_or]
      exact ⟨fun h => ⟨fun e => hp e.symm, h⟩, fun h => h.2⟩
theorem setAt_keys (n : ByteArray) (v : Value) : ∀ L : List (ByteArray × Value), (setAt L n v).map (·.1) = L.map (·.1)
  | [] => rfl
  | p :: L => by
    by_cases hp : p.1 = n
    · simp [setAt, hp]
    · simp [setAt, hp, setAt_keys n v L]
theorem setAt_mem {n : ByteArray} {v : Value} : ∀ {L : List (ByteArray × Value)}, (L.map (·.1)).Nodup → ∀ p ∈ setAt L n v, p = (n, v) ∨ (p ∈ L ∧ p.1 ≠ n)
  | [], _, p, h => by simp [setAt] at h
  | q :: L, hn, p, h => by
    rw [List.map_cons, List.nodup_cons] at hn
    by_cases hq : q.1 = n
    · rw [setAt, if_pos hq, List.mem_cons] at h
      rcases h with rfl | h
      · exact Or.inl (by rw [hq])
      · refine Or.inr ⟨List.mem_cons_of_mem _ h, fun e => hn.1 ?_⟩
        rw [hq, ← e]
        exact List.mem_map.2 ⟨p, h, rfl⟩
    · rw [setAt, if_neg hq, List.mem_cons] at h
      rcases h with rfl | h
      · exact Or.inr ⟨by simp, hq⟩
      · rcases setAt_mem hn.2 p h with h | ⟨h, h'⟩
        · exact Or.inl h
        · exact Or.inr ⟨List.mem_cons_of_mem _ h, h'⟩
/-- Some more for one name. -/
def addF (f : ByteArray → Int) (n : ByteArray) (d : Int) : ByteArray → Int := fun v => if n = v then f v + d else f v
theorem TalAt.look {w : World} {r : Nat} {f : ByteArray → Int} (h : TalAt w r f) (n : ByteArray) : (Instr.lookup 71 (.map (some r)) (.string n) false).run Tryz.prog w = .ok (.int .i64 (f n)) w := by
  obtain ⟨L, hM, h1, h2, h3⟩ := h
  rw [run_look1 (P := Tryz.prog) Tryz.underlying71 Tryz.underlying9 (Tryz.zeroValue3 w) hM n]
  cases hg : mapGet L n with
  | none => rw [h2 n hg]; rfl
  | some z =>
    have e : z = .int .i64 (f n) := h1 _ (mapGet_mem hg)
    rw [e]; rfl
theorem TalAt.put {w : World} {r : Nat} {f : ByteArray → Int} (h : TalAt w r f) (n : ByteArray) (d : Int) :
    ∃ w', (Instr.mapUpdate 71 (.map (some r)) (.string n) (.int .i64 (f n + d))).run Tryz.prog w = .ok () w' ∧ TalAt w' r (addF f n d) ∧ Ex r w w' := by
  obtain ⟨L, hM, h1, h2, h3⟩ := h
  cases hg : mapGet L n with
  | none =>
    obtain ⟨w', hr, hM', hz, ho, ht, hu, hk⟩ := run_put (P := Tryz.prog) Tryz.underlying71 Tryz.underlying9 hM n (.int .i64 (f n + d)) hg
    have hnm := mapGet_has.1 hg
    refine ⟨w', hr, ⟨_, hM', fun p hp => ?_, fun v hv => ?_, ?_⟩, ⟨ho, ht, hu, by omega, fun k _ hn => hk k hn⟩⟩
    · rw [List.mem_append] at hp
      rcases hp with hp | hp
      · have hne : n ≠ p.1 := fun e => hnm (List.mem_map.2 ⟨p, hp, e.symm⟩)
        rw [h1 p hp, addF, if_neg hne]
      · have e : p = (n, .int .i64 (f n + d)) := by simpa using hp
        rw [e, addF, if_pos rfl]
    · rw [mapGet_has, List.map_append, List.mem_append, not_or] at hv
      have hne : n ≠ v := fun e => hv.2 (by simp [e])
      rw [addF, if_neg hne]
      exact h2 v (mapGet_has.2 hv.1)
    · rw [List.map_append, List.nodup_append]
      refine ⟨h3, by simp, fun a ha b hb => ?_⟩
      have e : b = n := by simpa using hb
      rw [e]
      exact fun e2 => hnm (by rw [← e2]; exact ha)
  | some z =>
    obtain ⟨w', hr, hM', hz, ho, ht, hu, hk⟩ := run_set (P := Tryz.prog) Tryz.underlying71 Tryz.underlying9 hM n (.int .i64 (f n + d)) z hg
    refine ⟨w', hr, ⟨_, hM', fun p hp => ?_, fun v hv => ?_, by rw [setAt_keys]; exact h3⟩, ⟨ho, ht, hu, by omega, fun k _ hn => hk k hn⟩⟩
    · rcases setAt_mem h3 p hp with e | ⟨hp, hne⟩
      · rw [e, addF, if_pos rfl]
      · rw [h1 p hp, addF, if_neg fun e => hne e.symm]
    · rw [mapGet_has, setAt_keys, ← mapGet_has] at hv
      have hne : n ≠ v := fun e => by rw [e, hv] at hg; cases hg
      rw [addF, if_neg hne]
      exact h2 v hv

def TyInv (S : List Tm) (r : Nat) (f : ByteArray → Int) (d : Int) (a : Tm) (aa : Option Addr) (ca : Nat) (w : World) (i : Value) (wr : World) : Prop :=
  ∃ k : Nat, k ≤ a.args.length ∧ i = .int .i64 (k : Int) ∧ Blk wr w.heap.size #[.string a.name, .slice aa a.args.length ca, .int .i64 (numT a S), .int .i64 (sizeL [a])] 79 ∧ TalAt wr r (fun v => f v + d * ((if varB a.name = true ∧ a.name = v then 1 else 0) + vo v (a.args.take k) : Nat)) ∧ Ex r w wr
/-- Both counted: what the map holds. -/
theorem vo_all {a b : Tm} : (∀ v, (0 : Int) ≤ (vo v [a] : Int) - (vo v [b] : Int)) ↔ hasAll a b = true := by
  rw [hasAll_iff]
  constructor
  · intro h v hv
    have := h v
    unfold vo at this
    rw [if_pos hv, if_pos hv] at this
    omega
  · intro h v
    unfold vo
    by_cases hv : varB v = true
    · rw [if_pos hv, if_pos hv]
      have := h v hv
      omega
    · rw [if_neg hv, if_neg hv]; omega
/-- The loop over the map: what came was never below 0. -/
def HaInv (m r : Nat) (L : List (ByteArray × Value)) (f : ByteArray → Int) (w : World) (i : Value) (wr : World) : Prop := ∃ rem, RangeAt wr m r L rem ∧ (∀ p ∈ L, p ∈ rem ∨ 0 ≤ f p.1) ∧ (∀ p ∈ rem, p ∈ L) ∧ Below w.heap.size w wr
end Go.Proofs.YteojdfmdhgnmfaaGreat

/- Walks: writing into a Builder, with all else as it was. -/
namespace Go.Proofs.YteojdfmdhgnmfaaGreat
open Go.RowKit
set_option linter.unusedSimpArgs false
set_option linter.unusedVariables false

theorem Tryz.infoByte : (Tryz.prog.info? 5).map (fun i => (i.zero, i.size, i.bytes)) = some (some (.int .u8 0), 1, 1) := by kernel_rfl
theorem Tryz.sizeBuilder : (Tryz.prog.info? 143).map (·.size) = some 2 := by kernel_rfl
theorem Tryz.liesBuilder : liesAt Tryz.prog Tryz.prog.depth 143 (2 / Tryz.prog.cellsOf 143) 0 143 1 = true := by kernel_rfl

/-- A Builder in block b, its bytes in a row of its own. -/
def Bld (w : World) (B b : Nat) (bs : List Value) (v : Value) : Prop :=
  B ≤ b ∧ (∃ p, (p = .pointer none ∨ p = .pointer (some ⟨b, 0, none⟩)) ∧ w.heap[b]? = some (.cells #[p, v] 143 (0, 0))) ∧ w.ownsRow B 5 1 v bs.length bs

/-- What a write leaves alone. -/
def BFr (w w' : World) (b : Nat) (v v' : Value) : Prop :=
  w'.os = w.os ∧ w'.tape = w.tape ∧ w'.output = w.output ∧ w.heap.size ≤ w'.heap.size ∧ (∀ k, k < w.heap.size → k ≠ b → some k ≠ v.ownBlock → w'.heap[k]? = w.heap[k]?) ∧ (∀ k, v'.ownBlock = some k → v.ownBlock = some k ∨ w.heap.size ≤ k)

theorem BFr.refl (w : World) (b : Nat) (v : Value) : BFr w w b v v := ⟨rfl, rfl, rfl, Nat.le_refl _, fun _ _ _ _ => rfl, fun _ h => Or.inl h⟩
theorem BFr.trans {w w1 w2 : World} {b : Nat} {v v1 v2 : Value} (h : BFr w w1 b v v1) (h1 : BFr w1 w2 b v1 v2) : BFr w w2 b v v2 := by
  obtain ⟨a1, a2, a3, a4, a5, a6⟩ := h
  obtain ⟨c1, c2, c3, c4, c5, c6⟩ := h1
  refine ⟨c1.trans a1, c2.trans a2, c3.trans a3, Nat.le_trans a4 c4, fun k hk hb hv => ?_, fun k hk => ?_⟩
  · refine (c5 k (Nat.lt_of_lt_of_le hk a4) hb (fun e => ?_)).trans (a5 k hk hb hv)
    rcases a6 k e.symm with h | h
    · exact hv h.symm
    · omega
  · rcases c6 k hk with h | h
    · exact a6 k h
    · exact Or.inr (Nat.le_trans a4 h)
theorem BFr.of_below {w w' : World} (hb : Below w.heap.size w w') (b : Nat) (v : Value) : BFr w w' b v v := ⟨hb.os, hb.tape, hb.output, hb.size, fun k hk _ _ => hb.block k hk, fun _ h => Or.inl h⟩

theorem bd_ne {w : World} {B b : Nat} {bs : List Value} {v : Value} (h : Bld w B b bs v) : v.ownBlock ≠ some b := by
  obtain ⟨_, ⟨p, _, hb⟩, hown⟩ := h
  exact Lib.ownBlock_ne hown hb (by decide)

set_option maxHeartbeats 1000000 in
set_option maxRecDepth 100000 in
theorem copyCheck_any (B b : Nat) (bs : List Value) (v : Value) (w : World) (h : Bld w B b bs v) :
    Calls Tryz.prog 100 #[.pointer (some ⟨b, 0, none⟩)] w fun e w' => e = .returned (.tuple #[]) ∧ w'.heap[b]? = some (.cells #[.pointer (some ⟨b, 0, none⟩), v] 143 (0, 0)) ∧ w'.ownsRow B 5 1 v bs.length bs ∧ BFr w w' b v v := by
  obtain ⟨j, hj, hjs⟩ := Option.map_eq_some_iff.1 Tryz.sizeBuilder
  have hne := bd_ne h
  obtain ⟨hB, ⟨p, hp, hbk⟩, hown⟩ := h
  have h0 : w.cell? ⟨b, 0, none⟩ = some p := by rw [Lib.cell_of_heap hbk]; rfl
  have hsh : w.shape? b = some (143, 2) := by simp [World.shape?, hbk]
  have hfz : w.frozen? ⟨b, 0, none⟩ = false := Lib.frozen_of_heap hbk 0
  rcases hp with rfl | rfl
  · have HF : Hid ((w.setCell ⟨b, 0, none⟩ (.pointer (some ⟨b, 0, none⟩))).heap[b]? = some (.cells #[.pointer (some ⟨b, 0, none⟩), v] 143 (0, 0)) ∧ (w.setCell ⟨b, 0, none⟩ (.pointer (some ⟨b, 0, none⟩))).ownsRow B 5 1 v bs.length bs ∧ BFr w (w.setCell ⟨b, 0, none⟩ (.pointer (some ⟨b, 0, none⟩))) b v v) := by
      refine ⟨by simp [World.setCell, Array.getElem?_modify, hbk], ?_, rfl, rfl, rfl, by simp [World.setCell], fun k hk hkb _ => Below.heap_setCell _ _ _ _ (by simpa using hkb), fun _ h => Or.inl h⟩
      refine hown.kept (w' := w.setCell ⟨b, 0, none⟩ (.pointer (some ⟨b, 0, none⟩))) (row := some b) ⟨rfl, rfl, rfl, by simp [World.setCell], fun k hk hkb => Below.heap_setCell _ _ _ _ (by simp at hkb; simpa using hkb)⟩ (Or.inr hne)
    have HOWN := hide hown
    clear hown
    go_enter Tryz.func100, Tryz.ntmps100
    go_wp2_with fail
    rw [Lib.run_to_unsafe w ⟨b, 0, none⟩ Tryz.underlying140 Tryz.underlying184 hj (by rw [hjs]; decide) hsh (Nat.zero_lt_succ 1)]
    simp only [Result.andThen]
    rw [Oper.upon_value]
    go_wp2_with fail
    rw [run_callFunc_extern Tryz.func115 (by kernel_rfl) (by kernel_rfl) (by kernel_rfl) (e := Extern.AbiNoEscape.same) (by kernel_rfl)]
    rw [Lib.run_noEscape]
    simp only [Result.andThen]
    rw [Oper.upon_value]
    go_wp2_with fail
    rw [Lib.run_from_unsafe w ⟨b, 0, none⟩ Tryz.underlying184 Tryz.underlying140 hj hsh Tryz.liesBuilder]
    simp only [Result.andThen]
    rw [Oper.upon_value]
    go_wp2_with fail
    go_end0
    exact ⟨rfl, HF.out⟩
  · have HOWN := hide hown
    go_enter Tryz.func100, Tryz.ntmps100
    go_wp2_with fail
    rw [Lib.run_neq_ptr_same w _ Tryz.underlying140 hj]
    go_wp2_with fail
    go_end0
    exact ⟨rfl, hbk, HOWN.out, BFr.refl _ _ _⟩

theorem bd_lt {w : World} {b : Nat} {o : Obj} (h : w.heap[b]? = some o) : b < w.heap.size := by
  apply Classical.byContradiction
  intro hn
  rw [Array.getElem?_eq_none (by omega)] at h; cases h

/-- Behind an append and the store of its slice. -/
theorem bd_put {w w2 : World} {B b : Nat} {bs bs' : List Value} {v v' : Value} (hB : B ≤ b) (hBw : B ≤ w.heap.size) (hbk : w.heap[b]? = some (.cells #[.pointer (some ⟨b, 0, none⟩), v] 143 (0, 0))) (hown : w.ownsRow B 5 1 v bs.length bs) (hown' : w2.ownsRow B 5 1 v' bs'.length bs') (hg : w.grownBy w2 v.ownBlock)
    (hat : ∀ k, v'.ownBlock = some k → v.ownBlock = some k ∨ w.heap.size ≤ k) : Bld (w2.setCell ⟨b, 1, none⟩ v') B b bs' v' ∧ BFr w (w2.setCell ⟨b, 1, none⟩ v') b v v' := by
  have hne : v.ownBlock ≠ some b := Lib.ownBlock_ne hown hbk (by decide)
  have hlt := bd_lt hbk
  have hb2 : w2.heap[b]? = some (.cells #[.pointer (some ⟨b, 0, none⟩), v] 143 (0, 0)) := by rw [hg.block b hlt (fun e => hne e.symm)]; exact hbk
  have hne' : v'.ownBlock ≠ some b := Lib.ownBlock_ne hown' hb2 (by decide)
  refine ⟨⟨hB, ⟨_, Or.inr rfl, by simp [World.setCell, Array.getElem?_modify, hb2]⟩, ?_⟩, hg.os, hg.tape, hg.output, by simp [World.setCell]; exact hg.size, fun k hk hkb hv => ?_, hat⟩
  · exact hown'.kept (w' := w2.setCell ⟨b, 1, none⟩ v') (row := some b) ⟨rfl, rfl, rfl, by simp [World.setCell], fun k hk hkb => Below.heap_setCell _ _ _ _ (by simp at hkb; simpa using hkb)⟩ (Or.inr hne')
  · rw [Below.heap_setCell _ _ _ _ (by simpa using hkb)]; exact hg.block k hk hv

/-- Where the row lies behind an append of a text's bytes. -/
theorem str_at {w w' : World} {B : Nat} {v v' : Value} {n : Nat} {xs : List Value} {s : ByteArray} {ty : TypeId} (hown : w.ownsRow B 5 1 v n xs) (hsm : n + s.size ≤ 2000000000) (hr : (Builtin.append_ #[141, 9] ty #[v, .string s]).run Tryz.prog w = .ok v' w')
    (hnil : v' = .slice none 0 0 ↔ v = .slice none 0 0 ∧ s.size = 0) : ∀ k, v'.ownBlock = some k → v.ownBlock = some k ∨ w.heap.size ≤ k := by
  obtain ⟨i0, hi, hz0, hz1, hz2⟩ := info_parts Tryz.infoByte
  have hsrc : Src Tryz.prog i0.size 9 (.string s) s.size (byteCells s) w := by rw [hz1]; exact Src.ofString w Tryz.underlying9 s
  have hlx := hown.1
  intro k hk
  rcases hown.2 with ⟨rfl, rfl⟩ | ⟨g, cap, cur, rfl, hBg, hh, hnc, hcm, hcs, htk⟩
  · by_cases h0 : s.size = 0
    · have := hnil.2 ⟨rfl, h0⟩
      rw [this] at hk; cases hk
    · have hg := run_append_grow_src (P := Tryz.prog) w 141 9 ty 5 i0 (.int .u8 0) Tryz.underlying141 hi hz0 none 0 0 [] (by simpa using run_firstCells_none w.drew i0.size 0 0 0) (.string s) s.size (byteCells s) hsrc (by omega) (by omega) (by rw [hz2]; have := growslice_fits (need := 0 + s.size) (old := 0) (bytes := 1) (by omega) (by omega); omega)
      rw [hr] at hg
      simp only [Result.ok.injEq] at hg
      rw [hg.1] at hk
      simp [Value.ownBlock] at hk
      right; omega
  · by_cases hroom : n + s.size ≤ cap
    · have hc : ∀ j, j < (byteCells s).length → (w.cell? ⟨g, 0 + n * i0.size + j, none⟩).isSome = true := fun j hj => by
        rw [byteCells_length] at hj
        rw [Lib.cell_of_heap hh, hz1]
        simp; omega
      have hf : ∀ j, j < (byteCells s).length → w.frozen? ⟨g, 0 + n * i0.size + j, none⟩ = false := fun j hj => Lib.frozen_of_heap hh _
      have hg := run_append_room_src (P := Tryz.prog) w 141 9 ty 5 i0 Tryz.underlying141 hi g 0 n cap (.string s) s.size (byteCells s) hsrc hroom hc hf
      rw [hr] at hg
      simp only [Result.ok.injEq] at hg
      rw [hg.1] at hk
      simp [Value.ownBlock] at hk
      left; simp [Value.ownBlock, hk]
    · have hfc := run_firstCells_some (P := Tryz.prog) w.drew i0.size n ⟨g, 0, none⟩ n cap xs (by rw [hz1]; exact hlx) (fun j u hj => by have := hown.cells (g := g) rfl j u hj; simpa using this)
      have hg := run_append_grow_src (P := Tryz.prog) w 141 9 ty 5 i0 (.int .u8 0) Tryz.underlying141 hi hz0 (some ⟨g, 0, none⟩) n cap xs hfc (.string s) s.size (byteCells s) hsrc (by omega) (by omega) (by rw [hz2]; have := growslice_fits (need := n + s.size) (old := cap) (bytes := 1) (by omega) (by omega); omega)
      rw [hr] at hg
      simp only [Result.ok.injEq] at hg
      rw [hg.1] at hk
      simp [Value.ownBlock] at hk
      right; omega

set_option maxHeartbeats 1000000 in
set_option maxRecDepth 100000 in
theorem writeByte_any (B b : Nat) (bs : List Value) (v : Value) (c : Int) (w : World) (h : Bld w B b bs v) (hlen : bs.length ≤ 1000000000) (hBw : B ≤ w.heap.size) :
    Calls Tryz.prog 91 #[.pointer (some ⟨b, 0, none⟩), .int .u8 c] w fun e w' => e = .returned .nilIface ∧ ∃ v', Bld w' B b (bs ++ [.int .u8 c]) v' ∧ BFr w w' b v v' := by
  obtain ⟨i0, hi, hz0, hz1, hz2⟩ := info_parts Tryz.infoByte
  have hB := h.1
  have H := hide h
  clear h
  go_enter Tryz.func91, Tryz.ntmps91
  go_wp2_with (go_at_call 100; refine (copyCheck_any B b bs v _ H.out).mono ?_)
  rintro e w1 ⟨rfl, hbk, hown, hfr⟩
  have c0 : w1.cell? ⟨b, 0, none⟩ = some (.pointer (some ⟨b, 0, none⟩)) := by rw [Lib.cell_of_heap hbk]; rfl
  have c1 : w1.cell? ⟨b, 1, none⟩ = some v := by rw [Lib.cell_of_heap hbk]; rfl
  have hlt := bd_lt hbk
  have hne : v.ownBlock ≠ some b := Lib.ownBlock_ne hown hbk (by decide)
  have hBw1 : B ≤ w1.heap.size := Nat.le_trans hBw hfr.2.2.2.1
  obtain ⟨g, cap, w2, hr2, hown2, hg2, hat2, _⟩ := run_append_lies (P := Tryz.prog) (w := w1.alloc (.cells #[.int .u8 c] 5)) 141 141 B 5 i0 _ 1 1 Tryz.underlying141 hi hz0 hz1 hz2 rfl (by decide) v bs.length bs (hown.alloc _)
    ⟨w1.heap.size, 0, none⟩ 1 1 [.int .u8 c] rfl (cell_one_new _ _ _) (fun x hx => by simp at hx; subst hx; rfl) (by decide) (by unfold maxLen; omega) (by omega) (by simp; omega) _ rfl
  have hg3 : w1.grownBy w2 v.ownBlock := grown_trans (grown_of_below ((Below.refl _ _).alloc (Nat.le_refl _) _) v.ownBlock) hg2 (fun k hk => Or.inl hk)
  have HPUT := hide (bd_put (bs' := bs ++ [.int .u8 c]) hB hBw1 hbk hown (by simpa using hown2) hg3 (fun k hk => by
    simp [Value.ownBlock] at hk
    subst hk
    rcases hat2 with e | e
    · exact Or.inl e
    · right; simp at e; omega))
  have hb2 : w2.heap[b]? = some (.cells #[.pointer (some ⟨b, 0, none⟩), v] 143 (0, 0)) := by rw [hg3.block b hlt (fun e => hne e.symm)]; exact hbk
  have d0 : w2.cell? ⟨b, 0, none⟩ = some (.pointer (some ⟨b, 0, none⟩)) := by rw [Lib.cell_of_heap hb2]; rfl
  have d1 : w2.cell? ⟨b, 1, none⟩ = some v := by rw [Lib.cell_of_heap hb2]; rfl
  have f1 : w2.frozen? ⟨b, 1, none⟩ = false := Lib.frozen_of_heap hb2 1
  have HR := hide hr2
  have HFR := hide hfr
  clear hr2 hown hown2 hg2 hg3 hat2 hbk hfr hb2
  go_wp2_with (at_builtin; refine wpList_append_eq rfl _ _ _ _ rfl rfl rfl HR.out ?_)
  go_ret
  exact ⟨rfl, _, HPUT.out.1, HFR.out.trans HPUT.out.2⟩

set_option maxHeartbeats 1000000 in
set_option maxRecDepth 100000 in
theorem writeString_any (B b : Nat) (bs : List Value) (v : Value) (s : ByteArray) (w : World) (h : Bld w B b bs v) (hlen : bs.length + s.size ≤ 1000000000) (hBw : B ≤ w.heap.size) :
    Calls Tryz.prog 90 #[.pointer (some ⟨b, 0, none⟩), .string s] w fun e w' => e = .returned (.tuple #[.int .i64 s.size, .nilIface]) ∧ ∃ v', Bld w' B b (bs ++ Lib.strCells s) v' ∧ BFr w w' b v v' := by
  obtain ⟨i0, hi, hz0, hz1, hz2⟩ := info_parts Tryz.infoByte
  have hB := h.1
  have H := hide h
  clear h
  go_enter Tryz.func90, Tryz.ntmps90
  go_wp2_with (go_at_call 100; refine (copyCheck_any B b bs v _ H.out).mono ?_)
  rintro e w1 ⟨rfl, hbk, hown, hfr⟩
  have c0 : w1.cell? ⟨b, 0, none⟩ = some (.pointer (some ⟨b, 0, none⟩)) := by rw [Lib.cell_of_heap hbk]; rfl
  have c1 : w1.cell? ⟨b, 1, none⟩ = some v := by rw [Lib.cell_of_heap hbk]; rfl
  have hlt := bd_lt hbk
  have hne : v.ownBlock ≠ some b := Lib.ownBlock_ne hown hbk (by decide)
  have hBw1 : B ≤ w1.heap.size := Nat.le_trans hBw hfr.2.2.2.1
  obtain ⟨v2, w2, hr2, hown2, hg2, hnil2⟩ := Lib.run_append_own_string (P := Tryz.prog) w1 B 141 9 141 5 i0 Tryz.underlying141 Tryz.underlying9 hi hz0 hz1 hz2 v bs.length bs hown s (by unfold maxLen; omega) (by omega) hBw1
  have hat := str_at hown (by omega) hr2 hnil2
  have HPUT := hide (bd_put (bs' := bs ++ Lib.strCells s) hB hBw1 hbk hown (by simpa [Lib.strCells_length] using hown2) hg2 hat)
  have hb2 : w2.heap[b]? = some (.cells #[.pointer (some ⟨b, 0, none⟩), v] 143 (0, 0)) := by rw [hg2.block b hlt (fun e => hne e.symm)]; exact hbk
  have d0 : w2.cell? ⟨b, 0, none⟩ = some (.pointer (some ⟨b, 0, none⟩)) := by rw [Lib.cell_of_heap hb2]; rfl
  have d1 : w2.cell? ⟨b, 1, none⟩ = some v := by rw [Lib.cell_of_heap hb2]; rfl
  have f1 : w2.frozen? ⟨b, 1, none⟩ = false := Lib.frozen_of_heap hb2 1
  obtain ⟨ao, n', cap, rfl⟩ : ∃ ao n' cap, v2 = .slice ao n' cap := by
    rcases hown2.2 with ⟨hv, _⟩ | ⟨g, cap, cur, hv, _⟩
    · exact ⟨_, _, _, hv⟩
    · exact ⟨_, _, _, hv⟩
  have HR := hide hr2
  have HFR := hide hfr
  clear hr2 hown hown2 hg2 hat hnil2 hbk hfr hb2
  go_wp2_with (at_builtin; refine wpList_append_eq rfl _ _ _ _ rfl rfl rfl HR.out ?_)
  go_ret2
  exact ⟨rfl, _, HPUT.out.1, HFR.out.trans HPUT.out.2⟩
#print axioms writeString_any
#print axioms copyCheck_any
#print axioms writeByte_any
end Go.Proofs.YteojdfmdhgnmfaaGreat

/- What comes of putting a term at a place. -/
namespace Go.Proofs.YteojdfmdhgnmfaaGreat

/-- The i-th of a list turned, counted from j on. -/
def putL (f : Tm → Tm) (i : Int) : Nat → List Tm → List Tm
  | _, [] => []
  | j, a :: r => (if (j : Int) = i then f a else a) :: putL f i (j + 1) r

/-- x at a place. -/
def putT (x : Tm) : List Int → Tm → Tm
  | [], _ => x
  | i :: r, t => ⟨t.name, putL (putT x r) i 0 t.args⟩

theorem putL_length (f : Tm → Tm) (i : Int) : ∀ (l : List Tm) (j : Nat), (putL f i j l).length = l.length
  | [], _ => rfl
  | a :: r, j => by simp [putL, putL_length f i r]

theorem putL_get (f : Tm → Tm) (i : Int) : ∀ (l : List Tm) (j k : Nat) (h : k < l.length), (putL f i j l)[k]'(by rw [putL_length]; exact h) = if ((j + k : Nat) : Int) = i then f l[k] else l[k]
  | [], j, k, h => by simp at h
  | a :: r, j, 0, h => by simp [putL]
  | a :: r, j, k + 1, h => by
    have := putL_get f i r (j + 1) k (by simpa using h)
    simp only [putL, List.getElem_cons_succ, this]
    rw [show j + 1 + k = j + (k + 1) by omega]

theorem putL_take (f : Tm → Tm) (i : Int) (l : List Tm) (k : Nat) (h : k < l.length) : (putL f i 0 l).take (k + 1) = (putL f i 0 l).take k ++ [if (k : Int) = i then f l[k] else l[k]] := by
  rw [List.take_succ_eq_append_getElem (by rw [putL_length]; exact h), putL_get f i l 0 k h, Nat.zero_add]
#print axioms putL_take
end Go.Proofs.YteojdfmdhgnmfaaGreat

/- A slice without its first. -/
namespace Go.Proofs.YteojdfmdhgnmfaaGreat
open Go.RowKit
set_option linter.unusedSimpArgs false
set_option linter.unusedVariables false

set_option maxRecDepth 8000 in
theorem slice_tail_run (b o n pc : Nat) (hn : n + 1 ≤ pc) (w' : World) : Sem.run Tryz.prog (Instr.slice 22 (.slice (some ⟨b, o, none⟩) (n + 1) pc) (some (.int .i64 1)) none none) w' = .ok (.slice (if pc = 1 then some ⟨b, o, none⟩ else some ⟨b, o + 1, none⟩) n (pc - 1)) w' := by
  have hle1 : (1 : Int) ≤ (n : Int) + 1 := by omega
  have e1 : (1 : Int) ≤ ((n + 1 : Nat) : Int) := by omega
  rw [run_slice_l (P := Tryz.prog) (ht := Tryz.underlying22) (h0 := by omega) (h1 := e1)]
  by_cases hpc : pc = 1
  · subst hpc
    simp [go_sem, sliced]
  · simp [go_sem, sliced, hpc]
#print axioms slice_tail_run
end Go.Proofs.YteojdfmdhgnmfaaGreat

/- The library's Clone at rows of terms. -/
namespace Go.Proofs.YteojdfmdhgnmfaaGreat
open Go.RowKit Go.Shelf
set_option linter.unusedSimpArgs false
set_option linter.unusedVariables false
set_option maxRecDepth 8000

def cl_ren : Go.Shelf.Ren := ⟨fun | 41 => 31 | n => n, fun | 22 => 23 | 23 => 25 | 4 => 4 | n => n, fun | n => n⟩
theorem cl_lays : Go.Proofs.SlLaysE0.n41 Tryz.prog cl_ren := {
  mixed := by kernel_rfl
  f41 := ⟨Tryz.f31.name, by decide, Tryz.func31.trans (congrArg some (by kernel_rfl))⟩
  t4 := Tryz.underlying4
  a4 := Tryz.isAgg4
  z4 := Tryz.sizeOf4
  v4 := Tryz.zeroValue4
  t22 := Tryz.underlying23
  a22 := Tryz.isAgg23
  z22 := Tryz.sizeOf23
  v22 := Tryz.zeroValue23 }
/-- A row of terms cloned: its cells lie in memory of the call's own. -/
theorem cloneT_any (b off n c : Nat) (news : List Value) (w : World) (hl : news.length = n * 2) (hn : n ≤ 1000000) (hc : ∀ j u, news[j]? = some u → w.cell? ⟨b, off + j, none⟩ = some u) (h1 : ∀ u ∈ news, u.oneCell' = true) :
    Calls Tryz.prog 31 #[.slice (some ⟨b, off, none⟩) n c] w fun e w' => ∃ v', e = .returned v' ∧ w'.ownsRow w.heap.size 25 2 v' n news ∧ v' ≠ .slice none 0 0 ∧ Below w.heap.size w w' := by
  obtain ⟨i0, hi, hz0, hz1, hz2⟩ := info_parts Tryz.infoTerm
  exact AnyE.slices_Clone cl_lays i0 _ 2 40 hi hz0 hz1 hz2 rfl (by decide) Tryz.sizeOf25 b off n c news w hl (by unfold maxLen; omega) (by omega) hc h1
#print axioms cloneT_any
end Go.Proofs.YteojdfmdhgnmfaaGreat

/- Walks: a term with another one at a place that it has. -/
namespace Go.Proofs.YteojdfmdhgnmfaaGreat
open Go.RowKit
set_option linter.unusedSimpArgs false
set_option linter.unusedVariables false
set_option maxRecDepth 8000

theorem RowT.put {w : World} {X : Nat → Prop} {y : Tm} {a : Option Addr} {c : Nat} (hy : Sl w X a y.args) : ∀ {l : List Tm} {xs : List Value} (k : Nat), RowT w X l xs → k < l.length → RowT w X (l.set k y) ((xs.set (k * 2) (.string y.name)).set (k * 2 + 1) (.slice a y.args.length c))
  | [], xs, k, h, hk => by simp at hk
  | t :: l, xs, 0, h, _ => by
    obtain ⟨a', c', r, rfl, h1, h2⟩ := h
    exact ⟨a, c, r, by simp, hy, h2⟩
  | t :: l, xs, k + 1, h, hk => by
    obtain ⟨a', c', r, rfl, h1, h2⟩ := h
    refine ⟨a', c', (r.set (k * 2) (.string y.name)).set (k * 2 + 1) (.slice a y.args.length c), ?_, h1, RowT.put hy k h2 (by simpa using hk)⟩
    have e : (k + 1) * 2 = k * 2 + 1 + 1 := by omega
    rw [e]
    simp
theorem putL_set (f : Tm → Tm) : ∀ (l : List Tm) (j k : Nat) (h : k < l.length), putL f ((j + k : Nat) : Int) j l = l.set k (f l[k])
  | [], j, k, h => by simp at h
  | a :: r, j, 0, h => by
    simp only [Nat.add_zero, putL, if_true, List.set_cons_zero, List.getElem_cons_zero]
    have : ∀ (r : List Tm) (m : Nat), j < m → putL f (j : Int) m r = r := fun r => by
      induction r with
      | nil => intro m _; rfl
      | cons b r ih => intro m hm; rw [putL, if_neg (by omega), ih (m + 1) (by omega)]
    rw [this r (j + 1) (by omega)]
  | a :: r, j, k + 1, h => by
    rw [putL, if_neg (by omega)]
    have := putL_set f r (j + 1) k (by simpa using h)
    rw [show j + (k + 1) = j + 1 + k by omega, this]
    simp

theorem owns_mono {w : World} {N M e z n : Nat} {v : Value} {xs : List Value} (h : w.ownsRow N e z v n xs) (hM : M ≤ N) : w.ownsRow M e z v n xs :=
  ⟨h.1, h.2.imp id fun ⟨g, cap, cur, h1, h2, h3⟩ => ⟨g, cap, cur, h1, Nat.le_trans hM h2, h3⟩⟩
theorem ownsRow_put2 {w : World} {N e z n G cap O i j : Nat} {u u' : Value} {xs : List Value} (h : w.ownsRow N e z (.slice (some ⟨G, 0, none⟩) n cap) n xs) (hO : O ≠ G) : ((w.setCell ⟨O, i, none⟩ u).setCell ⟨O, j, none⟩ u').ownsRow N e z (.slice (some ⟨G, 0, none⟩) n cap) n xs := by
  obtain ⟨hl, h1⟩ := h
  refine ⟨hl, ?_⟩
  rcases h1 with h1 | ⟨g, cap', cur, hv, hg, hh, hr⟩
  · exact Or.inl h1
  · refine Or.inr ⟨g, cap', cur, hv, hg, ?_, hr⟩
    have e : g = G := by simp at hv; exact hv.1.symm
    rw [Below.heap_setCell _ _ _ _ (by simp; omega), Below.heap_setCell _ _ _ _ (by simp; omega)]
    exact hh
/-- What has been laid. -/
def KpM (W : World) (N : Nat) (s : ByteArray) (n : Nat) (xs : List Value) (o7 : Value) (wc : World) : Prop :=
  ∃ G O cap : Nat, o7 = .pointer (some ⟨O, 0, none⟩) ∧ N ≤ G ∧ N ≤ O ∧ G ≠ O ∧ Blk wc O #[.string s, .slice (some ⟨G, 0, none⟩) n cap] 25 ∧ wc.ownsRow N 25 2 (.slice (some ⟨G, 0, none⟩) n cap) n xs ∧ Below N W wc
theorem kpM_last {W w1 : World} {N n G cap : Nat} {s : ByteArray} {xs : List Value} (hN : W.heap.size = N) (hown : w1.ownsRow N 25 2 (.slice (some ⟨G, 0, none⟩) n cap) n xs) (hb : Below N W w1) :
    KpM W N s n xs (.pointer (some ⟨w1.heap.size, 0, none⟩)) (w1.alloc (.cells #[.string s, .slice (some ⟨G, 0, none⟩) n cap] 25)) := by
  have hl := hown.lt G rfl
  have hs := hb.size
  exact ⟨G, w1.heap.size, cap, rfl, hl.1, by omega, by omega, Blk.new _ _ _, hown.alloc _, hb.alloc (by omega) _⟩
theorem kpM_first {W w1 : World} {N n G cap O : Nat} {s : ByteArray} {xs : List Value} (hO : N ≤ O) (hB : Blk w1 O #[.string ⟨#[]⟩, .slice none 0 0] 25) (hGO : O < G) (hown : w1.ownsRow N 25 2 (.slice (some ⟨G, 0, none⟩) n cap) n xs) (hb : Below N W w1) :
    KpM W N s n xs (.pointer (some ⟨O, 0, none⟩)) ((w1.setCell ⟨O, 0, none⟩ (.string s)).setCell ⟨O, 1, none⟩ (.slice (some ⟨G, 0, none⟩) n cap)) := by
  have hl := hown.lt G rfl
  refine ⟨G, O, cap, rfl, hl.1, hO, by omega, ?_, ownsRow_put2 hown (by omega), (hb.setCell (by simpa using hO) _).setCell (by simpa using hO) _⟩
  have := (hB.set 0 (.string s)).set 1 (.slice (some ⟨G, 0, none⟩) n cap)
  simpa using this
theorem kput_fin {w w5 : World} {X : Nat → Prop} {l : List Tm} {k G R M T n9 c9 : Nat} {xs : List Value} {cur : Array Value} {s9 : ByteArray} {a9 : Option Addr} {y : Tm} (hX : ∀ b, X b → b < w.heap.size) (hk : k < l.length) (hl : l.length ≤ 9223372036854775807) (hrt : RowT w X l xs) (hcx : cur.toList.take (l.length * 2) = xs) (hG : w.heap.size ≤ G) (hGM : G < M) (hR : w.heap.size ≤ R) (hRG : R ≠ G) (hRM : R < M) (GB : Blk w5 G cur T) (hb : Below w.heap.size w w5)
    (ht : TV w5 (fun b => (X b ∧ b < M) ∨ M ≤ b) (.agg #[.string s9, .slice a9 n9 c9]) y) : ∀ wF : World, (∀ b, b ≠ R → wF.heap[b]? = ((w5.setCell ⟨G, k * 2, none⟩ (.string s9)).setCell ⟨G, k * 2 + 1, none⟩ (.slice a9 n9 c9)).heap[b]?) → Sl wF (fun b => X b ∨ w.heap.size ≤ b) (some ⟨G, 0, none⟩) (l.set k y) := by
  intro wF hF
  obtain ⟨a', c', e, hs9⟩ := ht
  simp at e
  obtain ⟨rfl, rfl, rfl, rfl⟩ := e
  have keep : ∀ b, b ≠ G → b ≠ R → wF.heap[b]? = w5.heap[b]? := fun b h1 h2 => by
    rw [hF b h2, Below.heap_setCell _ _ _ _ (by simpa using h1), Below.heap_setCell _ _ _ _ (by simpa using h1)]
  have h1 : RowT wF (fun b => X b ∨ w.heap.size ≤ b) l xs := hrt.imp fun a kk hs => (hs.kept fun b hb2 => by
    have := hX b hb2
    rw [keep b (by omega) (by omega), hb.block b this]).mono fun b hb2 _ => Or.inl hb2
  have h2 : Sl wF (fun b => X b ∨ w.heap.size ≤ b) a9 y.args := (hs9.kept fun b hb2 => by
    rcases hb2 with hb2 | hb2
    · have := hX b hb2.1
      exact keep b (by omega) (by omega)
    · exact keep b (by omega) (by omega)).mono fun b hb2 _ => by
    rcases hb2 with hb2 | hb2
    · exact Or.inl hb2.1
    · exact Or.inr (by omega)
  have h3 := RowT.put (c := c9) h2 k h1 hk
  have hBF : Blk wF G ((cur.setIfInBounds (k * 2) (.string y.name)).setIfInBounds (k * 2 + 1) (.slice a9 y.args.length c9)) T := by
    have h4 := (GB.set (k * 2) (.string y.name)).set (k * 2 + 1) (.slice a9 y.args.length c9)
    unfold Blk at *
    rw [hF G (fun e => hRG e.symm)]
    exact h4
  refine ⟨by simpa using hl, Or.inr ⟨G, 0, rfl, lies_of_rowT G (Or.inr hG) _ _ 0 h3 (fun _ _ h => h) fun j u hj => ?_⟩⟩
  rw [Nat.zero_add]
  refine (hBF.cell j).trans ?_
  rw [← hcx, ← List.take_set, ← List.take_set, List.getElem?_take] at hj
  split at hj
  · rw [← Array.getElem?_toList]
    simpa using hj
  · cases hj
set_option maxHeartbeats 4000000 in
theorem kputY_any (x : Tm) (zs : List Int) : ∀ (t : Tm) (v p u : Value) (w : World) (X Y : Nat → Prop), TV w X v t → PV w Y p zs → TV w X u x → (atT t zs).isSome = true → sizeL [t] ≤ 1000000 →
    Calls Tryz.prog 18 #[v, p, u] w fun e w' => ∃ v', e = .returned v' ∧ TV w' (fun b => (X b ∧ b < w.heap.size) ∨ w.heap.size ≤ b) v' (putT x zs t) ∧ Below w.heap.size w w' := by
  induction zs with
  | nil =>
    intro t v p u w X Y hv hp hu hat hsm
    obtain ⟨a, c, rfl, hs⟩ := hv
    obtain ⟨ax, cx, rfl, hsx⟩ := hu
    obtain ⟨pa, pc, rfl, hzl, hz⟩ := hp
    have HU := hide hsx
    go_enter Tryz.func18, Tryz.ntmps18
    go_wp2_with fail
    refine bodyPost_ret (v := .agg #[.string x.name, .slice ax x.args.length cx]) (by simp [results, Tryz.results18, go_sem]) rfl ⟨_, rfl, ?_, ?_⟩
    · exact ⟨ax, cx, by simp [putT], (HU.out.mono (Y := fun b => (X b ∧ b < w.heap.size) ∨ w.heap.size ≤ b) fun b h1 h2 => Or.inl ⟨h1, h2⟩).later (below3 _ _ _)⟩
    · exact below3 _ _ _
  | cons z zs ih =>
    intro t v p u w X0 Y0 hv0 hp0 hu0 hat hsm
    have IH := hide ih
    clear ih
    obtain ⟨X, Y, hX, hYY, hXX, hv, hp, hu⟩ : ∃ X Y : Nat → Prop, (∀ b, X b → b < w.heap.size) ∧ (∀ b, Y b → b < w.heap.size) ∧ (∀ b, X b → X0 b) ∧ TV w X v t ∧ PV w Y p (z :: zs) ∧ TV w X u x := ⟨fun b => X0 b ∧ b < w.heap.size, fun b => Y0 b ∧ b < w.heap.size, fun _ h => h.2, fun _ h => h.2, fun _ h => h.1, hv0.mono fun b h1 h2 => ⟨h1, h2⟩, hp0.mono fun b h1 h2 => ⟨h1, h2⟩, hu0.mono fun b h1 h2 => ⟨h1, h2⟩⟩
    clear hv0 hp0 hu0
    obtain ⟨a, c, rfl, hs⟩ := hv
    obtain ⟨ax, cx, rfl, hsx⟩ := hu
    have HU := hide (show TV w X (.agg #[.string x.name, .slice ax x.args.length cx]) x from ⟨ax, cx, rfl, hsx⟩)
    clear hsx
    obtain ⟨pa, pc, rfl, hzl, hz⟩ := hp
    obtain ⟨b, o, rfl, hxb, hcell⟩ := hz.resolve_left (fun h => by cases h)
    have h0 := hcell 0 (by simp)
    simp only [Nat.add_zero, List.getElem_cons_zero] at h0
    have hzl' : zs.length + 1 ≤ 9223372036854775807 ∧ zs.length + 1 ≤ pc := by simpa using hzl
    obtain ⟨hzl1, hzl2⟩ := hzl'
    obtain ⟨s, l⟩ := t
    have hz1 : sizeL [(⟨s, l⟩ : Tm)] = 1 + sizeL l := by simp [sizeL]
    rw [hz1] at hsm
    clear hz1
    have hlen := sizeL_len l
    rw [atT] at hat
    split at hat
    case isFalse => cases hat
    case isTrue hzk =>
    obtain ⟨k, rfl⟩ : ∃ k : Nat, z = (k : Int) := ⟨z.toNat, by omega⟩
    have hk : k < l.length := by simpa using hzk.2
    have HAT : Hid ((atT l[k] zs).isSome = true) := hide (by simpa using hat)
    obtain ⟨sa, HSA, HT⟩ : ∃ sa : Option Addr, Hid ((if pc = 1 then some (⟨b, o, none⟩ : Addr) else some ⟨b, o + 1, none⟩) = sa) ∧ Hid (PV w Y (.slice sa zs.length (pc - 1)) zs) := by
      by_cases h1 : pc = 1
      · refine ⟨_, rfl, ?_⟩
        have : zs = [] := List.length_eq_zero_iff.1 (by omega)
        subst this
        exact ⟨_, _, rfl, by simp, Or.inl rfl⟩
      · refine ⟨_, rfl, ?_⟩
        rw [if_neg h1]
        exact PV.tail ⟨hzl1, hzl2⟩ hxb hcell
    simp only [List.length_cons] at *
    clear hcell hzl hz hat hzk
    go_enter Tryz.func18, Tryz.ntmps18
    go_upto_region 3 with fail
    have hB3 : Below w.heap.size w (((w.alloc (.cells #[.string s, .slice a l.length c] 25)).alloc (.cells #[.string x.name, .slice ax x.args.length cx] 25)).alloc (.cells #[.string ⟨#[]⟩, .slice none 0 0] 25)) := below3 _ _ _
    have hz3 : (((w.alloc (.cells #[.string s, .slice a l.length c] 25)).alloc (.cells #[.string x.name, .slice ax x.args.length cx] 25)).alloc (.cells #[.string ⟨#[]⟩, .slice none 0 0] 25)).heap.size = w.heap.size + 3 := by simp
    obtain ⟨ba, oa, rfl, hlies⟩ := hs.2.resolve_left (fun e => by rw [e] at hk; simp at hk)
    obtain ⟨xs, hrt, hxc⟩ := rowT_of_lies l ba oa hlies
    have HRT := hide hrt
    have hbal : ba < w.heap.size := hX _ (lies_get _ _ _ hlies 0 (by omega)).1
    have CL : Hid (∀ w', Below w.heap.size w w' → Calls Tryz.prog 31 #[.slice (some ⟨ba, oa, none⟩) l.length c] w' fun e w'' => ∃ G cap, e = .returned (.slice (some ⟨G, 0, none⟩) l.length cap) ∧ w''.ownsRow w'.heap.size 25 2 (.slice (some ⟨G, 0, none⟩) l.length cap) l.length xs ∧ Below w'.heap.size w' w'') := fun w' hb => by
      refine (cloneT_any ba oa l.length c xs w' hrt.len (by omega) (fun j u hj => (hb.cell (p := ⟨ba, oa + j, none⟩) hbal).trans (hxc j u hj)) hrt.one).mono ?_
      rintro e w'' ⟨v', rfl, ho, hne, hb2⟩
      rcases ho.2 with ⟨h1, _⟩ | ⟨g, cap, cur, hv, _⟩
      · exact absurd h1 hne
      · subst hv
        exact ⟨g, cap, rfl, ho, hb2⟩
    go_cut [7] (fun o7 wc => KpM (((w.alloc (.cells #[.string s, .slice (some ⟨ba, oa, none⟩) l.length c] 25)).alloc (.cells #[.string x.name, .slice ax x.args.length cx] 25)).alloc (.cells #[.string ⟨#[]⟩, .slice none 0 0] 25)) (w.heap.size + 3) s l.length xs o7 wc)
    case first =>
      have T3 : Blk (((w.alloc (.cells #[.string s, .slice (some ⟨ba, oa, none⟩) l.length c] 25)).alloc (.cells #[.string x.name, .slice ax x.args.length cx] 25)).alloc (.cells #[.string ⟨#[]⟩, .slice none 0 0] 25)) w.heap.size #[.string s, .slice (some ⟨ba, oa, none⟩) l.length c] 25 := ((Blk.new w _ _).alloc _).alloc _
      have HB3 := hide hB3
      generalize (((w.alloc (.cells #[.string s, .slice (some ⟨ba, oa, none⟩) l.length c] 25)).alloc (.cells #[.string x.name, .slice ax x.args.length cx] 25)).alloc (.cells #[.string ⟨#[]⟩, .slice none 0 0] 25)) = W at *
      have t0 : W.cell? ⟨w.heap.size, 0, none⟩ = some (.string s) := T3.cell 0
      have t1 : W.cell? ⟨w.heap.size, 1, none⟩ = some (.slice (some ⟨ba, oa, none⟩) l.length c) := T3.cell 1
      have HS0 := hide (And.intro t0 t1)
      have KP : Hid (∀ w', Below (w.heap.size + 3) W w' → w'.cell? ⟨w.heap.size, 0, none⟩ = some (.string s) ∧ w'.cell? ⟨w.heap.size, 1, none⟩ = some (.slice (some ⟨ba, oa, none⟩) l.length c)) := fun w' hb => ⟨(hb.cell (p := ⟨w.heap.size, 0, none⟩) (by simp)).trans t0, (hb.cell (p := ⟨w.heap.size, 1, none⟩) (by simp)).trans t1⟩
      have HD : Hid (Below (w.heap.size + 3) W W.drew) := (Below.refl _ _).drew
      have HA : Hid (∀ o, Below (w.heap.size + 3) W (W.drew.alloc o)) := fun o => ((Below.refl _ _).drew).alloc (by simp; omega) o
      have CL2 : Hid (∀ w', Below (w.heap.size + 3) W w' → Calls Tryz.prog 31 #[.slice (some ⟨ba, oa, none⟩) l.length c] w' fun e w'' => ∃ G cap, e = .returned (.slice (some ⟨G, 0, none⟩) l.length cap) ∧ w''.ownsRow w'.heap.size 25 2 (.slice (some ⟨G, 0, none⟩) l.length cap) l.length xs ∧ Below w'.heap.size w' w'' ∧ Below (w.heap.size + 3) W w'') := fun w' hb => (CL.out w' (HB3.out.trans (hb.mono (by omega)))).mono fun e w'' ⟨G, cap, h1, h2, h3⟩ => ⟨G, cap, h1, h2, h3, hb.trans (h3.mono (by have := hb.size; omega))⟩
      have HZ3 := hide hz3
      have nW : w.heap.size ≠ W.heap.size := by omega
      clear hz3
      go_region_held3 (fun w' => w'.cell? ⟨w.heap.size, 0, none⟩ = some (.string s) ∧ w'.cell? ⟨w.heap.size, 1, none⟩ = some (.slice (some ⟨ba, oa, none⟩) l.length c)) (first | exact hS | exact HS0.out | exact KP.out _ (HA.out _) | exact ⟨set2_keep hS.1 nW, set2_keep hS.2 nW⟩ | go_keep)
        (first
          | (go_at_call 31;
              first
                | (refine (CL2.out _ (by first | exact Below.refl _ _ | exact HD.out)).mono ?_; rintro e w5 ⟨G, cap, rfl, ho5, hb5, hB5⟩; have hS := KP.out _ hB5)
                | (refine (CL2.out _ (by exact HA.out (.cells #[.string ⟨#[]⟩, .slice none 0 0] 25))).mono ?_; rintro e w5 ⟨G, cap, rfl, ho5, hb5, hB5⟩; have hS := KP.out _ hB5; have QB : Blk w5 W.heap.size #[.string ⟨#[]⟩, .slice none 0 0] 25 := (Blk.new W.drew _ _).below hb5 (by simp); have q0 : w5.cell? ⟨W.heap.size, 0, none⟩ = some (.string ⟨#[]⟩) := QB.cell 0; have q1 : w5.cell? ⟨W.heap.size, 1, none⟩ = some (.slice none 0 0) := QB.cell 1; have qf := QB.frozen)))
      all_goals have hGl := ho5.lt G rfl
      all_goals go_wp2_with fail
      all_goals go_meet
      all_goals first
        | exact kpM_last (by exact HZ3.out) (owns_mono ho5 (by have := HZ3.out; simp; omega)) hB5
        | (have hz3 := HZ3.out; have e : W.heap.size = w.heap.size + 3 := hz3; exact kpM_first (by omega) QB (by have := hGl.1; simp at this; omega) (owns_mono ho5 (by simp; omega)) hB5)
    case rest =>
      obtain ⟨G, O, cap, rfl, hG3, hO3, hGO, hBO, hown, hbw⟩ := hcut
      have T3 : Blk (((w.alloc (.cells #[.string s, .slice (some ⟨ba, oa, none⟩) l.length c] 25)).alloc (.cells #[.string x.name, .slice ax x.args.length cx] 25)).alloc (.cells #[.string ⟨#[]⟩, .slice none 0 0] 25)) w.heap.size #[.string s, .slice (some ⟨ba, oa, none⟩) l.length c] 25 := ((Blk.new w _ _).alloc _).alloc _
      have X3 : Blk (((w.alloc (.cells #[.string s, .slice (some ⟨ba, oa, none⟩) l.length c] 25)).alloc (.cells #[.string x.name, .slice ax x.args.length cx] 25)).alloc (.cells #[.string ⟨#[]⟩, .slice none 0 0] 25)) (w.heap.size + 1) #[.string x.name, .slice ax x.args.length cx] 25 := by
        have := (Blk.new (w.alloc (.cells #[.string s, .slice (some ⟨ba, oa, none⟩) l.length c] 25)) #[.string x.name, .slice ax x.args.length cx] 25).alloc (.cells #[.string ⟨#[]⟩, .slice none 0 0] 25)
        rw [World.size_alloc] at this
        exact this
      have hbW : Below w.heap.size w wc := hB3.trans (hbw.mono (by omega))
      have c01 : wc.cell? ⟨w.heap.size, 1, none⟩ = some (.slice (some ⟨ba, oa, none⟩) l.length c) := (hbw.cell (p := ⟨w.heap.size, 1, none⟩) (by simp)).trans (T3.cell 1)
      have cz : wc.cell? ⟨b, o, none⟩ = some (.int .i64 (k : Int)) := (hbW.cell (p := ⟨b, o, none⟩) (by simpa using hYY b hxb)).trans h0
      have hkl : (k : Int) < (l.length : Int) := by omega
      have x0 : wc.cell? ⟨w.heap.size + 1, 0, none⟩ = some (.string x.name) := (hbw.cell (p := ⟨w.heap.size + 1, 0, none⟩) (by simp)).trans (X3.cell 0)
      have x1 : wc.cell? ⟨w.heap.size + 1, 1, none⟩ = some (.slice ax x.args.length cx) := (hbw.cell (p := ⟨w.heap.size + 1, 1, none⟩) (by simp)).trans (X3.cell 1)
      obtain ⟨b1, o1, a', c', hae, d0, d1, hx⟩ := hs.get hbW (fun b hb _ => hX b hb) k hk
      have eba : b1 = ba ∧ o1 = oa := by simp at hae; exact ⟨hae.1.symm, hae.2.symm⟩
      obtain ⟨rfl, rfl⟩ := eba
      have o1' : wc.cell? ⟨O, 1, none⟩ = some (.slice (some ⟨G, 0, none⟩) l.length cap) := hBO.cell 1
      have HX := hide hx
      have hszk : sizeL [l[k]] ≤ 1000000 := by
        have := sizeL_take l k hk; have := sizeL_take_le l (k + 1); omega
      have hslq : ∀ w' : World, Sem.run Tryz.prog (Instr.slice 22 (.slice (some ⟨b, o, none⟩) (zs.length + 1) pc) (some (.int .i64 1)) none none) w' = .ok (.slice sa zs.length (pc - 1)) w' := fun w' => by
        rw [slice_tail_run b o zs.length pc hzl2 w', HSA.out]
      have hnG : ∀ b, b < w.heap.size + 3 → b ≠ G := fun b hb => by omega
      have hlen9 := hs.1
      have hput : putT x ((k : Int) :: zs) ⟨s, l⟩ = ⟨s, l.set k (putT x zs l[k])⟩ := by
        have := putL_set (putT x zs) l 0 k hk
        rw [Nat.zero_add] at this
        rw [putT, this]
      have PU : Hid (∀ w', Below wc.heap.size wc w' → Calls Tryz.prog 18 #[.agg #[.string l[k].name, .slice a' l[k].args.length c'], .slice sa zs.length (pc - 1), .agg #[.string x.name, .slice ax x.args.length cx]] w' fun e w'' => ∃ s9 a9 n9 c9, e = .returned (.agg #[.string s9, .slice a9 n9 c9]) ∧ TV w'' (fun b => (X b ∧ b < w'.heap.size) ∨ w'.heap.size ≤ b) (.agg #[.string s9, .slice a9 n9 c9]) (putT x zs l[k]) ∧ Below wc.heap.size wc w'') := fun w' hb => by
        refine (IH.out l[k] _ _ _ w' X Y (HX.out.later hb) ((HT.out.later hbW).later hb) ((HU.out.later hbW).later hb) HAT.out hszk).mono ?_
        rintro e w'' ⟨v', rfl, ht, hb2⟩
        obtain ⟨a9, c9, rfl, hs9⟩ := ht
        exact ⟨_, a9, _, c9, rfl, ⟨a9, c9, rfl, hs9⟩, hb.trans (hb2.mono hb.size)⟩
      have hcs6 : wc.cell? ⟨O, 1, none⟩ = some (.slice (some ⟨G, 0, none⟩) l.length cap) ∧ wc.cell? ⟨w.heap.size, 1, none⟩ = some (.slice (some ⟨b1, o1, none⟩) l.length c) ∧ wc.cell? ⟨b1, o1 + k * 2, none⟩ = some (.string l[k].name) ∧ wc.cell? ⟨b1, o1 + k * 2 + 1, none⟩ = some (.slice a' l[k].args.length c') ∧ wc.cell? ⟨w.heap.size + 1, 0, none⟩ = some (.string x.name) ∧ wc.cell? ⟨w.heap.size + 1, 1, none⟩ = some (.slice ax x.args.length cx) := ⟨o1', c01, d0, d1, x0, x1⟩
      have HS0 := hide hcs6
      have hOl : O < wc.heap.size := hBO.lt
      have hszc : w.heap.size + 3 ≤ wc.heap.size := by have := hbw.size; omega
      have KP : Hid (∀ w', Below wc.heap.size wc w' → w'.cell? ⟨O, 1, none⟩ = some (.slice (some ⟨G, 0, none⟩) l.length cap) ∧ w'.cell? ⟨w.heap.size, 1, none⟩ = some (.slice (some ⟨b1, o1, none⟩) l.length c) ∧ w'.cell? ⟨b1, o1 + k * 2, none⟩ = some (.string l[k].name) ∧ w'.cell? ⟨b1, o1 + k * 2 + 1, none⟩ = some (.slice a' l[k].args.length c') ∧ w'.cell? ⟨w.heap.size + 1, 0, none⟩ = some (.string x.name) ∧ w'.cell? ⟨w.heap.size + 1, 1, none⟩ = some (.slice ax x.args.length cx)) := fun w' hb => ⟨(hb.cell (p := ⟨O, 1, none⟩) hOl).trans o1', (hb.cell (p := ⟨w.heap.size, 1, none⟩) (by simp; omega)).trans c01, (hb.cell (p := ⟨b1, o1 + k * 2, none⟩) (by simp; omega)).trans d0, (hb.cell (p := ⟨b1, o1 + k * 2 + 1, none⟩) (by simp; omega)).trans d1, (hb.cell (p := ⟨w.heap.size + 1, 0, none⟩) (by simp; omega)).trans x0, (hb.cell (p := ⟨w.heap.size + 1, 1, none⟩) (by simp; omega)).trans x1⟩
      obtain ⟨cur, hGb, hcur, hcx, hcap⟩ : ∃ cur : Array Value, Blk wc G cur 25 ∧ cur.size = cap * 2 ∧ cur.toList.take (l.length * 2) = xs ∧ l.length ≤ cap := by
        rcases hown.2 with ⟨h1, _⟩ | ⟨g, cap', cur, hv, _, hh, hnc, _, hz, ht⟩
        · cases h1
        · simp at hv
          obtain ⟨rfl, rfl⟩ := hv
          exact ⟨cur, hh, hz, ht, hnc⟩
      have HGB := hide hGb
      obtain ⟨y0, hy0⟩ : ∃ y, cur[k * 2]? = some y := ⟨_, Array.getElem?_eq_getElem (by omega)⟩
      obtain ⟨y1, hy1⟩ : ∃ y, cur[k * 2 + 1]? = some y := ⟨_, Array.getElem?_eq_getElem (by omega)⟩
      have nO : O ≠ G := fun e => hGO e.symm
      have n1 : w.heap.size ≠ G := by omega
      have n2 : b1 ≠ G := by omega
      have n3 : w.heap.size + 1 ≠ G := by omega
      have n4 : w.heap.size + 1 + 1 ≠ G := by omega
      have hRc : Blk wc (w.heap.size + 1 + 1) #[.string ⟨#[]⟩, .slice none 0 0] 25 := by
        have h1 := Blk.new ((w.alloc (.cells #[.string s, .slice (some ⟨b1, o1, none⟩) l.length c] 25)).alloc (.cells #[.string x.name, .slice ax x.args.length cx] 25)) #[.string ⟨#[]⟩, .slice none 0 0] 25
        rw [World.size_alloc, World.size_alloc] at h1
        unfold Blk at *
        rw [hbw.block _ (by omega)]
        exact h1
      have hGl : G < wc.heap.size := hGb.lt
      clear o1' c01 d0 d1 x0 x1 hcs6
      go_wp2_with fail
      go_region_held3 (fun w' => w'.cell? ⟨O, 1, none⟩ = some (.slice (some ⟨G, 0, none⟩) l.length cap) ∧ w'.cell? ⟨w.heap.size, 1, none⟩ = some (.slice (some ⟨b1, o1, none⟩) l.length c) ∧ w'.cell? ⟨b1, o1 + k * 2, none⟩ = some (.string l[k].name) ∧ w'.cell? ⟨b1, o1 + k * 2 + 1, none⟩ = some (.slice a' l[k].args.length c') ∧ w'.cell? ⟨w.heap.size + 1, 0, none⟩ = some (.string x.name) ∧ w'.cell? ⟨w.heap.size + 1, 1, none⟩ = some (.slice ax x.args.length cx)) (first | exact hS | exact HS0.out | exact ⟨set2_keep hS.1 nO, set2_keep hS.2.1 n1, set2_keep hS.2.2.1 n2, set2_keep hS.2.2.2.1 n2, set2_keep hS.2.2.2.2.1 n3, set2_keep hS.2.2.2.2.2 n3⟩ | go_keep)
        (first
          | (go_at_call 18; refine (PU.out _ (by first | exact Below.refl _ _ | exact (Below.refl _ _).drew)).mono ?_; rintro e w5 ⟨s9, a9, n9, c9, rfl, ht5, hb5⟩; have hS := KP.out _ hb5; have GB := HGB.out.below hb5 hGl; have gf := GB.frozen; have g0 : w5.cell? ⟨G, k * 2, none⟩ = some y0 := (GB.cell (k * 2)).trans hy0; have g1 : w5.cell? ⟨G, k * 2 + 1, none⟩ = some y1 := (GB.cell (k * 2 + 1)).trans hy1))
      all_goals
        have OB := (hBO.below hb5 hOl)
        have OB9 := (OB.setOther (k * 2) (.string s9) nO).setOther (k * 2 + 1) (.slice a9 n9 c9) nO
        have GB9 := (GB.set (k * 2) (.string s9)).set (k * 2 + 1) (.slice a9 n9 c9)
        have hR5 := ((hRc.below hb5 (by omega)).setOther (k * 2) (.string s9) n4).setOther (k * 2 + 1) (.slice a9 n9 c9) n4
        have hb9 : Below w.heap.size w ((w5.setCell ⟨G, k * 2, none⟩ (.string s9)).setCell ⟨G, k * 2 + 1, none⟩ (.slice a9 n9 c9)) := ((hbW.trans (hb5.mono (by omega))).setCell (p := ⟨G, k * 2, none⟩) (by simp; omega) _).setCell (p := ⟨G, k * 2 + 1, none⟩) (by simp; omega) _
        have HFIN := hide (kput_fin (R := w.heap.size + 1 + 1) hX hk hlen9 HRT.out hcx (by omega) (by exact hGl) (by omega) n4 (by have := hszc; simp; omega) GB (hbW.trans (hb5.mono (by omega))) ht5)
        have hGx9 := hb5.size
        generalize ((w5.setCell ⟨G, k * 2, none⟩ (.string s9)).setCell ⟨G, k * 2 + 1, none⟩ (.slice a9 n9 c9)) = w9 at *
        have u0 : w9.cell? ⟨O, 0, none⟩ = some (.string s) := OB9.cell 0
        have u1 : w9.cell? ⟨O, 1, none⟩ = some (.slice (some ⟨G, 0, none⟩) l.length cap) := OB9.cell 1
        have r20 : w9.cell? ⟨w.heap.size + 1 + 1, 0, none⟩ = some (.string ⟨#[]⟩) := hR5.cell 0
        have r21 : w9.cell? ⟨w.heap.size + 1 + 1, 1, none⟩ = some (.slice none 0 0) := hR5.cell 1
        have rf := hR5.frozen
        go_wp2_with fail
        refine bodyPost_ret (v := .agg #[.string s, .slice (some ⟨G, 0, none⟩) l.length cap]) (by simp [results, Tryz.results18, go_sem, r20, r21, World.cell?_setCell_same, World.cell?_setCell_other]) rfl ⟨_, rfl, ?_, ?_⟩
        · refine ⟨some ⟨G, 0, none⟩, cap, ?_, ?_⟩
          · rw [hput]; simp
          · rw [hput]
            exact (HFIN.out _ (fun b hb => by rw [Below.heap_setCell _ _ _ _ (by simpa using hb), Below.heap_setCell _ _ _ _ (by simpa using hb)])).mono fun b hb _ => hb.imp (fun h => ⟨hXX b h, hX b h⟩) id
        · exact (hb9.setCell (by simp; omega) _).setCell (by simp; omega) _
theorem kput_any (x : Tm) (zs : List Int) (t : Tm) (v p u : Value) (w : World) (X : Nat → Prop) (hv : TV w X v t) (hp : PV w X p zs) (hu : TV w X u x) (hat : (atT t zs).isSome = true) (hz : sizeL [t] ≤ 1000000) :
    Calls Tryz.prog 18 #[v, p, u] w fun e w' => ∃ v', e = .returned v' ∧ TV w' (fun b => (X b ∧ b < w.heap.size) ∨ w.heap.size ≤ b) v' (putT x zs t) ∧ Below w.heap.size w w' := kputY_any x zs t v p u w X X hv hp hu hat hz
#print axioms kput_any
end Go.Proofs.YteojdfmdhgnmfaaGreat


/- Walks: a term with another one at a place, as the document says. -/
namespace Go.Proofs.YteojdfmdhgnmfaaGreat
open Go.RowKit
set_option linter.unusedSimpArgs false
set_option linter.unusedVariables false
set_option maxRecDepth 8000

/-- What a round that appends does: the row at block M holds what is appended to. -/
theorem put_step {w wr w1 w3 : World} {M T : Nat} {Y : Nat → Prop} {u : Value} {L : List Tm} {t : Tm} {xs : List Value} {o2 : Obj} {s s' : ByteArray} {a1 : Option Addr} {n1 c1 g cap n : Nat} (hn : L.length = n) (hrow : Row wr (M + 1) T Y u L xs) (hb : Below w.heap.size w wr) (hM : w.heap.size ≤ M) (hY : ∀ b, Y b → b < w.heap.size)
    (h2 : Blk wr M #[.string s, u] T) (hsz : M + 1 ≤ wr.heap.size)
    (hb1 : Below wr.heap.size wr w1) (ht : TV w1 (fun b => Y b ∨ wr.heap.size ≤ b) (.agg #[.string s', .slice a1 n1 c1]) t)
    (hown : w3.ownsRow (M + 1) T 2 (.slice (some ⟨g, 0, none⟩) (n + 1) cap) (n + 1) (xs ++ [.string s', .slice a1 n1 c1])) (hg : (w1.alloc o2).grownBy w3 u.ownBlock) (hat : u.ownBlock = some g ∨ g = (w1.alloc o2).heap.size) :
    let w4 := w3.setCell ⟨M, 1, none⟩ (.slice (some ⟨g, 0, none⟩) (n + 1) cap)
    Row w4 (M + 1) T Y (.slice (some ⟨g, 0, none⟩) (n + 1) cap) (L ++ [t]) (xs ++ [.string s', .slice a1 n1 c1]) ∧ Below w.heap.size w w4 ∧ (∀ b cs, b < M → Blk wr b cs T → Blk w4 b cs T) ∧ Blk w4 M #[.string s, .slice (some ⟨g, 0, none⟩) (n + 1) cap] T ∧ M + 1 ≤ w4.heap.size := by
  intro w4
  subst hn
  have hlt' := hrow.own.lt
  have hs1 := hb1.size
  have hsg := hg.size
  simp at hsg
  have hp := hrow.push (w1 := w1) (w2 := w1.alloc o2) (w3 := w3) hsz (fun b h => by have := hY b h; omega) hb1 ht o2 rfl hown hg hat
  have hw3 : Below w.heap.size w w3 := ((hb.trans (hb1.mono hb.size)).alloc (by have := hb.size; omega) o2).grown hg (by have := hb.size; simp; omega) (fun j hj => by have := (hlt' j hj).1; omega)
  have hA : Below w.heap.size w w4 := hw3.setCell (p := ⟨M, 1, none⟩) hM _
  have hbk : ∀ b cs, b < M + 1 → Blk wr b cs T → Blk w3 b cs T := fun b cs hb h => ((h.below hb1 h.lt).alloc o2).grown hg (hrow.ne hb)
  refine ⟨hp.setCell (by omega) (fun h => by have := hY _ h; omega) _, hA, fun b cs hb h => (hbk b cs (by omega) h).setOther _ _ (by omega), (hbk _ _ (by omega) h2).set 1 _, by simp [w4, World.setCell]; omega⟩

theorem put_blk {wr w1 w3 : World} {o2 : Obj} {M T : Nat} {Y : Nat → Prop} {u : Value} {L : List Tm} {xs : List Value} {b : Nat} {cs : Array Value} (hrow : Row wr (M + 1) T Y u L xs) (h : Blk wr b cs T) (hb1 : Below wr.heap.size wr w1) (hg : (w1.alloc o2).grownBy w3 u.ownBlock) (hM : b < M + 1) : Blk w3 b cs T :=
  ((h.below hb1 h.lt).alloc o2).grown hg (hrow.ne hM)

theorem own_later {w w' : World} {N T size : Nat} {v : Value} {n : Nat} {xs : List Value} (h : w.ownsRow N T size v n xs) (hb : Below w.heap.size w w') : w'.ownsRow N T size v n xs :=
  h.kept (w' := w') (row := none) ⟨hb.os, hb.tape, hb.output, hb.size, fun j hj _ => hb.block j hj⟩ (by rcases Option.eq_none_or_eq_some (Value.ownBlock v) with h | ⟨x, h⟩; exact Or.inl h; exact Or.inr (by rw [h]; simp))

/-- What holds at each round's head of putting at a place. -/
def PutInv (w : World) (X : Nat → Prop) (x : Tm) (zs : List Int) (z : Int) (s : ByteArray) (l : List Tm) (a : Option Addr) (c : Nat) (ax : Option Addr) (cx : Nat) (i : Value) (wr : World) : Prop :=
  ∃ (k : Nat) (q : Value) (xs : List Value), k ≤ l.length ∧ i = .int .i64 k ∧ Row wr (w.heap.size + 1 + 1 + 1 + 1) 25 X q ((putL (putT x zs) z 0 l).take k) xs ∧ Below w.heap.size w wr ∧ Blk wr w.heap.size #[.string s, .slice a l.length c] 25 ∧ Blk wr (w.heap.size + 1) #[.string x.name, .slice ax x.args.length cx] 25 ∧ Blk wr (w.heap.size + 1 + 1) #[.string ⟨#[]⟩, .slice none 0 0] 25 ∧ Blk wr (w.heap.size + 1 + 1 + 1) #[.string s, q] 25 ∧ w.heap.size + 1 + 1 + 1 + 1 ≤ wr.heap.size

theorem two_one (s : ByteArray) (a : Option Addr) (n c : Nat) : ∀ u ∈ [Value.string s, .slice a n c], u.oneCell' = true := fun x hx => by
  simp at hx; rcases hx with rfl | rfl <;> rfl

theorem drew_below {wr w1 : World} (hb1 : Below wr.drew.heap.size wr.drew w1) : Below wr.heap.size wr w1 := (below_drewN (Below.refl _ _) 1).trans hb1

end Go.Proofs.YteojdfmdhgnmfaaGreat


/- Walks: two answers that are terms. -/
namespace Go.Proofs.YteojdfmdhgnmfaaGreat
open Go.RowKit
set_option linter.unusedSimpArgs false
set_option linter.unusedVariables false

end Go.Proofs.YteojdfmdhgnmfaaGreat

/- Walks: Put, and the law on it. -/
namespace Go.Proofs.YteojdfmdhgnmfaaGreat
open Go.RowKit
set_option linter.unusedSimpArgs false
set_option linter.unusedVariables false
set_option maxRecDepth 8000

/-- What is wrong with putting. -/
def putE (t : Tm) (zs : List Int) (x : Tm) : Int := if twoE t x = 0 then (if (atT t zs).isSome = true then 0 else 10) else twoE t x

theorem may_size {t : Tm} (h : mayE t = 0) : sizeL [t] ≤ 1000000 := by
  unfold mayE at h
  split at h
  · omega
  · omega

theorem may_le {t : Tm} (h : mayE t = 0) : sizeL [t] ≤ 400 := by
  unfold mayE at h
  split at h
  · omega
  · omega
theorem size_set : ∀ (l : List Tm) (k : Nat) (h : k < l.length) (y : Tm), sizeL (l.set k y) + sizeL [l[k]] = sizeL l + sizeL [y]
  | [], k, h, y => by simp at h
  | ⟨s, a⟩ :: l, 0, h, ⟨s', a'⟩ => by simp [sizeL]; omega
  | ⟨s, a⟩ :: l, k + 1, h, y => by
    have := size_set l k (by simpa using h) y
    simp only [List.set_cons_succ, List.getElem_cons_succ]
    have e1 : sizeL (⟨s, a⟩ :: l.set k y) = 1 + sizeL a + sizeL (l.set k y) := by simp [sizeL]
    have e2 : sizeL (⟨s, a⟩ :: l) = 1 + sizeL a + sizeL l := by simp [sizeL]
    omega
theorem putT_size (x : Tm) : ∀ (zs : List Int) (t : Tm), (atT t zs).isSome = true → sizeL [putT x zs t] ≤ sizeL [t] + sizeL [x]
  | [], t, _ => by simp [putT]
  | z :: zs, ⟨s, l⟩, h => by
    rw [atT] at h
    split at h
    case isFalse => cases h
    case isTrue hz =>
    obtain ⟨k, rfl⟩ : ∃ k : Nat, z = (k : Int) := ⟨z.toNat, by omega⟩
    have hk : k < l.length := by simpa using hz.2
    have ih := putT_size x zs l[k] (by simpa using h)
    have h1 := putL_set (putT x zs) l 0 k hk
    rw [Nat.zero_add] at h1
    rw [putT, h1]
    have h2 := size_set l k hk (putT x zs l[k])
    have e1 : sizeL [(⟨s, l.set k (putT x zs l[k])⟩ : Tm)] = 1 + sizeL (l.set k (putT x zs l[k])) := by simp [sizeL]
    have e2 : sizeL [(⟨s, l⟩ : Tm)] = 1 + sizeL l := by simp [sizeL]
    simp only [e1, e2]
    omega
theorem two_left {t x : Tm} (h : mayE t = 0) : twoE t x = mayE x := by simp [twoE, h]
theorem two_bad {t x : Tm} (h : mayE t ≠ 0) : twoE t x = mayE t := by simp [twoE, h]

theorem blks3 (w : World) (c1 c2 c3 : Array Value) (T : Nat) :
    Blk (((w.alloc (.cells c1 T)).alloc (.cells c2 T)).alloc (.cells c3 T)) w.heap.size c1 T ∧ Blk (((w.alloc (.cells c1 T)).alloc (.cells c2 T)).alloc (.cells c3 T)) (w.heap.size + 1) c2 T ∧ Blk (((w.alloc (.cells c1 T)).alloc (.cells c2 T)).alloc (.cells c3 T)) (w.heap.size + 1 + 1) c3 T := by
  refine ⟨(((Blk.new w c1 T).alloc _).alloc _), ?_, ?_⟩
  · have := ((Blk.new (w.alloc (.cells c1 T)) c2 T).alloc (.cells c3 T))
    simp at this; exact this
  · have := (Blk.new ((w.alloc (.cells c1 T)).alloc (.cells c2 T)) c3 T)
    simp at this; exact this

set_option maxHeartbeats 1000000 in
theorem put_any (t x : Tm) (zs : List Int) (v p u : Value) (w : World) (X : Nat → Prop) (hv : TV w X v t) (hp : PV w X p zs) (hu : TV w X u x) :
    Calls Tryz.prog 9 #[v, p, u] w fun e w' => ∃ v', e = .returned (.tuple #[v', .int .i64 (putE t zs x)]) ∧ (putE t zs x = 0 → TV w' (fun b => w.heap.size ≤ b) v' (putT x zs t)) ∧ (putE t zs x ≠ 0 → v' = zeroT) ∧ Below w.heap.size w w' := by
  obtain ⟨a, c, rfl, hs⟩ := hv
  obtain ⟨ax, cx, rfl, hsx⟩ := hu
  obtain ⟨pa, pc, rfl, hpr⟩ := hp
  have HV := hide (show TV w X (.agg #[.string t.name, .slice a t.args.length c]) t from ⟨a, c, rfl, hs⟩)
  have HU := hide (show TV w X (.agg #[.string x.name, .slice ax x.args.length cx]) x from ⟨ax, cx, rfl, hsx⟩)
  have HP := hide (show PV w X (.slice pa zs.length pc) zs from ⟨pa, pc, rfl, hpr⟩)
  clear hs hsx hpr
  go_enter Tryz.func9, Tryz.ntmps9
  go_wp2_with fail
  refine (check_any t _ _ X (by exact HV.out.later (below3 _ _ _))).mono ?_
  rintro e w1 ⟨rfl, hb1⟩
  obtain ⟨k1, k2, k3⟩ := blks3 w #[.string t.name, .slice a t.args.length c] #[.string x.name, .slice ax x.args.length cx] #[.string ⟨#[]⟩, .slice none 0 0] 25
  have B1 := hide (k1.below hb1 k1.lt)
  have B2 := hide (k2.below hb1 k2.lt)
  have B3 := hide (k3.below hb1 k3.lt)
  have HW1 := hide ((below3 (w := w) (.cells #[.string t.name, .slice a t.args.length c] 25) (.cells #[.string x.name, .slice ax x.args.length cx] 25) (.cells #[.string ⟨#[]⟩, .slice none 0 0] 25)).trans (hb1.mono (by simp; omega)))
  clear k1 k2 k3 hb1
  by_cases h1 : mayE t = 0
  · have HT := hide (two_left (x := x) h1)
    have HS1 := hide (may_size h1)
    have HL1 := hide (may_le h1)
    rw [h1]
    clear h1
    have x0 : w1.cell? ⟨w.heap.size + 1, 0, none⟩ = some (.string x.name) := B2.out.cell 0
    have x1 : w1.cell? ⟨w.heap.size + 1, 1, none⟩ = some (.slice ax x.args.length cx) := B2.out.cell 1
    go_wp2_with fail
    refine (check_any x _ _ X (by exact HU.out.later HW1.out)).mono ?_
    rintro e w2 ⟨rfl, hb2⟩
    have C1 := hide (B1.out.below hb2 B1.out.lt)
    have C2 := hide (B2.out.below hb2 B2.out.lt)
    have C3 := hide (B3.out.below hb2 B3.out.lt)
    have HW2 := hide (HW1.out.trans (hb2.mono HW1.out.size))
    clear hb2 x0 x1
    by_cases h2 : mayE x = 0
    · have HZ : Hid (twoE t x = 0) := by unfold Hid; rw [HT.out, h2]
      have HS2 := hide (may_size h2)
      have HL2 := hide (may_le h2)
      rw [h2]
      clear h2
      have x0 : w2.cell? ⟨w.heap.size, 0, none⟩ = some (.string t.name) := C1.out.cell 0
      have x1 : w2.cell? ⟨w.heap.size, 1, none⟩ = some (.slice a t.args.length c) := C1.out.cell 1
      go_wp2_with fail
      refine (find_any t zs _ _ _ X (by exact HV.out.later HW2.out) (by exact HP.out.later HW2.out)).mono ?_
      rintro e w3 ⟨v3, rfl, hyes, hno, hb3⟩
      obtain ⟨s3, a3, n3, c3, rfl⟩ := tvform hyes hno
      have D1 := hide (C1.out.below hb3 C1.out.lt)
      have D2 := hide (C2.out.below hb3 C2.out.lt)
      have D3 := hide (C3.out.below hb3 C3.out.lt)
      have HW3 := hide (HW2.out.trans (hb3.mono HW2.out.size))
      clear hb3 x0 x1 hyes hno
      cases hat : atT t zs with
      | none =>
        have HE : Hid (10 = putE t zs x) := by simp [Hid, putE, HZ.out, hat]
        have hne : putE t zs x ≠ 0 := by rw [← HE.out]; decide
        have r0 := fun o => (D3.out.alloc o).cell 0
        have r1 := fun o => (D3.out.alloc o).cell 1
        have rf := fun o => (D3.out.alloc o).frozen
        simp only [Option.isSome_none]
        go_wp2_with fail
        refine bodyPost_ret (v := .tuple #[zeroT, .int .i64 10]) (by simp [results, Tryz.results9, go_sem, zeroT, r0, r1, World.cell?_setCell_same, World.cell?_setCell_other]) rfl ⟨_, by rw [← HE.out], fun h => absurd h hne, fun _ => rfl, ?_⟩
        exact ((HW3.out.alloc HW3.out.size _).setCell (by simp; omega) _).setCell (by simp; omega) _
      | some y =>
        have HE : Hid (0 = putE t zs x) := by simp [Hid, putE, HZ.out, hat]
        have x0 := fun o => (D1.out.alloc o).cell 0
        have x1 := fun o => (D1.out.alloc o).cell 1
        have y0 := fun o => (D2.out.alloc o).cell 0
        have y1 := fun o => (D2.out.alloc o).cell 1
        simp only [Option.isSome_some]
        have hb4 := fun o => HW3.out.alloc HW3.out.size o
        have HB4 := hide hb4
        clear hb4
        go_wp2_with fail
        refine (kput_any x zs t _ _ _ _ X (by exact HV.out.later (HB4.out _)) (by exact HP.out.later (HB4.out _)) (by exact HU.out.later (HB4.out _)) (by rw [hat]; rfl) HS1.out).mono ?_
        rintro e w4 ⟨v4, rfl, ht4, hb4⟩
        have HZP := hide (putT_size x zs t (by rw [hat]; rfl))
        have HT4 := hide ht4
        obtain ⟨a4, c4, rfl, hs4⟩ := ht4
        clear hs4
        have hzb := hb4.size
        have HB44 := hide hb4
        clear hb4
        go_wp2_with fail
        refine (copyOf_any (putT x zs t) _ w4 _ HT4.out (by have := HZP.out; have := HL1.out; have := HL2.out; omega)).mono ?_
        rintro e w5 ⟨v5, rfl, ht5, hb5c⟩
        have hb5 := HB44.out.trans (hb5c.mono HB44.out.size)
        obtain ⟨a5, c5, rfl, hs5⟩ := ht5
        have E3 := hide ((D3.out.alloc _).below hb5 (by have := D3.out.lt; simp; omega))
        have r0 : w5.cell? ⟨w.heap.size + 1 + 1, 0, none⟩ = some (.string ⟨#[]⟩) := E3.out.cell 0
        have r1 : w5.cell? ⟨w.heap.size + 1 + 1, 1, none⟩ = some (.slice none 0 0) := E3.out.cell 1
        have rf := E3.out.frozen
        have HW5 := hide ((HB4.out _).trans (hb5.mono (by have := HW3.out.size; simp; omega)))
        have HS5 := hide hs5
        clear hs5 hb5 x0 x1 y0 y1
        generalize hn5 : (putT x zs t).name = s5
        generalize hl5 : (putT x zs t).args.length = n5
        go_wp2_with fail
        refine bodyPost_ret (v := .tuple #[.agg #[.string s5, .slice a5 n5 c5], .int .i64 0]) (by simp [results, Tryz.results9, go_sem, r0, r1, World.cell?_setCell_same, World.cell?_setCell_other]) rfl ⟨_, by rw [← HE.out], fun _ => ?_, fun h => absurd HE.out.symm h, ?_⟩
        · refine ⟨a5, c5, by rw [hn5, hl5], ?_⟩
          have hk : Sl w5 (fun b => w3.heap.size + 1 ≤ b) a5 (putT x zs t).args := HS5.out.mono fun b h _ => by simp at hzb; omega
          have hsz3 := D3.out.lt
          have hsz4 := HW3.out.size
          exact (hk.kept fun b hb => by rw [Below.heap_setCell _ _ _ _ (by simp; omega), Below.heap_setCell _ _ _ _ (by simp; omega)]).mono fun b hb _ => by omega
        · exact (HW5.out.setCell (by simp; omega) _).setCell (by simp; omega) _
    · have HE : Hid (mayE x = putE t zs x) := by
        have : twoE t x ≠ 0 := by rw [HT.out]; exact h2
        unfold Hid putE; rw [if_neg this, HT.out]
      have hne : putE t zs x ≠ 0 := by rw [← HE.out]; exact h2
      have h2' : (mayE x == 0) = false := by simpa using h2
      have r0 : w2.cell? ⟨w.heap.size + 1 + 1, 0, none⟩ = some (.string ⟨#[]⟩) := C3.out.cell 0
      have r1 : w2.cell? ⟨w.heap.size + 1 + 1, 1, none⟩ = some (.slice none 0 0) := C3.out.cell 1
      have rf := C3.out.frozen
      clear h2
      go_wp2_with fail
      refine bodyPost_ret (v := .tuple #[zeroT, .int .i64 (mayE x)]) (by simp [results, Tryz.results9, go_sem, zeroT, r0, r1, World.cell?_setCell_same, World.cell?_setCell_other]) rfl ⟨_, by rw [← HE.out], fun h => absurd h hne, fun _ => rfl, ?_⟩
      exact (HW2.out.setCell (by simp; omega) _).setCell (by simp; omega) _
  · have HE : Hid (mayE t = putE t zs x) := by
      have : twoE t x ≠ 0 := by rw [two_bad h1]; exact h1
      unfold Hid putE; rw [if_neg this, two_bad h1]
    have hne : putE t zs x ≠ 0 := by rw [← HE.out]; exact h1
    have h1' : (mayE t == 0) = false := by simpa using h1
    have r0 : w1.cell? ⟨w.heap.size + 1 + 1, 0, none⟩ = some (.string ⟨#[]⟩) := B3.out.cell 0
    have r1 : w1.cell? ⟨w.heap.size + 1 + 1, 1, none⟩ = some (.slice none 0 0) := B3.out.cell 1
    have rf := B3.out.frozen
    clear h1
    go_wp2_with fail
    refine bodyPost_ret (v := .tuple #[zeroT, .int .i64 (mayE t)]) (by simp [results, Tryz.results9, go_sem, zeroT, r0, r1, World.cell?_setCell_same, World.cell?_setCell_other]) rfl ⟨_, by rw [← HE.out], fun h => absurd h hne, fun _ => rfl, ?_⟩
    exact (HW1.out.setCell (by simp; omega) _).setCell (by simp; omega) _
#print axioms put_any
end Go.Proofs.YteojdfmdhgnmfaaGreat

/- Walks: the text of a term, as the program writes it. -/
namespace Go.Proofs.YteojdfmdhgnmfaaGreat
open Go.RowKit
set_option linter.unusedSimpArgs false
set_option linter.unusedVariables false
set_option maxRecDepth 8000

theorem TV.bfr {w w' : World} {X : Nat → Prop} {v q q' : Value} {t : Tm} {b : Nat} (h : TV w X v t) (hf : BFr w w' b q q') (hX : ∀ x, X x → x ≠ b ∧ some x ≠ q.ownBlock) : TV w' X v t := by
  have h1 : TV w (fun x => X x ∧ x < w.heap.size) v t := h.mono fun b h1 h2 => ⟨h1, h2⟩
  have h2 : TV w' (fun x => X x ∧ x < w.heap.size) v t := h1.kept fun x hx => hf.2.2.2.2.1 x hx.2 (hX x hx.1).1 (hX x hx.1).2
  exact h2.mono fun b hx _ => hx.1
theorem Sl.bfr {w w' : World} {X : Nat → Prop} {a : Option Addr} {q q' : Value} {l : List Tm} {b : Nat} (h : Sl w X a l) (hf : BFr w w' b q q') (hX : ∀ x, X x → x ≠ b ∧ some x ≠ q.ownBlock) : Sl w' X a l := by
  have h1 : Sl w (fun x => X x ∧ x < w.heap.size) a l := h.mono fun b h1 h2 => ⟨h1, h2⟩
  have h2 : Sl w' (fun x => X x ∧ x < w.heap.size) a l := h1.kept fun x hx => hf.2.2.2.2.1 x hx.2 (hX x hx.1).1 (hX x hx.1).2
  exact h2.mono fun b hx _ => hx.1
theorem Bld.alloc {w : World} {B b : Nat} {bs : List Value} {v : Value} (h : Bld w B b bs v) (o : Obj) : Bld (w.alloc o) B b bs v := by
  obtain ⟨hB, ⟨p, hp, hb⟩, hown⟩ := h
  exact ⟨hB, ⟨p, hp, by rw [Below.heap_alloc _ _ _ (bd_lt hb)]; exact hb⟩, hown.alloc o⟩
theorem Bld.lt {w : World} {B b : Nat} {bs : List Value} {v : Value} (h : Bld w B b bs v) : b < w.heap.size := by
  obtain ⟨_, ⟨p, _, hb⟩, _⟩ := h
  exact bd_lt hb
theorem Bld.old {w : World} {B b : Nat} {bs : List Value} {v : Value} (h : Bld w B b bs v) {x : Nat} (hx : x < B) : x ≠ b ∧ some x ≠ v.ownBlock := by
  refine ⟨by have := h.1; omega, fun e => ?_⟩
  have := (h.2.2.lt x e.symm).1; omega
theorem Blk.bfr {w w' : World} {b k T : Nat} {q q' : Value} {cs : Array Value} (h : Blk w k cs T) (hf : BFr w w' b q q') (hk : k ≠ b) (hq : some k ≠ q.ownBlock) : Blk w' k cs T := by
  unfold Blk at *; rw [hf.2.2.2.2.1 k (Blk.lt h) hk hq]; exact h

def bytesV (l : List UInt8) : List Value := l.map fun b => Value.int .u8 b.toNat
theorem bytesV_len (l : List UInt8) : (bytesV l).length = l.length := by simp [bytesV]
theorem bytesV_str (pre : List UInt8) (s : ByteArray) : bytesV pre ++ Lib.strCells s = bytesV (pre ++ s.data.toList) := by simp [bytesV, Lib.strCells]
theorem bytesV_one (pre : List UInt8) (c : UInt8) : bytesV pre ++ [.int .u8 c.toNat] = bytesV (pre ++ [c]) := by simp [bytesV]

/-- The new box is none of the Builder's. -/
theorem Bld.box {w : World} {B b : Nat} {bs : List Value} {v : Value} (h : Bld w B b bs v) : w.heap.size ≠ b ∧ some w.heap.size ≠ v.ownBlock := by
  refine ⟨by have := h.lt; omega, fun e => ?_⟩
  have := (h.2.2.lt _ e.symm).2; omega

theorem own_box {w wr : World} {b : Nat} {q0 q : Value} {o : Obj} (h : some w.heap.size ≠ q0.ownBlock) (hf : BFr (w.alloc o) wr b q0 q) : some w.heap.size ≠ q.ownBlock := fun e => by
  rcases hf.2.2.2.2.2 _ e.symm with h1 | h1
  · exact h h1.symm
  · simp at h1; omega

/-- What holds at each round's head of writing. -/
def WrInv (w : World) (B b : Nat) (v0 : Value) (pre : List UInt8) (s : ByteArray) (l : List Tm) (i : Value) (wr : World) : Prop :=
  ∃ (k : Nat) (q : Value), k ≤ l.length ∧ i = .int .i64 k ∧ Bld wr B b (bytesV (pre ++ s.data.toList ++ 40 :: txtL (l.take k))) q ∧ BFr w wr b v0 q

theorem wr_take0 (pre : List UInt8) (s : ByteArray) (l : List Tm) : pre ++ s.data.toList ++ ([40] : List UInt8) = pre ++ s.data.toList ++ 40 :: txtL (l.take 0) := by simp [txtL]
theorem wr_take1 (pre : List UInt8) (s : ByteArray) (l : List Tm) (h : 0 < l.length) : pre ++ s.data.toList ++ 40 :: txtL (l.take 0) ++ txtL [l[0]'h] = pre ++ s.data.toList ++ 40 :: txtL (l.take (0 + 1)) := by
  rw [List.take_succ_eq_append_getElem h]; simp [txtL]
theorem wr_takeS (pre : List UInt8) (s : ByteArray) (l : List Tm) (k : Nat) (hk : 0 < k) (h : k < l.length) : pre ++ s.data.toList ++ 40 :: txtL (l.take k) ++ ([44] : List UInt8) ++ txtL [l[k]] = pre ++ s.data.toList ++ 40 :: txtL (l.take (k + 1)) := by
  have h1 : l.take k ≠ [] := by
    intro e
    have h3 := congrArg List.length e
    rw [List.length_take] at h3
    simp only [List.length_nil] at h3
    omega
  rw [List.take_succ_eq_append_getElem h, txtL_append _ _ h1 (by simp)]; simp
theorem wr_end (pre : List UInt8) (s : ByteArray) (l : List Tm) (h : l ≠ []) : pre ++ s.data.toList ++ 40 :: txtL l ++ ([41] : List UInt8) = pre ++ txtL [(⟨s, l⟩ : Tm)] := by
  rw [txtL_one, if_neg (by simpa using h)]; simp
theorem wr_len (pre : List UInt8) (s : ByteArray) (l : List Tm) (k : Nat) (h : l ≠ []) (hk : k ≤ l.length) : (pre ++ s.data.toList ++ 40 :: txtL (l.take k)).length ≤ pre.length + (txtL [(⟨s, l⟩ : Tm)]).length := by
  by_cases h0 : k = 0
  · subst h0
    rw [txtL_one, if_neg (by simpa using h)]
    simp [txtL]
  · have h1 := txtTo_len s l k hk
    unfold txtTo at h1
    rw [if_neg h0] at h1
    simp only [List.length_append] at *
    omega

set_option maxHeartbeats 2000000 in
theorem write_any (t : Tm) : ∀ (v q0 : Value) (pre : List UInt8) (B b : Nat) (w : World) (X : Nat → Prop), TV w X v t → (∀ x, X x → x < B) → Bld w B b (bytesV pre) q0 → B ≤ w.heap.size → pre.length + (txtL [t]).length ≤ 900000000 →
    Calls Tryz.prog 78 #[.pointer (some ⟨b, 0, none⟩), v] w fun e w' => e = .returned (.tuple #[]) ∧ ∃ q, Bld w' B b (bytesV (pre ++ txtL [t])) q ∧ BFr w w' b q0 q := by
  induction t using Tm.ind with
  | h s l ih =>
    intro v q0 pre B b w X hv hX hbd hB hsm
    have IH := hide ih
    clear ih
    obtain ⟨a, c, rfl, hs⟩ := hv
    have hl := hs.1
    have hsz : s.size ≤ (txtL [(⟨s, l⟩ : Tm)]).length := by
      rw [txtL_one]; have h2 : s.data.toList.length = s.size := by rw [Array.length_toList]; rfl
      simp only [List.length_append]; omega
    have HBD := hide hbd
    have hbox := hbd.box
    clear hbd
    go_enter Tryz.func78, Tryz.ntmps78
    go_wp2_with fail
    refine (writeString_any B b _ q0 s _ (by exact HBD.out.alloc _) (by rw [bytesV_len]; omega) (by simp; omega)).mono ?_
    rintro e w1 ⟨rfl, q1, hbd1, hfr1⟩
    rw [bytesV_str] at hbd1
    have K1 := hide ((Blk.new w #[.string s, .slice a l.length c] 25).bfr hfr1 hbox.1 hbox.2)
    have HFR1 := hide hfr1
    have HW0 := hide (BFr.of_below ((Below.refl w.heap.size w).alloc (Nat.le_refl _) (.cells #[.string s, .slice a l.length c] 25)) b q0)
    have c1 : w1.cell? ⟨w.heap.size, 1, none⟩ = some (.slice a l.length c) := K1.out.cell 1
    have HBD1 := hide hbd1
    clear hfr1 hbd1
    by_cases hn : l = []
    · subst hn
      have HE := hide (txt_nil s)
      go_wp2_with fail
      refine bodyPost_ret (v := .tuple #[]) (by simp [results, Tryz.results78, go_sem]) rfl ?_
      exact ⟨rfl, q1, by rw [HE.out]; exact HBD1.out, HW0.out.trans HFR1.out⟩
    · have hlp : 0 < l.length := List.length_pos_iff.2 hn
      have hlp' : (((l.length : Nat) : Int) == 0) = false := by simp; omega
      have HN := hide hn
      have hw0 := wr_len pre s l 0 hn (Nat.zero_le _)
      have hp1 : (bytesV (pre ++ s.data.toList)).length ≤ 900000000 := by rw [bytesV_len]; simp only [List.length_append, List.length_cons] at hw0 ⊢; omega
      clear hn hw0
      go_wp2_with fail
      refine (writeByte_any B b _ q1 40 _ (by exact HBD1.out) (by omega) (by have := HFR1.out.2.2.2.1; simp at this; omega)).mono ?_
      rintro e w2 ⟨rfl, q2, hbd2, hfr2⟩
      have hbd2' : Bld w2 B b (bytesV (pre ++ s.data.toList ++ 40 :: txtL (l.take 0))) q2 := by
        have h3 := bytesV_one (pre ++ s.data.toList) 40
        rw [← wr_take0, ← h3]; exact hbd2
      have HBD2 := hide hbd2'
      have HFR2 := hide (HFR1.out.trans hfr2)
      have K2 := hide (K1.out.bfr hfr2 hbox.1 (own_box hbox.2 HFR1.out))
      have c2 : w2.cell? ⟨w.heap.size, 1, none⟩ = some (.slice a l.length c) := K2.out.cell 1
      clear hbd2 hbd2' hfr2 c1
      go_wp2_with fail
      go_loopw [19] (fun i wr => WrInv (w.alloc (.cells #[.string s, .slice a l.length c] 25)) B b q0 pre s l i wr) (fun i wr => l.length - (intOf i).toNat)
      case atStart => exact ⟨0, q2, Nat.zero_le _, rfl, HBD2.out, HFR2.out⟩
      case round =>
        obtain ⟨k, q, hk, rfl, hbdk, hfrk⟩ := hrel
        have HBK := hide hbdk
        have HFK := hide hfrk
        have hwl := wr_len pre s l k HN.out hk
        have hBr : B ≤ wr.heap.size := by have := hfrk.2.2.2.1; simp at this; omega
        by_cases hlt : k < l.length
        · have hsr := (hs.later ((Below.refl w.heap.size w).alloc (Nat.le_refl _) (.cells #[.string s, .slice a l.length c] 25))).bfr hfrk (fun x hx => HBD.out.old (hX x hx))
          obtain ⟨bx, o, a', c', rfl, d0, d1, hx⟩ := hsr.get (Below.refl wr.heap.size wr) (fun _ _ h => h) k hlt
          have HX := hide hx
          have hwl2 := wr_len pre s l (k + 1) HN.out (by omega)
          clear hbdk hfrk hsr hx
          by_cases hk0 : k = 0
          · subst hk0
            simp only [Nat.zero_mul, Nat.add_zero] at d0 d1
            have HE := hide (wr_take1 pre s l hlt)
            have hln : (pre ++ s.data.toList ++ 40 :: txtL (l.take 0)).length + (txtL [l[0]]).length ≤ 900000000 := by
              rw [← HE.out] at hwl2; simp only [List.length_append] at hwl2 ⊢; omega
            clear hwl hwl2
            go_wp2_with fail
            refine (IH.out _ (List.getElem_mem hlt) _ q _ B b _ X (by exact HX.out.alloc _) hX (by exact HBK.out.alloc _) (by simp; omega) hln).mono ?_
            rintro e w5 ⟨rfl, q5, hbd5, hfr5⟩
            have HBD5 := hide hbd5
            have HFR5 := hide (HFK.out.trans ((BFr.of_below ((Below.refl wr.heap.size wr).alloc (Nat.le_refl _) _) b q).trans hfr5))
            clear hbd5 hfr5
            go_wp2_with fail
            go_roundw
            case rel => exact ⟨0 + 1, q5, by omega, by go_num, by rw [← HE.out]; exact HBD5.out, HFR5.out⟩
            case measure => simp [intOf]; omega
          · have hkp : 0 < k := by omega
            have HE := hide (wr_takeS pre s l k hkp hlt)
            have hln : (pre ++ s.data.toList ++ 40 :: txtL (l.take k) ++ ([44] : List UInt8)).length + (txtL [l[k]]).length ≤ 900000000 := by
              rw [← HE.out] at hwl2; simp only [List.length_append] at hwl2 ⊢; omega
            have hbk : (bytesV (pre ++ s.data.toList ++ 40 :: txtL (l.take k))).length ≤ 1000000000 := by rw [bytesV_len]; omega
            clear hwl hwl2 hk0
            go_wp2_with fail
            refine (writeByte_any B b _ q 44 _ (by exact HBK.out.alloc _) hbk (by simp; omega)).mono ?_
            rintro e w4 ⟨rfl, q4, hbd4, hfr4⟩
            have hbd4' : Bld w4 B b (bytesV (pre ++ s.data.toList ++ 40 :: txtL (l.take k) ++ ([44] : List UInt8))) q4 := by
              have h3 := bytesV_one (pre ++ s.data.toList ++ 40 :: txtL (l.take k)) 44
              rw [← h3]; exact hbd4
            have HX4 := hide ((HX.out.alloc (.cells #[.string l[k].name, .slice a' l[k].args.length c'] 25)).bfr hfr4 (fun x hx => HBK.out.old (hX x hx)))
            have hb4 := HBK.out.box
            have K4 := hide ((Blk.new wr #[.string l[k].name, .slice a' l[k].args.length c'] 25).bfr hfr4 hb4.1 hb4.2)
            have e0 : w4.cell? ⟨wr.heap.size, 0, none⟩ = some (.string l[k].name) := K4.out.cell 0
            have e1 : w4.cell? ⟨wr.heap.size, 1, none⟩ = some (.slice a' l[k].args.length c') := K4.out.cell 1
            have hB4 : B ≤ w4.heap.size := by have := hfr4.2.2.2.1; simp at this; omega
            have HBD4 := hide hbd4'
            have HFR4 := hide (HFK.out.trans ((BFr.of_below ((Below.refl wr.heap.size wr).alloc (Nat.le_refl _) _) b q).trans hfr4))
            clear hbd4 hbd4' hfr4 hb4
            go_wp2_with fail
            refine (IH.out _ (List.getElem_mem hlt) _ q4 _ B b _ X (by exact HX4.out) hX (by exact HBD4.out) hB4 hln).mono ?_
            rintro e w5 ⟨rfl, q5, hbd5, hfr5⟩
            have HBD5 := hide hbd5
            have HFR5 := hide (HFR4.out.trans hfr5)
            clear hbd5 hfr5
            go_wp2_with fail
            go_roundw
            case rel => exact ⟨k + 1, q5, by omega, by go_num, by rw [← HE.out]; exact HBD5.out, HFR5.out⟩
            case measure => simp [intOf]; omega
        · have htk : l.take k = l := List.take_of_length_le (by omega)
          have hbk : (bytesV (pre ++ s.data.toList ++ 40 :: txtL (l.take k))).length ≤ 1000000000 := by rw [bytesV_len]; omega
          rw [htk] at hbdk hbk
          have HBE := hide hbdk
          have HE := hide (wr_end pre s l HN.out)
          clear hbdk hfrk hwl htk
          go_wp2_with fail
          refine (writeByte_any B b _ q 41 _ (by exact HBE.out) hbk hBr).mono ?_
          rintro e w4 ⟨rfl, q4, hbd4, hfr4⟩
          have hbd4' : Bld w4 B b (bytesV (pre ++ txtL [(⟨s, l⟩ : Tm)])) q4 := by
            have h3 := bytesV_one (pre ++ s.data.toList ++ 40 :: txtL l) 41
            rw [← HE.out, ← h3]; exact hbd4
          have HBD4 := hide hbd4'
          have HFR4 := hide (HW0.out.trans (HFK.out.trans hfr4))
          clear hbd4 hbd4' hfr4
          go_wp2_with fail
          go_end0
          exact ⟨rfl, q4, HBD4.out, HFR4.out⟩
#print axioms write_any
end Go.Proofs.YteojdfmdhgnmfaaGreat


/- Walks: the variables of a term, as the program gathers them. -/
namespace Go.Proofs.YteojdfmdhgnmfaaGreat
open Go.RowKit
set_option linter.unusedSimpArgs false
set_option linter.unusedVariables false

theorem Sl.grown {w w' : World} {X : Nat → Prop} {a : Option Addr} {l : List Tm} {r : Option Nat} (h : Sl w X a l) (hg : w.grownBy w' r) (hX : ∀ b, X b → some b ≠ r) : Sl w' X a l := by
  have h1 : Sl w (fun b => X b ∧ b < w.heap.size) a l := h.mono fun b h1 h2 => ⟨h1, h2⟩
  have h2 : Sl w' (fun b => X b ∧ b < w.heap.size) a l := h1.kept fun b hx => hg.block b hx.2 (hX b hx.1)
  exact h2.mono fun b hx _ => hx.1

theorem err_name {s : ByteArray} {l : List Tm} (h : errL [(⟨s, l⟩ : Tm)] = 0) : nameB s = true ∧ errL l = 0 := by
  simp only [errL] at h
  split at h
  · refine ⟨by assumption, ?_⟩
    split at h
    · exact absurd h (by decide)
    · split at h
      · assumption
      · exact h
  · exact absurd h (by decide)

theorem err_mem {l : List Tm} (h : errL l = 0) (k : Nat) (hk : k < l.length) : errL [l[k]] = 0 := by
  induction l generalizing k with
  | nil => simp at hk
  | cons t r ih =>
    rw [errL_cons] at h
    by_cases h0 : errL [t] = 0
    · rw [if_pos h0] at h
      cases k with
      | zero => exact h0
      | succ k => exact ih h k (by simpa using hk)
    · rw [if_neg h0] at h; exact absurd h h0

theorem NamesAt.lv {w0 w1 : World} {B : Nat} {q0 q1 : Value} {acc1 : List ByteArray} (h : NamesAt w0 B q0 acc1 q1 w1) : LV Value.string w1 (fun b => B ≤ b) q1 acc1 := LV.of_own h.1

theorem NamesAt.refl {w : World} {B : Nat} {q : Value} {acc : List ByteArray} (h : w.ownsRow B 9 1 q acc.length (acc.map Value.string)) : NamesAt w B q acc q w :=
  ⟨h, grown_of_below (Below.refl _ _) _, fun _ h => Or.inl h⟩

theorem names_append {w : World} {B : Nat} {q : Value} {acc : List ByteArray} (s : ByteArray) (h : w.ownsRow B 9 1 q acc.length (acc.map Value.string)) (hB : B ≤ w.heap.size) (hn : acc.length ≤ 3000000) (A : Nat) (hA : w.heap.size = A) :
    ∃ q2 w3, (Builtin.append_ #[37, 37] 37 #[q, .slice (some ⟨A, 0, none⟩) 1 1]).run Tryz.prog (w.alloc (.cells #[.string s] 9)) = .ok q2 w3 ∧ NamesAt w B q (acc ++ [s]) q2 w3 := by
  subst hA
  obtain ⟨i0, hi, hz0, hz1, hz2⟩ := info_parts Tryz.infoStr
  obtain ⟨g, cap, w3, hr, ho, hg, hat, hlt⟩ := run_append_lies (P := Tryz.prog) (w := w.alloc (.cells #[.string s] 9)) 37 37 B 9 i0 _ 1 16 Tryz.underlying37 hi hz0 hz1 hz2 rfl (by decide) q acc.length (acc.map Value.string) (h.alloc _)
    ⟨w.heap.size, 0, none⟩ 1 1 [.string s] rfl (cell_one_new _ _ _) (fun x hx => by simp at hx; subst hx; rfl) (by decide) (by unfold maxLen; omega) (by omega) (by simp; omega) _ rfl
  refine ⟨_, w3, hr, by simpa using ho, ?_, fun k hk => ?_⟩
  · exact grown_trans (grown_of_below ((Below.refl _ _).alloc (Nat.le_refl _) _) q.ownBlock) hg (fun k hk => Or.inl hk)
  · simp [Value.ownBlock] at hk
    subst hk
    rcases hat with e | e
    · exact Or.inl e
    · right; simp at e; omega

theorem names_start {w : World} {B : Nat} {q : Value} {acc : List ByteArray} (h : w.ownsRow B 9 1 q acc.length (acc.map Value.string)) (o : Obj) : NamesAt w B q acc q (w.alloc o) := (NamesAt.refl h).below ((Below.refl _ _).alloc (Nat.le_refl _) o)

/-- The row behind the box of the parameter. -/
theorem names_boxed {w w3 : World} {B : Nat} {q q2 : Value} {acc acc2 : List ByteArray} {o : Obj} (h : w.ownsRow B 9 1 q acc.length (acc.map Value.string)) (h2 : NamesAt (w.alloc o) B q acc2 q2 w3) : NamesAt w B q acc2 q2 w3 := (names_start h o).step h2

end Go.Proofs.YteojdfmdhgnmfaaGreat


/- Walks: Text. -/
namespace Go.Proofs.YteojdfmdhgnmfaaGreat
open Go.RowKit
set_option linter.unusedSimpArgs false
set_option linter.unusedVariables false
set_option maxRecDepth 8000

theorem name_le {s : ByteArray} (h : nameB s = true) : s.size ≤ 8 := by
  simp [nameB] at h; omega

/-- A text is not long. -/
theorem txt_len (l : List Tm) (h : errL l = 0) : (txtL l).length ≤ 11 * sizeL l := by
  induction l using Tm.indL with
  | h0 => simp [txtL]
  | h s l r ihl ihr =>
    rw [errL_cons] at h
    by_cases h0 : errL [(⟨s, l⟩ : Tm)] = 0
    · rw [if_pos h0] at h
      obtain ⟨hn, hl⟩ := err_name h0
      have h1 := ihl hl
      have h2 := ihr h
      have h3 := name_le hn
      have h4 : s.data.toList.length = s.size := by rw [Array.length_toList]; rfl
      simp only [txtL, sizeL, List.length_append]
      split <;> split <;> simp only [List.length_nil, List.length_cons, List.length_append] <;> omega
    · rw [if_neg h0] at h; exact absurd h h0

theorem bytes_cells (l : List UInt8) : bytesV l = Lib.byteCells l := rfl

set_option maxHeartbeats 1000000 in
theorem ktext_any (t : Tm) (v : Value) (w : World) (X : Nat → Prop) (hv : TV w X v t) (hlen : (txtL [t]).length ≤ 1000000) :
    Calls Tryz.prog 62 #[v] w fun e w' => e = .returned (.string ⟨(txtL [t]).toArray⟩) ∧ Below w.heap.size w w' := by
  obtain ⟨X', hX, hv'⟩ : ∃ X' : Nat → Prop, (∀ b, X' b → b < w.heap.size) ∧ TV w X' v t := ⟨fun b => X b ∧ b < w.heap.size, fun _ h => h.2, hv.mono fun b h1 h2 => ⟨h1, h2⟩⟩
  clear hv
  obtain ⟨a, c, rfl, hs⟩ := hv'
  have HV := hide (show TV w X' (.agg #[.string t.name, .slice a t.args.length c]) t from ⟨a, c, rfl, hs⟩)
  clear hs
  generalize hR : (.string ⟨(txtL [t]).toArray⟩ : Value) = R
  have HR := hide hR
  clear hR
  have K1 := hide (Blk.new w #[.string t.name, .slice a t.args.length c] 25)
  have HB := hide ((Below.refl w.heap.size w).alloc (Nat.le_refl _) (.cells #[.string t.name, .slice a t.args.length c] 25))
  have c0 : ∀ o, ((w.alloc (.cells #[.string t.name, .slice a t.args.length c] 25)).alloc o).cell? ⟨w.heap.size, 0, none⟩ = some (.string t.name) := fun o => (K1.out.alloc o).cell 0
  have c1 : ∀ o, ((w.alloc (.cells #[.string t.name, .slice a t.args.length c] 25)).alloc o).cell? ⟨w.heap.size, 1, none⟩ = some (.slice a t.args.length c) := fun o => (K1.out.alloc o).cell 1
  have HBD : Hid (Bld ((w.alloc (.cells #[.string t.name, .slice a t.args.length c] 25)).alloc (.cells #[.pointer none, .slice none 0 0] 143)) (w.heap.size + 1) (w.heap.size + 1) (bytesV []) (.slice none 0 0)) := ⟨Nat.le_refl _, ⟨_, Or.inl rfl, by have h := heap_alloc_new (w.alloc (.cells #[.string t.name, .slice a t.args.length c] 25)) (.cells #[.pointer none, .slice none 0 0] 143); simpa using h⟩, World.ownsRow_nil _ _ _ _⟩
  go_enter Tryz.func62, Tryz.ntmps62
  go_wp2_with fail
  have hz1 : (w.alloc (.cells #[.string t.name, .slice a t.args.length c] 25)).heap.size = w.heap.size + 1 := by simp
  generalize (w.alloc (.cells #[.string t.name, .slice a t.args.length c] 25)) = w1 at *
  rw [← hz1] at HBD ⊢
  clear hz1
  refine (write_any t _ _ [] w1.heap.size w1.heap.size _ X' (by exact (HV.out.later HB.out).alloc _) (fun b hb => by have := hX b hb; have := HB.out.size; omega) (by exact HBD.out) (by simp) (by simp; omega)).mono ?_
  rintro e w3 ⟨rfl, q3, hbd3, hfr3⟩
  have HISB : Hid (Lib.IsBuilder 143 5 w1.heap.size w1.heap.size (Lib.byteCells (txtL [t])) w3) := by
    have h1 : Bld w3 w1.heap.size w1.heap.size (Lib.byteCells (txtL [t])) q3 := by simpa [bytes_cells] using hbd3
    have hne := bd_ne h1
    obtain ⟨g1, ⟨p, hp, hb⟩, hown⟩ := h1
    rcases hp with rfl | rfl
    · exact Or.inl ⟨g1, q3, hb, hown, hne⟩
    · exact Or.inr ⟨g1, q3, hb, hown, hne⟩
  have hsz3 : w1.heap.size ≤ w3.heap.size := by have := hfr3.2.2.2.1; simp at this; omega
  have HB3 : Hid (Below w.heap.size w w3) := by
    refine HB.out.trans ⟨hfr3.1, hfr3.2.1, hfr3.2.2.1, hsz3, fun k hk => ?_⟩
    have hk1 : k < w1.heap.size := Nat.lt_of_lt_of_le hk HB.out.size
    rw [hfr3.2.2.2.2.1 k (by simp; omega) (by omega) (by simp [Value.ownBlock]), Below.heap_alloc _ _ _ hk1]
  clear hbd3 hfr3 c0 c1
  go_wp2_with fail
  refine (Tryz.Builder_String_any w1.heap.size w1.heap.size (txtL [t]) _ HISB.out hsz3).mono ?_
  rintro e w4 ⟨rfl, hb4⟩
  go_wp2_with fail
  go_ret
  exact ⟨by rw [← HR.out]; rfl, HB3.out.trans (hb4.mono HB.out.size)⟩

end Go.Proofs.YteojdfmdhgnmfaaGreat

/- Walks: terms get numbers. -/
namespace Go.Proofs.YteojdfmdhgnmfaaGreat
open Go.RowKit
set_option linter.unusedSimpArgs false
set_option linter.unusedVariables false
set_option maxRecDepth 8000

theorem Tryz.infoItem : (Tryz.prog.info? 79).map (fun i => (i.zero, i.size, i.bytes)) = some (some (.agg #[.string ByteArray.empty, .slice none 0 0, .int .i64 0, .int .i64 0]), 4, 56) := by kernel_rfl
theorem cell_4new (w : World) (c0 c1 c2 c3 : Value) (T : Nat) : ∀ j u, [c0, c1, c2, c3][j]? = some u → (w.alloc (.cells #[c0, c1, c2, c3] T)).cell? ((⟨w.heap.size, 0, none⟩ : Addr).add j) = some u :=
  World.news_of_block (cs := #[c0, c1, c2, c3]) (heap_alloc_new w _)
/-- One appended to a row of numbered terms. -/
theorem items_append {w : World} {N : Nat} {S : List Tm} {v : Value} {l : List Tm} {xs : List Value} (h : IRow w N 79 S v l xs) (hN : N ≤ w.heap.size) {M : Nat} (hNM : N ≤ M) {t : Tm} {a : Option Addr} {c : Nat} (hM : ∀ b, some b = v.ownBlock → b < M)
    (ht : IV w (fun b => M ≤ b) S (.agg #[.string t.name, .slice a t.args.length c, .int .i64 (numT t S), .int .i64 (sizeL [t])]) t) (hn : l.length ≤ 1000000) (A : Nat) (hA : w.heap.size = A) :
    ∃ g cap w3 xs2, (Builtin.append_ #[77, 77] 77 #[v, .slice (some ⟨A, 0, none⟩) 1 1]).run Tryz.prog (w.alloc (.cells #[.string t.name, .slice a t.args.length c, .int .i64 (numT t S), .int .i64 (sizeL [t])] 79)) = .ok (.slice (some ⟨g, 0, none⟩) (l.length + 1) cap) w3 ∧ IRow w3 N 79 S (.slice (some ⟨g, 0, none⟩) (l.length + 1) cap) (l ++ [t]) xs2 ∧
      (w.alloc (.cells #[.string t.name, .slice a t.args.length c, .int .i64 (numT t S), .int .i64 (sizeL [t])] 79)).grownBy w3 v.ownBlock ∧ (v.ownBlock = some g ∨ w.heap.size ≤ g) := by
  subst hA
  obtain ⟨i0, hi, hz0, hz1, hz2⟩ := info_parts Tryz.infoItem
  obtain ⟨g, cap, w3, hr, ho, hg, hat, hlt⟩ := run_append_lies (P := Tryz.prog) (w := w.alloc (.cells #[.string t.name, .slice a t.args.length c, .int .i64 (numT t S), .int .i64 (sizeL [t])] 79)) 77 77 N 79 i0 _ 4 56 Tryz.underlying77 hi hz0 hz1 hz2 rfl (by decide) v l.length xs (h.own.alloc _)
    ⟨w.heap.size, 0, none⟩ 1 1 [.string t.name, .slice a t.args.length c, .int .i64 (numT t S), .int .i64 (sizeL [t])] rfl (cell_4new _ _ _ _ _ _) (fun y hy => by simp at hy; rcases hy with rfl | rfl | rfl | rfl <;> rfl) (by decide) (by unfold maxLen; omega) (by omega) (by simp; omega) _ rfl
  refine ⟨g, cap, w3, _, hr, h.push hNM hM ht _ rfl ho hg hat, hg, ?_⟩
  rcases hat with h1 | h1
  · exact Or.inl h1
  · right; simp at h1; omega
theorem map_len {w : World} {r : Nat} {L : List (ByteArray × Value)} (h : MapAt w r L) {P : Program} {T kt et ty : TypeId} (hm : P.underlying T = some (.map kt et)) : (Builtin.len_ #[T] ty #[.map (some r)]).run P w = .ok (.int .i64 L.length) w := by
  obtain ⟨es, clk, hb, he, _⟩ := h
  have : es.size = L.length := by simpa using congrArg List.length he
  simp [Builtin.len_, run_underlying hm, MapKept.run_getObj_map hb, goInt, Result.andThen, this]
/-- So many of those below have got numbers. -/
def NumInv (r B O : Nat) (t : Tm) (a : Option Addr) (c : Nat) (S1 : List Tm) (w : World) (i : Value) (wr : World) : Prop :=
  ∃ (k : Nat) (R0 S2 : List Tm) (vr : Value) (xs : List Value), k ≤ t.args.length ∧ i = .int .i64 (k : Int) ∧ ((∃ R, S2 = S1 ++ R) ∧ S2.length ≤ S1.length + sizeL (t.args.take k)) ∧ (∀ x ∈ S2, errL [x] = 0) ∧ Blk wr O #[.string t.name, vr, .int .i64 (numT t S1), .int .i64 (1 + sizeL (t.args.take k))] 79 ∧
    IRow wr (O + 1) 79 S2 vr (t.args.take k) xs ∧ MapAt wr r (numL 0 S2) ∧ Blk wr B #[.string t.name, .slice a t.args.length c] 25 ∧ Blk wr (B + 1) #[.string ⟨#[]⟩, .slice none 0 0, .int .i64 0, .int .i64 0] 79 ∧ Ex r w wr

set_option maxHeartbeats 4000000 in
theorem number_any (t : Tm) : ∀ (S : List Tm) (r : Nat) (v : Value) (w : World) (X : Nat → Prop), errL [t] = 0 → sizeL [t] ≤ 20000 → (∀ x ∈ S, errL [x] = 0) → MapAt w r (numL 0 S) → TV w X v t → (∀ b, X b → b ≠ r) →
    Calls Tryz.prog 48 #[v, .map (some r)] w fun e w' => ∃ S' v', e = .returned v' ∧ ((∃ R, S' = S ++ R) ∧ S'.length ≤ S.length + sizeL [t]) ∧ (∀ x ∈ S', errL [x] = 0) ∧ MapAt w' r (numL 0 S') ∧ IV w' (fun b => w.heap.size ≤ b) S' v' t ∧ Ex r w w' := by
  induction t using Tm.ind with
  | h s l ih =>
    intro S r v w X he hsz hS hM hv hXr
    obtain ⟨a, c, rfl, hs⟩ := hv
    have IH := hide ih
    have HS := hide hs
    have hl := hs.1
    have hrl := hM.lt
    have hr2 : r < w.heap.size := hrl
    have HERR : Hid (∀ k (h : k < l.length), errL [l[k]] = 0) := fun k h => err_mem (errL_parts0 he) k h
    have hszl : sizeL [(⟨s, l⟩ : Tm)] = 1 + sizeL l := by simp [sizeL]
    have HSL : Hid (sizeL l + 1 ≤ 20000) := by unfold Hid; omega
    have HSZ : Hid (∀ k (h : k < l.length), sizeL [l[k]] ≤ sizeL l) := fun k h => by
      have := size_arg (t := ⟨s, l⟩) (List.getElem_mem h)
      omega
    have HTX := hide (txt_len [(⟨s, l⟩ : Tm)] he)
    have HE := hide he
    have HT := hide (show TV w X (.agg #[.string s, .slice a l.length c]) (⟨s, l⟩ : Tm) from ⟨a, c, rfl, hs⟩)
    have HMP := hide hM
    have ESS := hide hS
    clear ih hs hM hS
    go_enter Tryz.func48, Tryz.ntmps48
    go_wp2_with fail
    refine (ktext_any (⟨s, l⟩ : Tm) _ _ X (by exact (HT.out.alloc _).alloc _) (by have := HTX.out; omega)).mono ?_
    rintro e w1 ⟨rfl, hb1⟩
    have B1 : Hid (Below w.heap.size w w1) := ((((Below.refl w.heap.size w).alloc (Nat.le_refl _) (.cells #[.string s, .slice a l.length c] 25)).alloc (by simp) (.cells #[.string ⟨#[]⟩, .slice none 0 0, .int .i64 0, .int .i64 0] 79)).trans (hb1.mono (by simp; omega)))
    have KT : Hid (Blk w1 w.heap.size #[.string s, .slice a l.length c] 25) := ((Blk.new w _ _).alloc _).below hb1 (by simp; omega)
    have KQ : Hid (Blk w1 (w.heap.size + 1) #[.string ⟨#[]⟩, .slice none 0 0, .int .i64 0, .int .i64 0] 79) := by
      have h := Blk.new (w.alloc (.cells #[.string s, .slice a l.length c] 25)) #[.string ⟨#[]⟩, .slice none 0 0, .int .i64 0, .int .i64 0] 79
      have e : (w.alloc (.cells #[.string s, .slice a l.length c] 25)).heap.size = w.heap.size + 1 := by simp
      rw [e] at h
      exact h.below hb1 (by simp)
    have M1 := hide (HMP.out.below B1.out hrl)
    have E1 : Hid (Ex r w w1) := ⟨B1.out.os, B1.out.tape, B1.out.output, B1.out.size, fun k hk _ => B1.out.block k hk⟩
    clear hb1 HMP
    have hget := numL_get HE.out S 0 ESS.out
    have hz := Tryz.zeroValue3 w1
    by_cases hin : numT (⟨s, l⟩ : Tm) S < S.length
    · rw [if_pos hin] at hget
      have hlook : (Instr.lookup 71 (.map (some r)) (.string ⟨(txtL [(⟨s, l⟩ : Tm)]).toArray⟩) true).run Tryz.prog w1 = .ok (.tuple #[.int .i64 (numT (⟨s, l⟩ : Tm) S), .bool true]) w1 := by
        rw [run_look (P := Tryz.prog) Tryz.underlying71 Tryz.underlying9 hz M1.out _]
        rw [show (⟨(txtL [(⟨s, l⟩ : Tm)]).toArray⟩ : ByteArray) = txtB ⟨s, l⟩ from rfl, hget]
        simp
      clear hget hz
      obtain ⟨S1, hS1⟩ : ∃ S1, S1 = S := ⟨S, rfl⟩
      obtain ⟨w2, hw2⟩ : ∃ w2, w2 = w1 := ⟨w1, rfl⟩
      obtain ⟨NN, hNN⟩ : ∃ NN : Int, NN = numT (⟨s, l⟩ : Tm) S := ⟨_, rfl⟩
      rw [← hNN, ← hw2] at hlook
      have HNN : Hid ((numT (⟨s, l⟩ : Tm) S1 : Int) = NN) := by unfold Hid; rw [hS1, hNN]
      have MEM : Hid ((⟨s, l⟩ : Tm) ∈ S1) := by unfold Hid; rw [hS1]; exact numT_lt.1 hin
      have GS : Hid ((∃ R, S1 = S ++ R) ∧ S1.length ≤ S.length + 1) := ⟨⟨[], by rw [hS1]; simp⟩, by rw [hS1]; omega⟩
      have ES : Hid (∀ x ∈ S1, errL [x] = 0) := by unfold Hid; rw [hS1]; exact ESS.out
      have M2 : Hid (MapAt w2 r (numL 0 S1)) := by unfold Hid; rw [hS1, hw2]; exact M1.out
      have K2 : Hid (Blk w2 w.heap.size #[.string s, .slice a l.length c] 25) := by unfold Hid; rw [hw2]; exact KT.out
      have KR : Hid (Blk w2 (w.heap.size + 1) #[.string ⟨#[]⟩, .slice none 0 0, .int .i64 0, .int .i64 0] 79) := by unfold Hid; rw [hw2]; exact KQ.out
      have E2 : Hid (Ex r w w2) := by unfold Hid; rw [hw2]; exact E1.out
      clear M1 KT KQ E1 B1 hS1 hNN hin
      subst hw2
      have Q0 : ∀ o, (w2.alloc o).cell? ⟨w.heap.size, 0, none⟩ = some (.string s) := fun o => (K2.out.alloc o).cell 0
      have Q1 : ∀ o, (w2.alloc o).cell? ⟨w.heap.size, 1, none⟩ = some (.slice a l.length c) := fun o => (K2.out.alloc o).cell 1
      have Q2 : w2.cell? ⟨w.heap.size, 0, none⟩ = some (.string s) := K2.out.cell 0
      have Q3 : w2.cell? ⟨w.heap.size, 1, none⟩ = some (.slice a l.length c) := K2.out.cell 1
      go_wp2_with fail
      have HINV0 : Hid (NumInv r w.heap.size w2.heap.size (⟨s, l⟩ : Tm) a c S1 w (.int .i64 0) (w2.alloc (.cells #[.string s, .slice none 0 0, .int .i64 NN, .int .i64 1] 79))) := by
        refine ⟨0, [], S1, .slice none 0 0, [], Nat.zero_le _, rfl, ⟨⟨[], by simp⟩, by simp⟩, ES.out, by have h := Blk.new w2 #[.string s, .slice none 0 0, .int .i64 NN, .int .i64 1] 79; simpa [HNN.out, sizeL] using h, IRow.start _ _ _ _, M2.out.kept (Below.heap_alloc _ _ _ M2.out.lt), K2.out.alloc _, KR.out.alloc _, E2.out.alloc _⟩
      generalize w2.alloc (.cells #[.string s, .slice none 0 0, .int .i64 NN, .int .i64 1] 79) = w3 at *
      clear Q0 Q1 Q2 Q3
      have hO : w.heap.size + 2 ≤ w2.heap.size := by have := KR.out.lt; omega
      go_loopw [34] (fun i wr => NumInv r w.heap.size w2.heap.size (⟨s, l⟩ : Tm) a c S1 w i wr) (fun i wr => l.length - (intOf i).toNat)
      case atStart => exact HINV0.out
      case round =>
        clear HINV0
        obtain ⟨k, R0, S2, vr, xs, hk, rfl, ⟨⟨R, hS2⟩, hSz⟩, hES, hO1, hrow, hM, hT, hRb, hE⟩ := hrel
        have XO := hide hO1
        have XROW := hide hrow
        have XM := hide hM
        have XT := hide hT
        have XR := hide hRb
        have XE := hide hE
        have XES := hide hES
        have c1 : wr.cell? ⟨w.heap.size, 1, none⟩ = some (.slice a l.length c) := hT.cell 1
        by_cases hlt : k < l.length
        · have hlt2 : (k : Int) < (l.length : Int) := by omega
          have hSlk : Sl wr X a l := HS.out.exq (ExQ.ofEx (Q := fun b => b = r) hE rfl) (fun b hb => hXr b hb)
          obtain ⟨b, o, a', c', rfl, d0, d1, hx⟩ := hSlk.get (Below.refl _ _) (fun _ _ h => h) k hlt
          have HX := hide hx
          clear hx hSlk hO1 hrow hM hT hRb hE hES
          go_wp2_with fail
          refine (IH.out l[k] (List.getElem_mem hlt) S2 r _ _ X (HERR.out k hlt) (by have := HSZ.out k hlt; omega) XES.out (XM.out.kept (Below.heap_alloc _ _ _ XM.out.lt)) (by exact HX.out.alloc _) hXr).mono ?_
          rintro e w4 ⟨S3, v3, rfl, ⟨⟨R3, hS3⟩, hSz3⟩, hES3, hM3, hIV, hE3⟩
          obtain ⟨hmem3, a3, c3, rfl, hsl3⟩ := hIV
          have hOw : w2.heap.size < wr.heap.size := XO.out.lt
          have hE4 : Ex r wr w4 := ((Ex.refl r wr).alloc _).trans hE3
          have hrO : r ≠ w2.heap.size := by have := hr2; omega
          have hwz := hE4.size
          have hwz3 : wr.heap.size + 1 ≤ w4.heap.size := by have := hE3.size; simpa using this
          have HS3 := hide hS3
          have HS2 := hide hS2
          clear hS2
          have YO := hide (XO.out.ex hE4 (fun e => hrO e.symm))
          have YT := hide (XT.out.ex hE4 (by omega))
          have YR := hide (XR.out.ex hE4 (by omega))
          have YE := hide (XE.out.trans hE4)
          have YM := hide hM3
          have YES := hide hES3
          have YI : Hid (IV w4 (fun b => wr.heap.size + 1 ≤ b) S3 (.agg #[.string l[k].name, .slice a3 l[k].args.length c3, .int .i64 (numT l[k] S3), .int .i64 (sizeL [l[k]])]) l[k]) := ⟨hmem3, a3, c3, rfl, hsl3.mono fun b hb _ => by simp at hb; omega⟩
          have YROW : Hid (IRow w4 (w2.heap.size + 1) 79 S3 vr (l.take k) xs) := by
            unfold Hid
            rw [HS3.out]
            exact (XROW.out.kept (fun b hb1 hb2 => hE4.block b hb2 (by omega)) hwz hE4.os hE4.tape hE4.output).more R3
          clear hM3 hES3 hsl3 hE3 hE4 hS3
          have hlk : (l.take k).length = k := by simp; omega
          have hl2 : l.length ≤ 20000 := by have := sizeL_len l; have := HSL.out; omega
          have hvlt : ∀ b, some b = vr.ownBlock → b < wr.heap.size + 1 := fun b hb => by have := (XROW.out.own.lt b hb.symm).2; omega
          obtain ⟨g5, cap5, w5, xs5, hrun, hrow5, hg5, hvb5⟩ := items_append (t := l[k]) (a := a3) (c := c3) (YROW.out.kept (w' := w4.alloc (.cells #[.string l[k].name, .slice a3 l[k].args.length c3, .int .i64 (numT l[k] S3), .int .i64 (sizeL [l[k]])] 79)) (fun b _ hb => Below.heap_alloc _ _ _ hb) (by simp) rfl rfl rfl) (by simp; omega) (M := wr.heap.size + 1) (by omega) hvlt (YI.out.alloc _) (by omega) (w4.heap.size + 1) (by simp)
          rw [hlk] at hrun hrow5
          have HRUN := hide hrun
          have ZO : Blk w5 w2.heap.size #[.string s, vr, .int .i64 (numT (⟨s, l⟩ : Tm) S1), .int .i64 (1 + sizeL (l.take k))] 79 := ((YO.out.alloc _).alloc _).grown hg5 (YROW.out.ne (by omega))
          have ZX : Blk w5 w4.heap.size #[.string l[k].name, .slice a3 l[k].args.length c3, .int .i64 (numT l[k] S3), .int .i64 (sizeL [l[k]])] 79 := ((Blk.new w4 _ _).alloc _).grown hg5 (fun e => by have := hvlt _ e; omega)
          have z0 : w5.cell? ⟨w2.heap.size, 1, none⟩ = some vr := ZO.cell 1
          have z1 : w5.cell? ⟨w2.heap.size, 3, none⟩ = some (.int .i64 (1 + sizeL (l.take k))) := ZO.cell 3
          have z2 : w5.cell? ⟨w4.heap.size, 3, none⟩ = some (.int .i64 (sizeL [l[k]])) := ZX.cell 3
          have zf := ZO.frozen
          have hst := sizeL_take l k hlt
          have hsb : sizeL (l.take (k + 1)) ≤ 20000 := by have h1 := sizeL_append (l.take (k + 1)) (l.drop (k + 1)); rw [List.take_append_drop] at h1; have := HSL.out; omega
          have y1 : ∀ o, (w4.alloc o).cell? ⟨w2.heap.size, 1, none⟩ = some vr := fun o => (YO.out.alloc o).cell 1
          have YS : sizeL [l[k]] ≤ 20000 := by omega
          have HFIN : Hid (NumInv r w.heap.size w2.heap.size (⟨s, l⟩ : Tm) (some ⟨b, o, none⟩) c S1 w (.int .i64 ((k + 1 : Nat) : Int)) ((w5.setCell ⟨w2.heap.size, 1, none⟩ (.slice (some ⟨g5, 0, none⟩) (k + 1) cap5)).setCell ⟨w2.heap.size, 3, none⟩ (.int .i64 (1 + (sizeL (l.take k) : Int) + (sizeL [l[k]] : Int))))) := by
            have hgs := hg5.size
            refine ⟨k + 1, R0, S3, (.slice (some ⟨g5, 0, none⟩) (k + 1) cap5), xs5, by show k + 1 ≤ l.length; omega, rfl, ⟨⟨R ++ R3, by rw [HS3.out, HS2.out, List.append_assoc]⟩, by show S3.length ≤ S1.length + sizeL (l.take (k + 1)); omega⟩, YES.out, ?_, ?_, ?_, ?_, ?_, ?_⟩
            · have := (ZO.set 1 (.slice (some ⟨g5, 0, none⟩) (k + 1) cap5)).set 3 (.int .i64 (1 + (sizeL (l.take k) : Int) + (sizeL [l[k]] : Int)))
              simpa [hst, Int.add_assoc] using this
            · have e : l.take (k + 1) = l.take k ++ [l[k]] := List.take_succ_eq_append_getElem hlt
              rw [e]
              exact (hrow5.setCell (by omega) _).setCell (by omega) _
            · have hMl := YM.out.lt
              refine YM.out.kept ?_
              rw [Below.heap_setCell _ _ _ _ (by simpa using hrO), Below.heap_setCell _ _ _ _ (by simpa using hrO), hg5.block r (by simp; omega) (fun e => by have := (YROW.out.own.lt r e.symm).1; omega), Below.heap_alloc _ _ _ (by simp; omega), Below.heap_alloc _ _ _ hMl]
            · exact ((((YT.out.alloc _).alloc _).grown hg5 (YROW.out.ne (by omega))).setOther _ _ (by omega)).setOther _ _ (by omega)
            · exact ((((YR.out.alloc _).alloc _).grown hg5 (YROW.out.ne (by omega))).setOther _ _ (by omega)).setOther _ _ (by omega)
            · exact ((((YE.out.alloc _).alloc _).grown hg5 (fun j hj => by have := (YROW.out.own.lt j hj).1; omega)).setNew (by omega) _ _).setNew (by omega) _ _
          have hsk : sizeL (l.take k) ≤ 20000 := by omega
          clear hrun hrow5 hg5 hvb5 ZX hst
          have y3 : ∀ v, (w5.setCell ⟨w2.heap.size, 1, none⟩ v).cell? ⟨w2.heap.size, 3, none⟩ = some (.int .i64 (1 + sizeL (l.take k))) := fun v => by rw [World.cell?_setCell_other _ _ _ _ (by simp)]; exact z1
          have y4 : ∀ v, (w5.setCell ⟨w2.heap.size, 1, none⟩ v).cell? ⟨w4.heap.size, 3, none⟩ = some (.int .i64 (sizeL [l[k]])) := fun v => by rw [World.cell?_setCell_other _ _ _ _ (by simp)]; exact z2
          have zf2 := fun v => (ZO.set 1 v).frozen
          go_wp2_with (at_builtin; refine wpList_append_eq rfl _ _ _ _ rfl rfl rfl HRUN.out ?_)
          go_roundw
          case rel =>
            have h := HFIN.out
            have e : ((k + 1 : Nat) : Int) = (k : Int) + 1 := by omega
            rw [e] at h
            exact h
          case measure => simp [intOf]; omega
        · have htk : l.take k = l := List.take_of_length_le (by omega)
          rw [htk] at hO1 hrow
          obtain ⟨a9, c9, hv9, hs9⟩ := hrow.sl
          subst hv9
          have p0 := hO1.cell 0
          have p1 := hO1.cell 1
          have p2 := hO1.cell 2
          have p3 := hO1.cell 3
          have r0 := hRb.cell 0
          have r1 := hRb.cell 1
          have r2 := hRb.cell 2
          have r3 := hRb.cell 3
          have rf := hRb.frozen
          simp only [List.getElem?_toArray, List.getElem?_cons_zero, List.getElem?_cons_succ] at p0 p1 p2 p3 r0 r1 r2 r3
          have HS9 := hide hs9
          have HZN : Hid (sizeL [(⟨s, l⟩ : Tm)] = 1 + sizeL l) := by unfold Hid; simp [sizeL]
          have HSZ2 : Hid (S2.length ≤ S1.length + sizeL l) := by unfold Hid; simpa [htk] using hSz
          have HZ : Hid ((1 : Int) + sizeL l = sizeL [(⟨s, l⟩ : Tm)]) := by unfold Hid; simp [sizeL]
          have HN : Hid (numT (⟨s, l⟩ : Tm) S1 = numT (⟨s, l⟩ : Tm) S2) := by unfold Hid; rw [hS2, numT_more R MEM.out]
          have HMM : Hid ((⟨s, l⟩ : Tm) ∈ S2) := by unfold Hid; rw [hS2]; exact List.mem_append_left _ MEM.out
          clear hs9 htk hO1 hrow hM hT hRb hE hES
          go_wp2_with fail
          refine bodyPost_ret (v := .agg #[.string s, .slice a9 l.length c9, .int .i64 (numT (⟨s, l⟩ : Tm) S1), .int .i64 (1 + sizeL l)]) (by simp [results, Tryz.results48, go_sem, World.cell?_setCell_same, World.cell?_setCell_other, r0, r1, r2, r3]) rfl ?_
          refine ⟨S2, _, rfl, ?_, XES.out, ?_, ?_, ?_⟩
          · obtain ⟨⟨R1, hR1⟩, hR2⟩ := GS.out
            refine ⟨⟨R1 ++ R, by rw [hS2, hR1, List.append_assoc]⟩, ?_⟩
            have := HZN.out
            have h3 : S2.length ≤ S1.length + sizeL l := HSZ2.out
            omega
          · refine XM.out.kept ?_
            have hne : r ≠ w.heap.size + 1 := by omega
            rw [Below.heap_setCell _ _ _ _ (by simpa using hne), Below.heap_setCell _ _ _ _ (by simpa using hne), Below.heap_setCell _ _ _ _ (by simpa using hne), Below.heap_setCell _ _ _ _ (by simpa using hne)]
          · refine ⟨HMM.out, a9, c9, by rw [HZ.out, HN.out], ?_⟩
            refine (HS9.out.kept fun b hb => ?_).mono fun b hb _ => by omega
            have hne : b ≠ w.heap.size + 1 := by omega
            rw [Below.heap_setCell _ _ _ _ (by simpa using hne), Below.heap_setCell _ _ _ _ (by simpa using hne), Below.heap_setCell _ _ _ _ (by simpa using hne), Below.heap_setCell _ _ _ _ (by simpa using hne)]
          · exact (((XE.out.setNew (by omega) _ _).setNew (by omega) _ _).setNew (by omega) _ _).setNew (by omega) _ _
    · rw [if_neg hin] at hget
      have hlook : (Instr.lookup 71 (.map (some r)) (.string ⟨(txtL [(⟨s, l⟩ : Tm)]).toArray⟩) true).run Tryz.prog w1 = .ok (.tuple #[.int .i64 0, .bool false]) w1 := by
        rw [run_look (P := Tryz.prog) Tryz.underlying71 Tryz.underlying9 hz M1.out _]
        rw [show (⟨(txtL [(⟨s, l⟩ : Tm)]).toArray⟩ : ByteArray) = txtB ⟨s, l⟩ from rfl, hget]
        simp
      have hlen : (Builtin.len_ #[71] 3 #[.map (some r)]).run Tryz.prog w1 = .ok (.int .i64 (S.length : Int)) w1 := by
        rw [map_len M1.out Tryz.underlying71, numL_len]
      obtain ⟨w2, hrun2, hM2, hz2, ho2, ht2, hu2, hk2⟩ := run_put (P := Tryz.prog) Tryz.underlying71 Tryz.underlying9 M1.out (txtB ⟨s, l⟩) (.int .i64 (S.length : Int)) hget
      have hrun2' : (Instr.mapUpdate 71 (.map (some r)) (.string ⟨(txtL [(⟨s, l⟩ : Tm)]).toArray⟩) (.int .i64 (S.length : Int))).run Tryz.prog w1 = .ok () w2 := hrun2
      have hnl : numT (⟨s, l⟩ : Tm) S = S.length := by have := numT_le (⟨s, l⟩ : Tm) S; omega
      obtain ⟨NN, hNN⟩ : ∃ NN : Int, NN = S.length := ⟨_, rfl⟩
      rw [← hNN] at hlen hrun2'
      obtain ⟨S1, hS1⟩ : ∃ S1, S1 = S ++ [(⟨s, l⟩ : Tm)] := ⟨_, rfl⟩
      have hsee : seeT S (⟨s, l⟩ : Tm) = S1 := by rw [hS1]; unfold seeT; rw [if_neg hin]
      have HNN : Hid ((numT (⟨s, l⟩ : Tm) S1 : Int) = NN) := by unfold Hid; rw [← hsee, see_num, hnl, hNN]
      have MEM : Hid ((⟨s, l⟩ : Tm) ∈ S1) := by unfold Hid; rw [hS1]; simp
      have GS : Hid ((∃ R, S1 = S ++ R) ∧ S1.length ≤ S.length + 1) := ⟨⟨_, hS1⟩, by rw [hS1]; simp⟩
      have ES : Hid (∀ x ∈ S1, errL [x] = 0) := by
        unfold Hid
        rw [hS1]
        intro x hx
        rw [List.mem_append] at hx
        rcases hx with hx | hx
        · exact ESS.out x hx
        · have e : x = ⟨s, l⟩ := by simpa using hx
          rw [e]; exact HE.out
      have M2 : Hid (MapAt w2 r (numL 0 S1)) := by
        unfold Hid
        rw [hS1, numL_push]
        simpa using hM2
      have E2 : Hid (Ex r w w2) := ⟨ho2.trans E1.out.os, ht2.trans E1.out.tape, hu2.trans E1.out.output, by rw [hz2]; exact E1.out.size, fun k hk hn => (hk2 k hn).trans (E1.out.block k hk hn)⟩
      have K2 : Hid (Blk w2 w.heap.size #[.string s, .slice a l.length c] 25) := (hk2 _ (by omega)).trans KT.out
      have KR : Hid (Blk w2 (w.heap.size + 1) #[.string ⟨#[]⟩, .slice none 0 0, .int .i64 0, .int .i64 0] 79) := (hk2 _ (by omega)).trans KQ.out
      clear M1 KT KQ E1 B1 hS1 hNN hin hM2 hz2 ho2 ht2 hu2 hk2 hget hz hnl hsee hrun2
      have Q0 : ∀ o, (w2.alloc o).cell? ⟨w.heap.size, 0, none⟩ = some (.string s) := fun o => (K2.out.alloc o).cell 0
      have Q1 : ∀ o, (w2.alloc o).cell? ⟨w.heap.size, 1, none⟩ = some (.slice a l.length c) := fun o => (K2.out.alloc o).cell 1
      have Q2 : w2.cell? ⟨w.heap.size, 0, none⟩ = some (.string s) := K2.out.cell 0
      have Q3 : w2.cell? ⟨w.heap.size, 1, none⟩ = some (.slice a l.length c) := K2.out.cell 1
      go_wp2_with fail
      have HINV0 : Hid (NumInv r w.heap.size w2.heap.size (⟨s, l⟩ : Tm) a c S1 w (.int .i64 0) (w2.alloc (.cells #[.string s, .slice none 0 0, .int .i64 NN, .int .i64 1] 79))) := by
        refine ⟨0, [], S1, .slice none 0 0, [], Nat.zero_le _, rfl, ⟨⟨[], by simp⟩, by simp⟩, ES.out, by have h := Blk.new w2 #[.string s, .slice none 0 0, .int .i64 NN, .int .i64 1] 79; simpa [HNN.out, sizeL] using h, IRow.start _ _ _ _, M2.out.kept (Below.heap_alloc _ _ _ M2.out.lt), K2.out.alloc _, KR.out.alloc _, E2.out.alloc _⟩
      generalize w2.alloc (.cells #[.string s, .slice none 0 0, .int .i64 NN, .int .i64 1] 79) = w3 at *
      clear Q0 Q1 Q2 Q3
      have hO : w.heap.size + 2 ≤ w2.heap.size := by have := KR.out.lt; omega
      go_loopw [34] (fun i wr => NumInv r w.heap.size w2.heap.size (⟨s, l⟩ : Tm) a c S1 w i wr) (fun i wr => l.length - (intOf i).toNat)
      case atStart => exact HINV0.out
      case round =>
        clear HINV0
        obtain ⟨k, R0, S2, vr, xs, hk, rfl, ⟨⟨R, hS2⟩, hSz⟩, hES, hO1, hrow, hM, hT, hRb, hE⟩ := hrel
        have XO := hide hO1
        have XROW := hide hrow
        have XM := hide hM
        have XT := hide hT
        have XR := hide hRb
        have XE := hide hE
        have XES := hide hES
        have c1 : wr.cell? ⟨w.heap.size, 1, none⟩ = some (.slice a l.length c) := hT.cell 1
        by_cases hlt : k < l.length
        · have hlt2 : (k : Int) < (l.length : Int) := by omega
          have hSlk : Sl wr X a l := HS.out.exq (ExQ.ofEx (Q := fun b => b = r) hE rfl) (fun b hb => hXr b hb)
          obtain ⟨b, o, a', c', rfl, d0, d1, hx⟩ := hSlk.get (Below.refl _ _) (fun _ _ h => h) k hlt
          have HX := hide hx
          clear hx hSlk hO1 hrow hM hT hRb hE hES
          go_wp2_with fail
          refine (IH.out l[k] (List.getElem_mem hlt) S2 r _ _ X (HERR.out k hlt) (by have := HSZ.out k hlt; omega) XES.out (XM.out.kept (Below.heap_alloc _ _ _ XM.out.lt)) (by exact HX.out.alloc _) hXr).mono ?_
          rintro e w4 ⟨S3, v3, rfl, ⟨⟨R3, hS3⟩, hSz3⟩, hES3, hM3, hIV, hE3⟩
          obtain ⟨hmem3, a3, c3, rfl, hsl3⟩ := hIV
          have hOw : w2.heap.size < wr.heap.size := XO.out.lt
          have hE4 : Ex r wr w4 := ((Ex.refl r wr).alloc _).trans hE3
          have hrO : r ≠ w2.heap.size := by have := hr2; omega
          have hwz := hE4.size
          have hwz3 : wr.heap.size + 1 ≤ w4.heap.size := by have := hE3.size; simpa using this
          have HS3 := hide hS3
          have HS2 := hide hS2
          clear hS2
          have YO := hide (XO.out.ex hE4 (fun e => hrO e.symm))
          have YT := hide (XT.out.ex hE4 (by omega))
          have YR := hide (XR.out.ex hE4 (by omega))
          have YE := hide (XE.out.trans hE4)
          have YM := hide hM3
          have YES := hide hES3
          have YI : Hid (IV w4 (fun b => wr.heap.size + 1 ≤ b) S3 (.agg #[.string l[k].name, .slice a3 l[k].args.length c3, .int .i64 (numT l[k] S3), .int .i64 (sizeL [l[k]])]) l[k]) := ⟨hmem3, a3, c3, rfl, hsl3.mono fun b hb _ => by simp at hb; omega⟩
          have YROW : Hid (IRow w4 (w2.heap.size + 1) 79 S3 vr (l.take k) xs) := by
            unfold Hid
            rw [HS3.out]
            exact (XROW.out.kept (fun b hb1 hb2 => hE4.block b hb2 (by omega)) hwz hE4.os hE4.tape hE4.output).more R3
          clear hM3 hES3 hsl3 hE3 hE4 hS3
          have hlk : (l.take k).length = k := by simp; omega
          have hl2 : l.length ≤ 20000 := by have := sizeL_len l; have := HSL.out; omega
          have hvlt : ∀ b, some b = vr.ownBlock → b < wr.heap.size + 1 := fun b hb => by have := (XROW.out.own.lt b hb.symm).2; omega
          obtain ⟨g5, cap5, w5, xs5, hrun, hrow5, hg5, hvb5⟩ := items_append (t := l[k]) (a := a3) (c := c3) (YROW.out.kept (w' := w4.alloc (.cells #[.string l[k].name, .slice a3 l[k].args.length c3, .int .i64 (numT l[k] S3), .int .i64 (sizeL [l[k]])] 79)) (fun b _ hb => Below.heap_alloc _ _ _ hb) (by simp) rfl rfl rfl) (by simp; omega) (M := wr.heap.size + 1) (by omega) hvlt (YI.out.alloc _) (by omega) (w4.heap.size + 1) (by simp)
          rw [hlk] at hrun hrow5
          have HRUN := hide hrun
          have ZO : Blk w5 w2.heap.size #[.string s, vr, .int .i64 (numT (⟨s, l⟩ : Tm) S1), .int .i64 (1 + sizeL (l.take k))] 79 := ((YO.out.alloc _).alloc _).grown hg5 (YROW.out.ne (by omega))
          have ZX : Blk w5 w4.heap.size #[.string l[k].name, .slice a3 l[k].args.length c3, .int .i64 (numT l[k] S3), .int .i64 (sizeL [l[k]])] 79 := ((Blk.new w4 _ _).alloc _).grown hg5 (fun e => by have := hvlt _ e; omega)
          have z0 : w5.cell? ⟨w2.heap.size, 1, none⟩ = some vr := ZO.cell 1
          have z1 : w5.cell? ⟨w2.heap.size, 3, none⟩ = some (.int .i64 (1 + sizeL (l.take k))) := ZO.cell 3
          have z2 : w5.cell? ⟨w4.heap.size, 3, none⟩ = some (.int .i64 (sizeL [l[k]])) := ZX.cell 3
          have zf := ZO.frozen
          have hst := sizeL_take l k hlt
          have hsb : sizeL (l.take (k + 1)) ≤ 20000 := by have h1 := sizeL_append (l.take (k + 1)) (l.drop (k + 1)); rw [List.take_append_drop] at h1; have := HSL.out; omega
          have y1 : ∀ o, (w4.alloc o).cell? ⟨w2.heap.size, 1, none⟩ = some vr := fun o => (YO.out.alloc o).cell 1
          have YS : sizeL [l[k]] ≤ 20000 := by omega
          have HFIN : Hid (NumInv r w.heap.size w2.heap.size (⟨s, l⟩ : Tm) (some ⟨b, o, none⟩) c S1 w (.int .i64 ((k + 1 : Nat) : Int)) ((w5.setCell ⟨w2.heap.size, 1, none⟩ (.slice (some ⟨g5, 0, none⟩) (k + 1) cap5)).setCell ⟨w2.heap.size, 3, none⟩ (.int .i64 (1 + (sizeL (l.take k) : Int) + (sizeL [l[k]] : Int))))) := by
            have hgs := hg5.size
            refine ⟨k + 1, R0, S3, (.slice (some ⟨g5, 0, none⟩) (k + 1) cap5), xs5, by show k + 1 ≤ l.length; omega, rfl, ⟨⟨R ++ R3, by rw [HS3.out, HS2.out, List.append_assoc]⟩, by show S3.length ≤ S1.length + sizeL (l.take (k + 1)); omega⟩, YES.out, ?_, ?_, ?_, ?_, ?_, ?_⟩
            · have := (ZO.set 1 (.slice (some ⟨g5, 0, none⟩) (k + 1) cap5)).set 3 (.int .i64 (1 + (sizeL (l.take k) : Int) + (sizeL [l[k]] : Int)))
              simpa [hst, Int.add_assoc] using this
            · have e : l.take (k + 1) = l.take k ++ [l[k]] := List.take_succ_eq_append_getElem hlt
              rw [e]
              exact (hrow5.setCell (by omega) _).setCell (by omega) _
            · have hMl := YM.out.lt
              refine YM.out.kept ?_
              rw [Below.heap_setCell _ _ _ _ (by simpa using hrO), Below.heap_setCell _ _ _ _ (by simpa using hrO), hg5.block r (by simp; omega) (fun e => by have := (YROW.out.own.lt r e.symm).1; omega), Below.heap_alloc _ _ _ (by simp; omega), Below.heap_alloc _ _ _ hMl]
            · exact ((((YT.out.alloc _).alloc _).grown hg5 (YROW.out.ne (by omega))).setOther _ _ (by omega)).setOther _ _ (by omega)
            · exact ((((YR.out.alloc _).alloc _).grown hg5 (YROW.out.ne (by omega))).setOther _ _ (by omega)).setOther _ _ (by omega)
            · exact ((((YE.out.alloc _).alloc _).grown hg5 (fun j hj => by have := (YROW.out.own.lt j hj).1; omega)).setNew (by omega) _ _).setNew (by omega) _ _
          have hsk : sizeL (l.take k) ≤ 20000 := by omega
          clear hrun hrow5 hg5 hvb5 ZX hst
          have y3 : ∀ v, (w5.setCell ⟨w2.heap.size, 1, none⟩ v).cell? ⟨w2.heap.size, 3, none⟩ = some (.int .i64 (1 + sizeL (l.take k))) := fun v => by rw [World.cell?_setCell_other _ _ _ _ (by simp)]; exact z1
          have y4 : ∀ v, (w5.setCell ⟨w2.heap.size, 1, none⟩ v).cell? ⟨w4.heap.size, 3, none⟩ = some (.int .i64 (sizeL [l[k]])) := fun v => by rw [World.cell?_setCell_other _ _ _ _ (by simp)]; exact z2
          have zf2 := fun v => (ZO.set 1 v).frozen
          go_wp2_with (at_builtin; refine wpList_append_eq rfl _ _ _ _ rfl rfl rfl HRUN.out ?_)
          go_roundw
          case rel =>
            have h := HFIN.out
            have e : ((k + 1 : Nat) : Int) = (k : Int) + 1 := by omega
            rw [e] at h
            exact h
          case measure => simp [intOf]; omega
        · have htk : l.take k = l := List.take_of_length_le (by omega)
          rw [htk] at hO1 hrow
          obtain ⟨a9, c9, hv9, hs9⟩ := hrow.sl
          subst hv9
          have p0 := hO1.cell 0
          have p1 := hO1.cell 1
          have p2 := hO1.cell 2
          have p3 := hO1.cell 3
          have r0 := hRb.cell 0
          have r1 := hRb.cell 1
          have r2 := hRb.cell 2
          have r3 := hRb.cell 3
          have rf := hRb.frozen
          simp only [List.getElem?_toArray, List.getElem?_cons_zero, List.getElem?_cons_succ] at p0 p1 p2 p3 r0 r1 r2 r3
          have HS9 := hide hs9
          have HZN : Hid (sizeL [(⟨s, l⟩ : Tm)] = 1 + sizeL l) := by unfold Hid; simp [sizeL]
          have HSZ2 : Hid (S2.length ≤ S1.length + sizeL l) := by unfold Hid; simpa [htk] using hSz
          have HZ : Hid ((1 : Int) + sizeL l = sizeL [(⟨s, l⟩ : Tm)]) := by unfold Hid; simp [sizeL]
          have HN : Hid (numT (⟨s, l⟩ : Tm) S1 = numT (⟨s, l⟩ : Tm) S2) := by unfold Hid; rw [hS2, numT_more R MEM.out]
          have HMM : Hid ((⟨s, l⟩ : Tm) ∈ S2) := by unfold Hid; rw [hS2]; exact List.mem_append_left _ MEM.out
          clear hs9 htk hO1 hrow hM hT hRb hE hES
          go_wp2_with fail
          refine bodyPost_ret (v := .agg #[.string s, .slice a9 l.length c9, .int .i64 (numT (⟨s, l⟩ : Tm) S1), .int .i64 (1 + sizeL l)]) (by simp [results, Tryz.results48, go_sem, World.cell?_setCell_same, World.cell?_setCell_other, r0, r1, r2, r3]) rfl ?_
          refine ⟨S2, _, rfl, ?_, XES.out, ?_, ?_, ?_⟩
          · obtain ⟨⟨R1, hR1⟩, hR2⟩ := GS.out
            refine ⟨⟨R1 ++ R, by rw [hS2, hR1, List.append_assoc]⟩, ?_⟩
            have := HZN.out
            have h3 : S2.length ≤ S1.length + sizeL l := HSZ2.out
            omega
          · refine XM.out.kept ?_
            have hne : r ≠ w.heap.size + 1 := by omega
            rw [Below.heap_setCell _ _ _ _ (by simpa using hne), Below.heap_setCell _ _ _ _ (by simpa using hne), Below.heap_setCell _ _ _ _ (by simpa using hne), Below.heap_setCell _ _ _ _ (by simpa using hne)]
          · refine ⟨HMM.out, a9, c9, by rw [HZ.out, HN.out], ?_⟩
            refine (HS9.out.kept fun b hb => ?_).mono fun b hb _ => by omega
            have hne : b ≠ w.heap.size + 1 := by omega
            rw [Below.heap_setCell _ _ _ _ (by simpa using hne), Below.heap_setCell _ _ _ _ (by simpa using hne), Below.heap_setCell _ _ _ _ (by simpa using hne), Below.heap_setCell _ _ _ _ (by simpa using hne)]
          · exact (((XE.out.setNew (by omega) _ _).setNew (by omega) _ _).setNew (by omega) _ _).setNew (by omega) _ _
#print axioms number_any
end Go.Proofs.YteojdfmdhgnmfaaGreat

/- Walks: two terms get numbers; above by paths. -/
namespace Go.Proofs.YteojdfmdhgnmfaaGreat
open Go.RowKit
open Go.WideMaps
set_option linter.unusedSimpArgs false
set_option linter.unusedVariables false
set_option maxRecDepth 8000

def NbS (a b : Tm) (aa : Option Addr) (ca : Nat) (ab : Option Addr) (cb : Nat) (w w' : World) : Prop :=
  Blk w' w.heap.size #[.string a.name, .slice aa a.args.length ca] 25 ∧ Blk w' (w.heap.size + 1) #[.string b.name, .slice ab b.args.length cb] 25 ∧ Ex (w.heap.size + 4) w w'
theorem NbS.step {a b : Tm} {aa ab : Option Addr} {ca cb : Nat} {w w1 w2 : World} (h : NbS a b aa ca ab cb w w1) (hE : Ex (w.heap.size + 4) w1 w2) : NbS a b aa ca ab cb w w2 := ⟨h.1.ex hE (by omega), h.2.1.ex hE (by omega), h.2.2.trans hE⟩
theorem NbS.set {a b : Tm} {aa ab : Option Addr} {ca cb : Nat} {w w1 : World} (h : NbS a b aa ca ab cb w w1) {k : Nat} (hk : w.heap.size + 2 ≤ k) (i : Nat) (v : Value) : NbS a b aa ca ab cb w (w1.setCell ⟨k, i, none⟩ v) := ⟨h.1.setOther i v (by omega), h.2.1.setOther i v (by omega), h.2.2.setNew (by omega) i v⟩
theorem nb_fin {S S0 : List Tm} {a b : Tm} {vx vy : Value} {e : Ending} {w w5 w' : World} (hB : Below w.heap.size w w5) (hq : ExQ (fun b => b = w.heap.size + 2 ∨ b = w.heap.size + 3) w5 w') (he : e = .returned (.tuple #[vx, vy])) (hS : S.length ≤ sizeL [a] + sizeL [b]) (hx : IV w5 (fun b => w.heap.size + 5 ≤ b) S vx a) (hy : IV w5 (fun b => w.heap.size + 5 ≤ b) S vy b) :
    ∃ S vx vy, e = .returned (.tuple #[vx, vy]) ∧ S.length ≤ sizeL [a] + sizeL [b] ∧ IV w' (fun b => w.heap.size ≤ b) S vx a ∧ IV w' (fun b => w.heap.size ≤ b) S vy b ∧ Below w.heap.size w w' := by
  have hz := hB.size
  have key : ∀ v x, IV w5 (fun b => w.heap.size + 5 ≤ b) S v x → IV w' (fun b => w.heap.size ≤ b) S v x := fun v x h =>
    ((h.mono (Y := fun b => w.heap.size + 5 ≤ b ∧ b < w5.heap.size) fun b h1 h2 => ⟨h1, h2⟩).kept fun b hb => hq.block b hb.2 (fun h => by have := hb.1; rcases h with h | h <;> omega)).mono fun b hb _ => by have := hb.1; omega
  exact ⟨S, vx, vy, he, hS, key _ _ hx, key _ _ hy, hB.trans (hq.below hB.size fun b hb => by rcases hb with h | h <;> omega)⟩

set_option maxHeartbeats 4000000 in
theorem numbered_any (a b : Tm) (va vb : Value) (w : World) (X : Nat → Prop) (ea : errL [a] = 0) (eb : errL [b] = 0) (za : sizeL [a] ≤ 20000) (zb : sizeL [b] ≤ 20000) (ha : TV w X va a) (hb : TV w X vb b) :
    Calls Tryz.prog 34 #[va, vb] w fun e w' => ∃ S vx vy, e = .returned (.tuple #[vx, vy]) ∧ S.length ≤ sizeL [a] + sizeL [b] ∧ IV w' (fun b => w.heap.size ≤ b) S vx a ∧ IV w' (fun b => w.heap.size ≤ b) S vy b ∧ Below w.heap.size w w' := by
  have HA := hide (ha.mono (Y := fun b => X b ∧ b < w.heap.size) fun b h1 h2 => ⟨h1, h2⟩)
  have HB := hide (hb.mono (Y := fun b => X b ∧ b < w.heap.size) fun b h1 h2 => ⟨h1, h2⟩)
  obtain ⟨aa, ca, rfl, hsa⟩ := ha
  obtain ⟨ab, cb, rfl, hsb⟩ := hb
  clear hsa hsb
  have HEA := hide ea
  have HEB := hide eb
  clear ea eb
  have hmm := @run_makeMap Tryz.prog
  have N0 : Hid (NbS a b aa ca ab cb w (((((w.alloc (.cells #[.string a.name, .slice aa a.args.length ca] 25)).alloc (.cells #[.string b.name, .slice ab b.args.length cb] 25)).alloc (.cells #[.string ⟨#[]⟩, .slice none 0 0, .int .i64 0, .int .i64 0] 79)).alloc (.cells #[.string ⟨#[]⟩, .slice none 0 0, .int .i64 0, .int .i64 0] 79)).alloc (.map #[] 0)).drew ∧ Blk (((((w.alloc (.cells #[.string a.name, .slice aa a.args.length ca] 25)).alloc (.cells #[.string b.name, .slice ab b.args.length cb] 25)).alloc (.cells #[.string ⟨#[]⟩, .slice none 0 0, .int .i64 0, .int .i64 0] 79)).alloc (.cells #[.string ⟨#[]⟩, .slice none 0 0, .int .i64 0, .int .i64 0] 79)).alloc (.map #[] 0)).drew (w.heap.size + 2) #[.string ⟨#[]⟩, .slice none 0 0, .int .i64 0, .int .i64 0] 79 ∧ Blk (((((w.alloc (.cells #[.string a.name, .slice aa a.args.length ca] 25)).alloc (.cells #[.string b.name, .slice ab b.args.length cb] 25)).alloc (.cells #[.string ⟨#[]⟩, .slice none 0 0, .int .i64 0, .int .i64 0] 79)).alloc (.cells #[.string ⟨#[]⟩, .slice none 0 0, .int .i64 0, .int .i64 0] 79)).alloc (.map #[] 0)).drew (w.heap.size + 3) #[.string ⟨#[]⟩, .slice none 0 0, .int .i64 0, .int .i64 0] 79 ∧ MapAt (((((w.alloc (.cells #[.string a.name, .slice aa a.args.length ca] 25)).alloc (.cells #[.string b.name, .slice ab b.args.length cb] 25)).alloc (.cells #[.string ⟨#[]⟩, .slice none 0 0, .int .i64 0, .int .i64 0] 79)).alloc (.cells #[.string ⟨#[]⟩, .slice none 0 0, .int .i64 0, .int .i64 0] 79)).alloc (.map #[] 0)).drew (w.heap.size + 4) (numL 0 []) ∧ Below w.heap.size w (((((w.alloc (.cells #[.string a.name, .slice aa a.args.length ca] 25)).alloc (.cells #[.string b.name, .slice ab b.args.length cb] 25)).alloc (.cells #[.string ⟨#[]⟩, .slice none 0 0, .int .i64 0, .int .i64 0] 79)).alloc (.cells #[.string ⟨#[]⟩, .slice none 0 0, .int .i64 0, .int .i64 0] 79)).alloc (.map #[] 0)).drew) := by
    have k1 := Blk.new w #[.string a.name, .slice aa a.args.length ca] 25
    have e1 : (w.alloc (.cells #[.string a.name, .slice aa a.args.length ca] 25)).heap.size = w.heap.size + 1 := by simp
    have b1 := (Below.refl w.heap.size w).alloc (Nat.le_refl _) (.cells #[.string a.name, .slice aa a.args.length ca] 25)
    generalize (w.alloc (.cells #[.string a.name, .slice aa a.args.length ca] 25)) = w1 at *
    have k2 := Blk.new w1 #[.string b.name, .slice ab b.args.length cb] 25
    have b2 := b1.alloc b1.size (.cells #[.string b.name, .slice ab b.args.length cb] 25)
    have k1' := k1.alloc (.cells #[.string b.name, .slice ab b.args.length cb] 25)
    have e2 : (w1.alloc (.cells #[.string b.name, .slice ab b.args.length cb] 25)).heap.size = w.heap.size + 2 := by simp [e1]
    generalize w1.alloc (.cells #[.string b.name, .slice ab b.args.length cb] 25) = w2 at *
    have k3 := Blk.new w2 #[.string ⟨#[]⟩, .slice none 0 0, .int .i64 0, .int .i64 0] 79
    have b3 := b2.alloc b2.size (.cells #[.string ⟨#[]⟩, .slice none 0 0, .int .i64 0, .int .i64 0] 79)
    have k2' := k2.alloc (.cells #[.string ⟨#[]⟩, .slice none 0 0, .int .i64 0, .int .i64 0] 79)
    have k1'' := k1'.alloc (.cells #[.string ⟨#[]⟩, .slice none 0 0, .int .i64 0, .int .i64 0] 79)
    have e3 : (w2.alloc (.cells #[.string ⟨#[]⟩, .slice none 0 0, .int .i64 0, .int .i64 0] 79)).heap.size = w.heap.size + 3 := by simp [e2]
    generalize w2.alloc (.cells #[.string ⟨#[]⟩, .slice none 0 0, .int .i64 0, .int .i64 0] 79) = w3 at *
    have k4 := Blk.new w3 #[.string ⟨#[]⟩, .slice none 0 0, .int .i64 0, .int .i64 0] 79
    have b4 := b3.alloc b3.size (.cells #[.string ⟨#[]⟩, .slice none 0 0, .int .i64 0, .int .i64 0] 79)
    have k3' := k3.alloc (.cells #[.string ⟨#[]⟩, .slice none 0 0, .int .i64 0, .int .i64 0] 79)
    have k2'' := k2'.alloc (.cells #[.string ⟨#[]⟩, .slice none 0 0, .int .i64 0, .int .i64 0] 79)
    have k1t := k1''.alloc (.cells #[.string ⟨#[]⟩, .slice none 0 0, .int .i64 0, .int .i64 0] 79)
    have e4 : (w3.alloc (.cells #[.string ⟨#[]⟩, .slice none 0 0, .int .i64 0, .int .i64 0] 79)).heap.size = w.heap.size + 4 := by simp [e3]
    generalize w3.alloc (.cells #[.string ⟨#[]⟩, .slice none 0 0, .int .i64 0, .int .i64 0] 79) = w4 at *
    have m5 := MapAt.new w4
    rw [e1] at k2''
    rw [e2] at k3'
    rw [e3] at k4
    rw [e4] at m5
    have b5 := b4.alloc b4.size (.map #[] 0)
    exact ⟨⟨k1t.alloc _, k2''.alloc _, ⟨b5.os, b5.tape, b5.output, b5.size, fun k hk _ => b5.block k hk⟩⟩, k3'.alloc _, k4.alloc _, m5, below_drewN b5 1⟩
  go_enter Tryz.func34, Tryz.ntmps34
  go_wp2_with fail
  refine wp_region_held_drew (S := NbS a b aa ca ab cb w) (by kernel_rfl) N0.out.1 (fun hHeld => ?_)
  refine wpAnyH_take (i := 0) (v := ?_) rfl (by kernel_rfl) (by kernel_rfl) (by kernel_rfl) (fun _ _ _ h => h) (Or.inl ⟨by rfl, ?_⟩) (by assumption) ?_
  rotate_left
  · intro w' hSw
    have t0 := hSw.1.cell 0
    have t1 := hSw.1.cell 1
    have u0 := hSw.2.1.cell 0
    have u1 := hSw.2.1.cell 1
    simp only [List.getElem?_toArray, List.getElem?_cons_zero, List.getElem?_cons_succ] at t0 t1 u0 u1
    go_simp <;> with_reducible rfl
  try simp only [Act.put, List.setIfInBounds_toArray, List.set_cons_zero, List.set_cons_succ, List.getElem_toArray, List.getElem_cons_succ, List.getElem_cons_zero]
  refine wpAnyH_take (i := 1) (v := ?_) rfl (by kernel_rfl) (by kernel_rfl) (by kernel_rfl) (fun _ _ _ h => h) (Or.inl ⟨by rfl, ?_⟩) (by assumption) ?_
  rotate_left
  · intro w' hSw
    have t0 := hSw.1.cell 0
    have t1 := hSw.1.cell 1
    have u0 := hSw.2.1.cell 0
    have u1 := hSw.2.1.cell 1
    simp only [List.getElem?_toArray, List.getElem?_cons_zero, List.getElem?_cons_succ] at t0 t1 u0 u1
    go_simp <;> with_reducible rfl
  try simp only [Act.put, List.setIfInBounds_toArray, List.set_cons_zero, List.set_cons_succ, List.getElem_toArray, List.getElem_cons_succ, List.getElem_cons_zero]
  refine wpAnyH_take (i := 3) (v := ?_) rfl (by kernel_rfl) (by kernel_rfl) (by kernel_rfl) (fun _ _ _ h => h) (Or.inl ⟨by rfl, ?_⟩) (by assumption) ?_
  rotate_left
  · intro w' hSw
    have t0 := hSw.1.cell 0
    have t1 := hSw.1.cell 1
    have u0 := hSw.2.1.cell 0
    have u1 := hSw.2.1.cell 1
    simp only [List.getElem?_toArray, List.getElem?_cons_zero, List.getElem?_cons_succ] at t0 t1 u0 u1
    go_simp <;> with_reducible rfl
  try simp only [Act.put, List.setIfInBounds_toArray, List.set_cons_zero, List.set_cons_succ, List.getElem_toArray, List.getElem_cons_succ, List.getElem_cons_zero]
  refine wpAnyH_take (i := 4) (v := ?_) rfl (by kernel_rfl) (by kernel_rfl) (by kernel_rfl) (fun _ _ _ h => h) (Or.inl ⟨by rfl, ?_⟩) (by assumption) ?_
  rotate_left
  · intro w' hSw
    have t0 := hSw.1.cell 0
    have t1 := hSw.1.cell 1
    have u0 := hSw.2.1.cell 0
    have u1 := hSw.2.1.cell 1
    simp only [List.getElem?_toArray, List.getElem?_cons_zero, List.getElem?_cons_succ] at t0 t1 u0 u1
    go_simp <;> with_reducible rfl
  try simp only [Act.put, List.setIfInBounds_toArray, List.set_cons_zero, List.set_cons_succ, List.getElem_toArray, List.getElem_cons_succ, List.getElem_cons_zero]

  have e5 : w.heap.size + 1 + 1 + 1 + 1 = w.heap.size + 4 := rfl
  rw [e5]
  clear e5 hmm
  generalize (((((w.alloc (.cells #[.string a.name, .slice aa a.args.length ca] 25)).alloc (.cells #[.string b.name, .slice ab b.args.length cb] 25)).alloc (.cells #[.string ⟨#[]⟩, .slice none 0 0, .int .i64 0, .int .i64 0] 79)).alloc (.cells #[.string ⟨#[]⟩, .slice none 0 0, .int .i64 0, .int .i64 0] 79)).alloc (.map #[] 0)).drew = w5 at *
  refine wpAnyH_ready (rs := [2]) (by kernel_rfl) (by simp) ?_
  refine AllReadyH.cons rfl (fun K hK => ?_) AllReadyH.nil
  go_simp
  go_at_call 48
  refine (number_any a [] (w.heap.size + 4) _ _ (fun b => X b ∧ b < w.heap.size) HEA.out za (by simp) N0.out.2.2.2.1 (by exact HA.out.later N0.out.2.2.2.2) (fun b hb => by have := hb.2; omega)).mono ?_
  rintro e w6 ⟨S1, v1, rfl, ⟨⟨R1, hR1⟩, hz1⟩, hes1, hm1, hiv1, hex1⟩
  have N1 := hide (N0.out.1.step hex1)
  have R2 := hide (N0.out.2.1.ex hex1 (by omega))
  have R3 := hide (N0.out.2.2.1.ex hex1 (by omega))
  have HB6 : Hid (Below w.heap.size w w6) := ⟨hex1.os.trans N0.out.2.2.2.2.os, hex1.tape.trans N0.out.2.2.2.2.tape, hex1.output.trans N0.out.2.2.2.2.output, Nat.le_trans N0.out.2.2.2.2.size hex1.size, fun k hk => (hex1.block k (by have := N0.out.2.2.2.2.size; omega) (by omega)).trans (N0.out.2.2.2.2.block k hk)⟩
  have hz5 : w.heap.size + 5 ≤ w5.heap.size := by have := N0.out.2.2.2.1.lt; omega
  have HI1 := hide (hiv1.mono (Y := fun b => w.heap.size + 5 ≤ b) fun b hb _ => by omega)
  have HM1 := hide hm1
  have HZ1 := hide hz1
  have HES1 := hide hes1
  have HEX1 := hide hex1
  obtain ⟨_, a1, c1, rfl, _⟩ := hiv1
  clear hm1 hex1 hes1 hR1 hz1
  go_simp
  refine hK.out _ _ (by exact N1.out) (fun hHeld => ?_)
  clear hK K
  try simp only [Act.put, List.setIfInBounds_toArray, List.set_cons_zero, List.set_cons_succ, List.getElem_toArray, List.getElem_cons_succ, List.getElem_cons_zero]
  refine wpAnyH_ready (rs := [5]) (by kernel_rfl) (by simp) ?_
  refine AllReadyH.cons rfl (fun K hK => ?_) AllReadyH.nil
  go_simp
  go_at_call 48
  refine (number_any b S1 (w.heap.size + 4) _ _ (fun b => X b ∧ b < w.heap.size) HEB.out zb HES1.out HM1.out (by exact HB.out.later HB6.out) (fun b hb => by have := hb.2; omega)).mono ?_
  rintro e w7 ⟨S2, v2, rfl, ⟨⟨R2', hR2⟩, hz2⟩, hes2, hm2, hiv2, hex2⟩
  have N2 := hide (N1.out.step hex2)
  have Q2 := hide (R2.out.ex hex2 (by omega))
  have Q3 := hide (R3.out.ex hex2 (by omega))
  have HB7 : Hid (Below w.heap.size w w7) := ⟨hex2.os.trans HB6.out.os, hex2.tape.trans HB6.out.tape, hex2.output.trans HB6.out.output, Nat.le_trans HB6.out.size hex2.size, fun k hk => (hex2.block k (by have := HB6.out.size; omega) (by omega)).trans (HB6.out.block k hk)⟩
  have HZ2 : Hid (S2.length ≤ sizeL [a] + sizeL [b]) := by have := HZ1.out; unfold Hid; simp at this; omega
  have HI2 := hide (hiv2.mono (Y := fun b => w.heap.size + 5 ≤ b) fun b hb _ => by have := HEX1.out.size; omega)
  have hmem1 := HI1.out.1
  have hnn : numT a S1 = numT a S2 := by rw [hR2, numT_more R2' hmem1]
  have HI1' : Hid (IV w7 (fun b => w.heap.size + 5 ≤ b) S2 (.agg #[.string a.name, .slice a1 a.args.length c1, .int .i64 (numT a S2), .int .i64 (sizeL [a])]) a) := by
    have h := (HI1.out.ex hex2 (fun b hb => by omega)).more R2'
    rw [← hR2, hnn] at h
    exact h
  obtain ⟨_, a2, c2, rfl, _⟩ := hiv2
  rw [hnn]
  clear hm2 hex2 hes2 hR2 hz2 HI1 HM1 HES1 R2 R3 N1 HB6 hnn hmem1
  go_simp
  refine hK.out _ _ (by exact N2.out) (fun hHeld => ?_)
  clear hK K
  try simp only [Act.put, List.setIfInBounds_toArray, List.set_cons_zero, List.set_cons_succ, List.getElem_toArray, List.getElem_cons_succ, List.getElem_cons_zero]
  have r0 := Q2.out.cell 0
  have r1 := Q2.out.cell 1
  have r2 := Q2.out.cell 2
  have r3 := Q2.out.cell 3
  have rf := Q2.out.frozen
  have s0 := Q3.out.cell 0
  have s1 := Q3.out.cell 1
  have s2 := Q3.out.cell 2
  have s3 := Q3.out.cell 3
  have sf := Q3.out.frozen
  simp only [List.getElem?_toArray, List.getElem?_cons_zero, List.getElem?_cons_succ] at r0 r1 r2 r3 s0 s1 s2 s3
  refine wpAnyH_ready (rs := [6]) (by kernel_rfl) (by simp) ?_
  refine AllReadyH.cons rfl (fun K hK => ?_) AllReadyH.nil
  go_simp
  refine hK.out _ _ (by exact (((N2.out.set (by omega) _ _).set (by omega) _ _).set (by omega) _ _).set (by omega) _ _) (fun hHeld => ?_)
  clear hK K
  try simp only [Act.put, List.setIfInBounds_toArray, List.set_cons_zero, List.set_cons_succ, List.getElem_toArray, List.getElem_cons_succ, List.getElem_cons_zero]
  refine wpAnyH_ready (rs := [7]) (by kernel_rfl) (by simp) ?_
  refine AllReadyH.cons rfl (fun K hK => ?_) AllReadyH.nil
  go_simp
  refine hK.out _ _ (by exact (((hHeld.set (by omega) _ _).set (by omega) _ _).set (by omega) _ _).set (by omega) _ _) (fun hHeld => ?_)
  clear hK K
  try simp only [Act.put, List.setIfInBounds_toArray, List.set_cons_zero, List.set_cons_succ, List.getElem_toArray, List.getElem_cons_succ, List.getElem_cons_zero]
  refine wpAnyH_done (by kernel_rfl) ?_ _
  go_wp2_with fail
  refine bodyPost_ret (v := .tuple #[.agg #[.string a.name, .slice a1 a.args.length c1, .int .i64 (numT a S2), .int .i64 (sizeL [a])], .agg #[.string b.name, .slice a2 b.args.length c2, .int .i64 (numT b S2), .int .i64 (sizeL [b])]]) (by simp [results, Tryz.results34, go_sem, World.cell?_setCell_same, World.cell?_setCell_other, r0, r1, r2, r3, s0, s1, s2, s3]) rfl ?_
  refine nb_fin (S0 := []) HB7.out ?_ rfl HZ2.out HI1'.out HI2.out
  iterate 8 refine ExQ.set ?_ (by simp) _ _
  exact ExQ.refl _ _
#print axioms numbered_any
end Go.Proofs.YteojdfmdhgnmfaaGreat


/- Walks: which term is above another one by weights. -/
namespace Go.Proofs.YteojdfmdhgnmfaaGreat
open Go.RowKit
set_option linter.unusedSimpArgs false
set_option linter.unusedVariables false
set_option maxRecDepth 8000

structure HvW (S : List Tm) (a b : Tm) (aa : Option Addr) (ca : Nat) (ab : Option Addr) (cb : Nat) (w wr : World) : Prop where
  k1 : Blk wr w.heap.size #[.string a.name, .slice aa a.args.length ca, .int .i64 (numT a S), .int .i64 (sizeL [a])] 79
  k2 : Blk wr (w.heap.size + 1) #[.string b.name, .slice ab b.args.length cb, .int .i64 (numT b S), .int .i64 (sizeL [b])] 79
  bl : Below w.heap.size w wr
theorem HvW.later {S : List Tm} {a b : Tm} {aa ab : Option Addr} {ca cb : Nat} {w w1 w2 : World} (h : HvW S a b aa ca ab cb w w1) (hb : Below w1.heap.size w1 w2) : HvW S a b aa ca ab cb w w2 := ⟨h.k1.below hb h.k1.lt, h.k2.below hb h.k2.lt, h.bl.trans (hb.mono h.bl.size)⟩
theorem HvW.start (S : List Tm) (a b : Tm) (aa : Option Addr) (ca : Nat) (ab : Option Addr) (cb : Nat) (w : World) : HvW S a b aa ca ab cb w ((w.alloc (.cells #[.string a.name, .slice aa a.args.length ca, .int .i64 (numT a S), .int .i64 (sizeL [a])] 79)).alloc (.cells #[.string b.name, .slice ab b.args.length cb, .int .i64 (numT b S), .int .i64 (sizeL [b])] 79)) := by
  have k1 := Blk.new w #[.string a.name, .slice aa a.args.length ca, .int .i64 (numT a S), .int .i64 (sizeL [a])] 79
  have e1 : (w.alloc (.cells #[.string a.name, .slice aa a.args.length ca, .int .i64 (numT a S), .int .i64 (sizeL [a])] 79)).heap.size = w.heap.size + 1 := by simp
  have b1 := (Below.refl w.heap.size w).alloc (Nat.le_refl _) (.cells #[.string a.name, .slice aa a.args.length ca, .int .i64 (numT a S), .int .i64 (sizeL [a])] 79)
  generalize (w.alloc (.cells #[.string a.name, .slice aa a.args.length ca, .int .i64 (numT a S), .int .i64 (sizeL [a])] 79)) = w1 at *
  have k2 := Blk.new w1 #[.string b.name, .slice ab b.args.length cb, .int .i64 (numT b S), .int .i64 (sizeL [b])] 79
  rw [e1] at k2
  exact ⟨k1.alloc _, k2, b1.alloc b1.size _⟩

end Go.Proofs.YteojdfmdhgnmfaaGreat

/- Walks: above by paths, as it is asked for. -/
namespace Go.Proofs.YteojdfmdhgnmfaaGreat
open Go.RowKit
open Go.WideMaps
set_option linter.unusedSimpArgs false
set_option linter.unusedVariables false
set_option maxRecDepth 8000

set_option maxHeartbeats 4000000 in
theorem aPath_any (row : List ByteArray) (ho : OnceN row) (a b : Tm) (u va vb : Value) (w : World) (X : Nat → Prop) (ea : errL [a] = 0) (eb : errL [b] = 0) (za : sizeL [a] ≤ 20000) (zb : sizeL [b] ≤ 20000) (hu : LV Value.string w X u row) (ha : TV w X va a) (hb : TV w X vb b) :
    Calls Tryz.prog 20 #[u, va, vb] w fun e w' => e = .returned (.bool (pathB row a b)) ∧ Below w.heap.size w w' := by
  have HA := hide ha
  have HB := hide hb
  have HU := hide hu
  obtain ⟨aa, ca, rfl, hsa⟩ := ha
  obtain ⟨ab, cb, rfl, hsb⟩ := hb
  clear hsa hsb hu
  have HEA := hide ea
  have HEB := hide eb
  have HO := hide ho
  clear ea eb ho
  have hmm := @run_makeMap Tryz.prog
  have B2 : Hid (Below w.heap.size w ((w.alloc (.cells #[.string a.name, .slice aa a.args.length ca] 25)).alloc (.cells #[.string b.name, .slice ab b.args.length cb] 25))) := ((Below.refl w.heap.size w).alloc (Nat.le_refl _) _).alloc (by simp) _
  have K1 : Hid (Blk ((w.alloc (.cells #[.string a.name, .slice aa a.args.length ca] 25)).alloc (.cells #[.string b.name, .slice ab b.args.length cb] 25)) w.heap.size #[.string a.name, .slice aa a.args.length ca] 25) := (Blk.new w _ _).alloc _
  have K2 : Hid (Blk ((w.alloc (.cells #[.string a.name, .slice aa a.args.length ca] 25)).alloc (.cells #[.string b.name, .slice ab b.args.length cb] 25)) (w.heap.size + 1) #[.string b.name, .slice ab b.args.length cb] 25) := by
    have h := Blk.new (w.alloc (.cells #[.string a.name, .slice aa a.args.length ca] 25)) #[.string b.name, .slice ab b.args.length cb] 25
    have e : (w.alloc (.cells #[.string a.name, .slice aa a.args.length ca] 25)).heap.size = w.heap.size + 1 := by simp
    rw [e] at h
    exact h
  go_enter Tryz.func20, Tryz.ntmps20
  go_wp2_with fail
  generalize ((w.alloc (.cells #[.string a.name, .slice aa a.args.length ca] 25)).alloc (.cells #[.string b.name, .slice ab b.args.length cb] 25)) = w2 at *
  refine (ranksOf_any row HO.out _ _ X (by exact HU.out.later B2.out)).mono ?_
  rintro e w3 ⟨rfl, hM3, hb3⟩
  have B3 := hide (B2.out.trans (hb3.mono B2.out.size))
  have M3 := hide hM3
  have K13 := hide (K1.out.below hb3 K1.out.lt)
  have K23 := hide (K2.out.below hb3 K2.out.lt)
  have hl3 := hM3.lt
  clear hM3 hb3 K1 K2
  have t0 : ∀ o o', ((w3.alloc o).alloc o').cell? ⟨w.heap.size, 0, none⟩ = some (.string a.name) := fun o o' => ((K13.out.alloc o).alloc o').cell 0
  have t1 : ∀ o o', ((w3.alloc o).alloc o').cell? ⟨w.heap.size, 1, none⟩ = some (.slice aa a.args.length ca) := fun o o' => ((K13.out.alloc o).alloc o').cell 1
  have u0 : ∀ o o', ((w3.alloc o).alloc o').cell? ⟨w.heap.size + 1, 0, none⟩ = some (.string b.name) := fun o o' => ((K23.out.alloc o).alloc o').cell 0
  have u1 : ∀ o o', ((w3.alloc o).alloc o').cell? ⟨w.heap.size + 1, 1, none⟩ = some (.slice ab b.args.length cb) := fun o o' => ((K23.out.alloc o).alloc o').cell 1
  go_wp2_with fail
  have M5 : Hid (MapAt ((w3.alloc (.map #[] 0)).alloc (.cells #[.map (some w2.heap.size), .map (some w3.heap.size)] 76)) w2.heap.size (rkL 0 row)) := (M3.out.kept (Below.heap_alloc _ _ _ hl3)).kept (Below.heap_alloc _ _ _ (by simp; omega))
  have P5 : Hid (∀ S, MapP ((w3.alloc (.map #[] 0)).alloc (.cells #[.map (some w2.heap.size), .map (some w3.heap.size)] 76)) w3.heap.size (AskQ row S)) := fun S => (MapP.new w3 (AskQ row S)).kept (Below.heap_alloc _ _ _ (by simp))
  have B5 : Hid (Below w.heap.size w ((w3.alloc (.map #[] 0)).alloc (.cells #[.map (some w2.heap.size), .map (some w3.heap.size)] 76))) := (B3.out.alloc B3.out.size _).alloc (by have := B3.out.size; simp; omega) _
  have K5 : Hid (Blk ((w3.alloc (.map #[] 0)).alloc (.cells #[.map (some w2.heap.size), .map (some w3.heap.size)] 76)) (w3.heap.size + 1) #[.map (some w2.heap.size), .map (some w3.heap.size)] 76) := by
    have h := Blk.new (w3.alloc (.map #[] 0)) #[.map (some w2.heap.size), .map (some w3.heap.size)] 76
    have e : (w3.alloc (.map #[] 0)).heap.size = w3.heap.size + 1 := by simp
    rw [e] at h
    exact h
  generalize (w3.alloc (.map #[] 0)).alloc (.cells #[.map (some w2.heap.size), .map (some w3.heap.size)] 76) = w5 at *
  refine (numbered_any a b _ _ _ X HEA.out HEB.out za zb (by exact HA.out.later B5.out) (by exact HB.out.later B5.out)).mono ?_
  rintro e w6 ⟨S, vx, vy, rfl, hS, hvx, hvy, hb6⟩
  have HVX := hide hvx
  have HVY := hide hvy
  obtain ⟨_, ax, cx, rfl, _⟩ := hvx
  obtain ⟨_, ay, cy, rfl, _⟩ := hvy
  have B6 := hide (B5.out.trans (hb6.mono B5.out.size))
  have hl5 := K5.out.lt
  have P6 : Hid (PS row S w2.heap.size w3.heap.size w6) := ⟨M5.out.below hb6 M5.out.lt, (P5.out S).below hb6 (P5.out S).lt, by omega⟩
  have K6 := K5.out.below hb6 hl5
  have q0 : ∀ o o', ((w6.alloc o).alloc o').cell? ⟨w3.heap.size + 1, 0, none⟩ = some (.map (some w2.heap.size)) := fun o o' => ((K6.alloc o).alloc o').cell 0
  have q1 : ∀ o o', ((w6.alloc o).alloc o').cell? ⟨w3.heap.size + 1, 1, none⟩ = some (.map (some w3.heap.size)) := fun o o' => ((K6.alloc o).alloc o').cell 1
  have hSl : S.length < 9000000000000000000 := by omega
  clear hb6 t0 t1 u0 u1
  go_wp2_with fail
  refine (above_any row S w2.heap.size w3.heap.size hSl (sizeL [a] + sizeL [b]) a b _ _ _ (fun b => w5.heap.size ≤ b) (Nat.le_refl _) (fun b hb => by omega) ((P6.out.alloc _).alloc _) (by exact (HVX.out.alloc _).alloc _) (by exact (HVY.out.alloc _).alloc _)).mono ?_
  rintro e w7 ⟨rfl, _, hE7⟩
  have HB7 : Hid (Below w.heap.size w w7) := by
    have h1 := (B6.out.alloc B6.out.size (.cells #[.string a.name, .slice ax a.args.length cx, .int .i64 (numT a S), .int .i64 (sizeL [a])] 79)).alloc (by have := B6.out.size; simp; omega) (.cells #[.string b.name, .slice ay b.args.length cy, .int .i64 (numT b S), .int .i64 (sizeL [b])] 79)
    exact ⟨hE7.os.trans h1.os, hE7.tape.trans h1.tape, hE7.output.trans h1.output, Nat.le_trans h1.size hE7.size, fun k hk => (hE7.block k (by have := h1.size; omega) (by have := B3.out.size; omega)).trans (h1.block k hk)⟩
  clear hE7
  go_wp2_with fail
  go_ret
  exact ⟨rfl, HB7.out⟩
#print axioms aPath_any
end Go.Proofs.YteojdfmdhgnmfaaGreat


/- Walks: above by weights, as it is asked for. -/
namespace Go.Proofs.YteojdfmdhgnmfaaGreat
open Go.RowKit
set_option linter.unusedSimpArgs false
set_option linter.unusedVariables false
set_option maxRecDepth 8000

def WtS (S : List Tm) (a b : Tm) (ax : Option Addr) (cx : Nat) (ay : Option Addr) (cy : Nat) (w w6 w' : World) : Prop :=
  Blk w' w6.heap.size #[.string a.name, .slice ax a.args.length cx, .int .i64 (numT a S), .int .i64 (sizeL [a])] 79 ∧ Blk w' (w6.heap.size + 1) #[.string b.name, .slice ay b.args.length cy, .int .i64 (numT b S), .int .i64 (sizeL [b])] 79 ∧ Below w.heap.size w w'
theorem WtS.later {S : List Tm} {a b : Tm} {ax ay : Option Addr} {cx cy : Nat} {w w6 w1 w2 : World} (h : WtS S a b ax cx ay cy w w6 w1) (hb : Below w1.heap.size w1 w2) : WtS S a b ax cx ay cy w w6 w2 := ⟨h.1.below hb h.1.lt, h.2.1.below hb h.2.1.lt, h.2.2.trans (hb.mono h.2.2.size)⟩
/-- What is wrong with a row at a place. -/
def rowAt (row : List ByteArray) (k : Nat) : Int := if nameB (row.getD k ⟨#[]⟩) = false ∨ varB (row.getD k ⟨#[]⟩) = true then 1 else if inB (row.getD k ⟨#[]⟩) (row.take k) = true then 4 else 0
/-- What is wrong with a row. -/
def rowE (row : List ByteArray) : Int := if 40 < row.length then 3 else orI ((List.range row.length).map (rowAt row))
theorem rowAt_get {row : List ByteArray} {k : Nat} (h : k < row.length) : rowAt row k = if nameB row[k] = false ∨ varB row[k] = true then 1 else if inB row[k] (row.take k) = true then 4 else 0 := by
  have e : row.getD k ⟨#[]⟩ = row[k] := by simp [List.getD, h]
  unfold rowAt
  rw [e]
theorem rows_take {row : List ByteArray} {k : Nat} (h : k < row.length) (h0 : ∀ j < k, rowAt row j = 0) (hz : rowAt row k ≠ 0) : orI ((List.range row.length).map (rowAt row)) = rowAt row k := by
  have hl : k < ((List.range row.length).map (rowAt row)).length := by simpa using h
  have hg : ((List.range row.length).map (rowAt row))[k] = rowAt row k := by simp
  rw [← hg]
  refine orI_take hl (fun z hz' => ?_) (by rw [hg]; exact hz)
  rw [List.mem_iff_getElem] at hz'
  obtain ⟨j, hj, rfl⟩ := hz'
  simp at hj ⊢
  exact h0 j (by omega)
theorem rows_none {row : List ByteArray} (h0 : ∀ j < row.length, rowAt row j = 0) : orI ((List.range row.length).map (rowAt row)) = 0 := by
  refine orI_none fun z hz => ?_
  rw [List.mem_map] at hz
  obtain ⟨j, hj, rfl⟩ := hz
  exact h0 j (by simpa using hj)
theorem rowE_once {row : List ByteArray} (h : rowE row = 0) : OnceN row := by
  intro k hk hm
  unfold rowE at h
  split at h
  · cases h
  · have key : ∀ j, j < row.length → rowAt row j = 0 := by
      intro j
      induction j using Nat.strongRecOn with
      | ind j ih =>
        intro hj
        apply Classical.byContradiction
        intro hne
        rw [rows_take hj (fun i hi => ih i hi (by omega)) hne] at h
        exact hne h
    have h1 := key k hk
    rw [rowAt_get hk] at h1
    have hin : inB row[k] (row.take k) = true := by
      unfold inB
      rw [List.any_eq_true]
      exact ⟨_, hm, by simp⟩
    rw [hin] at h1
    split at h1
    · cases h1
    · simp at h1
theorem LV.take {α : Type} {f : α → Value} {w : World} {X : Nat → Prop} {a : Option Addr} {n c : Nat} {l : List α} (h : LV f w X (.slice a n c) l) (k : Nat) (hk : k ≤ l.length) : LV f w X (.slice a k c) (l.take k) := by
  obtain ⟨a2, c2, e, ⟨h1, h2⟩, h3⟩ := h
  simp at e
  obtain ⟨rfl, rfl, rfl⟩ := e
  have hl : (l.take k).length = k := by simp; omega
  refine ⟨a, c, by rw [hl], ⟨by omega, by omega⟩, ?_⟩
  rcases h3 with h3 | ⟨b, o, e, hx, h3⟩
  · exact Or.inl (by rw [h3]; simp)
  · exact Or.inr ⟨b, o, e, hx, fun i hi => by rw [List.getElem_take]; exact h3 i (by simp at hi; omega)⟩

def RcInv (row : List ByteArray) (w : World) (i : Value) (wr : World) : Prop := ∃ k n : Nat, k ≤ row.length ∧ i = .int .i64 (k : Int) ∧ wr = w.drewN n ∧ ∀ j < k, rowAt row j = 0
set_option maxHeartbeats 4000000 in
theorem oCheck_any (row : List ByteArray) (u : Value) (w : World) (X : Nat → Prop) (hu : LV Value.string w X u row) :
    Calls Tryz.prog 32 #[u] w fun e w' => e = .returned (.int .i64 (rowE row)) ∧ Below w.heap.size w w' := by
  have HU := hide hu
  obtain ⟨a, c, rfl, ⟨hl, hlc⟩, hu⟩ := hu
  by_cases h40 : 40 < row.length
  · have h40i : (40 : Int) < (row.length : Int) := by omega
    have HR : Hid (rowE row = 3) := by unfold Hid rowE; rw [if_pos h40]
    go_enter Tryz.func32, Tryz.ntmps32
    go_wp2_with fail
    go_ret
    exact ⟨by rw [HR.out]; rfl, Below.refl _ _⟩
  · have h40i : ¬ (40 : Int) < (row.length : Int) := by omega
    have HE : Hid (rowE row = orI ((List.range row.length).map (rowAt row))) := by unfold Hid rowE; rw [if_neg h40]
    go_enter Tryz.func32, Tryz.ntmps32
    go_wp2_with fail
    go_loopw [10] (fun i wr => RcInv row w i wr) (fun i wr => row.length - (intOf i).toNat)
    case atStart => exact ⟨0, 0, Nat.zero_le _, rfl, rfl, fun j h => by omega⟩
    case round =>
      obtain ⟨k, n, hk, rfl, hwr, h0⟩ := hrel
      have H0 := hide h0
      have HWR := hide hwr
      by_cases hlt : k < row.length
      · obtain ⟨b, o, rfl, hX, hc⟩ := hu.resolve_left (fun h => by rw [h] at hlt; simp at hlt)
        have d0 : wr.cell? ⟨b, o + k, none⟩ = some (.string row[k]) := by rw [hwr]; exact hc k hlt
        have hlti : (k : Int) < (row.length : Int) := by omega
        have hkc : (k : Int) ≤ (c : Int) := by omega
        have HRA := hide (rowAt_get hlt)
        have HLT := hide (HU.out.take k (by omega))
        have HI0 : Hid (LV Value.string wr X (.slice (some ⟨b, o, none⟩) k c) (row.take k)) := by unfold Hid; rw [hwr]; exact HLT.out
        have HIN := hide (fun (n : Nat) => show LV Value.string (wr.drewN n) X (.slice (some ⟨b, o, none⟩) k c) (row.take k) from HI0.out)
        clear h0 hc hwr
        cases hn : nameB row[k] with
        | false =>
          have HR : Hid (rowE row = 1) := by unfold Hid; rw [HE.out, rows_take hlt H0.out (by rw [HRA.out, if_pos (Or.inl hn)]; decide), HRA.out, if_pos (Or.inl hn)]
          go_wp2_with (go_at_call 38; refine (isName_any _ _).mono ?_; rintro e w' ⟨rfl, rfl⟩; rw [hn])
          go_ret
          exact ⟨by rw [HR.out]; rfl, by rw [HWR.out]; exact below_drewN (Below.refl _ _) _⟩
        | true =>
          cases hv : varB row[k] with
          | true =>
            have HR : Hid (rowE row = 1) := by unfold Hid; rw [HE.out, rows_take hlt H0.out (by rw [HRA.out, if_pos (Or.inr hv)]; decide), HRA.out, if_pos (Or.inr hv)]
            go_wp2_with (first | (go_at_call 38; refine (isName_any _ _).mono ?_; rintro e w' ⟨rfl, rfl⟩; rw [hn]) | (go_at_call 39; refine (isVariable_all _ _).mono ?_; rintro e w' ⟨rfl, rfl⟩; rw [hv]))
            go_ret
            exact ⟨by rw [HR.out]; rfl, by rw [HWR.out]; exact below_drewN (Below.refl _ _) _⟩
          | false =>
            have hno : ¬ (nameB row[k] = false ∨ varB row[k] = true) := by rw [hn, hv]; simp
            cases hi : inB row[k] (row.take k) with
            | true =>
              have HR : Hid (rowE row = 4) := by unfold Hid; rw [HE.out, rows_take hlt H0.out (by rw [HRA.out, if_neg hno, if_pos hi]; decide), HRA.out, if_neg hno, if_pos hi]
              go_wp2_with (first | (go_at_call 38; refine (isName_any _ _).mono ?_; rintro e w' ⟨rfl, rfl⟩; rw [hn]) | (go_at_call 39; refine (isVariable_all _ _).mono ?_; rintro e w' ⟨rfl, rfl⟩; rw [hv]) | (go_at_call 47; refine (contains_any _ _ _ _ X HI0.out).mono ?_; rintro e w' ⟨rfl, rfl⟩; rw [hi]))
              go_ret
              exact ⟨by rw [HR.out]; rfl, by rw [HWR.out]; exact below_drewN (Below.refl _ _) _⟩
            | false =>
              have HZ : Hid (rowAt row k = 0) := by unfold Hid; rw [HRA.out, if_neg hno, if_neg (by rw [hi]; simp)]
              go_wp2_with (first | (go_at_call 38; refine (isName_any _ _).mono ?_; rintro e w' ⟨rfl, rfl⟩; rw [hn]) | (go_at_call 39; refine (isVariable_all _ _).mono ?_; rintro e w' ⟨rfl, rfl⟩; rw [hv]) | (go_at_call 47; refine (contains_any _ _ _ _ X HI0.out).mono ?_; rintro e w' ⟨rfl, rfl⟩; rw [hi]))
              go_roundw
              case rel =>
                refine ⟨k + 1, _, by omega, by go_num, HWR.out, fun j hj => ?_⟩
                by_cases e : j = k
                · subst e; exact HZ.out
                · exact H0.out j (by omega)
              case measure => simp [intOf]; omega
      · have hkk : k = row.length := by omega
        clear hwr
        have HR : Hid (rowE row = 0) := by unfold Hid; rw [HE.out]; exact rows_none (by rw [← hkk]; exact H0.out)
        go_wp2_with fail
        go_ret
        exact ⟨by rw [HR.out]; rfl, by rw [HWR.out]; exact below_drewN (Below.refl _ _) _⟩
#print axioms oCheck_any
end Go.Proofs.YteojdfmdhgnmfaaGreat
