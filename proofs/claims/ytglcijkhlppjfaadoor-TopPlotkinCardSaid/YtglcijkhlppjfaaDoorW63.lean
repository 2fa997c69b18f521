/- Walks: Apply. -/
import Derived.Test.YtglcijkhlppjfaaDoorZBTopPlotkinOwn
import Derived.Test.YtglcijkhlppjfaaDoorW55
namespace Go.Proofs.YtglcijkhlppjfaaDoor
open Go.RowKit
set_option linter.unusedSimpArgs false
set_option linter.unusedVariables false
set_option maxRecDepth 8000

def ApPost (w : World) (ls : List Bd) (t : Tm) (e : Ending) (w' : World) : Prop :=
  Below w.heap.size w w' ∧ ((bindsE ls ≠ 0 ∧ e = .returned (.tuple #[.agg #[.string ⟨#[]⟩, .slice none 0 0], .int .i64 (bindsE ls)])) ∨ (bindsE ls = 0 ∧ mayE t ≠ 0 ∧ e = .returned (.tuple #[.agg #[.string ⟨#[]⟩, .slice none 0 0], .int .i64 (mayE t)])) ∨
    (bindsE ls = 0 ∧ mayE t = 0 ∧ ((sizeL [fT ls t] ≤ 2000 ∧ ∃ a' c', e = .returned (.tuple #[.agg #[.string (fT ls t).name, .slice a' (fT ls t).args.length c'], .int .i64 0]) ∧ Sl w' (fun b => w.heap.size ≤ b) a' (fT ls t).args) ∨ (2000 < sizeL [fT ls t] ∧ e = .returned (.tuple #[.agg #[.string ⟨#[]⟩, .slice none 0 0], .int .i64 8])))))

set_option maxHeartbeats 1000000 in
theorem apply_any (ls : List Bd) (t : Tm) (u v : Value) (w : World) (X : Nat → Prop) (hu : BV w X u ls) (hv : TV w X v t) (ho : bindsE ls = 0 → Once ls) :
    Calls Tryd.prog 10 #[u, v] w fun e w' => ApPost w ls t e w' := by
  obtain ⟨a, c, rfl, hs⟩ := hv
  have HU := hide (hu.mono (Y := fun b => X b ∧ b < w.heap.size) fun b h1 h2 => ⟨h1, h2⟩)
  have HS := hide (hs.mono (Y := fun b => X b ∧ b < w.heap.size) fun b h1 h2 => ⟨h1, h2⟩)
  have HO := hide ho
  clear hu hs ho
  have HB2 : Hid (∀ o o', Below w.heap.size w ((w.alloc o).alloc o')) := fun o o' => ((Below.refl w.heap.size w).alloc (Nat.le_refl _) _).alloc (by simp) _
  go_enter Tryd.func10, Tryd.ntmps10
  go_wp2_with fail
  have HB3 : Hid (Below w.heap.size w ((w.alloc (.cells #[.string t.name, .slice a t.args.length c] 25)).alloc (.cells #[.string ⟨#[]⟩, .slice none 0 0] 25))) := (((Below.refl w.heap.size w).alloc (Nat.le_refl _) _).alloc (by simp) _)
  have T3 := hide ((Blk.new w #[.string t.name, .slice a t.args.length c] 25).alloc (.cells #[.string ⟨#[]⟩, .slice none 0 0] 25))
  have R3 : Hid (Blk ((w.alloc (.cells #[.string t.name, .slice a t.args.length c] 25)).alloc (.cells #[.string ⟨#[]⟩, .slice none 0 0] 25)) (w.heap.size + 1) #[.string ⟨#[]⟩, .slice none 0 0] 25) := by
    have h := (Blk.new (w.alloc (.cells #[.string t.name, .slice a t.args.length c] 25)) #[.string ⟨#[]⟩, .slice none 0 0] 25)
    unfold Hid
    simpa using h
  have z3 : ((w.alloc (.cells #[.string t.name, .slice a t.args.length c] 25)).alloc (.cells #[.string ⟨#[]⟩, .slice none 0 0] 25)).heap.size = w.heap.size + 2 := by simp
  clear HB2
  generalize ((w.alloc (.cells #[.string t.name, .slice a t.args.length c] 25)).alloc (.cells #[.string ⟨#[]⟩, .slice none 0 0] 25)) = w3 at *
  refine (scheck_any ls u w3 _ (HU.out.later HB3.out)).mono ?_
  rintro e w4 ⟨rfl, hb4⟩
  have HB4 := hide hb4
  clear hb4
  have r04 : w4.cell? ⟨w.heap.size + 1, 0, none⟩ = some (.string ⟨#[]⟩) := (R3.out.below HB4.out R3.out.lt).cell 0
  have r14 : w4.cell? ⟨w.heap.size + 1, 1, none⟩ = some (.slice none 0 0) := (R3.out.below HB4.out R3.out.lt).cell 1
  have rf4 := (R3.out.below HB4.out R3.out.lt).frozen
  have t04 : w4.cell? ⟨w.heap.size, 0, none⟩ = some (.string t.name) := (T3.out.below HB4.out T3.out.lt).cell 0
  have t14 : w4.cell? ⟨w.heap.size, 1, none⟩ = some (.slice a t.args.length c) := (T3.out.below HB4.out T3.out.lt).cell 1
  by_cases hbe : bindsE ls = 0
  case neg =>
    go_wp2_with fail
    refine bodyPost_ret (v := .tuple #[.agg #[.string ⟨#[]⟩, .slice none 0 0], .int .i64 (bindsE ls)]) (by simp [results, Tryd.results10, go_sem, World.cell?_setCell_same, World.cell?_setCell_other, r04, r14]) rfl ?_
    exact ⟨((HB3.out.trans (HB4.out.mono (by omega))).setCell (by simp) _).setCell (by simp) _, Or.inl ⟨hbe, rfl⟩⟩
  have HOO := hide (HO.out hbe)
  have HBE := hide hbe
  rw [hbe]
  clear hbe
  go_wp2_with fail
  refine (check_any t _ w4 _ ⟨a, c, rfl, (HS.out.later HB3.out).later HB4.out⟩).mono ?_
  rintro e w5 ⟨rfl, hb5⟩
  have HB5 := hide (HB4.out.trans (hb5.mono HB4.out.size))
  clear hb5 r04 r14 rf4 t04 t14
  have r05 : w5.cell? ⟨w.heap.size + 1, 0, none⟩ = some (.string ⟨#[]⟩) := (R3.out.below HB5.out R3.out.lt).cell 0
  have r15 : w5.cell? ⟨w.heap.size + 1, 1, none⟩ = some (.slice none 0 0) := (R3.out.below HB5.out R3.out.lt).cell 1
  have rf5 := (R3.out.below HB5.out R3.out.lt).frozen
  have t05 : w5.cell? ⟨w.heap.size, 0, none⟩ = some (.string t.name) := (T3.out.below HB5.out T3.out.lt).cell 0
  have t15 : w5.cell? ⟨w.heap.size, 1, none⟩ = some (.slice a t.args.length c) := (T3.out.below HB5.out T3.out.lt).cell 1
  by_cases hme : mayE t = 0
  case neg =>
    go_wp2_with fail
    refine bodyPost_ret (v := .tuple #[.agg #[.string ⟨#[]⟩, .slice none 0 0], .int .i64 (mayE t)]) (by simp [results, Tryd.results10, go_sem, World.cell?_setCell_same, World.cell?_setCell_other, r05, r15]) rfl ?_
    exact ⟨((HB3.out.trans (HB5.out.mono (by omega))).setCell (by simp) _).setCell (by simp) _, Or.inr (Or.inl ⟨HBE.out, hme, rfl⟩)⟩
  have HME := hide hme
  rw [hme]
  clear hme
  go_wp2_with fail
  have nR : w.heap.size + 1 ≠ w.heap.size := by omega
  have KP : Hid (∀ w', Below w3.heap.size w3 w' → w'.cell? ⟨w.heap.size, 0, none⟩ = some (.string t.name) ∧ w'.cell? ⟨w.heap.size, 1, none⟩ = some (.slice a t.args.length c)) := fun w' hb => ⟨(T3.out.below hb T3.out.lt).cell 0, (T3.out.below hb T3.out.lt).cell 1⟩
  have BYA : Hid (∀ w', Below w3.heap.size w3 w' → Calls Tryd.prog 25 #[u] w' fun e w'' => ∃ q L, e = .returned (.map (some q)) ∧ MapAt w'' q L ∧ PairsL w'' (fun b => X b ∧ b < w.heap.size) ls L ∧ Below w3.heap.size w3 w'') := fun w' hb => by
    refine (byName_any ls HOO.out u w' _ ((HU.out.later HB3.out).later hb)).mono ?_
    rintro e w6 ⟨L, rfl, hm6, hp6, hb6⟩
    exact ⟨_, L, rfl, hm6, hp6.imp fun a l hs => hs.mono fun b h _ => h.1, hb.trans (hb6.mono hb.size)⟩
  have LKA : Hid (∀ q w', Calls Tryd.prog 24 #[.map (some q)] w' fun e w'' => ∃ B, e = .returned (.func (.func 44) #[] #[.pointer (some ⟨B, 0, none⟩)]) ∧ (∀ L, MapAt w' q L → PairsL w' (fun b => X b ∧ b < w.heap.size) ls L → Env w'' B q (fun b => X b ∧ b < w.heap.size) ls L) ∧ (Below w3.heap.size w3 w' → Below w3.heap.size w3 w'')) := fun q w' => by
    refine (look_any q w').mono ?_
    rintro e w7 ⟨rfl, hw7⟩
    have hb7 : Below w'.heap.size w' w7 := by rw [hw7]; exact (Below.refl _ _).alloc (Nat.le_refl _) _
    exact ⟨_, rfl, fun L h1 h2 => ⟨by rw [hw7]; exact Blk.new w' _ _, h1.below hb7 h1.lt, h2.imp fun a l hs => hs.later hb7⟩, fun h => h.trans (hb7.mono h.size)⟩
  clear r05 r15 rf5
  by_cases hle : sizeL [fT ls t] ≤ 2000
  · have FIA : Hid (∀ B q L w', Env w' B q (fun b => X b ∧ b < w.heap.size) ls L → Below w3.heap.size w3 w' → Calls Tryd.prog 23 #[.agg #[.string t.name, .slice a t.args.length c], .func (.func 44) #[] #[.pointer (some ⟨B, 0, none⟩)]] w' fun e w'' => ∃ a' c', e = .returned (.tuple #[.agg #[.string (fT ls t).name, .slice a' (fT ls t).args.length c'], .int .i64 0]) ∧ Below w3.heap.size w3 w'' ∧ Sl w'' (fun b => w3.heap.size ≤ b) a' (fT ls t).args) := fun B q L w' hE hb => by
      refine (sfill_any B q ls L t a c w' _ ((HS.out.later HB3.out).later hb) hE).mono ?_
      rintro e w8 ⟨hb8, ⟨_, a', c', rfl, h8⟩ | ⟨h8, _⟩⟩
      · have := hb.size
        exact ⟨a', c', rfl, hb.trans (hb8.mono hb.size), h8.mono fun b hb _ => by omega⟩
      · omega
    go_region_held3 (fun w' => w'.cell? ⟨w.heap.size, 0, none⟩ = some (.string t.name) ∧ w'.cell? ⟨w.heap.size, 1, none⟩ = some (.slice a t.args.length c)) (first | exact hS | exact ⟨t05, t15⟩ | exact two_keep hS nR nR | exact two_keep (two_keep hS nR nR) nR nR | go_keep)
      (first
        | (go_at_call 25; refine (BYA.out _ (by first | exact HB5.out | exact HB5.out.drew | exact HB5.out.drew.drew)).mono ?_; rintro e w6 ⟨q, L, rfl, hm6, hp6, hb6⟩; have hS := KP.out _ hb6)
        | (go_at_call 24; refine (LKA.out _ _).mono ?_; rintro e w7 ⟨B, rfl, hf7, hg7⟩; have hb7 := hg7 (by first | exact hb6 | exact hb6.drew | exact hb6.drew.drew); have hE7 := hide (hf7 L hm6 hp6); have hS := KP.out _ hb7)
        | (go_at_call 23; refine (FIA.out _ _ L _ (by exact hE7.out) (by first | exact hb7 | exact hb7.drew | exact hb7.drew.drew)).mono ?_; rintro e w8 ⟨a8, c8, rfl, hb8, hs8⟩; have hS := KP.out _ hb8; have hR8 := hide (R3.out.below hb8 R3.out.lt); have r08 := hR8.out.cell 0; have r18 := hR8.out.cell 1; have rf8 := hR8.out.frozen))
    have HS8 := hide hs8
    have HB8 := hide hb8
    clear hs8 hb8
    go_wp2_with fail
    refine bodyPost_ret (v := .tuple #[.agg #[.string (fT ls t).name, .slice a8 (fT ls t).args.length c8], .int .i64 0]) (by simp [results, Tryd.results10, go_sem, World.cell?_setCell_same, World.cell?_setCell_other, r08, r18]) rfl ?_
    refine ⟨((HB3.out.trans (HB8.out.mono (by omega))).setCell (by simp) _).setCell (by simp) _, Or.inr (Or.inr ⟨HBE.out, HME.out, Or.inl ⟨hle, a8, c8, rfl, (HS8.out.kept fun b hb => ?_).mono fun b hb _ => by omega⟩⟩)⟩
    rw [Below.heap_setCell _ _ _ _ (by simp; omega), Below.heap_setCell _ _ _ _ (by simp; omega)]
  · have FIA : Hid (∀ B q L w', Env w' B q (fun b => X b ∧ b < w.heap.size) ls L → Below w3.heap.size w3 w' → Calls Tryd.prog 23 #[.agg #[.string t.name, .slice a t.args.length c], .func (.func 44) #[] #[.pointer (some ⟨B, 0, none⟩)]] w' fun e w'' => e = .returned (.tuple #[.agg #[.string ⟨#[]⟩, .slice none 0 0], .int .i64 8]) ∧ Below w3.heap.size w3 w'') := fun B q L w' hE hb => by
      refine (sfill_any B q ls L t a c w' _ ((HS.out.later HB3.out).later hb) hE).mono ?_
      rintro e w8 ⟨hb8, ⟨h8, _⟩ | ⟨_, rfl⟩⟩
      · omega
      · exact ⟨rfl, hb.trans (hb8.mono hb.size)⟩
    go_region_held3 (fun w' => w'.cell? ⟨w.heap.size, 0, none⟩ = some (.string t.name) ∧ w'.cell? ⟨w.heap.size, 1, none⟩ = some (.slice a t.args.length c)) (first | exact hS | exact ⟨t05, t15⟩ | exact two_keep hS nR nR | exact two_keep (two_keep hS nR nR) nR nR | go_keep)
      (first
        | (go_at_call 25; refine (BYA.out _ (by first | exact HB5.out | exact HB5.out.drew | exact HB5.out.drew.drew)).mono ?_; rintro e w6 ⟨q, L, rfl, hm6, hp6, hb6⟩; have hS := KP.out _ hb6)
        | (go_at_call 24; refine (LKA.out _ _).mono ?_; rintro e w7 ⟨B, rfl, hf7, hg7⟩; have hb7 := hg7 (by first | exact hb6 | exact hb6.drew | exact hb6.drew.drew); have hE7 := hide (hf7 L hm6 hp6); have hS := KP.out _ hb7)
        | (go_at_call 23; refine (FIA.out _ _ L _ (by exact hE7.out) (by first | exact hb7 | exact hb7.drew | exact hb7.drew.drew)).mono ?_; rintro e w8 ⟨rfl, hb8⟩; have hS := KP.out _ hb8; have hR8 := hide (R3.out.below hb8 R3.out.lt); have r08 := hR8.out.cell 0; have r18 := hR8.out.cell 1; have rf8 := hR8.out.frozen))
    have HB8 := hide hb8
    clear hb8
    go_wp2_with fail
    refine bodyPost_ret (v := .tuple #[.agg #[.string ⟨#[]⟩, .slice none 0 0], .int .i64 8]) (by simp [results, Tryd.results10, go_sem, World.cell?_setCell_same, World.cell?_setCell_other, r08, r18]) rfl ?_
    exact ⟨((HB3.out.trans (HB8.out.mono (by omega))).setCell (by simp) _).setCell (by simp) _, Or.inr (Or.inr ⟨HBE.out, HME.out, Or.inr ⟨by omega, rfl⟩⟩)⟩
end Go.Proofs.YtglcijkhlppjfaaDoor
