/- Walks: what s makes of a row, at the third place. -/
import Derived.Test.YtcdabjekppddjaaGreatDoorCb9
namespace Go.Proofs.YtcdabjekppddjaaGreatDoor
open Go.RowKit
set_option linter.unusedSimpArgs false
set_option linter.unusedVariables false
set_option maxRecDepth 8000

set_option maxHeartbeats 2000000 in
theorem shared2 (R : List Tm) (B n : Nat) (w : World) (Y : Nat → Prop) (hR : RoL w Y B R) (hp : 3 < R.length) :
    Calls Tryz.prog 97 #[.agg #[.int .i64 (n : Int), ro1 B], .int .i64 ((2 : Nat) : Int)] w fun e w' => TPost w Y (apT R[2] R[3]) e w' := by
  have HR := hide (hR.small)
  have hl := hR.len
  have HK : Hid (Blk ((w.alloc (.cells #[.int .i64 (n : Int), ro1 B] 88)).alloc (.cells #[.string ⟨#[]⟩, .slice none 0 0] 24)) (w.heap.size + 1) #[.string ⟨#[]⟩, .slice none 0 0] 24) := by
    have h := Blk.new (w.alloc (.cells #[.int .i64 (n : Int), ro1 B] 88)) #[.string ⟨#[]⟩, .slice none 0 0] 24
    unfold Hid
    simpa using h
  have HQ : Hid (Blk ((w.alloc (.cells #[.int .i64 (n : Int), ro1 B] 88)).alloc (.cells #[.string ⟨#[]⟩, .slice none 0 0] 24)) w.heap.size #[.int .i64 (n : Int), ro1 B] 88) := (Blk.new w _ _).alloc _
  have HB0 : Hid (Below w.heap.size w ((w.alloc (.cells #[.int .i64 (n : Int), ro1 B] 88)).alloc (.cells #[.string ⟨#[]⟩, .slice none 0 0] 24))) := below2 _ _
  have hz0 : (((w.alloc (.cells #[.int .i64 (n : Int), ro1 B] 88)).alloc (.cells #[.string ⟨#[]⟩, .slice none 0 0] 24))).heap.size = w.heap.size + 2 := by simp
  have HAZ : Hid (∀ z : Int, (z = 2 ∨ z = 3) → ∀ w', Below w.heap.size w w' → Calls Tryz.prog 94 #[.int .i64 z, .pointer (some ⟨B, 0, none⟩)] w' fun e w'' => TPost w' (fun b => Y b ∧ b < w.heap.size) (if z = 2 then R[2] else R[3]) e w'') := fun z hz w' hb => by
    rcases hz with rfl | rfl
    · rw [if_pos rfl]; exact (HR.out.later hb).at 2 (by omega)
    · rw [if_neg (by decide)]; exact (HR.out.later hb).at 3 hp
  clear hR HR
  generalize R[2] = x at *
  generalize R[3] = y at *
  unfold ro1 at HQ HK HB0 hz0 ⊢
  have HSC : Hid (∀ w', Below (((w.alloc (.cells #[.int .i64 (n : Int), .func (.func 94) #[] #[.pointer (some ⟨B, 0, none⟩)]] 88)).alloc (.cells #[.string ⟨#[]⟩, .slice none 0 0] 24))).heap.size ((w.alloc (.cells #[.int .i64 (n : Int), .func (.func 94) #[] #[.pointer (some ⟨B, 0, none⟩)]] 88)).alloc (.cells #[.string ⟨#[]⟩, .slice none 0 0] 24)) w' → w'.cell? ⟨w.heap.size, 1, none⟩ = some (.func (.func 94) #[] #[.pointer (some ⟨B, 0, none⟩)])) := fun w' hb => (HQ.out.below hb (by omega)).cell 1
  have HSX : Hid (∀ w' u u', Below (((w.alloc (.cells #[.int .i64 (n : Int), .func (.func 94) #[] #[.pointer (some ⟨B, 0, none⟩)]] 88)).alloc (.cells #[.string ⟨#[]⟩, .slice none 0 0] 24))).heap.size ((w.alloc (.cells #[.int .i64 (n : Int), .func (.func 94) #[] #[.pointer (some ⟨B, 0, none⟩)]] 88)).alloc (.cells #[.string ⟨#[]⟩, .slice none 0 0] 24)) w' → ((w'.setCell ⟨w.heap.size + 1, 0, none⟩ u).setCell ⟨w.heap.size + 1, 1, none⟩ u').cell? ⟨w.heap.size, 1, none⟩ = some (.func (.func 94) #[] #[.pointer (some ⟨B, 0, none⟩)])) := fun w' u u' hb => (((HQ.out.below hb (by omega)).setOther _ _ (by omega)).setOther _ _ (by omega)).cell 1
  go_enter Tryz.func97, Tryz.ntmps97
  go_wp2_with fail
  generalize ((w.alloc (.cells #[.int .i64 (n : Int), .func (.func 94) #[] #[.pointer (some ⟨B, 0, none⟩)]] 88)).alloc (.cells #[.string ⟨#[]⟩, .slice none 0 0] 24)) = w0 at *
  have HSS := hide (HSC.out _ (Below.refl _ _))
  have HB0D : Hid (Below w.heap.size w w0.drew) := HB0.out.trans (below_drewN (Below.refl _ _) 1)
  go_region_held3 (fun w' => w'.cell? ⟨w.heap.size, 1, none⟩ = some (.func (.func 94) #[] #[.pointer (some ⟨B, 0, none⟩)])) (first | exact HSS.out | exact HSX.out _ _ _ k4 | exact z4 | exact z3 | exact z2 | go_keep)
    (first
      | (go_at_call 94; refine (HAZ.out _ (by decide) _ (by exact K2W.out)).mono ?_; rw [if_neg (by decide)]; rintro e w3 ⟨v3, rfl, ⟨a3, c3, rfl, hs3⟩, hb3⟩; have k3 := k2.trans (hb3.mono hz2); have HS3 := hide hs3; have HS2' := hide (HS2.out.later hb3); have hz3 := hb3.size; have z3 := HSC.out _ k3; clear hb3 hs3)
      | (go_at_call 94; refine (HAZ.out _ (by decide) _ (by exact HB0D.out)).mono ?_; rw [if_pos rfl]; rintro e w2 ⟨v2, rfl, ⟨a2, c2, rfl, hs2⟩, hb2⟩; have k2 := drew_below (w := w0) hb2; have HS2 := hide hs2; have hz2 := k2.size; have z2 := HSC.out _ k2; have K2W := hide (HB0.out.trans (k2.mono (by omega))); clear hb2 hs2)
      | (go_at_call 68; refine (ap_any x y _ _ _ (fun b => (Y b ∧ b < w.heap.size) ∨ w.heap.size + 2 ≤ b) (by exact ⟨a2, c2, rfl, HS2'.out.mono fun b h _ => h.imp id fun h => by have h' : w0.heap.size ≤ b := h; omega⟩) (by exact ⟨a3, c3, rfl, HS3.out.mono fun b h _ => h.imp id fun h => by omega⟩)).mono ?_; rintro e w4 ⟨v4, rfl, ⟨a4, c4, rfl, hs4⟩, hb4⟩; have k4 := k3.trans (hb4.mono (by omega)); have z4 := HSC.out _ k4; have HS4 : Hid (Sl w4 (fun b => (Y b ∧ b < w.heap.size) ∨ w.heap.size + 2 ≤ b) a4 (apT x y).args) := (hs4.mono fun b h _ => h.elim id fun h => Or.inr (by omega)); have HK4 := hide (HK.out.below k4 (by omega)); have r0 : w4.cell? ⟨w.heap.size + 1, 0, none⟩ = some (.string ⟨#[]⟩) := HK4.out.cell 0; have r1 : w4.cell? ⟨w.heap.size + 1, 1, none⟩ = some (.slice none 0 0) := HK4.out.cell 1; have rf : ∀ i, w4.frozen? ⟨w.heap.size + 1, i, none⟩ = false := HK4.out.frozen; clear hb4 hs4))
  have HB4 := hide (HB0.out.trans (k4.mono (by omega)))
  go_wp2_with fail
  refine bodyPost_ret (v := .agg #[.string (apT x y).name, .slice a4 (apT x y).args.length c4]) (by simp [results, Tryz.results97, go_sem, World.cell?_setCell_same, World.cell?_setCell_other, r0, r1]) rfl ?_
  exact cl_end3 HS4.out HB4.out _ _
end Go.Proofs.YtcdabjekppddjaaGreatDoor
