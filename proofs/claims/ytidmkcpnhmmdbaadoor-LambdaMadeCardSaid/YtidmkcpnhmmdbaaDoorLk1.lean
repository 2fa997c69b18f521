/- Walks: the law LambdaMade. -/
import Derived.Test.YtidmkcpnhmmdbaaDoorLt9
import Derived.Test.YtidmkcpnhmmdbaaDoorL14
import Derived.Test.YtidmkcpnhmmdbaaDoorZLambdaMadeOwn
namespace Go.Proofs.YtidmkcpnhmmdbaaDoor
open Go.RowKit
set_option linter.unusedSimpArgs false
set_option linter.unusedVariables false
set_option maxRecDepth 8000

def fiveN : List ByteArray := [⟨#[121]⟩, ⟨#[122]⟩, ⟨#[119]⟩, ⟨#[117]⟩, ⟨#[118]⟩]
theorem five_lv {W : World} {F n T : Nat} (hn : n < 4) (h : Blk W F #[.string ⟨#[121]⟩, .string ⟨#[122]⟩, .string ⟨#[119]⟩, .string ⟨#[117]⟩, .string ⟨#[118]⟩] T) : LV Value.string W (fun _ => True) (.slice (some ⟨F, 0, none⟩) (n + 1) 5) (fiveN.take (n + 1)) := by
  have hl : (fiveN.take (n + 1)).length = n + 1 := by simp [fiveN]; omega
  refine ⟨some ⟨F, 0, none⟩, 5, by rw [hl], ⟨by omega, by omega⟩, Or.inr ⟨F, 0, rfl, trivial, fun i hi => ?_⟩⟩
  rw [hl] at hi
  have hc := h.cell i
  rw [List.getElem_take]
  have h5 : i = 0 ∨ i = 1 ∨ i = 2 ∨ i = 3 := by omega
  rw [Nat.zero_add]
  rcases h5 with rfl | rfl | rfl | rfl <;> exact hc

set_option maxHeartbeats 2000000 in
theorem lambdaMade_any (zs : List Int) (hr : ∀ z ∈ zs, Rng z) (y1 y2 y3 : Int) (h1 : Rng y1) (h2 : Rng y2) (h3 : Rng y3) (u : Value) (w : World) (X : Nat → Prop) (hu : PV w X u zs) (hT : Tb w.heap.size w) :
    Calls Tryd.prog 3 #[u, .int .i64 y1, .int .i64 y2, .int .i64 y3] w fun e w' => e = .returned (.bool true) ∧ Below w.heap.size w w' := by
  have HU := hide hu
  have HRG := hide hr
  have HT := hide hT
  unfold Rng at h1 h2 h3
  obtain ⟨ua, uc, rfl⟩ : ∃ ua uc, u = .slice ua zs.length uc := by
    obtain ⟨a, c, h, _⟩ := hu
    exact ⟨a, c, h⟩
  clear hu hr hT
  by_cases hl : 256 < zs.length
  · have hli : (256 : Int) < (zs.length : Int) := by omega
    go_enter Tryd.func3, Tryd.ntmps3
    go_wp2_with fail
    go_ret
    exact ⟨rfl, Below.refl _ _⟩
  · have hli : ¬ (256 : Int) < (zs.length : Int) := by omega
    go_enter Tryd.func3, Tryd.ntmps3
    go_wp2_with fail
    refine (pick_any y2 4 (by omega) (by omega) h2 _).mono ?_
    rintro e w1 ⟨n, rfl, hn, rfl⟩
    go_wp2_with fail
    refine (pick_any y1 25 (by omega) (by omega) h1 _).mono ?_
    rintro e w2 ⟨m1, rfl, hm1, rfl⟩
    have CL := lamOfRawG_any 3 0 (by omega) (by omega) (by omega) zs _ HRG.out (by omega) m1 (n + 1) (by omega) (by omega) w2 X HU.out
    have e3 : ((n + 1 : Nat) : Int) = (n : Int) + 1 := by omega
    have e4 : ((3 : Nat) : Int) = 3 := rfl
    have e5 : ((0 : Nat) : Int) = 0 := rfl
    rw [e3, e4, e5] at CL
    have HCL := hide CL
    clear CL e3 e4 e5
    go_wp2_with fail
    refine HCL.out.mono ?_
    rintro e w3 ⟨t, a, c, rfl, hs, hb, hg⟩
    have HS := hide hs
    have HB := hide hb
    have HB4 : Hid (Below w2.heap.size w2 (w3.alloc (.cells #[.int .i64 t.kind, .int .i64 t.idx, .slice a t.subs.length c] 26))) := HB.out.alloc HB.out.size _
    have K1 := hide (Blk.new w3 #[.int .i64 t.kind, .int .i64 t.idx, .slice a t.subs.length c] 26)
    have HS4 := hide (HS.out.later ((Below.refl _ _).alloc (Nat.le_refl _) (.cells #[.int .i64 t.kind, .int .i64 t.idx, .slice a t.subs.length c] 26)))
    clear hs hb hg
    go_wp2_with fail
    generalize (w3.alloc (.cells #[.int .i64 t.kind, .int .i64 t.idx, .slice a t.subs.length c] 26)) = w4 at *
    refine (pick_any y3 12 (by omega) (by omega) h3 _).mono ?_
    rintro e w5 ⟨m2, rfl, hm2, rfl⟩
    have CL := lamOfRawG_any 2 70 (by omega) (by omega) (by omega) zs _ HRG.out (by omega) m2 n (by omega) (by omega) w5 X (HU.out.later HB4.out)
    have e4 : ((2 : Nat) : Int) = 2 := rfl
    have e5 : ((70 : Nat) : Int) = 70 := rfl
    rw [e4, e5] at CL
    have HCL2 := hide CL
    clear CL e4 e5
    go_wp2_with fail
    refine HCL2.out.mono ?_
    rintro e w6 ⟨x, ax, cx, rfl, hs, hb, hg⟩
    have HSX := hide hs
    have HB6 := hide (HB4.out.trans (hb.mono HB4.out.size))
    have K16 := hide (K1.out.below hb K1.out.lt)
    have HS6 := hide (HS4.out.later hb)
    clear hs hb hg
    have B7 : Hid (Below w6.heap.size w6 ((w6.alloc (.cells #[.int .i64 x.kind, .int .i64 x.idx, .slice ax x.subs.length cx] 26)).alloc (.cells #[.string ⟨#[121]⟩, .string ⟨#[122]⟩, .string ⟨#[119]⟩, .string ⟨#[117]⟩, .string ⟨#[118]⟩] 9))) := ((Below.refl _ _).alloc (Nat.le_refl _) _).alloc (by simp) _
    have K27 := hide ((Blk.new w6 #[.int .i64 x.kind, .int .i64 x.idx, .slice ax x.subs.length cx] 26).alloc (.cells #[.string ⟨#[121]⟩, .string ⟨#[122]⟩, .string ⟨#[119]⟩, .string ⟨#[117]⟩, .string ⟨#[118]⟩] 9))
    have K37 : Hid (Blk ((w6.alloc (.cells #[.int .i64 x.kind, .int .i64 x.idx, .slice ax x.subs.length cx] 26)).alloc (.cells #[.string ⟨#[121]⟩, .string ⟨#[122]⟩, .string ⟨#[119]⟩, .string ⟨#[117]⟩, .string ⟨#[118]⟩] 9)) (w6.heap.size + 1) #[.string ⟨#[121]⟩, .string ⟨#[122]⟩, .string ⟨#[119]⟩, .string ⟨#[117]⟩, .string ⟨#[118]⟩] 9) := by
      have h := Blk.new (w6.alloc (.cells #[.int .i64 x.kind, .int .i64 x.idx, .slice ax x.subs.length cx] 26)) #[.string ⟨#[121]⟩, .string ⟨#[122]⟩, .string ⟨#[119]⟩, .string ⟨#[117]⟩, .string ⟨#[118]⟩] 9
      have hz : (w6.alloc (.cells #[.int .i64 x.kind, .int .i64 x.idx, .slice ax x.subs.length cx] 26)).heap.size = w6.heap.size + 1 := by simp
      rw [hz] at h
      exact h
    have K17 := hide (K16.out.below B7.out K16.out.lt)
    have HB7 := hide (HB6.out.trans (B7.out.mono HB6.out.size))
    have HS7 := hide (HS6.out.later B7.out)
    have HSX7 := hide (HSX.out.later B7.out)
    have k0 : ∀ W, Blk W w3.heap.size #[.int .i64 t.kind, .int .i64 t.idx, .slice a t.subs.length c] 26 → W.cell? ⟨w3.heap.size, 0, none⟩ = some (.int .i64 t.kind) ∧ W.cell? ⟨w3.heap.size, 1, none⟩ = some (.int .i64 t.idx) ∧ W.cell? ⟨w3.heap.size, 2, none⟩ = some (.slice a t.subs.length c) := fun W h => ⟨h.cell 0, h.cell 1, h.cell 2⟩
    have x0 : ∀ W, Blk W w6.heap.size #[.int .i64 x.kind, .int .i64 x.idx, .slice ax x.subs.length cx] 26 → W.cell? ⟨w6.heap.size, 0, none⟩ = some (.int .i64 x.kind) ∧ W.cell? ⟨w6.heap.size, 1, none⟩ = some (.int .i64 x.idx) ∧ W.cell? ⟨w6.heap.size, 2, none⟩ = some (.slice ax x.subs.length cx) := fun W h => ⟨h.cell 0, h.cell 1, h.cell 2⟩
    have KF := hide k0
    have XF := hide x0
    clear k0 x0
    obtain ⟨c0, c1, c2⟩ := KF.out _ K17.out
    have hn4 : (n : Int) < 4 := by omega
    go_wp2_with fail
    generalize ((w6.alloc (.cells #[.int .i64 x.kind, .int .i64 x.idx, .slice ax x.subs.length cx] 26)).alloc (.cells #[.string ⟨#[121]⟩, .string ⟨#[122]⟩, .string ⟨#[119]⟩, .string ⟨#[117]⟩, .string ⟨#[118]⟩] 9)) = w7 at *
    refine (lambdaSays_v (fiveN.take (n + 1)) t _ _ _ _ _ (fun _ => True) ⟨a, c, rfl, by exact HS7.out⟩ (by exact five_lv (by omega) K37.out) (HT.out.raise HB7.out HB7.out.size)).mono ?_
    rintro e w8 ⟨rfl, hb8⟩
    have HB8 := hide (HB7.out.trans (hb8.mono HB7.out.size))
    obtain ⟨d0, d1, d2⟩ := KF.out _ (K17.out.below hb8 K17.out.lt)
    obtain ⟨g0, g1, g2⟩ := XF.out _ (K27.out.below hb8 K27.out.lt)
    have HS8 := hide ((HS7.out.later hb8).mono (Y := fun _ => True) fun _ _ _ => trivial)
    have HSX8 := hide ((HSX7.out.later hb8).mono (Y := fun _ => True) fun _ _ _ => trivial)
    clear hb8 c0 c1 c2
    go_wp2_with fail
    refine (lambdaPuts_any t x _ _ _ _ (fun _ => True) ⟨a, c, rfl, by exact HS8.out⟩ ⟨ax, cx, rfl, by exact HSX8.out⟩).mono ?_
    rintro e w9 ⟨rfl, hb9⟩
    have HB9 := hide (HB8.out.trans (hb9.mono HB8.out.size))
    clear hb9
    go_wp2_with fail
    go_ret
    exact ⟨rfl, HB9.out⟩
#print axioms lambdaMade_any
end Go.Proofs.YtidmkcpnhmmdbaaDoor
