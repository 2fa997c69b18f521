import Derived.Test.YtofebfjkodceeaaSq
import Derived.Test.YtofebfjkodceeaaGd3
namespace Go.Proofs.Ytofebfjkodceeaa
open Go.RowKit
set_option linter.unusedSimpArgs false
set_option linter.unusedVariables false
set_option maxRecDepth 8000
def WoP (A B : Au) (w : World) (e : Ending) (w' : World) : Prop := ∃ b : Bool, e = .returned (.bool b) ∧ (b = true ↔ ∀ t, accB A t = true → accB B t = true) ∧ Below w.heap.size w w'
set_option maxHeartbeats 4000000 in
theorem withinOfR_any (A B : Au) (hA : OkAu 8 40 A) (sA : smB A = true) (hB : OkAu 8 40 B) (sB : smB B = true) (va vb : Value) (w : World) (X : Nat → Prop) (hva : AV w X va A) (hvb : AV w X vb B) :
  Calls Try.prog 28 #[va, vb] w fun e w' => WoP A B w e w' := by
 obtain ⟨am, an, al, ao, rfl, ham, hal⟩ := hva
 obtain ⟨bm, bn, bl, bo, rfl, hbm, hbl⟩ := hvb
 have hAF := allocsX_facts [(.cells #[.int .i64 A.st, .slice am A.mv.length an, .slice al A.la.length ao] 25 : Obj), (.cells #[.int .i64 B.st, .slice bm B.mv.length bn, .slice bl B.la.length bo] 25 : Obj)] w
 have eW : allocsX w [(.cells #[.int .i64 A.st, .slice am A.mv.length an, .slice al A.la.length ao] 25 : Obj), (.cells #[.int .i64 B.st, .slice bm B.mv.length bn, .slice bl B.la.length bo] 25 : Obj)] = (w.alloc (.cells #[.int .i64 A.st, .slice am A.mv.length an, .slice al A.la.length ao] 25)).alloc (.cells #[.int .i64 B.st, .slice bm B.mv.length bn, .slice bl B.la.length bo] 25) := rfl
 rw [eW] at hAF
 obtain ⟨hF1, hF2, hF3⟩ := hAF
 have KA : Hid (Blk ((w.alloc (.cells #[.int .i64 A.st, .slice am A.mv.length an, .slice al A.la.length ao] 25)).alloc (.cells #[.int .i64 B.st, .slice bm B.mv.length bn, .slice bl B.la.length bo] 25)) w.heap.size #[.int .i64 A.st, .slice am A.mv.length an, .slice al A.la.length ao] 25) := hF3 0 _ rfl
 have KB : Hid (Blk ((w.alloc (.cells #[.int .i64 A.st, .slice am A.mv.length an, .slice al A.la.length ao] 25)).alloc (.cells #[.int .i64 B.st, .slice bm B.mv.length bn, .slice bl B.la.length bo] 25)) (w.heap.size + 1) #[.int .i64 B.st, .slice bm B.mv.length bn, .slice bl B.la.length bo] 25) := hF3 1 _ rfl
 have B2 := hide hF1
 have AVW : Hid (∀ w', Below w.heap.size w w' → AV w' (fun _ => True) (.agg #[.int .i64 A.st, .slice am A.mv.length an, .slice al A.la.length ao]) A) := fun w' hb => ⟨am, an, al, ao, rfl, slV_monoG (ham.later hb), (hal.later hb).mono fun _ _ _ => trivial⟩
 have BVW : Hid (∀ w', Below w.heap.size w w' → AV w' (fun _ => True) (.agg #[.int .i64 B.st, .slice bm B.mv.length bn, .slice bl B.la.length bo]) B) := fun w' hb => ⟨bm, bn, bl, bo, rfl, slV_monoG (hbm.later hb), (hbl.later hb).mono fun _ _ _ => trivial⟩
 have HG : Hid (∀ w', Below w.heap.size w w' → Calls Try.prog 53 #[.agg #[.int .i64 A.st, .slice am A.mv.length an, .slice al A.la.length ao], .agg #[.int .i64 B.st, .slice bm B.mv.length bn, .slice bl B.la.length bo]] w' fun e w2 => GdP A B w' e w2) := fun w' hb => grounds_any A B hA sA hB sB _ _ w' (fun _ => True) (AVW.out w' hb) (BVW.out w' hb)
 have OA := hide hA
 have OB := hide hB
 clear eW hF1 hF2 hF3 ham hal hbm hbl sA sB hA hB
 go_enter Try.func28, Try.ntmps28
 go_upto_region 2 with fail
 generalize (w.alloc (.cells #[.int .i64 A.st, .slice am A.mv.length an, .slice al A.la.length ao] 25)).alloc (.cells #[.int .i64 B.st, .slice bm B.mv.length bn, .slice bl B.la.length bo] 25) = w2 at *
 have a0 := KA.out.cell 0
 have a1 := KA.out.cell 1
 have a2 := KA.out.cell 2
 have b0 := KB.out.cell 0
 have b1 := KB.out.cell 1
 have b2 := KB.out.cell 2
 go_wp2_with (go_at_call 53; refine (HG.out _ B2.out).mono ?_; rintro e w5 ⟨out, oa, oc, rfl, hsl, ⟨hgrd, hgs⟩, hb5⟩)
 have HSL := hide hsl
 have HGR := hide hgrd
 have HGS := hide hgs
 have HB5 := hide hb5
 have hlen := hsl.1
 clear hsl hgrd hgs hb5 a0 a1 a2 b0 b1 b2
 go_loopw [6] (fun i wr => ∃ k : Nat, k ≤ out.length ∧ i = .int .i64 (k : Int) ∧ (∀ t ∈ out.take k, accB A t = true → accB B t = true) ∧ Below w5.heap.size w5 wr) (fun i wr => out.length - (intOf i).toNat)
 case atStart => exact ⟨0, Nat.zero_le _, rfl, (fun t ht => by simp at ht), Below.refl _ _⟩
 case round =>
  obtain ⟨k, hk, rfl, hall, hbr⟩ := hrel
  have HALL := hide hall
  have HBR := hide hbr
  clear hall hbr
  by_cases hlt : k < out.length
  ·have hki : (k : Int) < (out.length : Int) := by omega
   obtain ⟨b, o, ax, cx, hae, d0, d1, htv⟩ := HSL.out.get (Below.refl w5.heap.size w5) (fun b _ h => h) k hlt
   subst hae
   obtain ⟨z, hz⟩ : ∃ z, z = out[k] := ⟨_, rfl⟩
   have HTK : Hid (out.take (k + 1) = out.take k ++ [z]) := by unfold Hid; rw [hz]; exact List.take_succ_eq_append_getElem hlt
   have HZI : Hid (z ∈ out) := by unfold Hid; rw [hz]; exact List.getElem_mem hlt
   rw [← hz] at d0 d1 htv
   clear hz
   have hZW := hide (HGS.out.wid z HZI.out)
   have l0 := cell_ltA d0
   have UP5 : Hid (∀ w', Below wr.heap.size wr w' → Below w5.heap.size w5 w') := fun w' hb => HBR.out.trans (hb.mono HBR.out.size)
   have UP2 : Hid (∀ w', Below wr.heap.size wr w' → Below w2.heap.size w2 w') := fun w' hb => HB5.out.trans ((UP5.out w' hb).mono HB5.out.size)
   have UP : Hid (∀ w', Below wr.heap.size wr w' → Below w.heap.size w w') := fun w' hb => B2.out.trans ((UP2.out w' hb).mono B2.out.size)
   have KPS : Hid (∀ w', Below wr.heap.size wr w' → Blk w' w.heap.size #[.int .i64 A.st, .slice am A.mv.length an, .slice al A.la.length ao] 25 ∧ Blk w' (w.heap.size + 1) #[.int .i64 B.st, .slice bm B.mv.length bn, .slice bl B.la.length bo] 25 ∧ w'.cell? ⟨b, o + k * 2, none⟩ = some (.string z.name) ∧ w'.cell? ⟨b, o + k * 2 + 1, none⟩ = some (.slice ax z.args.length cx)) := fun w' hb => ⟨KA.out.below (UP2.out w' hb) KA.out.lt, KB.out.below (UP2.out w' hb) KB.out.lt, ((UP5.out w' hb).cell (p := ⟨b, o + k * 2, none⟩) l0).trans d0, ((UP5.out w' hb).cell (p := ⟨b, o + k * 2 + 1, none⟩) l0).trans d1⟩
   have HTV : Hid (∀ w', Below wr.heap.size wr w' → TV w' (fun _ => True) (.agg #[.string z.name, .slice ax z.args.length cx]) z) := fun w' hb => by
    obtain ⟨a9, c9, e9, h9⟩ := htv
    exact ⟨a9, c9, e9, h9.later (UP5.out w' hb)⟩
   have hkd : Below wr.heap.size wr wr.drew := (Below.refl _ _).drew
   clear d0 d1 htv l0
   go_upto_region 5 with fail
   cases hAz : accB A z with
   | true =>
    cases hBz : accB B z with
    | true =>
     have HOK : Hid (∀ t ∈ out.take (k + 1), accB A t = true → accB B t = true) := fun t ht h => by
      rw [HTK.out] at ht
      rcases List.mem_append.1 ht with h1 | h1
      ·exact HALL.out t h1 h
      ·simp at h1; subst h1; exact hBz
     have HAZ := hide hAz
     have HBZ := hide hBz
     clear hAz hBz
     refine wp_region_held_drew (S := Below wr.heap.size wr) (by kernel_rfl) hkd (fun hHeld => ?_)
     generalize wr.drew = wd at *
     refine tkq (v := ?_) 0 rfl ?_ ?_
     rotate_left
     ·intro w' hSw
      obtain ⟨ba, bb, x3, x4⟩ := KPS.out w' hSw
      have x0 := ba.cell 0
      have x1 := ba.cell 1
      have x2 := ba.cell 2
      clear ba bb
      go_simp <;> with_reducible rfl
     try simp only [Act.put, sqA, sqB, sqC, sqD, sqE, sqF]
     refine tkq (v := ?_) 1 rfl ?_ ?_
     rotate_left
     ·intro w' hSw
      go_simp <;> with_reducible rfl
     try simp only [Act.put, sqA, sqB, sqC, sqD, sqE, sqF]
     refine tkq (v := ?_) 2 rfl ?_ ?_
     rotate_left
     ·intro w' hSw
      go_simp <;> with_reducible rfl
     try simp only [Act.put, sqA, sqB, sqC, sqD, sqE, sqF]
     refine tkq (v := ?_) 3 rfl ?_ ?_
     rotate_left
     ·intro w' hSw
      go_simp <;> with_reducible rfl
     try simp only [Act.put, sqA, sqB, sqC, sqD, sqE, sqF]
     refine tkq (v := ?_) 4 rfl ?_ ?_
     rotate_left
     ·intro w' hSw
      obtain ⟨ba, bb, x3, x4⟩ := KPS.out w' hSw
      clear ba bb
      go_simp <;> with_reducible rfl
     try simp only [Act.put, sqA, sqB, sqC, sqD, sqE, sqF]
     refine rdq 5 rfl fun K hK => ?_
     go_simp
     go_at_call 17
     refine (acceptsOfW_any A (S := 8) (M := 40) (by omega) (by omega) OA.out z hZW.out _ _ _ _ (AVW.out _ (UP.out _ hkd)) (HTV.out _ hkd)).mono ?_
     rintro e wC ⟨rfl, hbC⟩
     rw [HAZ.out]
     have hBC := hkd.trans (hbC.mono hkd.size)
     clear hbC
     go_simp
     refine hK.out _ _ (by exact hBC) (fun hHeld => ?_)
     clear hK K
     try simp only [Act.put, sqA, sqB, sqC, sqD, sqE, sqF]
     refine tkq (v := ?_) 6 rfl ?_ ?_
     rotate_left
     ·intro w' hSw
      go_simp <;> with_reducible rfl
     try simp only [Act.put, sqA, sqB, sqC, sqD, sqE, sqF]
     refine tkq (v := ?_) 7 rfl ?_ ?_
     rotate_left
     ·intro w' hSw
      obtain ⟨ba, bb, x3, x4⟩ := KPS.out w' hSw
      have x0 := bb.cell 0
      have x1 := bb.cell 1
      have x2 := bb.cell 2
      clear ba bb
      go_simp <;> with_reducible rfl
     try simp only [Act.put, sqA, sqB, sqC, sqD, sqE, sqF]
     refine tkq (v := ?_) 8 rfl ?_ ?_
     rotate_left
     ·intro w' hSw
      go_simp <;> with_reducible rfl
     try simp only [Act.put, sqA, sqB, sqC, sqD, sqE, sqF]
     refine tkq (v := ?_) 9 rfl ?_ ?_
     rotate_left
     ·intro w' hSw
      go_simp <;> with_reducible rfl
     try simp only [Act.put, sqA, sqB, sqC, sqD, sqE, sqF]
     refine tkq (v := ?_) 10 rfl ?_ ?_
     rotate_left
     ·intro w' hSw
      go_simp <;> with_reducible rfl
     try simp only [Act.put, sqA, sqB, sqC, sqD, sqE, sqF]
     refine tkq (v := ?_) 11 rfl ?_ ?_
     rotate_left
     ·intro w' hSw
      obtain ⟨ba, bb, x3, x4⟩ := KPS.out w' hSw
      clear ba bb
      go_simp <;> with_reducible rfl
     try simp only [Act.put, sqA, sqB, sqC, sqD, sqE, sqF]
     refine rdq 12 rfl fun K hK => ?_
     go_simp
     go_at_call 17
     refine (acceptsOfW_any B (S := 8) (M := 40) (by omega) (by omega) OB.out z hZW.out _ _ _ _ (BVW.out _ (UP.out _ hBC)) (HTV.out _ hBC)).mono ?_
     rintro e wD ⟨rfl, hbD⟩
     rw [HBZ.out]
     have hBD := hBC.trans (hbD.mono hBC.size)
     clear hbD
     go_simp
     refine hK.out _ _ (by exact hBD) (fun hHeld => ?_)
     clear hK K
     try simp only [Act.put, sqA, sqB, sqC, sqD, sqE, sqF]
     refine tkq (v := ?_) 13 rfl ?_ ?_
     rotate_left
     ·intro w' hSw
      go_simp <;> with_reducible rfl
     try simp only [Act.put, sqA, sqB, sqC, sqD, sqE, sqF]
     refine tkq (v := ?_) 14 rfl ?_ ?_
     rotate_left
     ·intro w' hSw
      go_simp <;> with_reducible rfl
     try simp only [Act.put, sqA, sqB, sqC, sqD, sqE, sqF]
     refine wpAnyH_done (by kernel_rfl) ?_ _
     have HBX := hide (UP5.out _ hBD)
     clear hBD hBC hHeld
     go_wp2_with fail
     go_roundw
     case rel => exact ⟨k + 1, by omega, by go_num, HOK.out, HBX.out⟩
     case measure => simp [intOf]; omega
    | false =>
     have HAZ := hide hAz
     have HBZ := hide hBz
     clear hAz hBz
     refine wp_region_held_drew (S := Below wr.heap.size wr) (by kernel_rfl) hkd (fun hHeld => ?_)
     generalize wr.drew = wd at *
     refine tkq (v := ?_) 0 rfl ?_ ?_
     rotate_left
     ·intro w' hSw
      obtain ⟨ba, bb, x3, x4⟩ := KPS.out w' hSw
      have x0 := ba.cell 0
      have x1 := ba.cell 1
      have x2 := ba.cell 2
      clear ba bb
      go_simp <;> with_reducible rfl
     try simp only [Act.put, sqA, sqB, sqC, sqD, sqE, sqF]
     refine tkq (v := ?_) 1 rfl ?_ ?_
     rotate_left
     ·intro w' hSw
      go_simp <;> with_reducible rfl
     try simp only [Act.put, sqA, sqB, sqC, sqD, sqE, sqF]
     refine tkq (v := ?_) 2 rfl ?_ ?_
     rotate_left
     ·intro w' hSw
      go_simp <;> with_reducible rfl
     try simp only [Act.put, sqA, sqB, sqC, sqD, sqE, sqF]
     refine tkq (v := ?_) 3 rfl ?_ ?_
     rotate_left
     ·intro w' hSw
      go_simp <;> with_reducible rfl
     try simp only [Act.put, sqA, sqB, sqC, sqD, sqE, sqF]
     refine tkq (v := ?_) 4 rfl ?_ ?_
     rotate_left
     ·intro w' hSw
      obtain ⟨ba, bb, x3, x4⟩ := KPS.out w' hSw
      clear ba bb
      go_simp <;> with_reducible rfl
     try simp only [Act.put, sqA, sqB, sqC, sqD, sqE, sqF]
     refine rdq 5 rfl fun K hK => ?_
     go_simp
     go_at_call 17
     refine (acceptsOfW_any A (S := 8) (M := 40) (by omega) (by omega) OA.out z hZW.out _ _ _ _ (AVW.out _ (UP.out _ hkd)) (HTV.out _ hkd)).mono ?_
     rintro e wC ⟨rfl, hbC⟩
     rw [HAZ.out]
     have hBC := hkd.trans (hbC.mono hkd.size)
     clear hbC
     go_simp
     refine hK.out _ _ (by exact hBC) (fun hHeld => ?_)
     clear hK K
     try simp only [Act.put, sqA, sqB, sqC, sqD, sqE, sqF]
     refine tkq (v := ?_) 6 rfl ?_ ?_
     rotate_left
     ·intro w' hSw
      go_simp <;> with_reducible rfl
     try simp only [Act.put, sqA, sqB, sqC, sqD, sqE, sqF]
     refine tkq (v := ?_) 7 rfl ?_ ?_
     rotate_left
     ·intro w' hSw
      obtain ⟨ba, bb, x3, x4⟩ := KPS.out w' hSw
      have x0 := bb.cell 0
      have x1 := bb.cell 1
      have x2 := bb.cell 2
      clear ba bb
      go_simp <;> with_reducible rfl
     try simp only [Act.put, sqA, sqB, sqC, sqD, sqE, sqF]
     refine tkq (v := ?_) 8 rfl ?_ ?_
     rotate_left
     ·intro w' hSw
      go_simp <;> with_reducible rfl
     try simp only [Act.put, sqA, sqB, sqC, sqD, sqE, sqF]
     refine tkq (v := ?_) 9 rfl ?_ ?_
     rotate_left
     ·intro w' hSw
      go_simp <;> with_reducible rfl
     try simp only [Act.put, sqA, sqB, sqC, sqD, sqE, sqF]
     refine tkq (v := ?_) 10 rfl ?_ ?_
     rotate_left
     ·intro w' hSw
      go_simp <;> with_reducible rfl
     try simp only [Act.put, sqA, sqB, sqC, sqD, sqE, sqF]
     refine tkq (v := ?_) 11 rfl ?_ ?_
     rotate_left
     ·intro w' hSw
      obtain ⟨ba, bb, x3, x4⟩ := KPS.out w' hSw
      clear ba bb
      go_simp <;> with_reducible rfl
     try simp only [Act.put, sqA, sqB, sqC, sqD, sqE, sqF]
     refine rdq 12 rfl fun K hK => ?_
     go_simp
     go_at_call 17
     refine (acceptsOfW_any B (S := 8) (M := 40) (by omega) (by omega) OB.out z hZW.out _ _ _ _ (BVW.out _ (UP.out _ hBC)) (HTV.out _ hBC)).mono ?_
     rintro e wD ⟨rfl, hbD⟩
     rw [HBZ.out]
     have hBD := hBC.trans (hbD.mono hBC.size)
     clear hbD
     go_simp
     refine hK.out _ _ (by exact hBD) (fun hHeld => ?_)
     clear hK K
     try simp only [Act.put, sqA, sqB, sqC, sqD, sqE, sqF]
     refine tkq (v := ?_) 13 rfl ?_ ?_
     rotate_left
     ·intro w' hSw
      go_simp <;> with_reducible rfl
     try simp only [Act.put, sqA, sqB, sqC, sqD, sqE, sqF]
     refine tkq (v := ?_) 14 rfl ?_ ?_
     rotate_left
     ·intro w' hSw
      go_simp <;> with_reducible rfl
     try simp only [Act.put, sqA, sqB, sqC, sqD, sqE, sqF]
     refine wpAnyH_done (by kernel_rfl) ?_ _
     have HBX := hide (UP.out _ hBD)
     clear hBD hBC hHeld
     go_wp2_with fail
     go_ret
     exact ⟨false, rfl, ⟨(fun h => by cases h), (fun h => by have := h z HAZ.out; rw [HBZ.out] at this; cases this)⟩, HBX.out⟩
   | false =>
    have HAZ := hide hAz
    have HOK : Hid (∀ t ∈ out.take (k + 1), accB A t = true → accB B t = true) := fun t ht h => by
     rw [HTK.out] at ht
     rcases List.mem_append.1 ht with h1 | h1
     ·exact HALL.out t h1 h
     ·simp at h1; subst h1; rw [hAz] at h; cases h
    clear hAz
    refine wp_region_held_drew (S := Below wr.heap.size wr) (by kernel_rfl) hkd (fun hHeld => ?_)
    generalize wr.drew = wd at *
    refine tkq (v := ?_) 0 rfl ?_ ?_
    rotate_left
    ·intro w' hSw
     obtain ⟨ba, bb, x3, x4⟩ := KPS.out w' hSw
     have x0 := ba.cell 0
     have x1 := ba.cell 1
     have x2 := ba.cell 2
     clear ba bb
     go_simp <;> with_reducible rfl
    try simp only [Act.put, sqA, sqB, sqC, sqD, sqE, sqF]
    refine tkq (v := ?_) 1 rfl ?_ ?_
    rotate_left
    ·intro w' hSw
     go_simp <;> with_reducible rfl
    try simp only [Act.put, sqA, sqB, sqC, sqD, sqE, sqF]
    refine tkq (v := ?_) 2 rfl ?_ ?_
    rotate_left
    ·intro w' hSw
     go_simp <;> with_reducible rfl
    try simp only [Act.put, sqA, sqB, sqC, sqD, sqE, sqF]
    refine tkq (v := ?_) 3 rfl ?_ ?_
    rotate_left
    ·intro w' hSw
     go_simp <;> with_reducible rfl
    try simp only [Act.put, sqA, sqB, sqC, sqD, sqE, sqF]
    refine tkq (v := ?_) 4 rfl ?_ ?_
    rotate_left
    ·intro w' hSw
     obtain ⟨ba, bb, x3, x4⟩ := KPS.out w' hSw
     clear ba bb
     go_simp <;> with_reducible rfl
    try simp only [Act.put, sqA, sqB, sqC, sqD, sqE, sqF]
    refine rdq 5 rfl fun K hK => ?_
    go_simp
    go_at_call 17
    refine (acceptsOfW_any A (S := 8) (M := 40) (by omega) (by omega) OA.out z hZW.out _ _ _ _ (AVW.out _ (UP.out _ hkd)) (HTV.out _ hkd)).mono ?_
    rintro e wC ⟨rfl, hbC⟩
    rw [HAZ.out]
    have hBC := hkd.trans (hbC.mono hkd.size)
    clear hbC
    go_simp
    refine hK.out _ _ (by exact hBC) (fun hHeld => ?_)
    clear hK K
    try simp only [Act.put, sqA, sqB, sqC, sqD, sqE, sqF]
    refine tkq (v := ?_) 6 rfl ?_ ?_
    rotate_left
    ·intro w' hSw
     go_simp <;> with_reducible rfl
    try simp only [Act.put, sqA, sqB, sqC, sqD, sqE, sqF]
    refine wpAnyH_take (i := 7) (v := undef) rfl (by kernel_rfl) (by kernel_rfl) (by kernel_rfl) (fun _ _ _ h => h) (Or.inr ⟨by rfl, rfl⟩) (by assumption) ?_
    try simp only [Act.put, sqA, sqB, sqC, sqD, sqE, sqF]
    refine wpAnyH_take (i := 8) (v := undef) rfl (by kernel_rfl) (by kernel_rfl) (by kernel_rfl) (fun _ _ _ h => h) (Or.inr ⟨by rfl, rfl⟩) (by assumption) ?_
    try simp only [Act.put, sqA, sqB, sqC, sqD, sqE, sqF]
    refine wpAnyH_take (i := 9) (v := undef) rfl (by kernel_rfl) (by kernel_rfl) (by kernel_rfl) (fun _ _ _ h => h) (Or.inr ⟨by rfl, rfl⟩) (by assumption) ?_
    try simp only [Act.put, sqA, sqB, sqC, sqD, sqE, sqF]
    refine wpAnyH_take (i := 10) (v := undef) rfl (by kernel_rfl) (by kernel_rfl) (by kernel_rfl) (fun _ _ _ h => h) (Or.inr ⟨by rfl, rfl⟩) (by assumption) ?_
    try simp only [Act.put, sqA, sqB, sqC, sqD, sqE, sqF]
    refine wpAnyH_take (i := 11) (v := undef) rfl (by kernel_rfl) (by kernel_rfl) (by kernel_rfl) (fun _ _ _ h => h) (Or.inr ⟨by rfl, rfl⟩) (by assumption) ?_
    try simp only [Act.put, sqA, sqB, sqC, sqD, sqE, sqF]
    refine wpAnyH_take (i := 12) (v := undef) rfl (by kernel_rfl) (by kernel_rfl) (by kernel_rfl) (fun _ _ _ h => h) (Or.inr ⟨by rfl, rfl⟩) (by assumption) ?_
    try simp only [Act.put, sqA, sqB, sqC, sqD, sqE, sqF]
    refine wpAnyH_take (i := 13) (v := undef) rfl (by kernel_rfl) (by kernel_rfl) (by kernel_rfl) (fun _ _ _ h => h) (Or.inr ⟨by rfl, rfl⟩) (by assumption) ?_
    try simp only [Act.put, sqA, sqB, sqC, sqD, sqE, sqF]
    refine tkq (v := ?_) 14 rfl ?_ ?_
    rotate_left
    ·intro w' hSw
     go_simp <;> with_reducible rfl
    try simp only [Act.put, sqA, sqB, sqC, sqD, sqE, sqF]
    refine wpAnyH_done (by kernel_rfl) ?_ _
    have HBX := hide (UP5.out _ hBC)
    clear hBC hHeld
    go_wp2_with fail
    go_roundw
    case rel => exact ⟨k + 1, by omega, by go_num, HOK.out, HBX.out⟩
    case measure => simp [intOf]; omega
  ·have hki : ¬ (k : Int) < (out.length : Int) := by omega
   have HT : Hid (∀ t, accB A t = true → accB B t = true) := by
    refine (withinOf_iff OA.out HGR.out).1 fun t ht => HALL.out t ?_
    rw [List.take_of_length_le (by omega)]
    exact ht
   go_wp2_with fail
   go_ret
   have h1 := HB5.out.trans (HBR.out.mono HB5.out.size)
   exact ⟨true, rfl, ⟨fun _ => HT.out, fun _ => rfl⟩, B2.out.trans (h1.mono B2.out.size)⟩
end Go.Proofs.Ytofebfjkodceeaa
