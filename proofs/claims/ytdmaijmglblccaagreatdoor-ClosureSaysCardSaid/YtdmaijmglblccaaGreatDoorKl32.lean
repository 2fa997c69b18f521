/- Walks: are two terms the same, as the document says (SameByOf). -/
import Derived.Test.YtdmaijmglblccaaGreatDoorKl31
import Derived.Test.YtdmaijmglblccaaGreatDoorKl15
import Derived.Test.YtdmaijmglblccaaGreatDoorW90
import Derived.Test.YtdmaijmglblccaaGreatDoorOr4
namespace Go.Proofs.YtdmaijmglblccaaGreatDoor
open Go.RowKit
set_option linter.unusedSimpArgs false
set_option linter.unusedVariables false
set_option maxRecDepth 8000

/-- What SameByOf answers. -/
def SbP (ls : List Pr) (a b : Tm) (w : World) (e : Ending) (w' : World) : Prop :=
  Below w.heap.size w w' ∧ ∃ z : Bool, e = .returned (.bool z) ∧ (z = true ↔ Cg ls (· ∈ preL (prT ls ++ [a, b])) a b)
/-- Within the loop. -/
def SbI (K : List Nat) (ja jb n : Nat) (w4 : World) (x y o : Value) (wr : World) : Prop :=
  ∃ i : Nat, o = .int .i64 (i : Int) ∧ i ≤ n ∧ x = .int .i64 (if ja < i then ((gd K 0 ja : Nat) : Int) else -1) ∧ y = .int .i64 (if jb < i then ((gd K 0 jb : Nat) : Int) else -2) ∧ Below w4.heap.size w4 wr
theorem sb_step {K : List Nat} {ja i : Nat} {L : List Tm} {a : Tm} (hnd : L.Nodup) (hi : i < L.length) (hj : ja < L.length) (ha : gd L noK ja = a) (z : Int) : (gd L noK i = a → ja = i) ∧ (¬ gd L noK i = a → (if ja < i + 1 then ((gd K 0 ja : Nat) : Int) else z) = if ja < i then ((gd K 0 ja : Nat) : Int) else z) := by
  constructor
  · intro e
    rw [← ha, gd_get hi, gd_get hj] at e
    exact ((List.getElem_inj hnd).1 e).symm
  · intro hne
    by_cases e : ja = i
    · subst e; exact absurd ha hne
    · by_cases h1 : ja < i
      · rw [if_pos h1, if_pos (by omega)]
      · rw [if_neg h1, if_neg (by omega)]
set_option maxHeartbeats 8000000 in
theorem sameBy_any (ls : List Pr) (a b : Tm) (u : Value) (aa ab : Option Addr) (ca cb : Nat) (w : World) (X : Nat → Prop) (hu : QV w X u ls) (hsa : Sl w X aa a.args) (hsb : Sl w X ab b.args) (he : errL (prT ls ++ [a, b]) = 0) (hz : sizeL (prT ls ++ [a, b]) ≤ 900) :
    Calls Tryz.prog 14 #[u, .agg #[.string a.name, .slice aa a.args.length ca], .agg #[.string b.name, .slice ab b.args.length cb]] w (SbP ls a b w) := by
  obtain ⟨ua, uc, rfl, hul, huu⟩ := id hu
  have B1 := (Below.refl w.heap.size w).alloc (Nat.le_refl _) (.cells #[.string a.name, .slice aa a.args.length ca] 25)
  have B2 := B1.alloc B1.size (.cells #[.string b.name, .slice ab b.args.length cb] 25)
  have P1 : Hid (Blk ((w.alloc (.cells #[.string a.name, .slice aa a.args.length ca] 25)).alloc (.cells #[.string b.name, .slice ab b.args.length cb] 25)) w.heap.size #[.string a.name, .slice aa a.args.length ca] 25) := (Blk.new w _ _).alloc _
  have P2 : Hid (Blk ((w.alloc (.cells #[.string a.name, .slice aa a.args.length ca] 25)).alloc (.cells #[.string b.name, .slice ab b.args.length cb] 25)) (w.heap.size + 1) #[.string b.name, .slice ab b.args.length cb] 25) := by
    have h := Blk.new (w.alloc (.cells #[.string a.name, .slice aa a.args.length ca] 25)) #[.string b.name, .slice ab b.args.length cb] 25
    rw [World.size_alloc] at h
    exact h
  have HB := hide B2
  have HX : Hid (QV w (fun b => b < w.heap.size) (.slice ua ls.length uc) ls) := hu.mono fun b _ h => h
  have HSA : Hid (Sl w (fun b => b < w.heap.size) aa a.args) := hsa.mono fun b _ h => h
  have HSB : Hid (Sl w (fun b => b < w.heap.size) ab b.args) := hsb.mono fun b _ h => h
  have HE := hide he
  have HZ := hide hz
  clear hu hsa hsb he hz B1 B2 huu
  go_enter Tryz.func14, Tryz.ntmps14
  go_upto_region 1 with fail
  generalize ((w.alloc (.cells #[.string a.name, .slice aa a.args.length ca] 25)).alloc (.cells #[.string b.name, .slice ab b.args.length cb] 25)) = w1 at *
  obtain ⟨Pa, hPa⟩ : ∃ P, P = w.heap.size := ⟨_, rfl⟩
  obtain ⟨Pb, hPb⟩ : ∃ P, P = w.heap.size + 1 := ⟨_, rfl⟩
  rw [← hPa] at P1
  rw [← hPb] at P2
  have HPP : Hid (Pa = w.heap.size ∧ Pb = w.heap.size + 1) := ⟨hPa, hPb⟩
  rw [← hPb, ← hPa]
  clear hPb hPa
  have p0 := P1.out.cell 0
  have p1 := P1.out.cell 1
  have q0 := P2.out.cell 0
  have q1 := P2.out.cell 1
  have C2 := Blk.new w1 #[.string a.name, .slice aa a.args.length ca, .string b.name, .slice ab b.args.length cb] 25
  have B3 : Below w1.heap.size w1 (w1.alloc (.cells #[.string a.name, .slice aa a.args.length ca, .string b.name, .slice ab b.args.length cb] 25)) := (Below.refl _ _).alloc (Nat.le_refl _) _
  have B13 := HB.out.trans (B3.mono HB.out.size)
  have HSQ : Hid (Sl (w1.alloc (.cells #[.string a.name, .slice aa a.args.length ca, .string b.name, .slice ab b.args.length cb] 25)) (fun _ => True) (some ⟨w1.heap.size, 0, none⟩) [a, b]) := slK_two trivial (C2.cell 0) (C2.cell 1) ((HSA.out.later B13).mono fun _ _ _ => trivial) (C2.cell 2) (C2.cell 3) ((HSB.out.later B13).mono fun _ _ _ => trivial)
  have HQ3 : Hid (QV (w1.alloc (.cells #[.string a.name, .slice aa a.args.length ca, .string b.name, .slice ab b.args.length cb] 25)) (fun _ => True) (.slice ua ls.length uc) ls) := (HX.out.later B13).mono fun _ _ _ => trivial
  have HB3 := hide B3
  have HB13 := hide B13
  simp only [List.getElem?_toArray, List.getElem?_cons_zero, List.getElem?_cons_succ] at p0 p1 q0 q1
  clear C2 B3 B13
  have hlen2 : ([a, b] : List Tm).length = 2 := rfl
  have HCO := hide (closureOf_any ls [a, b] _ _ 2 _ _ HQ3.out HSQ.out HE.out HZ.out)
  go_wp2_with (go_at_call 27; refine HCO.out.mono ?_; rintro e w4 ⟨hb4, L, K, oa, oc, Gk, rfl, hsl, hgk, hnum, hdone, hmem, hkl, hklt, hln⟩)
  obtain ⟨n, hn⟩ : ∃ n, n = L.length := ⟨_, rfl⟩
  have HN := hide hn
  rw [← hn] at hln ⊢
  have HSL := hide hsl
  have HGK := hide hgk
  have HNUM := hide hnum
  have HDON := hide hdone
  have HMEM := hide hmem
  have HKL := hide hkl
  have HB4 : Hid (Below w1.heap.size w1 w4) := HB3.out.trans (hb4.mono HB3.out.size)
  clear hb4 hsl hgk hnum hdone hmem hkl hklt hn HCO hlen2 p0 p1 q0 q1
  have HMA : Hid (a ∈ L) := (HMEM.out a).2 (mem_preK (by simp))
  have HMB : Hid (b ∈ L) := (HMEM.out b).2 (mem_preK (by simp))
  have HER : Hid (∀ x ∈ L, errL [x] = 0) := fun x hx => errL_inK HE.out x ((HMEM.out x).1 hx)
  obtain ⟨ja, hja, hja2⟩ : ∃ j, j < n ∧ gd L noK j = a := ⟨plK L a, by rw [HN.out]; exact plK_lt HMA.out, plK_at HMA.out HER.out⟩
  obtain ⟨jb, hjb, hjb2⟩ : ∃ j, j < n ∧ gd L noK j = b := ⟨plK L b, by rw [HN.out]; exact plK_lt HMB.out, plK_at HMB.out HER.out⟩
  have HJA := hide hja2
  have HJB := hide hjb2
  clear hja2 hjb2
  have HWE : Hid (∀ W, Below w4.heap.size w4 W → Below w.heap.size w W) := fun W hb => HB.out.trans ((HB4.out.trans (hb.mono HB4.out.size)).mono HB.out.size)
  have HPA : Hid (∀ W, Below w4.heap.size w4 W → W.cell? ⟨Pa, 0, none⟩ = some (.string a.name) ∧ W.cell? ⟨Pa, 1, none⟩ = some (.slice aa a.args.length ca) ∧ W.cell? ⟨Pb, 0, none⟩ = some (.string b.name) ∧ W.cell? ⟨Pb, 1, none⟩ = some (.slice ab b.args.length cb)) := fun W hb => by
    have h0 := HB4.out.trans (hb.mono HB4.out.size)
    have h1 := P1.out.below h0 P1.out.lt
    have h2 := P2.out.below h0 P2.out.lt
    exact ⟨h1.cell 0, h1.cell 1, h2.cell 0, h2.cell 1⟩
  go_wp2_with fail
  go_loopw [9, 10, 11] (fun x y o wr => SbI K ja jb n w4 x y o wr) (fun x y o wr => n - (intOf o).toNat)
  case atStart => exact ⟨0, rfl, Nat.zero_le _, by rw [if_neg (Nat.not_lt_zero _)], by rw [if_neg (Nat.not_lt_zero _)], Below.refl _ _⟩
  case round =>
    obtain ⟨i, rfl, hi, rfl, rfl, hbr⟩ := hrel
    have HBR := hide hbr
    clear hbr
    obtain ⟨wa, hwa⟩ : ∃ x, x = wr := ⟨_, rfl⟩
    rw [← hwa] at HBR ⊢
    clear hwa
    obtain ⟨xv, hxv⟩ : ∃ z : Int, z = if ja < i then ((gd K 0 ja : Nat) : Int) else -1 := ⟨_, rfl⟩
    obtain ⟨yv, hyv⟩ : ∃ z : Int, z = if jb < i then ((gd K 0 jb : Nat) : Int) else -2 := ⟨_, rfl⟩
    have HXV := hide hxv
    have HYV := hide hyv
    rw [← hxv, ← hyv]
    clear hxv hyv
    by_cases hlt : i < n
    · have hii : (i : Int) < (n : Int) := by omega
      have hiL : i < L.length := by have := HN.out; omega
      obtain ⟨b9, o9, rfl, hlies⟩ : ∃ b9 o9, oa = some ⟨b9, o9, none⟩ ∧ Lies w4 (fun _ => True) b9 o9 L := by
        rcases HSL.out.2 with h | ⟨b9, o9, e, h⟩
        · rw [h] at hiL; exact absurd hiL (Nat.not_lt_zero _)
        · exact ⟨b9, o9, e, h⟩
      obtain ⟨-, d0, ⟨ax, cx, d1, hsx⟩⟩ := lies_get _ _ _ hlies i hiL
      have hbl : b9 < w4.heap.size := World.block_lt_of_cell? w4 _ d0
      have HSTA := hide (sb_step (K := K) HNUM.out.nd hiL (by rw [← HN.out]; exact hja) HJA.out (-1))
      have HSTB := hide (sb_step (K := K) HNUM.out.nd hiL (by rw [← HN.out]; exact hjb) HJB.out (-2))
      have hgx : gd L noK i = L[i] := gd_get hiL
      rw [hgx] at HSTA HSTB
      have HK1 : Hid (∀ W, Below w4.heap.size w4 W → W.cell? ⟨Gk, i, none⟩ = some (.int .i64 ((gd K 0 i : Nat) : Int))) := fun W hb => by
        have h1 := HGK.out.below hb HGK.out.lt
        rw [h1.cell i, List.getElem?_toArray, iL_get (by rw [HKL.out]; exact hiL)]
      generalize L[i] = x at *
      have HSX := hide hsx
      clear hsx hlies hgx hiL
      have HST : Hid (∀ W, Below w4.heap.size w4 W → (fun w' : World => w'.cell? ⟨b9, o9 + i * 2, none⟩ = some (.string x.name) ∧ w'.cell? ⟨b9, o9 + i * 2 + 1, none⟩ = some (.slice ax x.args.length cx) ∧ w'.cell? ⟨Pa, 0, none⟩ = some (.string a.name) ∧ w'.cell? ⟨Pa, 1, none⟩ = some (.slice aa a.args.length ca) ∧ w'.cell? ⟨Pb, 0, none⟩ = some (.string b.name) ∧ w'.cell? ⟨Pb, 1, none⟩ = some (.slice ab b.args.length cb)) W) := fun W hb => ⟨(hb.cell (p := ⟨b9, o9 + i * 2, none⟩) hbl).trans d0, (hb.cell (p := ⟨b9, o9 + i * 2 + 1, none⟩) hbl).trans d1, HPA.out W hb⟩
      have HRA : Hid (∀ W, Below w4.heap.size w4 W → Calls Tryz.prog 29 #[.agg #[.string x.name, .slice ax x.args.length cx], .agg #[.string a.name, .slice aa a.args.length ca]] W fun e w' => e = .returned (.bool (sameB x a)) ∧ Below W.heap.size W w') := fun W hb => sameR_all x a _ _ W _ _ ⟨_, _, rfl, HSX.out.later hb⟩ ⟨_, _, rfl, HSA.out.later (HWE.out W hb)⟩
      have HRB : Hid (∀ W, Below w4.heap.size w4 W → Calls Tryz.prog 29 #[.agg #[.string x.name, .slice ax x.args.length cx], .agg #[.string b.name, .slice ab b.args.length cb]] W fun e w' => e = .returned (.bool (sameB x b)) ∧ Below W.heap.size W w') := fun W hb => sameR_all x b _ _ W _ _ ⟨_, _, rfl, HSX.out.later hb⟩ ⟨_, _, rfl, HSB.out.later (HWE.out W hb)⟩
      clear d0 d1 hbl
      go_upto_region 7 with fail
      have HBRd : Hid (Below w4.heap.size w4 wa.drew) := HBR.out.drew
      refine wp_region_held_drew (S := fun W => (fun w' : World => w'.cell? ⟨b9, o9 + i * 2, none⟩ = some (.string x.name) ∧ w'.cell? ⟨b9, o9 + i * 2 + 1, none⟩ = some (.slice ax x.args.length cx) ∧ w'.cell? ⟨Pa, 0, none⟩ = some (.string a.name) ∧ w'.cell? ⟨Pa, 1, none⟩ = some (.slice aa a.args.length ca) ∧ w'.cell? ⟨Pb, 0, none⟩ = some (.string b.name) ∧ w'.cell? ⟨Pb, 1, none⟩ = some (.slice ab b.args.length cb)) W) (by kernel_rfl) (HST.out _ HBRd.out) (fun hHeld => ?_)
      generalize wa.drew = wd at *
      refine wpAnyH_take (i := 0) (v := ?_) rfl (by kernel_rfl) (by kernel_rfl) (by kernel_rfl) (fun _ _ _ h => h) (Or.inl ⟨by rfl, ?_⟩) (by assumption) ?_
      rotate_left
      · intro w' hSw
        go_simp <;> with_reducible rfl
      try simp only [Act.put, List.setIfInBounds_toArray, List.set_cons_zero, List.set_cons_succ, List.getElem_toArray, List.getElem_cons_succ, List.getElem_cons_zero]
      refine wpAnyH_take (i := 1) (v := ?_) rfl (by kernel_rfl) (by kernel_rfl) (by kernel_rfl) (fun _ _ _ h => h) (Or.inl ⟨by rfl, ?_⟩) (by assumption) ?_
      rotate_left
      · intro w' hSw
        go_simp <;> with_reducible rfl
      try simp only [Act.put, List.setIfInBounds_toArray, List.set_cons_zero, List.set_cons_succ, List.getElem_toArray, List.getElem_cons_succ, List.getElem_cons_zero]
      refine wpAnyH_take (i := 2) (v := ?_) rfl (by kernel_rfl) (by kernel_rfl) (by kernel_rfl) (fun _ _ _ h => h) (Or.inl ⟨by rfl, ?_⟩) (by assumption) ?_
      rotate_left
      · intro w' hSw
        obtain ⟨z0, z1, z2, z3, z4, z5⟩ := hSw
        go_simp <;> with_reducible rfl
      try simp only [Act.put, List.setIfInBounds_toArray, List.set_cons_zero, List.set_cons_succ, List.getElem_toArray, List.getElem_cons_succ, List.getElem_cons_zero]
      refine wpAnyH_take (i := 3) (v := ?_) rfl (by kernel_rfl) (by kernel_rfl) (by kernel_rfl) (fun _ _ _ h => h) (Or.inl ⟨by rfl, ?_⟩) (by assumption) ?_
      rotate_left
      · intro w' hSw
        obtain ⟨z0, z1, z2, z3, z4, z5⟩ := hSw
        go_simp <;> with_reducible rfl
      try simp only [Act.put, List.setIfInBounds_toArray, List.set_cons_zero, List.set_cons_succ, List.getElem_toArray, List.getElem_cons_succ, List.getElem_cons_zero]
      refine wpAnyH_take (i := 4) (v := ?_) rfl (by kernel_rfl) (by kernel_rfl) (by kernel_rfl) (fun _ _ _ h => h) (Or.inl ⟨by rfl, ?_⟩) (by assumption) ?_
      rotate_left
      · intro w' hSw
        obtain ⟨z0, z1, z2, z3, z4, z5⟩ := hSw
        go_simp <;> with_reducible rfl
      try simp only [Act.put, List.setIfInBounds_toArray, List.set_cons_zero, List.set_cons_succ, List.getElem_toArray, List.getElem_cons_succ, List.getElem_cons_zero]
      refine wpAnyH_ready (rs := [5]) (by kernel_rfl) (by simp) ?_
      refine AllReadyH.cons rfl (fun K hK => ?_) AllReadyH.nil
      go_simp
      go_at_call 29
      refine (HRA.out _ HBRd.out).mono ?_
      rintro e wb ⟨rfl, hbC⟩
      have HBA := hide (HBRd.out.trans (hbC.mono HBRd.out.size))
      clear hbC
      go_simp
      refine hK.out _ _ (by exact (HST.out _ HBA.out)) (fun hHeld => ?_)
      clear hK K
      try simp only [Act.put, List.setIfInBounds_toArray, List.set_cons_zero, List.set_cons_succ, List.getElem_toArray, List.getElem_cons_succ, List.getElem_cons_zero]
      refine wpAnyH_done (by kernel_rfl) ?_ _
      clear hHeld
      by_cases hsa : sameB x a = true
      · have HX1 : Hid (((gd K 0 i : Nat) : Int) = if ja < i + 1 then ((gd K 0 ja : Nat) : Int) else -1) := by have e := HSTA.out.1 (sameB_iff.1 hsa); subst e; exact (if_pos (by omega)).symm
        have k1 := HK1.out _ HBA.out
        have hki : (i : Int) < (n : Int) := by omega
        rw [hsa]
        clear hsa
        go_upto_region 9 with fail
        have HBAd : Hid (Below w4.heap.size w4 wb.drew) := HBA.out.drew
        refine wp_region_held_drew (S := fun W => (fun w' : World => w'.cell? ⟨b9, o9 + i * 2, none⟩ = some (.string x.name) ∧ w'.cell? ⟨b9, o9 + i * 2 + 1, none⟩ = some (.slice ax x.args.length cx) ∧ w'.cell? ⟨Pa, 0, none⟩ = some (.string a.name) ∧ w'.cell? ⟨Pa, 1, none⟩ = some (.slice aa a.args.length ca) ∧ w'.cell? ⟨Pb, 0, none⟩ = some (.string b.name) ∧ w'.cell? ⟨Pb, 1, none⟩ = some (.slice ab b.args.length cb)) W) (by kernel_rfl) (HST.out _ HBAd.out) (fun hHeld => ?_)
        generalize wb.drew = wc at *
        refine wpAnyH_take (i := 0) (v := ?_) rfl (by kernel_rfl) (by kernel_rfl) (by kernel_rfl) (fun _ _ _ h => h) (Or.inl ⟨by rfl, ?_⟩) (by assumption) ?_
        rotate_left
        · intro w' hSw
          go_simp <;> with_reducible rfl
        try simp only [Act.put, List.setIfInBounds_toArray, List.set_cons_zero, List.set_cons_succ, List.getElem_toArray, List.getElem_cons_succ, List.getElem_cons_zero]
        refine wpAnyH_take (i := 1) (v := ?_) rfl (by kernel_rfl) (by kernel_rfl) (by kernel_rfl) (fun _ _ _ h => h) (Or.inl ⟨by rfl, ?_⟩) (by assumption) ?_
        rotate_left
        · intro w' hSw
          go_simp <;> with_reducible rfl
        try simp only [Act.put, List.setIfInBounds_toArray, List.set_cons_zero, List.set_cons_succ, List.getElem_toArray, List.getElem_cons_succ, List.getElem_cons_zero]
        refine wpAnyH_take (i := 2) (v := ?_) rfl (by kernel_rfl) (by kernel_rfl) (by kernel_rfl) (fun _ _ _ h => h) (Or.inl ⟨by rfl, ?_⟩) (by assumption) ?_
        rotate_left
        · intro w' hSw
          obtain ⟨z0, z1, z2, z3, z4, z5⟩ := hSw
          go_simp <;> with_reducible rfl
        try simp only [Act.put, List.setIfInBounds_toArray, List.set_cons_zero, List.set_cons_succ, List.getElem_toArray, List.getElem_cons_succ, List.getElem_cons_zero]
        refine wpAnyH_take (i := 3) (v := ?_) rfl (by kernel_rfl) (by kernel_rfl) (by kernel_rfl) (fun _ _ _ h => h) (Or.inl ⟨by rfl, ?_⟩) (by assumption) ?_
        rotate_left
        · intro w' hSw
          obtain ⟨z0, z1, z2, z3, z4, z5⟩ := hSw
          go_simp <;> with_reducible rfl
        try simp only [Act.put, List.setIfInBounds_toArray, List.set_cons_zero, List.set_cons_succ, List.getElem_toArray, List.getElem_cons_succ, List.getElem_cons_zero]
        refine wpAnyH_take (i := 4) (v := ?_) rfl (by kernel_rfl) (by kernel_rfl) (by kernel_rfl) (fun _ _ _ h => h) (Or.inl ⟨by rfl, ?_⟩) (by assumption) ?_
        rotate_left
        · intro w' hSw
          obtain ⟨z0, z1, z2, z3, z4, z5⟩ := hSw
          go_simp <;> with_reducible rfl
        try simp only [Act.put, List.setIfInBounds_toArray, List.set_cons_zero, List.set_cons_succ, List.getElem_toArray, List.getElem_cons_succ, List.getElem_cons_zero]
        refine wpAnyH_ready (rs := [5]) (by kernel_rfl) (by simp) ?_
        refine AllReadyH.cons rfl (fun K hK => ?_) AllReadyH.nil
        go_simp
        go_at_call 29
        refine (HRB.out _ HBAd.out).mono ?_
        rintro e we ⟨rfl, hbC⟩
        have HBB := hide (HBAd.out.trans (hbC.mono HBAd.out.size))
        clear hbC
        go_simp
        refine hK.out _ _ (by exact (HST.out _ HBB.out)) (fun hHeld => ?_)
        clear hK K
        try simp only [Act.put, List.setIfInBounds_toArray, List.set_cons_zero, List.set_cons_succ, List.getElem_toArray, List.getElem_cons_succ, List.getElem_cons_zero]
        refine wpAnyH_done (by kernel_rfl) ?_ _
        clear hHeld
        by_cases hsb : sameB x b = true
        · have HY1 : Hid (((gd K 0 i : Nat) : Int) = if jb < i + 1 then ((gd K 0 jb : Nat) : Int) else -2) := by have e := HSTB.out.1 (sameB_iff.1 hsb); subst e; exact (if_pos (by omega)).symm
          have k1 := HK1.out _ HBB.out
          have hki : (i : Int) < (n : Int) := by omega
          rw [hsb]
          clear hsb
          go_wp2_with fail
          go_roundw
          case rel => exact ⟨i + 1, by go_num, by omega, congrArg (Value.int .i64) HX1.out, congrArg (Value.int .i64) HY1.out, HBB.out⟩
          case measure => simp [intOf]; omega
        · have HY1 : Hid (yv = if jb < i + 1 then ((gd K 0 jb : Nat) : Int) else -2) := HYV.out.trans (HSTB.out.2 fun e => hsb (sameB_iff.2 e)).symm
          have hsb2 : sameB x b = false := by simpa using hsb
          rw [hsb2]
          clear hsb hsb2
          go_wp2_with fail
          go_roundw
          case rel => exact ⟨i + 1, by go_num, by omega, congrArg (Value.int .i64) HX1.out, congrArg (Value.int .i64) HY1.out, HBB.out⟩
          case measure => simp [intOf]; omega
      · have HX1 : Hid (xv = if ja < i + 1 then ((gd K 0 ja : Nat) : Int) else -1) := HXV.out.trans (HSTA.out.2 fun e => hsa (sameB_iff.2 e)).symm
        have hsa2 : sameB x a = false := by simpa using hsa
        rw [hsa2]
        clear hsa hsa2
        go_upto_region 9 with fail
        have HBAd : Hid (Below w4.heap.size w4 wb.drew) := HBA.out.drew
        refine wp_region_held_drew (S := fun W => (fun w' : World => w'.cell? ⟨b9, o9 + i * 2, none⟩ = some (.string x.name) ∧ w'.cell? ⟨b9, o9 + i * 2 + 1, none⟩ = some (.slice ax x.args.length cx) ∧ w'.cell? ⟨Pa, 0, none⟩ = some (.string a.name) ∧ w'.cell? ⟨Pa, 1, none⟩ = some (.slice aa a.args.length ca) ∧ w'.cell? ⟨Pb, 0, none⟩ = some (.string b.name) ∧ w'.cell? ⟨Pb, 1, none⟩ = some (.slice ab b.args.length cb)) W) (by kernel_rfl) (HST.out _ HBAd.out) (fun hHeld => ?_)
        generalize wb.drew = wc at *
        refine wpAnyH_take (i := 0) (v := ?_) rfl (by kernel_rfl) (by kernel_rfl) (by kernel_rfl) (fun _ _ _ h => h) (Or.inl ⟨by rfl, ?_⟩) (by assumption) ?_
        rotate_left
        · intro w' hSw
          go_simp <;> with_reducible rfl
        try simp only [Act.put, List.setIfInBounds_toArray, List.set_cons_zero, List.set_cons_succ, List.getElem_toArray, List.getElem_cons_succ, List.getElem_cons_zero]
        refine wpAnyH_take (i := 1) (v := ?_) rfl (by kernel_rfl) (by kernel_rfl) (by kernel_rfl) (fun _ _ _ h => h) (Or.inl ⟨by rfl, ?_⟩) (by assumption) ?_
        rotate_left
        · intro w' hSw
          go_simp <;> with_reducible rfl
        try simp only [Act.put, List.setIfInBounds_toArray, List.set_cons_zero, List.set_cons_succ, List.getElem_toArray, List.getElem_cons_succ, List.getElem_cons_zero]
        refine wpAnyH_take (i := 2) (v := ?_) rfl (by kernel_rfl) (by kernel_rfl) (by kernel_rfl) (fun _ _ _ h => h) (Or.inl ⟨by rfl, ?_⟩) (by assumption) ?_
        rotate_left
        · intro w' hSw
          obtain ⟨z0, z1, z2, z3, z4, z5⟩ := hSw
          go_simp <;> with_reducible rfl
        try simp only [Act.put, List.setIfInBounds_toArray, List.set_cons_zero, List.set_cons_succ, List.getElem_toArray, List.getElem_cons_succ, List.getElem_cons_zero]
        refine wpAnyH_take (i := 3) (v := ?_) rfl (by kernel_rfl) (by kernel_rfl) (by kernel_rfl) (fun _ _ _ h => h) (Or.inl ⟨by rfl, ?_⟩) (by assumption) ?_
        rotate_left
        · intro w' hSw
          obtain ⟨z0, z1, z2, z3, z4, z5⟩ := hSw
          go_simp <;> with_reducible rfl
        try simp only [Act.put, List.setIfInBounds_toArray, List.set_cons_zero, List.set_cons_succ, List.getElem_toArray, List.getElem_cons_succ, List.getElem_cons_zero]
        refine wpAnyH_take (i := 4) (v := ?_) rfl (by kernel_rfl) (by kernel_rfl) (by kernel_rfl) (fun _ _ _ h => h) (Or.inl ⟨by rfl, ?_⟩) (by assumption) ?_
        rotate_left
        · intro w' hSw
          obtain ⟨z0, z1, z2, z3, z4, z5⟩ := hSw
          go_simp <;> with_reducible rfl
        try simp only [Act.put, List.setIfInBounds_toArray, List.set_cons_zero, List.set_cons_succ, List.getElem_toArray, List.getElem_cons_succ, List.getElem_cons_zero]
        refine wpAnyH_ready (rs := [5]) (by kernel_rfl) (by simp) ?_
        refine AllReadyH.cons rfl (fun K hK => ?_) AllReadyH.nil
        go_simp
        go_at_call 29
        refine (HRB.out _ HBAd.out).mono ?_
        rintro e we ⟨rfl, hbC⟩
        have HBB := hide (HBAd.out.trans (hbC.mono HBAd.out.size))
        clear hbC
        go_simp
        refine hK.out _ _ (by exact (HST.out _ HBB.out)) (fun hHeld => ?_)
        clear hK K
        try simp only [Act.put, List.setIfInBounds_toArray, List.set_cons_zero, List.set_cons_succ, List.getElem_toArray, List.getElem_cons_succ, List.getElem_cons_zero]
        refine wpAnyH_done (by kernel_rfl) ?_ _
        clear hHeld
        by_cases hsb : sameB x b = true
        · have HY1 : Hid (((gd K 0 i : Nat) : Int) = if jb < i + 1 then ((gd K 0 jb : Nat) : Int) else -2) := by have e := HSTB.out.1 (sameB_iff.1 hsb); subst e; exact (if_pos (by omega)).symm
          have k1 := HK1.out _ HBB.out
          have hki : (i : Int) < (n : Int) := by omega
          rw [hsb]
          clear hsb
          go_wp2_with fail
          go_roundw
          case rel => exact ⟨i + 1, by go_num, by omega, congrArg (Value.int .i64) HX1.out, congrArg (Value.int .i64) HY1.out, HBB.out⟩
          case measure => simp [intOf]; omega
        · have HY1 : Hid (yv = if jb < i + 1 then ((gd K 0 jb : Nat) : Int) else -2) := HYV.out.trans (HSTB.out.2 fun e => hsb (sameB_iff.2 e)).symm
          have hsb2 : sameB x b = false := by simpa using hsb
          rw [hsb2]
          clear hsb hsb2
          go_wp2_with fail
          go_roundw
          case rel => exact ⟨i + 1, by go_num, by omega, congrArg (Value.int .i64) HX1.out, congrArg (Value.int .i64) HY1.out, HBB.out⟩
          case measure => simp [intOf]; omega
    · have hii : ¬ (i : Int) < (n : Int) := by omega
      have hA : xv = ((gd K 0 ja : Nat) : Int) := HXV.out.trans (if_pos (by omega))
      have hB : yv = ((gd K 0 jb : Nat) : Int) := HYV.out.trans (if_pos (by omega))
      have HANS : Hid (((xv : Int) == yv) = true ↔ Cg ls (· ∈ preL (prT ls ++ [a, b])) a b) := by
        have h1 : ja < L.length := by have := HN.out; omega
        have h2 : jb < L.length := by have := HN.out; omega
        have h := num_iff HNUM.out HDON.out h1 h2 (by rw [HKL.out]; exact h1) (by rw [HKL.out]; exact h2)
        unfold Hid
        rw [beq_iff_eq, hA, hB, ← Cg.iff HMEM.out]
        have e1 : L[ja] = a := by rw [← gd_get (d := noK) h1]; exact HJA.out
        have e2 : L[jb] = b := by rw [← gd_get (d := noK) h2]; exact HJB.out
        rw [e1, e2] at h
        rw [← h, gd_get (show ja < K.length by rw [HKL.out]; exact h1), gd_get (show jb < K.length by rw [HKL.out]; exact h2)]
        omega
      clear hA hB
      go_wp2_with fail
      refine bodyPost_ret (v := .bool (xv == yv)) (by simp [results, Tryz.results14, go_sem]) rfl ?_
      exact ⟨HWE.out _ HBR.out, _, rfl, HANS.out⟩
end Go.Proofs.YtdmaijmglblccaaGreatDoor
