/- Walks: comb.Bracket, whatever is given. -/
import Derived.Test.YtcdabjekppddjaaGreatDoorBk9
namespace Go.Proofs.YtcdabjekppddjaaGreatDoor
open Go.RowKit
set_option linter.unusedSimpArgs false
set_option linter.unusedVariables false
set_option maxRecDepth 8000

set_option maxHeartbeats 2000000 in
theorem bracketN_any (nm : ByteArray) (hN : nameB nm = true) (hV : varB nm = true) (t : Tm) (hC : isC t = true) (hE : combE t = 0) (hz : sizeL [t] ≤ 200) (v : Value) (w : World) (X : Nat → Prop) (htv : TV w X v t) :
    Calls Tryz.prog 11 #[.string nm, v] w fun e w' => BkPost w X (alw (brR nm (sizeL [t]) t)) e w' := by
  have hvn : nm ≠ apB := fun h => by rw [h] at hV; revert hV; decide
  obtain ⟨a, c, rfl, hs⟩ := htv
  have HS : Hid (TV w (fun b => X b ∧ b < w.heap.size) (.agg #[.string t.name, .slice a t.args.length c]) t) := ⟨a, c, rfl, hs.mono fun b h1 h2 => ⟨h1, h2⟩⟩
  have HK : Hid (Blk ((w.alloc (.cells #[.string t.name, .slice a t.args.length c] 24)).alloc (.cells #[.string ⟨#[]⟩, .slice none 0 0] 24)) (w.heap.size + 1) #[.string ⟨#[]⟩, .slice none 0 0] 24) := by
    have h := Blk.new (w.alloc (.cells #[.string t.name, .slice a t.args.length c] 24)) #[.string ⟨#[]⟩, .slice none 0 0] 24
    unfold Hid
    simpa using h
  have HT : Hid (Blk ((w.alloc (.cells #[.string t.name, .slice a t.args.length c] 24)).alloc (.cells #[.string ⟨#[]⟩, .slice none 0 0] 24)) w.heap.size #[.string t.name, .slice a t.args.length c] 24) := (Blk.new w _ _).alloc _
  have HB0 : Hid (Below w.heap.size w ((w.alloc (.cells #[.string t.name, .slice a t.args.length c] 24)).alloc (.cells #[.string ⟨#[]⟩, .slice none 0 0] 24))) := below2 _ _
  have hz0 : ((w.alloc (.cells #[.string t.name, .slice a t.args.length c] 24)).alloc (.cells #[.string ⟨#[]⟩, .slice none 0 0] 24)).heap.size = w.heap.size + 2 := by simp
  have HN : Hid (∀ w' : World, Calls Tryz.prog 29 #[.string nm] w' fun e w'' => e = .returned (.bool true) ∧ w'' = w') := fun w' => by
    have h := isName_any nm w'
    rw [hN] at h
    exact h
  have HV : Hid (∀ w' : World, Calls Tryz.prog 30 #[.string nm] w' fun e w'' => e = .returned (.bool true) ∧ w'' = w') := fun w' => by
    have h := isVariable_all nm w'
    rw [hV] at h
    exact h
  have HSM : Hid (sizeL [alw (brR nm (sizeL [t]) t)] ≤ 1000) := by have := alw_size (v := nm) hC; unfold Hid; omega
  have HE := hide hE
  clear hs hE hN hV
  go_enter Tryz.func11, Tryz.ntmps11
  go_wp2_with fail
  refine (HN.out _).mono ?_
  rintro e w0 ⟨rfl, rfl⟩
  go_wp2_with fail
  refine (HV.out _).mono ?_
  rintro e w0 ⟨rfl, rfl⟩
  go_wp2_with fail
  generalize ((w.alloc (.cells #[.string t.name, .slice a t.args.length c] 24)).alloc (.cells #[.string ⟨#[]⟩, .slice none 0 0] 24)) = w0 at *
  refine (ccheck_any t _ _ _ (HS.out.later HB0.out)).mono ?_
  rintro e w1 ⟨rfl, hb1⟩
  rw [HE.out]
  have B1 := hide (HB0.out.trans (hb1.mono (by omega)))
  have K1 := hide (HK.out.below hb1 HK.out.lt)
  have T1 := hide (HT.out.below hb1 HT.out.lt)
  have hw1 : w.heap.size + 2 ≤ w1.heap.size := by have := hb1.size; omega
  have t0 : w1.cell? ⟨w.heap.size, 0, none⟩ = some (.string t.name) := T1.out.cell 0
  have t1 : w1.cell? ⟨w.heap.size, 1, none⟩ = some (.slice a t.args.length c) := T1.out.cell 1
  clear hb1 HK HT HB0 hz0 HN HV
  go_wp2_with fail
  refine (copyOf_any t _ _ _ (HS.out.later B1.out) (by omega)).mono ?_
  rintro e w2 ⟨v2, rfl, hv2, hb2⟩
  have B2 := hide (B1.out.trans (hb2.mono B1.out.size))
  have K2 := hide (K1.out.below hb2 K1.out.lt)
  have hw2 : w.heap.size + 2 ≤ w2.heap.size := by have := hb2.size; omega
  have V2 : Hid (TV w2 (fun b => w.heap.size + 2 ≤ b) v2 t) := hv2.mono fun b h _ => by omega
  clear hb2 hv2 t0 t1 T1
  go_wp2_with fail
  refine (without_any nm hvn t hC _ _ _ V2.out).mono ?_
  rintro e w3 ⟨v3, rfl, ⟨a3, c3, rfl, hs3⟩, hb3⟩
  have B3 := hide (B2.out.trans (hb3.mono B2.out.size))
  have K3 := hide (K2.out.below hb3 K2.out.lt)
  have hw3 : w.heap.size + 2 ≤ w3.heap.size := by have := hb3.size; omega
  have S3 : Hid (Sl w3 (fun b => (X b ∧ b < w.heap.size) ∨ w.heap.size + 2 ≤ b) a3 (alw (brR nm (sizeL [t]) t)).args) := hs3.mono fun b h _ => Or.inr (by omega)
  clear hb3 hs3
  obtain ⟨y, hy⟩ : ∃ y, alw (brR nm (sizeL [t]) t) = y := ⟨_, rfl⟩
  have HY := hide hy
  rw [hy] at S3 HSM ⊢
  clear hy
  have q0 : ∀ o', (w3.alloc o').cell? ⟨w.heap.size + 1, 0, none⟩ = some (.string ⟨#[]⟩) := fun o' => (K3.out.alloc o').cell 0
  go_wp2_with fail
  refine (tooGreat_any y _ _ _ ⟨_, _, rfl, S3.out.later ((Below.refl _ _).alloc (Nat.le_refl _) _)⟩).mono ?_
  rintro e w4 ⟨rfl, hb4⟩
  have hd : decide (2000 < sizeL [y]) = false := decide_eq_false (by have := HSM.out; omega)
  rw [hd]
  have hb4' : Below w3.heap.size w3 w4 := ((Below.refl _ _).alloc (Nat.le_refl _) _).trans (hb4.mono (by simp))
  have B4 := hide (B3.out.trans (hb4'.mono B3.out.size))
  have K4 := hide (K3.out.below hb4' K3.out.lt)
  have S4 := hide (S3.out.later hb4')
  have Y4 := hide ((Blk.new w3 #[.string y.name, .slice a3 y.args.length c3] 24).below hb4 (by simp))
  have y0 : w4.cell? ⟨w3.heap.size, 0, none⟩ = some (.string y.name) := Y4.out.cell 0
  have y1 : w4.cell? ⟨w3.heap.size, 1, none⟩ = some (.slice a3 y.args.length c3) := Y4.out.cell 1
  have r0 : w4.cell? ⟨w.heap.size + 1, 0, none⟩ = some (.string ⟨#[]⟩) := K4.out.cell 0
  have r1 : w4.cell? ⟨w.heap.size + 1, 1, none⟩ = some (.slice none 0 0) := K4.out.cell 1
  have rf : ∀ i, w4.frozen? ⟨w.heap.size + 1, i, none⟩ = false := K4.out.frozen
  clear hb4 hb4' hd q0
  go_wp2_with fail
  refine bodyPost_ret (v := .tuple #[.agg #[.string y.name, .slice a3 y.args.length c3], .int .i64 0]) (by simp [results, Tryz.results11, go_sem, World.cell?_setCell_same, World.cell?_setCell_other, r0, r1]) rfl ?_
  rw [HY.out]
  obtain ⟨v9, h9, ⟨a9, c9, h10, hs9⟩, hb9⟩ := bk_end (c := c3) S4.out B4.out (.string y.name) (.slice a3 y.args.length c3)
  subst h10
  cases h9
  exact ⟨_, _, rfl, hs9, hb9⟩
/-- What is wrong with a name and a term. -/
def brkE (nm : ByteArray) (t : Tm) : Int := if nameB nm = true ∧ varB nm = true then combE t else 1
set_option maxHeartbeats 2000000 in
theorem bracketE_any (nm : ByteArray) (t : Tm) (hE : brkE nm t ≠ 0) (v : Value) (w : World) (X : Nat → Prop) (htv : TV w X v t) :
    Calls Tryz.prog 11 #[.string nm, v] w fun e w' => e = .returned (.tuple #[.agg #[.string ⟨#[]⟩, .slice none 0 0], .int .i64 (brkE nm t)]) ∧ Below w.heap.size w w' := by
  obtain ⟨a, c, rfl, hs⟩ := htv
  have HS : Hid (∀ w', Below w.heap.size w w' → TV w' X (.agg #[.string t.name, .slice a t.args.length c]) t) := fun w' hb => TV.later ⟨a, c, rfl, hs⟩ hb
  have HK : Hid (Blk ((w.alloc (.cells #[.string t.name, .slice a t.args.length c] 24)).alloc (.cells #[.string ⟨#[]⟩, .slice none 0 0] 24)) (w.heap.size + 1) #[.string ⟨#[]⟩, .slice none 0 0] 24) := by
    have h := Blk.new (w.alloc (.cells #[.string t.name, .slice a t.args.length c] 24)) #[.string ⟨#[]⟩, .slice none 0 0] 24
    unfold Hid
    simpa using h
  have HT : Hid (Blk ((w.alloc (.cells #[.string t.name, .slice a t.args.length c] 24)).alloc (.cells #[.string ⟨#[]⟩, .slice none 0 0] 24)) w.heap.size #[.string t.name, .slice a t.args.length c] 24) := (Blk.new w _ _).alloc _
  have HB0 : Hid (Below w.heap.size w ((w.alloc (.cells #[.string t.name, .slice a t.args.length c] 24)).alloc (.cells #[.string ⟨#[]⟩, .slice none 0 0] 24))) := below2 _ _
  have HE := hide hE
  clear hs hE
  go_enter Tryz.func11, Tryz.ntmps11
  go_wp2_with fail
  refine (isName_any nm _).mono ?_
  rintro e w0 ⟨rfl, rfl⟩
  generalize ((w.alloc (.cells #[.string t.name, .slice a t.args.length c] 24)).alloc (.cells #[.string ⟨#[]⟩, .slice none 0 0] 24)) = w0 at *
  have r0 : w0.cell? ⟨w.heap.size + 1, 0, none⟩ = some (.string ⟨#[]⟩) := HK.out.cell 0
  have r1 : w0.cell? ⟨w.heap.size + 1, 1, none⟩ = some (.slice none 0 0) := HK.out.cell 1
  have rf : ∀ i, w0.frozen? ⟨w.heap.size + 1, i, none⟩ = false := HK.out.frozen
  have rl := HK.out.lt
  cases hN : nameB nm with
  | false =>
    have HR : Hid (brkE nm t = 1) := by unfold Hid brkE; rw [if_neg (by rw [hN]; simp)]
    go_wp2_with fail
    refine bodyPost_ret (v := .tuple #[.agg #[.string ⟨#[]⟩, .slice none 0 0], .int .i64 1]) (by simp [results, Tryz.results11, go_sem, World.cell?_setCell_same, World.cell?_setCell_other, r0, r1]) rfl ?_
    rw [HR.out]
    exact ⟨rfl, (HB0.out.setCell (by simp) _).setCell (by simp) _⟩
  | true =>
    go_wp2_with fail
    refine (isVariable_all nm _).mono ?_
    rintro e w0' ⟨rfl, rfl⟩
    cases hV : varB nm with
    | false =>
      have HR : Hid (brkE nm t = 1) := by unfold Hid brkE; rw [if_neg (by rw [hV]; simp)]
      go_wp2_with fail
      refine bodyPost_ret (v := .tuple #[.agg #[.string ⟨#[]⟩, .slice none 0 0], .int .i64 1]) (by simp [results, Tryz.results11, go_sem, World.cell?_setCell_same, World.cell?_setCell_other, r0, r1]) rfl ?_
      rw [HR.out]
      exact ⟨rfl, (HB0.out.setCell (by simp) _).setCell (by simp) _⟩
    | true =>
      have HR : Hid (brkE nm t = combE t) := by unfold Hid brkE; rw [if_pos ⟨hN, hV⟩]
      have he : combE t ≠ 0 := by rw [← HR.out]; exact HE.out
      have he' : (combE t == 0) = false := by simpa using he
      have t0 : w0'.cell? ⟨w.heap.size, 0, none⟩ = some (.string t.name) := HT.out.cell 0
      have t1 : w0'.cell? ⟨w.heap.size, 1, none⟩ = some (.slice a t.args.length c) := HT.out.cell 1
      go_wp2_with fail
      refine (ccheck_any t _ _ X (by exact HS.out _ HB0.out)).mono ?_
      rintro e w1 ⟨rfl, hb1⟩
      have K1 := hide (HK.out.below hb1 HK.out.lt)
      have B1 := hide (HB0.out.trans (hb1.mono HB0.out.size))
      clear r0 r1 rf rl hb1 t0 t1
      have r0 : w1.cell? ⟨w.heap.size + 1, 0, none⟩ = some (.string ⟨#[]⟩) := K1.out.cell 0
      have r1 : w1.cell? ⟨w.heap.size + 1, 1, none⟩ = some (.slice none 0 0) := K1.out.cell 1
      have rf : ∀ i, w1.frozen? ⟨w.heap.size + 1, i, none⟩ = false := K1.out.frozen
      have rl := K1.out.lt
      obtain ⟨er, her⟩ : ∃ er, er = combE t := ⟨_, rfl⟩
      rw [← her] at he he' ⊢
      have HER := hide her
      clear her
      go_wp2_with fail
      refine bodyPost_ret (v := .tuple #[.agg #[.string ⟨#[]⟩, .slice none 0 0], .int .i64 er]) (by simp [results, Tryz.results11, go_sem, World.cell?_setCell_same, World.cell?_setCell_other, r0, r1]) rfl ?_
      rw [HR.out, ← HER.out]
      exact ⟨rfl, (B1.out.setCell (by simp) _).setCell (by simp) _⟩
end Go.Proofs.YtcdabjekppddjaaGreatDoor
