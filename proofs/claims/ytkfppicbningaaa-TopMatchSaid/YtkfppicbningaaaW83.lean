/- Walks: what stands for itself is struck out of a map. -/
import Derived.Test.YtkfppicbningaaaW82
namespace Go.Proofs.Ytkfppicbningaaa
open Go.RowKit
set_option linter.unusedSimpArgs false
set_option linter.unusedVariables false
set_option maxRecDepth 8000

/-- A binding of which something is seen. -/
def keepB (d : Bd) : Bool := !(d.t.name.toList == d.nm.toList)

theorem standsForItself_any (n : ByteArray) (t : Tm) (a : Option Addr) (c : Nat) (w : World) :
    Calls Try.prog 32 #[.string n, .agg #[.string t.name, .slice a t.args.length c]] w fun e w' => e = .returned (.bool (t.name.toList == n.toList)) ∧ Below w.heap.size w w' := by
  go_enter Try.func32, Try.ntmps32
  go_wp2_with fail
  go_ret
  exact ⟨rfl, (Below.refl _ _).alloc (Nat.le_refl _) _⟩

theorem mapGet_toP {Z : List Bc} (ha : ApartB (Z.map (·.1))) : ∀ x ∈ Z, mapGet (Z.map toP) x.1.nm = some (toP x).2 := by
  induction Z with
  | nil => intro x hx; cases hx
  | cons y r ih =>
    intro x hx
    simp only [List.map_cons] at ha ⊢
    obtain ⟨h1, h2⟩ := List.pairwise_cons.1 ha
    rcases List.mem_cons.1 hx with rfl | hx
    · simp [mapGet, toP]
    · have hne : y.1.nm ≠ x.1.nm := h1 x.1 (List.mem_map.2 ⟨x, hx, rfl⟩)
      rw [mapGet, if_neg (by simpa [toP] using hne)]
      exact ih h2 x hx
theorem delP_toP {Z : List Bc} (ha : ApartB (Z.map (·.1))) : ∀ x ∈ Z, ∃ Z' : List Bc, delP (Z.map toP) x.1.nm = Z'.map toP ∧ Z.Perm (x :: Z') := by
  induction Z with
  | nil => intro x hx; cases hx
  | cons y r ih =>
    intro x hx
    simp only [List.map_cons] at ha ⊢
    obtain ⟨h1, h2⟩ := List.pairwise_cons.1 ha
    rcases List.mem_cons.1 hx with rfl | hx
    · exact ⟨r, by simp [delP, toP], List.Perm.refl _⟩
    · have hne : y.1.nm ≠ x.1.nm := h1 x.1 (List.mem_map.2 ⟨x, hx, rfl⟩)
      obtain ⟨Z', h3, h4⟩ := ih h2 x hx
      refine ⟨y :: Z', ?_, (h4.cons y).trans (List.Perm.swap x y Z')⟩
      rw [delP, if_neg (by simpa [toP] using hne), h3]; rfl

def DfInv (w : World) (Z : List Bc) (b : Nat) (wr : World) : Prop :=
  ∃ Zc Zr K : List Bc, RangeAt wr b w.heap.size (Zc.map toP) (Zr.map toP) ∧ Zc.Perm (K ++ Zr) ∧ (K ++ Zr.filter (fun x => keepB x.1)).Perm (Z.filter fun x => keepB x.1) ∧ ApartB (Zc.map (·.1)) ∧ w.grownBy wr (some b)

set_option maxHeartbeats 1000000 in
theorem deleteFunc_any (Z : List Bc) (b : Nat) (w : World) (hM : MapAt w b (Z.map toP)) (hap : ApartB (Z.map (·.1))) :
    Calls Try.prog 31 #[.map (some b), .func (.func 32) #[] #[]] w fun e w' => e = .returned (.tuple #[]) ∧ ∃ Z' : List Bc, MapAt w' b (Z'.map toP) ∧ Z'.Perm (Z.filter fun x => keepB x.1) ∧ w.grownBy w' (some b) := by
  have hbl := hM.lt
  obtain ⟨o, hrange, hR0⟩ := hM.range (P := Try.prog) Try.underlying63
  have HR0 := hide hR0
  have HAP := hide hap
  clear hR0 hap hM
  go_enter Try.func31, Try.ntmps31
  go_wp2_with fail
  go_loopw [8] (fun _ wr => DfInv w Z b wr) (fun _ wr => leftAt wr b w.heap.size)
  case atStart =>
    exact ⟨Z, Z, [], HR0.out, List.Perm.refl _, List.Perm.refl _, HAP.out, World.grownBy_alloc w _ _⟩
  case round =>
    obtain ⟨Zc, Zr, K, hR, hP, hK, hA, hg⟩ := hrel
    have HR := hide hR
    have HP := hide hP
    have HK := hide hK
    have HA := hide hA
    have HG := hide hg
    clear hP hK hA
    rcases hR.next (P := Try.prog) 0 with ⟨he, hnx⟩ | ⟨p, rem', w1, hpm, hnx, hR1, hz1, ho1, ht1, hu1, hk1, hen⟩
    · have hZr : Zr = [] := by simpa using he
      subst hZr
      clear hR hg he
      go_wp2_with fail
      go_end0
      exact ⟨rfl, Zc, HR.out.map, HP.out.trans (by simpa using HK.out), HG.out⟩
    · obtain ⟨x, Z', hpx, rfl, rfl⟩ := next_lift hpm
      simp only [toP] at hnx hen
      have hxZ : x ∈ Zc := HP.out.symm.subset (by simp [hpx.symm.subset (List.mem_cons_self (a := x))])
      have HG1 : Hid (w.grownBy w1 (some b)) := ⟨ho1.trans hg.os, ht1.trans hg.tape, hu1.trans hg.output, by rw [hz1]; exact hg.size, fun j hj hne => (hk1 j (by omega)).trans (hg.block j hj hne)⟩
      have HR1 := hide hR1
      have hr1 := hR1.lt
      have HMS : Hid (Z'.length < Zr.length) := by have := hpx.length_eq; simp at this; unfold Hid; omega
      have HPX := hide hpx
      have HXZ := hide hxZ
      have hb1 : b < w1.heap.size := hR1.map.lt
      clear hR hg hz1 ho1 ht1 hu1 hk1 hR1 hpm hpx hxZ
      have HG2 := hide (HG1.out.andThen (World.grownBy_alloc w1 (.cells #[.string x.1.t.name, .slice x.2.1 x.1.t.args.length x.2.2] 28) none) (by simp))
      have HR2 := hide (HR1.out.below ((Below.refl _ _).alloc (Nat.le_refl _) (.cells #[.string x.1.t.name, .slice x.2.1 x.1.t.args.length x.2.2] 28)) hb1 hr1)
      go_wp2_with fail
      clear hnx hen hb1 hr1
      generalize w1.alloc (.cells #[.string x.1.t.name, .slice x.2.1 x.1.t.args.length x.2.2] 28) = w2 at *
      refine (standsForItself_any x.1.nm x.1.t x.2.1 x.2.2 w2).mono ?_
      rintro e w3 ⟨rfl, hb3⟩
      have HG3 := hide (HG2.out.andThen (World.grownBy.but ⟨hb3.os, hb3.tape, hb3.output, hb3.size, fun j hj _ => hb3.block j hj⟩ none) (by simp))
      have HR3 := hide (HR2.out.below hb3 HR2.out.map.lt HR2.out.lt)
      clear hb3
      cases hkp : (x.1.t.name.toList == x.1.nm.toList) with
      | false =>
        have HKK : Hid ((K ++ [x] ++ Z'.filter (fun x => keepB x.1)).Perm (Z.filter fun x => keepB x.1)) := by
          have h1 := (HPX.out.filter (fun x => keepB x.1))
          rw [List.filter_cons_of_pos (by simp [keepB, hkp])] at h1
          have h2 := (h1.append_left K).symm.trans HK.out
          unfold Hid
          simpa using h2
        have HPP : Hid (Zc.Perm (K ++ [x] ++ Z')) := by
          have h2 := HP.out.trans (HPX.out.append_left K)
          unfold Hid
          simpa using h2
        clear hkp
        go_wp2_with fail
        go_roundw
        case rel => exact ⟨Zc, Z', K ++ [x], HR3.out, HPP.out, HKK.out, HA.out, HG3.out⟩
        case measure =>
          rw [HR3.out.left, HR.out.left]
          have := HMS.out
          simpa using this
      | true =>
        obtain ⟨Zc', hd1, hd2⟩ := delP_toP HA.out x HXZ.out
        have hAx : ApartB ((x :: Zc').map (·.1)) := HA.out.perm (hd2.map _).symm
        have hZ'c : Zc'.Perm (K ++ Z') := by
          have h2 := hd2.symm.trans (HP.out.trans (HPX.out.append_left K))
          exact (h2.trans List.perm_middle).cons_inv
        have hne : ∀ p ∈ Z'.map toP, p.1 ≠ x.1.nm := fun p hp => by
          obtain ⟨y, hy, rfl⟩ := List.mem_map.1 hp
          have h3 : y ∈ Zc' := hZ'c.symm.subset (by simp [hy])
          simp only [List.map_cons] at hAx
          exact fun e => (List.pairwise_cons.1 hAx).1 y.1 (List.mem_map.2 ⟨y, h3, rfl⟩) e.symm
        obtain ⟨w4, hdel, hR4, hz4, ho4, ht4, hu4, hk4⟩ := HR3.out.drop (P := Try.prog) (ty := 0) Try.underlying63 Try.underlying9 x.1.nm hne _ (mapGet_toP HA.out x HXZ.out)
        rw [hd1] at hR4
        have HR4 := hide hR4
        have HG4 : Hid (w.grownBy w4 (some b)) := ⟨ho4.trans HG3.out.os, ht4.trans HG3.out.tape, hu4.trans HG3.out.output, by rw [hz4]; exact HG3.out.size, fun j hj hne => (hk4 j (fun e => hne (by rw [e]))).trans (HG3.out.block j hj hne)⟩
        have HKK : Hid ((K ++ Z'.filter (fun x => keepB x.1)).Perm (Z.filter fun x => keepB x.1)) := by
          have h1 := (HPX.out.filter (fun x => keepB x.1))
          rw [List.filter_cons_of_neg (by simp [keepB, hkp])] at h1
          exact (h1.append_left K).symm.trans HK.out
        have HPP := hide hZ'c
        have HAA : Hid (ApartB (Zc'.map (·.1))) := by
          simp only [List.map_cons] at hAx
          exact (List.pairwise_cons.1 hAx).2
        clear hkp hd1 hd2 hAx hZ'c hne hR4 hz4 ho4 ht4 hu4 hk4
        go_wp2_with fail
        go_roundw
        case rel => exact ⟨Zc', Z', K, HR4.out, HPP.out, HKK.out, HAA.out, HG4.out⟩
        case measure =>
          rw [HR4.out.left, HR.out.left]
          have := HMS.out
          simpa using this
#print axioms deleteFunc_any
end Go.Proofs.Ytkfppicbningaaa
