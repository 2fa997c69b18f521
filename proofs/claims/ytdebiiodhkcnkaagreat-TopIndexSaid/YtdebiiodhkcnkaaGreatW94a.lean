import Derived.Test.YtdebiiodhkcnkaaGreatZTopIndexOwn
import Derived.Test.YtdebiiodhkcnkaaGreatShp
import Derived.Test.YtdebiiodhkcnkaaGreatW91
namespace Go.Proofs.YtdebiiodhkcnkaaGreat
open Go.RowKit
set_option linter.unusedSimpArgs false
set_option linter.unusedVariables false
set_option maxRecDepth 8000
def PtT (w : World) (X : Nat → Prop) (b o : Nat) (t : Tm) : Prop := ∃ a c, w.cell? ⟨b, o, none⟩ = some (.string t.name) ∧ w.cell? ⟨b, o + 1, none⟩ = some (.slice a t.args.length c) ∧ Sl w X a t.args ∧ b < w.heap.size
theorem PtT.later {w w' : World} {X : Nat → Prop} {b o : Nat} {t : Tm} (h : PtT w X b o t) (hb : Below w.heap.size w w') : PtT w' X b o t := by
 obtain ⟨a, c, h1, h2, h3, h4⟩ := h
 exact ⟨a, c, (hb.cell (p := ⟨b, o, none⟩) h4).trans h1, (hb.cell (p := ⟨b, o + 1, none⟩) h4).trans h2, h3.later hb, Nat.lt_of_lt_of_le h4 hb.size⟩
theorem PtT.lt {w : World} {X : Nat → Prop} {b o : Nat} {t : Tm} (h : PtT w X b o t) : b < w.heap.size := by
 obtain ⟨a, c, h1, h2, h3, h4⟩ := h
 exact h4
theorem PtT.sub {w : World} {X : Nat → Prop} {b o : Nat} {t : Tm} (h : PtT w X b o t) : ∃ a c, w.cell? ⟨b, o + 1, none⟩ = some (.slice a t.args.length c) ∧ ∀ k (hk : k < t.args.length), ∃ b' o', a = some ⟨b', o', none⟩ ∧ PtT w X b' (o' + k * 2) t.args[k] := by
 obtain ⟨a, c, h1, h2, h3, h4⟩ := h
 refine ⟨a, c, h2, fun k hk => ?_⟩
 obtain ⟨b', o', a', c', rfl, d0, d1, hx⟩ := h3.get (Below.refl _ _) (fun _ _ h => h) k hk
 obtain ⟨a2, c2, e2, hx⟩ := hx
 cases e2
 exact ⟨b', o', rfl, a', c', d0, d1, hx, cell_lt d0⟩
def ShInv (w : World) (l m : List Tm) (i : Value) (wr : World) : Prop :=
 ∃ k : Nat, k ≤ l.length ∧ i = .int .i64 (k : Int) ∧ (∀ j (h : j < l.length) (h2 : j < m.length), j < k → shT l[j] m[j] = true) ∧ Below w.heap.size w wr
set_option maxHeartbeats 1000000 in
theorem isShaped_any (X : Nat → Prop) (p : Tm) : ∀ (t : Tm) (b o b2 o2 : Nat) (w : World), PtT w X b o p → PtT w X b2 o2 t →
  Calls Tryz.prog 50 #[.pointer (some ⟨b, o, none⟩), .pointer (some ⟨b2, o2, none⟩)] w fun e w' => e = .returned (.bool (shT p t)) ∧ Below w.heap.size w w' := by
 induction p using Tm.ind with
 | h s l ih =>
  intro t b o b2 o2 w hp ht
  obtain ⟨s2, m⟩ := t
  have IH := hide ih
  have HP := hide hp
  have HT := hide ht
  obtain ⟨a, c, p0, p1, hs, hbl⟩ := hp
  obtain ⟨a2, c2, t0, t1, hs2, hbl2⟩ := ht
  dsimp only at p0 p1 hs t0 t1 hs2 ⊢
  have hl := hs.1
  have hl2 := hs2.1
  clear ih hs hs2
  cases hvb : varB s with
  | true =>
   have HR := hide (shT_var (l := l) (t := ⟨s2, m⟩) hvb)
   go_enter Tryz.func50, Tryz.ntmps50
   go_wp2_with (go_at_call 52; refine (isVariable_all _ _).mono ?_; rintro e w ⟨rfl, rfl⟩; rw [hvb])
   refine bodyPost_ret (v := .bool true) (by simp [results, Tryz.results50, go_sem]) rfl ?_
   exact ⟨by rw [HR.out], Below.refl _ _⟩
  | false =>
   have HVB := hide hvb
   cases hn : (s.toList == s2.toList) with
   | false =>
    have HR : Hid (shT ⟨s, l⟩ ⟨s2, m⟩ = false) := by unfold Hid; rw [shT_deep hvb, hn]; rfl
    go_enter Tryz.func50, Tryz.ntmps50
    have HS0 := hide (And.intro p0 (And.intro p1 (And.intro t0 t1)))
    go_wp2_with (go_at_call 52; refine (isVariable_all _ _).mono ?_; rintro e w ⟨rfl, rfl⟩; rw [hvb])
    refine wp_region_held_drew (S := fun w' => w'.cell? ⟨b, o, none⟩ = some (.string s) ∧ w'.cell? ⟨b, o + 1, none⟩ = some (.slice a l.length c) ∧ w'.cell? ⟨b2, o2, none⟩ = some (.string s2) ∧ w'.cell? ⟨b2, o2 + 1, none⟩ = some (.slice a2 m.length c2)) (by kernel_rfl) HS0.out (fun hHeld => ?_)
    refine tkq (v := ?_) 0 rfl ?_ ?_
    rotate_left
    ·intro w' hSw
     obtain ⟨k1, k2, k3, k4⟩ := hSw
     go_simp <;> with_reducible rfl
    try simp only [Act.put, sq]
    refine tkq (v := ?_) 1 rfl ?_ ?_
    rotate_left
    ·intro w' hSw
     obtain ⟨k1, k2, k3, k4⟩ := hSw
     go_simp <;> with_reducible rfl
    try simp only [Act.put, sq]
    refine tkq (v := ?_) 2 rfl ?_ ?_
    rotate_left
    ·intro w' hSw
     obtain ⟨k1, k2, k3, k4⟩ := hSw
     go_simp <;> with_reducible rfl
    try simp only [Act.put, sq]
    refine tkq (v := ?_) 3 rfl ?_ ?_
    rotate_left
    ·intro w' hSw
     obtain ⟨k1, k2, k3, k4⟩ := hSw
     go_simp <;> with_reducible rfl
    try simp only [Act.put, sq]
    refine tkq (v := ?_) 4 rfl ?_ ?_
    rotate_left
    ·intro w' hSw
     obtain ⟨k1, k2, k3, k4⟩ := hSw
     go_simp <;> with_reducible rfl
    try simp only [Act.put, sq]
    refine tkq (v := ?_) 5 rfl ?_ ?_
    rotate_left
    ·intro w' hSw
     obtain ⟨k1, k2, k3, k4⟩ := hSw
     go_simp <;> with_reducible rfl
    try simp only [Act.put, sq]
    refine tkq (v := ?_) 6 rfl ?_ ?_
    rotate_left
    ·intro w' hSw
     obtain ⟨k1, k2, k3, k4⟩ := hSw
     go_simp <;> with_reducible rfl
    try simp only [Act.put, sq]
    refine tkq (v := ?_) 7 rfl ?_ ?_
    rotate_left
    ·intro w' hSw
     obtain ⟨k1, k2, k3, k4⟩ := hSw
     go_simp <;> with_reducible rfl
    try simp only [Act.put, sq]
    refine tkq (v := ?_) 8 rfl ?_ ?_
    rotate_left
    ·intro w' hSw
     obtain ⟨k1, k2, k3, k4⟩ := hSw
     go_simp <;> with_reducible rfl
    try simp only [Act.put, sq]
    refine tkq (v := ?_) 9 rfl ?_ ?_
    rotate_left
    ·intro w' hSw
     obtain ⟨k1, k2, k3, k4⟩ := hSw
     go_simp <;> with_reducible rfl
    try simp only [Act.put, sq]
    refine wpAnyH_take (i := 10) (v := undef) rfl (by kernel_rfl) (by kernel_rfl) (by kernel_rfl) (fun _ _ _ h => h) (Or.inr ⟨by rfl, rfl⟩) (by assumption) ?_
    try simp only [Act.put, sq]
    refine wpAnyH_take (i := 11) (v := undef) rfl (by kernel_rfl) (by kernel_rfl) (by kernel_rfl) (fun _ _ _ h => h) (Or.inr ⟨by rfl, rfl⟩) (by assumption) ?_
    try simp only [Act.put, sq]
    refine wpAnyH_take (i := 12) (v := undef) rfl (by kernel_rfl) (by kernel_rfl) (by kernel_rfl) (fun _ _ _ h => h) (Or.inr ⟨by rfl, rfl⟩) (by assumption) ?_
    try simp only [Act.put, sq]
    refine wpAnyH_take (i := 13) (v := undef) rfl (by kernel_rfl) (by kernel_rfl) (by kernel_rfl) (fun _ _ _ h => h) (Or.inr ⟨by rfl, rfl⟩) (by assumption) ?_
    try simp only [Act.put, sq]
    refine wpAnyH_take (i := 14) (v := undef) rfl (by kernel_rfl) (by kernel_rfl) (by kernel_rfl) (fun _ _ _ h => h) (Or.inr ⟨by rfl, rfl⟩) (by assumption) ?_
    try simp only [Act.put, sq]
    refine wpAnyH_take (i := 15) (v := undef) rfl (by kernel_rfl) (by kernel_rfl) (by kernel_rfl) (fun _ _ _ h => h) (Or.inr ⟨by rfl, rfl⟩) (by assumption) ?_
    try simp only [Act.put, sq]
    refine wpAnyH_take (i := 16) (v := undef) rfl (by kernel_rfl) (by kernel_rfl) (by kernel_rfl) (fun _ _ _ h => h) (Or.inr ⟨by rfl, rfl⟩) (by assumption) ?_
    try simp only [Act.put, sq]
    refine wpAnyH_take (i := 17) (v := undef) rfl (by kernel_rfl) (by kernel_rfl) (by kernel_rfl) (fun _ _ _ h => h) (Or.inr ⟨by rfl, rfl⟩) (by assumption) ?_
    try simp only [Act.put, sq]
    refine wpAnyH_take (i := 18) (v := undef) rfl (by kernel_rfl) (by kernel_rfl) (by kernel_rfl) (fun _ _ _ h => h) (Or.inr ⟨by rfl, rfl⟩) (by assumption) ?_
    try simp only [Act.put, sq]
    refine wpAnyH_take (i := 19) (v := undef) rfl (by kernel_rfl) (by kernel_rfl) (by kernel_rfl) (fun _ _ _ h => h) (Or.inr ⟨by rfl, rfl⟩) (by assumption) ?_
    try simp only [Act.put, sq]
    refine wpAnyH_take (i := 20) (v := undef) rfl (by kernel_rfl) (by kernel_rfl) (by kernel_rfl) (fun _ _ _ h => h) (Or.inr ⟨by rfl, rfl⟩) (by assumption) ?_
    try simp only [Act.put, sq]
    refine tkq (v := ?_) 21 rfl ?_ ?_
    rotate_left
    ·intro w' hSw
     obtain ⟨k1, k2, k3, k4⟩ := hSw
     go_simp <;> with_reducible rfl
    try simp only [Act.put, sq]
    refine wpAnyH_done (by kernel_rfl) ?_ _
    go_wp2_with fail
    refine bodyPost_ret (v := .bool false) (by simp [results, Tryz.results50, go_sem]) rfl ?_
    exact ⟨by rw [HR.out], (Below.refl _ _).drew⟩
   | true =>
    by_cases hm : l.length = m.length
    case neg =>
     have HR : Hid (shT ⟨s, l⟩ ⟨s2, m⟩ = false) := by unfold Hid; rw [shT_deep hvb, hn]; simp [hm]
     have hm2 : ((l.length : Int) == (m.length : Int)) = false := beq_eq_false_iff_ne.2 (by omega)
     have hm3 : ((l.length : Int) != (m.length : Int)) = true := by simp [bne, hm2]
     clear hm
     go_enter Tryz.func50, Tryz.ntmps50
     have HS0 := hide (And.intro p0 (And.intro p1 (And.intro t0 t1)))
     go_wp2_with (go_at_call 52; refine (isVariable_all _ _).mono ?_; rintro e w ⟨rfl, rfl⟩; rw [hvb])
     go_region_held3 (fun w' => w'.cell? ⟨b, o, none⟩ = some (.string s) ∧ w'.cell? ⟨b, o + 1, none⟩ = some (.slice a l.length c) ∧ w'.cell? ⟨b2, o2, none⟩ = some (.string s2) ∧ w'.cell? ⟨b2, o2 + 1, none⟩ = some (.slice a2 m.length c2)) (first | exact HS0.out | go_keep) (fail)
     go_wp2_with fail
     refine bodyPost_ret (v := .bool false) (by simp [results, Tryz.results50, go_sem]) rfl ?_
     exact ⟨by rw [HR.out], (Below.refl _ _).drew⟩
    case pos =>
     have HR : Hid (shT ⟨s, l⟩ ⟨s2, m⟩ = shL l m) := by unfold Hid; rw [shT_deep hvb, hn]; simp [hm]
     have HLM := hide hm
     rw [← hm] at t1 hl2
     clear hm
     go_enter Tryz.func50, Tryz.ntmps50
     have HS0 := hide (And.intro p0 (And.intro p1 (And.intro t0 t1)))
     go_wp2_with (go_at_call 52; refine (isVariable_all _ _).mono ?_; rintro e w ⟨rfl, rfl⟩; rw [hvb])
     go_region_held3 (fun w' => w'.cell? ⟨b, o, none⟩ = some (.string s) ∧ w'.cell? ⟨b, o + 1, none⟩ = some (.slice a l.length c) ∧ w'.cell? ⟨b2, o2, none⟩ = some (.string s2) ∧ w'.cell? ⟨b2, o2 + 1, none⟩ = some (.slice a2 l.length c2)) (first | exact HS0.out | go_keep) (fail)
     go_wp2_with fail
     go_loopw [38] (fun i wr => ShInv w l m i wr) (fun i wr => l.length - (intOf i).toNat)
     case atStart => exact ⟨0, Nat.zero_le _, rfl, fun j _ _ h => absurd h (by omega), (Below.refl _ _).drew⟩
     case round =>
      obtain ⟨k, hk, rfl, hT, hB⟩ := hrel
      have HTK := hide hT
      have HB := hide hB
      have HPK := hide (HP.out.later hB)
      have HTT := hide (HT.out.later hB)
      clear hT hB
      by_cases hlt : k < l.length
      ·have hltm : k < m.length := by have := HLM.out; omega
       obtain ⟨a', c', q1, hsub⟩ := HPK.out.sub
       obtain ⟨b', o', rfl, hx⟩ := hsub k hlt
       obtain ⟨a2', c2', r1, hsub2⟩ := HTT.out.sub
       obtain ⟨b2', o2', rfl, hx2⟩ := hsub2 k hltm
       dsimp only at q1 r1 hx hx2
       rw [← HLM.out] at r1
       have hk2 : (k : Int) < (l.length : Int) := by omega
       have HS1 := hide (And.intro q1 r1)
       have HI : Hid (Calls Tryz.prog 50 #[.pointer (some ⟨b', o' + k * 2, none⟩), .pointer (some ⟨b2', o2' + k * 2, none⟩)] wr.drew fun e w' => e = .returned (.bool (shT l[k] m[k])) ∧ Below wr.drew.heap.size wr.drew w') := IH.out l[k] (List.getElem_mem hlt) m[k] b' (o' + k * 2) b2' (o2' + k * 2) wr.drew (hx.later ((Below.refl _ _).drew)) (hx2.later ((Below.refl _ _).drew))
       have HNO := hide (fun h0 => shL_no HLM.out hlt hltm h0)
       have HNX : Hid (shT l[k] m[k] = true → ∀ j (h : j < l.length) (h2 : j < m.length), j < k + 1 → shT l[j] m[j] = true) := fun h0 j h h2 hj => by
        by_cases e : j = k
        ·subst e; exact h0
        ·exact HTK.out j h h2 (by omega)
       have hkp : ∀ w5, Below wr.drew.heap.size wr.drew w5 → w5.cell? ⟨b, o + 1, none⟩ = some (.slice (some ⟨b', o', none⟩) l.length c') ∧ w5.cell? ⟨b2, o2 + 1, none⟩ = some (.slice (some ⟨b2', o2', none⟩) l.length c2') := fun w5 h5 => ⟨(h5.cell (p := ⟨b, o + 1, none⟩) (HPK.out.lt)).trans HS1.out.1, (h5.cell (p := ⟨b2, o2 + 1, none⟩) (HTT.out.lt)).trans HS1.out.2⟩
       have HKP := hide hkp
       clear hsub hsub2 hx hx2 hkp
       generalize shT l[k] m[k] = y at *
       go_wp2_with fail
       go_region_held3 (fun w' => w'.cell? ⟨b, o + 1, none⟩ = some (.slice (some ⟨b', o', none⟩) l.length c') ∧ w'.cell? ⟨b2, o2 + 1, none⟩ = some (.slice (some ⟨b2', o2', none⟩) l.length c2')) (first | exact HS1.out | exact hS5 | go_keep)
        ((go_at_call 50; refine HI.out.mono ?_; rintro e w5 ⟨rfl, hb5⟩; have hS5 := HKP.out w5 hb5))
       have HB5 := hide (HB.out.trans (((Below.refl _ _).drew.trans hb5).mono HB.out.size))
       clear hb5 hS5
       cases y with
       | false =>
        have HF := hide (HR.out.trans (HNO.out rfl))
        go_wp2_with fail
        refine bodyPost_ret (v := .bool false) (by simp [results, Tryz.results50, go_sem]) rfl ?_
        exact ⟨by rw [HF.out], HB5.out⟩
       | true =>
        go_wp2_with fail
        go_roundw
        case rel => exact ⟨k + 1, by omega, by go_num, HNX.out rfl, HB5.out⟩
        case measure => simp [intOf]; omega
      ·have HF : Hid (shT ⟨s, l⟩ ⟨s2, m⟩ = true) := by
        unfold Hid
        rw [HR.out, shL_iff l m HLM.out]
        exact fun j h h2 => HTK.out j h h2 (by omega)
       go_wp2_with fail
       refine bodyPost_ret (v := .bool true) (by simp [results, Tryz.results50, go_sem]) rfl ?_
       exact ⟨by rw [HF.out], HB.out⟩
end Go.Proofs.YtdebiiodhkcnkaaGreat
