import Derived.Test.YtbnmlkaejdpigaaGreatDoorZTopLocalOwn
import Derived.Test.YtbnmlkaejdpigaaGreatDoorK5
namespace Go.Proofs.YtbnmlkaejdpigaaGreatDoor
open Go.RowKit
set_option linter.unusedSimpArgs false
set_option linter.unusedVariables false
set_option maxRecDepth 8000
def WkP (w : World) (S q : Nat) (X : Nat → Prop) (s : List Bd) (left : Int) (a b : Tm) (e : Ending) (w' : World) : Prop :=
 ∃ (code n : Int) (Z' : List Zp), e = .returned (.int .i64 code) ∧ SkS w' S q X Z' n ∧ (∀ z ∈ Z', errL [z.t] = 0) ∧ ExQ (SkQ S q) w w' ∧ n < left ∧ -2 ≤ n ∧ (n < 0 → code ≠ 0) ∧ (0 ≤ n → ∃ s', Clo Z' s' ∧ FR s [⟨a, b⟩] code s')
def WkI (w : World) (S q : Nat) (X : Nat → Prop) (s : List Bd) (left : Int) (b1 o1 b2 o2 : Nat) (a1 a2 : Tm) (i : Value) (wr : World) : Prop :=
 ∃ (k : Nat) (n : Int) (Z' : List Zp) (s' : List Bd), k ≤ a1.args.length ∧ i = .int .i64 (k : Int) ∧ PX wr X b1 o1 a1 ∧ PX wr X b2 o2 a2 ∧ SkS wr S q X Z' n ∧ ExQ (SkQ S q) w wr ∧ n < left ∧ 0 ≤ n ∧ Clo Z' s' ∧ FR s (zipP (a1.args.take k) (a2.args.take k)) 0 s'
set_option maxHeartbeats 4000000 in
theorem skWork_any (S q : Nat) (X : Nat → Prop) (m : Nat) : ∀ (left : Int) (Z : List Zp) (s : List Bd) (a b : Tm) (ba oa bb ob : Nat) (w : World), left.toNat = m → 0 ≤ left → left ≤ 100000 → Clo Z s → SkS w S q X Z left → PX w X ba oa a → PX w X bb ob b → errL [a] = 0 → errL [b] = 0 →
  Calls Tryz.prog 82 #[.pointer (some ⟨S, 0, none⟩), .pointer (some ⟨ba, oa, none⟩), .pointer (some ⟨bb, ob, none⟩)] w fun e w' => WkP w S q X s left a b e w' := by
 induction m using Nat.strongRecOn with
 | _ m ih =>
  intro left Z s a b ba oa bb ob w hm h0 h1 hC hS hPa hPb hea heb
  have IH := hide ih
  have HS := hide hS
  have HC := hide hC
  have HZ := hide hC.errs
  have HPA := hide hPa
  have HPB := hide hPb
  clear ih hS hPa hPb hC
  go_enter Tryz.func82, Tryz.ntmps82
  go_wp2_with fail
  refine (skLook_any S q X Z HZ.out left a ba oa w HS.out (by omega) h1 HPA.out hea).mono ?_
  rintro e w1 ⟨b1, o1, a1, n1, rfl, hS1, hP1, hE1, hn1, hn2, he1, hc1⟩
  have HS1 := hide hS1
  have HP1 := hide hP1
  have HE1 := hide hE1
  have HC1 := hide (hc1 s HC.out)
  have HPB1 := hide (HPB.out.exq hE1 hS1.X)
  clear hS1 hP1 hE1 hc1
  go_wp2_with fail
  refine (skLook_any S q X Z HZ.out n1 b bb ob w1 HS1.out (by omega) (by omega) HPB1.out heb).mono ?_
  rintro e w2 ⟨b2, o2, a2, n2, rfl, hS2, hP2, hE2, hn3, hn4, he2, hc2⟩
  have HC2 := hide (hc2 s HC.out)
  have hE3 : ExQ (SkQ S q) w2 (w2.setCell ⟨S, 1, none⟩ (.int .i64 (n2 - 1))) := (ExQ.refl (SkQ S q) w2).set (Or.inl rfl) 1 _
  have HE3 := hide ((HE1.out.trans hE2).trans hE3)
  have HS3 := hide (hS2.spend (n2 - 1))
  have HPA3 := hide ((HP1.out.exq hE2 hS2.X).exq hE3 hS2.X)
  have HPB3 := hide (hP2.exq hE3 hS2.X)
  have HSX := hide hS2.X
  have s1 : w2.cell? ⟨S, 1, none⟩ = some (.int .i64 n2) := hS2.1.cell 1
  have f1 : w2.frozen? ⟨S, 1, none⟩ = false := hS2.1.frozen 1
  have hwrap : IntKind.i64.wrap (n2 - 1) = n2 - 1 := by rw [IntKind.wrap_i64]; omega
  obtain ⟨⟨x1, c1, p0, p1, hsl1, hbl1⟩, hXb1⟩ := HPA3.out
  obtain ⟨⟨x2, c2, r0, r1, hsl2, hbl2⟩, hXb2⟩ := HPB3.out
  have hl1 := hsl1.1
  have hl2 := hsl2.1
  clear hS2 hP2 hE2 hc2 hE3 hsl1 hsl2
  by_cases hlt : n2 - 1 < 0
  ·go_wp2_with fail
   refine bodyPost_ret (v := .int .i64 8) (by simp [results, Tryz.results82, go_sem]) rfl ?_
   exact ⟨8, n2 - 1, Z, rfl, HS3.out, HZ.out, HE3.out, by omega, by omega, fun _ => by decide, fun h => absurd h (by omega)⟩
  ·have HF1 : Hid (Free s a1) := HC1.out.2 (by omega)
   have HF2 : Hid (Free s a2) := HC2.out.2 (by omega)
   have hs : OkS s := HC.out.1
   have HSS := hide hs
   clear hs
   cases hv1 : varB a1.name with
   | true =>
    go_wp2_with (go_at_call 36; refine (isVariable_all _ _).mono ?_; rintro e w9 ⟨rfl, rfl⟩; rw [hv1])
    refine (skBind_any S q X Z s HC.out a1.name (HF1.out.2 hv1) (n2 - 1) a2 b2 o2 _ (by omega) (by omega) HS3.out HPB3.out he2).mono ?_
    rintro e w5 ⟨code, n5, Z5, rfl, hS5, hZ5, hE5, hn5, hn6, hc5, hcs⟩
    have HS5 := hide hS5
    have HZ5 := hide hZ5
    have HE5 := hide (HE3.out.trans hE5)
    clear hS5 hZ5 hE5
    go_wp2_with fail
    refine bodyPost_ret (v := .int .i64 code) (by simp [results, Tryz.results82, go_sem]) rfl ?_
    refine ⟨code, n5, Z5, rfl, HS5.out, HZ5.out, HE5.out, by omega, hn6, hc5, fun h5 => ?_⟩
    rcases hcs with ⟨g1, rfl, rfl⟩ | ⟨g1, rfl, rfl, g2⟩ | ⟨g1, rfl, rfl, g2⟩
    ·exact ⟨s, HC.out, fr_same HSS.out HC1.out.1 HC2.out.1 HF1.out HF2.out hv1 g1⟩
    ·exact ⟨s, HC.out, fr_occurs HSS.out HC1.out.1 HC2.out.1 HF1.out HF2.out (Or.inl ⟨hv1, g1, g2 h5⟩)⟩
    ·exact ⟨_, HC.out.add hv1 (HF1.out.2 hv1) he2 g2 b2 o2, fr_bind HSS.out HC1.out.1 HC2.out.1 HF1.out HF2.out (Or.inl ⟨hv1, g1, rfl, rfl⟩) g2⟩
   | false =>
    cases hv2 : varB a2.name with
    | true =>
     go_wp2_with (go_at_call 36; refine (isVariable_all _ _).mono ?_; rintro e w9 ⟨rfl, rfl⟩; first | rw [hv1] | rw [hv2])
     refine (skBind_any S q X Z s HC.out a2.name (HF2.out.2 hv2) (n2 - 1) a1 b1 o1 _ (by omega) (by omega) HS3.out HPA3.out he1).mono ?_
     rintro e w5 ⟨code, n5, Z5, rfl, hS5, hZ5, hE5, hn5, hn6, hc5, hcs⟩
     have HS5 := hide hS5
     have HZ5 := hide hZ5
     have HE5 := hide (HE3.out.trans hE5)
     clear hS5 hZ5 hE5
     go_wp2_with fail
     refine bodyPost_ret (v := .int .i64 code) (by simp [results, Tryz.results82, go_sem]) rfl ?_
     refine ⟨code, n5, Z5, rfl, HS5.out, HZ5.out, HE5.out, by omega, hn6, hc5, fun h5 => ?_⟩
     rcases hcs with ⟨g1, rfl, rfl⟩ | ⟨g1, rfl, rfl, g2⟩ | ⟨g1, rfl, rfl, g2⟩
     ·rw [g1, hv2] at hv1; cases hv1
     ·exact ⟨s, HC.out, fr_occurs HSS.out HC1.out.1 HC2.out.1 HF1.out HF2.out (Or.inr ⟨hv1, hv2, g2 h5⟩)⟩
     ·exact ⟨_, HC.out.add hv2 (HF2.out.2 hv2) he1 g2 b1 o1, fr_bind HSS.out HC1.out.1 HC2.out.1 HF1.out HF2.out (Or.inr ⟨hv1, hv2, rfl, rfl⟩) g2⟩
    | false =>
     have HS0 := hide (And.intro p0 (And.intro p1 (And.intro r0 r1)))
     cases hnn : (a1.name.toList == a2.name.toList) with
     | false =>
      have hne : a1.name ≠ a2.name := fun e => by rw [e] at hnn; simp at hnn
      go_wp2_with (go_at_call 36; refine (isVariable_all _ _).mono ?_; rintro e w9 ⟨rfl, rfl⟩; first | rw [hv1] | rw [hv2])
      generalize w2.setCell ⟨S, 1, none⟩ (.int .i64 (n2 - 1)) = w3 at *
      refine wp_region_held_drew (S := (fun w' => w'.cell? ⟨b1, o1, none⟩ = some (.string a1.name) ∧ w'.cell? ⟨b1, o1 + 1, none⟩ = some (.slice x1 a1.args.length c1) ∧ w'.cell? ⟨b2, o2, none⟩ = some (.string a2.name) ∧ w'.cell? ⟨b2, o2 + 1, none⟩ = some (.slice x2 a2.args.length c2))) (by kernel_rfl) HS0.out (fun hHeld => ?_)
      refine tkq (v := ?_) 0 rfl ?_ ?_
      rotate_left
      ·intro w' hSw
       obtain ⟨k1, k2, k3, k4⟩ := hSw
       go_simp <;> with_reducible rfl
      try simp only [Act.put, sq]
      refine tkq (v := ?_) 1 rfl ?_ ?_
      rotate_left
      ·intro w' hSw
       obtain ⟨k1, k2, k3, k4⟩ := hSw
       go_simp <;> with_reducible rfl
      try simp only [Act.put, sq]
      refine tkq (v := ?_) 2 rfl ?_ ?_
      rotate_left
      ·intro w' hSw
       obtain ⟨k1, k2, k3, k4⟩ := hSw
       go_simp <;> with_reducible rfl
      try simp only [Act.put, sq]
      refine tkq (v := ?_) 3 rfl ?_ ?_
      rotate_left
      ·intro w' hSw
       obtain ⟨k1, k2, k3, k4⟩ := hSw
       go_simp <;> with_reducible rfl
      try simp only [Act.put, sq]
      refine tkq (v := ?_) 4 rfl ?_ ?_
      rotate_left
      ·intro w' hSw
       obtain ⟨k1, k2, k3, k4⟩ := hSw
       go_simp <;> with_reducible rfl
      try simp only [Act.put, sq]
      refine tkq (v := ?_) 5 rfl ?_ ?_
      rotate_left
      ·intro w' hSw
       obtain ⟨k1, k2, k3, k4⟩ := hSw
       go_simp <;> with_reducible rfl
      try simp only [Act.put, sq]
      refine tkq (v := ?_) 6 rfl ?_ ?_
      rotate_left
      ·intro w' hSw
       obtain ⟨k1, k2, k3, k4⟩ := hSw
       go_simp <;> with_reducible rfl
      try simp only [Act.put, sq]
      refine tkq (v := ?_) 7 rfl ?_ ?_
      rotate_left
      ·intro w' hSw
       obtain ⟨k1, k2, k3, k4⟩ := hSw
       go_simp <;> with_reducible rfl
      try simp only [Act.put, sq]
      refine tkq (v := ?_) 8 rfl ?_ ?_
      rotate_left
      ·intro w' hSw
       obtain ⟨k1, k2, k3, k4⟩ := hSw
       go_simp <;> with_reducible rfl
      try simp only [Act.put, sq]
      refine tkq (v := ?_) 9 rfl ?_ ?_
      rotate_left
      ·intro w' hSw
       obtain ⟨k1, k2, k3, k4⟩ := hSw
       go_simp <;> with_reducible rfl
      try simp only [Act.put, sq]
      refine wpAnyH_take (i := 10) (v := undef) rfl (by kernel_rfl) (by kernel_rfl) (by kernel_rfl) (fun _ _ _ h => h) (Or.inr ⟨by rfl, rfl⟩) (by assumption) ?_
      try simp only [Act.put, sq]
      refine wpAnyH_take (i := 11) (v := undef) rfl (by kernel_rfl) (by kernel_rfl) (by kernel_rfl) (fun _ _ _ h => h) (Or.inr ⟨by rfl, rfl⟩) (by assumption) ?_
      try simp only [Act.put, sq]
      refine wpAnyH_take (i := 12) (v := undef) rfl (by kernel_rfl) (by kernel_rfl) (by kernel_rfl) (fun _ _ _ h => h) (Or.inr ⟨by rfl, rfl⟩) (by assumption) ?_
      try simp only [Act.put, sq]
      refine wpAnyH_take (i := 13) (v := undef) rfl (by kernel_rfl) (by kernel_rfl) (by kernel_rfl) (fun _ _ _ h => h) (Or.inr ⟨by rfl, rfl⟩) (by assumption) ?_
      try simp only [Act.put, sq]
      refine wpAnyH_take (i := 14) (v := undef) rfl (by kernel_rfl) (by kernel_rfl) (by kernel_rfl) (fun _ _ _ h => h) (Or.inr ⟨by rfl, rfl⟩) (by assumption) ?_
      try simp only [Act.put, sq]
      refine wpAnyH_take (i := 15) (v := undef) rfl (by kernel_rfl) (by kernel_rfl) (by kernel_rfl) (fun _ _ _ h => h) (Or.inr ⟨by rfl, rfl⟩) (by assumption) ?_
      try simp only [Act.put, sq]
      refine wpAnyH_take (i := 16) (v := undef) rfl (by kernel_rfl) (by kernel_rfl) (by kernel_rfl) (fun _ _ _ h => h) (Or.inr ⟨by rfl, rfl⟩) (by assumption) ?_
      try simp only [Act.put, sq]
      refine wpAnyH_take (i := 17) (v := undef) rfl (by kernel_rfl) (by kernel_rfl) (by kernel_rfl) (fun _ _ _ h => h) (Or.inr ⟨by rfl, rfl⟩) (by assumption) ?_
      try simp only [Act.put, sq]
      refine wpAnyH_take (i := 18) (v := undef) rfl (by kernel_rfl) (by kernel_rfl) (by kernel_rfl) (fun _ _ _ h => h) (Or.inr ⟨by rfl, rfl⟩) (by assumption) ?_
      try simp only [Act.put, sq]
      refine wpAnyH_take (i := 19) (v := undef) rfl (by kernel_rfl) (by kernel_rfl) (by kernel_rfl) (fun _ _ _ h => h) (Or.inr ⟨by rfl, rfl⟩) (by assumption) ?_
      try simp only [Act.put, sq]
      refine wpAnyH_take (i := 20) (v := undef) rfl (by kernel_rfl) (by kernel_rfl) (by kernel_rfl) (fun _ _ _ h => h) (Or.inr ⟨by rfl, rfl⟩) (by assumption) ?_
      try simp only [Act.put, sq]
      refine tkq (v := ?_) 21 rfl ?_ ?_
      rotate_left
      ·intro w' hSw
       obtain ⟨k1, k2, k3, k4⟩ := hSw
       go_simp <;> with_reducible rfl
      try simp only [Act.put, sq]
      refine tkq (v := ?_) 22 rfl ?_ ?_
      rotate_left
      ·intro w' hSw
       obtain ⟨k1, k2, k3, k4⟩ := hSw
       go_simp <;> with_reducible rfl
      try simp only [Act.put, sq]
      refine wpAnyH_done (by kernel_rfl) ?_ _
      go_wp2_with fail
      refine bodyPost_ret (v := .int .i64 5) (by simp [results, Tryz.results82, go_sem]) rfl ?_
      exact ⟨5, n2 - 1, Z, rfl, HS3.out.later ((Below.refl _ _).drew), HZ.out, HE3.out.drew, by omega, by omega, fun _ => by decide, fun _ => ⟨s, HC.out, fr_clash HSS.out HC1.out.1 HC2.out.1 hv1 hv2 (fun h => hne h.1)⟩⟩
     | true =>
      have hne : a1.name = a2.name := bytes_inj (by simpa using hnn)
      by_cases hm : a1.args.length = a2.args.length
      case neg =>
       have hm2 : ((a1.args.length : Int) == (a2.args.length : Int)) = false := beq_eq_false_iff_ne.2 (by omega)
       have hm3 : ((a1.args.length : Int) != (a2.args.length : Int)) = true := by simp [bne, hm2]
       have HM := hide hm
       clear hm
       go_wp2_with (go_at_call 36; refine (isVariable_all _ _).mono ?_; rintro e w9 ⟨rfl, rfl⟩; first | rw [hv1] | rw [hv2])
       generalize w2.setCell ⟨S, 1, none⟩ (.int .i64 (n2 - 1)) = w3 at *
       go_region_held3 (fun w' => w'.cell? ⟨b1, o1, none⟩ = some (.string a1.name) ∧ w'.cell? ⟨b1, o1 + 1, none⟩ = some (.slice x1 a1.args.length c1) ∧ w'.cell? ⟨b2, o2, none⟩ = some (.string a2.name) ∧ w'.cell? ⟨b2, o2 + 1, none⟩ = some (.slice x2 a2.args.length c2)) (first | exact HS0.out | go_keep) (fail)
       go_wp2_with fail
       refine bodyPost_ret (v := .int .i64 5) (by simp [results, Tryz.results82, go_sem]) rfl ?_
       exact ⟨5, n2 - 1, Z, rfl, HS3.out.later ((Below.refl _ _).drew), HZ.out, HE3.out.drew, by omega, by omega, fun _ => by decide, fun _ => ⟨s, HC.out, fr_clash HSS.out HC1.out.1 HC2.out.1 hv1 hv2 (fun h => HM.out h.2)⟩⟩
      case pos =>
       have HLM := hide hm
       rw [← hm] at r1 hl2 HS0
       clear hm
       go_wp2_with (go_at_call 36; refine (isVariable_all _ _).mono ?_; rintro e w9 ⟨rfl, rfl⟩; first | rw [hv1] | rw [hv2])
       generalize w2.setCell ⟨S, 1, none⟩ (.int .i64 (n2 - 1)) = w3 at *
       go_region_held3 (fun w' => w'.cell? ⟨b1, o1, none⟩ = some (.string a1.name) ∧ w'.cell? ⟨b1, o1 + 1, none⟩ = some (.slice x1 a1.args.length c1) ∧ w'.cell? ⟨b2, o2, none⟩ = some (.string a2.name) ∧ w'.cell? ⟨b2, o2 + 1, none⟩ = some (.slice x2 a1.args.length c2)) (first | exact HS0.out | go_keep) (fail)
       have HEA := hide (err_sub he1)
       have HEB := hide (err_sub he2)
       go_wp2_with fail
       go_loopw [82] (fun i wr => WkI w S q X s left b1 o1 b2 o2 a1 a2 i wr) (fun i wr => a1.args.length - (intOf i).toNat)
       case atStart => exact ⟨0, n2 - 1, Z, s, Nat.zero_le _, rfl, HPA3.out.exq ((ExQ.refl (SkQ S q) _).drew) HSX.out, HPB3.out.exq ((ExQ.refl (SkQ S q) _).drew) HSX.out, HS3.out.later ((Below.refl _ _).drew), HE3.out.drew, by omega, by omega, HC.out, by simpa [zipP] using FR.done s⟩
       case round =>
        obtain ⟨k, n3, Z3, s3, hk, rfl, hA3, hB3, hS4, hE4, hn5, hn6, hC3, hF3⟩ := hrel
        have HA4 := hide hA3
        have HB4 := hide hB3
        have HS4 := hide hS4
        have HE4 := hide hE4
        have HC4 := hide hC3
        have HF4 := hide hF3
        obtain ⟨y1, d1, q1, _, hsub1⟩ := hA3.sub
        obtain ⟨y2, d2, q2, _, hsub2⟩ := hB3.sub
        rw [← HLM.out] at q2
        have hlb1 := hA3.1.lt
        have hlb2 := hB3.1.lt
        have hXb1' := hA3.2
        have hXb2' := hB3.2
        clear hA3 hB3 hS4 hE4 hC3 hF3 p0 p1 r0 r1 HS0
        by_cases hlk : k < a1.args.length
        ·have hltm : k < a2.args.length := by have := HLM.out; omega
         have hk2 : (k : Int) < (a1.args.length : Int) := by omega
         obtain ⟨b1', o1', rfl, hx1⟩ := hsub1 k hlk
         obtain ⟨b2', o2', rfl, hx2⟩ := hsub2 k hltm
         have HSq := hide (And.intro q1 q2)
         have hD : Below wr.heap.size wr wr.drew := (Below.refl _ _).drew
         have HIH := hide (IH.out n3.toNat (by omega) n3 Z3 s3 a1.args[k] a2.args[k] b1' (o1' + k * 2) b2' (o2' + k * 2) wr.drew rfl hn6 (by omega) HC4.out (HS4.out.later hD) (hx1.exq (ExQ.ofBelow (Q := SkQ S q) hD) HSX.out) (hx2.exq (ExQ.ofBelow (Q := SkQ S q) hD) HSX.out) (err_at HEA.out k hlk) (err_at HEB.out k hltm))
         have HKP : Hid (∀ w5, ExQ (SkQ S q) wr.drew w5 → w5.cell? ⟨b1, o1 + 1, none⟩ = some (.slice (some ⟨b1', o1', none⟩) a1.args.length d1) ∧ w5.cell? ⟨b2, o2 + 1, none⟩ = some (.slice (some ⟨b2', o2', none⟩) a1.args.length d2)) := fun w5 h5 => ⟨(World.cell?_of_block (h5.block b1 hlb1 (HSX.out _ hXb1'))).trans HSq.out.1, (World.cell?_of_block (h5.block b2 hlb2 (HSX.out _ hXb2'))).trans HSq.out.2⟩
         clear hsub1 hsub2 hx1 hx2 hD
         go_wp2_with fail
         go_region_held3 (fun w' => w'.cell? ⟨b1, o1 + 1, none⟩ = some (.slice (some ⟨b1', o1', none⟩) a1.args.length d1) ∧ w'.cell? ⟨b2, o2 + 1, none⟩ = some (.slice (some ⟨b2', o2', none⟩) a1.args.length d2)) (first | exact HSq.out | exact hS5' | go_keep)
          ((go_at_call 82; refine HIH.out.mono ?_; rintro e w5 ⟨code, n5, Z5, rfl, hS5, hZ5, hE5, hn7, hn8, hc5, hr5⟩; have hS5' := HKP.out w5 hE5))
         have HS5 := hide hS5
         have HZ5 := hide hZ5
         have HE5 := hide ((HE4.out.drew).trans hE5)
         have HA5 := hide ((HA4.out.exq ((ExQ.refl (SkQ S q) _).drew) HSX.out).exq hE5 HSX.out)
         have HB5 := hide ((HB4.out.exq ((ExQ.refl (SkQ S q) _).drew) HSX.out).exq hE5 HSX.out)
         have HR5 := hide hr5
         clear hS5 hZ5 hE5 hr5 hS5'
         by_cases hcd : code = 0
         ·subst hcd
          have hn9 : 0 ≤ n5 := by
           by_cases h : n5 < 0
           ·exact absurd rfl (hc5 h)
           ·omega
          obtain ⟨s5, hC5, hF5⟩ := HR5.out hn9
          have HC5 := hide hC5
          have HF5 := hide (fr_next hlk hltm HF4.out hF5)
          clear hC5 hF5
          go_wp2_with fail
          go_roundw
          case rel => exact ⟨k + 1, n5, Z5, s5, by omega, by go_num, HA5.out, HB5.out, HS5.out, HE5.out, by omega, hn9, HC5.out, HF5.out⟩
          case measure => simp [intOf]; omega
         ·have hcd2 : (code == 0) = false := beq_eq_false_iff_ne.2 hcd
          have hcd3 : (code != 0) = true := by simp [bne, hcd2]
          have HCD := hide hcd
          go_wp2_with fail
          refine bodyPost_ret (v := .int .i64 code) (by simp [results, Tryz.results82, go_sem]) rfl ?_
          refine ⟨code, n5, Z5, rfl, HS5.out, HZ5.out, HE5.out, by omega, hn8, fun _ => HCD.out, fun h5 => ?_⟩
          obtain ⟨s5, hC5, hF5⟩ := HR5.out h5
          exact ⟨s5, hC5, fr_deep HSS.out HC1.out.1 HC2.out.1 he1 he2 hv1 hv2 hne HLM.out (fr_fail (k + 1) HCD.out (fr_next hlk hltm HF4.out hF5))⟩
        ·clear hsub1 hsub2
         go_wp2_with fail
         refine bodyPost_ret (v := .int .i64 0) (by simp [results, Tryz.results82, go_sem]) rfl ?_
         refine ⟨0, n3, Z3, rfl, HS4.out, HC4.out.errs, HE4.out, by omega, by omega, fun h => absurd h (by omega), fun _ => ⟨s3, HC4.out, fr_deep HSS.out HC1.out.1 HC2.out.1 he1 he2 hv1 hv2 hne HLM.out ?_⟩⟩
         have h6 := HF4.out
         rwa [List.take_of_length_le (by omega), List.take_of_length_le (by have := HLM.out; omega)] at h6
end Go.Proofs.YtbnmlkaejdpigaaGreatDoor
