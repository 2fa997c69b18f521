/- Walks: comb.From, and the law CombFrom. -/
import Derived.Test.YtcdabjekppddjaaGreatDoorCf4
import Derived.Test.YtcdabjekppddjaaGreatDoorW11
namespace Go.Proofs.YtcdabjekppddjaaGreatDoor
open Go.RowKit
set_option linter.unusedSimpArgs false
set_option linter.unusedVariables false
set_option maxRecDepth 8000

theorem Tb.up {B B' : Nat} {w w' : World} (h : Tb B w) (hb : Below B w w') (hle : B ≤ B') : Tb B' w' := fun w'' h2 => h w'' (hb.trans (h2.mono hle))
theorem lamE_may {t : Lm} (h : lamE 0 0 t = 0) : errM 0 0 [t] = 0 ∧ sizeM [t] ≤ 200 := by
  unfold lamE at h
  rw [if_neg (by omega)] at h
  split at h
  · omega
  · exact ⟨h, by omega⟩
theorem combOf_zero (n : Nat) (t : Lm) (v : Value) (w : World) (X : Nat → Prop) (hn : n ≤ 1000) (he : errM 0 0 [t] = 0) (hv : MV w X v t) (hz : sizeM [t] ≤ n) :
    Calls Tryz.prog 20 #[v, .int .i64 0] w fun e w' => CmP (cmb 86 n 0 t) w e w' := combOf_any n 0 t v w X (by omega) he hv hz
theorem cfrom_zero (n BT : Nat) (t : Lm) (v : Value) (w : World) (X : Nat → Prop) (hn : n ≤ 1000) (he : errM 0 0 [t] = 0) (hv : MV w X v t) (hz : sizeM [t] ≤ n) (hB : BT ≤ w.heap.size) (hT : Tb BT w) :
    Calls Tryz.prog 65 #[v, .int .i64 0] w fun e w' => FmP (cmb 88 n 0 t) w e w' := cfrom_any n BT 0 t v w X (by omega) he hv hz hB hT

set_option maxHeartbeats 2000000 in
theorem cFrom_any (t : Lm) (v : Value) (w : World) (X : Nat → Prop) (hv : MV w X v t) (hT : Tb w.heap.size w) :
    Calls Tryz.prog 49 #[v] w fun e w' => (lamE 0 0 t = 0 → CmP (cmb 88 (sizeM [t]) 0 t) w e w') ∧ (lamE 0 0 t ≠ 0 → e = .returned (.tuple #[.agg #[.string ⟨#[]⟩, .slice none 0 0], .int .i64 (lamE 0 0 t)]) ∧ Below w.heap.size w w') := by
  obtain ⟨a, c, rfl, hs⟩ := hv
  generalize hW : ((w.alloc (.cells #[.int .i64 t.kind, .int .i64 t.idx, .slice a t.subs.length c] 36)).alloc (.cells #[.string ⟨#[]⟩, .slice none 0 0] 24)) = w3
  have K3 : Hid (Below w.heap.size w w3) := by unfold Hid; rw [← hW]; exact ((Below.refl _ _).alloc (Nat.le_refl _) _).alloc (by simp) _
  have T3 : Hid (Blk w3 w.heap.size #[.int .i64 t.kind, .int .i64 t.idx, .slice a t.subs.length c] 36) := by unfold Hid; rw [← hW]; exact (Blk.new w _ _).alloc _
  have R3 : Hid (Blk w3 (w.heap.size + 1) #[.string ⟨#[]⟩, .slice none 0 0] 24) := by
    unfold Hid; rw [← hW]
    have h := Blk.new (w.alloc (.cells #[.int .i64 t.kind, .int .i64 t.idx, .slice a t.subs.length c] 36)) #[.string ⟨#[]⟩, .slice none 0 0] 24
    rw [World.size_alloc] at h
    exact h
  have HZ3 : Hid (w3.heap.size = w.heap.size + 2) := by unfold Hid; rw [← hW]; simp
  have V3 : Hid (∀ w', Below w.heap.size w w' → MV w' X (.agg #[.int .i64 t.kind, .int .i64 t.idx, .slice a t.subs.length c]) t) := fun w' hb => MV.later ⟨a, c, rfl, hs⟩ hb
  have HT : Hid (∀ w', Below w.heap.size w w' → Tb w.heap.size w') := fun w' hb => hT.on hb
  have HW := hide hW
  clear hW hs hT
  go_enter Tryz.func49, Tryz.ntmps49
  go_upto_region 1 with fail
  rw [HW.out]
  clear HW
  obtain ⟨R, hR⟩ : ∃ R, R = w.heap.size + 1 := ⟨_, rfl⟩
  rw [← hR] at R3 ⊢
  obtain ⟨P, hP⟩ : ∃ P, P = w.heap.size := ⟨_, rfl⟩
  rw [← hP] at T3 ⊢
  have HOZ : Hid (R = w.heap.size + 1 ∧ P = w.heap.size) := ⟨hR, hP⟩
  rw [hP]
  clear hR hP
  have c0 : w3.cell? ⟨P, 0, none⟩ = some (.int .i64 t.kind) := T3.out.cell 0
  have c1 : w3.cell? ⟨P, 1, none⟩ = some (.int .i64 t.idx) := T3.out.cell 1
  have c2 : w3.cell? ⟨P, 2, none⟩ = some (.slice a t.subs.length c) := T3.out.cell 2
  have cl := T3.out.lt
  rw [← HOZ.out.2]
  go_wp2_with fail
  refine (lCheck_any t _ 0 _ X (by exact V3.out _ K3.out)).mono ?_
  rintro e w4 ⟨rfl, hb4⟩
  have K4 := hide (K3.out.trans (hb4.mono K3.out.size))
  have T4 := hide (T3.out.below hb4 T3.out.lt)
  have R4 := hide (R3.out.below hb4 R3.out.lt)
  have HS4 := hide hb4.size
  clear hb4 c0 c1 c2 cl
  by_cases he : lamE 0 0 t = 0
  · have HE := hide he
    rw [he]
    obtain ⟨h1, h2⟩ := lamE_may he
    have HE1 := hide h1
    have HE2 := hide h2
    clear he h1 h2
    have c0 : w4.cell? ⟨P, 0, none⟩ = some (.int .i64 t.kind) := T4.out.cell 0
    have c1 : w4.cell? ⟨P, 1, none⟩ = some (.int .i64 t.idx) := T4.out.cell 1
    have c2 : w4.cell? ⟨P, 2, none⟩ = some (.slice a t.subs.length c) := T4.out.cell 2
    have cl := T4.out.lt
    go_wp2_with fail
    refine (cfrom_zero (sizeM [t]) w.heap.size t _ _ X (by have := HE2.out; omega) HE1.out (by exact V3.out _ K4.out) (Nat.le_refl _) K4.out.size (HT.out _ K4.out)).mono ?_
    rintro e w5 ⟨hb5, h⟩
    have K5 := hide (K4.out.trans (hb5.mono K4.out.size))
    have R5 := hide (R4.out.below hb5 R4.out.lt)
    have HS5 := hide (Nat.le_trans HS4.out hb5.size)
    clear hb5 c0 c1 c2 cl
    rcases h with ⟨u, au, cu, hu, rfl, hsu⟩ | ⟨hu, rfl⟩
    · have HU := hide hu
      have R6 := hide (R5.out.alloc (.cells #[.string u.name, .slice au u.args.length cu] 24))
      have K6 : Hid (Below w.heap.size w (w5.alloc (.cells #[.string u.name, .slice au u.args.length cu] 24))) := K5.out.alloc K5.out.size _
      have U6 : Hid (Blk (w5.alloc (.cells #[.string u.name, .slice au u.args.length cu] 24)) w5.heap.size #[.string u.name, .slice au u.args.length cu] 24) := Blk.new w5 _ _
      have SU6 : Hid (Sl (w5.alloc (.cells #[.string u.name, .slice au u.args.length cu] 24)) (fun b => w4.heap.size ≤ b) au u.args) := hsu.later ((Below.refl _ _).alloc (Nat.le_refl _) _)
      clear hsu hu
      go_upto_region 7 with fail
      generalize (w5.alloc (.cells #[.string u.name, .slice au u.args.length cu] 24)) = w6 at *
      obtain ⟨PX, hPX⟩ : ∃ PX, PX = w5.heap.size := ⟨_, rfl⟩
      rw [← hPX] at U6 ⊢
      clear hPX
      have u0 : w6.cell? ⟨PX, 0, none⟩ = some (.string u.name) := U6.out.cell 0
      have u1 : w6.cell? ⟨PX, 1, none⟩ = some (.slice au u.args.length cu) := U6.out.cell 1
      have ul := U6.out.lt
      have y0 : w6.cell? ⟨R, 0, none⟩ = some (.string ⟨#[]⟩) := R6.out.cell 0
      have y1 : w6.cell? ⟨R, 1, none⟩ = some (.slice none 0 0) := R6.out.cell 1
      have yf := R6.out.frozen
      have yl := R6.out.lt
      go_wp2_with fail
      refine bodyPost_ret (v := .tuple #[.agg #[.string u.name, .slice au u.args.length cu], .int .i64 0]) (by simp [results, Tryz.results49, go_sem, World.cell?_setCell_same, World.cell?_setCell_other, y0, y1]) rfl ?_
      refine ⟨fun _ => ⟨(K6.out.setCell (by have := HOZ.out; simp; omega) _).setCell (by have := HOZ.out; simp; omega) _, Or.inl ⟨u, au, cu, HU.out, rfl, ?_⟩⟩, fun h => absurd HE.out h⟩
      have hne : ∀ b, w4.heap.size ≤ b → b ≠ R := fun b hb => by have := HOZ.out; have := HZ3.out; have := HS4.out; omega
      exact (SU6.out.kept fun b hb => by rw [Below.heap_setCell _ _ _ _ (by simpa using hne b hb), Below.heap_setCell _ _ _ _ (by simpa using hne b hb)]).mono fun b hb _ => Nat.le_trans K4.out.size hb
    · have HU := hide hu
      have R6 := hide (R5.out.alloc (.cells #[.string ⟨#[]⟩, .slice none 0 0] 24))
      have K6 : Hid (Below w.heap.size w (w5.alloc (.cells #[.string ⟨#[]⟩, .slice none 0 0] 24))) := K5.out.alloc K5.out.size _
      clear hu
      go_upto_region 6 with fail
      generalize (w5.alloc (.cells #[.string ⟨#[]⟩, .slice none 0 0] 24)) = w6 at *
      have y0 : w6.cell? ⟨R, 0, none⟩ = some (.string ⟨#[]⟩) := R6.out.cell 0
      have y1 : w6.cell? ⟨R, 1, none⟩ = some (.slice none 0 0) := R6.out.cell 1
      have yf := R6.out.frozen
      have yl := R6.out.lt
      go_wp2_with fail
      refine bodyPost_ret (v := .tuple #[.agg #[.string ⟨#[]⟩, .slice none 0 0], .int .i64 8]) (by simp [results, Tryz.results49, go_sem, World.cell?_setCell_same, World.cell?_setCell_other, y0, y1]) rfl ?_
      exact ⟨fun _ => ⟨(K6.out.setCell (by have := HOZ.out; simp; omega) _).setCell (by have := HOZ.out; simp; omega) _, Or.inr ⟨HU.out, rfl⟩⟩, fun h => absurd HE.out h⟩
  · have HE := hide he
    have he' : (lamE 0 0 t == 0) = false := by simpa using he
    obtain ⟨er, her⟩ : ∃ er, er = lamE 0 0 t := ⟨_, rfl⟩
    rw [← her] at he he' HE ⊢
    have HER := hide her
    clear her
    have y0 : w4.cell? ⟨R, 0, none⟩ = some (.string ⟨#[]⟩) := R4.out.cell 0
    have y1 : w4.cell? ⟨R, 1, none⟩ = some (.slice none 0 0) := R4.out.cell 1
    have yf := R4.out.frozen
    have yl := R4.out.lt
    go_wp2_with fail
    refine bodyPost_ret (v := .tuple #[.agg #[.string ⟨#[]⟩, .slice none 0 0], .int .i64 er]) (by simp [results, Tryz.results49, go_sem, World.cell?_setCell_same, World.cell?_setCell_other, y0, y1]) rfl ?_
    have h9 : er = lamE 0 0 t := HER.out
    clear HER
    subst h9
    exact ⟨fun h => absurd h HE.out, fun _ => ⟨rfl, (K4.out.setCell (by have := HOZ.out; simp; omega) _).setCell (by have := HOZ.out; simp; omega) _⟩⟩

set_option maxHeartbeats 4000000 in
theorem combFromLaw_any (t : Lm) (v : Value) (w : World) (X : Nat → Prop) (hv : MV w X v t) (hT : Tb w.heap.size w) :
    Calls Tryz.prog 21 #[v] w fun e w' => e = .returned (.bool true) ∧ Below w.heap.size w w' := by
  obtain ⟨a, c, rfl, hs⟩ := hv
  have V3 : Hid (∀ w', Below w.heap.size w w' → MV w' X (.agg #[.int .i64 t.kind, .int .i64 t.idx, .slice a t.subs.length c]) t) := fun w' hb => MV.later ⟨a, c, rfl, hs⟩ hb
  have HT : Hid (∀ w', Below w.heap.size w w' → Tb w'.heap.size w') := fun w' hb => hT.up hb hb.size
  have K0 := hide (Blk.new w #[.int .i64 t.kind, .int .i64 t.idx, .slice a t.subs.length c] 36)
  have HB0 : Hid (Below w.heap.size w (w.alloc (.cells #[.int .i64 t.kind, .int .i64 t.idx, .slice a t.subs.length c] 36))) := (Below.refl _ _).alloc (Nat.le_refl _) _
  clear hs hT
  go_enter Tryz.func21, Tryz.ntmps21
  go_wp2_with fail
  refine (hugeLam_any t _ _ X (by exact V3.out _ HB0.out)).mono ?_
  rintro e w1 ⟨rfl, hb1⟩
  have HB1 := hide (HB0.out.trans (hb1.mono (by simp)))
  have K1 := hide (K0.out.below hb1 K0.out.lt)
  clear hb1 K0 HB0
  by_cases hh : 3000 < sizeM [t]
  · go_wp2_with fail
    go_ret
    exact ⟨rfl, HB1.out⟩
  rw [decide_eq_false hh]
  clear hh
  obtain ⟨P, hP⟩ : ∃ P, P = w.heap.size := ⟨_, rfl⟩
  rw [← hP] at K1 ⊢
  have HP := hide hP
  rw [hP]
  clear hP
  rw [← HP.out]
  have k0 : w1.cell? ⟨P, 0, none⟩ = some (.int .i64 t.kind) := K1.out.cell 0
  have k1 : w1.cell? ⟨P, 1, none⟩ = some (.int .i64 t.idx) := K1.out.cell 1
  have k2 : w1.cell? ⟨P, 2, none⟩ = some (.slice a t.subs.length c) := K1.out.cell 2
  have kl := K1.out.lt
  go_wp2_with fail
  refine (lamMay_any t _ 0 0 _ X (by exact V3.out _ HB1.out)).mono ?_
  rintro e w2 ⟨rfl, hb2⟩
  have HB2 := hide (HB1.out.trans (hb2.mono HB1.out.size))
  have K2 := hide (K1.out.below hb2 K1.out.lt)
  clear hb2 K1 HB1 k0 k1 k2 kl
  have k0 : w2.cell? ⟨P, 0, none⟩ = some (.int .i64 t.kind) := K2.out.cell 0
  have k1 : w2.cell? ⟨P, 1, none⟩ = some (.int .i64 t.idx) := K2.out.cell 1
  have k2 : w2.cell? ⟨P, 2, none⟩ = some (.slice a t.subs.length c) := K2.out.cell 2
  have kl := K2.out.lt
  by_cases he : lamE 0 0 t = 0
  rotate_left
  · have HE := hide he
    have he' : (lamE 0 0 t == 0) = false := by simpa using he
    obtain ⟨er, her⟩ : ∃ er, er = lamE 0 0 t := ⟨_, rfl⟩
    rw [← her] at he he' ⊢
    have HER := hide her
    clear her
    have K3 := hide (K2.out.alloc (.cells #[.string ⟨#[]⟩, .slice none 0 0] 24))
    have HB3 : Hid (Below w.heap.size w (w2.alloc (.cells #[.string ⟨#[]⟩, .slice none 0 0] 24))) := HB2.out.alloc HB2.out.size _
    have O3 : Hid (Blk (w2.alloc (.cells #[.string ⟨#[]⟩, .slice none 0 0] 24)) w2.heap.size #[.string ⟨#[]⟩, .slice none 0 0] 24) := Blk.new w2 _ _
    clear k0 k1 k2 kl
    go_upto_region 9 with fail
    generalize (w2.alloc (.cells #[.string ⟨#[]⟩, .slice none 0 0] 24)) = w3 at *
    obtain ⟨O, hO⟩ : ∃ O, O = w2.heap.size := ⟨_, rfl⟩
    rw [← hO] at O3 ⊢
    clear hO
    have k0 : w3.cell? ⟨P, 0, none⟩ = some (.int .i64 t.kind) := K3.out.cell 0
    have k1 : w3.cell? ⟨P, 1, none⟩ = some (.int .i64 t.idx) := K3.out.cell 1
    have k2 : w3.cell? ⟨P, 2, none⟩ = some (.slice a t.subs.length c) := K3.out.cell 2
    have kl := K3.out.lt
    go_wp2_with fail
    refine (cFrom_any t _ _ X (by exact V3.out _ HB3.out) (HT.out _ HB3.out)).mono ?_
    rintro e w4 ⟨_, h⟩
    obtain ⟨rfl, hb4⟩ := h HE.out
    have HB5 : Hid (Below w.heap.size w (w4.alloc (.cells #[.string ⟨#[]⟩, .slice none 0 0] 24))) := (HB3.out.trans (hb4.mono HB3.out.size)).alloc (HB3.out.trans (hb4.mono HB3.out.size)).size _
    have O5 := hide ((O3.out.below hb4 O3.out.lt).alloc (.cells #[.string ⟨#[]⟩, .slice none 0 0] 24))
    have Q5 : Hid (Blk (w4.alloc (.cells #[.string ⟨#[]⟩, .slice none 0 0] 24)) w4.heap.size #[.string ⟨#[]⟩, .slice none 0 0] 24) := Blk.new w4 _ _
    rw [← HER.out]
    clear hb4 h k0 k1 k2 kl
    go_upto_region 10 with fail
    generalize (w4.alloc (.cells #[.string ⟨#[]⟩, .slice none 0 0] 24)) = w5 at *
    obtain ⟨Q, hQ⟩ : ∃ Q, Q = w4.heap.size := ⟨_, rfl⟩
    rw [← hQ] at Q5 ⊢
    clear hQ
    have q0 : w5.cell? ⟨Q, 0, none⟩ = some (.string ⟨#[]⟩) := Q5.out.cell 0
    have q1 : w5.cell? ⟨Q, 1, none⟩ = some (.slice none 0 0) := Q5.out.cell 1
    have ql := Q5.out.lt
    have o0 : w5.cell? ⟨O, 0, none⟩ = some (.string ⟨#[]⟩) := O5.out.cell 0
    have o1 : w5.cell? ⟨O, 1, none⟩ = some (.slice none 0 0) := O5.out.cell 1
    have ol := O5.out.lt
    go_wp2_with fail
    refine (term2_err er _ _ _ _ _ rfl _ he).mono ?_
    rintro e w6 ⟨rfl, hb6⟩
    have HB6 := hide (HB5.out.trans (hb6.mono HB5.out.size))
    clear hb6
    go_wp2_with fail
    go_ret
    exact ⟨rfl, HB6.out⟩
  have HE := hide he
  rw [he]
  obtain ⟨h1, h2⟩ := lamE_may he
  have HE1 := hide h1
  clear he h1 h2
  go_wp2_with fail
  refine (lamSize_any t _ 40 _ X (by exact V3.out _ HB2.out) (by omega) (by omega)).mono ?_
  rintro e w3 ⟨rfl, hb3⟩
  have HB3 := hide (HB2.out.trans (hb3.mono HB2.out.size))
  have K3 := hide (K2.out.below hb3 K2.out.lt)
  clear hb3 K2 HB2 k0 k1 k2 kl
  obtain ⟨q, hq⟩ : ∃ q : Int, q = min ((sizeM [t] : Nat) : Int) (40 + 1) := ⟨_, rfl⟩
  have HQ := hide hq
  rw [← hq]
  clear hq
  by_cases hg : 40 < q
  · go_wp2_with fail
    go_ret
    exact ⟨rfl, HB3.out⟩
  have HN : Hid (sizeM [t] ≤ 40) := by have := HQ.out; unfold Hid; omega
  have HB4 : Hid (Below w.heap.size w (w3.alloc (.cells #[.string ⟨#[]⟩, .slice none 0 0] 24))) := HB3.out.alloc HB3.out.size _
  have K4 := hide (K3.out.alloc (.cells #[.string ⟨#[]⟩, .slice none 0 0] 24))
  have O4 : Hid (Blk (w3.alloc (.cells #[.string ⟨#[]⟩, .slice none 0 0] 24)) w3.heap.size #[.string ⟨#[]⟩, .slice none 0 0] 24) := Blk.new w3 _ _
  have HO3 : Hid (w.heap.size ≤ w3.heap.size ∧ w3.heap.size < (w3.alloc (.cells #[.string ⟨#[]⟩, .slice none 0 0] 24)).heap.size ∧ P < w3.heap.size) := ⟨HB3.out.size, by simp, K3.out.lt⟩
  go_upto_region 8 with fail
  generalize (w3.alloc (.cells #[.string ⟨#[]⟩, .slice none 0 0] 24)) = w4 at *
  obtain ⟨O, hO⟩ : ∃ O, O = w3.heap.size := ⟨_, rfl⟩
  rw [← hO] at O4 HO3 ⊢
  clear hO
  have k0 : w4.cell? ⟨P, 0, none⟩ = some (.int .i64 t.kind) := K4.out.cell 0
  have k1 : w4.cell? ⟨P, 1, none⟩ = some (.int .i64 t.idx) := K4.out.cell 1
  have k2 : w4.cell? ⟨P, 2, none⟩ = some (.slice a t.subs.length c) := K4.out.cell 2
  have kl := K4.out.lt
  go_wp2_with fail
  refine (combOf_zero (sizeM [t]) t _ _ X (by have := HN.out; omega) HE1.out (by exact V3.out _ HB4.out) (Nat.le_refl _)).mono ?_
  rintro e w5 ⟨hb5, h⟩
  have HB5 := hide (HB4.out.trans (hb5.mono HB4.out.size))
  have K5 := hide (K4.out.below hb5 K4.out.lt)
  have O5 := hide (O4.out.below hb5 O4.out.lt)
  clear hb5 k0 k1 k2 kl
  have HCC := hide (cmb_closed (sizeM [t]) t HE1.out)
  have hPO : P ≠ O := by have := HO3.out; omega
  have HPO := hide hPO
  clear hPO
  rcases h with ⟨u, au, cu, hu, rfl, hsu⟩ | ⟨hu, rfl⟩
  · have HU := hide hu
    have HSU := hide hsu
    clear hu hsu
    have y0 : w5.cell? ⟨O, 0, none⟩ = some (.string ⟨#[]⟩) := O5.out.cell 0
    have y1 : w5.cell? ⟨O, 1, none⟩ = some (.slice none 0 0) := O5.out.cell 1
    have yf := O5.out.frozen
    have yl := O5.out.lt
    go_upto_region 9 with fail
    have O6 : Hid (Blk ((w5.setCell ⟨O, 0, none⟩ (.string u.name)).setCell ⟨O, 1, none⟩ (.slice au u.args.length cu)) O #[.string u.name, .slice au u.args.length cu] 24) := blk_set2 O5.out _ _
    have K6 : Hid (Blk ((w5.setCell ⟨O, 0, none⟩ (.string u.name)).setCell ⟨O, 1, none⟩ (.slice au u.args.length cu)) P #[.int .i64 t.kind, .int .i64 t.idx, .slice a t.subs.length c] 36) := (K5.out.setOther 0 _ HPO.out).setOther 1 _ HPO.out
    have HB6 : Hid (Below w.heap.size w ((w5.setCell ⟨O, 0, none⟩ (.string u.name)).setCell ⟨O, 1, none⟩ (.slice au u.args.length cu))) := (HB5.out.setCell (by have := HO3.out; simp; omega) _).setCell (by have := HO3.out; simp; omega) _
    have hne : ∀ b, w4.heap.size ≤ b → b ≠ O := fun b hb => by have := HO3.out; omega
    have S6 : Hid (Sl ((w5.setCell ⟨O, 0, none⟩ (.string u.name)).setCell ⟨O, 1, none⟩ (.slice au u.args.length cu)) (fun b => w4.heap.size ≤ b) au u.args) := HSU.out.kept fun b hb => by rw [Below.heap_setCell _ _ _ _ (by simpa using hne b hb), Below.heap_setCell _ _ _ _ (by simpa using hne b hb)]
    generalize ((w5.setCell ⟨O, 0, none⟩ (.string u.name)).setCell ⟨O, 1, none⟩ (.slice au u.args.length cu)) = w6 at *
    clear y0 y1 yf yl hne
    have k0 : w6.cell? ⟨P, 0, none⟩ = some (.int .i64 t.kind) := K6.out.cell 0
    have k1 : w6.cell? ⟨P, 1, none⟩ = some (.int .i64 t.idx) := K6.out.cell 1
    have k2 : w6.cell? ⟨P, 2, none⟩ = some (.slice a t.subs.length c) := K6.out.cell 2
    have kl := K6.out.lt
    go_wp2_with fail
    refine (cFrom_any t _ _ X (by exact V3.out _ HB6.out) (HT.out _ HB6.out)).mono ?_
    rintro e w7 ⟨h, _⟩
    obtain ⟨hb7, h⟩ := h HE.out
    rw [← HCC.out, HU.out] at h
    rcases h with ⟨u', au', cu', hu', rfl, hsu'⟩ | ⟨hu', _⟩
    rotate_left
    · cases hu'
    obtain rfl := Option.some.inj hu'
    have HB8 : Hid (Below w.heap.size w (w7.alloc (.cells #[.string u.name, .slice au' u.args.length cu'] 24))) := (HB6.out.trans (hb7.mono HB6.out.size)).alloc (HB6.out.trans (hb7.mono HB6.out.size)).size _
    have O8 := hide ((O6.out.below hb7 O6.out.lt).alloc (.cells #[.string u.name, .slice au' u.args.length cu'] 24))
    have Q8 : Hid (Blk (w7.alloc (.cells #[.string u.name, .slice au' u.args.length cu'] 24)) w7.heap.size #[.string u.name, .slice au' u.args.length cu'] 24) := Blk.new w7 _ _
    have S8 : Hid (Sl (w7.alloc (.cells #[.string u.name, .slice au' u.args.length cu'] 24)) (fun b => w4.heap.size ≤ b) au u.args) := (S6.out.later hb7).later ((Below.refl _ _).alloc (Nat.le_refl _) _)
    have SQ8 : Hid (Sl (w7.alloc (.cells #[.string u.name, .slice au' u.args.length cu'] 24)) (fun b => w6.heap.size ≤ b) au' u.args) := hsu'.later ((Below.refl _ _).alloc (Nat.le_refl _) _)
    clear hb7 hu' hsu' k0 k1 k2 kl
    go_upto_region 10 with fail
    generalize (w7.alloc (.cells #[.string u.name, .slice au' u.args.length cu'] 24)) = w8 at *
    obtain ⟨Q, hQ⟩ : ∃ Q, Q = w7.heap.size := ⟨_, rfl⟩
    rw [← hQ] at Q8 ⊢
    clear hQ
    have q0 : w8.cell? ⟨Q, 0, none⟩ = some (.string u.name) := Q8.out.cell 0
    have q1 : w8.cell? ⟨Q, 1, none⟩ = some (.slice au' u.args.length cu') := Q8.out.cell 1
    have ql := Q8.out.lt
    have o0 : w8.cell? ⟨O, 0, none⟩ = some (.string u.name) := O8.out.cell 0
    have o1 : w8.cell? ⟨O, 1, none⟩ = some (.slice au u.args.length cu) := O8.out.cell 1
    have ol := O8.out.lt
    go_wp2_with fail
    refine (term2_ok u _ _ _ (fun b => w6.heap.size ≤ b) (fun b => w4.heap.size ≤ b) (by exact ⟨au', cu', rfl, SQ8.out⟩) (by exact ⟨au, cu, rfl, S8.out⟩)).mono ?_
    rintro e w9 ⟨rfl, hb9⟩
    have HB9 := hide (HB8.out.trans (hb9.mono HB8.out.size))
    clear hb9
    go_wp2_with fail
    go_ret
    exact ⟨rfl, HB9.out⟩
  · have HU := hide hu
    clear hu
    have y0 : w5.cell? ⟨O, 0, none⟩ = some (.string ⟨#[]⟩) := O5.out.cell 0
    have y1 : w5.cell? ⟨O, 1, none⟩ = some (.slice none 0 0) := O5.out.cell 1
    have yf := O5.out.frozen
    have yl := O5.out.lt
    go_upto_region 9 with fail
    have O6 : Hid (Blk ((w5.setCell ⟨O, 0, none⟩ (.string ⟨#[]⟩)).setCell ⟨O, 1, none⟩ (.slice none 0 0)) O #[.string ⟨#[]⟩, .slice none 0 0] 24) := blk_set2 O5.out _ _
    have K6 : Hid (Blk ((w5.setCell ⟨O, 0, none⟩ (.string ⟨#[]⟩)).setCell ⟨O, 1, none⟩ (.slice none 0 0)) P #[.int .i64 t.kind, .int .i64 t.idx, .slice a t.subs.length c] 36) := (K5.out.setOther 0 _ HPO.out).setOther 1 _ HPO.out
    have HB6 : Hid (Below w.heap.size w ((w5.setCell ⟨O, 0, none⟩ (.string ⟨#[]⟩)).setCell ⟨O, 1, none⟩ (.slice none 0 0))) := (HB5.out.setCell (by have := HO3.out; simp; omega) _).setCell (by have := HO3.out; simp; omega) _
    generalize ((w5.setCell ⟨O, 0, none⟩ (.string ⟨#[]⟩)).setCell ⟨O, 1, none⟩ (.slice none 0 0)) = w6 at *
    clear y0 y1 yf yl
    have k0 : w6.cell? ⟨P, 0, none⟩ = some (.int .i64 t.kind) := K6.out.cell 0
    have k1 : w6.cell? ⟨P, 1, none⟩ = some (.int .i64 t.idx) := K6.out.cell 1
    have k2 : w6.cell? ⟨P, 2, none⟩ = some (.slice a t.subs.length c) := K6.out.cell 2
    have kl := K6.out.lt
    go_wp2_with fail
    refine (cFrom_any t _ _ X (by exact V3.out _ HB6.out) (HT.out _ HB6.out)).mono ?_
    rintro e w7 ⟨h, _⟩
    obtain ⟨hb7, h⟩ := h HE.out
    rw [← HCC.out, HU.out] at h
    rcases h with ⟨u', au', cu', hu', _, hsu'⟩ | ⟨_, rfl⟩
    · cases hu'
    have HB8 : Hid (Below w.heap.size w (w7.alloc (.cells #[.string ⟨#[]⟩, .slice none 0 0] 24))) := (HB6.out.trans (hb7.mono HB6.out.size)).alloc (HB6.out.trans (hb7.mono HB6.out.size)).size _
    have O8 := hide ((O6.out.below hb7 O6.out.lt).alloc (.cells #[.string ⟨#[]⟩, .slice none 0 0] 24))
    have Q8 : Hid (Blk (w7.alloc (.cells #[.string ⟨#[]⟩, .slice none 0 0] 24)) w7.heap.size #[.string ⟨#[]⟩, .slice none 0 0] 24) := Blk.new w7 _ _
    clear hb7 k0 k1 k2 kl
    go_upto_region 10 with fail
    generalize (w7.alloc (.cells #[.string ⟨#[]⟩, .slice none 0 0] 24)) = w8 at *
    obtain ⟨Q, hQ⟩ : ∃ Q, Q = w7.heap.size := ⟨_, rfl⟩
    rw [← hQ] at Q8 ⊢
    clear hQ
    have q0 : w8.cell? ⟨Q, 0, none⟩ = some (.string ⟨#[]⟩) := Q8.out.cell 0
    have q1 : w8.cell? ⟨Q, 1, none⟩ = some (.slice none 0 0) := Q8.out.cell 1
    have ql := Q8.out.lt
    have o0 : w8.cell? ⟨O, 0, none⟩ = some (.string ⟨#[]⟩) := O8.out.cell 0
    have o1 : w8.cell? ⟨O, 1, none⟩ = some (.slice none 0 0) := O8.out.cell 1
    have ol := O8.out.lt
    go_wp2_with fail
    refine (term2_err 8 _ _ _ _ _ rfl _ (by omega)).mono ?_
    rintro e w9 ⟨rfl, hb9⟩
    have HB9 := hide (HB8.out.trans (hb9.mono HB8.out.size))
    clear hb9
    go_wp2_with fail
    go_ret
    exact ⟨rfl, HB9.out⟩
end Go.Proofs.YtcdabjekppddjaaGreatDoor
