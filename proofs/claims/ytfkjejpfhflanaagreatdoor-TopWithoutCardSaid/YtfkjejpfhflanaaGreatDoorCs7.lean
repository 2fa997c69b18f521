/- Walks: comb.To. -/
import Derived.Test.YtfkjejpfhflanaaGreatDoorCs6
import Derived.Test.YtfkjejpfhflanaaGreatDoorZJTopWithoutOwn
namespace Go.Proofs.YtfkjejpfhflanaaGreatDoor
open Go.RowKit
set_option linter.unusedSimpArgs false
set_option linter.unusedVariables false
set_option maxRecDepth 8000

/-- What To tells of a term. -/
def toE (t : Tm) : Int × Lm :=
  if combE t = 0 then (if (toL (sizeL [t]) t).1 = 0 then (if 2000 < sizeM [(toL (sizeL [t]) t).2] then (8, nilL) else (0, (toL (sizeL [t]) t).2)) else ((toL (sizeL [t]) t).1, nilL)) else (combE t, nilL)

set_option maxHeartbeats 2000000 in
theorem cTo_any (t : Tm) (v : Value) (w : World) (X : Nat → Prop) (hv : TV w X v t) (hT : Tb w.heap.size w) (hS : Tse w.heap.size w) :
    Calls Tryz.prog 9 #[v] w fun e w' => LtP (toE t) w e w' := by
  obtain ⟨a, c, rfl, hs⟩ := hv
  have V3 : Hid (∀ w', Below w.heap.size w w' → TV w' X (.agg #[.string t.name, .slice a t.args.length c]) t) := fun w' hb => TV.later ⟨a, c, rfl, hs⟩ hb
  have HT : Hid (∀ w', Below w.heap.size w w' → Tb w.heap.size w') := fun w' hb => hT.on hb
  have HS : Hid (∀ w', Below w.heap.size w w' → Tse w.heap.size w') := fun w' hb => hS.on hb
  generalize hW : ((w.alloc (.cells #[.string t.name, .slice a t.args.length c] 30)).alloc (.cells #[.int .i64 0, .int .i64 0, .slice none 0 0] 25)) = w3
  have K3 : Hid (Below w.heap.size w w3) := by unfold Hid; rw [← hW]; exact ((Below.refl _ _).alloc (Nat.le_refl _) _).alloc (by simp) _
  have T3 : Hid (Blk w3 w.heap.size #[.string t.name, .slice a t.args.length c] 30) := by unfold Hid; rw [← hW]; exact (Blk.new w _ _).alloc _
  have R3 : Hid (Blk w3 (w.heap.size + 1) #[.int .i64 0, .int .i64 0, .slice none 0 0] 25) := by
    unfold Hid; rw [← hW]
    have h := Blk.new (w.alloc (.cells #[.string t.name, .slice a t.args.length c] 30)) #[.int .i64 0, .int .i64 0, .slice none 0 0] 25
    rw [World.size_alloc] at h
    exact h
  have HZ3 : Hid (w3.heap.size = w.heap.size + 2) := by unfold Hid; rw [← hW]; simp
  have HW := hide hW
  clear hW hs hT hS
  go_enter Tryz.func9, Tryz.ntmps9
  go_upto_region 1 with fail
  rw [HW.out]
  clear HW
  obtain ⟨R, hR⟩ : ∃ R, R = w.heap.size + 1 := ⟨_, rfl⟩
  rw [← hR] at R3 ⊢
  obtain ⟨P, hP⟩ : ∃ P, P = w.heap.size := ⟨_, rfl⟩
  rw [← hP] at T3
  have HRW : Hid (w.heap.size ≤ R) := by unfold Hid; omega
  have HNE : Hid (∀ b, w3.heap.size ≤ b → b ≠ R) := fun b hb => by have := HZ3.out; omega
  have HP := hide hP
  rw [← hP]
  clear hR hP
  have c0 : w3.cell? ⟨P, 0, none⟩ = some (.string t.name) := T3.out.cell 0
  have c1 : w3.cell? ⟨P, 1, none⟩ = some (.slice a t.args.length c) := T3.out.cell 1
  have cl := T3.out.lt
  have ENDE : Hid (∀ (wz : World) (er : Int), Below w.heap.size w wz → toE t = (er, nilL) → ∀ u0 u1 u2 : Value, LtP (toE t) w (.returned (.tuple #[.agg #[.int .i64 0, .int .i64 0, .slice none 0 0], .int .i64 er])) (((wz.setCell ⟨R, 0, none⟩ u0).setCell ⟨R, 1, none⟩ u1).setCell ⟨R, 2, none⟩ u2)) := fun wz er hb hr u0 u1 u2 => by
    rw [hr]
    exact ⟨set3_below hb HRW.out _ _ _, none, 0, rfl, ⟨by simp [nilL], Or.inl rfl⟩, fun _ => ⟨rfl, rfl, rfl⟩⟩
  go_wp2_with fail
  refine (ccheck_any t _ _ X (by exact V3.out _ K3.out)).mono ?_
  rintro e w4 ⟨rfl, hb4⟩
  have KK4 := hide hb4
  have K4 := hide (K3.out.trans (hb4.mono K3.out.size))
  have R4 := hide (R3.out.below hb4 R3.out.lt)
  have T4 := hide (T3.out.below hb4 T3.out.lt)
  clear hb4 c0 c1 cl
  by_cases hc : combE t = 0
  rotate_left
  · have HRES : Hid (toE t = (combE t, nilL)) := by unfold Hid toE; rw [if_neg hc]
    have hc' : (combE t == 0) = false := by simpa using hc
    obtain ⟨er, her⟩ : ∃ er, er = combE t := ⟨_, rfl⟩
    rw [← her] at hc hc' HRES ⊢
    clear her
    have y0 : w4.cell? ⟨R, 0, none⟩ = some (.int .i64 0) := R4.out.cell 0
    have y1 : w4.cell? ⟨R, 1, none⟩ = some (.int .i64 0) := R4.out.cell 1
    have y2 : w4.cell? ⟨R, 2, none⟩ = some (.slice none 0 0) := R4.out.cell 2
    have yf := R4.out.frozen
    have yl := R4.out.lt
    go_wp2_with fail
    refine bodyPost_ret (v := .tuple #[.agg #[.int .i64 0, .int .i64 0, .slice none 0 0], .int .i64 er]) (by simp [results, Tryz.results9, go_sem, World.cell?_setCell_same, World.cell?_setCell_other, y0, y1, y2]) rfl ?_
    exact ENDE.out w4 er K4.out HRES.out _ _ _
  obtain ⟨hok, hsz⟩ := OkC.of hc
  have HRES0 : Hid (toE t = if (toL (sizeL [t]) t).1 = 0 then (if 2000 < sizeM [(toL (sizeL [t]) t).2] then (8, nilL) else (0, (toL (sizeL [t]) t).2)) else ((toL (sizeL [t]) t).1, nilL)) := by unfold Hid toE; rw [if_pos hc]
  rw [hc]
  clear hc
  have c0 : w4.cell? ⟨P, 0, none⟩ = some (.string t.name) := T4.out.cell 0
  have c1 : w4.cell? ⟨P, 1, none⟩ = some (.slice a t.args.length c) := T4.out.cell 1
  have cl := T4.out.lt
  go_wp2_with fail
  refine (cto_any (sizeL [t]) w.heap.size t _ _ X hok (by exact V3.out _ K4.out) (Nat.le_refl _) K4.out.size (HT.out _ K4.out) (HS.out _ K4.out)).mono ?_
  rintro e w5 ⟨hb5, au, cu, rfl, hsu, hnu⟩
  have KK5 := hide (KK4.out.trans (hb5.mono KK4.out.size))
  have S5 := hide (hsu.mono (Y := fun b => w3.heap.size ≤ b) fun b h _ => Nat.le_trans KK4.out.size h)
  clear hb5 hsu hnu c0 c1 cl
  obtain ⟨⟨er, u⟩, hu⟩ : ∃ r, r = toL (sizeL [t]) t := ⟨_, rfl⟩
  rw [← hu] at S5 HRES0 ⊢
  clear hu
  simp only at S5 HRES0 ⊢
  have KK6 : Hid (Below w3.heap.size w3 (w5.alloc (.cells #[.int .i64 u.kind, .int .i64 u.idx, .slice au u.subs.length cu] 25))) := KK5.out.alloc KK5.out.size _
  have U6 : Hid (Blk (w5.alloc (.cells #[.int .i64 u.kind, .int .i64 u.idx, .slice au u.subs.length cu] 25)) w5.heap.size #[.int .i64 u.kind, .int .i64 u.idx, .slice au u.subs.length cu] 25) := Blk.new w5 _ _
  have S6 : Hid (SlM (w5.alloc (.cells #[.int .i64 u.kind, .int .i64 u.idx, .slice au u.subs.length cu] 25)) (fun b => w3.heap.size ≤ b) au u.subs) := S5.out.later ((Below.refl _ _).alloc (Nat.le_refl _) _)
  by_cases he : er = 0
  rotate_left
  · have he' : (er == 0) = false := by simpa using he
    have HRES : Hid (toE t = (er, nilL)) := by unfold Hid; rw [HRES0.out, if_neg he]
    go_upto_region 6 with fail
    generalize (w5.alloc (.cells #[.int .i64 u.kind, .int .i64 u.idx, .slice au u.subs.length cu] 25)) = w6 at *
    have R6 := hide (R3.out.below KK6.out R3.out.lt)
    have y0 : w6.cell? ⟨R, 0, none⟩ = some (.int .i64 0) := R6.out.cell 0
    have y1 : w6.cell? ⟨R, 1, none⟩ = some (.int .i64 0) := R6.out.cell 1
    have y2 : w6.cell? ⟨R, 2, none⟩ = some (.slice none 0 0) := R6.out.cell 2
    have yf := R6.out.frozen
    have yl := R6.out.lt
    go_wp2_with fail
    refine bodyPost_ret (v := .tuple #[.agg #[.int .i64 0, .int .i64 0, .slice none 0 0], .int .i64 er]) (by simp [results, Tryz.results9, go_sem, World.cell?_setCell_same, World.cell?_setCell_other, y0, y1, y2]) rfl ?_
    exact ENDE.out w6 er (K3.out.trans (KK6.out.mono K3.out.size)) HRES.out _ _ _
  subst he
  have HRES1 : Hid (toE t = if 2000 < sizeM [u] then (8, nilL) else (0, u)) := by unfold Hid; rw [HRES0.out, if_pos rfl]
  clear HRES0
  go_upto_region 7 with fail
  generalize (w5.alloc (.cells #[.int .i64 u.kind, .int .i64 u.idx, .slice au u.subs.length cu] 25)) = w6 at *
  obtain ⟨Q, hQ⟩ : ∃ Q, Q = w5.heap.size := ⟨_, rfl⟩
  rw [← hQ] at U6 ⊢
  clear hQ
  have q0 : w6.cell? ⟨Q, 0, none⟩ = some (.int .i64 u.kind) := U6.out.cell 0
  have q1 : w6.cell? ⟨Q, 1, none⟩ = some (.int .i64 u.idx) := U6.out.cell 1
  have q2 : w6.cell? ⟨Q, 2, none⟩ = some (.slice au u.subs.length cu) := U6.out.cell 2
  have ql := U6.out.lt
  go_wp2_with fail
  refine (countM_any 2000 (by omega) (by omega) u _ _ (fun b => w3.heap.size ≤ b) (by exact ⟨au, cu, rfl, S6.out⟩)).mono ?_
  rintro e w7 ⟨rfl, hb7⟩
  have KK7 := hide (KK6.out.trans (hb7.mono KK6.out.size))
  have U7 := hide (U6.out.below hb7 U6.out.lt)
  have S7 := hide (S6.out.later hb7)
  have R7 := hide (R3.out.below KK7.out R3.out.lt)
  clear hb7 q0 q1 q2 ql
  obtain ⟨q, hq⟩ : ∃ q : Int, q = min ((sizeM [u] : Nat) : Int) (2000 + 1) := ⟨_, rfl⟩
  have HQ := hide hq
  rw [← hq]
  clear hq
  have y0 : w7.cell? ⟨R, 0, none⟩ = some (.int .i64 0) := R7.out.cell 0
  have y1 : w7.cell? ⟨R, 1, none⟩ = some (.int .i64 0) := R7.out.cell 1
  have y2 : w7.cell? ⟨R, 2, none⟩ = some (.slice none 0 0) := R7.out.cell 2
  have yf := R7.out.frozen
  have yl := R7.out.lt
  by_cases hg : 2000 < q
  · have HRES : Hid (toE t = (8, nilL)) := by unfold Hid; rw [HRES1.out, if_pos (by have := HQ.out; omega)]
    go_wp2_with fail
    refine bodyPost_ret (v := .tuple #[.agg #[.int .i64 0, .int .i64 0, .slice none 0 0], .int .i64 8]) (by simp [results, Tryz.results9, go_sem, World.cell?_setCell_same, World.cell?_setCell_other, y0, y1, y2]) rfl ?_
    exact ENDE.out w7 8 (K3.out.trans (KK7.out.mono K3.out.size)) HRES.out _ _ _
  · have HRES : Hid (toE t = (0, u)) := by unfold Hid; rw [HRES1.out, if_neg (by have := HQ.out; omega)]
    have q0 : w7.cell? ⟨Q, 0, none⟩ = some (.int .i64 u.kind) := U7.out.cell 0
    have q1 : w7.cell? ⟨Q, 1, none⟩ = some (.int .i64 u.idx) := U7.out.cell 1
    have q2 : w7.cell? ⟨Q, 2, none⟩ = some (.slice au u.subs.length cu) := U7.out.cell 2
    have ql := U7.out.lt
    go_wp2_with fail
    refine bodyPost_ret (v := .tuple #[.agg #[.int .i64 u.kind, .int .i64 u.idx, .slice au u.subs.length cu], .int .i64 0]) (by simp [results, Tryz.results9, go_sem, World.cell?_setCell_same, World.cell?_setCell_other, y0, y1, y2]) rfl ?_
    rw [HRES.out]
    exact ⟨set3_below (K3.out.trans (KK7.out.mono K3.out.size)) HRW.out _ _ _, au, cu, rfl, (S7.out.kept fun b hb => set3_other b (HNE.out b hb)).mono fun b hb _ => Nat.le_trans K3.out.size hb, fun h => absurd rfl h⟩
end Go.Proofs.YtfkjejpfhflanaaGreatDoor
