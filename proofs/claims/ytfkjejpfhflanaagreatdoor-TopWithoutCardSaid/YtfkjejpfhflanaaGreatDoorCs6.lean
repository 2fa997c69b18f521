/- Walks: combinators as a lambda term, as the program makes it. -/
import Derived.Test.YtfkjejpfhflanaaGreatDoorZMTopWithoutOwn
namespace Go.Proofs.YtfkjejpfhflanaaGreatDoor
open Go.RowKit
set_option linter.unusedSimpArgs false
set_option linter.unusedVariables false
set_option maxRecDepth 8000

theorem par_i (w : World) (hT : Tb w.heap.size w) (hS : Tse w.heap.size w) : Calls Tryz.prog 17 #[.string iTx, .slice none 0 0] w fun e w' => ∃ a c, e = .returned (.tuple #[.agg #[.int .i64 2, .int .i64 0, .slice a 1 c], .int .i64 0]) ∧ MV w' (fun b => w.heap.size ≤ b) (.agg #[.int .i64 2, .int .i64 0, .slice a 1 c]) iL ∧ Below w.heap.size w w' := by
  refine (parseL_any iTx [] none 0 w (fun _ => False) ⟨none, 0, rfl, ⟨by simp, by simp⟩, Or.inl rfl⟩ hT hS).mono ?_
  rintro e w' ⟨v, rfl, h1, _, hb⟩
  rw [rd_iE]
  obtain ⟨a, c, rfl, hs⟩ := h1 rd_iE
  rw [rd_iT] at hs ⊢
  exact ⟨a, c, rfl, ⟨a, c, rfl, hs⟩, hb⟩
theorem par_k (w : World) (hT : Tb w.heap.size w) (hS : Tse w.heap.size w) : Calls Tryz.prog 17 #[.string kTx, .slice none 0 0] w fun e w' => ∃ a c, e = .returned (.tuple #[.agg #[.int .i64 2, .int .i64 0, .slice a 1 c], .int .i64 0]) ∧ MV w' (fun b => w.heap.size ≤ b) (.agg #[.int .i64 2, .int .i64 0, .slice a 1 c]) kL ∧ Below w.heap.size w w' := by
  refine (parseL_any kTx [] none 0 w (fun _ => False) ⟨none, 0, rfl, ⟨by simp, by simp⟩, Or.inl rfl⟩ hT hS).mono ?_
  rintro e w' ⟨v, rfl, h1, _, hb⟩
  rw [rd_kE]
  obtain ⟨a, c, rfl, hs⟩ := h1 rd_kE
  rw [rd_kT] at hs ⊢
  exact ⟨a, c, rfl, ⟨a, c, rfl, hs⟩, hb⟩
theorem par_s (w : World) (hT : Tb w.heap.size w) (hS : Tse w.heap.size w) : Calls Tryz.prog 17 #[.string sTx, .slice none 0 0] w fun e w' => ∃ a c, e = .returned (.tuple #[.agg #[.int .i64 2, .int .i64 0, .slice a 1 c], .int .i64 0]) ∧ MV w' (fun b => w.heap.size ≤ b) (.agg #[.int .i64 2, .int .i64 0, .slice a 1 c]) sL ∧ Below w.heap.size w w' := by
  refine (parseL_any sTx [] none 0 w (fun _ => False) ⟨none, 0, rfl, ⟨by simp, by simp⟩, Or.inl rfl⟩ hT hS).mono ?_
  rintro e w' ⟨v, rfl, h1, _, hb⟩
  rw [rd_sE]
  obtain ⟨a, c, rfl, hs⟩ := h1 rd_sE
  rw [rd_sT] at hs ⊢
  exact ⟨a, c, rfl, ⟨a, c, rfl, hs⟩, hb⟩

set_option maxHeartbeats 2000000 in
theorem cleaf_any (s : ByteArray) (hn : nameB s = true) (BT : Nat) (w : World) (hBT : BT ≤ w.heap.size) (hT : Tb BT w) (hS : Tse BT w) :
    Calls Tryz.prog 46 #[.string s] w fun e w' => LtP (leafL s) w e w' := by
  have HN := hide hn
  have HBT := hide hBT
  have HT : Hid (∀ w', Below w.heap.size w w' → Tb BT w') := fun w' hb => hT.on (hb.mono hBT)
  have HS : Hid (∀ w', Below w.heap.size w w' → Tse BT w') := fun w' hb => hS.on (hb.mono hBT)
  have HT' : Hid (∀ w', Below w.heap.size w w' → Tb w'.heap.size w') := fun w' hb => hT.raise (hb.mono hBT) (Nat.le_trans hBT hb.size)
  have HS' : Hid (∀ w', Below w.heap.size w w' → Tse w'.heap.size w') := fun w' hb => hS.raise (hb.mono hBT) (Nat.le_trans hBT hb.size)
  clear hn hBT hT hS
  generalize hW : (w.alloc (.cells #[.int .i64 0, .int .i64 0, .slice none 0 0] 25)) = w3
  have K3 : Hid (Below w.heap.size w w3) := by unfold Hid; rw [← hW]; exact (Below.refl _ _).alloc (Nat.le_refl _) _
  have R3 : Hid (Blk w3 w.heap.size #[.int .i64 0, .int .i64 0, .slice none 0 0] 25) := by unfold Hid; rw [← hW]; exact Blk.new w _ _
  have HZ3 : Hid (w3.heap.size = w.heap.size + 1) := by unfold Hid; rw [← hW]; simp
  have HW := hide hW
  clear hW
  go_enter Tryz.func46, Tryz.ntmps46
  go_upto_region 1 with fail
  rw [HW.out]
  clear HW
  obtain ⟨R, hR⟩ : ∃ R, R = w.heap.size := ⟨_, rfl⟩
  rw [← hR] at R3 ⊢
  have HRW : Hid (w.heap.size ≤ R) := by unfold Hid; omega
  have HNE : Hid (∀ b, w3.heap.size ≤ b → b ≠ R) := fun b hb => by have := HZ3.out; omega
  clear hR
  have ENDS : Hid (∀ (wz : World) (k x : Int) (az : Option Addr) (l cz : Nat) (ls : List Lm), l = ls.length → Below w.heap.size w wz → MV wz (fun b => w3.heap.size ≤ b) (.agg #[.int .i64 k, .int .i64 x, .slice az l cz]) ⟨k, x, ls⟩ → leafL s = (0, ⟨k, x, ls⟩) → ∀ u0 u1 u2 : Value, LtP (leafL s) w (.returned (.tuple #[.agg #[.int .i64 k, .int .i64 x, .slice az l cz], .int .i64 0])) (((wz.setCell ⟨R, 0, none⟩ u0).setCell ⟨R, 1, none⟩ u1).setCell ⟨R, 2, none⟩ u2)) := fun wz k x az l cz ls hl hb hm hr u0 u1 u2 => by
    subst hl
    rw [hr]
    refine ⟨set3_below hb HRW.out _ _ _, az, cz, rfl, ?_, fun h => absurd rfl h⟩
    obtain ⟨a', c', e', hs'⟩ := hm
    simp only [Value.agg.injEq, Array.mk.injEq, List.cons.injEq, Value.slice.injEq, true_and, and_true] at e'
    obtain ⟨rfl, rfl⟩ := e'
    exact (hs'.kept fun b hb => set3_other b (HNE.out b hb)).mono fun b hb _ => Nat.le_trans K3.out.size hb
  have ENDE : Hid (∀ (wz : World) (er : Int), Below w.heap.size w wz → leafL s = (er, nilL) → ∀ u0 u1 u2 : Value, LtP (leafL s) w (.returned (.tuple #[.agg #[.int .i64 0, .int .i64 0, .slice none 0 0], .int .i64 er])) (((wz.setCell ⟨R, 0, none⟩ u0).setCell ⟨R, 1, none⟩ u1).setCell ⟨R, 2, none⟩ u2)) := fun wz er hb hr u0 u1 u2 => by
    rw [hr]
    exact ⟨set3_below hb HRW.out _ _ _, none, 0, rfl, ⟨by simp [nilL], Or.inl rfl⟩, fun _ => ⟨rfl, rfl, rfl⟩⟩
  have KK3 : Hid (Below w3.heap.size w3 w3) := Below.refl _ _
  go_wp2_with fail
  refine (isVariable_all s _).mono ?_
  rintro e w4 ⟨rfl, hw4⟩
  subst w4
  cases hvb : varB s with
  | true =>
    have HRES : Hid (leafL s = (15, nilL)) := by
      unfold Hid leafL
      rw [if_neg (fun h => by rw [h] at hvb; revert hvb; decide), if_neg (fun h => by rw [h] at hvb; revert hvb; decide), if_neg (fun h => by rw [h] at hvb; revert hvb; decide), leafV_var hvb]
    have RE := hide (R3.out.below KK3.out R3.out.lt)
    have y0 : w3.cell? ⟨R, 0, none⟩ = some (.int .i64 0) := RE.out.cell 0
    have y1 : w3.cell? ⟨R, 1, none⟩ = some (.int .i64 0) := RE.out.cell 1
    have y2 : w3.cell? ⟨R, 2, none⟩ = some (.slice none 0 0) := RE.out.cell 2
    have yf := RE.out.frozen
    have yl := RE.out.lt
    go_wp2_with fail
    refine bodyPost_ret (v := .tuple #[.agg #[.int .i64 0, .int .i64 0, .slice none 0 0], .int .i64 15]) (by simp [results, Tryz.results46, go_sem, World.cell?_setCell_same, World.cell?_setCell_other, y0, y1, y2]) rfl ?_
    exact ENDE.out w3 15 (K3.out.trans (KK3.out.mono K3.out.size)) HRES.out _ _ _
  | false =>
    by_cases zi : s = ⟨#[105]⟩
    · have HRES : Hid (leafL s = (0, iL)) := by unfold Hid leafL; rw [if_pos zi]
      have ni : (s.toList == [105]) = true := nm_yes zi
      clear zi
      go_wp2_with fail
      refine (par_i _ (HT'.out _ K3.out) (HS'.out _ K3.out)).mono ?_
      rintro e w5 ⟨a5, c5, rfl, hm5, hb5⟩
      have KK5 := hide hb5
      have M5 := hide hm5
      clear hm5 hb5
      have RE := hide (R3.out.below KK5.out R3.out.lt)
      have y0 : w5.cell? ⟨R, 0, none⟩ = some (.int .i64 0) := RE.out.cell 0
      have y1 : w5.cell? ⟨R, 1, none⟩ = some (.int .i64 0) := RE.out.cell 1
      have y2 : w5.cell? ⟨R, 2, none⟩ = some (.slice none 0 0) := RE.out.cell 2
      have yf := RE.out.frozen
      have yl := RE.out.lt
      go_wp2_with fail
      refine bodyPost_ret (v := .tuple #[.agg #[.int .i64 2, .int .i64 0, .slice a5 1 c5], .int .i64 0]) (by simp [results, Tryz.results46, go_sem, World.cell?_setCell_same, World.cell?_setCell_other, y0, y1, y2]) rfl ?_
      exact ENDS.out w5 2 0 _ _ _ _ (by first | rfl | simp) (K3.out.trans (KK5.out.mono K3.out.size)) M5.out HRES.out _ _ _
    have ni : (s.toList == [105]) = false := nm_no zi
    by_cases zk : s = ⟨#[107]⟩
    · have HRES : Hid (leafL s = (0, kL)) := by unfold Hid leafL; rw [if_neg zi, if_pos zk]
      have nk : (s.toList == [107]) = true := nm_yes zk
      clear zk zi
      go_wp2_with fail
      refine (par_k _ (HT'.out _ K3.out) (HS'.out _ K3.out)).mono ?_
      rintro e w5 ⟨a5, c5, rfl, hm5, hb5⟩
      have KK5 := hide hb5
      have M5 := hide hm5
      clear hm5 hb5
      have RE := hide (R3.out.below KK5.out R3.out.lt)
      have y0 : w5.cell? ⟨R, 0, none⟩ = some (.int .i64 0) := RE.out.cell 0
      have y1 : w5.cell? ⟨R, 1, none⟩ = some (.int .i64 0) := RE.out.cell 1
      have y2 : w5.cell? ⟨R, 2, none⟩ = some (.slice none 0 0) := RE.out.cell 2
      have yf := RE.out.frozen
      have yl := RE.out.lt
      go_wp2_with fail
      refine bodyPost_ret (v := .tuple #[.agg #[.int .i64 2, .int .i64 0, .slice a5 1 c5], .int .i64 0]) (by simp [results, Tryz.results46, go_sem, World.cell?_setCell_same, World.cell?_setCell_other, y0, y1, y2]) rfl ?_
      exact ENDS.out w5 2 0 _ _ _ _ (by first | rfl | simp) (K3.out.trans (KK5.out.mono K3.out.size)) M5.out HRES.out _ _ _
    have nk : (s.toList == [107]) = false := nm_no zk
    by_cases zs : s = ⟨#[115]⟩
    · have HRES : Hid (leafL s = (0, sL)) := by unfold Hid leafL; rw [if_neg zi, if_neg zk, if_pos zs]
      have ns : (s.toList == [115]) = true := nm_yes zs
      clear zs zi zk
      go_wp2_with fail
      refine (par_s _ (HT'.out _ K3.out) (HS'.out _ K3.out)).mono ?_
      rintro e w5 ⟨a5, c5, rfl, hm5, hb5⟩
      have KK5 := hide hb5
      have M5 := hide hm5
      clear hm5 hb5
      have RE := hide (R3.out.below KK5.out R3.out.lt)
      have y0 : w5.cell? ⟨R, 0, none⟩ = some (.int .i64 0) := RE.out.cell 0
      have y1 : w5.cell? ⟨R, 1, none⟩ = some (.int .i64 0) := RE.out.cell 1
      have y2 : w5.cell? ⟨R, 2, none⟩ = some (.slice none 0 0) := RE.out.cell 2
      have yf := RE.out.frozen
      have yl := RE.out.lt
      go_wp2_with fail
      refine bodyPost_ret (v := .tuple #[.agg #[.int .i64 2, .int .i64 0, .slice a5 1 c5], .int .i64 0]) (by simp [results, Tryz.results46, go_sem, World.cell?_setCell_same, World.cell?_setCell_other, y0, y1, y2]) rfl ?_
      exact ENDS.out w5 2 0 _ _ _ _ (by first | rfl | simp) (K3.out.trans (KK5.out.mono K3.out.size)) M5.out HRES.out _ _ _
    have ns : (s.toList == [115]) = false := nm_no zs
    have HL2 : Hid (leafL s = leafV s) := by unfold Hid leafL; rw [if_neg zi, if_neg zk, if_neg zs]
    have HVB := hide hvb
    clear zi zk zs hvb
    go_wp2_with fail
    refine (cconst_any s HN.out BT _ (HT.out _ K3.out) (HS.out _ K3.out) (Nat.le_trans HBT.out K3.out.size)).mono ?_
    rintro e w5 ⟨⟨n, rfl, hnk⟩, hb5⟩
    have KK5 := hide hb5
    clear hb5
    cases hc : conN s with
    | none =>
      have HRES : Hid (leafL s = (1, nilL)) := by unfold Hid; rw [HL2.out, leafV_no HVB.out hc]
      rw [show (none : Option Nat).isSome = false from rfl]
      clear hnk hc
      have RE := hide (R3.out.below KK5.out R3.out.lt)
      have y0 : w5.cell? ⟨R, 0, none⟩ = some (.int .i64 0) := RE.out.cell 0
      have y1 : w5.cell? ⟨R, 1, none⟩ = some (.int .i64 0) := RE.out.cell 1
      have y2 : w5.cell? ⟨R, 2, none⟩ = some (.slice none 0 0) := RE.out.cell 2
      have yf := RE.out.frozen
      have yl := RE.out.lt
      go_wp2_with fail
      refine bodyPost_ret (v := .tuple #[.agg #[.int .i64 0, .int .i64 0, .slice none 0 0], .int .i64 1]) (by simp [results, Tryz.results46, go_sem, World.cell?_setCell_same, World.cell?_setCell_other, y0, y1, y2]) rfl ?_
      exact ENDE.out w5 1 (K3.out.trans (KK5.out.mono K3.out.size)) HRES.out _ _ _
    | some k =>
      have HRES : Hid (leafL s = (0, ⟨4, (k : Int), []⟩)) := by unfold Hid; rw [HL2.out, leafV_con HVB.out hc]
      obtain rfl := hnk k hc
      rw [show (some k).isSome = true from rfl]
      clear hnk hc
      have M5 := hide (leafMV w5 (fun b => w3.heap.size ≤ b) 4 (k : Int))
      have RE := hide (R3.out.below KK5.out R3.out.lt)
      have y0 : w5.cell? ⟨R, 0, none⟩ = some (.int .i64 0) := RE.out.cell 0
      have y1 : w5.cell? ⟨R, 1, none⟩ = some (.int .i64 0) := RE.out.cell 1
      have y2 : w5.cell? ⟨R, 2, none⟩ = some (.slice none 0 0) := RE.out.cell 2
      have yf := RE.out.frozen
      have yl := RE.out.lt
      go_wp2_with fail
      refine bodyPost_ret (v := .tuple #[.agg #[.int .i64 4, .int .i64 (k : Int), .slice none 0 0], .int .i64 0]) (by simp [results, Tryz.results46, go_sem, World.cell?_setCell_same, World.cell?_setCell_other, y0, y1, y2]) rfl ?_
      exact ENDS.out w5 4 (k : Int) _ _ _ _ (by first | rfl | simp) (K3.out.trans (KK5.out.mono K3.out.size)) M5.out HRES.out _ _ _
set_option maxHeartbeats 4000000 in
theorem cto_any (n BT : Nat) : ∀ (t : Tm) (v : Value) (w : World) (X : Nat → Prop), OkC t → TV w X v t → sizeL [t] ≤ n → BT ≤ w.heap.size → Tb BT w → Tse BT w →
    Calls Tryz.prog 20 #[v] w fun e w' => LtP (toL n t) w e w' := by
  induction n with
  | zero => intro t v w X _ _ h _ _ _; have := size_posC t; omega
  | succ n ih =>
    intro t v w X ht hv hz hBT hT hS
    have IH := hide ih
    clear ih
    have HBT := hide hBT
    have HT : Hid (∀ w', Below w.heap.size w w' → Tb BT w') := fun w' hb => hT.on (hb.mono hBT)
    have HS : Hid (∀ w', Below w.heap.size w w' → Tse BT w') := fun w' hb => hS.on (hb.mono hBT)
    clear hBT hT hS
    obtain ⟨a, c, rfl, hs⟩ := hv
    generalize hW : ((w.alloc (.cells #[.string t.name, .slice a t.args.length c] 30)).alloc (.cells #[.int .i64 0, .int .i64 0, .slice none 0 0] 25)) = w3
    have K3 : Hid (Below w.heap.size w w3) := by unfold Hid; rw [← hW]; exact ((Below.refl _ _).alloc (Nat.le_refl _) _).alloc (by simp) _
    have T3 : Hid (Blk w3 w.heap.size #[.string t.name, .slice a t.args.length c] 30) := by unfold Hid; rw [← hW]; exact (Blk.new w _ _).alloc _
    have R3 : Hid (Blk w3 (w.heap.size + 1) #[.int .i64 0, .int .i64 0, .slice none 0 0] 25) := by
      unfold Hid; rw [← hW]
      have h := Blk.new (w.alloc (.cells #[.string t.name, .slice a t.args.length c] 30)) #[.int .i64 0, .int .i64 0, .slice none 0 0] 25
      rw [World.size_alloc] at h
      exact h
    have HZ3 : Hid (w3.heap.size = w.heap.size + 2) := by unfold Hid; rw [← hW]; simp
    have SL3 := hide ((hs.mono (Y := fun b => b < w.heap.size) fun b _ h => h).later K3.out)
    have HW := hide hW
    clear hW hs
    go_enter Tryz.func20, Tryz.ntmps20
    go_upto_region 1 with fail
    rw [HW.out]
    clear HW
    obtain ⟨R, hR⟩ : ∃ R, R = w.heap.size + 1 := ⟨_, rfl⟩
    rw [← hR] at R3 ⊢
    obtain ⟨P, hP⟩ : ∃ P, P = w.heap.size := ⟨_, rfl⟩
    rw [← hP] at T3 ⊢
    have HOZ : Hid (R = w.heap.size + 1 ∧ P = w.heap.size) := ⟨hR, hP⟩
    have HRW : Hid (w.heap.size ≤ R) := by unfold Hid; omega
    have HNE : Hid (∀ b, w3.heap.size ≤ b → b ≠ R) := fun b hb => by have := HZ3.out; omega
    clear hR hP
    have c0 : w3.cell? ⟨P, 0, none⟩ = some (.string t.name) := T3.out.cell 0
    have c1 : w3.cell? ⟨P, 1, none⟩ = some (.slice a t.args.length c) := T3.out.cell 1
    have cl := T3.out.lt
    have ENDS : Hid (∀ (wz : World) (k x : Int) (az : Option Addr) (l cz : Nat) (ls : List Lm), l = ls.length → Below w.heap.size w wz → MV wz (fun b => w3.heap.size ≤ b) (.agg #[.int .i64 k, .int .i64 x, .slice az l cz]) ⟨k, x, ls⟩ → toL (n + 1) t = (0, ⟨k, x, ls⟩) → ∀ u0 u1 u2 : Value, LtP (toL (n + 1) t) w (.returned (.tuple #[.agg #[.int .i64 k, .int .i64 x, .slice az l cz], .int .i64 0])) (((wz.setCell ⟨R, 0, none⟩ u0).setCell ⟨R, 1, none⟩ u1).setCell ⟨R, 2, none⟩ u2)) := fun wz k x az l cz ls hl hb hm hr u0 u1 u2 => by
      subst hl
      rw [hr]
      refine ⟨set3_below hb HRW.out _ _ _, az, cz, rfl, ?_, fun h => absurd rfl h⟩
      obtain ⟨a', c', e', hs'⟩ := hm
      simp only [Value.agg.injEq, Array.mk.injEq, List.cons.injEq, Value.slice.injEq, true_and, and_true] at e'
      obtain ⟨rfl, rfl⟩ := e'
      exact (hs'.kept fun b hb => set3_other b (HNE.out b hb)).mono fun b hb _ => Nat.le_trans K3.out.size hb
    have ENDE : Hid (∀ (wz : World) (er : Int), Below w.heap.size w wz → toL (n + 1) t = (er, nilL) → ∀ u0 u1 u2 : Value, LtP (toL (n + 1) t) w (.returned (.tuple #[.agg #[.int .i64 0, .int .i64 0, .slice none 0 0], .int .i64 er])) (((wz.setCell ⟨R, 0, none⟩ u0).setCell ⟨R, 1, none⟩ u1).setCell ⟨R, 2, none⟩ u2)) := fun wz er hb hr u0 u1 u2 => by
      rw [hr]
      exact ⟨set3_below hb HRW.out _ _ _, none, 0, rfl, ⟨by simp [nilL], Or.inl rfl⟩, fun _ => ⟨rfl, rfl, rfl⟩⟩
    rcases ht.look with ⟨s, rfl, hnm⟩ | ⟨f, x, rfl, hf, hx⟩
    · have c1 : w3.cell? ⟨P, 1, none⟩ = some (.slice a 0 c) := c1
      have HL := hide (toL_leaf n s)
      go_wp2_with fail
      refine (cleaf_any s hnm BT _ (Nat.le_trans HBT.out K3.out.size) (HT.out _ K3.out) (HS.out _ K3.out)).mono ?_
      rintro e w4 ⟨hb4, az, cz, rfl, hs4, hn4⟩
      have KK4 := hide hb4
      obtain ⟨⟨er, u⟩, hu⟩ : ∃ r, r = leafL s := ⟨_, rfl⟩
      rw [← hu] at hs4 hn4 ⊢
      have HRES : Hid (toL (n + 1) ⟨s, []⟩ = (er, u)) := by unfold Hid; rw [HL.out, hu]
      clear hu hb4
      simp only at hs4 hn4 ⊢
      have S4 := hide hs4
      have N4 := hide hn4
      clear hs4 hn4
      have RE := hide (R3.out.below KK4.out R3.out.lt)
      have y0 : w4.cell? ⟨R, 0, none⟩ = some (.int .i64 0) := RE.out.cell 0
      have y1 : w4.cell? ⟨R, 1, none⟩ = some (.int .i64 0) := RE.out.cell 1
      have y2 : w4.cell? ⟨R, 2, none⟩ = some (.slice none 0 0) := RE.out.cell 2
      have yf := RE.out.frozen
      have yl := RE.out.lt
      go_wp2_with fail
      refine bodyPost_ret (v := .tuple #[.agg #[.int .i64 u.kind, .int .i64 u.idx, .slice az u.subs.length cz], .int .i64 er]) (by simp [results, Tryz.results20, go_sem, World.cell?_setCell_same, World.cell?_setCell_other, y0, y1, y2]) rfl ?_
      rw [HRES.out]
      exact ⟨set3_below (K3.out.trans (KK4.out.mono K3.out.size)) HRW.out _ _ _, az, cz, rfl, (S4.out.kept fun b hb => set3_other b (HNE.out b hb)).mono fun b hb _ => Nat.le_trans K3.out.size hb, N4.out⟩
    · have ha9 : (apT f x).args.length = 2 := rfl
      rw [ha9] at c1 ⊢
      clear ha9
      have HZF : Hid (sizeL [f] ≤ n) := by have h1 := size_ap f x; have h2 := size_posC x; unfold Hid; omega
      have HZX : Hid (sizeL [x] ≤ n) := by have h1 := size_ap f x; have h2 := size_posC f; unfold Hid; omega
      have HCF := hide hf
      have HCX := hide hx
      have HCL := hide (toL_ap n f x)
      obtain ⟨B, o, ab, cb, rfl, d0, d1, hbv⟩ := SL3.out.get (Below.refl w3.heap.size w3) (fun b _ h => h) 0 (by simp [apT])
      obtain ⟨B', o', ab2, cb2, e9, g0, g1, hbv2⟩ := SL3.out.get (Below.refl w3.heap.size w3) (fun b _ h => h) 1 (by simp [apT])
      simp only [Option.some.injEq, Addr.mk.injEq, and_true] at e9
      obtain ⟨rfl, rfl⟩ := e9
      have d0' : w3.cell? ⟨B, o, none⟩ = some (.string f.name) := by simpa [apT] using d0
      have d1' : w3.cell? ⟨B, o + 1, none⟩ = some (.slice ab f.args.length cb) := by simpa [apT] using d1
      have g0' : w3.cell? ⟨B, o + 2, none⟩ = some (.string x.name) := by simpa [apT] using g0
      have g1' : w3.cell? ⟨B, o + 3, none⟩ = some (.slice ab2 x.args.length cb2) := by simpa [apT] using g1
      have HFV : Hid (TV w3 (fun b => b < w.heap.size) (.agg #[.string f.name, .slice ab f.args.length cb]) f) := by unfold Hid; simpa [apT] using hbv
      have HXV : Hid (TV w3 (fun b => b < w.heap.size) (.agg #[.string x.name, .slice ab2 x.args.length cb2]) x) := by unfold Hid; simpa [apT] using hbv2
      have HG := hide (And.intro g0' g1')
      have hBl := World.block_lt_of_cell? w3 _ d0'
      have HBL := hide hBl
      have c1 : w3.cell? ⟨P, 1, none⟩ = some (.slice (some ⟨B, o, none⟩) 2 c) := T3.out.cell 1
      clear d0 d1 hbv g0 g1 hbv2 g0' g1'
      go_wp2_with fail
      refine (IH.out f _ _ _ HCF.out (by exact HFV.out) HZF.out (Nat.le_trans HBT.out K3.out.size) (HT.out _ K3.out) (HS.out _ K3.out)).mono ?_
      rintro e w4 ⟨hb4, au, cu, rfl, hsu, hn1⟩
      have KK4 := hide hb4
      clear hb4 d0' d1' hBl c0 c1 cl
      obtain ⟨⟨er, u⟩, hu⟩ : ∃ r, r = toL n f := ⟨_, rfl⟩
      rw [← hu] at hsu hn1 ⊢
      have HU := hide hu.symm
      clear hu
      simp only at hsu hn1 ⊢
      have KK5 : Hid (Below w3.heap.size w3 (w4.alloc (.cells #[.int .i64 u.kind, .int .i64 u.idx, .slice au u.subs.length cu] 25))) := KK4.out.alloc KK4.out.size _
      have U5 : Hid (Blk (w4.alloc (.cells #[.int .i64 u.kind, .int .i64 u.idx, .slice au u.subs.length cu] 25)) w4.heap.size #[.int .i64 u.kind, .int .i64 u.idx, .slice au u.subs.length cu] 25) := Blk.new w4 _ _
      have SU5 : Hid (SlM (w4.alloc (.cells #[.int .i64 u.kind, .int .i64 u.idx, .slice au u.subs.length cu] 25)) (fun b => w3.heap.size ≤ b) au u.subs) := hsu.later ((Below.refl _ _).alloc (Nat.le_refl _) _)
      clear hsu hn1
      by_cases he : er = 0
      rotate_left
      · have he' : (er == 0) = false := by simpa using he
        have HRES : Hid (toL (n + 1) (apT f x) = (er, nilL)) := by unfold Hid; rw [HCL.out, HU.out, if_neg he]
        go_upto_region 5 with fail
        generalize (w4.alloc (.cells #[.int .i64 u.kind, .int .i64 u.idx, .slice au u.subs.length cu] 25)) = w5 at *
        have RE := hide (R3.out.below KK5.out R3.out.lt)
        have y0 : w5.cell? ⟨R, 0, none⟩ = some (.int .i64 0) := RE.out.cell 0
        have y1 : w5.cell? ⟨R, 1, none⟩ = some (.int .i64 0) := RE.out.cell 1
        have y2 : w5.cell? ⟨R, 2, none⟩ = some (.slice none 0 0) := RE.out.cell 2
        have yf := RE.out.frozen
        have yl := RE.out.lt
        go_wp2_with fail
        refine bodyPost_ret (v := .tuple #[.agg #[.int .i64 0, .int .i64 0, .slice none 0 0], .int .i64 er]) (by simp [results, Tryz.results20, go_sem, World.cell?_setCell_same, World.cell?_setCell_other, y0, y1, y2]) rfl ?_
        exact ENDE.out w5 er (K3.out.trans (KK5.out.mono K3.out.size)) HRES.out _ _ _
      subst he
      go_upto_region 6 with fail
      generalize (w4.alloc (.cells #[.int .i64 u.kind, .int .i64 u.idx, .slice au u.subs.length cu] 25)) = w5 at *
      obtain ⟨PF, hPF⟩ : ∃ PF, PF = w4.heap.size := ⟨_, rfl⟩
      rw [← hPF] at U5 ⊢
      clear hPF
      have T5 := hide (T3.out.below KK5.out T3.out.lt)
      have c1 : w5.cell? ⟨P, 1, none⟩ = some (.slice (some ⟨B, o, none⟩) 2 c) := T5.out.cell 1
      have cl := T5.out.lt
      have g0 : w5.cell? ⟨B, o + 2, none⟩ = some (.string x.name) := (KK5.out.cell (p := ⟨B, o + 2, none⟩) HBL.out).trans HG.out.1
      have g1 : w5.cell? ⟨B, o + 3, none⟩ = some (.slice ab2 x.args.length cb2) := (KK5.out.cell (p := ⟨B, o + 3, none⟩) HBL.out).trans HG.out.2
      have hBl5 : B < w5.heap.size := Nat.lt_of_lt_of_le HBL.out KK5.out.size
      go_wp2_with fail
      refine (IH.out x _ _ _ HCX.out (by exact HXV.out.later KK5.out) HZX.out (Nat.le_trans HBT.out (K3.out.trans (KK5.out.mono K3.out.size)).size) (HT.out _ (K3.out.trans (KK5.out.mono K3.out.size))) (HS.out _ (K3.out.trans (KK5.out.mono K3.out.size)))).mono ?_
      rintro e w6 ⟨hb6, av, cv, rfl, hsv, hn2⟩
      have KK6 := hide (KK5.out.trans (hb6.mono KK5.out.size))
      have U6 := hide (U5.out.below hb6 U5.out.lt)
      have SU6 := hide (SU5.out.later hb6)
      clear hb6 c1 cl g0 g1 hBl5
      obtain ⟨⟨er, u2⟩, hu⟩ : ∃ r, r = toL n x := ⟨_, rfl⟩
      rw [← hu] at hsv hn2 ⊢
      have HU2 := hide hu.symm
      clear hu
      simp only at hsv hn2 ⊢
      have KK7 : Hid (Below w3.heap.size w3 (w6.alloc (.cells #[.int .i64 u2.kind, .int .i64 u2.idx, .slice av u2.subs.length cv] 25))) := KK6.out.alloc KK6.out.size _
      have U7 := hide (U6.out.alloc (.cells #[.int .i64 u2.kind, .int .i64 u2.idx, .slice av u2.subs.length cv] 25))
      have V7 : Hid (Blk (w6.alloc (.cells #[.int .i64 u2.kind, .int .i64 u2.idx, .slice av u2.subs.length cv] 25)) w6.heap.size #[.int .i64 u2.kind, .int .i64 u2.idx, .slice av u2.subs.length cv] 25) := Blk.new w6 _ _
      have SU7 : Hid (SlM (w6.alloc (.cells #[.int .i64 u2.kind, .int .i64 u2.idx, .slice av u2.subs.length cv] 25)) (fun b => w3.heap.size ≤ b) au u.subs) := SU6.out.later ((Below.refl _ _).alloc (Nat.le_refl _) _)
      have SV7 : Hid (SlM (w6.alloc (.cells #[.int .i64 u2.kind, .int .i64 u2.idx, .slice av u2.subs.length cv] 25)) (fun b => w3.heap.size ≤ b) av u2.subs) := (hsv.mono (Y := fun b => w3.heap.size ≤ b) fun b h _ => Nat.le_trans KK5.out.size h).later ((Below.refl _ _).alloc (Nat.le_refl _) _)
      clear hsv hn2
      by_cases he : er = 0
      rotate_left
      · have he' : (er == 0) = false := by simpa using he
        have HRES : Hid (toL (n + 1) (apT f x) = (er, nilL)) := by unfold Hid; rw [HCL.out, HU.out, HU2.out, if_pos rfl, if_neg he]
        go_upto_region 8 with fail
        generalize (w6.alloc (.cells #[.int .i64 u2.kind, .int .i64 u2.idx, .slice av u2.subs.length cv] 25)) = w7 at *
        have RE := hide (R3.out.below KK7.out R3.out.lt)
        have y0 : w7.cell? ⟨R, 0, none⟩ = some (.int .i64 0) := RE.out.cell 0
        have y1 : w7.cell? ⟨R, 1, none⟩ = some (.int .i64 0) := RE.out.cell 1
        have y2 : w7.cell? ⟨R, 2, none⟩ = some (.slice none 0 0) := RE.out.cell 2
        have yf := RE.out.frozen
        have yl := RE.out.lt
        go_wp2_with fail
        refine bodyPost_ret (v := .tuple #[.agg #[.int .i64 0, .int .i64 0, .slice none 0 0], .int .i64 er]) (by simp [results, Tryz.results20, go_sem, World.cell?_setCell_same, World.cell?_setCell_other, y0, y1, y2]) rfl ?_
        exact ENDE.out w7 er (K3.out.trans (KK7.out.mono K3.out.size)) HRES.out _ _ _
      subst he
      have HRES : Hid (toL (n + 1) (apT f x) = (0, ⟨3, 0, [u, u2]⟩)) := by unfold Hid; rw [HCL.out, HU.out, HU2.out, if_pos rfl, if_pos rfl]
      go_upto_region 9 with fail
      generalize (w6.alloc (.cells #[.int .i64 u2.kind, .int .i64 u2.idx, .slice av u2.subs.length cv] 25)) = w7 at *
      obtain ⟨PY, hPY⟩ : ∃ PY, PY = w6.heap.size := ⟨_, rfl⟩
      rw [← hPY] at V7 ⊢
      clear hPY
      have u0 : w7.cell? ⟨PF, 0, none⟩ = some (.int .i64 u.kind) := U7.out.cell 0
      have u1 : w7.cell? ⟨PF, 1, none⟩ = some (.int .i64 u.idx) := U7.out.cell 1
      have u2c : w7.cell? ⟨PF, 2, none⟩ = some (.slice au u.subs.length cu) := U7.out.cell 2
      have ul := U7.out.lt
      have z0 : w7.cell? ⟨PY, 0, none⟩ = some (.int .i64 u2.kind) := V7.out.cell 0
      have z1 : w7.cell? ⟨PY, 1, none⟩ = some (.int .i64 u2.idx) := V7.out.cell 1
      have z2 : w7.cell? ⟨PY, 2, none⟩ = some (.slice av u2.subs.length cv) := V7.out.cell 2
      have zl := V7.out.lt
      have R7 := hide (R3.out.below KK7.out R3.out.lt)
      have RW9 : Hid (Blk (((w7.setCell ⟨R, 0, none⟩ (.int .i64 3)).setCell ⟨R, 1, none⟩ (.int .i64 0)).setCell ⟨R, 2, none⟩ (.slice (some ⟨w7.heap.size, 0, none⟩) 2 2)) R #[.int .i64 3, .int .i64 0, .slice (some ⟨w7.heap.size, 0, none⟩) 2 2] 25) := ((R7.out.set 0 _).set 1 _).set 2 _
      have SZ9 : Hid ((((w7.setCell ⟨R, 0, none⟩ (.int .i64 3)).setCell ⟨R, 1, none⟩ (.int .i64 0)).setCell ⟨R, 2, none⟩ (.slice (some ⟨w7.heap.size, 0, none⟩) 2 2)).heap.size = w7.heap.size) := by unfold Hid; simp
      have QX : Hid (Blk ((((w7.setCell ⟨R, 0, none⟩ (.int .i64 3)).setCell ⟨R, 1, none⟩ (.int .i64 0)).setCell ⟨R, 2, none⟩ (.slice (some ⟨w7.heap.size, 0, none⟩) 2 2)).alloc (.cells #[.int .i64 u.kind, .int .i64 u.idx, .slice au u.subs.length cu, .int .i64 u2.kind, .int .i64 u2.idx, .slice av u2.subs.length cv] 25)) w7.heap.size #[.int .i64 u.kind, .int .i64 u.idx, .slice au u.subs.length cu, .int .i64 u2.kind, .int .i64 u2.idx, .slice av u2.subs.length cv] 25) := by have h := Blk.new (((w7.setCell ⟨R, 0, none⟩ (.int .i64 3)).setCell ⟨R, 1, none⟩ (.int .i64 0)).setCell ⟨R, 2, none⟩ (.slice (some ⟨w7.heap.size, 0, none⟩) 2 2)) #[.int .i64 u.kind, .int .i64 u.idx, .slice au u.subs.length cu, .int .i64 u2.kind, .int .i64 u2.idx, .slice av u2.subs.length cv] 25; rw [SZ9.out] at h; exact h
      have SU9 : Hid (SlM ((((w7.setCell ⟨R, 0, none⟩ (.int .i64 3)).setCell ⟨R, 1, none⟩ (.int .i64 0)).setCell ⟨R, 2, none⟩ (.slice (some ⟨w7.heap.size, 0, none⟩) 2 2)).alloc (.cells #[.int .i64 u.kind, .int .i64 u.idx, .slice au u.subs.length cu, .int .i64 u2.kind, .int .i64 u2.idx, .slice av u2.subs.length cv] 25)) (fun b => w3.heap.size ≤ b) au u.subs) := (SU7.out.kept fun b hb => set3_other b (HNE.out b hb)).later ((Below.refl _ _).alloc (Nat.le_refl _) _)
      have SV9 : Hid (SlM ((((w7.setCell ⟨R, 0, none⟩ (.int .i64 3)).setCell ⟨R, 1, none⟩ (.int .i64 0)).setCell ⟨R, 2, none⟩ (.slice (some ⟨w7.heap.size, 0, none⟩) 2 2)).alloc (.cells #[.int .i64 u.kind, .int .i64 u.idx, .slice au u.subs.length cu, .int .i64 u2.kind, .int .i64 u2.idx, .slice av u2.subs.length cv] 25)) (fun b => w3.heap.size ≤ b) av u2.subs) := (SV7.out.kept fun b hb => set3_other b (HNE.out b hb)).later ((Below.refl _ _).alloc (Nat.le_refl _) _)
      have KX : Hid (Below w.heap.size w ((((w7.setCell ⟨R, 0, none⟩ (.int .i64 3)).setCell ⟨R, 1, none⟩ (.int .i64 0)).setCell ⟨R, 2, none⟩ (.slice (some ⟨w7.heap.size, 0, none⟩) 2 2)).alloc (.cells #[.int .i64 u.kind, .int .i64 u.idx, .slice au u.subs.length cu, .int .i64 u2.kind, .int .i64 u2.idx, .slice av u2.subs.length cv] 25))) := (set3_below (K3.out.trans (KK7.out.mono K3.out.size)) HRW.out _ _ _).alloc (by rw [SZ9.out]; exact (K3.out.trans (KK7.out.mono K3.out.size)).size) _
      have x0 : ∀ o', ((((w7.setCell ⟨R, 0, none⟩ (.int .i64 3)).setCell ⟨R, 1, none⟩ (.int .i64 0)).setCell ⟨R, 2, none⟩ (.slice (some ⟨w7.heap.size, 0, none⟩) 2 2)).alloc o').cell? ⟨R, 0, none⟩ = some (.int .i64 3) := fun o' => (RW9.out.alloc o').cell 0
      have x1 : ∀ o', ((((w7.setCell ⟨R, 0, none⟩ (.int .i64 3)).setCell ⟨R, 1, none⟩ (.int .i64 0)).setCell ⟨R, 2, none⟩ (.slice (some ⟨w7.heap.size, 0, none⟩) 2 2)).alloc o').cell? ⟨R, 1, none⟩ = some (.int .i64 0) := fun o' => (RW9.out.alloc o').cell 1
      have x2 : ∀ o', ((((w7.setCell ⟨R, 0, none⟩ (.int .i64 3)).setCell ⟨R, 1, none⟩ (.int .i64 0)).setCell ⟨R, 2, none⟩ (.slice (some ⟨w7.heap.size, 0, none⟩) 2 2)).alloc o').cell? ⟨R, 2, none⟩ = some (.slice (some ⟨w7.heap.size, 0, none⟩) 2 2) := fun o' => (RW9.out.alloc o').cell 2
      have y0 : w7.cell? ⟨R, 0, none⟩ = some (.int .i64 0) := R7.out.cell 0
      have y1 : w7.cell? ⟨R, 1, none⟩ = some (.int .i64 0) := R7.out.cell 1
      have y2 : w7.cell? ⟨R, 2, none⟩ = some (.slice none 0 0) := R7.out.cell 2
      have yf := R7.out.frozen
      have yl := R7.out.lt
      go_wp2_with fail
      refine bodyPost_ret (v := .tuple #[.agg #[.int .i64 3, .int .i64 0, .slice (some ⟨w7.heap.size, 0, none⟩) 2 2], .int .i64 0]) (by simp [results, Tryz.results20, go_sem, x0, x1, x2]) rfl ?_
      rw [HRES.out]
      exact ⟨KX.out, some ⟨w7.heap.size, 0, none⟩, 2, rfl, (lies_twoL KK7.out.size (QX.out.cell 0) (QX.out.cell 1) (QX.out.cell 2) (QX.out.cell 3) (QX.out.cell 4) (QX.out.cell 5) SU9.out SV9.out).mono fun b hb _ => Nat.le_trans K3.out.size hb, fun h => absurd rfl h⟩
end Go.Proofs.YtfkjejpfhflanaaGreatDoor
