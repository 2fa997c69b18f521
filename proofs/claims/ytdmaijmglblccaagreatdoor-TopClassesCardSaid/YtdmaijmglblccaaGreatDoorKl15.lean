/- Walks: do equations make two terms the same (closure.Same). -/
import Derived.Test.YtdmaijmglblccaaGreatDoorKl14
import Derived.BigQuiet
namespace Go.Proofs.YtdmaijmglblccaaGreatDoor
open Go.RowKit
set_option linter.unusedSimpArgs false
set_option linter.unusedVariables false
set_option maxRecDepth 8000

theorem mayE_errK {t : Tm} (ht : mayE t = 0) : errL [t] = 0 := by
  unfold mayE at ht
  split at ht
  · cases ht
  · exact ht
/-- All sides are terms. -/
theorem prT_err : ∀ {ls : List Pr}, (∀ p ∈ ls, mayE p.l = 0 ∧ mayE p.r = 0) → errL (prT ls) = 0
  | [], _ => by simp [prT, errL]
  | p :: r, h => by
    have h1 := h p (by simp)
    rw [prT, errL_cons, if_pos (mayE_errK h1.1), errL_cons, if_pos (mayE_errK h1.2)]
    exact prT_err fun q hq => h q (by simp [hq])
theorem grd_pairs {ls : List Pr} (h : grdE ls = 0) : pairsE ls = 0 := by
  unfold grdE at h
  by_cases hp : pairsE ls = 0
  · exact hp
  · rw [if_neg hp] at h; exact h
theorem clo_may {t : Tm} (h : cloE t = 0) : mayE t = 0 := by
  unfold cloE at h
  by_cases hp : mayE t = 0
  · exact hp
  · rw [if_neg hp] at h; exact h
theorem prT_err2 {ls : List Pr} {a b : Tm} (h1 : grdE ls = 0) (h2 : cloE a = 0) (h3 : cloE b = 0) : errL (prT ls ++ [a, b]) = 0 := by
  rw [errL_append, if_pos (prT_err (pairsE_all (grd_pairs h1))), errL_cons, if_pos (mayE_errK (clo_may h2)), mayE_errK (clo_may h3)]
theorem slK_two {w : World} {X : Nat → Prop} {q : Nat} {t u : Tm} {a1 a2 : Option Addr} {n1 n2 : Nat} (hX : X q) (c0 : w.cell? ⟨q, 0, none⟩ = some (.string t.name)) (c1 : w.cell? ⟨q, 1, none⟩ = some (.slice a1 t.args.length n1)) (s1 : Sl w X a1 t.args) (c2 : w.cell? ⟨q, 2, none⟩ = some (.string u.name)) (c3 : w.cell? ⟨q, 3, none⟩ = some (.slice a2 u.args.length n2)) (s2 : Sl w X a2 u.args) : Sl w X (some ⟨q, 0, none⟩) [t, u] := by
  obtain ⟨tn, ta⟩ := t
  obtain ⟨un, ua⟩ := u
  refine ⟨by simp, Or.inr ⟨q, 0, rfl, ?_⟩⟩
  rw [Lies, Lies, Lies]
  exact ⟨hX, c0, ⟨_, _, c1, s1⟩, hX, c2, ⟨_, _, c3, s2⟩, trivial⟩
/-- What closure.Same answers. -/
def KSmP (ls : List Pr) (a b : Tm) (w : World) (e : Ending) (w' : World) : Prop :=
  Below w.heap.size w w' ∧ ((grdE ls ≠ 0 ∧ e = .returned (.tuple #[.bool false, .int .i64 (grdE ls)])) ∨ (grdE ls = 0 ∧ cloE a ≠ 0 ∧ e = .returned (.tuple #[.bool false, .int .i64 (cloE a)])) ∨ (grdE ls = 0 ∧ cloE a = 0 ∧ cloE b ≠ 0 ∧ e = .returned (.tuple #[.bool false, .int .i64 (cloE b)])) ∨
    (grdE ls = 0 ∧ cloE a = 0 ∧ cloE b = 0 ∧ ∃ same : Bool, e = .returned (.tuple #[.bool same, .int .i64 0]) ∧ (same = true ↔ Cg ls (· ∈ preL (prT ls ++ [a, b])) a b)))
set_option maxHeartbeats 8000000 in
theorem kSame_any {BT : Nat} (ls : List Pr) (a b : Tm) (u : Value) (aa ab : Option Addr) (ca cb : Nat) (w : World) (X : Nat → Prop) (hu : QV w X u ls) (hsa : Sl w X aa a.args) (hsb : Sl w X ab b.args) (hT : Tb BT w) (hBT : BT ≤ w.heap.size) (hz : grdE ls = 0 → cloE a = 0 → cloE b = 0 → sizeL (prT ls ++ [a, b]) ≤ 900) :
    Calls Tryz.prog 15 #[u, .agg #[.string a.name, .slice aa a.args.length ca], .agg #[.string b.name, .slice ab b.args.length cb]] w (KSmP ls a b w) := by
  obtain ⟨ua, uc, rfl, hul, huu⟩ := id hu
  have B1 := (Below.refl w.heap.size w).alloc (Nat.le_refl _) (.cells #[.string a.name, .slice aa a.args.length ca] 25)
  have B2 := B1.alloc B1.size (.cells #[.string b.name, .slice ab b.args.length cb] 25)
  have HB := hide B2
  have P1 : Hid (Blk ((w.alloc (.cells #[.string a.name, .slice aa a.args.length ca] 25)).alloc (.cells #[.string b.name, .slice ab b.args.length cb] 25)) w.heap.size #[.string a.name, .slice aa a.args.length ca] 25) := (Blk.new w _ _).alloc _
  have P2 : Hid (Blk ((w.alloc (.cells #[.string a.name, .slice aa a.args.length ca] 25)).alloc (.cells #[.string b.name, .slice ab b.args.length cb] 25)) (w.heap.size + 1) #[.string b.name, .slice ab b.args.length cb] 25) := by
    have h := Blk.new (w.alloc (.cells #[.string a.name, .slice aa a.args.length ca] 25)) #[.string b.name, .slice ab b.args.length cb] 25
    rw [World.size_alloc] at h
    exact h
  have HU := hide (hu.later B2)
  have HSA := hide (hsa.later B2)
  have HSB := hide (hsb.later B2)
  have HT := hide hT
  have HZ := hide hz
  have HBT := hide hBT
  have Z2 : Hid (((w.alloc (.cells #[.string a.name, .slice aa a.args.length ca] 25)).alloc (.cells #[.string b.name, .slice ab b.args.length cb] 25)).heap.size = w.heap.size + 2) := by unfold Hid; simp
  clear hu hsa hsb hT hz B1 B2 huu hBT
  go_enter Tryz.func15, Tryz.ntmps15
  go_upto_region 1 with fail
  generalize ((w.alloc (.cells #[.string a.name, .slice aa a.args.length ca] 25)).alloc (.cells #[.string b.name, .slice ab b.args.length cb] 25)) = w1 at *
  obtain ⟨Pa, hPa⟩ : ∃ P, P = w.heap.size := ⟨_, rfl⟩
  obtain ⟨Pb, hPb⟩ : ∃ P, P = w.heap.size + 1 := ⟨_, rfl⟩
  rw [← hPa] at P1
  rw [← hPb] at P2
  have HPP : Hid (Pa = w.heap.size ∧ Pb = w.heap.size + 1) := ⟨hPa, hPb⟩
  rw [← hPb, ← hPa]
  clear hPb hPa
  go_wp2_with fail
  refine (kcheck_any ls _ w1 X HU.out).mono ?_
  rintro e w2 ⟨rfl, hb2⟩
  have HB2 := hide (HB.out.trans (hb2.mono HB.out.size))
  have HW2 := hide hb2
  clear hb2
  by_cases hg : grdE ls = 0
  · have HG := hide hg
    rw [hg]
    clear hg
    have Q1 := P1.out.below HW2.out P1.out.lt
    have p0 := Q1.cell 0
    have p1 := Q1.cell 1
    have SA := HSA.out.later HW2.out
    clear Q1
    go_wp2_with fail
    refine (kclosed_any a aa ca w2 X SA).mono ?_
    rintro e w3 ⟨rfl, hb3⟩
    have HB3 := hide (HB2.out.trans (hb3.mono HB2.out.size))
    have HW3 := hide (HW2.out.trans (hb3.mono HW2.out.size))
    clear hb3 p0 p1 SA
    by_cases ha : cloE a = 0
    · have HA := hide ha
      rw [ha]
      clear ha
      have Q2 := P2.out.below HW3.out P2.out.lt
      have p0 := Q2.cell 0
      have p1 := Q2.cell 1
      have SB := HSB.out.later HW3.out
      clear Q2
      go_wp2_with fail
      refine (kclosed_any b ab cb w3 X SB).mono ?_
      rintro e w4 ⟨rfl, hb4⟩
      have HB4 := hide (HB3.out.trans (hb4.mono HB3.out.size))
      have HW4 := hide (HW3.out.trans (hb4.mono HW3.out.size))
      clear hb4 p0 p1 SB
      by_cases hb : cloE b = 0
      · have HBB := hide hb
        rw [hb]
        clear hb
        have Q1 := P1.out.below HW4.out P1.out.lt
        have Q2 := P2.out.below HW4.out P2.out.lt
        have p0 := Q1.cell 0
        have p1 := Q1.cell 1
        have q0 := Q2.cell 0
        have q1 := Q2.cell 1
        clear Q1 Q2
        have HL : Hid (∃ X' : Nat → Prop, (∀ z, X' z → z < (w4.alloc (.cells #[.string a.name, .slice aa a.args.length ca, .string b.name, .slice ab b.args.length cb] 25)).heap.size) ∧ QV (w4.alloc (.cells #[.string a.name, .slice aa a.args.length ca, .string b.name, .slice ab b.args.length cb] 25)) X' (.slice ua ls.length uc) ls ∧ Sl (w4.alloc (.cells #[.string a.name, .slice aa a.args.length ca, .string b.name, .slice ab b.args.length cb] 25)) X' (some ⟨w4.heap.size, 0, none⟩) [a, b]) := by
          have hbq : Below w4.heap.size w4 (w4.alloc (.cells #[.string a.name, .slice aa a.args.length ca, .string b.name, .slice ab b.args.length cb] 25)) := (Below.refl _ _).alloc (Nat.le_refl _) _
          refine ⟨fun z => z < (w4.alloc (.cells #[.string a.name, .slice aa a.args.length ca, .string b.name, .slice ab b.args.length cb] 25)).heap.size, fun z h => h, ?_, ?_⟩
          · exact ((HU.out.later HW4.out).later hbq).mono fun b _ h => h
          · have hlt : w4.heap.size < (w4.alloc (.cells #[.string a.name, .slice aa a.args.length ca, .string b.name, .slice ab b.args.length cb] 25)).heap.size := by simp
            have k := Blk.new w4 #[.string a.name, .slice aa a.args.length ca, .string b.name, .slice ab b.args.length cb] 25
            have sa := ((HSA.out.later HW4.out).later hbq).mono (Y := fun z => z < (w4.alloc (.cells #[.string a.name, .slice aa a.args.length ca, .string b.name, .slice ab b.args.length cb] 25)).heap.size) fun b _ h => h
            have sb := ((HSB.out.later HW4.out).later hbq).mono (Y := fun z => z < (w4.alloc (.cells #[.string a.name, .slice aa a.args.length ca, .string b.name, .slice ab b.args.length cb] 25)).heap.size) fun b _ h => h
            exact slK_two hlt (k.cell 0) (k.cell 1) sa (k.cell 2) (k.cell 3) sb
        have HB5 : Hid (Below w.heap.size w (w4.alloc (.cells #[.string a.name, .slice aa a.args.length ca, .string b.name, .slice ab b.args.length cb] 25))) := HB4.out.alloc HB4.out.size _
        go_wp2_with fail
        clear p0 p1 q0 q1
        generalize (w4.alloc (.cells #[.string a.name, .slice aa a.args.length ca, .string b.name, .slice ab b.args.length cb] 25)) = w5 at *
        obtain ⟨X', hX', hu5, hs5⟩ := HL.out
        clear HL
        have hb0 : Below w.heap.size w w5 := HB5.out
        refine (closed_any ls [a, b] _ _ 2 w5 X' hu5 hs5 (HT.out.on (HB5.out.mono HBT.out)) (Nat.le_trans HBT.out HB5.out.size) hX' (prT_err2 HG.out HA.out HBB.out) (HZ.out HG.out HA.out HBB.out) (Nat.le_trans (pairsE_len (grd_pairs HG.out)) (by omega))).mono ?_
        rintro e w6 ⟨N, Bk, r, k, m, o, nv, ns, rfl, hBk, hK, hN, hns, hlt, hnum, hdone, hmem, _, _, _, hb6⟩
        have HB6 := hide (hb0.trans (hb6.mono hb0.size))
        clear hb6 hb0 hu5 hs5 hX'
        obtain ⟨n0, n1, rfl⟩ : ∃ n0 n1, ns = [n0, n1] := by
          match ns, hns with
          | [], h => simp at h
          | [x], h => simp at h
          | [x, y], h => exact ⟨x, y, rfl⟩
          | x :: y :: z :: r, h => simp at h
        have ht : k.T n0 = a ∧ k.T n1 = b := by simpa using hns
        have hl0 : n0 < k.ts.length := hlt n0 (by simp)
        have hl1 : n1 < k.ts.length := hlt n1 (by simp)
        have hlen := hnum.len
        obtain ⟨g2, c2, b2, cA, _⟩ := hK.cl_at (i := n0) (by omega)
        obtain ⟨g2', c2', b2', cB, _⟩ := hK.cl_at (i := n1) (by omega)
        rw [b2] at b2'
        simp at b2'
        obtain ⟨rfl, rfl⟩ := b2'
        obtain ⟨an, cn, rfl⟩ := hN.shape
        obtain ⟨gn, u0, rfl, hu0, cn0, _⟩ := hN.at (i := 0) (by simp [iL])
        obtain ⟨gn', u1, he1, hu1, cn1, _⟩ := hN.at (i := 1) (by simp [iL])
        simp at he1
        subst he1
        have e0 : u0 = iV n0 := iL_at hu0
        have e1 : u1 = iV n1 := iL_at hu1
        subst e0 e1
        rw [show (iL [n0, n1]).length = 2 from rfl]
        have HANS : Hid (k.C n0 = k.C n1 ↔ Cg ls (· ∈ preL (prT ls ++ [a, b])) a b) := by
          have h := num_iff hnum hdone hl0 hl1 (by omega) (by omega)
          unfold Hid
          rw [← Cg.iff hmem, ← ht.1, ← ht.2]
          unfold Kl.C Kl.T
          rw [gd_get hl0, gd_get hl1, gd_get (show n0 < k.cl.length by omega), gd_get (show n1 < k.cl.length by omega)]
          exact h
        have hi0 : (n0 : Int) < (k.cl.length : Int) := by omega
        have hi1 : (n1 : Int) < (k.cl.length : Int) := by omega
        clear hK hN hns hlt hnum hdone hmem hu0 hu1 hlen ht hl0 hl1
        generalize k.C n0 = x0 at *
        generalize k.C n1 = x1 at *
        generalize k.cl.length = kl at *
        go_wp2_with fail
        go_quiet (fail)
        go_wp2_with fail
        refine bodyPost_ret (v := .tuple #[.bool ((x0 : Int) == (x1 : Int)), .int .i64 0]) (by simp [results, Tryz.results15, go_sem]) rfl ?_
        exact ⟨below_drewN HB6.out _, Or.inr (Or.inr (Or.inr ⟨HG.out, HA.out, HBB.out, _, rfl, by rw [← HANS.out]; simp; omega⟩))⟩
      · have HE : Hid (cloE b ≠ 0) := hb
        have hne : (cloE b != 0) = true := by simp [hb]
        obtain ⟨er, her⟩ : ∃ er, er = cloE b := ⟨_, rfl⟩
        rw [← her] at hne ⊢
        have HER := hide her
        clear her hb
        go_wp2_with fail
        refine bodyPost_ret (v := .tuple #[.bool false, .int .i64 er]) (by simp [results, Tryz.results15, go_sem]) rfl ?_
        exact ⟨HB4.out, Or.inr (Or.inr (Or.inl ⟨HG.out, HA.out, HE.out, by rw [← HER.out]⟩))⟩
    · have HE : Hid (cloE a ≠ 0) := ha
      have hne : (cloE a != 0) = true := by simp [ha]
      obtain ⟨er, her⟩ : ∃ er, er = cloE a := ⟨_, rfl⟩
      rw [← her] at hne ⊢
      have HER := hide her
      clear her ha
      go_wp2_with fail
      refine bodyPost_ret (v := .tuple #[.bool false, .int .i64 er]) (by simp [results, Tryz.results15, go_sem]) rfl ?_
      exact ⟨HB3.out, Or.inr (Or.inl ⟨HG.out, HE.out, by rw [← HER.out]⟩)⟩
  · have HE : Hid (grdE ls ≠ 0) := hg
    have hne : (grdE ls != 0) = true := by simp [hg]
    obtain ⟨er, her⟩ : ∃ er, er = grdE ls := ⟨_, rfl⟩
    rw [← her] at hne ⊢
    have HER := hide her
    clear her hg
    go_wp2_with fail
    refine bodyPost_ret (v := .tuple #[.bool false, .int .i64 er]) (by simp [results, Tryz.results15, go_sem]) rfl ?_
    exact ⟨HB2.out, Or.inl ⟨HE.out, by rw [← HER.out]⟩⟩
end Go.Proofs.YtdmaijmglblccaaGreatDoor
