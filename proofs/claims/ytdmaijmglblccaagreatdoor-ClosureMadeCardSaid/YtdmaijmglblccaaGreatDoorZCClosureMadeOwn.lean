/- Several texts in one. -/
import Derived.Test.YtdmaijmglblccaaGreatDoorZBClosureMadeOwn
import Derived.BigQuiet
import Derived.Test.YtdmaijmglblccaaGreatDoorZClosureMadeOwn
import Derived.Test.YtdmaijmglblccaaGreatDoorShelf
import Derived.Ground.SlgnProg
import Derived.Shelf.SlicesE.Clone
import Derived.Deep.RegionHeld3
import Derived.Deep.DeepCutAuto
import Derived.Laws.BitsAllLaws
import Derived.Laws.OwnMore
import Derived.DeepKeys3
import Derived.WideKeyPair
/- Walks: may equations and terms be, without variables (closure.Check, checkClosed); are two terms the same (closure.Same). -/
namespace Go.Proofs.YtdmaijmglblccaaGreatDoor
open Go.RowKit
set_option linter.unusedSimpArgs false
set_option linter.unusedVariables false
set_option maxRecDepth 8000

/-- A variable stands in one of the two. -/
def opP (p : Pr) : Bool := opnB p.l || opnB p.r
def grdE (ls : List Pr) : Int := if pairsE ls = 0 then (if ls.any opP = true then 15 else 0) else pairsE ls
def cloE (t : Tm) : Int := if mayE t = 0 then (if opnB t = true then 15 else 0) else mayE t
theorem anyPK_take {ls : List Pr} {k : Nat} (h : k < ls.length) (hk : (ls.take k).any opP = false) (h1 : opP ls[k] = false) : (ls.take (k + 1)).any opP = false := by
  rw [List.take_succ_eq_append_getElem h, List.any_append, hk]; simp [h1]
theorem anyP_at {ls : List Pr} {k : Nat} (h : k < ls.length) (h1 : opP ls[k] = true) : ls.any opP = true := List.any_eq_true.2 ⟨_, List.getElem_mem h, h1⟩
set_option maxHeartbeats 4000000 in
theorem kcheck_any (ls : List Pr) (u : Value) (w : World) (X : Nat → Prop) (hu : QV w X u ls) :
    Calls Tryz.prog 17 #[u] w fun e w' => e = .returned (.int .i64 (grdE ls)) ∧ Below w.heap.size w w' := by
  obtain ⟨ua, uc, rfl, hul, huu⟩ := id hu
  have HU := hide (hu.mono (Y := fun b => X b ∧ b < w.heap.size) fun b h1 h2 => ⟨h1, h2⟩)
  have HUX := hide hu
  clear hu huu
  go_enter Tryz.func17, Tryz.ntmps17
  go_wp2_with fail
  refine (ucheck_any ls _ w X HUX.out).mono ?_
  rintro e w1 ⟨rfl, hb1⟩
  have HB1 := hide hb1
  clear hb1
  by_cases hp : pairsE ls = 0
  · have HE : Hid (grdE ls = if ls.any opP = true then 15 else 0) := by unfold Hid grdE; rw [if_pos hp]
    rw [hp]
    clear hp
    go_wp2_with fail
    go_loopw [13] (fun i wr => ∃ k : Nat, k ≤ ls.length ∧ i = .int .i64 (k : Int) ∧ (ls.take k).any opP = false ∧ Below w.heap.size w wr) (fun i wr => ls.length - (intOf i).toNat)
    case atStart => exact ⟨0, Nat.zero_le _, rfl, by simp, HB1.out⟩
    case round =>
      obtain ⟨k, hk, rfl, hno, hbr⟩ := hrel
      have HNO := hide hno
      have HBR := hide hbr
      by_cases hlt : k < ls.length
      · have hki : (k : Int) < (ls.length : Int) := by omega
        obtain ⟨b, o, a1, c1, a2, c2, hva, d0, d1, d2, d3, s1, s2⟩ := (HUX.out.later hbr).get k hlt
        have hba : Below wr.heap.size wr (wr.alloc (.cells #[.string ls[k].l.name, .slice a1 ls[k].l.args.length c1, .string ls[k].r.name, .slice a2 ls[k].r.args.length c2] 35)) := (Below.refl _ _).alloc (Nat.le_refl _) _
        have HBA := hide (hbr.trans (hba.mono hbr.size))
        have P1 := hide (Blk.new wr #[.string ls[k].l.name, .slice a1 ls[k].l.args.length c1, .string ls[k].r.name, .slice a2 ls[k].r.args.length c2] 35)
        have S1 := hide (s1.later hba)
        have S2 := hide (s2.later hba)
        clear hno hbr s1 s2 hba
        subst hva
        go_upto_region 7 with fail
        clear d0 d1 d2 d3
        generalize (wr.alloc (.cells #[.string ls[k].l.name, .slice a1 ls[k].l.args.length c1, .string ls[k].r.name, .slice a2 ls[k].r.args.length c2] 35)) = wa at *
        generalize wr.heap.size = P at *
        have p0 := P1.out.cell 0
        have p1 := P1.out.cell 1
        go_wp2_with fail
        refine (isOpen_any ls[k].l _ _ X ⟨_, _, rfl, S1.out⟩).mono ?_
        rintro e w2 ⟨rfl, hb2⟩
        have HB2 := hide (HBA.out.trans (hb2.mono HBA.out.size))
        have P2 := P1.out.below hb2 P1.out.lt
        have p2 := P2.cell 2
        have p3 := P2.cell 3
        have S22 := hide (S2.out.later hb2)
        clear hb2 p0 p1 P2 P1
        cases ho : opnB ls[k].l with
        | true =>
          have HA : Hid (grdE ls = 15) := by unfold Hid; rw [HE.out, if_pos (anyP_at hlt (by unfold opP; rw [ho]; rfl))]
          clear ho
          go_wp2_with fail
          go_ret
          exact ⟨by rw [HA.out]; rfl, HB2.out⟩
        | false =>
          have HO := hide ho
          clear ho
          go_wp2_with fail
          refine (isOpen_any ls[k].r _ _ X ⟨_, _, rfl, S22.out⟩).mono ?_
          rintro e w3 ⟨rfl, hb3⟩
          have HB3 := hide (HB2.out.trans (hb3.mono HB2.out.size))
          clear hb3 p2 p3
          cases ho2 : opnB ls[k].r with
          | true =>
            have HA : Hid (grdE ls = 15) := by unfold Hid; rw [HE.out, if_pos (anyP_at hlt (by unfold opP; rw [HO.out, ho2]; rfl))]
            clear ho2
            go_wp2_with fail
            go_ret
            exact ⟨by rw [HA.out]; rfl, HB3.out⟩
          | false =>
            have HA := hide (anyPK_take hlt HNO.out (by unfold opP; rw [HO.out, ho2]; rfl))
            clear ho2
            go_wp2_with fail
            go_roundw
            case rel => exact ⟨k + 1, by omega, by go_num, HA.out, HB3.out⟩
            case measure => simp [intOf]; omega
      · have hki : ¬ (k : Int) < (ls.length : Int) := by omega
        have HA : Hid (grdE ls = 0) := by
          have h := HNO.out
          rw [List.take_of_length_le (by omega)] at h
          unfold Hid
          rw [HE.out, if_neg (by rw [h]; simp)]
        clear hno hbr
        go_wp2_with fail
        go_ret
        exact ⟨by rw [HA.out]; rfl, HBR.out⟩
  · have HE : Hid (grdE ls = pairsE ls) := by unfold Hid grdE; rw [if_neg hp]
    have hne : (pairsE ls != 0) = true := by simp [hp]
    generalize pairsE ls = er at *
    clear hp
    go_wp2_with fail
    go_ret
    exact ⟨by rw [HE.out]; rfl, HB1.out⟩
set_option maxHeartbeats 4000000 in
theorem kclosed_any (t : Tm) (a : Option Addr) (c : Nat) (w : World) (X : Nat → Prop) (hs : Sl w X a t.args) :
    Calls Tryz.prog 30 #[.agg #[.string t.name, .slice a t.args.length c]] w fun e w' => e = .returned (.int .i64 (cloE t)) ∧ Below w.heap.size w w' := by
  have hba : Below w.heap.size w (w.alloc (.cells #[.string t.name, .slice a t.args.length c] 25)) := (Below.refl _ _).alloc (Nat.le_refl _) _
  have HBA := hide hba
  have P1 := hide (Blk.new w #[.string t.name, .slice a t.args.length c] 25)
  have S1 := hide (hs.later hba)
  clear hba hs
  go_enter Tryz.func30, Tryz.ntmps30
  go_upto_region 1 with fail
  generalize (w.alloc (.cells #[.string t.name, .slice a t.args.length c] 25)) = wa at *
  have HP : Hid (∃ P, P = w.heap.size) := ⟨_, rfl⟩
  have p0 := P1.out.cell 0
  have p1 := P1.out.cell 1
  go_wp2_with fail
  refine (check_any t _ _ X ⟨_, _, rfl, S1.out⟩).mono ?_
  rintro e w2 ⟨rfl, hb2⟩
  have HB2 := hide (HBA.out.trans (hb2.mono HBA.out.size))
  have P2 := P1.out.below hb2 P1.out.lt
  have q0 := P2.cell 0
  have q1 := P2.cell 1
  have S2 := hide (S1.out.later hb2)
  clear p0 p1 hb2 P2
  by_cases hm : mayE t = 0
  · have HE : Hid (cloE t = if opnB t = true then 15 else 0) := by unfold Hid cloE; rw [if_pos hm]
    rw [hm]
    clear hm
    go_wp2_with fail
    refine (isOpen_any t _ _ X ⟨_, _, rfl, S2.out⟩).mono ?_
    rintro e w3 ⟨rfl, hb3⟩
    have HB3 := hide (HB2.out.trans (hb3.mono HB2.out.size))
    clear hb3 q0 q1
    cases ho : opnB t with
    | true =>
      have HA : Hid (cloE t = 15) := by unfold Hid; rw [HE.out, if_pos ho]
      clear ho
      go_wp2_with fail
      go_ret
      exact ⟨by rw [HA.out]; rfl, HB3.out⟩
    | false =>
      have HA : Hid (cloE t = 0) := by unfold Hid; rw [HE.out, if_neg (by rw [ho]; simp)]
      clear ho
      go_wp2_with fail
      go_ret
      exact ⟨by rw [HA.out]; rfl, HB3.out⟩
  · have HE : Hid (cloE t = mayE t) := by unfold Hid cloE; rw [if_neg hm]
    have hne : (mayE t != 0) = true := by simp [hm]
    generalize mayE t = er at *
    clear hm q0 q1
    go_wp2_with fail
    go_ret
    exact ⟨by rw [HE.out]; rfl, HB2.out⟩
end Go.Proofs.YtdmaijmglblccaaGreatDoor

/- Walks: do equations make two terms the same (closure.Same). -/
namespace Go.Proofs.YtdmaijmglblccaaGreatDoor
open Go.RowKit
set_option linter.unusedSimpArgs false
set_option linter.unusedVariables false
set_option maxRecDepth 8000

theorem mayE_errK {t : Tm} (ht : mayE t = 0) : errL [t] = 0 := by
  unfold mayE at ht
  split at ht
  · cases ht
  · exact ht
/-- All sides are terms. -/
theorem prT_err : ∀ {ls : List Pr}, (∀ p ∈ ls, mayE p.l = 0 ∧ mayE p.r = 0) → errL (prT ls) = 0
  | [], _ => by simp [prT, errL]
  | p :: r, h => by
    have h1 := h p (by simp)
    rw [prT, errL_cons, if_pos (mayE_errK h1.1), errL_cons, if_pos (mayE_errK h1.2)]
    exact prT_err fun q hq => h q (by simp [hq])
theorem grd_pairs {ls : List Pr} (h : grdE ls = 0) : pairsE ls = 0 := by
  unfold grdE at h
  by_cases hp : pairsE ls = 0
  · exact hp
  · rw [if_neg hp] at h; exact h
theorem clo_may {t : Tm} (h : cloE t = 0) : mayE t = 0 := by
  unfold cloE at h
  by_cases hp : mayE t = 0
  · exact hp
  · rw [if_neg hp] at h; exact h
theorem prT_err2 {ls : List Pr} {a b : Tm} (h1 : grdE ls = 0) (h2 : cloE a = 0) (h3 : cloE b = 0) : errL (prT ls ++ [a, b]) = 0 := by
  rw [errL_append, if_pos (prT_err (pairsE_all (grd_pairs h1))), errL_cons, if_pos (mayE_errK (clo_may h2)), mayE_errK (clo_may h3)]
theorem slK_two {w : World} {X : Nat → Prop} {q : Nat} {t u : Tm} {a1 a2 : Option Addr} {n1 n2 : Nat} (hX : X q) (c0 : w.cell? ⟨q, 0, none⟩ = some (.string t.name)) (c1 : w.cell? ⟨q, 1, none⟩ = some (.slice a1 t.args.length n1)) (s1 : Sl w X a1 t.args) (c2 : w.cell? ⟨q, 2, none⟩ = some (.string u.name)) (c3 : w.cell? ⟨q, 3, none⟩ = some (.slice a2 u.args.length n2)) (s2 : Sl w X a2 u.args) : Sl w X (some ⟨q, 0, none⟩) [t, u] := by
  obtain ⟨tn, ta⟩ := t
  obtain ⟨un, ua⟩ := u
  refine ⟨by simp, Or.inr ⟨q, 0, rfl, ?_⟩⟩
  rw [Lies, Lies, Lies]
  exact ⟨hX, c0, ⟨_, _, c1, s1⟩, hX, c2, ⟨_, _, c3, s2⟩, trivial⟩
/-- What closure.Same answers. -/
def KSmP (ls : List Pr) (a b : Tm) (w : World) (e : Ending) (w' : World) : Prop :=
  Below w.heap.size w w' ∧ ((grdE ls ≠ 0 ∧ e = .returned (.tuple #[.bool false, .int .i64 (grdE ls)])) ∨ (grdE ls = 0 ∧ cloE a ≠ 0 ∧ e = .returned (.tuple #[.bool false, .int .i64 (cloE a)])) ∨ (grdE ls = 0 ∧ cloE a = 0 ∧ cloE b ≠ 0 ∧ e = .returned (.tuple #[.bool false, .int .i64 (cloE b)])) ∨
    (grdE ls = 0 ∧ cloE a = 0 ∧ cloE b = 0 ∧ ∃ same : Bool, e = .returned (.tuple #[.bool same, .int .i64 0]) ∧ (same = true ↔ Cg ls (· ∈ preL (prT ls ++ [a, b])) a b)))
set_option maxHeartbeats 8000000 in
theorem kSame_any {BT : Nat} (ls : List Pr) (a b : Tm) (u : Value) (aa ab : Option Addr) (ca cb : Nat) (w : World) (X : Nat → Prop) (hu : QV w X u ls) (hsa : Sl w X aa a.args) (hsb : Sl w X ab b.args) (hT : Tb BT w) (hBT : BT ≤ w.heap.size) (hz : grdE ls = 0 → cloE a = 0 → cloE b = 0 → sizeL (prT ls ++ [a, b]) ≤ 900) :
    Calls Tryz.prog 15 #[u, .agg #[.string a.name, .slice aa a.args.length ca], .agg #[.string b.name, .slice ab b.args.length cb]] w (KSmP ls a b w) := by
  obtain ⟨ua, uc, rfl, hul, huu⟩ := id hu
  have B1 := (Below.refl w.heap.size w).alloc (Nat.le_refl _) (.cells #[.string a.name, .slice aa a.args.length ca] 25)
  have B2 := B1.alloc B1.size (.cells #[.string b.name, .slice ab b.args.length cb] 25)
  have HB := hide B2
  have P1 : Hid (Blk ((w.alloc (.cells #[.string a.name, .slice aa a.args.length ca] 25)).alloc (.cells #[.string b.name, .slice ab b.args.length cb] 25)) w.heap.size #[.string a.name, .slice aa a.args.length ca] 25) := (Blk.new w _ _).alloc _
  have P2 : Hid (Blk ((w.alloc (.cells #[.string a.name, .slice aa a.args.length ca] 25)).alloc (.cells #[.string b.name, .slice ab b.args.length cb] 25)) (w.heap.size + 1) #[.string b.name, .slice ab b.args.length cb] 25) := by
    have h := Blk.new (w.alloc (.cells #[.string a.name, .slice aa a.args.length ca] 25)) #[.string b.name, .slice ab b.args.length cb] 25
    rw [World.size_alloc] at h
    exact h
  have HU := hide (hu.later B2)
  have HSA := hide (hsa.later B2)
  have HSB := hide (hsb.later B2)
  have HT := hide hT
  have HZ := hide hz
  have HBT := hide hBT
  have Z2 : Hid (((w.alloc (.cells #[.string a.name, .slice aa a.args.length ca] 25)).alloc (.cells #[.string b.name, .slice ab b.args.length cb] 25)).heap.size = w.heap.size + 2) := by unfold Hid; simp
  clear hu hsa hsb hT hz B1 B2 huu hBT
  go_enter Tryz.func15, Tryz.ntmps15
  go_upto_region 1 with fail
  generalize ((w.alloc (.cells #[.string a.name, .slice aa a.args.length ca] 25)).alloc (.cells #[.string b.name, .slice ab b.args.length cb] 25)) = w1 at *
  obtain ⟨Pa, hPa⟩ : ∃ P, P = w.heap.size := ⟨_, rfl⟩
  obtain ⟨Pb, hPb⟩ : ∃ P, P = w.heap.size + 1 := ⟨_, rfl⟩
  rw [← hPa] at P1
  rw [← hPb] at P2
  have HPP : Hid (Pa = w.heap.size ∧ Pb = w.heap.size + 1) := ⟨hPa, hPb⟩
  rw [← hPb, ← hPa]
  clear hPb hPa
  go_wp2_with fail
  refine (kcheck_any ls _ w1 X HU.out).mono ?_
  rintro e w2 ⟨rfl, hb2⟩
  have HB2 := hide (HB.out.trans (hb2.mono HB.out.size))
  have HW2 := hide hb2
  clear hb2
  by_cases hg : grdE ls = 0
  · have HG := hide hg
    rw [hg]
    clear hg
    have Q1 := P1.out.below HW2.out P1.out.lt
    have p0 := Q1.cell 0
    have p1 := Q1.cell 1
    have SA := HSA.out.later HW2.out
    clear Q1
    go_wp2_with fail
    refine (kclosed_any a aa ca w2 X SA).mono ?_
    rintro e w3 ⟨rfl, hb3⟩
    have HB3 := hide (HB2.out.trans (hb3.mono HB2.out.size))
    have HW3 := hide (HW2.out.trans (hb3.mono HW2.out.size))
    clear hb3 p0 p1 SA
    by_cases ha : cloE a = 0
    · have HA := hide ha
      rw [ha]
      clear ha
      have Q2 := P2.out.below HW3.out P2.out.lt
      have p0 := Q2.cell 0
      have p1 := Q2.cell 1
      have SB := HSB.out.later HW3.out
      clear Q2
      go_wp2_with fail
      refine (kclosed_any b ab cb w3 X SB).mono ?_
      rintro e w4 ⟨rfl, hb4⟩
      have HB4 := hide (HB3.out.trans (hb4.mono HB3.out.size))
      have HW4 := hide (HW3.out.trans (hb4.mono HW3.out.size))
      clear hb4 p0 p1 SB
      by_cases hb : cloE b = 0
      · have HBB := hide hb
        rw [hb]
        clear hb
        have Q1 := P1.out.below HW4.out P1.out.lt
        have Q2 := P2.out.below HW4.out P2.out.lt
        have p0 := Q1.cell 0
        have p1 := Q1.cell 1
        have q0 := Q2.cell 0
        have q1 := Q2.cell 1
        clear Q1 Q2
        have HL : Hid (∃ X' : Nat → Prop, (∀ z, X' z → z < (w4.alloc (.cells #[.string a.name, .slice aa a.args.length ca, .string b.name, .slice ab b.args.length cb] 25)).heap.size) ∧ QV (w4.alloc (.cells #[.string a.name, .slice aa a.args.length ca, .string b.name, .slice ab b.args.length cb] 25)) X' (.slice ua ls.length uc) ls ∧ Sl (w4.alloc (.cells #[.string a.name, .slice aa a.args.length ca, .string b.name, .slice ab b.args.length cb] 25)) X' (some ⟨w4.heap.size, 0, none⟩) [a, b]) := by
          have hbq : Below w4.heap.size w4 (w4.alloc (.cells #[.string a.name, .slice aa a.args.length ca, .string b.name, .slice ab b.args.length cb] 25)) := (Below.refl _ _).alloc (Nat.le_refl _) _
          refine ⟨fun z => z < (w4.alloc (.cells #[.string a.name, .slice aa a.args.length ca, .string b.name, .slice ab b.args.length cb] 25)).heap.size, fun z h => h, ?_, ?_⟩
          · exact ((HU.out.later HW4.out).later hbq).mono fun b _ h => h
          · have hlt : w4.heap.size < (w4.alloc (.cells #[.string a.name, .slice aa a.args.length ca, .string b.name, .slice ab b.args.length cb] 25)).heap.size := by simp
            have k := Blk.new w4 #[.string a.name, .slice aa a.args.length ca, .string b.name, .slice ab b.args.length cb] 25
            have sa := ((HSA.out.later HW4.out).later hbq).mono (Y := fun z => z < (w4.alloc (.cells #[.string a.name, .slice aa a.args.length ca, .string b.name, .slice ab b.args.length cb] 25)).heap.size) fun b _ h => h
            have sb := ((HSB.out.later HW4.out).later hbq).mono (Y := fun z => z < (w4.alloc (.cells #[.string a.name, .slice aa a.args.length ca, .string b.name, .slice ab b.args.length cb] 25)).heap.size) fun b _ h => h
            exact slK_two hlt (k.cell 0) (k.cell 1) sa (k.cell 2) (k.cell 3) sb
        have HB5 : Hid (Below w.heap.size w (w4.alloc (.cells #[.string a.name, .slice aa a.args.length ca, .string b.name, .slice ab b.args.length cb] 25))) := HB4.out.alloc HB4.out.size _
        go_wp2_with fail
        clear p0 p1 q0 q1
        generalize (w4.alloc (.cells #[.string a.name, .slice aa a.args.length ca, .string b.name, .slice ab b.args.length cb] 25)) = w5 at *
        obtain ⟨X', hX', hu5, hs5⟩ := HL.out
        clear HL
        have hb0 : Below w.heap.size w w5 := HB5.out
        refine (closed_any ls [a, b] _ _ 2 w5 X' hu5 hs5 (HT.out.on (HB5.out.mono HBT.out)) (Nat.le_trans HBT.out HB5.out.size) hX' (prT_err2 HG.out HA.out HBB.out) (HZ.out HG.out HA.out HBB.out) (Nat.le_trans (pairsE_len (grd_pairs HG.out)) (by omega))).mono ?_
        rintro e w6 ⟨N, Bk, r, k, m, o, nv, ns, rfl, hBk, hK, hN, hns, hlt, hnum, hdone, hmem, _, _, _, hb6⟩
        have HB6 := hide (hb0.trans (hb6.mono hb0.size))
        clear hb6 hb0 hu5 hs5 hX'
        obtain ⟨n0, n1, rfl⟩ : ∃ n0 n1, ns = [n0, n1] := by
          match ns, hns with
          | [], h => simp at h
          | [x], h => simp at h
          | [x, y], h => exact ⟨x, y, rfl⟩
          | x :: y :: z :: r, h => simp at h
        have ht : k.T n0 = a ∧ k.T n1 = b := by simpa using hns
        have hl0 : n0 < k.ts.length := hlt n0 (by simp)
        have hl1 : n1 < k.ts.length := hlt n1 (by simp)
        have hlen := hnum.len
        obtain ⟨g2, c2, b2, cA, _⟩ := hK.cl_at (i := n0) (by omega)
        obtain ⟨g2', c2', b2', cB, _⟩ := hK.cl_at (i := n1) (by omega)
        rw [b2] at b2'
        simp at b2'
        obtain ⟨rfl, rfl⟩ := b2'
        obtain ⟨an, cn, rfl⟩ := hN.shape
        obtain ⟨gn, u0, rfl, hu0, cn0, _⟩ := hN.at (i := 0) (by simp [iL])
        obtain ⟨gn', u1, he1, hu1, cn1, _⟩ := hN.at (i := 1) (by simp [iL])
        simp at he1
        subst he1
        have e0 : u0 = iV n0 := iL_at hu0
        have e1 : u1 = iV n1 := iL_at hu1
        subst e0 e1
        rw [show (iL [n0, n1]).length = 2 from rfl]
        have HANS : Hid (k.C n0 = k.C n1 ↔ Cg ls (· ∈ preL (prT ls ++ [a, b])) a b) := by
          have h := num_iff hnum hdone hl0 hl1 (by omega) (by omega)
          unfold Hid
          rw [← Cg.iff hmem, ← ht.1, ← ht.2]
          unfold Kl.C Kl.T
          rw [gd_get hl0, gd_get hl1, gd_get (show n0 < k.cl.length by omega), gd_get (show n1 < k.cl.length by omega)]
          exact h
        have hi0 : (n0 : Int) < (k.cl.length : Int) := by omega
        have hi1 : (n1 : Int) < (k.cl.length : Int) := by omega
        clear hK hN hns hlt hnum hdone hmem hu0 hu1 hlen ht hl0 hl1
        generalize k.C n0 = x0 at *
        generalize k.C n1 = x1 at *
        generalize k.cl.length = kl at *
        go_wp2_with fail
        go_quiet (fail)
        go_wp2_with fail
        refine bodyPost_ret (v := .tuple #[.bool ((x0 : Int) == (x1 : Int)), .int .i64 0]) (by simp [results, Tryz.results15, go_sem]) rfl ?_
        exact ⟨below_drewN HB6.out _, Or.inr (Or.inr (Or.inr ⟨HG.out, HA.out, HBB.out, _, rfl, by rw [← HANS.out]; simp; omega⟩))⟩
      · have HE : Hid (cloE b ≠ 0) := hb
        have hne : (cloE b != 0) = true := by simp [hb]
        obtain ⟨er, her⟩ : ∃ er, er = cloE b := ⟨_, rfl⟩
        rw [← her] at hne ⊢
        have HER := hide her
        clear her hb
        go_wp2_with fail
        refine bodyPost_ret (v := .tuple #[.bool false, .int .i64 er]) (by simp [results, Tryz.results15, go_sem]) rfl ?_
        exact ⟨HB4.out, Or.inr (Or.inr (Or.inl ⟨HG.out, HA.out, HE.out, by rw [← HER.out]⟩))⟩
    · have HE : Hid (cloE a ≠ 0) := ha
      have hne : (cloE a != 0) = true := by simp [ha]
      obtain ⟨er, her⟩ : ∃ er, er = cloE a := ⟨_, rfl⟩
      rw [← her] at hne ⊢
      have HER := hide her
      clear her ha
      go_wp2_with fail
      refine bodyPost_ret (v := .tuple #[.bool false, .int .i64 er]) (by simp [results, Tryz.results15, go_sem]) rfl ?_
      exact ⟨HB3.out, Or.inr (Or.inl ⟨HG.out, HE.out, by rw [← HER.out]⟩)⟩
  · have HE : Hid (grdE ls ≠ 0) := hg
    have hne : (grdE ls != 0) = true := by simp [hg]
    obtain ⟨er, her⟩ : ∃ er, er = grdE ls := ⟨_, rfl⟩
    rw [← her] at hne ⊢
    have HER := hide her
    clear her hg
    go_wp2_with fail
    refine bodyPost_ret (v := .tuple #[.bool false, .int .i64 er]) (by simp [results, Tryz.results15, go_sem]) rfl ?_
    exact ⟨HB2.out, Or.inl ⟨HE.out, by rw [← HER.out]⟩⟩
end Go.Proofs.YtdmaijmglblccaaGreatDoor

/- Bindings in the order of their names: plain. -/
namespace Go.Proofs.YtdmaijmglblccaaGreatDoor
open Go.RowKit
set_option linter.unusedSimpArgs false
set_option linter.unusedVariables false

/-- One text is ahead of another one. -/
def ltB (a b : ByteArray) : Bool := Op.bytesLess a.toList b.toList
theorem bl_irrefl : ∀ a : List UInt8, Op.bytesLess a a = false
  | [] => rfl
  | x :: r => by simp [Op.bytesLess, bl_irrefl r]
theorem bl_trans : ∀ a b c : List UInt8, Op.bytesLess a b = true → Op.bytesLess b c = true → Op.bytesLess a c = true
  | _, [], _, h, _ => by simp [Op.bytesLess] at h
  | _, _ :: _, [], _, h => by simp [Op.bytesLess] at h
  | [], _ :: _, _ :: _, _, _ => by simp [Op.bytesLess]
  | x :: a, y :: b, z :: c, h1, h2 => by
    simp only [Op.bytesLess, Bool.or_eq_true, Bool.and_eq_true, decide_eq_true_eq, beq_iff_eq] at h1 h2 ⊢
    rw [UInt8.lt_iff_toNat_lt] at h1 h2 ⊢
    rcases h1 with h1 | ⟨rfl, h1⟩ <;> rcases h2 with h2 | ⟨rfl, h2⟩
    · left; omega
    · left; exact h1
    · left; exact h2
    · right; exact ⟨rfl, bl_trans a b c h1 h2⟩
theorem bl_conn : ∀ a b : List UInt8, Op.bytesLess a b = false → Op.bytesLess b a = false → a = b
  | [], [], _, _ => rfl
  | [], _ :: _, h, _ => by simp [Op.bytesLess] at h
  | _ :: _, [], _, h => by simp [Op.bytesLess] at h
  | x :: a, y :: b, h1, h2 => by
    simp only [Op.bytesLess, Bool.or_eq_false_iff, decide_eq_false_iff_not] at h1 h2
    obtain ⟨h1, h3⟩ := h1
    obtain ⟨h2, h4⟩ := h2
    rw [UInt8.lt_iff_toNat_lt] at h1 h2
    have e : x = y := UInt8.toNat_inj.mp (by omega)
    subst e
    simp only [BEq.rfl, Bool.true_and] at h3 h4
    rw [bl_conn a b h3 h4]
theorem ltB_irrefl (a : ByteArray) : ltB a a = false := bl_irrefl _
theorem ltB_trans {a b c : ByteArray} (h1 : ltB a b = true) (h2 : ltB b c = true) : ltB a c = true := bl_trans _ _ _ h1 h2
theorem ltB_conn {a b : ByteArray} (h1 : ltB a b = false) (h2 : ltB b a = false) : a = b := bytes_inj (bl_conn _ _ h1 h2)
theorem ltB_asymm {a b : ByteArray} (h : ltB a b = true) : ltB b a = false := by
  cases hb : ltB b a with
  | false => rfl
  | true => have := ltB_trans h hb; rw [ltB_irrefl] at this; cases this
/-- No name twice, and each ahead of the next. -/
def SortedB (l : List Bd) : Prop := l.Pairwise fun a b => ltB a.nm b.nm = true
/-- No name twice. -/
def ApartB (l : List Bd) : Prop := l.Pairwise fun a b => a.nm ≠ b.nm
theorem SortedB.apart {l : List Bd} (h : SortedB l) : ApartB l := h.imp fun {a b} h e => by rw [e, ltB_irrefl] at h; cases h
end Go.Proofs.YtdmaijmglblccaaGreatDoor

/- Walks: two rows of texts compared (slices.Compare, cmp.Compare). -/
namespace Go.Proofs.YtdmaijmglblccaaGreatDoor
open Go.RowKit
set_option linter.unusedSimpArgs false
set_option linter.unusedVariables false
set_option maxRecDepth 8000

def cmS (a b : ByteArray) : Int := if ltB a b = true then -1 else if a = b then 0 else 1
def cmR : List ByteArray → List ByteArray → Int
  | [], [] => 0
  | [], _ :: _ => -1
  | _ :: _, [] => 1
  | a :: r, b :: q => if cmS a b = 0 then cmR r q else cmS a b
theorem isNaNs_any (a : ByteArray) (w : World) : Calls Tryz.prog 100 #[.string a] w fun e w' => e = .returned (.bool false) ∧ w' = w := by
  go_enter Tryz.func100, Tryz.ntmps100
  go_wp2_with fail
  go_ret
  exact ⟨by simp, rfl⟩
set_option maxHeartbeats 1000000 in
theorem cmpS_any (a b : ByteArray) (w : World) : Calls Tryz.prog 70 #[.string a, .string b] w fun e w' => e = .returned (.int .i64 (cmS a b)) ∧ w' = w := by
  have h1 : ltB a b = Op.bytesLess a.toList b.toList := rfl
  have h2 : ltB b a = Op.bytesLess b.toList a.toList := rfl
  go_enter Tryz.func70, Tryz.ntmps70
  go_wp2_with fail
  refine (isNaNs_any a w).mono ?_
  rintro e w1 ⟨rfl, rfl⟩
  go_wp2_with fail
  refine (isNaNs_any b w1).mono ?_
  rintro e w2 ⟨rfl, rfl⟩
  cases ha : ltB a b with
  | true =>
    have hr : cmS a b = -1 := by unfold cmS; rw [if_pos ha]
    rw [h1] at ha
    go_wp2_with fail
    go_ret
    exact ⟨by rw [hr]; rfl, rfl⟩
  | false =>
    by_cases hb : a = b
    · have hr : cmS a b = 0 := by unfold cmS; rw [if_neg (by rw [ha]; simp), if_pos hb]
      have he : (a.toList == b.toList) = true := by rw [hb]; simp
      rw [h1] at ha
      clear hb
      go_wp2_with fail
      go_ret
      exact ⟨by rw [hr]; rfl, rfl⟩
    · have hr : cmS a b = 1 := by unfold cmS; rw [if_neg (by rw [ha]; simp), if_neg hb]
      have he : (a.toList == b.toList) = false := by
        simp only [beq_eq_false_iff_ne]
        intro e
        exact hb (bytes_inj e)
      rw [h1] at ha
      clear hb
      go_wp2_with fail
      go_ret
      exact ⟨by rw [hr]; rfl, rfl⟩
theorem cmR_drop1 {l m : List ByteArray} {k : Nat} (h1 : k < l.length) (h2 : m.length ≤ k) : cmR (l.drop k) (m.drop k) = 1 := by
  rw [List.drop_eq_getElem_cons h1, List.drop_of_length_le h2]; rfl
theorem cmR_drop2 {l m : List ByteArray} {k : Nat} (h1 : k < l.length) (h2 : k < m.length) : cmR (l.drop k) (m.drop k) = if cmS l[k] m[k] = 0 then cmR (l.drop (k + 1)) (m.drop (k + 1)) else cmS l[k] m[k] := by
  rw [List.drop_eq_getElem_cons h1, List.drop_eq_getElem_cons h2]; rfl
theorem cmR_drop3 {l m : List ByteArray} {k : Nat} (h1 : l.length ≤ k) (h2 : k < m.length) : cmR (l.drop k) (m.drop k) = -1 := by
  rw [List.drop_of_length_le h1, List.drop_eq_getElem_cons h2]; rfl
theorem cmR_drop4 {l m : List ByteArray} {k : Nat} (h1 : l.length ≤ k) (h2 : m.length ≤ k) : cmR (l.drop k) (m.drop k) = 0 := by
  rw [List.drop_of_length_le h1, List.drop_of_length_le h2]; rfl
/-- A row of texts as it lies. -/
def Stx (w : World) (v : Value) (l : List ByteArray) : Prop := ∃ g c, v = .slice (some ⟨g, 0, none⟩) l.length c ∧ g < w.heap.size ∧ l.length ≤ 1000000 ∧ ∀ j (h : j < l.length), w.cell? ⟨g, j, none⟩ = some (.string l[j])
set_option maxHeartbeats 1000000 in
theorem cmpR_any (l m : List ByteArray) (u v : Value) (w : World) (hu : Stx w u l) (hv : Stx w v m) : Calls Tryz.prog 51 #[u, v] w fun e w' => e = .returned (.int .i64 (cmR l m)) ∧ w' = w := by
  obtain ⟨g1, c1, rfl, _, hl1, hc1⟩ := hu
  obtain ⟨g2, c2, rfl, _, hl2, hc2⟩ := hv
  have HC1 := hide hc1
  have HC2 := hide hc2
  clear hc1 hc2
  go_enter Tryz.func51, Tryz.ntmps51
  go_wp2_with fail
  go_loop [11] (fun i => ∃ k : Nat, k ≤ l.length ∧ k ≤ m.length ∧ i = .int .i64 (k : Int) ∧ cmR l m = cmR (l.drop k) (m.drop k)) (fun i => l.length - (intOf i).toNat)
  case atStart => exact ⟨0, Nat.zero_le _, Nat.zero_le _, rfl, by simp⟩
  case round =>
    obtain ⟨k, hk, hkm, rfl, hr⟩ := hrel
    have HR := hide hr
    clear hr
    by_cases hlt : k < l.length
    · have hki : (k : Int) < (l.length : Int) := by omega
      have e1 := HC1.out k hlt
      by_cases hm : k < m.length
      · have hmi : (k : Int) < (m.length : Int) := by omega
        have hmj : ¬ (m.length : Int) ≤ (k : Int) := by omega
        have e2 := HC2.out k hm
        have HS := hide (HR.out.trans (cmR_drop2 hlt hm))
        go_wp2_with fail
        refine (cmpS_any l[k] m[k] w).mono ?_
        rintro e w1 ⟨rfl, rfl⟩
        by_cases hz : cmS l[k] m[k] = 0
        · have HS2 : Hid (cmR l m = cmR (l.drop (k + 1)) (m.drop (k + 1))) := by unfold Hid; rw [HS.out, if_pos hz]
          rw [hz]
          clear hz
          go_wp2_with fail
          go_round
          case rel => exact ⟨k + 1, by omega, by omega, by go_num, HS2.out⟩
          case measure => simp [intOf]; omega
        · have HS2 : Hid (cmR l m = cmS l[k] m[k]) := by unfold Hid; rw [HS.out, if_neg hz]
          have hne : (cmS l[k] m[k] != 0) = true := by simp [hz]
          clear hz
          generalize cmS l[k] m[k] = x at *
          go_wp2_with fail
          go_ret
          exact ⟨by rw [HS2.out]; rfl, rfl⟩
      · have hmi : (m.length : Int) ≤ (k : Int) := by omega
        have HS := hide (HR.out.trans (cmR_drop1 hlt (by omega)))
        go_wp2_with fail
        go_ret
        exact ⟨by rw [HS.out]; rfl, rfl⟩
    · have hki : ¬ (k : Int) < (l.length : Int) := by omega
      by_cases hm : k < m.length
      · have hmi : (l.length : Int) < (m.length : Int) := by omega
        have HS := hide (HR.out.trans (cmR_drop3 (by omega) hm))
        go_wp2_with fail
        go_ret
        exact ⟨by rw [HS.out]; rfl, rfl⟩
      · have hmi : ¬ (l.length : Int) < (m.length : Int) := by omega
        have HS := hide (HR.out.trans (cmR_drop4 (by omega) (by omega)))
        go_wp2_with fail
        go_ret
        exact ⟨by rw [HS.out]; rfl, rfl⟩
end Go.Proofs.YtdmaijmglblccaaGreatDoor

/- What comes of putting a term at a place. -/
namespace Go.Proofs.YtdmaijmglblccaaGreatDoor

end Go.Proofs.YtdmaijmglblccaaGreatDoor

/- A slice without its first. -/
namespace Go.Proofs.YtdmaijmglblccaaGreatDoor
open Go.RowKit
set_option linter.unusedSimpArgs false
set_option linter.unusedVariables false

end Go.Proofs.YtdmaijmglblccaaGreatDoor


/- The library's Clone at rows of terms. -/
namespace Go.Proofs.YtdmaijmglblccaaGreatDoor
open Go.RowKit Go.Shelf
set_option linter.unusedSimpArgs false
set_option linter.unusedVariables false
set_option maxRecDepth 8000

end Go.Proofs.YtdmaijmglblccaaGreatDoor


/- Walks: a term with another one at a place that it has. -/
namespace Go.Proofs.YtdmaijmglblccaaGreatDoor
open Go.RowKit
set_option linter.unusedSimpArgs false
set_option linter.unusedVariables false
set_option maxRecDepth 8000

theorem RowT.put {w : World} {X : Nat → Prop} {y : Tm} {a : Option Addr} {c : Nat} (hy : Sl w X a y.args) : ∀ {l : List Tm} {xs : List Value} (k : Nat), RowT w X l xs → k < l.length → RowT w X (l.set k y) ((xs.set (k * 2) (.string y.name)).set (k * 2 + 1) (.slice a y.args.length c))
  | [], xs, k, h, hk => by simp at hk
  | t :: l, xs, 0, h, _ => by
    obtain ⟨a', c', r, rfl, h1, h2⟩ := h
    exact ⟨a, c, r, by simp, hy, h2⟩
  | t :: l, xs, k + 1, h, hk => by
    obtain ⟨a', c', r, rfl, h1, h2⟩ := h
    refine ⟨a', c', (r.set (k * 2) (.string y.name)).set (k * 2 + 1) (.slice a y.args.length c), ?_, h1, RowT.put hy k h2 (by simpa using hk)⟩
    have e : (k + 1) * 2 = k * 2 + 1 + 1 := by omega
    rw [e]
    simp
end Go.Proofs.YtdmaijmglblccaaGreatDoor


/- Walks: a term with another one at a place, as the document says. -/
namespace Go.Proofs.YtdmaijmglblccaaGreatDoor
open Go.RowKit
set_option linter.unusedSimpArgs false
set_option linter.unusedVariables false
set_option maxRecDepth 8000

end Go.Proofs.YtdmaijmglblccaaGreatDoor


/- Walks: two answers that are terms. -/
namespace Go.Proofs.YtdmaijmglblccaaGreatDoor
open Go.RowKit
set_option linter.unusedSimpArgs false
set_option linter.unusedVariables false

end Go.Proofs.YtdmaijmglblccaaGreatDoor


/- Walks: Put, and the law on it. -/
namespace Go.Proofs.YtdmaijmglblccaaGreatDoor
open Go.RowKit
set_option linter.unusedSimpArgs false
set_option linter.unusedVariables false
set_option maxRecDepth 8000

end Go.Proofs.YtdmaijmglblccaaGreatDoor

/- Walks: the text of a term, as the program writes it. -/
namespace Go.Proofs.YtdmaijmglblccaaGreatDoor
open Go.RowKit
set_option linter.unusedSimpArgs false
set_option linter.unusedVariables false
set_option maxRecDepth 8000

theorem TV.bfr {w w' : World} {X : Nat → Prop} {v q q' : Value} {t : Tm} {b : Nat} (h : TV w X v t) (hf : BFr w w' b q q') (hX : ∀ x, X x → x ≠ b ∧ some x ≠ q.ownBlock) : TV w' X v t := by
  have h1 : TV w (fun x => X x ∧ x < w.heap.size) v t := h.mono fun b h1 h2 => ⟨h1, h2⟩
  have h2 : TV w' (fun x => X x ∧ x < w.heap.size) v t := h1.kept fun x hx => hf.2.2.2.2.1 x hx.2 (hX x hx.1).1 (hX x hx.1).2
  exact h2.mono fun b hx _ => hx.1
theorem Sl.bfr {w w' : World} {X : Nat → Prop} {a : Option Addr} {q q' : Value} {l : List Tm} {b : Nat} (h : Sl w X a l) (hf : BFr w w' b q q') (hX : ∀ x, X x → x ≠ b ∧ some x ≠ q.ownBlock) : Sl w' X a l := by
  have h1 : Sl w (fun x => X x ∧ x < w.heap.size) a l := h.mono fun b h1 h2 => ⟨h1, h2⟩
  have h2 : Sl w' (fun x => X x ∧ x < w.heap.size) a l := h1.kept fun x hx => hf.2.2.2.2.1 x hx.2 (hX x hx.1).1 (hX x hx.1).2
  exact h2.mono fun b hx _ => hx.1
theorem Bld.alloc {w : World} {B b : Nat} {bs : List Value} {v : Value} (h : Bld w B b bs v) (o : Obj) : Bld (w.alloc o) B b bs v := by
  obtain ⟨hB, ⟨p, hp, hb⟩, hown⟩ := h
  exact ⟨hB, ⟨p, hp, by rw [Below.heap_alloc _ _ _ (bd_lt hb)]; exact hb⟩, hown.alloc o⟩
theorem Bld.lt {w : World} {B b : Nat} {bs : List Value} {v : Value} (h : Bld w B b bs v) : b < w.heap.size := by
  obtain ⟨_, ⟨p, _, hb⟩, _⟩ := h
  exact bd_lt hb
theorem Bld.old {w : World} {B b : Nat} {bs : List Value} {v : Value} (h : Bld w B b bs v) {x : Nat} (hx : x < B) : x ≠ b ∧ some x ≠ v.ownBlock := by
  refine ⟨by have := h.1; omega, fun e => ?_⟩
  have := (h.2.2.lt x e.symm).1; omega
theorem Blk.bfr {w w' : World} {b k T : Nat} {q q' : Value} {cs : Array Value} (h : Blk w k cs T) (hf : BFr w w' b q q') (hk : k ≠ b) (hq : some k ≠ q.ownBlock) : Blk w' k cs T := by
  unfold Blk at *; rw [hf.2.2.2.2.1 k (Blk.lt h) hk hq]; exact h

def bytesV (l : List UInt8) : List Value := l.map fun b => Value.int .u8 b.toNat
theorem bytesV_len (l : List UInt8) : (bytesV l).length = l.length := by simp [bytesV]
theorem bytesV_str (pre : List UInt8) (s : ByteArray) : bytesV pre ++ Lib.strCells s = bytesV (pre ++ s.data.toList) := by simp [bytesV, Lib.strCells]
theorem bytesV_one (pre : List UInt8) (c : UInt8) : bytesV pre ++ [.int .u8 c.toNat] = bytesV (pre ++ [c]) := by simp [bytesV]

/-- The new box is none of the Builder's. -/
theorem Bld.box {w : World} {B b : Nat} {bs : List Value} {v : Value} (h : Bld w B b bs v) : w.heap.size ≠ b ∧ some w.heap.size ≠ v.ownBlock := by
  refine ⟨by have := h.lt; omega, fun e => ?_⟩
  have := (h.2.2.lt _ e.symm).2; omega

theorem own_box {w wr : World} {b : Nat} {q0 q : Value} {o : Obj} (h : some w.heap.size ≠ q0.ownBlock) (hf : BFr (w.alloc o) wr b q0 q) : some w.heap.size ≠ q.ownBlock := fun e => by
  rcases hf.2.2.2.2.2 _ e.symm with h1 | h1
  · exact h h1.symm
  · simp at h1; omega

/-- What holds at each round's head of writing. -/
def WrInv (w : World) (B b : Nat) (v0 : Value) (pre : List UInt8) (s : ByteArray) (l : List Tm) (i : Value) (wr : World) : Prop :=
  ∃ (k : Nat) (q : Value), k ≤ l.length ∧ i = .int .i64 k ∧ Bld wr B b (bytesV (pre ++ s.data.toList ++ 40 :: txtL (l.take k))) q ∧ BFr w wr b v0 q

theorem wr_take0 (pre : List UInt8) (s : ByteArray) (l : List Tm) : pre ++ s.data.toList ++ ([40] : List UInt8) = pre ++ s.data.toList ++ 40 :: txtL (l.take 0) := by simp [txtL]
theorem wr_take1 (pre : List UInt8) (s : ByteArray) (l : List Tm) (h : 0 < l.length) : pre ++ s.data.toList ++ 40 :: txtL (l.take 0) ++ txtL [l[0]'h] = pre ++ s.data.toList ++ 40 :: txtL (l.take (0 + 1)) := by
  rw [List.take_succ_eq_append_getElem h]; simp [txtL]
theorem wr_takeS (pre : List UInt8) (s : ByteArray) (l : List Tm) (k : Nat) (hk : 0 < k) (h : k < l.length) : pre ++ s.data.toList ++ 40 :: txtL (l.take k) ++ ([44] : List UInt8) ++ txtL [l[k]] = pre ++ s.data.toList ++ 40 :: txtL (l.take (k + 1)) := by
  have h1 : l.take k ≠ [] := by
    intro e
    have h3 := congrArg List.length e
    rw [List.length_take] at h3
    simp only [List.length_nil] at h3
    omega
  rw [List.take_succ_eq_append_getElem h, txtL_append _ _ h1 (by simp)]; simp
theorem wr_end (pre : List UInt8) (s : ByteArray) (l : List Tm) (h : l ≠ []) : pre ++ s.data.toList ++ 40 :: txtL l ++ ([41] : List UInt8) = pre ++ txtL [(⟨s, l⟩ : Tm)] := by
  rw [txtL_one, if_neg (by simpa using h)]; simp
theorem wr_len (pre : List UInt8) (s : ByteArray) (l : List Tm) (k : Nat) (h : l ≠ []) (hk : k ≤ l.length) : (pre ++ s.data.toList ++ 40 :: txtL (l.take k)).length ≤ pre.length + (txtL [(⟨s, l⟩ : Tm)]).length := by
  by_cases h0 : k = 0
  · subst h0
    rw [txtL_one, if_neg (by simpa using h)]
    simp [txtL]
  · have h1 := txtTo_len s l k hk
    unfold txtTo at h1
    rw [if_neg h0] at h1
    simp only [List.length_append] at *
    omega

set_option maxHeartbeats 2000000 in
theorem write_any (t : Tm) : ∀ (v q0 : Value) (pre : List UInt8) (B b : Nat) (w : World) (X : Nat → Prop), TV w X v t → (∀ x, X x → x < B) → Bld w B b (bytesV pre) q0 → B ≤ w.heap.size → pre.length + (txtL [t]).length ≤ 900000000 →
    Calls Tryz.prog 65 #[.pointer (some ⟨b, 0, none⟩), v] w fun e w' => e = .returned (.tuple #[]) ∧ ∃ q, Bld w' B b (bytesV (pre ++ txtL [t])) q ∧ BFr w w' b q0 q := by
  induction t using Tm.ind with
  | h s l ih =>
    intro v q0 pre B b w X hv hX hbd hB hsm
    have IH := hide ih
    clear ih
    obtain ⟨a, c, rfl, hs⟩ := hv
    have hl := hs.1
    have hsz : s.size ≤ (txtL [(⟨s, l⟩ : Tm)]).length := by
      rw [txtL_one]; have h2 : s.data.toList.length = s.size := by rw [Array.length_toList]; rfl
      simp only [List.length_append]; omega
    have HBD := hide hbd
    have hbox := hbd.box
    clear hbd
    go_enter Tryz.func65, Tryz.ntmps65
    go_wp2_with fail
    refine (writeString_any B b _ q0 s _ (by exact HBD.out.alloc _) (by rw [bytesV_len]; omega) (by simp; omega)).mono ?_
    rintro e w1 ⟨rfl, q1, hbd1, hfr1⟩
    rw [bytesV_str] at hbd1
    have K1 := hide ((Blk.new w #[.string s, .slice a l.length c] 25).bfr hfr1 hbox.1 hbox.2)
    have HFR1 := hide hfr1
    have HW0 := hide (BFr.of_below ((Below.refl w.heap.size w).alloc (Nat.le_refl _) (.cells #[.string s, .slice a l.length c] 25)) b q0)
    have c1 : w1.cell? ⟨w.heap.size, 1, none⟩ = some (.slice a l.length c) := K1.out.cell 1
    have HBD1 := hide hbd1
    clear hfr1 hbd1
    by_cases hn : l = []
    · subst hn
      have HE := hide (txt_nil s)
      go_wp2_with fail
      refine bodyPost_ret (v := .tuple #[]) (by simp [results, Tryz.results65, go_sem]) rfl ?_
      exact ⟨rfl, q1, by rw [HE.out]; exact HBD1.out, HW0.out.trans HFR1.out⟩
    · have hlp : 0 < l.length := List.length_pos_iff.2 hn
      have hlp' : (((l.length : Nat) : Int) == 0) = false := by simp; omega
      have HN := hide hn
      have hw0 := wr_len pre s l 0 hn (Nat.zero_le _)
      have hp1 : (bytesV (pre ++ s.data.toList)).length ≤ 900000000 := by rw [bytesV_len]; simp only [List.length_append, List.length_cons] at hw0 ⊢; omega
      clear hn hw0
      go_wp2_with fail
      refine (writeByte_any B b _ q1 40 _ (by exact HBD1.out) (by omega) (by have := HFR1.out.2.2.2.1; simp at this; omega)).mono ?_
      rintro e w2 ⟨rfl, q2, hbd2, hfr2⟩
      have hbd2' : Bld w2 B b (bytesV (pre ++ s.data.toList ++ 40 :: txtL (l.take 0))) q2 := by
        have h3 := bytesV_one (pre ++ s.data.toList) 40
        rw [← wr_take0, ← h3]; exact hbd2
      have HBD2 := hide hbd2'
      have HFR2 := hide (HFR1.out.trans hfr2)
      have K2 := hide (K1.out.bfr hfr2 hbox.1 (own_box hbox.2 HFR1.out))
      have c2 : w2.cell? ⟨w.heap.size, 1, none⟩ = some (.slice a l.length c) := K2.out.cell 1
      clear hbd2 hbd2' hfr2 c1
      go_wp2_with fail
      go_loopw [19] (fun i wr => WrInv (w.alloc (.cells #[.string s, .slice a l.length c] 25)) B b q0 pre s l i wr) (fun i wr => l.length - (intOf i).toNat)
      case atStart => exact ⟨0, q2, Nat.zero_le _, rfl, HBD2.out, HFR2.out⟩
      case round =>
        obtain ⟨k, q, hk, rfl, hbdk, hfrk⟩ := hrel
        have HBK := hide hbdk
        have HFK := hide hfrk
        have hwl := wr_len pre s l k HN.out hk
        have hBr : B ≤ wr.heap.size := by have := hfrk.2.2.2.1; simp at this; omega
        by_cases hlt : k < l.length
        · have hsr := (hs.later ((Below.refl w.heap.size w).alloc (Nat.le_refl _) (.cells #[.string s, .slice a l.length c] 25))).bfr hfrk (fun x hx => HBD.out.old (hX x hx))
          obtain ⟨bx, o, a', c', rfl, d0, d1, hx⟩ := hsr.get (Below.refl wr.heap.size wr) (fun _ _ h => h) k hlt
          have HX := hide hx
          have hwl2 := wr_len pre s l (k + 1) HN.out (by omega)
          clear hbdk hfrk hsr hx
          by_cases hk0 : k = 0
          · subst hk0
            simp only [Nat.zero_mul, Nat.add_zero] at d0 d1
            have HE := hide (wr_take1 pre s l hlt)
            have hln : (pre ++ s.data.toList ++ 40 :: txtL (l.take 0)).length + (txtL [l[0]]).length ≤ 900000000 := by
              rw [← HE.out] at hwl2; simp only [List.length_append] at hwl2 ⊢; omega
            clear hwl hwl2
            go_wp2_with fail
            refine (IH.out _ (List.getElem_mem hlt) _ q _ B b _ X (by exact HX.out.alloc _) hX (by exact HBK.out.alloc _) (by simp; omega) hln).mono ?_
            rintro e w5 ⟨rfl, q5, hbd5, hfr5⟩
            have HBD5 := hide hbd5
            have HFR5 := hide (HFK.out.trans ((BFr.of_below ((Below.refl wr.heap.size wr).alloc (Nat.le_refl _) _) b q).trans hfr5))
            clear hbd5 hfr5
            go_wp2_with fail
            go_roundw
            case rel => exact ⟨0 + 1, q5, by omega, by go_num, by rw [← HE.out]; exact HBD5.out, HFR5.out⟩
            case measure => simp [intOf]; omega
          · have hkp : 0 < k := by omega
            have HE := hide (wr_takeS pre s l k hkp hlt)
            have hln : (pre ++ s.data.toList ++ 40 :: txtL (l.take k) ++ ([44] : List UInt8)).length + (txtL [l[k]]).length ≤ 900000000 := by
              rw [← HE.out] at hwl2; simp only [List.length_append] at hwl2 ⊢; omega
            have hbk : (bytesV (pre ++ s.data.toList ++ 40 :: txtL (l.take k))).length ≤ 1000000000 := by rw [bytesV_len]; omega
            clear hwl hwl2 hk0
            go_wp2_with fail
            refine (writeByte_any B b _ q 44 _ (by exact HBK.out.alloc _) hbk (by simp; omega)).mono ?_
            rintro e w4 ⟨rfl, q4, hbd4, hfr4⟩
            have hbd4' : Bld w4 B b (bytesV (pre ++ s.data.toList ++ 40 :: txtL (l.take k) ++ ([44] : List UInt8))) q4 := by
              have h3 := bytesV_one (pre ++ s.data.toList ++ 40 :: txtL (l.take k)) 44
              rw [← h3]; exact hbd4
            have HX4 := hide ((HX.out.alloc (.cells #[.string l[k].name, .slice a' l[k].args.length c'] 25)).bfr hfr4 (fun x hx => HBK.out.old (hX x hx)))
            have hb4 := HBK.out.box
            have K4 := hide ((Blk.new wr #[.string l[k].name, .slice a' l[k].args.length c'] 25).bfr hfr4 hb4.1 hb4.2)
            have e0 : w4.cell? ⟨wr.heap.size, 0, none⟩ = some (.string l[k].name) := K4.out.cell 0
            have e1 : w4.cell? ⟨wr.heap.size, 1, none⟩ = some (.slice a' l[k].args.length c') := K4.out.cell 1
            have hB4 : B ≤ w4.heap.size := by have := hfr4.2.2.2.1; simp at this; omega
            have HBD4 := hide hbd4'
            have HFR4 := hide (HFK.out.trans ((BFr.of_below ((Below.refl wr.heap.size wr).alloc (Nat.le_refl _) _) b q).trans hfr4))
            clear hbd4 hbd4' hfr4 hb4
            go_wp2_with fail
            refine (IH.out _ (List.getElem_mem hlt) _ q4 _ B b _ X (by exact HX4.out) hX (by exact HBD4.out) hB4 hln).mono ?_
            rintro e w5 ⟨rfl, q5, hbd5, hfr5⟩
            have HBD5 := hide hbd5
            have HFR5 := hide (HFR4.out.trans hfr5)
            clear hbd5 hfr5
            go_wp2_with fail
            go_roundw
            case rel => exact ⟨k + 1, q5, by omega, by go_num, by rw [← HE.out]; exact HBD5.out, HFR5.out⟩
            case measure => simp [intOf]; omega
        · have htk : l.take k = l := List.take_of_length_le (by omega)
          have hbk : (bytesV (pre ++ s.data.toList ++ 40 :: txtL (l.take k))).length ≤ 1000000000 := by rw [bytesV_len]; omega
          rw [htk] at hbdk hbk
          have HBE := hide hbdk
          have HE := hide (wr_end pre s l HN.out)
          clear hbdk hfrk hwl htk
          go_wp2_with fail
          refine (writeByte_any B b _ q 41 _ (by exact HBE.out) hbk hBr).mono ?_
          rintro e w4 ⟨rfl, q4, hbd4, hfr4⟩
          have hbd4' : Bld w4 B b (bytesV (pre ++ txtL [(⟨s, l⟩ : Tm)])) q4 := by
            have h3 := bytesV_one (pre ++ s.data.toList ++ 40 :: txtL l) 41
            rw [← HE.out, ← h3]; exact hbd4
          have HBD4 := hide hbd4'
          have HFR4 := hide (HW0.out.trans (HFK.out.trans hfr4))
          clear hbd4 hbd4' hfr4
          go_wp2_with fail
          go_end0
          exact ⟨rfl, q4, HBD4.out, HFR4.out⟩
end Go.Proofs.YtdmaijmglblccaaGreatDoor


/- Walks: the variables of a term, as the program gathers them. -/
namespace Go.Proofs.YtdmaijmglblccaaGreatDoor
open Go.RowKit
set_option linter.unusedSimpArgs false
set_option linter.unusedVariables false

theorem Sl.grown {w w' : World} {X : Nat → Prop} {a : Option Addr} {l : List Tm} {r : Option Nat} (h : Sl w X a l) (hg : w.grownBy w' r) (hX : ∀ b, X b → some b ≠ r) : Sl w' X a l := by
  have h1 : Sl w (fun b => X b ∧ b < w.heap.size) a l := h.mono fun b h1 h2 => ⟨h1, h2⟩
  have h2 : Sl w' (fun b => X b ∧ b < w.heap.size) a l := h1.kept fun b hx => hg.block b hx.2 (hX b hx.1)
  exact h2.mono fun b hx _ => hx.1

theorem err_name {s : ByteArray} {l : List Tm} (h : errL [(⟨s, l⟩ : Tm)] = 0) : nameB s = true ∧ errL l = 0 := by
  simp only [errL] at h
  split at h
  · refine ⟨by assumption, ?_⟩
    split at h
    · exact absurd h (by decide)
    · split at h
      · assumption
      · exact h
  · exact absurd h (by decide)

theorem NamesAt.lv {w0 w1 : World} {B : Nat} {q0 q1 : Value} {acc1 : List ByteArray} (h : NamesAt w0 B q0 acc1 q1 w1) : LV Value.string w1 (fun b => B ≤ b) q1 acc1 := LV.of_own h.1

theorem NamesAt.refl {w : World} {B : Nat} {q : Value} {acc : List ByteArray} (h : w.ownsRow B 9 1 q acc.length (acc.map Value.string)) : NamesAt w B q acc q w :=
  ⟨h, grown_of_below (Below.refl _ _) _, fun _ h => Or.inl h⟩

end Go.Proofs.YtdmaijmglblccaaGreatDoor


/- Walks: Text. -/
namespace Go.Proofs.YtdmaijmglblccaaGreatDoor
open Go.RowKit
set_option linter.unusedSimpArgs false
set_option linter.unusedVariables false
set_option maxRecDepth 8000

theorem name_le {s : ByteArray} (h : nameB s = true) : s.size ≤ 8 := by
  simp [nameB] at h; omega

/-- A text is not long. -/
theorem txt_len (l : List Tm) (h : errL l = 0) : (txtL l).length ≤ 11 * sizeL l := by
  induction l using Tm.indL with
  | h0 => simp [txtL]
  | h s l r ihl ihr =>
    rw [errL_cons] at h
    by_cases h0 : errL [(⟨s, l⟩ : Tm)] = 0
    · rw [if_pos h0] at h
      obtain ⟨hn, hl⟩ := err_name h0
      have h1 := ihl hl
      have h2 := ihr h
      have h3 := name_le hn
      have h4 : s.data.toList.length = s.size := by rw [Array.length_toList]; rfl
      simp only [txtL, sizeL, List.length_append]
      split <;> split <;> simp only [List.length_nil, List.length_cons, List.length_append] <;> omega
    · rw [if_neg h0] at h; exact absurd h h0

theorem bytes_cells (l : List UInt8) : bytesV l = Lib.byteCells l := rfl

set_option maxHeartbeats 1000000 in
theorem ktext_any (t : Tm) (v : Value) (w : World) (X : Nat → Prop) (hv : TV w X v t) (hlen : (txtL [t]).length ≤ 1000000) :
    Calls Tryz.prog 48 #[v] w fun e w' => e = .returned (.string ⟨(txtL [t]).toArray⟩) ∧ Below w.heap.size w w' := by
  obtain ⟨X', hX, hv'⟩ : ∃ X' : Nat → Prop, (∀ b, X' b → b < w.heap.size) ∧ TV w X' v t := ⟨fun b => X b ∧ b < w.heap.size, fun _ h => h.2, hv.mono fun b h1 h2 => ⟨h1, h2⟩⟩
  clear hv
  obtain ⟨a, c, rfl, hs⟩ := hv'
  have HV := hide (show TV w X' (.agg #[.string t.name, .slice a t.args.length c]) t from ⟨a, c, rfl, hs⟩)
  clear hs
  generalize hR : (.string ⟨(txtL [t]).toArray⟩ : Value) = R
  have HR := hide hR
  clear hR
  have K1 := hide (Blk.new w #[.string t.name, .slice a t.args.length c] 25)
  have HB := hide ((Below.refl w.heap.size w).alloc (Nat.le_refl _) (.cells #[.string t.name, .slice a t.args.length c] 25))
  have c0 : ∀ o, ((w.alloc (.cells #[.string t.name, .slice a t.args.length c] 25)).alloc o).cell? ⟨w.heap.size, 0, none⟩ = some (.string t.name) := fun o => (K1.out.alloc o).cell 0
  have c1 : ∀ o, ((w.alloc (.cells #[.string t.name, .slice a t.args.length c] 25)).alloc o).cell? ⟨w.heap.size, 1, none⟩ = some (.slice a t.args.length c) := fun o => (K1.out.alloc o).cell 1
  have HBD : Hid (Bld ((w.alloc (.cells #[.string t.name, .slice a t.args.length c] 25)).alloc (.cells #[.pointer none, .slice none 0 0] 100)) (w.heap.size + 1) (w.heap.size + 1) (bytesV []) (.slice none 0 0)) := ⟨Nat.le_refl _, ⟨_, Or.inl rfl, by have h := heap_alloc_new (w.alloc (.cells #[.string t.name, .slice a t.args.length c] 25)) (.cells #[.pointer none, .slice none 0 0] 100); simpa using h⟩, World.ownsRow_nil _ _ _ _⟩
  go_enter Tryz.func48, Tryz.ntmps48
  go_wp2_with fail
  have hz1 : (w.alloc (.cells #[.string t.name, .slice a t.args.length c] 25)).heap.size = w.heap.size + 1 := by simp
  generalize (w.alloc (.cells #[.string t.name, .slice a t.args.length c] 25)) = w1 at *
  rw [← hz1] at HBD ⊢
  clear hz1
  refine (write_any t _ _ [] w1.heap.size w1.heap.size _ X' (by exact (HV.out.later HB.out).alloc _) (fun b hb => by have := hX b hb; have := HB.out.size; omega) (by exact HBD.out) (by simp) (by simp; omega)).mono ?_
  rintro e w3 ⟨rfl, q3, hbd3, hfr3⟩
  have HISB : Hid (Lib.IsBuilder 100 5 w1.heap.size w1.heap.size (Lib.byteCells (txtL [t])) w3) := by
    have h1 : Bld w3 w1.heap.size w1.heap.size (Lib.byteCells (txtL [t])) q3 := by simpa [bytes_cells] using hbd3
    have hne := bd_ne h1
    obtain ⟨g1, ⟨p, hp, hb⟩, hown⟩ := h1
    rcases hp with rfl | rfl
    · exact Or.inl ⟨g1, q3, hb, hown, hne⟩
    · exact Or.inr ⟨g1, q3, hb, hown, hne⟩
  have hsz3 : w1.heap.size ≤ w3.heap.size := by have := hfr3.2.2.2.1; simp at this; omega
  have HB3 : Hid (Below w.heap.size w w3) := by
    refine HB.out.trans ⟨hfr3.1, hfr3.2.1, hfr3.2.2.1, hsz3, fun k hk => ?_⟩
    have hk1 : k < w1.heap.size := Nat.lt_of_lt_of_le hk HB.out.size
    rw [hfr3.2.2.2.2.1 k (by simp; omega) (by omega) (by simp [Value.ownBlock]), Below.heap_alloc _ _ _ hk1]
  clear hbd3 hfr3 c0 c1
  go_wp2_with fail
  refine (Tryz.Builder_String_any w1.heap.size w1.heap.size (txtL [t]) _ HISB.out hsz3).mono ?_
  rintro e w4 ⟨rfl, hb4⟩
  go_wp2_with fail
  go_ret
  exact ⟨by rw [← HR.out]; rfl, HB3.out.trans (hb4.mono HB.out.size)⟩

end Go.Proofs.YtdmaijmglblccaaGreatDoor

/- Plain: automata on terms: both at once, one beside the other. -/
namespace Go.Proofs.YtdmaijmglblccaaGreatDoor
open Go.RowKit
set_option linter.unusedSimpArgs false
set_option linter.unusedVariables false
set_option maxRecDepth 8000

/-- A move, an automaton. -/
structure Mv where
  name : ByteArray
  frm : List Int
  to : Int
structure Au where
  st : Int
  mv : List Mv
  la : List Int

/-- What a move is that may be. -/
structure OkMv (n : Int) (m : Mv) : Prop where
  nm : (nameB m.name && !varB m.name) = true
  len : m.frm.length ≤ 4
  frm : ∀ s ∈ m.frm, 0 ≤ s ∧ s < n
  to : 0 ≤ m.to ∧ m.to < n
structure OkAu (S M : Nat) (A : Au) : Prop where
  pos : 0 ≤ A.st
  st : A.st ≤ S
  len : A.mv.length ≤ M
  mv : ∀ m ∈ A.mv, OkMv A.st m
  la : ∀ s ∈ A.la, 0 ≤ s ∧ s < A.st
/-- Where a term may end. -/
def bitAt (l : List Bool) (i : Int) : Bool := (l[i.toNat]?).getD false
/-- Both at once. -/
def twoI (q s r : Int) : Int := s * q + r
/-- A piece of memory of both. -/
def Rl (p q : Int) (x a b : List Bool) : Prop := ∀ s r : Int, (0 ≤ s ∧ s < p) → (0 ≤ r ∧ r < q) → bitAt x (twoI q s r) = (bitAt a s && bitAt b r)
def RlL (p q : Int) : List (List Bool) → List (List Bool) → List (List Bool) → Prop
  | [], [], [] => True
  | x :: X, a :: A, b :: B => Rl p q x a b ∧ RlL p q X A B
  | _, _, _ => False
theorem RlL.len {p q : Int} : ∀ {X A B : List (List Bool)}, RlL p q X A B → X.length = A.length ∧ X.length = B.length
  | [], [], [], _ => ⟨rfl, rfl⟩
  | x :: X, a :: A, b :: B, h => by have := RlL.len h.2; simp [this.1, this.2]; omega
  | [], [], _ :: _, h => h.elim
  | [], _ :: _, _, h => h.elim
  | _ :: _, [], _, h => h.elim
  | _ :: _, _ :: _, [], h => h.elim
/-- A piece of memory of one beside the other. -/
def Rs (p q : Int) (x a b : List Bool) : Prop := (∀ s : Int, (0 ≤ s ∧ s < p) → bitAt x s = bitAt a s) ∧ ∀ r : Int, (0 ≤ r ∧ r < q) → bitAt x (p + r) = bitAt b r
def RsL (p q : Int) : List (List Bool) → List (List Bool) → List (List Bool) → Prop
  | [], [], [] => True
  | x :: X, a :: A, b :: B => Rs p q x a b ∧ RsL p q X A B
  | _, _, _ => False
theorem RsL.len {p q : Int} : ∀ {X A B : List (List Bool)}, RsL p q X A B → X.length = A.length ∧ X.length = B.length
  | [], [], [], _ => ⟨rfl, rfl⟩
  | x :: X, a :: A, b :: B, h => by have := RsL.len h.2; simp [this.1, this.2]; omega
  | [], [], _ :: _, h => h.elim
  | [], _ :: _, _, h => h.elim
  | _ :: _, [], _, h => h.elim
  | _ :: _, _ :: _, [], h => h.elim
end Go.Proofs.YtdmaijmglblccaaGreatDoor


/- Automata in memory. -/
namespace Go.Proofs.YtdmaijmglblccaaGreatDoor
open Go.RowKit
set_option linter.unusedSimpArgs false
set_option linter.unusedVariables false
set_option maxRecDepth 8000

theorem cell_ltA {w : World} {b o : Nat} {v : Value} (h : w.cell? ⟨b, o, none⟩ = some v) : b < w.heap.size := World.block_lt_of_cell? w _ h
/-- A move lies there. -/
def MvAt (w : World) (X : Nat → Prop) (b o : Nat) (m : Mv) : Prop :=
  w.cell? ⟨b, o, none⟩ = some (.string m.name) ∧ (∃ a c, w.cell? ⟨b, o + 1, none⟩ = some (.slice a m.frm.length c) ∧ PV w X (.slice a m.frm.length c) m.frm) ∧ w.cell? ⟨b, o + 2, none⟩ = some (.int .i64 m.to)
def SlV (w : World) (X : Nat → Prop) (a : Option Addr) (l : List Mv) : Prop := l.length ≤ 9223372036854775807 ∧ (l = [] ∨ ∃ b o, a = some ⟨b, o, none⟩ ∧ X b ∧ ∀ i (h : i < l.length), MvAt w X b (o + i * 3) l[i])
def AV (w : World) (X : Nat → Prop) (v : Value) (A : Au) : Prop := ∃ am cm al cl, v = .agg #[.int .i64 A.st, .slice am A.mv.length cm, .slice al A.la.length cl] ∧ SlV w X am A.mv ∧ PV w X (.slice al A.la.length cl) A.la
theorem MvAt.later {w w' : World} {X : Nat → Prop} {b o : Nat} {m : Mv} (h : MvAt w X b o m) (hb : Below w.heap.size w w') : MvAt w' X b o m := by
  obtain ⟨h0, ⟨a, c, h1, h2⟩, h3⟩ := h
  exact ⟨(hb.cell (p := ⟨b, o, none⟩) (cell_ltA h0)).trans h0, ⟨a, c, (hb.cell (p := ⟨b, o + 1, none⟩) (cell_ltA h1)).trans h1, h2.later hb⟩, (hb.cell (p := ⟨b, o + 2, none⟩) (cell_ltA h3)).trans h3⟩
theorem SlV.later {w w' : World} {X : Nat → Prop} {a : Option Addr} {l : List Mv} (h : SlV w X a l) (hb : Below w.heap.size w w') : SlV w' X a l := by
  obtain ⟨hl, h⟩ := h
  refine ⟨hl, ?_⟩
  rcases h with h | ⟨b, o, e, hx, h⟩
  · exact Or.inl h
  · exact Or.inr ⟨b, o, e, hx, fun i hi => (h i hi).later hb⟩
theorem SlV.mono {w : World} {X Y : Nat → Prop} {a : Option Addr} {l : List Mv} (h : SlV w X a l) (hk : ∀ b, X b → b < w.heap.size → Y b) : SlV w Y a l := by
  obtain ⟨hl, h⟩ := h
  refine ⟨hl, ?_⟩
  rcases h with h | ⟨b, o, e, hx, h⟩
  · exact Or.inl h
  · by_cases h0 : l = []
    · exact Or.inl h0
    · refine Or.inr ⟨b, o, e, hk b hx (cell_ltA (h 0 (List.length_pos_iff.2 h0)).1), fun i hi => ?_⟩
      obtain ⟨g0, ⟨a', c', g1, g2⟩, g3⟩ := h i hi
      exact ⟨g0, ⟨a', c', g1, g2.mono hk⟩, g3⟩
theorem AV.later {w w' : World} {X : Nat → Prop} {v : Value} {A : Au} (h : AV w X v A) (hb : Below w.heap.size w w') : AV w' X v A := by
  obtain ⟨am, cm, al, cl, e, h1, h2⟩ := h
  exact ⟨am, cm, al, cl, e, h1.later hb, h2.later hb⟩
theorem SlV.get {w wr : World} {X : Nat → Prop} {a : Option Addr} {l : List Mv} (h : SlV w X a l) (hb : Below w.heap.size w wr) (k : Nat) (hk : k < l.length) :
    ∃ b o af cf, a = some ⟨b, o, none⟩ ∧ b < w.heap.size ∧ wr.cell? ⟨b, o + k * 3, none⟩ = some (.string l[k].name) ∧ wr.cell? ⟨b, o + k * 3 + 1, none⟩ = some (.slice af l[k].frm.length cf) ∧ wr.cell? ⟨b, o + k * 3 + 2, none⟩ = some (.int .i64 l[k].to) ∧ PV wr X (.slice af l[k].frm.length cf) l[k].frm := by
  rcases h.2 with h0 | ⟨b, o, e, hx, h1⟩
  · subst h0; simp at hk
  · have hl := cell_ltA (h1 k hk).1
    obtain ⟨g0, ⟨a', c', g1, g2⟩, g3⟩ := (h1 k hk).later hb
    exact ⟨b, o, a', c', e, hl, g0, g1, g3, g2⟩
theorem PV.at {w wr : World} {X : Nat → Prop} {a : Option Addr} {n c : Nat} {zs : List Int} (h : PV w X (.slice a n c) zs) (hb : Below w.heap.size w wr) (k : Nat) (hk : k < zs.length) : ∃ b o, a = some ⟨b, o, none⟩ ∧ b < w.heap.size ∧ wr.cell? ⟨b, o + k, none⟩ = some (.int .i64 zs[k]) := by
  obtain ⟨a', c', e, _, h⟩ := h
  simp only [Value.slice.injEq] at e
  obtain ⟨rfl, rfl, rfl⟩ := e
  rcases h with h0 | ⟨b, o, e, hx, h1⟩
  · subst h0; simp at hk
  · have hl := cell_ltA (h1 k hk)
    exact ⟨b, o, e, hl, (hb.cell (p := ⟨b, o + k, none⟩) hl).trans (h1 k hk)⟩
theorem PV.len {w : World} {X : Nat → Prop} {a : Option Addr} {n c : Nat} {zs : List Int} (h : PV w X (.slice a n c) zs) : zs.length ≤ 9223372036854775807 ∧ n = zs.length := by
  obtain ⟨a', c', e, hl, h⟩ := h
  simp only [Value.slice.injEq] at e
  exact ⟨hl.1, e.2.1⟩

/-- These cells are these moves. -/
def RowTV (w : World) (X : Nat → Prop) : List Mv → List Value → Prop
  | [], xs => xs = []
  | m :: r, xs => ∃ a c q, xs = .string m.name :: .slice a m.frm.length c :: .int .i64 m.to :: q ∧ PV w X (.slice a m.frm.length c) m.frm ∧ RowTV w X r q
theorem RowTV.append {w : World} {X : Nat → Prop} : ∀ {l k : List Mv} {xs ys : List Value}, RowTV w X l xs → RowTV w X k ys → RowTV w X (l ++ k) (xs ++ ys)
  | [], k, xs, ys, h, h' => by simp [RowTV] at h; subst h; simpa using h'
  | t :: l, k, xs, ys, h, h' => by
    obtain ⟨a, c, r, rfl, hs, h⟩ := h
    exact ⟨a, c, r ++ ys, rfl, hs, RowTV.append h h'⟩
theorem RowTV.imp {w w' : World} {X Y : Nat → Prop} (hs : ∀ v l, PV w X v l → PV w' Y v l) : ∀ {l : List Mv} {xs : List Value}, RowTV w X l xs → RowTV w' Y l xs
  | [], xs, h => h
  | t :: l, xs, h => by
    obtain ⟨a, c, r, e, h1, h⟩ := h
    exact ⟨a, c, r, e, hs _ _ h1, RowTV.imp hs h⟩
theorem RowTV.get {w : World} {X : Nat → Prop} : ∀ {l : List Mv} {xs : List Value}, RowTV w X l xs → ∀ (k : Nat) (h : k < l.length), ∃ a c, xs[k * 3]? = some (.string l[k].name) ∧ xs[k * 3 + 1]? = some (.slice a l[k].frm.length c) ∧ xs[k * 3 + 2]? = some (.int .i64 l[k].to) ∧ PV w X (.slice a l[k].frm.length c) l[k].frm
  | t :: l, xs, h, 0, _ => by
    obtain ⟨a, c, r, rfl, hs, _⟩ := h
    exact ⟨a, c, rfl, rfl, rfl, hs⟩
  | t :: l, xs, h, k + 1, hk => by
    obtain ⟨a, c, r, rfl, _, h⟩ := h
    obtain ⟨a', c', h1, h2, h3, h4⟩ := RowTV.get h k (by simpa using hk)
    refine ⟨a', c', ?_, ?_, ?_, h4⟩
    · rw [show (k + 1) * 3 = k * 3 + 3 by omega]; simpa using h1
    · rw [show (k + 1) * 3 + 1 = k * 3 + 1 + 3 by omega]; simpa using h2
    · rw [show (k + 1) * 3 + 2 = k * 3 + 2 + 3 by omega]; simpa using h3

end Go.Proofs.YtdmaijmglblccaaGreatDoor


/- Walks: states, sets of them. -/
namespace Go.Proofs.YtdmaijmglblccaaGreatDoor
open Go.RowKit
set_option linter.unusedSimpArgs false
set_option linter.unusedVariables false
set_option maxRecDepth 8000

end Go.Proofs.YtdmaijmglblccaaGreatDoor


/- Walks: an automaton is asked; its last states. -/
namespace Go.Proofs.YtdmaijmglblccaaGreatDoor
open Go.RowKit
set_option linter.unusedSimpArgs false
set_option linter.unusedVariables false
set_option maxRecDepth 8000

end Go.Proofs.YtdmaijmglblccaaGreatDoor


/- Walks: may an automaton be? -/
namespace Go.Proofs.YtdmaijmglblccaaGreatDoor
open Go.RowKit
set_option linter.unusedSimpArgs false
set_option linter.unusedVariables false
set_option maxRecDepth 8000

end Go.Proofs.YtdmaijmglblccaaGreatDoor


/- Walks: may an automaton be, as the document says? -/
namespace Go.Proofs.YtdmaijmglblccaaGreatDoor
open Go.RowKit
set_option linter.unusedSimpArgs false
set_option linter.unusedVariables false
set_option maxRecDepth 8000

end Go.Proofs.YtdmaijmglblccaaGreatDoor


/- Walks: one automaton beside the other. -/
namespace Go.Proofs.YtdmaijmglblccaaGreatDoor
open Go.RowKit
set_option linter.unusedSimpArgs false
set_option linter.unusedVariables false
set_option maxRecDepth 8000

theorem PV.ex {w w' : World} {O : Nat} {X : Nat → Prop} {v : Value} {zs : List Int} (h : PV w X v zs) (he : Ex O w w') (hX : ∀ b, X b → b ≠ O) : PV w' X v zs :=
  ((h.mono (Y := fun b => X b ∧ b < w.heap.size) fun b h1 h2 => ⟨h1, h2⟩).kept fun b hb => he.block b hb.2 (hX b hb.1)).mono fun b hb _ => hb.1
theorem cell_ex {w w' : World} {O b o : Nat} {u : Value} (h : w.cell? ⟨b, o, none⟩ = some u) (he : Ex O w w') (hb : b ≠ O) : w'.cell? ⟨b, o, none⟩ = some u := by
  rw [World.cell?_of_block (he.block b (cell_ltA h) hb)]; exact h
theorem SlV.ex {w w' : World} {O : Nat} {X : Nat → Prop} {a : Option Addr} {l : List Mv} (h : SlV w X a l) (he : Ex O w w') (hX : ∀ b, X b → b ≠ O) : SlV w' X a l := by
  obtain ⟨hl, h⟩ := h
  refine ⟨hl, ?_⟩
  rcases h with h | ⟨b, o, e, hx, h⟩
  · exact Or.inl h
  · refine Or.inr ⟨b, o, e, hx, fun i hi => ?_⟩
    obtain ⟨g0, ⟨a', c', g1, g2⟩, g3⟩ := h i hi
    exact ⟨cell_ex g0 he (hX b hx), ⟨a', c', cell_ex g1 he (hX b hx), g2.ex he hX⟩, cell_ex g3 he (hX b hx)⟩
end Go.Proofs.YtdmaijmglblccaaGreatDoor


/- Walks: Either. -/
namespace Go.Proofs.YtdmaijmglblccaaGreatDoor
open Go.RowKit
set_option linter.unusedSimpArgs false
set_option linter.unusedVariables false
set_option maxRecDepth 8000

theorem AV.mono {w : World} {X Y : Nat → Prop} {v : Value} {A : Au} (h : AV w X v A) (hk : ∀ b, X b → b < w.heap.size → Y b) : AV w Y v A := by
  obtain ⟨am, cm, al, cl, e, h1, h2⟩ := h
  exact ⟨am, cm, al, cl, e, h1.mono hk, h2.mono hk⟩
theorem AV.ex {w w' : World} {O : Nat} {X : Nat → Prop} {v : Value} {A : Au} (h : AV w X v A) (he : Ex O w w') (hX : ∀ b, X b → b ≠ O) : AV w' X v A := by
  obtain ⟨am, cm, al, cl, e, h1, h2⟩ := h
  exact ⟨am, cm, al, cl, e, h1.ex he hX, h2.ex he hX⟩
end Go.Proofs.YtdmaijmglblccaaGreatDoor


/- Walks: Either, and what is asked first. -/
namespace Go.Proofs.YtdmaijmglblccaaGreatDoor
open Go.RowKit
set_option linter.unusedSimpArgs false
set_option linter.unusedVariables false
set_option maxRecDepth 8000

end Go.Proofs.YtdmaijmglblccaaGreatDoor


/- Walks: Either. -/
namespace Go.Proofs.YtdmaijmglblccaaGreatDoor
open Go.RowKit
set_option linter.unusedSimpArgs false
set_option linter.unusedVariables false
set_option maxRecDepth 8000

end Go.Proofs.YtdmaijmglblccaaGreatDoor


/- Both at once: plain, and the closure. -/
namespace Go.Proofs.YtdmaijmglblccaaGreatDoor
open Go.RowKit
set_option linter.unusedSimpArgs false
set_option linter.unusedVariables false
set_option maxRecDepth 8000

theorem SlV.at {w : World} {X : Nat → Prop} {a : Option Addr} {l : List Mv} (h : SlV w X a l) (k : Nat) (hk : k < l.length) :
    ∃ b o af cf, a = some ⟨b, o, none⟩ ∧ X b ∧ w.cell? ⟨b, o + k * 3, none⟩ = some (.string l[k].name) ∧ w.cell? ⟨b, o + k * 3 + 1, none⟩ = some (.slice af l[k].frm.length cf) ∧ w.cell? ⟨b, o + k * 3 + 2, none⟩ = some (.int .i64 l[k].to) ∧ PV w X (.slice af l[k].frm.length cf) l[k].frm := by
  rcases h.2 with h0 | ⟨b, o, e, hx, h1⟩
  · subst h0; simp at hk
  · obtain ⟨g0, ⟨a', c', g1, g2⟩, g3⟩ := h1 k hk
    exact ⟨b, o, a', c', e, hx, g0, g1, g3, g2⟩
end Go.Proofs.YtdmaijmglblccaaGreatDoor


/- Walks: where a term may end, as the document says. -/
namespace Go.Proofs.YtdmaijmglblccaaGreatDoor
open Go.RowKit
set_option linter.unusedSimpArgs false
set_option linter.unusedVariables false
set_option maxRecDepth 8000

theorem LV.at {α : Type} {f : α → Value} {w wr : World} {X : Nat → Prop} {a : Option Addr} {n c : Nat} {l : List α} (h : LV f w X (.slice a n c) l) (hb : Below w.heap.size w wr) (k : Nat) (hk : k < l.length) : ∃ b o, a = some ⟨b, o, none⟩ ∧ b < w.heap.size ∧ wr.cell? ⟨b, o + k, none⟩ = some (f l[k]) := by
  obtain ⟨a', c', e, _, h⟩ := h
  simp only [Value.slice.injEq] at e
  obtain ⟨rfl, rfl, rfl⟩ := e
  rcases h with h0 | ⟨b, o, e, hx, h1⟩
  · subst h0; simp at hk
  · have hl := cell_ltA (h1 k hk)
    exact ⟨b, o, e, hl, (hb.cell (p := ⟨b, o + k, none⟩) hl).trans (h1 k hk)⟩
/-- Rows of answers in memory. -/
def BLs (w : World) (X : Nat → Prop) (v : Value) (bs : List (List Bool)) : Prop := ∃ a c, v = .slice a bs.length c ∧ bs.length ≤ 9223372036854775807 ∧ (bs = [] ∨ ∃ b o, a = some ⟨b, o, none⟩ ∧ ∀ i (h : i < bs.length), ∃ a' c', w.cell? ⟨b, o + i, none⟩ = some (.slice a' bs[i].length c') ∧ LV Value.bool w X (.slice a' bs[i].length c') bs[i])
theorem BLs.get {w wr : World} {X : Nat → Prop} {a : Option Addr} {n c : Nat} {bs : List (List Bool)} (h : BLs w X (.slice a n c) bs) (hb : Below w.heap.size w wr) (k : Nat) (hk : k < bs.length) : ∃ b o a' c', a = some ⟨b, o, none⟩ ∧ b < w.heap.size ∧ wr.cell? ⟨b, o + k, none⟩ = some (.slice a' bs[k].length c') ∧ LV Value.bool wr X (.slice a' bs[k].length c') bs[k] := by
  obtain ⟨a0, c0, e, _, h⟩ := h
  simp only [Value.slice.injEq] at e
  obtain ⟨rfl, rfl, rfl⟩ := e
  rcases h with h0 | ⟨b, o, e, h1⟩
  · subst h0; simp at hk
  · obtain ⟨a', c', h2, h3⟩ := h1 k hk
    exact ⟨b, o, a', c', e, cell_ltA h2, (hb.cell (p := ⟨b, o + k, none⟩) (cell_ltA h2)).trans h2, h3.later hb⟩
theorem BLs.later {w w' : World} {X : Nat → Prop} {v : Value} {bs : List (List Bool)} (h : BLs w X v bs) (hb : Below w.heap.size w w') : BLs w' X v bs := by
  obtain ⟨a, c, e, hl, h⟩ := h
  refine ⟨a, c, e, hl, ?_⟩
  rcases h with h | ⟨b, o, e, h⟩
  · exact Or.inl h
  · refine Or.inr ⟨b, o, e, fun i hi => ?_⟩
    obtain ⟨a', c', h1, h2⟩ := h i hi
    exact ⟨a', c', (hb.cell (p := ⟨b, o + i, none⟩) (cell_ltA h1)).trans h1, h2.later hb⟩

end Go.Proofs.YtdmaijmglblccaaGreatDoor

/- Boxes: a term that lies in a block of its own. -/
namespace Go.Proofs.YtdmaijmglblccaaGreatDoor
open Go.RowKit
set_option linter.unusedSimpArgs false
set_option linter.unusedVariables false
set_option maxRecDepth 8000

/-- A term in a box. -/
def BxT (w : World) (A : Nat) (t : Tm) (a : Option Addr) (c : Nat) : Prop := Blk w A #[.string t.name, .slice a t.args.length c] 25 ∧ Sl w (fun _ => True) a t.args
theorem BxT.later {w w' : World} {A : Nat} {t : Tm} {a : Option Addr} {c : Nat} (h : BxT w A t a c) (hb : Below w.heap.size w w') : BxT w' A t a c := ⟨h.1.below hb h.1.lt, h.2.later hb⟩
theorem BxT.new {w : World} {t : Tm} {a : Option Addr} {c : Nat} {X : Nat → Prop} (h : Sl w X a t.args) : BxT (w.alloc (.cells #[.string t.name, .slice a t.args.length c] 25)) w.heap.size t a c :=
  ⟨Blk.new w _ _, (h.mono fun _ _ _ => trivial).later ((Below.refl _ _).alloc (Nat.le_refl _) _)⟩
theorem BxT.cs {w : World} {A : Nat} {t : Tm} {a : Option Addr} {c : Nat} (h : BxT w A t a c) : w.cell? ⟨A, 0, none⟩ = some (.string t.name) ∧ w.cell? ⟨A, 1, none⟩ = some (.slice a t.args.length c) := ⟨h.1.cell 0, h.1.cell 1⟩
theorem BxT.tv {w : World} {A : Nat} {t : Tm} {a : Option Addr} {c : Nat} (h : BxT w A t a c) : TV w (fun _ => True) (.agg #[.string t.name, .slice a t.args.length c]) t := ⟨a, c, rfl, h.2⟩
end Go.Proofs.YtdmaijmglblccaaGreatDoor


/- Walks: where terms of one symbol may end, by sets of states (auto.mayGo, auto.end). -/
namespace Go.Proofs.YtdmaijmglblccaaGreatDoor
open Go.RowKit
set_option linter.unusedSimpArgs false
set_option linter.unusedVariables false
set_option maxRecDepth 8000

/-- Those of one symbol. -/
def grp (ms : List Mv) (s : ByteArray × Nat) : List Mv := ms.filter fun m => decide (m.name = s.1) && decide (m.frm.length = s.2)
end Go.Proofs.YtdmaijmglblccaaGreatDoor


/- Maps by symbols, and the table of moves by symbols, in memory. -/
namespace Go.Proofs.YtdmaijmglblccaaGreatDoor
open Go.RowKit
open Go.WideMaps
set_option linter.unusedSimpArgs false
set_option linter.unusedVariables false
set_option maxRecDepth 8000

abbrev Sy := ByteArray × Nat
def symV (s : Sy) : Value := .agg #[.string s.1, .int .i64 (s.2 : Int)]
def SyOk (s : Sy) : Prop := s.1.size ≤ 1000000 ∧ s.2 ≤ 1000000
/-- Symbols and their numbers. -/
def MapY (w : World) (r : Nat) (L : List Sy) : Prop :=
  ∃ es clk, w.heap[r]? = some (.map es clk) ∧ es.toList.map (fun e => (e.key, e.val)) = (L.zipIdx).map (fun p => (symV p.1, Value.int .i64 (p.2 : Int))) ∧ ∀ s ∈ L, SyOk s
theorem MapY.new (w : World) : MapY (w.alloc (.map #[] 0)) w.heap.size [] := ⟨#[], 0, heap_alloc_new w _, by simp, by simp⟩
theorem MapY.lt {w : World} {r : Nat} {L : List Sy} (h : MapY w r L) : r < w.heap.size := by
  obtain ⟨es, clk, h, _⟩ := h
  exact (Array.getElem?_eq_some_iff.1 h).1
theorem MapY.kept {w w' : World} {r : Nat} {L : List Sy} (h : MapY w r L) (hk : w'.heap[r]? = w.heap[r]?) : MapY w' r L := by
  obtain ⟨es, clk, h1, h2⟩ := h
  exact ⟨es, clk, hk.trans h1, h2⟩
theorem MapY.entry {L : List Sy} {es : Array MapEntry} (h : es.toList.map (fun e => (e.key, e.val)) = (L.zipIdx).map (fun p => (symV p.1, Value.int .i64 (p.2 : Int)))) {j : Nat} {x : MapEntry} (hj : es.toList[j]? = some x) : ∃ (hl : j < L.length), x.key = symV L[j] ∧ x.val = .int .i64 (j : Int) := by
  have h1 := congrArg (fun l => l[j]?) h
  simp only [List.getElem?_map, hj, Option.map_some, List.getElem?_zipIdx] at h1
  cases hl : L[j]? with
  | none => rw [hl] at h1; simp at h1
  | some s =>
    rw [hl] at h1
    simp at h1
    obtain ⟨hj2, e⟩ := List.getElem?_eq_some_iff.1 hl
    refine ⟨hj2, ?_, ?_⟩
    · rw [h1.1, e]
    · rw [h1.2]
end Go.Proofs.YtdmaijmglblccaaGreatDoor


/- The table of moves by symbols, while it is made. -/
namespace Go.Proofs.YtdmaijmglblccaaGreatDoor
open Go.RowKit
open Go.WideMaps
set_option linter.unusedSimpArgs false
set_option linter.unusedVariables false
set_option maxRecDepth 8000

def symM (m : Mv) : Sy := (m.name, m.frm.length)
/-- Of each symbol there is a move. -/
def NeG (ms : List Mv) (L : List Sy) : Prop := ∀ x ∈ L, ∃ m ∈ ms, symM m = x
def NeS (ms : List Mv) (s : Sy) (L : List Sy) : Prop := ∀ x ∈ L, x = s ∨ ∃ m ∈ ms, symM m = x
theorem NeG.new {ms : List Mv} {L : List Sy} (h : NeG ms L) (s : Sy) : NeS ms s (L ++ [s]) := fun x hx => by
  rcases List.mem_append.1 hx with hx | hx
  · exact Or.inr (h x hx)
  · exact Or.inl (by simpa using hx)
/-- The table as it is read. -/
structure TabV (w : World) (v : Value) (ms : List Mv) : Prop where
  ex : ∃ (r : Nat) (L : List Sy) (a : Option Addr) (c : Nat), v = .agg #[.map (some r), .slice a L.length c] ∧ MapY w r L ∧ L.length ≤ 100000 ∧ ((∀ m ∈ ms, symM m ∈ L) ∧ NeG ms L) ∧ ∀ (i : Nat) (h : i < L.length), ∃ b o ai ci, a = some ⟨b, o, none⟩ ∧ w.cell? ⟨b, o + i, none⟩ = some (.slice ai (grp ms L[i]).length ci) ∧ SlV w (fun _ => True) ai (grp ms L[i])
theorem TabV.later {w w' : World} {v : Value} {ms : List Mv} (h : TabV w v ms) (hb : Below w.heap.size w w') : TabV w' v ms := by
  obtain ⟨r, L, a, c, e, hm, hl, ha, h1⟩ := h.ex
  refine ⟨r, L, a, c, e, hm.kept (hb.block r hm.lt), hl, ha, fun i hi => ?_⟩
  obtain ⟨b, o, ai, ci, e1, e2, e3⟩ := h1 i hi
  exact ⟨b, o, ai, ci, e1, (hb.cell (p := ⟨b, o + i, none⟩) (cell_ltA e2)).trans e2, e3.later hb⟩
end Go.Proofs.YtdmaijmglblccaaGreatDoor


/- Walks: the table of moves by symbols (auto.tableOf). -/
namespace Go.Proofs.YtdmaijmglblccaaGreatDoor
open Go.RowKit
open Go.WideMaps
set_option linter.unusedSimpArgs false
set_option linter.unusedVariables false
set_option maxRecDepth 8000

end Go.Proofs.YtdmaijmglblccaaGreatDoor


/- Walks: is a term accepted, as the document says? -/
namespace Go.Proofs.YtdmaijmglblccaaGreatDoor
open Go.RowKit
set_option linter.unusedSimpArgs false
set_option linter.unusedVariables false
set_option maxRecDepth 8000

/-- These cells are these rows of answers. -/
def RowTB (w : World) (X : Nat → Prop) : List (List Bool) → List Value → Prop
  | [], xs => xs = []
  | l :: r, xs => ∃ a c q, xs = .slice a l.length c :: q ∧ LV Value.bool w X (.slice a l.length c) l ∧ RowTB w X r q
theorem RowTB.append {w : World} {X : Nat → Prop} : ∀ {l k : List (List Bool)} {xs ys : List Value}, RowTB w X l xs → RowTB w X k ys → RowTB w X (l ++ k) (xs ++ ys)
  | [], k, xs, ys, h, h' => by simp [RowTB] at h; subst h; simpa using h'
  | t :: l, k, xs, ys, h, h' => by
    obtain ⟨a, c, r, rfl, hs, h⟩ := h
    exact ⟨a, c, r ++ ys, rfl, hs, RowTB.append h h'⟩
theorem RowTB.imp {w w' : World} {X Y : Nat → Prop} (hs : ∀ v (l : List Bool), LV Value.bool w X v l → LV Value.bool w' Y v l) : ∀ {l : List (List Bool)} {xs : List Value}, RowTB w X l xs → RowTB w' Y l xs
  | [], xs, h => h
  | t :: l, xs, h => by
    obtain ⟨a, c, r, e, h1, h⟩ := h
    exact ⟨a, c, r, e, hs _ _ h1, RowTB.imp hs h⟩
theorem RowTB.get {w : World} {X : Nat → Prop} : ∀ {l : List (List Bool)} {xs : List Value}, RowTB w X l xs → ∀ (k : Nat) (h : k < l.length), ∃ a c, xs[k]? = some (.slice a l[k].length c) ∧ LV Value.bool w X (.slice a l[k].length c) l[k]
  | t :: l, xs, h, 0, _ => by
    obtain ⟨a, c, r, rfl, hs, _⟩ := h
    exact ⟨a, c, rfl, hs⟩
  | t :: l, xs, h, k + 1, hk => by
    obtain ⟨a, c, r, rfl, _, h⟩ := h
    obtain ⟨a', c', h1, h2⟩ := RowTB.get h k (by simpa using hk)
    exact ⟨a', c', by simpa using h1, by simpa using h2⟩
/-- At most so many below each knot. -/
inductive Wid : Tm → Prop
  | mk {s : ByteArray} {l : List Tm} (hl : l.length ≤ 200) (h : ∀ x ∈ l, Wid x) : Wid ⟨s, l⟩
theorem Wid.arg {t y : Tm} (h : Wid t) (hy : y ∈ t.args) : Wid y := by
  cases h with
  | mk hl h => exact h y hy
theorem Wid.len {t : Tm} (h : Wid t) : t.args.length ≤ 200 := by
  cases h with
  | mk hl h => exact hl
end Go.Proofs.YtdmaijmglblccaaGreatDoor


/- Walks: where a term may end, by the table (auto.table.endOf). -/
namespace Go.Proofs.YtdmaijmglblccaaGreatDoor
open Go.RowKit
open Go.WideMaps
set_option linter.unusedSimpArgs false
set_option linter.unusedVariables false
set_option maxRecDepth 8000

end Go.Proofs.YtdmaijmglblccaaGreatDoor
