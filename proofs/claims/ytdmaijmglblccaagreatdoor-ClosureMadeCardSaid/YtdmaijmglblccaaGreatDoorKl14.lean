/- Walks: may equations and terms be, without variables (closure.Check, checkClosed); are two terms the same (closure.Same). -/
import Derived.Test.YtdmaijmglblccaaGreatDoorKl13
import Derived.Test.YtdmaijmglblccaaGreatDoorZBClosureMadeOwn
namespace Go.Proofs.YtdmaijmglblccaaGreatDoor
open Go.RowKit
set_option linter.unusedSimpArgs false
set_option linter.unusedVariables false
set_option maxRecDepth 8000

/-- A variable stands in one of the two. -/
def opP (p : Pr) : Bool := opnB p.l || opnB p.r
def grdE (ls : List Pr) : Int := if pairsE ls = 0 then (if ls.any opP = true then 15 else 0) else pairsE ls
def cloE (t : Tm) : Int := if mayE t = 0 then (if opnB t = true then 15 else 0) else mayE t
theorem anyPK_take {ls : List Pr} {k : Nat} (h : k < ls.length) (hk : (ls.take k).any opP = false) (h1 : opP ls[k] = false) : (ls.take (k + 1)).any opP = false := by
  rw [List.take_succ_eq_append_getElem h, List.any_append, hk]; simp [h1]
theorem anyP_at {ls : List Pr} {k : Nat} (h : k < ls.length) (h1 : opP ls[k] = true) : ls.any opP = true := List.any_eq_true.2 ⟨_, List.getElem_mem h, h1⟩
set_option maxHeartbeats 4000000 in
theorem kcheck_any (ls : List Pr) (u : Value) (w : World) (X : Nat → Prop) (hu : QV w X u ls) :
    Calls Tryz.prog 17 #[u] w fun e w' => e = .returned (.int .i64 (grdE ls)) ∧ Below w.heap.size w w' := by
  obtain ⟨ua, uc, rfl, hul, huu⟩ := id hu
  have HU := hide (hu.mono (Y := fun b => X b ∧ b < w.heap.size) fun b h1 h2 => ⟨h1, h2⟩)
  have HUX := hide hu
  clear hu huu
  go_enter Tryz.func17, Tryz.ntmps17
  go_wp2_with fail
  refine (ucheck_any ls _ w X HUX.out).mono ?_
  rintro e w1 ⟨rfl, hb1⟩
  have HB1 := hide hb1
  clear hb1
  by_cases hp : pairsE ls = 0
  · have HE : Hid (grdE ls = if ls.any opP = true then 15 else 0) := by unfold Hid grdE; rw [if_pos hp]
    rw [hp]
    clear hp
    go_wp2_with fail
    go_loopw [13] (fun i wr => ∃ k : Nat, k ≤ ls.length ∧ i = .int .i64 (k : Int) ∧ (ls.take k).any opP = false ∧ Below w.heap.size w wr) (fun i wr => ls.length - (intOf i).toNat)
    case atStart => exact ⟨0, Nat.zero_le _, rfl, by simp, HB1.out⟩
    case round =>
      obtain ⟨k, hk, rfl, hno, hbr⟩ := hrel
      have HNO := hide hno
      have HBR := hide hbr
      by_cases hlt : k < ls.length
      · have hki : (k : Int) < (ls.length : Int) := by omega
        obtain ⟨b, o, a1, c1, a2, c2, hva, d0, d1, d2, d3, s1, s2⟩ := (HUX.out.later hbr).get k hlt
        have hba : Below wr.heap.size wr (wr.alloc (.cells #[.string ls[k].l.name, .slice a1 ls[k].l.args.length c1, .string ls[k].r.name, .slice a2 ls[k].r.args.length c2] 35)) := (Below.refl _ _).alloc (Nat.le_refl _) _
        have HBA := hide (hbr.trans (hba.mono hbr.size))
        have P1 := hide (Blk.new wr #[.string ls[k].l.name, .slice a1 ls[k].l.args.length c1, .string ls[k].r.name, .slice a2 ls[k].r.args.length c2] 35)
        have S1 := hide (s1.later hba)
        have S2 := hide (s2.later hba)
        clear hno hbr s1 s2 hba
        subst hva
        go_upto_region 7 with fail
        clear d0 d1 d2 d3
        generalize (wr.alloc (.cells #[.string ls[k].l.name, .slice a1 ls[k].l.args.length c1, .string ls[k].r.name, .slice a2 ls[k].r.args.length c2] 35)) = wa at *
        generalize wr.heap.size = P at *
        have p0 := P1.out.cell 0
        have p1 := P1.out.cell 1
        go_wp2_with fail
        refine (isOpen_any ls[k].l _ _ X ⟨_, _, rfl, S1.out⟩).mono ?_
        rintro e w2 ⟨rfl, hb2⟩
        have HB2 := hide (HBA.out.trans (hb2.mono HBA.out.size))
        have P2 := P1.out.below hb2 P1.out.lt
        have p2 := P2.cell 2
        have p3 := P2.cell 3
        have S22 := hide (S2.out.later hb2)
        clear hb2 p0 p1 P2 P1
        cases ho : opnB ls[k].l with
        | true =>
          have HA : Hid (grdE ls = 15) := by unfold Hid; rw [HE.out, if_pos (anyP_at hlt (by unfold opP; rw [ho]; rfl))]
          clear ho
          go_wp2_with fail
          go_ret
          exact ⟨by rw [HA.out]; rfl, HB2.out⟩
        | false =>
          have HO := hide ho
          clear ho
          go_wp2_with fail
          refine (isOpen_any ls[k].r _ _ X ⟨_, _, rfl, S22.out⟩).mono ?_
          rintro e w3 ⟨rfl, hb3⟩
          have HB3 := hide (HB2.out.trans (hb3.mono HB2.out.size))
          clear hb3 p2 p3
          cases ho2 : opnB ls[k].r with
          | true =>
            have HA : Hid (grdE ls = 15) := by unfold Hid; rw [HE.out, if_pos (anyP_at hlt (by unfold opP; rw [HO.out, ho2]; rfl))]
            clear ho2
            go_wp2_with fail
            go_ret
            exact ⟨by rw [HA.out]; rfl, HB3.out⟩
          | false =>
            have HA := hide (anyPK_take hlt HNO.out (by unfold opP; rw [HO.out, ho2]; rfl))
            clear ho2
            go_wp2_with fail
            go_roundw
            case rel => exact ⟨k + 1, by omega, by go_num, HA.out, HB3.out⟩
            case measure => simp [intOf]; omega
      · have hki : ¬ (k : Int) < (ls.length : Int) := by omega
        have HA : Hid (grdE ls = 0) := by
          have h := HNO.out
          rw [List.take_of_length_le (by omega)] at h
          unfold Hid
          rw [HE.out, if_neg (by rw [h]; simp)]
        clear hno hbr
        go_wp2_with fail
        go_ret
        exact ⟨by rw [HA.out]; rfl, HBR.out⟩
  · have HE : Hid (grdE ls = pairsE ls) := by unfold Hid grdE; rw [if_neg hp]
    have hne : (pairsE ls != 0) = true := by simp [hp]
    generalize pairsE ls = er at *
    clear hp
    go_wp2_with fail
    go_ret
    exact ⟨by rw [HE.out]; rfl, HB1.out⟩
set_option maxHeartbeats 4000000 in
theorem kclosed_any (t : Tm) (a : Option Addr) (c : Nat) (w : World) (X : Nat → Prop) (hs : Sl w X a t.args) :
    Calls Tryz.prog 30 #[.agg #[.string t.name, .slice a t.args.length c]] w fun e w' => e = .returned (.int .i64 (cloE t)) ∧ Below w.heap.size w w' := by
  have hba : Below w.heap.size w (w.alloc (.cells #[.string t.name, .slice a t.args.length c] 25)) := (Below.refl _ _).alloc (Nat.le_refl _) _
  have HBA := hide hba
  have P1 := hide (Blk.new w #[.string t.name, .slice a t.args.length c] 25)
  have S1 := hide (hs.later hba)
  clear hba hs
  go_enter Tryz.func30, Tryz.ntmps30
  go_upto_region 1 with fail
  generalize (w.alloc (.cells #[.string t.name, .slice a t.args.length c] 25)) = wa at *
  have HP : Hid (∃ P, P = w.heap.size) := ⟨_, rfl⟩
  have p0 := P1.out.cell 0
  have p1 := P1.out.cell 1
  go_wp2_with fail
  refine (check_any t _ _ X ⟨_, _, rfl, S1.out⟩).mono ?_
  rintro e w2 ⟨rfl, hb2⟩
  have HB2 := hide (HBA.out.trans (hb2.mono HBA.out.size))
  have P2 := P1.out.below hb2 P1.out.lt
  have q0 := P2.cell 0
  have q1 := P2.cell 1
  have S2 := hide (S1.out.later hb2)
  clear p0 p1 hb2 P2
  by_cases hm : mayE t = 0
  · have HE : Hid (cloE t = if opnB t = true then 15 else 0) := by unfold Hid cloE; rw [if_pos hm]
    rw [hm]
    clear hm
    go_wp2_with fail
    refine (isOpen_any t _ _ X ⟨_, _, rfl, S2.out⟩).mono ?_
    rintro e w3 ⟨rfl, hb3⟩
    have HB3 := hide (HB2.out.trans (hb3.mono HB2.out.size))
    clear hb3 q0 q1
    cases ho : opnB t with
    | true =>
      have HA : Hid (cloE t = 15) := by unfold Hid; rw [HE.out, if_pos ho]
      clear ho
      go_wp2_with fail
      go_ret
      exact ⟨by rw [HA.out]; rfl, HB3.out⟩
    | false =>
      have HA : Hid (cloE t = 0) := by unfold Hid; rw [HE.out, if_neg (by rw [ho]; simp)]
      clear ho
      go_wp2_with fail
      go_ret
      exact ⟨by rw [HA.out]; rfl, HB3.out⟩
  · have HE : Hid (cloE t = mayE t) := by unfold Hid cloE; rw [if_neg hm]
    have hne : (mayE t != 0) = true := by simp [hm]
    generalize mayE t = er at *
    clear hm q0 q1
    go_wp2_with fail
    go_ret
    exact ⟨by rw [HE.out]; rfl, HB2.out⟩
end Go.Proofs.YtdmaijmglblccaaGreatDoor
