/- Walks: above by weights, as the document says. -/
import Derived.Test.YthlgknglalcggacW142
import Derived.Test.YthlgknglalcggacW17
import Derived.Test.YthlgknglalcggacZOrderMadeOwn
import Derived.Deep.RegionHeld
import Derived.Deep.RegionHeld3
namespace Go.Proofs.Ythlgknglalcggac
open Go.RowKit
set_option linter.unusedSimpArgs false
set_option linter.unusedVariables false
set_option maxRecDepth 8000

theorem all_inO {p : ByteArray → Bool} {s : ByteArray} {acc : List ByteArray} (h : inB s acc = true) : (acc.all p && p s) = acc.all p := by
  cases hp : acc.all p with
  | false => rfl
  | true =>
    unfold inB at h
    rw [List.any_eq_true] at h
    obtain ⟨y, hy, e⟩ := h
    have e2 : y = s := bytes_inj (by simpa using e)
    rw [Bool.true_and, ← e2]
    exact List.all_eq_true.1 hp y hy
theorem varsP_allO (p : ByteArray → Bool) : ∀ (ks : List Tm) (acc : List ByteArray), (varsP acc ks).all p = (acc.all p && ks.all fun k => !varB k.name || p k.name)
  | [], acc => by simp [varsP]
  | k :: r, acc => by
    have e : varsP acc (k :: r) = varsP (addV acc k.name) r := rfl
    rw [e, varsP_allO p r, List.all_cons]
    cases hv : varB k.name with
    | false => rw [addV_no hv]; simp
    | true =>
      cases hi : inB k.name acc with
      | false => rw [addV_yes hv hi, List.all_append]; simp [Bool.and_assoc]
      | true =>
        rw [addV_in hv hi]
        have h := all_inO (p := p) hi
        rw [← h]
        simp [Bool.and_assoc]
theorem hasAll_vars (a b : Tm) : hasAll a b = (varsP [] (preL [b])).all fun v => decide (oftL v [b] ≤ oftL v [a]) := by
  rw [varsP_allO]
  rfl
def WvInv (a b : Tm) (aa : Option Addr) (ca : Nat) (ab : Option Addr) (cb : Nat) (w w3 : World) (i : Value) (wr : World) : Prop :=
  ∃ k : Nat, k ≤ (varsP [] (preL [b])).length ∧ i = .int .i64 (k : Int) ∧ (((varsP [] (preL [b])).take k).all fun v => decide (oftL v [b] ≤ oftL v [a])) = true ∧ TwW a b aa ca ab cb w wr ∧ Below w3.heap.size w3 wr
def WuInv (a b : Tm) (aa : Option Addr) (ca : Nat) (ab : Option Addr) (cb : Nat) (w : World) (i : Value) (wr : World) : Prop :=
  ∃ k : Nat, k ≤ a.args.length ∧ i = .int .i64 (k : Int) ∧ (∀ j (h1 : j < k) (h2 : j < a.args.length) (h3 : j < b.args.length), a.args[j] = b.args[j]) ∧ TwW a b aa ca ab cb w wr

set_option maxHeartbeats 3000000 in
theorem weightOf_any (row : List ByteArray) (hrl : row.length ≤ 1000) : ∀ (N : Nat) (a b : Tm) (u va vb : Value) (w : World) (X : Nat → Prop), sizeL [a] ≤ N → sizeL [a] ≤ 20000 → sizeL [b] ≤ 20000 → LV Value.string w X u row → TV w X va a → TV w X vb b →
    Calls Try.prog 12 #[u, va, vb] w fun e w' => e = .returned (.bool (weightB row a b)) ∧ Below w.heap.size w w'
  | 0 => fun a b u va vb w X hN _ _ _ _ _ => by have := size_pos a; omega
  | N + 1 => by
    intro a b u va vb w X hN za zb hu ha hb
    have IH := hide (weightOf_any row hrl N)
    have HA := hide ha
    have HB := hide hb
    have HU := hide hu
    obtain ⟨aa, ca, rfl, hsa⟩ := ha
    obtain ⟨ab, cb, rfl, hsb⟩ := hb
    have HSA := hide hsa
    have HSB := hide hsb
    have hla := hsa.1
    have hlb := hsb.1
    have HWB := hide (weightB_eq row a b)
    have HHV := hide (hasAll_vars a b)
    clear hsa hsb hu
    have A2 := hide (TwW.start a b aa ca ab cb w)
    go_enter Try.func12, Try.ntmps12
    go_wp2_with fail
    generalize ((w.alloc (.cells #[.string a.name, .slice aa a.args.length ca] 25)).alloc (.cells #[.string b.name, .slice ab b.args.length cb] 25)) = w2 at *
    refine (varsOf_any b _ _ X (by exact HB.out.later A2.out.bl) (by omega)).mono ?_
    rintro e w3 ⟨vv, rfl, hlv, hb3⟩
    have A3 := hide (A2.out.later hb3)
    have HLV := hide hlv
    obtain ⟨av, cv, rfl, ⟨hlv1, _⟩, hlv2⟩ := hlv
    have HLV2 := hide hlv2
    clear hb3 A2 hlv2
    go_wp2_with fail
    go_loopw [8] (fun i wr => WvInv a b aa ca ab cb w w3 i wr) (fun i wr => (varsP [] (preL [b])).length - (intOf i).toNat)
    case atStart => exact ⟨0, Nat.zero_le _, rfl, by simp, A3.out, Below.refl _ _⟩
    case round =>
      obtain ⟨k, hk, rfl, hall, hTw, hb9⟩ := hrel
      have HALL := hide hall
      have HTW := hide hTw
      have HB9 := hide hb9
      clear hall hb9
      by_cases hlt : k < (varsP [] (preL [b])).length
      · have hlti : (k : Int) < ((varsP [] (preL [b])).length : Int) := by omega
        obtain ⟨bv, ov, rfl, _, hc⟩ := HLV2.out.resolve_left (fun h => by rw [h] at hlt; simp at hlt)
        have HD : Hid (∀ w', Below w3.heap.size w3 w' → w'.cell? ⟨bv, ov + k, none⟩ = some (.string (varsP [] (preL [b]))[k])) := fun w' hb => (hb.cell (p := ⟨bv, ov + k, none⟩) (cell_lt (hc k hlt))).trans (hc k hlt)
        clear hc
        have HS0 : Hid ((fun w' => TwW a b aa ca ab cb w w' ∧ Below w3.heap.size w3 w') wr.drew) := ⟨hTw.later (below_drewN (Below.refl _ _) 1), below_drewN HB9.out 1⟩
        go_wp2_with fail
        refine wp_region_held_drew (S := fun w' => TwW a b aa ca ab cb w w' ∧ Below w3.heap.size w3 w') (by kernel_rfl) HS0.out (fun hHeld => ?_)
        refine wpAnyH_take (i := 0) (v := ?_) rfl (by kernel_rfl) (by kernel_rfl) (by kernel_rfl) (fun _ _ _ h => h) (Or.inl ⟨by rfl, ?_⟩) (by assumption) ?_
        rotate_left
        · intro w' hSw
          have r0 : w'.cell? ⟨w.heap.size, 0, none⟩ = some (.string a.name) := hSw.1.k1.cell 0
          have r1 : w'.cell? ⟨w.heap.size, 1, none⟩ = some (.slice aa a.args.length ca) := hSw.1.k1.cell 1
          have s0 : w'.cell? ⟨w.heap.size + 1, 0, none⟩ = some (.string b.name) := hSw.1.k2.cell 0
          have s1 : w'.cell? ⟨w.heap.size + 1, 1, none⟩ = some (.slice ab b.args.length cb) := hSw.1.k2.cell 1
          have t0 := HD.out w' hSw.2
          go_simp <;> with_reducible rfl
        try simp only [Act.put, List.setIfInBounds_toArray, List.set_cons_zero, List.set_cons_succ, List.getElem_toArray, List.getElem_cons_succ, List.getElem_cons_zero]
        refine wpAnyH_take (i := 1) (v := ?_) rfl (by kernel_rfl) (by kernel_rfl) (by kernel_rfl) (fun _ _ _ h => h) (Or.inl ⟨by rfl, ?_⟩) (by assumption) ?_
        rotate_left
        · intro w' hSw
          have r0 : w'.cell? ⟨w.heap.size, 0, none⟩ = some (.string a.name) := hSw.1.k1.cell 0
          have r1 : w'.cell? ⟨w.heap.size, 1, none⟩ = some (.slice aa a.args.length ca) := hSw.1.k1.cell 1
          have s0 : w'.cell? ⟨w.heap.size + 1, 0, none⟩ = some (.string b.name) := hSw.1.k2.cell 0
          have s1 : w'.cell? ⟨w.heap.size + 1, 1, none⟩ = some (.slice ab b.args.length cb) := hSw.1.k2.cell 1
          have t0 := HD.out w' hSw.2
          go_simp <;> with_reducible rfl
        try simp only [Act.put, List.setIfInBounds_toArray, List.set_cons_zero, List.set_cons_succ, List.getElem_toArray, List.getElem_cons_succ, List.getElem_cons_zero]
        refine wpAnyH_take (i := 2) (v := ?_) rfl (by kernel_rfl) (by kernel_rfl) (by kernel_rfl) (fun _ _ _ h => h) (Or.inl ⟨by rfl, ?_⟩) (by assumption) ?_
        rotate_left
        · intro w' hSw
          have r0 : w'.cell? ⟨w.heap.size, 0, none⟩ = some (.string a.name) := hSw.1.k1.cell 0
          have r1 : w'.cell? ⟨w.heap.size, 1, none⟩ = some (.slice aa a.args.length ca) := hSw.1.k1.cell 1
          have s0 : w'.cell? ⟨w.heap.size + 1, 0, none⟩ = some (.string b.name) := hSw.1.k2.cell 0
          have s1 : w'.cell? ⟨w.heap.size + 1, 1, none⟩ = some (.slice ab b.args.length cb) := hSw.1.k2.cell 1
          have t0 := HD.out w' hSw.2
          go_simp <;> with_reducible rfl
        try simp only [Act.put, List.setIfInBounds_toArray, List.set_cons_zero, List.set_cons_succ, List.getElem_toArray, List.getElem_cons_succ, List.getElem_cons_zero]
        refine wpAnyH_take (i := 3) (v := ?_) rfl (by kernel_rfl) (by kernel_rfl) (by kernel_rfl) (fun _ _ _ h => h) (Or.inl ⟨by rfl, ?_⟩) (by assumption) ?_
        rotate_left
        · intro w' hSw
          have r0 : w'.cell? ⟨w.heap.size, 0, none⟩ = some (.string a.name) := hSw.1.k1.cell 0
          have r1 : w'.cell? ⟨w.heap.size, 1, none⟩ = some (.slice aa a.args.length ca) := hSw.1.k1.cell 1
          have s0 : w'.cell? ⟨w.heap.size + 1, 0, none⟩ = some (.string b.name) := hSw.1.k2.cell 0
          have s1 : w'.cell? ⟨w.heap.size + 1, 1, none⟩ = some (.slice ab b.args.length cb) := hSw.1.k2.cell 1
          have t0 := HD.out w' hSw.2
          go_simp <;> with_reducible rfl
        try simp only [Act.put, List.setIfInBounds_toArray, List.set_cons_zero, List.set_cons_succ, List.getElem_toArray, List.getElem_cons_succ, List.getElem_cons_zero]
        refine wpAnyH_take (i := 4) (v := ?_) rfl (by kernel_rfl) (by kernel_rfl) (by kernel_rfl) (fun _ _ _ h => h) (Or.inl ⟨by rfl, ?_⟩) (by assumption) ?_
        rotate_left
        · intro w' hSw
          have r0 : w'.cell? ⟨w.heap.size, 0, none⟩ = some (.string a.name) := hSw.1.k1.cell 0
          have r1 : w'.cell? ⟨w.heap.size, 1, none⟩ = some (.slice aa a.args.length ca) := hSw.1.k1.cell 1
          have s0 : w'.cell? ⟨w.heap.size + 1, 0, none⟩ = some (.string b.name) := hSw.1.k2.cell 0
          have s1 : w'.cell? ⟨w.heap.size + 1, 1, none⟩ = some (.slice ab b.args.length cb) := hSw.1.k2.cell 1
          have t0 := HD.out w' hSw.2
          go_simp <;> with_reducible rfl
        try simp only [Act.put, List.setIfInBounds_toArray, List.set_cons_zero, List.set_cons_succ, List.getElem_toArray, List.getElem_cons_succ, List.getElem_cons_zero]
        refine wpAnyH_take (i := 6) (v := ?_) rfl (by kernel_rfl) (by kernel_rfl) (by kernel_rfl) (fun _ _ _ h => h) (Or.inl ⟨by rfl, ?_⟩) (by assumption) ?_
        rotate_left
        · intro w' hSw
          have r0 : w'.cell? ⟨w.heap.size, 0, none⟩ = some (.string a.name) := hSw.1.k1.cell 0
          have r1 : w'.cell? ⟨w.heap.size, 1, none⟩ = some (.slice aa a.args.length ca) := hSw.1.k1.cell 1
          have s0 : w'.cell? ⟨w.heap.size + 1, 0, none⟩ = some (.string b.name) := hSw.1.k2.cell 0
          have s1 : w'.cell? ⟨w.heap.size + 1, 1, none⟩ = some (.slice ab b.args.length cb) := hSw.1.k2.cell 1
          have t0 := HD.out w' hSw.2
          go_simp <;> with_reducible rfl
        try simp only [Act.put, List.setIfInBounds_toArray, List.set_cons_zero, List.set_cons_succ, List.getElem_toArray, List.getElem_cons_succ, List.getElem_cons_zero]
        refine wpAnyH_take (i := 7) (v := ?_) rfl (by kernel_rfl) (by kernel_rfl) (by kernel_rfl) (fun _ _ _ h => h) (Or.inl ⟨by rfl, ?_⟩) (by assumption) ?_
        rotate_left
        · intro w' hSw
          have r0 : w'.cell? ⟨w.heap.size, 0, none⟩ = some (.string a.name) := hSw.1.k1.cell 0
          have r1 : w'.cell? ⟨w.heap.size, 1, none⟩ = some (.slice aa a.args.length ca) := hSw.1.k1.cell 1
          have s0 : w'.cell? ⟨w.heap.size + 1, 0, none⟩ = some (.string b.name) := hSw.1.k2.cell 0
          have s1 : w'.cell? ⟨w.heap.size + 1, 1, none⟩ = some (.slice ab b.args.length cb) := hSw.1.k2.cell 1
          have t0 := HD.out w' hSw.2
          go_simp <;> with_reducible rfl
        try simp only [Act.put, List.setIfInBounds_toArray, List.set_cons_zero, List.set_cons_succ, List.getElem_toArray, List.getElem_cons_succ, List.getElem_cons_zero]
        refine wpAnyH_take (i := 8) (v := ?_) rfl (by kernel_rfl) (by kernel_rfl) (by kernel_rfl) (fun _ _ _ h => h) (Or.inl ⟨by rfl, ?_⟩) (by assumption) ?_
        rotate_left
        · intro w' hSw
          have r0 : w'.cell? ⟨w.heap.size, 0, none⟩ = some (.string a.name) := hSw.1.k1.cell 0
          have r1 : w'.cell? ⟨w.heap.size, 1, none⟩ = some (.slice aa a.args.length ca) := hSw.1.k1.cell 1
          have s0 : w'.cell? ⟨w.heap.size + 1, 0, none⟩ = some (.string b.name) := hSw.1.k2.cell 0
          have s1 : w'.cell? ⟨w.heap.size + 1, 1, none⟩ = some (.slice ab b.args.length cb) := hSw.1.k2.cell 1
          have t0 := HD.out w' hSw.2
          go_simp <;> with_reducible rfl
        try simp only [Act.put, List.setIfInBounds_toArray, List.set_cons_zero, List.set_cons_succ, List.getElem_toArray, List.getElem_cons_succ, List.getElem_cons_zero]
        refine wpAnyH_take (i := 9) (v := ?_) rfl (by kernel_rfl) (by kernel_rfl) (by kernel_rfl) (fun _ _ _ h => h) (Or.inl ⟨by rfl, ?_⟩) (by assumption) ?_
        rotate_left
        · intro w' hSw
          have r0 : w'.cell? ⟨w.heap.size, 0, none⟩ = some (.string a.name) := hSw.1.k1.cell 0
          have r1 : w'.cell? ⟨w.heap.size, 1, none⟩ = some (.slice aa a.args.length ca) := hSw.1.k1.cell 1
          have s0 : w'.cell? ⟨w.heap.size + 1, 0, none⟩ = some (.string b.name) := hSw.1.k2.cell 0
          have s1 : w'.cell? ⟨w.heap.size + 1, 1, none⟩ = some (.slice ab b.args.length cb) := hSw.1.k2.cell 1
          have t0 := HD.out w' hSw.2
          go_simp <;> with_reducible rfl
        try simp only [Act.put, List.setIfInBounds_toArray, List.set_cons_zero, List.set_cons_succ, List.getElem_toArray, List.getElem_cons_succ, List.getElem_cons_zero]
        refine wpAnyH_take (i := 10) (v := ?_) rfl (by kernel_rfl) (by kernel_rfl) (by kernel_rfl) (fun _ _ _ h => h) (Or.inl ⟨by rfl, ?_⟩) (by assumption) ?_
        rotate_left
        · intro w' hSw
          have r0 : w'.cell? ⟨w.heap.size, 0, none⟩ = some (.string a.name) := hSw.1.k1.cell 0
          have r1 : w'.cell? ⟨w.heap.size, 1, none⟩ = some (.slice aa a.args.length ca) := hSw.1.k1.cell 1
          have s0 : w'.cell? ⟨w.heap.size + 1, 0, none⟩ = some (.string b.name) := hSw.1.k2.cell 0
          have s1 : w'.cell? ⟨w.heap.size + 1, 1, none⟩ = some (.slice ab b.args.length cb) := hSw.1.k2.cell 1
          have t0 := HD.out w' hSw.2
          go_simp <;> with_reducible rfl
        try simp only [Act.put, List.setIfInBounds_toArray, List.set_cons_zero, List.set_cons_succ, List.getElem_toArray, List.getElem_cons_succ, List.getElem_cons_zero]

        generalize hxx : (varsP [] (preL [b]))[k] = x at *
        have HXX := hide hxx
        clear hxx
        refine wpAnyH_ready (rs := [5]) (by kernel_rfl) (by simp) ?_
        refine AllReadyH.cons rfl (fun K hK => ?_) AllReadyH.nil
        go_simp
        go_at_call 41
        refine (often_any b x _ _ X zb (by exact HB.out.later hHeld.1.bl)).mono ?_
        rintro e w5 ⟨rfl, hb5⟩
        have H5 := hide (And.intro (hHeld.1.later hb5) (hHeld.2.trans (hb5.mono hHeld.2.size)))
        clear hb5
        go_simp
        refine hK.out _ _ (by exact H5.out) (fun hHeld => ?_)
        clear hK K
        try simp only [Act.put, List.setIfInBounds_toArray, List.set_cons_zero, List.set_cons_succ, List.getElem_toArray, List.getElem_cons_succ, List.getElem_cons_zero]
        refine wpAnyH_ready (rs := [11]) (by kernel_rfl) (by simp) ?_
        refine AllReadyH.cons rfl (fun K hK => ?_) AllReadyH.nil
        go_simp
        go_at_call 41
        refine (often_any a x _ _ X za (by exact HA.out.later H5.out.1.bl)).mono ?_
        rintro e w6 ⟨rfl, hb6⟩
        have H6 := hide (And.intro (H5.out.1.later hb6) (H5.out.2.trans (hb6.mono H5.out.2.size)))
        clear hb6
        go_simp
        refine hK.out _ _ (by exact H6.out) (fun hHeld => ?_)
        clear hK K
        try simp only [Act.put, List.setIfInBounds_toArray, List.set_cons_zero, List.set_cons_succ, List.getElem_toArray, List.getElem_cons_succ, List.getElem_cons_zero]
        refine wpAnyH_take (i := 12) (v := ?_) rfl (by kernel_rfl) (by kernel_rfl) (by kernel_rfl) (fun _ _ _ h => h) (Or.inl ⟨by rfl, ?_⟩) (by assumption) ?_
        rotate_left
        · intro w' hSw
          go_simp <;> with_reducible rfl
        try simp only [Act.put, List.setIfInBounds_toArray, List.set_cons_zero, List.set_cons_succ, List.getElem_toArray, List.getElem_cons_succ, List.getElem_cons_zero]

        refine wpAnyH_done (by kernel_rfl) ?_ _
        have hoa := oft_le x [a]
        have hob := oft_le x [b]
        by_cases hg : oftL x [a] < oftL x [b]
        · have hgi : ((oftL x [a] : Nat) : Int) < ((oftL x [b] : Nat) : Int) := by omega
          have HR : Hid (weightB row a b = false) := by
            unfold Hid
            rw [HWB.out, if_pos]
            rw [HHV.out]
            exact (all_take hlt HALL.out).1 (by rw [HXX.out]; simp; omega)
          go_wp2_with fail
          go_ret
          exact ⟨by rw [HR.out]; rfl, H6.out.1.bl⟩
        · have hgi : ¬ ((oftL x [a] : Nat) : Int) < ((oftL x [b] : Nat) : Int) := by omega
          have HR := hide ((all_take hlt HALL.out).2 (by rw [HXX.out]; simp; omega))
          go_wp2_with fail
          go_roundw
          case rel => exact ⟨k + 1, by omega, by go_num, HR.out, H6.out.1, H6.out.2⟩
          case measure => simp [intOf]; omega
      · have htk : (varsP [] (preL [b])).take k = varsP [] (preL [b]) := List.take_of_length_le (by omega)
        have HAL : Hid (hasAll a b = true) := by unfold Hid; rw [HHV.out]; have h := HALL.out; rw [htk] at h; exact h
        clear htk HALL HHV HLV HLV2 hk hTw
        have r0 : wr.cell? ⟨w.heap.size, 0, none⟩ = some (.string a.name) := HTW.out.k1.cell 0
        have r1 : wr.cell? ⟨w.heap.size, 1, none⟩ = some (.slice aa a.args.length ca) := HTW.out.k1.cell 1
        have s0 : wr.cell? ⟨w.heap.size + 1, 0, none⟩ = some (.string b.name) := HTW.out.k2.cell 0
        have s1 : wr.cell? ⟨w.heap.size + 1, 1, none⟩ = some (.slice ab b.args.length cb) := HTW.out.k2.cell 1
        go_wp2_with fail
        refine (knots_any a _ _ X (by exact HA.out.later HTW.out.bl) (by omega)).mono ?_
        rintro e w5 ⟨v5, xs5, rfl, hown5, _, hb5⟩
        obtain ⟨g5, cap5, rfl, _, _, _⟩ := owned_val hown5 (size_pos a)
        have A5 := hide (HTW.out.later hb5)
        clear hb5 hown5 HTW
        clear r0 r1 s0 s1
        have r0 : w5.cell? ⟨w.heap.size, 0, none⟩ = some (.string a.name) := A5.out.k1.cell 0
        have r1 : w5.cell? ⟨w.heap.size, 1, none⟩ = some (.slice aa a.args.length ca) := A5.out.k1.cell 1
        have s0 : w5.cell? ⟨w.heap.size + 1, 0, none⟩ = some (.string b.name) := A5.out.k2.cell 0
        have s1 : w5.cell? ⟨w.heap.size + 1, 1, none⟩ = some (.slice ab b.args.length cb) := A5.out.k2.cell 1
        go_wp2_with fail
        refine (knots_any b _ _ X (by exact HB.out.later A5.out.bl) (by omega)).mono ?_
        rintro e w6 ⟨v6, xs6, rfl, hown6, _, hb6⟩
        obtain ⟨g6, cap6, rfl, _, _, _⟩ := owned_val hown6 (size_pos b)
        have A6 := hide (A5.out.later hb6)
        clear hb6 hown6 A5
        clear r0 r1 s0 s1
        have r0 : w6.cell? ⟨w.heap.size, 0, none⟩ = some (.string a.name) := A6.out.k1.cell 0
        have r1 : w6.cell? ⟨w.heap.size, 1, none⟩ = some (.slice aa a.args.length ca) := A6.out.k1.cell 1
        have s0 : w6.cell? ⟨w.heap.size + 1, 0, none⟩ = some (.string b.name) := A6.out.k2.cell 0
        have s1 : w6.cell? ⟨w.heap.size + 1, 1, none⟩ = some (.slice ab b.args.length cb) := A6.out.k2.cell 1
        by_cases hz : sizeL [a] = sizeL [b]
        · have hz1 : ((sizeL [a] : Int) != (sizeL [b] : Int)) = false := by rw [hz]; simp
          cases hva : varB a.name with
          | true =>
            have HR : Hid (weightB row a b = false) := by unfold Hid; rw [HWB.out, if_neg (by rw [HAL.out]; simp), if_neg (by rw [hz]; simp), if_pos hva]
            clear hz
            go_wp2_with (go_at_call 35; refine (isVarR_any _ _).mono ?_; rintro e w' ⟨rfl, rfl⟩; rw [hva])
            go_ret
            exact ⟨by rw [HR.out]; rfl, A6.out.bl⟩
          | false =>
            cases hvb : varB b.name with
            | true =>
              have HR : Hid (weightB row a b = false) := by unfold Hid; rw [HWB.out, if_neg (by rw [HAL.out]; simp), if_neg (by rw [hz]; simp), if_neg (by rw [hva]; simp), if_pos hvb]
              clear hz
              go_wp2_with (go_at_call 35; refine (isVarR_any _ _).mono ?_; rintro e w' ⟨rfl, rfl⟩; first | rw [hva] | rw [hvb])
              go_ret
              exact ⟨by rw [HR.out]; rfl, A6.out.bl⟩
            | false =>
              have HEAD : Hid (weightB row a b = if gtS row a b = true then true else if gtS row b a = true then false else match unl a.args b.args with | none => false | some (x, y) => weightB row x y) := by
                unfold Hid
                rw [HWB.out, if_neg (by rw [HAL.out]; simp), if_neg (by rw [hz]; simp), if_neg (by rw [hva]; simp), if_neg (by rw [hvb]; simp)]
                cases unl a.args b.args with
                | none => rfl
                | some p => rfl
              have HZ := hide hz
              clear hz HWB
              go_wp2_with (go_at_call 35; refine (isVarR_any _ _).mono ?_; rintro e w' ⟨rfl, rfl⟩; first | rw [hva] | rw [hvb])
              refine (greater_any row a b _ _ _ _ X hrl (by exact HU.out.later A6.out.bl) (by exact HA.out.later A6.out.bl) (by exact HB.out.later A6.out.bl)).mono ?_
              rintro e w7 ⟨rfl, hb7⟩
              have A7 := hide (A6.out.later hb7)
              clear hb7 A6
              clear r0 r1 s0 s1
              have r0 : w7.cell? ⟨w.heap.size, 0, none⟩ = some (.string a.name) := A7.out.k1.cell 0
              have r1 : w7.cell? ⟨w.heap.size, 1, none⟩ = some (.slice aa a.args.length ca) := A7.out.k1.cell 1
              have s0 : w7.cell? ⟨w.heap.size + 1, 0, none⟩ = some (.string b.name) := A7.out.k2.cell 0
              have s1 : w7.cell? ⟨w.heap.size + 1, 1, none⟩ = some (.slice ab b.args.length cb) := A7.out.k2.cell 1
              cases g1 : gtS row a b with
              | true =>
                have HR : Hid (weightB row a b = true) := by unfold Hid; rw [HEAD.out, if_pos g1]
                go_wp2_with fail
                refine (greater_any row a b _ _ _ _ X hrl (by exact HU.out.later A7.out.bl) (by exact HA.out.later A7.out.bl) (by exact HB.out.later A7.out.bl)).mono ?_
                rintro e w8 ⟨rfl, hb8⟩
                have A8 := hide (A7.out.later hb8)
                clear hb8 A7
                clear r0 r1 s0 s1
                rw [g1]
                go_wp2_with fail
                go_ret
                exact ⟨by rw [HR.out]; rfl, A8.out.bl⟩
              | false =>
                have G1 := hide g1
                clear g1
                go_wp2_with fail
                refine (greater_any row b a _ _ _ _ X hrl (by exact HU.out.later A7.out.bl) (by exact HB.out.later A7.out.bl) (by exact HA.out.later A7.out.bl)).mono ?_
                rintro e w8 ⟨rfl, hb8⟩
                have A8 := hide (A7.out.later hb8)
                clear hb8 A7
                clear r0 r1 s0 s1
                have r0 : w8.cell? ⟨w.heap.size, 0, none⟩ = some (.string a.name) := A8.out.k1.cell 0
                have r1 : w8.cell? ⟨w.heap.size, 1, none⟩ = some (.slice aa a.args.length ca) := A8.out.k1.cell 1
                have s0 : w8.cell? ⟨w.heap.size + 1, 0, none⟩ = some (.string b.name) := A8.out.k2.cell 0
                have s1 : w8.cell? ⟨w.heap.size + 1, 1, none⟩ = some (.slice ab b.args.length cb) := A8.out.k2.cell 1
                cases g2 : gtS row b a with
                | true =>
                  have HR : Hid (weightB row a b = false) := by unfold Hid; rw [HEAD.out, if_neg (by rw [G1.out]; simp), if_pos g2]
                  clear g2
                  go_wp2_with fail
                  refine (greater_any row a b _ _ _ _ X hrl (by exact HU.out.later A8.out.bl) (by exact HA.out.later A8.out.bl) (by exact HB.out.later A8.out.bl)).mono ?_
                  rintro e w9 ⟨rfl, hb9⟩
                  have A9 := hide (A8.out.later hb9)
                  clear hb9 A8
                  clear r0 r1 s0 s1
                  rw [G1.out]
                  go_wp2_with fail
                  go_ret
                  exact ⟨by rw [HR.out]; rfl, A9.out.bl⟩
                | false =>
                  have HLEN := hide (gtS_same G1.out g2).2
                  have HLAST : Hid (weightB row a b = match unl a.args b.args with | none => false | some (x, y) => weightB row x y) := by unfold Hid; rw [HEAD.out, if_neg (by rw [G1.out]; simp), if_neg (by rw [g2]; simp)]
                  clear g2 HEAD G1
                  go_wp2_with fail
                  clear r0 r1 s0 s1
                  go_loopw [11] (fun i wr => WuInv a b aa ca ab cb w i wr) (fun i wr => a.args.length - (intOf i).toNat)
                  case atStart => exact ⟨0, Nat.zero_le _, rfl, fun j h => by omega, A8.out⟩
                  case round =>
                    clear A8
                    obtain ⟨k, hk, rfl, hall, hTw⟩ := hrel
                    have HALL := hide hall
                    have HTW := hide hTw
                    clear hall hTw
                    have r0 : wr.cell? ⟨w.heap.size, 0, none⟩ = some (.string a.name) := HTW.out.k1.cell 0
                    have r1 : wr.cell? ⟨w.heap.size, 1, none⟩ = some (.slice aa a.args.length ca) := HTW.out.k1.cell 1
                    have s0 : wr.cell? ⟨w.heap.size + 1, 0, none⟩ = some (.string b.name) := HTW.out.k2.cell 0
                    have s1 : wr.cell? ⟨w.heap.size + 1, 1, none⟩ = some (.slice ab b.args.length cb) := HTW.out.k2.cell 1
                    by_cases hlt : k < a.args.length
                    · have hlti : (k : Int) < (a.args.length : Int) := by omega
                      have hlt2 : k < b.args.length := by have := HLEN.out; omega
                      have hltj : (k : Int) < (b.args.length : Int) := by omega
                      obtain ⟨b1, o1, a1, c1, rfl, d10, d11, hx⟩ := HSA.out.get (Below.refl _ _) (fun _ _ h => h) k hlt
                      obtain ⟨b2, o2, a2, c2, rfl, d20, d21, hy⟩ := HSB.out.get (Below.refl _ _) (fun _ _ h => h) k hlt2
                      have HX := hide hx
                      have HY := hide hy
                      have HD : Hid (∀ w', Below w.heap.size w w' → w'.cell? ⟨b1, o1 + k * 2, none⟩ = some (.string a.args[k].name) ∧ w'.cell? ⟨b1, o1 + k * 2 + 1, none⟩ = some (.slice a1 a.args[k].args.length c1) ∧ w'.cell? ⟨b2, o2 + k * 2, none⟩ = some (.string b.args[k].name) ∧ w'.cell? ⟨b2, o2 + k * 2 + 1, none⟩ = some (.slice a2 b.args[k].args.length c2)) := fun w' hb =>
                        ⟨(hb.cell (p := ⟨b1, o1 + k * 2, none⟩) (cell_lt d10)).trans d10, (hb.cell (p := ⟨b1, o1 + k * 2 + 1, none⟩) (cell_lt d11)).trans d11, (hb.cell (p := ⟨b2, o2 + k * 2, none⟩) (cell_lt d20)).trans d20, (hb.cell (p := ⟨b2, o2 + k * 2 + 1, none⟩) (cell_lt d21)).trans d21⟩
                      clear hx hy d10 d11 d20 d21
                      have sx := size_arg (List.getElem_mem hlt)
                      have sy := size_arg (List.getElem_mem hlt2)
                      have HU1 : Hid (a.args[k] ≠ b.args[k] → unl a.args b.args = some (a.args[k], b.args[k])) := fun he => unl_from hlt hlt2 (fun j hj => HALL.out j hj (by omega) (by omega)) he
                      have HU2 : Hid (a.args[k] = b.args[k] → ∀ j (h1 : j < k + 1) (h2 : j < a.args.length) (h3 : j < b.args.length), a.args[j] = b.args[j]) := fun he j h1 h2 h3 => by
                        by_cases hj : j = k
                        · subst hj; exact he
                        · exact HALL.out j (by omega) h2 h3
                      generalize a.args[k] = x at *
                      generalize b.args[k] = y at *
                      have HS0 : Hid (TwW a b (some ⟨b1, o1, none⟩) ca (some ⟨b2, o2, none⟩) cb w wr.drew) := HTW.out.later (below_drewN (Below.refl _ _) 1)
                      go_wp2_with fail
                      refine wp_region_held_drew (S := TwW a b (some ⟨b1, o1, none⟩) ca (some ⟨b2, o2, none⟩) cb w) (by kernel_rfl) HS0.out (fun hHeld => ?_)
                      refine wpAnyH_take (i := 0) (v := ?_) rfl (by kernel_rfl) (by kernel_rfl) (by kernel_rfl) (fun _ _ _ h => h) (Or.inl ⟨by rfl, ?_⟩) (by assumption) ?_
                      rotate_left
                      · intro w' hSw
                        have r0 : w'.cell? ⟨w.heap.size, 0, none⟩ = some (.string a.name) := hSw.k1.cell 0
                        have r1 : w'.cell? ⟨w.heap.size, 1, none⟩ = some (.slice (some ⟨b1, o1, none⟩) a.args.length ca) := hSw.k1.cell 1
                        have s0 : w'.cell? ⟨w.heap.size + 1, 0, none⟩ = some (.string b.name) := hSw.k2.cell 0
                        have s1 : w'.cell? ⟨w.heap.size + 1, 1, none⟩ = some (.slice (some ⟨b2, o2, none⟩) b.args.length cb) := hSw.k2.cell 1
                        obtain ⟨t0, t1, t2, t3⟩ := HD.out w' hSw.bl
                        go_simp <;> with_reducible rfl
                      try simp only [Act.put, List.setIfInBounds_toArray, List.set_cons_zero, List.set_cons_succ, List.getElem_toArray, List.getElem_cons_succ, List.getElem_cons_zero]
                      refine wpAnyH_take (i := 1) (v := ?_) rfl (by kernel_rfl) (by kernel_rfl) (by kernel_rfl) (fun _ _ _ h => h) (Or.inl ⟨by rfl, ?_⟩) (by assumption) ?_
                      rotate_left
                      · intro w' hSw
                        have r0 : w'.cell? ⟨w.heap.size, 0, none⟩ = some (.string a.name) := hSw.k1.cell 0
                        have r1 : w'.cell? ⟨w.heap.size, 1, none⟩ = some (.slice (some ⟨b1, o1, none⟩) a.args.length ca) := hSw.k1.cell 1
                        have s0 : w'.cell? ⟨w.heap.size + 1, 0, none⟩ = some (.string b.name) := hSw.k2.cell 0
                        have s1 : w'.cell? ⟨w.heap.size + 1, 1, none⟩ = some (.slice (some ⟨b2, o2, none⟩) b.args.length cb) := hSw.k2.cell 1
                        obtain ⟨t0, t1, t2, t3⟩ := HD.out w' hSw.bl
                        go_simp <;> with_reducible rfl
                      try simp only [Act.put, List.setIfInBounds_toArray, List.set_cons_zero, List.set_cons_succ, List.getElem_toArray, List.getElem_cons_succ, List.getElem_cons_zero]
                      refine wpAnyH_take (i := 2) (v := ?_) rfl (by kernel_rfl) (by kernel_rfl) (by kernel_rfl) (fun _ _ _ h => h) (Or.inl ⟨by rfl, ?_⟩) (by assumption) ?_
                      rotate_left
                      · intro w' hSw
                        have r0 : w'.cell? ⟨w.heap.size, 0, none⟩ = some (.string a.name) := hSw.k1.cell 0
                        have r1 : w'.cell? ⟨w.heap.size, 1, none⟩ = some (.slice (some ⟨b1, o1, none⟩) a.args.length ca) := hSw.k1.cell 1
                        have s0 : w'.cell? ⟨w.heap.size + 1, 0, none⟩ = some (.string b.name) := hSw.k2.cell 0
                        have s1 : w'.cell? ⟨w.heap.size + 1, 1, none⟩ = some (.slice (some ⟨b2, o2, none⟩) b.args.length cb) := hSw.k2.cell 1
                        obtain ⟨t0, t1, t2, t3⟩ := HD.out w' hSw.bl
                        go_simp <;> with_reducible rfl
                      try simp only [Act.put, List.setIfInBounds_toArray, List.set_cons_zero, List.set_cons_succ, List.getElem_toArray, List.getElem_cons_succ, List.getElem_cons_zero]
                      refine wpAnyH_take (i := 3) (v := ?_) rfl (by kernel_rfl) (by kernel_rfl) (by kernel_rfl) (fun _ _ _ h => h) (Or.inl ⟨by rfl, ?_⟩) (by assumption) ?_
                      rotate_left
                      · intro w' hSw
                        have r0 : w'.cell? ⟨w.heap.size, 0, none⟩ = some (.string a.name) := hSw.k1.cell 0
                        have r1 : w'.cell? ⟨w.heap.size, 1, none⟩ = some (.slice (some ⟨b1, o1, none⟩) a.args.length ca) := hSw.k1.cell 1
                        have s0 : w'.cell? ⟨w.heap.size + 1, 0, none⟩ = some (.string b.name) := hSw.k2.cell 0
                        have s1 : w'.cell? ⟨w.heap.size + 1, 1, none⟩ = some (.slice (some ⟨b2, o2, none⟩) b.args.length cb) := hSw.k2.cell 1
                        obtain ⟨t0, t1, t2, t3⟩ := HD.out w' hSw.bl
                        go_simp <;> with_reducible rfl
                      try simp only [Act.put, List.setIfInBounds_toArray, List.set_cons_zero, List.set_cons_succ, List.getElem_toArray, List.getElem_cons_succ, List.getElem_cons_zero]
                      refine wpAnyH_take (i := 4) (v := ?_) rfl (by kernel_rfl) (by kernel_rfl) (by kernel_rfl) (fun _ _ _ h => h) (Or.inl ⟨by rfl, ?_⟩) (by assumption) ?_
                      rotate_left
                      · intro w' hSw
                        have r0 : w'.cell? ⟨w.heap.size, 0, none⟩ = some (.string a.name) := hSw.k1.cell 0
                        have r1 : w'.cell? ⟨w.heap.size, 1, none⟩ = some (.slice (some ⟨b1, o1, none⟩) a.args.length ca) := hSw.k1.cell 1
                        have s0 : w'.cell? ⟨w.heap.size + 1, 0, none⟩ = some (.string b.name) := hSw.k2.cell 0
                        have s1 : w'.cell? ⟨w.heap.size + 1, 1, none⟩ = some (.slice (some ⟨b2, o2, none⟩) b.args.length cb) := hSw.k2.cell 1
                        obtain ⟨t0, t1, t2, t3⟩ := HD.out w' hSw.bl
                        go_simp <;> with_reducible rfl
                      try simp only [Act.put, List.setIfInBounds_toArray, List.set_cons_zero, List.set_cons_succ, List.getElem_toArray, List.getElem_cons_succ, List.getElem_cons_zero]
                      refine wpAnyH_take (i := 5) (v := ?_) rfl (by kernel_rfl) (by kernel_rfl) (by kernel_rfl) (fun _ _ _ h => h) (Or.inl ⟨by rfl, ?_⟩) (by assumption) ?_
                      rotate_left
                      · intro w' hSw
                        have r0 : w'.cell? ⟨w.heap.size, 0, none⟩ = some (.string a.name) := hSw.k1.cell 0
                        have r1 : w'.cell? ⟨w.heap.size, 1, none⟩ = some (.slice (some ⟨b1, o1, none⟩) a.args.length ca) := hSw.k1.cell 1
                        have s0 : w'.cell? ⟨w.heap.size + 1, 0, none⟩ = some (.string b.name) := hSw.k2.cell 0
                        have s1 : w'.cell? ⟨w.heap.size + 1, 1, none⟩ = some (.slice (some ⟨b2, o2, none⟩) b.args.length cb) := hSw.k2.cell 1
                        obtain ⟨t0, t1, t2, t3⟩ := HD.out w' hSw.bl
                        go_simp <;> with_reducible rfl
                      try simp only [Act.put, List.setIfInBounds_toArray, List.set_cons_zero, List.set_cons_succ, List.getElem_toArray, List.getElem_cons_succ, List.getElem_cons_zero]
                      refine wpAnyH_take (i := 6) (v := ?_) rfl (by kernel_rfl) (by kernel_rfl) (by kernel_rfl) (fun _ _ _ h => h) (Or.inl ⟨by rfl, ?_⟩) (by assumption) ?_
                      rotate_left
                      · intro w' hSw
                        have r0 : w'.cell? ⟨w.heap.size, 0, none⟩ = some (.string a.name) := hSw.k1.cell 0
                        have r1 : w'.cell? ⟨w.heap.size, 1, none⟩ = some (.slice (some ⟨b1, o1, none⟩) a.args.length ca) := hSw.k1.cell 1
                        have s0 : w'.cell? ⟨w.heap.size + 1, 0, none⟩ = some (.string b.name) := hSw.k2.cell 0
                        have s1 : w'.cell? ⟨w.heap.size + 1, 1, none⟩ = some (.slice (some ⟨b2, o2, none⟩) b.args.length cb) := hSw.k2.cell 1
                        obtain ⟨t0, t1, t2, t3⟩ := HD.out w' hSw.bl
                        go_simp <;> with_reducible rfl
                      try simp only [Act.put, List.setIfInBounds_toArray, List.set_cons_zero, List.set_cons_succ, List.getElem_toArray, List.getElem_cons_succ, List.getElem_cons_zero]
                      refine wpAnyH_take (i := 7) (v := ?_) rfl (by kernel_rfl) (by kernel_rfl) (by kernel_rfl) (fun _ _ _ h => h) (Or.inl ⟨by rfl, ?_⟩) (by assumption) ?_
                      rotate_left
                      · intro w' hSw
                        have r0 : w'.cell? ⟨w.heap.size, 0, none⟩ = some (.string a.name) := hSw.k1.cell 0
                        have r1 : w'.cell? ⟨w.heap.size, 1, none⟩ = some (.slice (some ⟨b1, o1, none⟩) a.args.length ca) := hSw.k1.cell 1
                        have s0 : w'.cell? ⟨w.heap.size + 1, 0, none⟩ = some (.string b.name) := hSw.k2.cell 0
                        have s1 : w'.cell? ⟨w.heap.size + 1, 1, none⟩ = some (.slice (some ⟨b2, o2, none⟩) b.args.length cb) := hSw.k2.cell 1
                        obtain ⟨t0, t1, t2, t3⟩ := HD.out w' hSw.bl
                        go_simp <;> with_reducible rfl
                      try simp only [Act.put, List.setIfInBounds_toArray, List.set_cons_zero, List.set_cons_succ, List.getElem_toArray, List.getElem_cons_succ, List.getElem_cons_zero]
                      refine wpAnyH_take (i := 8) (v := ?_) rfl (by kernel_rfl) (by kernel_rfl) (by kernel_rfl) (fun _ _ _ h => h) (Or.inl ⟨by rfl, ?_⟩) (by assumption) ?_
                      rotate_left
                      · intro w' hSw
                        have r0 : w'.cell? ⟨w.heap.size, 0, none⟩ = some (.string a.name) := hSw.k1.cell 0
                        have r1 : w'.cell? ⟨w.heap.size, 1, none⟩ = some (.slice (some ⟨b1, o1, none⟩) a.args.length ca) := hSw.k1.cell 1
                        have s0 : w'.cell? ⟨w.heap.size + 1, 0, none⟩ = some (.string b.name) := hSw.k2.cell 0
                        have s1 : w'.cell? ⟨w.heap.size + 1, 1, none⟩ = some (.slice (some ⟨b2, o2, none⟩) b.args.length cb) := hSw.k2.cell 1
                        obtain ⟨t0, t1, t2, t3⟩ := HD.out w' hSw.bl
                        go_simp <;> with_reducible rfl
                      try simp only [Act.put, List.setIfInBounds_toArray, List.set_cons_zero, List.set_cons_succ, List.getElem_toArray, List.getElem_cons_succ, List.getElem_cons_zero]
                      refine wpAnyH_take (i := 9) (v := ?_) rfl (by kernel_rfl) (by kernel_rfl) (by kernel_rfl) (fun _ _ _ h => h) (Or.inl ⟨by rfl, ?_⟩) (by assumption) ?_
                      rotate_left
                      · intro w' hSw
                        have r0 : w'.cell? ⟨w.heap.size, 0, none⟩ = some (.string a.name) := hSw.k1.cell 0
                        have r1 : w'.cell? ⟨w.heap.size, 1, none⟩ = some (.slice (some ⟨b1, o1, none⟩) a.args.length ca) := hSw.k1.cell 1
                        have s0 : w'.cell? ⟨w.heap.size + 1, 0, none⟩ = some (.string b.name) := hSw.k2.cell 0
                        have s1 : w'.cell? ⟨w.heap.size + 1, 1, none⟩ = some (.slice (some ⟨b2, o2, none⟩) b.args.length cb) := hSw.k2.cell 1
                        obtain ⟨t0, t1, t2, t3⟩ := HD.out w' hSw.bl
                        go_simp <;> with_reducible rfl
                      try simp only [Act.put, List.setIfInBounds_toArray, List.set_cons_zero, List.set_cons_succ, List.getElem_toArray, List.getElem_cons_succ, List.getElem_cons_zero]
                      refine wpAnyH_ready (rs := [10]) (by kernel_rfl) (by simp) ?_
                      refine AllReadyH.cons rfl (fun K hK => ?_) AllReadyH.nil
                      go_simp
                      go_at_call 27
                      refine (sameR_all x y _ _ _ X X (by exact HX.out.later hHeld.bl) (by exact HY.out.later hHeld.bl)).mono ?_
                      rintro e w5 ⟨rfl, hb5⟩
                      have H5 := hide (hHeld.later hb5)
                      clear hb5
                      go_simp
                      refine hK.out _ _ (by exact H5.out) (fun hHeld => ?_)
                      clear hK K
                      try simp only [Act.put, List.setIfInBounds_toArray, List.set_cons_zero, List.set_cons_succ, List.getElem_toArray, List.getElem_cons_succ, List.getElem_cons_zero]
                      refine wpAnyH_take (i := 11) (v := ?_) rfl (by kernel_rfl) (by kernel_rfl) (by kernel_rfl) (fun _ _ _ h => h) (Or.inl ⟨by rfl, ?_⟩) (by assumption) ?_
                      rotate_left
                      · intro w' hSw
                        go_simp <;> with_reducible rfl
                      try simp only [Act.put, List.setIfInBounds_toArray, List.set_cons_zero, List.set_cons_succ, List.getElem_toArray, List.getElem_cons_succ, List.getElem_cons_zero]

                      refine wpAnyH_done (by kernel_rfl) ?_ _
                      clear r0 r1 s0 s1
                      by_cases he : x = y
                      · have hs : sameB x y = true := sameB_iff.2 he
                        rw [hs]
                        have HREL := hide (HU2.out he)
                        clear he hs
                        go_wp2_with fail
                        go_roundw
                        case rel => exact ⟨k + 1, by omega, by go_num, HREL.out, H5.out⟩
                        case measure => simp [intOf]; omega
                      · have hs : sameB x y = false := by
                          cases h : sameB x y with
                          | false => rfl
                          | true => exact absurd (sameB_iff.1 h) he
                        rw [hs]
                        have HR : Hid (weightB row a b = weightB row x y) := by unfold Hid; rw [HLAST.out, HU1.out he]
                        clear he hs
                        have HS1 : Hid (TwW a b (some ⟨b1, o1, none⟩) ca (some ⟨b2, o2, none⟩) cb w w5.drew) := H5.out.later (below_drewN (Below.refl _ _) 1)
                        go_wp2_with fail
                        refine wp_region_held_drew (S := TwW a b (some ⟨b1, o1, none⟩) ca (some ⟨b2, o2, none⟩) cb w) (by kernel_rfl) HS1.out (fun hHeld => ?_)
                        refine wpAnyH_take (i := 0) (v := ?_) rfl (by kernel_rfl) (by kernel_rfl) (by kernel_rfl) (fun _ _ _ h => h) (Or.inl ⟨by rfl, ?_⟩) (by assumption) ?_
                        rotate_left
                        · intro w' hSw
                          have r0 : w'.cell? ⟨w.heap.size, 0, none⟩ = some (.string a.name) := hSw.k1.cell 0
                          have r1 : w'.cell? ⟨w.heap.size, 1, none⟩ = some (.slice (some ⟨b1, o1, none⟩) a.args.length ca) := hSw.k1.cell 1
                          have s0 : w'.cell? ⟨w.heap.size + 1, 0, none⟩ = some (.string b.name) := hSw.k2.cell 0
                          have s1 : w'.cell? ⟨w.heap.size + 1, 1, none⟩ = some (.slice (some ⟨b2, o2, none⟩) b.args.length cb) := hSw.k2.cell 1
                          obtain ⟨t0, t1, t2, t3⟩ := HD.out w' hSw.bl
                          go_simp <;> with_reducible rfl
                        try simp only [Act.put, List.setIfInBounds_toArray, List.set_cons_zero, List.set_cons_succ, List.getElem_toArray, List.getElem_cons_succ, List.getElem_cons_zero]
                        refine wpAnyH_take (i := 1) (v := ?_) rfl (by kernel_rfl) (by kernel_rfl) (by kernel_rfl) (fun _ _ _ h => h) (Or.inl ⟨by rfl, ?_⟩) (by assumption) ?_
                        rotate_left
                        · intro w' hSw
                          have r0 : w'.cell? ⟨w.heap.size, 0, none⟩ = some (.string a.name) := hSw.k1.cell 0
                          have r1 : w'.cell? ⟨w.heap.size, 1, none⟩ = some (.slice (some ⟨b1, o1, none⟩) a.args.length ca) := hSw.k1.cell 1
                          have s0 : w'.cell? ⟨w.heap.size + 1, 0, none⟩ = some (.string b.name) := hSw.k2.cell 0
                          have s1 : w'.cell? ⟨w.heap.size + 1, 1, none⟩ = some (.slice (some ⟨b2, o2, none⟩) b.args.length cb) := hSw.k2.cell 1
                          obtain ⟨t0, t1, t2, t3⟩ := HD.out w' hSw.bl
                          go_simp <;> with_reducible rfl
                        try simp only [Act.put, List.setIfInBounds_toArray, List.set_cons_zero, List.set_cons_succ, List.getElem_toArray, List.getElem_cons_succ, List.getElem_cons_zero]
                        refine wpAnyH_take (i := 2) (v := ?_) rfl (by kernel_rfl) (by kernel_rfl) (by kernel_rfl) (fun _ _ _ h => h) (Or.inl ⟨by rfl, ?_⟩) (by assumption) ?_
                        rotate_left
                        · intro w' hSw
                          have r0 : w'.cell? ⟨w.heap.size, 0, none⟩ = some (.string a.name) := hSw.k1.cell 0
                          have r1 : w'.cell? ⟨w.heap.size, 1, none⟩ = some (.slice (some ⟨b1, o1, none⟩) a.args.length ca) := hSw.k1.cell 1
                          have s0 : w'.cell? ⟨w.heap.size + 1, 0, none⟩ = some (.string b.name) := hSw.k2.cell 0
                          have s1 : w'.cell? ⟨w.heap.size + 1, 1, none⟩ = some (.slice (some ⟨b2, o2, none⟩) b.args.length cb) := hSw.k2.cell 1
                          obtain ⟨t0, t1, t2, t3⟩ := HD.out w' hSw.bl
                          go_simp <;> with_reducible rfl
                        try simp only [Act.put, List.setIfInBounds_toArray, List.set_cons_zero, List.set_cons_succ, List.getElem_toArray, List.getElem_cons_succ, List.getElem_cons_zero]
                        refine wpAnyH_take (i := 3) (v := ?_) rfl (by kernel_rfl) (by kernel_rfl) (by kernel_rfl) (fun _ _ _ h => h) (Or.inl ⟨by rfl, ?_⟩) (by assumption) ?_
                        rotate_left
                        · intro w' hSw
                          have r0 : w'.cell? ⟨w.heap.size, 0, none⟩ = some (.string a.name) := hSw.k1.cell 0
                          have r1 : w'.cell? ⟨w.heap.size, 1, none⟩ = some (.slice (some ⟨b1, o1, none⟩) a.args.length ca) := hSw.k1.cell 1
                          have s0 : w'.cell? ⟨w.heap.size + 1, 0, none⟩ = some (.string b.name) := hSw.k2.cell 0
                          have s1 : w'.cell? ⟨w.heap.size + 1, 1, none⟩ = some (.slice (some ⟨b2, o2, none⟩) b.args.length cb) := hSw.k2.cell 1
                          obtain ⟨t0, t1, t2, t3⟩ := HD.out w' hSw.bl
                          go_simp <;> with_reducible rfl
                        try simp only [Act.put, List.setIfInBounds_toArray, List.set_cons_zero, List.set_cons_succ, List.getElem_toArray, List.getElem_cons_succ, List.getElem_cons_zero]
                        refine wpAnyH_take (i := 4) (v := ?_) rfl (by kernel_rfl) (by kernel_rfl) (by kernel_rfl) (fun _ _ _ h => h) (Or.inl ⟨by rfl, ?_⟩) (by assumption) ?_
                        rotate_left
                        · intro w' hSw
                          have r0 : w'.cell? ⟨w.heap.size, 0, none⟩ = some (.string a.name) := hSw.k1.cell 0
                          have r1 : w'.cell? ⟨w.heap.size, 1, none⟩ = some (.slice (some ⟨b1, o1, none⟩) a.args.length ca) := hSw.k1.cell 1
                          have s0 : w'.cell? ⟨w.heap.size + 1, 0, none⟩ = some (.string b.name) := hSw.k2.cell 0
                          have s1 : w'.cell? ⟨w.heap.size + 1, 1, none⟩ = some (.slice (some ⟨b2, o2, none⟩) b.args.length cb) := hSw.k2.cell 1
                          obtain ⟨t0, t1, t2, t3⟩ := HD.out w' hSw.bl
                          go_simp <;> with_reducible rfl
                        try simp only [Act.put, List.setIfInBounds_toArray, List.set_cons_zero, List.set_cons_succ, List.getElem_toArray, List.getElem_cons_succ, List.getElem_cons_zero]
                        refine wpAnyH_take (i := 5) (v := ?_) rfl (by kernel_rfl) (by kernel_rfl) (by kernel_rfl) (fun _ _ _ h => h) (Or.inl ⟨by rfl, ?_⟩) (by assumption) ?_
                        rotate_left
                        · intro w' hSw
                          have r0 : w'.cell? ⟨w.heap.size, 0, none⟩ = some (.string a.name) := hSw.k1.cell 0
                          have r1 : w'.cell? ⟨w.heap.size, 1, none⟩ = some (.slice (some ⟨b1, o1, none⟩) a.args.length ca) := hSw.k1.cell 1
                          have s0 : w'.cell? ⟨w.heap.size + 1, 0, none⟩ = some (.string b.name) := hSw.k2.cell 0
                          have s1 : w'.cell? ⟨w.heap.size + 1, 1, none⟩ = some (.slice (some ⟨b2, o2, none⟩) b.args.length cb) := hSw.k2.cell 1
                          obtain ⟨t0, t1, t2, t3⟩ := HD.out w' hSw.bl
                          go_simp <;> with_reducible rfl
                        try simp only [Act.put, List.setIfInBounds_toArray, List.set_cons_zero, List.set_cons_succ, List.getElem_toArray, List.getElem_cons_succ, List.getElem_cons_zero]
                        refine wpAnyH_take (i := 6) (v := ?_) rfl (by kernel_rfl) (by kernel_rfl) (by kernel_rfl) (fun _ _ _ h => h) (Or.inl ⟨by rfl, ?_⟩) (by assumption) ?_
                        rotate_left
                        · intro w' hSw
                          have r0 : w'.cell? ⟨w.heap.size, 0, none⟩ = some (.string a.name) := hSw.k1.cell 0
                          have r1 : w'.cell? ⟨w.heap.size, 1, none⟩ = some (.slice (some ⟨b1, o1, none⟩) a.args.length ca) := hSw.k1.cell 1
                          have s0 : w'.cell? ⟨w.heap.size + 1, 0, none⟩ = some (.string b.name) := hSw.k2.cell 0
                          have s1 : w'.cell? ⟨w.heap.size + 1, 1, none⟩ = some (.slice (some ⟨b2, o2, none⟩) b.args.length cb) := hSw.k2.cell 1
                          obtain ⟨t0, t1, t2, t3⟩ := HD.out w' hSw.bl
                          go_simp <;> with_reducible rfl
                        try simp only [Act.put, List.setIfInBounds_toArray, List.set_cons_zero, List.set_cons_succ, List.getElem_toArray, List.getElem_cons_succ, List.getElem_cons_zero]
                        refine wpAnyH_take (i := 7) (v := ?_) rfl (by kernel_rfl) (by kernel_rfl) (by kernel_rfl) (fun _ _ _ h => h) (Or.inl ⟨by rfl, ?_⟩) (by assumption) ?_
                        rotate_left
                        · intro w' hSw
                          have r0 : w'.cell? ⟨w.heap.size, 0, none⟩ = some (.string a.name) := hSw.k1.cell 0
                          have r1 : w'.cell? ⟨w.heap.size, 1, none⟩ = some (.slice (some ⟨b1, o1, none⟩) a.args.length ca) := hSw.k1.cell 1
                          have s0 : w'.cell? ⟨w.heap.size + 1, 0, none⟩ = some (.string b.name) := hSw.k2.cell 0
                          have s1 : w'.cell? ⟨w.heap.size + 1, 1, none⟩ = some (.slice (some ⟨b2, o2, none⟩) b.args.length cb) := hSw.k2.cell 1
                          obtain ⟨t0, t1, t2, t3⟩ := HD.out w' hSw.bl
                          go_simp <;> with_reducible rfl
                        try simp only [Act.put, List.setIfInBounds_toArray, List.set_cons_zero, List.set_cons_succ, List.getElem_toArray, List.getElem_cons_succ, List.getElem_cons_zero]
                        refine wpAnyH_take (i := 8) (v := ?_) rfl (by kernel_rfl) (by kernel_rfl) (by kernel_rfl) (fun _ _ _ h => h) (Or.inl ⟨by rfl, ?_⟩) (by assumption) ?_
                        rotate_left
                        · intro w' hSw
                          have r0 : w'.cell? ⟨w.heap.size, 0, none⟩ = some (.string a.name) := hSw.k1.cell 0
                          have r1 : w'.cell? ⟨w.heap.size, 1, none⟩ = some (.slice (some ⟨b1, o1, none⟩) a.args.length ca) := hSw.k1.cell 1
                          have s0 : w'.cell? ⟨w.heap.size + 1, 0, none⟩ = some (.string b.name) := hSw.k2.cell 0
                          have s1 : w'.cell? ⟨w.heap.size + 1, 1, none⟩ = some (.slice (some ⟨b2, o2, none⟩) b.args.length cb) := hSw.k2.cell 1
                          obtain ⟨t0, t1, t2, t3⟩ := HD.out w' hSw.bl
                          go_simp <;> with_reducible rfl
                        try simp only [Act.put, List.setIfInBounds_toArray, List.set_cons_zero, List.set_cons_succ, List.getElem_toArray, List.getElem_cons_succ, List.getElem_cons_zero]
                        refine wpAnyH_take (i := 9) (v := ?_) rfl (by kernel_rfl) (by kernel_rfl) (by kernel_rfl) (fun _ _ _ h => h) (Or.inl ⟨by rfl, ?_⟩) (by assumption) ?_
                        rotate_left
                        · intro w' hSw
                          have r0 : w'.cell? ⟨w.heap.size, 0, none⟩ = some (.string a.name) := hSw.k1.cell 0
                          have r1 : w'.cell? ⟨w.heap.size, 1, none⟩ = some (.slice (some ⟨b1, o1, none⟩) a.args.length ca) := hSw.k1.cell 1
                          have s0 : w'.cell? ⟨w.heap.size + 1, 0, none⟩ = some (.string b.name) := hSw.k2.cell 0
                          have s1 : w'.cell? ⟨w.heap.size + 1, 1, none⟩ = some (.slice (some ⟨b2, o2, none⟩) b.args.length cb) := hSw.k2.cell 1
                          obtain ⟨t0, t1, t2, t3⟩ := HD.out w' hSw.bl
                          go_simp <;> with_reducible rfl
                        try simp only [Act.put, List.setIfInBounds_toArray, List.set_cons_zero, List.set_cons_succ, List.getElem_toArray, List.getElem_cons_succ, List.getElem_cons_zero]
                        refine wpAnyH_take (i := 10) (v := ?_) rfl (by kernel_rfl) (by kernel_rfl) (by kernel_rfl) (fun _ _ _ h => h) (Or.inl ⟨by rfl, ?_⟩) (by assumption) ?_
                        rotate_left
                        · intro w' hSw
                          have r0 : w'.cell? ⟨w.heap.size, 0, none⟩ = some (.string a.name) := hSw.k1.cell 0
                          have r1 : w'.cell? ⟨w.heap.size, 1, none⟩ = some (.slice (some ⟨b1, o1, none⟩) a.args.length ca) := hSw.k1.cell 1
                          have s0 : w'.cell? ⟨w.heap.size + 1, 0, none⟩ = some (.string b.name) := hSw.k2.cell 0
                          have s1 : w'.cell? ⟨w.heap.size + 1, 1, none⟩ = some (.slice (some ⟨b2, o2, none⟩) b.args.length cb) := hSw.k2.cell 1
                          obtain ⟨t0, t1, t2, t3⟩ := HD.out w' hSw.bl
                          go_simp <;> with_reducible rfl
                        try simp only [Act.put, List.setIfInBounds_toArray, List.set_cons_zero, List.set_cons_succ, List.getElem_toArray, List.getElem_cons_succ, List.getElem_cons_zero]
                        refine wpAnyH_ready (rs := [11]) (by kernel_rfl) (by simp) ?_
                        refine AllReadyH.cons rfl (fun K hK => ?_) AllReadyH.nil
                        go_simp
                        go_at_call 12
                        refine (IH.out x y _ _ _ _ X (by omega) (by omega) (by omega) (by exact HU.out.later hHeld.bl) (by exact HX.out.later hHeld.bl) (by exact HY.out.later hHeld.bl)).mono ?_
                        rintro e w6 ⟨rfl, hb6⟩
                        have H6 := hide (hHeld.later hb6)
                        clear hb6
                        go_simp
                        refine hK.out _ _ (by exact H6.out) (fun hHeld => ?_)
                        clear hK K
                        try simp only [Act.put, List.setIfInBounds_toArray, List.set_cons_zero, List.set_cons_succ, List.getElem_toArray, List.getElem_cons_succ, List.getElem_cons_zero]
                        refine wpAnyH_take (i := 12) (v := ?_) rfl (by kernel_rfl) (by kernel_rfl) (by kernel_rfl) (fun _ _ _ h => h) (Or.inl ⟨by rfl, ?_⟩) (by assumption) ?_
                        rotate_left
                        · intro w' hSw
                          go_simp <;> with_reducible rfl
                        try simp only [Act.put, List.setIfInBounds_toArray, List.set_cons_zero, List.set_cons_succ, List.getElem_toArray, List.getElem_cons_succ, List.getElem_cons_zero]

                        refine wpAnyH_done (by kernel_rfl) ?_ _
                        go_wp2_with fail
                        go_ret
                        exact ⟨by rw [HR.out]; rfl, H6.out.bl⟩
                    · have HR : Hid (weightB row a b = false) := by
                        unfold Hid
                        rw [HLAST.out, unl_all HLEN.out fun j h1 h2 => HALL.out j (by omega) h1 h2]
                      go_wp2_with fail
                      go_ret
                      exact ⟨by rw [HR.out]; rfl, HTW.out.bl⟩
        · have hz1 : ((sizeL [a] : Int) != (sizeL [b] : Int)) = true := by rw [bne_iff_ne]; omega
          have HR : Hid (weightB row a b = decide (sizeL [b] < sizeL [a])) := by unfold Hid; rw [HWB.out, if_neg (by rw [HAL.out]; simp), if_pos hz]
          go_wp2_with fail
          go_ret
          refine ⟨?_, A6.out.bl⟩
          rw [HR.out]
          by_cases hg : sizeL [b] < sizeL [a]
          · have : (sizeL [b] : Int) < (sizeL [a] : Int) := by omega
            simp [hg, this]
          · have : ¬ (sizeL [b] : Int) < (sizeL [a] : Int) := by omega
            simp [hg, this]
#print axioms weightOf_any
end Go.Proofs.Ythlgknglalcggac
