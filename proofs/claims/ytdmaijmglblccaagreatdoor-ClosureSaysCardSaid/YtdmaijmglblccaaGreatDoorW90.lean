/- Walks: whether two terms are the same. -/
import Derived.Test.YtdmaijmglblccaaGreatDoorZBClosureSaysOwn
import Derived.Test.YtdmaijmglblccaaGreatDoorZClosureSaysOwn
namespace Go.Proofs.YtdmaijmglblccaaGreatDoor
open Go.RowKit
set_option linter.unusedSimpArgs false
set_option linter.unusedVariables false
set_option maxRecDepth 8000

def eqL : List Tm → List Tm → Bool
  | [], [] => true
  | ⟨s, a⟩ :: r, t :: ts => ((s.toList == t.name.toList) && ((a.length == t.args.length) && eqL a t.args)) && eqL r ts
  | _, _ => false
/-- Two terms are the same. -/
def sameB (a b : Tm) : Bool := (a.name.toList == b.name.toList) && ((a.args.length == b.args.length) && eqL a.args b.args)
theorem eqL_cons (x t : Tm) (r ts : List Tm) : eqL (x :: r) (t :: ts) = (sameB x t && eqL r ts) := by obtain ⟨s, a⟩ := x; simp only [eqL, sameB]
theorem eqL_append : ∀ (a b c d : List Tm), a.length = b.length → eqL (a ++ c) (b ++ d) = (eqL a b && eqL c d)
  | [], [], c, d, _ => by simp [eqL]
  | [], _ :: _, _, _, h => by simp at h
  | _ :: _, [], _, _, h => by simp at h
  | x :: r, t :: ts, c, d, h => by rw [List.cons_append, List.cons_append, eqL_cons, eqL_cons, eqL_append r ts c d (by simpa using h), Bool.and_assoc]
theorem eqL_take {l m : List Tm} {k : Nat} (h : k < l.length) (h2 : k < m.length) : eqL (l.take (k + 1)) (m.take (k + 1)) = (eqL (l.take k) (m.take k) && sameB l[k] m[k]) := by
  rw [List.take_succ_eq_append_getElem h, List.take_succ_eq_append_getElem h2, eqL_append _ _ _ _ (by simp; omega), eqL_cons]
  simp [eqL]
theorem eqL_no {l m : List Tm} {k : Nat} (h : k < l.length) (hlm : l.length = m.length) (h0 : sameB l[k] (m[k]'(by omega)) = false) : eqL l m = false := by
  have e1 : l = l.take (k + 1) ++ l.drop (k + 1) := (List.take_append_drop _ _).symm
  have e2 : m = m.take (k + 1) ++ m.drop (k + 1) := (List.take_append_drop _ _).symm
  rw [e1, e2, eqL_append _ _ _ _ (by simp; omega), eqL_take h (by omega), h0]
  simp

def SaInv (w : World) (l m : List Tm) (a a2 : Option Addr) (c c2 : Nat) (i : Value) (wr : World) : Prop :=
  ∃ (k : Nat), k ≤ l.length ∧ i = .int .i64 k ∧ eqL (l.take k) (m.take k) = true ∧ Below w.heap.size w wr ∧ wr.cell? ⟨w.heap.size, 1, none⟩ = some (.slice a l.length c) ∧ wr.cell? ⟨w.heap.size + 1, 1, none⟩ = some (.slice a2 l.length c2) ∧ w.heap.size + 2 ≤ wr.heap.size

set_option maxHeartbeats 2000000 in
theorem sameR_all (t : Tm) : ∀ (x : Tm) (v u : Value) (w : World) (X Y : Nat → Prop), TV w X v t → TV w Y u x →
    Calls Tryz.prog 29 #[v, u] w fun e w' => e = .returned (.bool (sameB t x)) ∧ Below w.heap.size w w' := by
  induction t using Tm.ind with
  | h s l ih =>
    intro x v u w X Y hv hu
    obtain ⟨s2, m⟩ := x
    have IH := hide ih
    clear ih
    obtain ⟨a, c, rfl, hs⟩ := hv
    obtain ⟨a2, c2, rfl, hs2⟩ := hu
    have hl := hs.1
    have hl2 := hs2.1
    dsimp only
    cases hn : (s.toList == s2.toList) with
    | false =>
      have HR : Hid (false = sameB ⟨s, l⟩ ⟨s2, m⟩) := by unfold Hid sameB; rw [hn]; rfl
      go_enter Tryz.func29, Tryz.ntmps29
      go_wp2_with fail
      go_ret
      exact ⟨ret_bool HR.out, below2 _ _⟩
    | true =>
      by_cases hm : l.length = m.length
      · have HR : Hid (eqL l m = sameB ⟨s, l⟩ ⟨s2, m⟩) := by unfold Hid sameB; simp [hn, hm]
        have HM := hide hm
        rw [← hm]
        clear hm
        go_enter Tryz.func29, Tryz.ntmps29
        go_wp2_with fail
        go_loopw [5] (fun i wr => SaInv w l m a a2 c c2 i wr) (fun i wr => l.length - (intOf i).toNat)
        case atStart => exact ⟨0, Nat.zero_le _, rfl, by simp [eqL], below2 _ _, by simp, by simp, by simp⟩
        case round =>
          obtain ⟨k, hk, rfl, hq, hb, hc1, hc2, hsz⟩ := hrel
          have HQ := hide hq
          clear hq
          by_cases hlt : k < l.length
          · obtain ⟨b, o, a', c', rfl, d0, d1, hx⟩ := hs.get hb (fun _ _ h => h) k hlt
            obtain ⟨b2, o2, a2', c2', rfl, e0, e1, hx2⟩ := hs2.get hb (fun _ _ h => h) k (by have := HM.out; omega)
            have hltm : k < m.length := by have := HM.out; omega
            have HX := hide hx
            have HX2 := hide hx2
            have HB := hide hb
            have HS0 := hide (And.intro hc1 (And.intro hc2 (And.intro d0 (And.intro d1 (And.intro e0 e1)))))
            have IHK := hide (fun (w' : World) => IH.out l[k] (List.getElem_mem hlt) m[k] (.agg #[.string l[k].name, .slice a' l[k].args.length c']) (.agg #[.string m[k].name, .slice a2' m[k].args.length c2']) w' X Y)
            have HT := hide (eqL_take hlt hltm)
            have HNO := hide (eqL_no hlt HM.out)
            clear hx hx2 hb
            generalize l[k] = y at *
            generalize m[k] = z at *
            go_wp2_with fail
            cases hsm : sameB y z with
            | true =>
              rw [hsm] at IHK HT
              go_region_held3 (fun w' => w'.cell? ⟨w.heap.size, 1, none⟩ = some (.slice (some ⟨b, o, none⟩) l.length c) ∧ w'.cell? ⟨w.heap.size + 1, 1, none⟩ = some (.slice (some ⟨b2, o2, none⟩) l.length c2) ∧ w'.cell? ⟨b, o + k * 2, none⟩ = some (.string y.name) ∧ w'.cell? ⟨b, o + k * 2 + 1, none⟩ = some (.slice a' y.args.length c') ∧ w'.cell? ⟨b2, o2 + k * 2, none⟩ = some (.string z.name) ∧ w'.cell? ⟨b2, o2 + k * 2 + 1, none⟩ = some (.slice a2' z.args.length c2')) (first | exact HS0.out | exact hS1 | go_keep)
                ((go_at_call 29; refine (IHK.out _ (by exact HX.out.later (below_drewN (Below.refl _ _) 1)) (by exact HX2.out.later (below_drewN (Below.refl _ _) 1))).mono ?_; rintro e w1 ⟨rfl, hb1⟩; have hS1 := same_cells (n := 1) hb1 HS0.out))
              go_wp2_with fail
              go_roundw
              case rel => exact ⟨k + 1, by omega, by go_num, by rw [HT.out, HQ.out]; rfl, (HB.out.trans (below_drewN (Below.refl _ _) 1)).trans (hb1.mono (by simp; omega)), hS1.1, hS1.2.1, by have := hb1.size; simp at this; omega⟩
              case measure => simp [intOf]; omega
            | false =>
              have HF : Hid (false = sameB ⟨s, l⟩ ⟨s2, m⟩) := by unfold Hid; rw [← HR.out, HNO.out hsm]
              rw [hsm] at IHK
              go_region_held3 (fun w' => w'.cell? ⟨w.heap.size, 1, none⟩ = some (.slice (some ⟨b, o, none⟩) l.length c) ∧ w'.cell? ⟨w.heap.size + 1, 1, none⟩ = some (.slice (some ⟨b2, o2, none⟩) l.length c2) ∧ w'.cell? ⟨b, o + k * 2, none⟩ = some (.string y.name) ∧ w'.cell? ⟨b, o + k * 2 + 1, none⟩ = some (.slice a' y.args.length c') ∧ w'.cell? ⟨b2, o2 + k * 2, none⟩ = some (.string z.name) ∧ w'.cell? ⟨b2, o2 + k * 2 + 1, none⟩ = some (.slice a2' z.args.length c2')) (first | exact HS0.out | exact hS1 | go_keep)
                ((go_at_call 29; refine (IHK.out _ (by exact HX.out.later (below_drewN (Below.refl _ _) 1)) (by exact HX2.out.later (below_drewN (Below.refl _ _) 1))).mono ?_; rintro e w1 ⟨rfl, hb1⟩; have hS1 := same_cells (n := 1) hb1 HS0.out))
              go_wp2_with fail
              go_ret
              exact ⟨ret_bool HF.out, (HB.out.trans (below_drewN (Below.refl _ _) 1)).trans (hb1.mono (by simp; omega))⟩
          · have HF : Hid (true = sameB ⟨s, l⟩ ⟨s2, m⟩) := by
              unfold Hid
              rw [← HR.out, ← HQ.out, List.take_of_length_le (by omega), List.take_of_length_le (by have := HM.out; omega)]
            go_wp2_with fail
            go_ret
            exact ⟨ret_bool HF.out, hb⟩
      · have HR : Hid (false = sameB ⟨s, l⟩ ⟨s2, m⟩) := by unfold Hid sameB; simp [hn, hm]
        have hm2 : ((l.length : Int) == (m.length : Int)) = false := beq_eq_false_iff_ne.2 (by omega)
        clear hm
        go_enter Tryz.func29, Tryz.ntmps29
        go_wp2_with fail
        go_ret
        exact ⟨ret_bool HR.out, below2 _ _⟩
end Go.Proofs.YtdmaijmglblccaaGreatDoor
