/- Walks: Match, Variant, Encompasses. -/
import Derived.Test.YtkfppicbningaaaW96
import Derived.Test.YtkfppicbningaaaW94
namespace Go.Proofs.Ytkfppicbningaaa
open Go.RowKit
set_option linter.unusedSimpArgs false
set_option linter.unusedVariables false
set_option maxRecDepth 8000

/-- Some knot of a list of terms is a case. -/
def hcL (p : Tm) (l : List Tm) : Bool := (preL l).any fun k => mtB p k
theorem hcL_take {p : Tm} {l : List Tm} {k : Nat} (h : k < l.length) : hcL p (l.take (k + 1)) = (hcL p (l.take k) || hcB l[k] p) := by
  unfold hcL hcB
  rw [preL_take l k h, List.any_append]
theorem hcL_yes {p : Tm} {l : List Tm} {k : Nat} (h : k < l.length) (h0 : hcB l[k] p = true) : hcL p l = true := by
  have e : l = l.take (k + 1) ++ l.drop (k + 1) := (List.take_append_drop _ _).symm
  unfold hcL
  rw [e, preL_append, List.any_append]
  have h1 := hcL_take (p := p) h
  unfold hcL at h1
  rw [h1, h0]
  simp
theorem hcB_eq (s : ByteArray) (l : List Tm) (p : Tm) : hcB ⟨s, l⟩ p = (mtB p ⟨s, l⟩ || hcL p l) := by
  unfold hcB hcL
  simp [preL]
def IxInv (p : Tm) (l : List Tm) (w : World) (v : Value) (wr : World) : Prop := ∃ k : Nat, k ≤ l.length ∧ v = .int .i64 (k : Int) ∧ hcL p (l.take k) = false ∧ Below w.heap.size w wr

set_option maxHeartbeats 400000 in
theorem indexFunc_of (P : Nat) (p : Tm) (l : List Tm) (a : Option Addr) (c : Nat) (w : World) (X : Nat → Prop) (hs : Sl w X a l)
    (hcl : ∀ x ∈ l, ∀ a' c' w', Below w.heap.size w w' → Sl w' X a' x.args → Calls Try.prog 64 #[.agg #[.string x.name, .slice a' x.args.length c'], .pointer (some ⟨P, 0, none⟩)] w' fun e w'' => e = .returned (.bool (hcB x p)) ∧ Below w'.heap.size w' w'') :
    Calls Try.prog 81 #[.slice a l.length c, .func (.func 64) #[] #[.pointer (some ⟨P, 0, none⟩)]] w fun e w' => (∃ i : Int, e = .returned (.int .i64 i) ∧ decide (0 ≤ i) = hcL p l) ∧ Below w.heap.size w w' := by
  have HS := hide hs
  have HCL := hide hcl
  have hl := hs.1
  clear hs hcl
  go_enter Try.func81, Try.ntmps81
  go_wp2_with fail
  go_loopw [8] (fun v wr => IxInv p l w v wr) (fun v wr => l.length - (intOf v).toNat)
  case atStart => exact ⟨0, Nat.zero_le _, rfl, by simp [hcL, preL], Below.refl _ _⟩
  case round =>
    obtain ⟨k, hk, rfl, hT, hb⟩ := hrel
    have HT := hide hT
    have HB := hide hb
    clear hT
    by_cases hlt : k < l.length
    · have hlt2 : (k : Int) < (l.length : Int) := by omega
      obtain ⟨b, o, a', c', rfl, d0, d1, hx⟩ := HS.out.get hb (fun _ _ h => h) k hlt
      obtain ⟨av, cv, ev, hsx⟩ := hx
      simp at ev
      obtain ⟨rfl, rfl⟩ := ev
      have CK := hide (HCL.out l[k] (List.getElem_mem hlt) a' c' wr hb hsx)
      have HTK := hide (hcL_take (p := p) hlt)
      have HYS := hide (hcL_yes (p := p) hlt)
      clear hsx hb
      generalize l[k] = y at *
      go_wp2_with fail
      refine CK.out.mono ?_
      rintro e w1 ⟨rfl, hb1⟩
      have HB1 := hide (HB.out.trans (hb1.mono HB.out.size))
      clear hb1
      cases hm : hcB y p with
      | true =>
        have HF := hide (HYS.out hm)
        go_wp2_with fail
        go_ret
        exact ⟨⟨_, rfl, by rw [HF.out]; simp⟩, HB1.out⟩
      | false =>
        rw [hm] at HTK
        go_wp2_with fail
        go_roundw
        case rel => exact ⟨k + 1, by omega, by go_num, by rw [HTK.out, HT.out]; rfl, HB1.out⟩
        case measure => simp [intOf]; omega
    · have HF : Hid (false = hcL p l) := by
        unfold Hid
        rw [← HT.out, List.take_of_length_le (by omega)]
      go_wp2_with fail
      go_ret
      exact ⟨⟨-1, rfl, by rw [← HF.out]; decide⟩, HB.out⟩

set_option maxHeartbeats 400000 in
theorem containsFunc_of (P : Nat) (p : Tm) (l : List Tm) (a : Option Addr) (c : Nat) (w : World) (X : Nat → Prop) (hs : Sl w X a l)
    (hcl : ∀ x ∈ l, ∀ a' c' w', Below w.heap.size w w' → Sl w' X a' x.args → Calls Try.prog 64 #[.agg #[.string x.name, .slice a' x.args.length c'], .pointer (some ⟨P, 0, none⟩)] w' fun e w'' => e = .returned (.bool (hcB x p)) ∧ Below w'.heap.size w' w'') :
    Calls Try.prog 63 #[.slice a l.length c, .func (.func 64) #[] #[.pointer (some ⟨P, 0, none⟩)]] w fun e w' => e = .returned (.bool (hcL p l)) ∧ Below w.heap.size w w' := by
  have IC := hide (indexFunc_of P p l a c w X hs hcl)
  clear hs hcl
  go_enter Try.func63, Try.ntmps63
  go_wp2_with fail
  refine IC.out.mono ?_
  rintro e w1 ⟨⟨i, rfl, hi⟩, hb1⟩
  have HI := hide hi
  have HB1 := hide hb1
  clear hi hb1
  go_wp2_with fail
  go_ret
  exact ⟨ret_bool (by rw [← HI.out]), HB1.out⟩

set_option maxHeartbeats 400000 in
theorem hasCase_any (p : Tm) (t : Tm) : ∀ (tv pv : Value) (w : World) (X : Nat → Prop), TV w X tv t → TV w X pv p →
    Calls Try.prog 39 #[tv, pv] w fun e w' => e = .returned (.bool (hcB t p)) ∧ Below w.heap.size w w' := by
  induction t using Tm.ind with
  | h s l ih =>
    intro tv pv w X ht hp
    obtain ⟨a, c, rfl, hs⟩ := ht
    obtain ⟨a2, c2, rfl, hs2⟩ := hp
    have IH := hide ih
    have HS := hide hs
    have HS2 := hide hs2
    have HEQ := hide (hcB_eq s l p)
    clear ih hs hs2
    dsimp only
    have HB2 : Hid (Below w.heap.size w ((w.alloc (.cells #[.string s, .slice a l.length c] 28)).alloc (.cells #[.string p.name, .slice a2 p.args.length c2] 28))) := below2 _ _
    have PA := hide ((Blk.new w #[.string s, .slice a l.length c] 28).alloc (.cells #[.string p.name, .slice a2 p.args.length c2] 28))
    have PB : Hid (Blk ((w.alloc (.cells #[.string s, .slice a l.length c] 28)).alloc (.cells #[.string p.name, .slice a2 p.args.length c2] 28)) (w.heap.size + 1) #[.string p.name, .slice a2 p.args.length c2] 28) := by
      have h := Blk.new (w.alloc (.cells #[.string s, .slice a l.length c] 28)) #[.string p.name, .slice a2 p.args.length c2] 28
      unfold Hid
      simpa using h
    have hmf : ∀ (fn : Fn) (first cap : Array Value) (w : World), (Instr.makeFunc fn first cap).run Try.prog w = .ok (.func fn first cap) w := fun _ _ _ _ => rfl
    go_enter Try.func39, Try.ntmps39
    go_wp2_with fail
    generalize (w.alloc (.cells #[.string s, .slice a l.length c] 28)).alloc (.cells #[.string p.name, .slice a2 p.args.length c2] 28) = w2 at *
    refine (isCase_any ⟨s, l⟩ p _ _ w2 X ⟨_, _, rfl, HS.out.later HB2.out⟩ ⟨_, _, rfl, HS2.out.later HB2.out⟩).mono ?_
    rintro e w3 ⟨rfl, hb3⟩
    have HB3 := hide (HB2.out.trans (hb3.mono HB2.out.size))
    have PA3 := hide (PA.out.below hb3 PA.out.lt)
    have PB3 := hide (PB.out.below hb3 PB.out.lt)
    clear hb3
    cases hm : mtB p ⟨s, l⟩ with
    | true =>
      have HF : Hid (true = hcB ⟨s, l⟩ p) := by unfold Hid; rw [HEQ.out, hm]; rfl
      go_wp2_with fail
      go_ret
      exact ⟨ret_bool HF.out, HB3.out⟩
    | false =>
      have HF : Hid (hcL p l = hcB ⟨s, l⟩ p) := by unfold Hid; rw [HEQ.out, hm]; rfl
      have a1 : w3.cell? ⟨w.heap.size, 1, none⟩ = some (.slice a l.length c) := PA3.out.cell 1
      have CF := hide (containsFunc_of (w.heap.size + 1) p l a c w3 X (HS.out.later HB3.out) (fun x hx a' c' w' hb' hsx => by
        have PBx := hide (PB3.out.below hb' PB3.out.lt)
        have b0 : ∀ o, (w'.alloc o).cell? ⟨w.heap.size + 1, 0, none⟩ = some (.string p.name) := fun o => (PBx.out.alloc o).cell 0
        have b1 : ∀ o, (w'.alloc o).cell? ⟨w.heap.size + 1, 1, none⟩ = some (.slice a2 p.args.length c2) := fun o => (PBx.out.alloc o).cell 1
        have IHX := hide (IH.out x hx (.agg #[.string x.name, .slice a' x.args.length c']) (.agg #[.string p.name, .slice a2 p.args.length c2]) (w'.alloc (.cells #[.string x.name, .slice a' x.args.length c'] 28)) X ⟨_, _, rfl, hsx.later ((Below.refl _ _).alloc (Nat.le_refl _) _)⟩ ⟨_, _, rfl, ((HS2.out.later HB3.out).later hb').later ((Below.refl _ _).alloc (Nat.le_refl _) _)⟩)
        clear hsx hb'
        go_enter Try.func64, Try.ntmps64
        go_wp2_with fail
        refine IHX.out.mono ?_
        rintro e w1 ⟨rfl, hb1⟩
        have HB1 := hide (((Below.refl w'.heap.size w').alloc (Nat.le_refl _) _).trans (hb1.mono (by simp)))
        clear hb1
        go_wp2_with fail
        go_ret
        exact ⟨rfl, HB1.out⟩))
      go_wp2_with fail
      refine CF.out.mono ?_
      rintro e w4 ⟨rfl, hb4⟩
      have HB4 := hide (HB3.out.trans (hb4.mono HB3.out.size))
      clear hb4
      go_wp2_with fail
      go_ret
      exact ⟨ret_bool HF.out, HB4.out⟩
#print axioms hasCase_any
end Go.Proofs.Ytkfppicbningaaa
