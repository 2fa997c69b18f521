import Derived.Test.YtmkendjmfdaedaaGreatU3
import Derived.Test.YtmkendjmfdaedaaGreatZRewriteMadeOwn
namespace Go.Proofs.YtmkendjmfdaedaaGreat
open Go.RowKit
set_option linter.unusedSimpArgs false
set_option linter.unusedVariables false
set_option maxRecDepth 8000
theorem occB_take {p : ByteArray} {l : List Tm} {k : Nat} (h : k < l.length) : occB p (l.take (k + 1)) = (occB p (l.take k) || occB p [l[k]]) := by
 unfold occB
 rw [preL_take l k h, List.any_append]
theorem occB_yes {p : ByteArray} {l : List Tm} {k : Nat} (h : k < l.length) (h0 : occB p [l[k]] = true) : occB p l = true := by
 have e : l = l.take (k + 1) ++ l.drop (k + 1) := (List.take_append_drop _ _).symm
 have h1 := occB_take (p := p) h
 rw [h0, Bool.or_true] at h1
 unfold occB at h1 ⊢
 rw [e, preL_append, List.any_append, h1]
 rfl
theorem occB_eq (s : ByteArray) (l : List Tm) (p : ByteArray) : occB p [⟨s, l⟩] = ((s.toList == p.toList) || occB p l) := by
 unfold occB
 simp [preL]
def IhInv (p : ByteArray) (l : List Tm) (w : World) (v : Value) (wr : World) : Prop := ∃ k : Nat, k ≤ l.length ∧ v = .int .i64 (k : Int) ∧ occB p (l.take k) = false ∧ Below w.heap.size w wr
set_option maxHeartbeats 400000 in
theorem indexFuncH_of (P : Nat) (p : ByteArray) (l : List Tm) (a : Option Addr) (c : Nat) (w : World) (X : Nat → Prop) (hs : Sl w X a l)
  (hcl : ∀ x ∈ l, ∀ a' c' w', Below w.heap.size w w' → Sl w' X a' x.args → Calls Tryz.prog 95 #[.agg #[.string x.name, .slice a' x.args.length c'], .pointer (some ⟨P, 0, none⟩)] w' fun e w'' => e = .returned (.bool (occB p [x])) ∧ Below w'.heap.size w' w'') :
  Calls Tryz.prog 120 #[.slice a l.length c, .func (.func 95) #[] #[.pointer (some ⟨P, 0, none⟩)]] w fun e w' => (∃ i : Int, e = .returned (.int .i64 i) ∧ decide (0 ≤ i) = occB p l) ∧ Below w.heap.size w w' := by
 have HS := hide hs
 have HCL := hide hcl
 have hl := hs.1
 clear hs hcl
 go_enter Tryz.func120, Tryz.ntmps120
 go_wp2_with fail
 go_loopw [8] (fun v wr => IhInv p l w v wr) (fun v wr => l.length - (intOf v).toNat)
 case atStart => exact ⟨0, Nat.zero_le _, rfl, by simp [occB, preL], Below.refl _ _⟩
 case round =>
  obtain ⟨k, hk, rfl, hT, hb⟩ := hrel
  have HT := hide hT
  have HB := hide hb
  clear hT
  by_cases hlt : k < l.length
  ·have hlt2 : (k : Int) < (l.length : Int) := by omega
   obtain ⟨b, o, a', c', rfl, d0, d1, hx⟩ := HS.out.get hb (fun _ _ h => h) k hlt
   obtain ⟨av, cv, ev, hsx⟩ := hx
   simp at ev
   obtain ⟨rfl, rfl⟩ := ev
   have CK := hide (HCL.out l[k] (List.getElem_mem hlt) a' c' wr hb hsx)
   have HTK := hide (occB_take (p := p) hlt)
   have HYS := hide (occB_yes (p := p) hlt)
   clear hsx hb
   generalize l[k] = y at *
   go_wp2_with fail
   refine CK.out.mono ?_
   rintro e w1 ⟨rfl, hb1⟩
   have HB1 := hide (HB.out.trans (hb1.mono HB.out.size))
   clear hb1
   cases hm : occB p [y] with
   | true =>
    have HF := hide (HYS.out hm)
    go_wp2_with fail
    go_ret
    exact ⟨⟨_, rfl, by rw [HF.out]; simp⟩, HB1.out⟩
   | false =>
    rw [hm] at HTK
    go_wp2_with fail
    go_roundw
    case rel => exact ⟨k + 1, by omega, by go_num, by rw [HTK.out, HT.out]; rfl, HB1.out⟩
    case measure => simp [intOf]; omega
  ·have HF : Hid (false = occB p l) := by
    unfold Hid
    rw [← HT.out, List.take_of_length_le (by omega)]
   go_wp2_with fail
   go_ret
   exact ⟨⟨-1, rfl, by rw [← HF.out]; decide⟩, HB.out⟩
set_option maxHeartbeats 400000 in
theorem containsFuncH_of (P : Nat) (p : ByteArray) (l : List Tm) (a : Option Addr) (c : Nat) (w : World) (X : Nat → Prop) (hs : Sl w X a l)
  (hcl : ∀ x ∈ l, ∀ a' c' w', Below w.heap.size w w' → Sl w' X a' x.args → Calls Tryz.prog 95 #[.agg #[.string x.name, .slice a' x.args.length c'], .pointer (some ⟨P, 0, none⟩)] w' fun e w'' => e = .returned (.bool (occB p [x])) ∧ Below w'.heap.size w' w'') :
  Calls Tryz.prog 94 #[.slice a l.length c, .func (.func 95) #[] #[.pointer (some ⟨P, 0, none⟩)]] w fun e w' => e = .returned (.bool (occB p l)) ∧ Below w.heap.size w w' := by
 have IC := hide (indexFuncH_of P p l a c w X hs hcl)
 clear hs hcl
 go_enter Tryz.func94, Tryz.ntmps94
 go_wp2_with fail
 refine IC.out.mono ?_
 rintro e w1 ⟨⟨i, rfl, hi⟩, hb1⟩
 have HI := hide hi
 have HB1 := hide hb1
 clear hi hb1
 go_wp2_with fail
 go_ret
 exact ⟨ret_bool (by rw [← HI.out]), HB1.out⟩
set_option maxHeartbeats 400000 in
theorem holds_any (n : ByteArray) (t : Tm) : ∀ (tv : Value) (w : World) (X : Nat → Prop), TV w X tv t →
  Calls Tryz.prog 69 #[tv, .string n] w fun e w' => e = .returned (.bool (occB n [t])) ∧ Below w.heap.size w w' := by
 induction t using Tm.ind with
 | h s l ih =>
  intro tv w X ht
  obtain ⟨a, c, rfl, hs⟩ := ht
  have IH := hide ih
  have HS := hide hs
  have HEQ := hide (occB_eq s l n)
  clear ih hs
  dsimp only
  have HB2 : Hid (Below w.heap.size w ((w.alloc (.cells #[.string s, .slice a l.length c] 27)).alloc (.cells #[.string n] 9))) := below2 _ _
  have PA := hide ((Blk.new w #[.string s, .slice a l.length c] 27).alloc (.cells #[.string n] 9))
  have PB : Hid (Blk ((w.alloc (.cells #[.string s, .slice a l.length c] 27)).alloc (.cells #[.string n] 9)) (w.heap.size + 1) #[.string n] 9) := by
   have h := Blk.new (w.alloc (.cells #[.string s, .slice a l.length c] 27)) #[.string n] 9
   unfold Hid
   simpa using h
  have hmf : ∀ (fn : Fn) (first cap : Array Value) (w : World), (Instr.makeFunc fn first cap).run Tryz.prog w = .ok (.func fn first cap) w := fun _ _ _ _ => rfl
  cases hm : (s.toList == n.toList) with
  | true =>
   have HF : Hid (true = occB n [⟨s, l⟩]) := by unfold Hid; rw [HEQ.out, hm]; rfl
   go_enter Tryz.func69, Tryz.ntmps69
   go_wp2_with fail
   go_ret
   exact ⟨ret_bool HF.out, HB2.out⟩
  | false =>
   have HF : Hid (occB n l = occB n [⟨s, l⟩]) := by unfold Hid; rw [HEQ.out, hm]; rfl
   go_enter Tryz.func69, Tryz.ntmps69
   go_wp2_with fail
   generalize (w.alloc (.cells #[.string s, .slice a l.length c] 27)).alloc (.cells #[.string n] 9) = w3 at *
   have CF := hide (containsFuncH_of (w.heap.size + 1) n l a c w3 X (HS.out.later HB2.out) (fun x hx a' c' w' hb' hsx => by
    have PBx := hide (PB.out.below hb' PB.out.lt)
    have b0 : ∀ o, (w'.alloc o).cell? ⟨w.heap.size + 1, 0, none⟩ = some (.string n) := fun o => (PBx.out.alloc o).cell 0
    have IHX := hide (IH.out x hx (.agg #[.string x.name, .slice a' x.args.length c']) (w'.alloc (.cells #[.string x.name, .slice a' x.args.length c'] 27)) X ⟨_, _, rfl, hsx.later ((Below.refl _ _).alloc (Nat.le_refl _) _)⟩)
    clear hsx hb'
    go_enter Tryz.func95, Tryz.ntmps95
    go_wp2_with fail
    refine IHX.out.mono ?_
    rintro e w1 ⟨rfl, hb1⟩
    have HB1 := hide (((Below.refl w'.heap.size w').alloc (Nat.le_refl _) _).trans (hb1.mono (by simp)))
    clear hb1
    go_wp2_with fail
    go_ret
    exact ⟨rfl, HB1.out⟩))
   refine CF.out.mono ?_
   rintro e w4 ⟨rfl, hb4⟩
   have HB4 := hide (HB2.out.trans (hb4.mono HB2.out.size))
   clear hb4
   go_wp2_with fail
   go_ret
   exact ⟨ret_bool HF.out, HB4.out⟩
end Go.Proofs.YtmkendjmfdaedaaGreat
