/- Walks: whether bindings stay, done twice. -/
import Derived.Test.YtkfppicbningaaaW65
namespace Go.Proofs.Ytkfppicbningaaa
open Go.RowKit
set_option linter.unusedSimpArgs false
set_option linter.unusedVariables false
set_option maxRecDepth 8000

def SbInv (ls : List Bd) (w : World) (W : World) (v : Value) (wr : World) : Prop := ∃ k : Nat, v = .int .i64 (k : Int) ∧ k ≤ ls.length ∧ stB ls (ls.take k) = true ∧ Below w.heap.size w wr ∧ Below W.heap.size W wr

set_option maxHeartbeats 1000000 in
theorem doesStay_any (ls : List Bd) (ho : Once ls) (u : Value) (w : World) (X : Nat → Prop) (hu : BV w X u ls) :
    Calls Try.prog 45 #[u] w fun e w' => e = .returned (.bool (stB ls ls)) ∧ Below w.heap.size w w' := by
  have hmf : ∀ (fn : Fn) (first cap : Array Value) (w : World), (Instr.makeFunc fn first cap).run Try.prog w = .ok (.func fn first cap) w := fun _ _ _ _ => rfl
  have HU := hide (hu.mono (Y := fun b => X b ∧ b < w.heap.size) fun b h1 h2 => ⟨h1, h2⟩)
  obtain ⟨a, c, rfl, hl, hu2⟩ := hu
  clear hu2
  go_enter Try.func45, Try.ntmps45
  go_wp2_with fail
  refine (byName_any ls ho _ w _ HU.out).mono ?_
  rintro e w1 ⟨L, rfl, hM, hP, hb1⟩
  have HM := hide hM
  have HP := hide hP
  have HB1 := hide hb1
  clear hM hP hb1
  go_wp2_with fail
  refine (look_any w.heap.size w1).mono ?_
  rintro e w2 ⟨rfl, rfl⟩
  have HB2 := hide (HB1.out.alloc HB1.out.size (.cells #[.map (some w.heap.size)] 63))
  have HE2 : Hid (Env (w1.alloc (.cells #[.map (some w.heap.size)] 63)) w1.heap.size w.heap.size (fun b => (X b ∧ b < w.heap.size) ∧ b < w.heap.size) ls L) := ⟨Blk.new _ _ _, HM.out.kept (Below.heap_alloc _ _ _ HM.out.lt), HP.out.imp fun a l hs => hs.later ((Below.refl _ _).alloc (Nat.le_refl _) _)⟩
  generalize hB : w1.heap.size = B at *
  generalize w1.alloc (.cells #[.map (some w.heap.size)] 63) = w2 at *
  go_wp2_with fail
  have S4 : Hid (Blk ((w2.alloc (.cells #[.func (.func 51) #[] #[.pointer (some ⟨B, 0, none⟩)]] 66)).alloc (.cells #[.func (.func 67) #[] #[.pointer (some ⟨w2.heap.size, 0, none⟩), .pointer (some ⟨w2.heap.size + 1, 0, none⟩)]] 92)) w2.heap.size #[.func (.func 51) #[] #[.pointer (some ⟨B, 0, none⟩)]] 66) := (Blk.new _ _ _).alloc _
  have T4 : Hid (Blk ((w2.alloc (.cells #[.func (.func 51) #[] #[.pointer (some ⟨B, 0, none⟩)]] 66)).alloc (.cells #[.func (.func 67) #[] #[.pointer (some ⟨w2.heap.size, 0, none⟩), .pointer (some ⟨w2.heap.size + 1, 0, none⟩)]] 92)) (w2.heap.size + 1) #[.func (.func 67) #[] #[.pointer (some ⟨w2.heap.size, 0, none⟩), .pointer (some ⟨w2.heap.size + 1, 0, none⟩)]] 92) := by
    have h := Blk.new (w2.alloc (.cells #[.func (.func 51) #[] #[.pointer (some ⟨B, 0, none⟩)]] 66)) #[.func (.func 67) #[] #[.pointer (some ⟨w2.heap.size, 0, none⟩), .pointer (some ⟨w2.heap.size + 1, 0, none⟩)]] 92
    unfold Hid
    simpa using h
  have HB3 : Hid (Below w2.heap.size w2 ((w2.alloc (.cells #[.func (.func 51) #[] #[.pointer (some ⟨B, 0, none⟩)]] 66)).alloc (.cells #[.func (.func 67) #[] #[.pointer (some ⟨w2.heap.size, 0, none⟩), .pointer (some ⟨w2.heap.size + 1, 0, none⟩)]] 92))) := below2 _ _
  generalize ((w2.alloc (.cells #[.func (.func 51) #[] #[.pointer (some ⟨B, 0, none⟩)]] 66)).alloc (.cells #[.func (.func 67) #[] #[.pointer (some ⟨w2.heap.size, 0, none⟩), .pointer (some ⟨w2.heap.size + 1, 0, none⟩)]] 92)) = W at *
  have HE4 := hide (HE2.out.later HB3.out)
  have HB4 := hide (HB2.out.trans (HB3.out.mono HB2.out.size))
  clear HE2 HB2 HB3 HM HP HB1 hB
  generalize hT : w2.heap.size + 1 = T at *
  generalize hS : w2.heap.size = S at *
  clear hT hS
  go_loopw [13] (fun v wr => SbInv ls w W v wr) (fun v wr => ls.length - (intOf v).toNat)
  case atStart => exact ⟨0, rfl, Nat.zero_le _, rfl, HB4.out, Below.refl _ _⟩
  case round =>
    obtain ⟨k, rfl, hk, hT, hb, hbW⟩ := hrel
    have HBR := hide hb
    have HBW := hide hbW
    have HT := hide hT
    clear hT
    by_cases hlt : k < ls.length
    · obtain ⟨b, o, a', c', rfl, d0, d1, d2, hs⟩ := (HU.out.later hb).get k hlt
      have hlt2 : (k : Int) < (ls.length : Int) := by omega
      have HX := hide hs
      have c3 : ∀ o, (wr.alloc o).cell? ⟨T, 0, none⟩ = some (.func (.func 67) #[] #[.pointer (some ⟨S, 0, none⟩), .pointer (some ⟨T, 0, none⟩)]) := fun o => ((T4.out.below HBW.out T4.out.lt).alloc o).cell 0
      have STK : Hid (∀ o, Calls Try.prog 67 #[.agg #[.string ls[k].t.name, .slice a' ls[k].t.args.length c'], .pointer (some ⟨S, 0, none⟩), .pointer (some ⟨T, 0, none⟩)] (wr.alloc o) fun e w' => e = .returned (.bool (stT ls ls[k].t)) ∧ Below (wr.alloc o).heap.size (wr.alloc o) w') := fun o =>
        still_any S T B w.heap.size ls L ls[k].t _ _ _ ⟨a', c', rfl, (HX.out.mono fun b h1 h2 => ⟨h1, h1.2⟩).later ((Below.refl _ _).alloc (Nat.le_refl _) _)⟩ ((S4.out.below HBW.out S4.out.lt).alloc _) ((T4.out.below HBW.out T4.out.lt).alloc _) ((HE4.out.later HBW.out).later ((Below.refl _ _).alloc (Nat.le_refl _) _))
      clear hs hb hbW
      cases hst : stT ls ls[k].t with
      | true =>
        rw [hst] at STK
        have HN : Hid (stB ls (ls.take (k + 1)) = true) := by unfold Hid; rw [stB_take ls ls k hlt, HT.out, hst]; rfl
        clear hst
        generalize ls[k] = d at *
        go_wp2_with fail
        refine (STK.out _).mono ?_
        rintro e w5 ⟨rfl, hb5⟩
        have HB5 := hide ((HBR.out.alloc HBR.out.size _).trans (hb5.mono (by have := HBR.out.size; simp; omega)))
        have HB6 := hide ((HBW.out.alloc HBW.out.size _).trans (hb5.mono (by have := HBW.out.size; simp; omega)))
        clear hb5
        go_wp2_with fail
        go_roundw
        case rel => exact ⟨k + 1, by go_num, by omega, HN.out, HB5.out, HB6.out⟩
        case measure => simp [intOf]; omega
      | false =>
        rw [hst] at STK
        have HN : Hid (false = stB ls ls) := by unfold Hid; rw [stB_no hlt hst]
        clear hst
        generalize ls[k] = d at *
        go_wp2_with fail
        refine (STK.out _).mono ?_
        rintro e w5 ⟨rfl, hb5⟩
        have HB5 := hide ((HBR.out.alloc HBR.out.size _).trans (hb5.mono (by have := HBR.out.size; simp; omega)))
        clear hb5
        go_wp2_with fail
        go_ret
        exact ⟨ret_bool HN.out, HB5.out⟩
    · have HN : Hid (true = stB ls ls) := by
        have h := HT.out
        rw [List.take_of_length_le (by omega)] at h
        exact h.symm
      go_wp2_with fail
      go_ret
      exact ⟨ret_bool HN.out, HBR.out⟩
#print axioms doesStay_any
end Go.Proofs.Ytkfppicbningaaa
