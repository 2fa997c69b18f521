/- Walks: whether a term stays, done twice: a closure that calls itself. -/
import Derived.Test.YtkfppicbningaaaStM
namespace Go.Proofs.Ytkfppicbningaaa
open Go.RowKit
set_option linter.unusedSimpArgs false
set_option linter.unusedVariables false
set_option maxRecDepth 8000

def lookV (B : Nat) : Value := .func (.func 51) #[] #[.pointer (some ⟨B, 0, none⟩)]
def stillV (S T : Nat) : Value := .func (.func 67) #[] #[.pointer (some ⟨S, 0, none⟩), .pointer (some ⟨T, 0, none⟩)]

def StInv (ls : List Bd) (l : List Tm) (w : World) (v : Value) (wr : World) : Prop := ∃ k : Nat, v = .int .i64 (k : Int) ∧ k ≤ l.length ∧ stL ls (l.take k) = true ∧ Below w.heap.size w wr

set_option maxHeartbeats 1000000 in
theorem still_any (S T B r : Nat) (ls : List Bd) (L : List (ByteArray × Value)) (t : Tm) : ∀ (v : Value) (w : World) (X : Nat → Prop), TV w X v t → Blk w S #[.func (.func 51) #[] #[.pointer (some ⟨B, 0, none⟩)]] 66 → Blk w T #[.func (.func 67) #[] #[.pointer (some ⟨S, 0, none⟩), .pointer (some ⟨T, 0, none⟩)]] 92 → Env w B r X ls L →
    Calls Try.prog 67 #[v, .pointer (some ⟨S, 0, none⟩), .pointer (some ⟨T, 0, none⟩)] w fun e w' => e = .returned (.bool (stT ls t)) ∧ Below w.heap.size w w' := by
  induction t using Tm.ind with
  | h s l ih =>
    intro v w X hv hS hT hE
    obtain ⟨a, c, rfl, hs⟩ := hv
    have IH := hide ih
    have HS := hide hs
    have HSB := hide hS
    have HTB := hide hT
    have HE := hide hE
    clear ih hs hS hT hE
    dsimp only
    have HB0 := hide ((Below.refl w.heap.size w).alloc (Nat.le_refl _) (.cells #[.string s, .slice a l.length c] 28))
    have S0 := hide (HSB.out.alloc (.cells #[.string s, .slice a l.length c] 28))
    have T0 := hide (Blk.new w #[.string s, .slice a l.length c] 28)
    have g0 : (w.alloc (.cells #[.string s, .slice a l.length c] 28)).cell? ⟨S, 0, none⟩ = some (.func (.func 51) #[] #[.pointer (some ⟨B, 0, none⟩)]) := S0.out.cell 0
    have g1 : (w.alloc (.cells #[.string s, .slice a l.length c] 28)).cell? ⟨w.heap.size, 0, none⟩ = some (.string s) := T0.out.cell 0
    go_enter Try.func67, Try.ntmps67
    go_wp2_with fail
    generalize w.alloc (.cells #[.string s, .slice a l.length c] 28) = w0 at *
    have HE0 := hide (HE.out.later HB0.out)
    refine (look1_any ls s B r L w0 X HE0.out.1 HE0.out.2.1 HE0.out.2.2).mono ?_
    rintro e w1 ⟨hb1, hc⟩
    have HB1 := hide (HB0.out.trans (hb1.mono HB0.out.size))
    have T1 := hide (T0.out.below hb1 T0.out.lt)
    have SS1 := hide (HS.out.later HB1.out)
    have S1 := hide (HSB.out.below HB1.out HSB.out.lt)
    have TT1 := hide (HTB.out.below HB1.out HTB.out.lt)
    have HE1 := hide (HE.out.later HB1.out)
    clear hb1 g0 g1
    have k0 : ∀ o, (w1.alloc o).cell? ⟨w.heap.size, 0, none⟩ = some (.string s) := fun o => (T1.out.alloc o).cell 0
    rcases hc with ⟨x, ax, cx, hfx, rfl, hsx⟩ | ⟨hfx, rfl⟩
    · have HR : Hid ((x.name.toList == s.toList) = stT ls ⟨s, l⟩) := by unfold Hid stT stN; rw [hfx]
      clear hfx hsx
      go_wp2_with fail
      go_ret
      exact ⟨ret_bool HR.out, HB1.out.alloc HB1.out.size _⟩
    · have HR : Hid (stL ls l = stT ls ⟨s, l⟩) := by unfold Hid stT stN; rw [hfx]
      clear hfx
      have k1 : ∀ o, (w1.alloc o).cell? ⟨w.heap.size, 1, none⟩ = some (.slice a l.length c) := fun o => (T1.out.alloc o).cell 1
      have hl := SS1.out.1
      go_wp2_with fail
      have HB2 := hide (HB1.out.alloc HB1.out.size (.cells #[.string ⟨#[]⟩, .slice none 0 0] 28))
      generalize w1.alloc (.cells #[.string ⟨#[]⟩, .slice none 0 0] 28) = w2 at *
      go_loopw [25] (fun v wr => StInv ls l w v wr) (fun v wr => l.length - (intOf v).toNat)
      case atStart => exact ⟨0, rfl, Nat.zero_le _, by simp [stL], HB2.out⟩
      case round =>
        obtain ⟨k, rfl, hk, hT, hb⟩ := hrel
        have HBR := hide hb
        have HT := hide hT
        clear hT
        by_cases hlt : k < l.length
        · obtain ⟨b, o, a', c', rfl, d0, d1, hx⟩ := (HS.out.later hb).get (Below.refl _ _) (fun _ _ h => h) k hlt
          obtain ⟨av, cv, ev, hsx⟩ := hx
          simp at ev
          obtain ⟨rfl, rfl⟩ := ev
          have hlt2 : (k : Int) < (l.length : Int) := by omega
          have HX := hide hsx
          have c3 : ∀ o, (wr.alloc o).cell? ⟨T, 0, none⟩ = some (.func (.func 67) #[] #[.pointer (some ⟨S, 0, none⟩), .pointer (some ⟨T, 0, none⟩)]) := fun o => ((HTB.out.below HBR.out HTB.out.lt).alloc o).cell 0
          have IHK : Hid (∀ o, Calls Try.prog 67 #[.agg #[.string l[k].name, .slice a' l[k].args.length c'], .pointer (some ⟨S, 0, none⟩), .pointer (some ⟨T, 0, none⟩)] (wr.alloc o) fun e w' => e = .returned (.bool (stT ls l[k])) ∧ Below (wr.alloc o).heap.size (wr.alloc o) w') := fun o =>
            IH.out l[k] (List.getElem_mem hlt) _ _ X ⟨a', c', rfl, HX.out.later ((Below.refl _ _).alloc (Nat.le_refl _) _)⟩ ((HSB.out.below HBR.out HSB.out.lt).alloc _) ((HTB.out.below HBR.out HTB.out.lt).alloc _) ((HE.out.later HBR.out).later ((Below.refl _ _).alloc (Nat.le_refl _) _))
          clear hsx hb
          go_wp2_with fail
          refine (IHK.out _).mono ?_
          rintro e w5 ⟨rfl, hb5⟩
          have HB5 := hide ((HBR.out.alloc HBR.out.size _).trans (hb5.mono (by have := HBR.out.size; simp; omega)))
          clear hb5
          cases hst : stT ls l[k] with
          | true =>
            have HN : Hid (stL ls (l.take (k + 1)) = true) := by unfold Hid; rw [stL_take ls l k hlt, HT.out, hst]; rfl
            clear hst
            go_wp2_with fail
            go_roundw
            case rel => exact ⟨k + 1, by go_num, by omega, HN.out, HB5.out⟩
            case measure => simp [intOf]; omega
          | false =>
            have HN : Hid (false = stT ls ⟨s, l⟩) := by unfold Hid; rw [← HR.out, stL_no hlt hst]
            clear hst
            go_wp2_with fail
            go_ret
            exact ⟨ret_bool HN.out, HB5.out⟩
        · have HN : Hid (true = stT ls ⟨s, l⟩) := by unfold Hid; rw [← HR.out, ← HT.out, List.take_of_length_le (by omega)]
          go_wp2_with fail
          go_ret
          exact ⟨ret_bool HN.out, HBR.out⟩
#print axioms still_any
end Go.Proofs.Ytkfppicbningaaa
