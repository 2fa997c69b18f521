/- Walks: the text of a term, as the document says. -/
import Derived.Test.YtdmaijmglblccaaGreatDoorZTopClassesOwn
namespace Go.Proofs.YtdmaijmglblccaaGreatDoor
open Go.RowKit
set_option linter.unusedSimpArgs false
set_option linter.unusedVariables false

theorem ret_str {a b : ByteArray} (h : a.data.toList = b.data.toList) : Ending.returned (.string a) = .returned (.string b) := by
  have : a = b := by cases a; cases b; simp at h; simp [h]
  rw [this]

set_option maxHeartbeats 1000000 in
theorem show_any (t : Tm) : ∀ (v : Value) (w : World) (X : Nat → Prop), TV w X v t → (txtL [t]).length ≤ 1000000 →
    Calls Tryz.prog 23 #[v] w fun e w' => e = .returned (.string ⟨(txtL [t]).toArray⟩) ∧ Below w.heap.size w w' := by
  induction t using Tm.ind with
  | h s l ih =>
    intro v w X hv hsm
    obtain ⟨a, c, rfl, hs⟩ := hv
    have IH := hide ih
    clear ih
    have hl := hs.1
    go_enter Tryz.func23, Tryz.ntmps23
    go_wp2_with fail
    go_loopw [3, 4] (fun q i wr => ∃ (k : Nat) (acc : ByteArray), k ≤ l.length ∧ i = .int .i64 k ∧ q = .string acc ∧ acc.data.toList = txtTo s l k ∧ Below (w.heap.size + 1) (w.alloc (Obj.cells #[Value.string s, Value.slice a l.length c] 25)) wr) (fun q i wr => l.length - (intOf i).toNat)
    case atStart => exact ⟨0, s, Nat.zero_le _, rfl, rfl, by simp [txtTo], Below.refl _ _⟩
    case round =>
      obtain ⟨k, acc, hk, rfl, rfl, hacc, hb⟩ := hrel
      have HACC := hide hacc
      have hasz : acc.size ≤ 1000000 := by
        have h1 := txtTo_len s l k hk
        rw [← hacc] at h1
        have h2 : acc.data.toList.length = acc.size := by rw [Array.length_toList]; rfl
        omega
      clear hacc
      have hc := bcell hb
      have c1 : wr.cell? ⟨w.heap.size, 1, none⟩ = some (.slice a l.length c) := by rw [hc.1 _ _ (by omega)]; simp
      clear hc
      have hsz : w.heap.size + 1 ≤ wr.heap.size := by have := hb.size; simpa using this
      by_cases hlt : k < l.length
      · obtain ⟨b, o, a', c', rfl, d0, d1, hx⟩ := hs.get (below_box hb) (fun _ _ h => h) k hlt
        have hlen := txtTo_len s l (k + 1) (by omega)
        by_cases hk0 : k = 0
        · subst hk0
          simp only [Nat.zero_mul, Nat.add_zero] at d0 d1
          have HT := hide (txtTo_zero s l hlt)
          have hln : (txtL [l[0]]).length ≤ 1000000 := by rw [HT.out] at hlen; simp at hlen; omega
          clear hlen
          go_wp2_with fail
          refine (IH.out _ (List.getElem_mem hlt) _ _ X hx hln).mono ?_
          rintro e w1 ⟨rfl, hb1⟩
          go_wp2_with fail
          go_roundw
          case rel => exact ⟨0 + 1, _, by omega, by go_num, rfl, by rw [HT.out, ← HACC.out]; simp, hb.trans (hb1.mono hsz)⟩
          case measure => simp [intOf]; omega
        · have hk0' : ((k : Int) == 0) = false := by simp; omega
          have HT := hide (txtTo_succ s l k (by omega) hlt)
          have hln : (txtL [l[k]]).length ≤ 1000000 := by rw [HT.out] at hlen; simp at hlen; omega
          clear hlen
          go_wp2_with fail
          refine (IH.out _ (List.getElem_mem hlt) _ _ X hx hln).mono ?_
          rintro e w1 ⟨rfl, hb1⟩
          go_wp2_with fail
          go_roundw
          case rel => exact ⟨k + 1, _, by omega, by go_num, rfl, by rw [HT.out, ← HACC.out]; simp, hb.trans (hb1.mono hsz)⟩
          case measure => simp [intOf]; omega
      · have hke : k = l.length := by omega
        by_cases hn : l = []
        · subst hn
          have HE : Hid (acc.data.toList = txtL [(⟨s, []⟩ : Tm)]) := by unfold Hid; rw [HACC.out, txt_nil]; simp at hke; subst hke; simp [txtTo]
          go_wp2_with fail
          go_ret
          exact ⟨ret_str (by rw [HE.out]), below_box hb⟩
        · have hlp : 0 < l.length := List.length_pos_iff.2 hn
          have HE : Hid (acc.data.toList ++ [41] = txtL [(⟨s, l⟩ : Tm)]) := by unfold Hid; rw [HACC.out, txtTo_end s l hn, hke]
          clear hn hke
          go_wp2_with fail
          go_ret
          exact ⟨ret_str (by rw [← HE.out]; simp), below_box hb⟩
end Go.Proofs.YtdmaijmglblccaaGreatDoor
