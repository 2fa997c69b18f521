/- Walks: how many knots a term has. -/
import Derived.Test.YtmjdhapcngfngaaRows
import Derived.Test.YtmjdhapcngfngaaTm
namespace Go.Proofs.Ytmjdhapcngfngaa
open Go.RowKit

/-- Behind a call that makes memory: old cells and marks read as before. -/
theorem bcell {W w1 : World} {B : Nat} (hb : Below B W w1) : (∀ b o, b < B → w1.cell? ⟨b, o, none⟩ = W.cell? ⟨b, o, none⟩) ∧ (∀ b o, b < B → w1.frozen? ⟨b, o, none⟩ = W.frozen? ⟨b, o, none⟩) :=
  ⟨fun b o h => hb.cell (p := ⟨b, o, none⟩) h, fun b o h => hb.frozen (p := ⟨b, o, none⟩) h⟩

theorem sizeL_take (l : List Tm) (k : Nat) (h : k < l.length) : sizeL (l.take (k + 1)) = sizeL (l.take k) + sizeL [l[k]] := by
  rw [List.take_succ_eq_append_getElem h, sizeL_append]

theorem sizeL_take_le (l : List Tm) (k : Nat) : sizeL (l.take k) ≤ sizeL l := by
  have := sizeL_append (l.take k) (l.drop k)
  rw [List.take_append_drop] at this
  omega

theorem ret_int {k : IntKind} {a b : Int} (h : a = b) : Ending.returned (.int k a) = .returned (.int k b) := by rw [h]

/-- Behind a call whose first deed was to lay its parameter down. -/
theorem below_box {w wr : World} {o : Obj} (hb : Below (w.heap.size + 1) (w.alloc o) wr) : Below w.heap.size w wr :=
  ((Below.refl _ _).alloc (Nat.le_refl _) _).trans (hb.mono (Nat.le_succ _))

set_option maxHeartbeats 400000 in
theorem size_any (t : Tm) : ∀ (v : Value) (most : Int) (w : World) (X : Nat → Prop), TV w X v t → 0 ≤ most → most ≤ 1000000 →
    Calls Try.prog 5 #[v, .int .i64 most] w fun e w' => e = .returned (.int .i64 (min (sizeL [t]) (most + 1))) ∧ Below w.heap.size w w' := by
  induction t using Tm.ind with
  | h s l ih =>
    intro v most w X hv hm0 hm1
    obtain ⟨a, c, rfl, hs⟩ := hv
    have IH := hide ih
    clear ih
    go_enter Try.func5, Try.ntmps5
    go_wp2_with fail
    go_loopw [5, 6] (fun n i wr => ∃ k : Nat, k ≤ l.length ∧ i = .int .i64 k ∧ n = .int .i64 (min (1 + sizeL (l.take k)) (most + 1)) ∧ Below (w.heap.size + 1) (w.alloc (Obj.cells #[Value.string s, Value.slice a l.length c] 28)) wr) (fun n i wr => l.length - (intOf i).toNat)
    case atStart => exact ⟨0, Nat.zero_le _, rfl, by simp [sizeL]; omega, Below.refl _ _⟩
    case round =>
      obtain ⟨k, hk, rfl, rfl, hb⟩ := hrel
      have hc := bcell hb
      have c0 : wr.cell? ⟨w.heap.size, 0, none⟩ = some (.string s) := by rw [hc.1 _ _ (by omega)]; simp
      have c1 : wr.cell? ⟨w.heap.size, 1, none⟩ = some (.slice a l.length c) := by rw [hc.1 _ _ (by omega)]; simp
      have hl := hs.1
      have hn : 0 ≤ ((1 : Int) + sizeL (l.take k)) := by omega
      by_cases hlt : k < l.length
      · obtain ⟨b, o, a', c', rfl, d0, d1, hx⟩ := hs.get (((Below.refl _ _).alloc (Nat.le_refl _) _).trans (hb.mono (Nat.le_succ _))) (fun _ _ h => h) k hlt
        by_cases hle : 1 + (sizeL (l.take k) : Int) ≤ most
        · have hmin : min (1 + (sizeL (l.take k) : Int)) (most + 1) = 1 + (sizeL (l.take k) : Int) := by omega
          rw [hmin]
          go_wp2_with fail
          refine (IH.out _ (List.getElem_mem hlt) _ _ _ X hx (by omega) (by omega)).mono ?_
          rintro e w1 ⟨rfl, hb1⟩
          have hsz : w.heap.size + 1 ≤ wr.heap.size := by have := hb.size; simpa using this
          have Hst := hide (sizeL_take l k hlt)
          have hm2 : 0 ≤ min ((sizeL [l[k]] : Int)) (most - (1 + (sizeL (l.take k) : Int)) + 1) := by omega
          have hm3 : min ((sizeL [l[k]] : Int)) (most - (1 + (sizeL (l.take k) : Int)) + 1) ≤ 1000001 := by omega
          go_wp2_with fail
          go_roundw
          case rel => exact ⟨k + 1, by omega, by go_num, by rw [Hst.out]; congr 1; omega, hb.trans (hb1.mono hsz)⟩
          case measure => simp [intOf]; omega
        · have hmin : min (1 + (sizeL (l.take k) : Int)) (most + 1) = most + 1 := by omega
          rw [hmin]
          have hz : (sizeL [(⟨s, l⟩ : Tm)] : Int) = 1 + sizeL l := by simp [sizeL]
          have hle2 : sizeL (l.take k) ≤ sizeL l := sizeL_take_le l k
          have HF := hide (show (most + 1 : Int) = min (sizeL [(⟨s, l⟩ : Tm)] : Int) (most + 1) by omega)
          clear hz
          go_wp2_with fail
          go_ret
          exact ⟨ret_int HF.out, below_box hb⟩
      · have htk : l.take k = l := List.take_of_length_le (by omega)
        rw [htk]
        have hz : (sizeL [(⟨s, l⟩ : Tm)] : Int) = 1 + sizeL l := by simp [sizeL]
        have HZ := hide hz
        clear hz
        go_wp2_with fail
        · go_ret
          exact ⟨ret_int (by have := HZ.out; omega), below_box hb⟩
        · go_ret
          exact ⟨ret_int (by have := HZ.out; omega), below_box hb⟩

#print axioms size_any
end Go.Proofs.Ytmjdhapcngfngaa
