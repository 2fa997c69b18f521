/- Walks: one of some rows. -/
import Derived.Test.YtccbocefgoccdaaZDTopDownOwn
import Derived.Test.YtccbocefgoccdaaW141
namespace Go.Proofs.Ytccbocefgoccdaa
open Go.RowKit
set_option linter.unusedSimpArgs false
set_option linter.unusedVariables false
set_option maxRecDepth 8000

def rowsSix : List (List ByteArray) := [[⟨#[97]⟩, ⟨#[98]⟩, ⟨#[99]⟩, ⟨#[104]⟩, ⟨#[107]⟩, ⟨#[102]⟩, ⟨#[103]⟩], [⟨#[103]⟩, ⟨#[102]⟩, ⟨#[107]⟩, ⟨#[104]⟩, ⟨#[99]⟩, ⟨#[98]⟩, ⟨#[97]⟩], [⟨#[102]⟩, ⟨#[104]⟩], [], [⟨#[101]⟩, ⟨#[102]⟩, ⟨#[105]⟩], [⟨#[99]⟩, ⟨#[97]⟩, ⟨#[107]⟩, ⟨#[104]⟩, ⟨#[103]⟩, ⟨#[102]⟩]]
/-- A row in a block of its own. -/
theorem lv_blk {α : Type} {f : α → Value} {w : World} {b T : Nat} {l : List α} {X : Nat → Prop} (h : Blk w b (l.map f).toArray T) (hX : X b) (hl : l.length ≤ 1000000) : LV f w X (.slice (some ⟨b, 0, none⟩) l.length l.length) l :=
  ⟨_, _, rfl, ⟨by omega, Nat.le_refl _⟩, Or.inr ⟨b, 0, rfl, hX, fun i hi => by rw [h.cell]; simp [hi]⟩⟩
theorem inB_mem {x : ByteArray} {l : List ByteArray} (h : inB x l = true) : x ∈ l := by
  unfold inB at h
  rw [List.any_eq_true] at h
  obtain ⟨y, hy, e⟩ := h
  have e2 : y = x := bytes_inj (by simpa using e)
  rw [← e2]; exact hy
theorem rowE_of {row : List ByteArray} (h40 : row.length ≤ 40) (hall : ∀ n ∈ row, nameB n = true ∧ varB n = false) (hnd : row.Nodup) : rowE row = 0 := by
  unfold rowE
  rw [if_neg (by omega)]
  refine rows_none fun j hj => ?_
  obtain ⟨h1, h2⟩ := hall _ (List.getElem_mem hj)
  rw [rowAt_get hj, if_neg (by rw [h1, h2]; simp), if_neg]
  intro hi
  have hm := inB_mem hi
  rw [List.mem_iff_getElem] at hm
  obtain ⟨i, hi1, hi2⟩ := hm
  rw [List.getElem_take] at hi2
  simp at hi1
  exact List.pairwise_iff_getElem.1 hnd i j (by omega) hj (by omega) hi2
theorem rowsSix_ok : ∀ row ∈ rowsSix, rowE row = 0 ∧ row.length ≤ 40 := by
  intro row h
  simp only [rowsSix, List.mem_cons, List.mem_nil_iff, or_false] at h
  rcases h with rfl | rfl | rfl | rfl | rfl | rfl <;> exact ⟨rowE_of (by decide) (by decide) (by decide), by decide⟩

/-- The row that a number tells. -/
def rowN (z : Int) : List ByteArray := rowsSix.getD (pickN z 6) []
set_option maxHeartbeats 4000000 in
theorem rowFromN_any (z : Int) (hz : -9223372036854775808 ≤ z ∧ z ≤ 9223372036854775807) (w : World) :
    Calls Try.prog 12 #[.int .i64 z] w fun e w' => ∃ row v, e = .returned v ∧ row ∈ rowsSix ∧ LV Value.string w' (fun b => w.heap.size ≤ b) v row ∧ Below w.heap.size w w' ∧ row = rowN z := by
  have HW : Hid (Blk ((((((w.alloc (.cells #[.string ⟨#[97]⟩, .string ⟨#[98]⟩, .string ⟨#[99]⟩, .string ⟨#[104]⟩, .string ⟨#[107]⟩, .string ⟨#[102]⟩, .string ⟨#[103]⟩] 9)).alloc (.cells #[.string ⟨#[103]⟩, .string ⟨#[102]⟩, .string ⟨#[107]⟩, .string ⟨#[104]⟩, .string ⟨#[99]⟩, .string ⟨#[98]⟩, .string ⟨#[97]⟩] 9)).alloc (.cells #[.string ⟨#[102]⟩, .string ⟨#[104]⟩] 9)).alloc (.cells #[.string ⟨#[101]⟩, .string ⟨#[102]⟩, .string ⟨#[105]⟩] 9)).alloc (.cells #[.string ⟨#[99]⟩, .string ⟨#[97]⟩, .string ⟨#[107]⟩, .string ⟨#[104]⟩, .string ⟨#[103]⟩, .string ⟨#[102]⟩] 9)).alloc (.cells #[.slice (some ⟨w.heap.size + 0, 0, none⟩) 7 7, .slice (some ⟨w.heap.size + 1, 0, none⟩) 7 7, .slice (some ⟨w.heap.size + 2, 0, none⟩) 2 2, .slice none 0 0, .slice (some ⟨w.heap.size + 3, 0, none⟩) 3 3, .slice (some ⟨w.heap.size + 4, 0, none⟩) 6 6] 38)) (w.heap.size + 0) #[.string ⟨#[97]⟩, .string ⟨#[98]⟩, .string ⟨#[99]⟩, .string ⟨#[104]⟩, .string ⟨#[107]⟩, .string ⟨#[102]⟩, .string ⟨#[103]⟩] 9 ∧ Blk ((((((w.alloc (.cells #[.string ⟨#[97]⟩, .string ⟨#[98]⟩, .string ⟨#[99]⟩, .string ⟨#[104]⟩, .string ⟨#[107]⟩, .string ⟨#[102]⟩, .string ⟨#[103]⟩] 9)).alloc (.cells #[.string ⟨#[103]⟩, .string ⟨#[102]⟩, .string ⟨#[107]⟩, .string ⟨#[104]⟩, .string ⟨#[99]⟩, .string ⟨#[98]⟩, .string ⟨#[97]⟩] 9)).alloc (.cells #[.string ⟨#[102]⟩, .string ⟨#[104]⟩] 9)).alloc (.cells #[.string ⟨#[101]⟩, .string ⟨#[102]⟩, .string ⟨#[105]⟩] 9)).alloc (.cells #[.string ⟨#[99]⟩, .string ⟨#[97]⟩, .string ⟨#[107]⟩, .string ⟨#[104]⟩, .string ⟨#[103]⟩, .string ⟨#[102]⟩] 9)).alloc (.cells #[.slice (some ⟨w.heap.size + 0, 0, none⟩) 7 7, .slice (some ⟨w.heap.size + 1, 0, none⟩) 7 7, .slice (some ⟨w.heap.size + 2, 0, none⟩) 2 2, .slice none 0 0, .slice (some ⟨w.heap.size + 3, 0, none⟩) 3 3, .slice (some ⟨w.heap.size + 4, 0, none⟩) 6 6] 38)) (w.heap.size + 1) #[.string ⟨#[103]⟩, .string ⟨#[102]⟩, .string ⟨#[107]⟩, .string ⟨#[104]⟩, .string ⟨#[99]⟩, .string ⟨#[98]⟩, .string ⟨#[97]⟩] 9 ∧ Blk ((((((w.alloc (.cells #[.string ⟨#[97]⟩, .string ⟨#[98]⟩, .string ⟨#[99]⟩, .string ⟨#[104]⟩, .string ⟨#[107]⟩, .string ⟨#[102]⟩, .string ⟨#[103]⟩] 9)).alloc (.cells #[.string ⟨#[103]⟩, .string ⟨#[102]⟩, .string ⟨#[107]⟩, .string ⟨#[104]⟩, .string ⟨#[99]⟩, .string ⟨#[98]⟩, .string ⟨#[97]⟩] 9)).alloc (.cells #[.string ⟨#[102]⟩, .string ⟨#[104]⟩] 9)).alloc (.cells #[.string ⟨#[101]⟩, .string ⟨#[102]⟩, .string ⟨#[105]⟩] 9)).alloc (.cells #[.string ⟨#[99]⟩, .string ⟨#[97]⟩, .string ⟨#[107]⟩, .string ⟨#[104]⟩, .string ⟨#[103]⟩, .string ⟨#[102]⟩] 9)).alloc (.cells #[.slice (some ⟨w.heap.size + 0, 0, none⟩) 7 7, .slice (some ⟨w.heap.size + 1, 0, none⟩) 7 7, .slice (some ⟨w.heap.size + 2, 0, none⟩) 2 2, .slice none 0 0, .slice (some ⟨w.heap.size + 3, 0, none⟩) 3 3, .slice (some ⟨w.heap.size + 4, 0, none⟩) 6 6] 38)) (w.heap.size + 2) #[.string ⟨#[102]⟩, .string ⟨#[104]⟩] 9 ∧ Blk ((((((w.alloc (.cells #[.string ⟨#[97]⟩, .string ⟨#[98]⟩, .string ⟨#[99]⟩, .string ⟨#[104]⟩, .string ⟨#[107]⟩, .string ⟨#[102]⟩, .string ⟨#[103]⟩] 9)).alloc (.cells #[.string ⟨#[103]⟩, .string ⟨#[102]⟩, .string ⟨#[107]⟩, .string ⟨#[104]⟩, .string ⟨#[99]⟩, .string ⟨#[98]⟩, .string ⟨#[97]⟩] 9)).alloc (.cells #[.string ⟨#[102]⟩, .string ⟨#[104]⟩] 9)).alloc (.cells #[.string ⟨#[101]⟩, .string ⟨#[102]⟩, .string ⟨#[105]⟩] 9)).alloc (.cells #[.string ⟨#[99]⟩, .string ⟨#[97]⟩, .string ⟨#[107]⟩, .string ⟨#[104]⟩, .string ⟨#[103]⟩, .string ⟨#[102]⟩] 9)).alloc (.cells #[.slice (some ⟨w.heap.size + 0, 0, none⟩) 7 7, .slice (some ⟨w.heap.size + 1, 0, none⟩) 7 7, .slice (some ⟨w.heap.size + 2, 0, none⟩) 2 2, .slice none 0 0, .slice (some ⟨w.heap.size + 3, 0, none⟩) 3 3, .slice (some ⟨w.heap.size + 4, 0, none⟩) 6 6] 38)) (w.heap.size + 3) #[.string ⟨#[101]⟩, .string ⟨#[102]⟩, .string ⟨#[105]⟩] 9 ∧ Blk ((((((w.alloc (.cells #[.string ⟨#[97]⟩, .string ⟨#[98]⟩, .string ⟨#[99]⟩, .string ⟨#[104]⟩, .string ⟨#[107]⟩, .string ⟨#[102]⟩, .string ⟨#[103]⟩] 9)).alloc (.cells #[.string ⟨#[103]⟩, .string ⟨#[102]⟩, .string ⟨#[107]⟩, .string ⟨#[104]⟩, .string ⟨#[99]⟩, .string ⟨#[98]⟩, .string ⟨#[97]⟩] 9)).alloc (.cells #[.string ⟨#[102]⟩, .string ⟨#[104]⟩] 9)).alloc (.cells #[.string ⟨#[101]⟩, .string ⟨#[102]⟩, .string ⟨#[105]⟩] 9)).alloc (.cells #[.string ⟨#[99]⟩, .string ⟨#[97]⟩, .string ⟨#[107]⟩, .string ⟨#[104]⟩, .string ⟨#[103]⟩, .string ⟨#[102]⟩] 9)).alloc (.cells #[.slice (some ⟨w.heap.size + 0, 0, none⟩) 7 7, .slice (some ⟨w.heap.size + 1, 0, none⟩) 7 7, .slice (some ⟨w.heap.size + 2, 0, none⟩) 2 2, .slice none 0 0, .slice (some ⟨w.heap.size + 3, 0, none⟩) 3 3, .slice (some ⟨w.heap.size + 4, 0, none⟩) 6 6] 38)) (w.heap.size + 4) #[.string ⟨#[99]⟩, .string ⟨#[97]⟩, .string ⟨#[107]⟩, .string ⟨#[104]⟩, .string ⟨#[103]⟩, .string ⟨#[102]⟩] 9 ∧ Blk ((((((w.alloc (.cells #[.string ⟨#[97]⟩, .string ⟨#[98]⟩, .string ⟨#[99]⟩, .string ⟨#[104]⟩, .string ⟨#[107]⟩, .string ⟨#[102]⟩, .string ⟨#[103]⟩] 9)).alloc (.cells #[.string ⟨#[103]⟩, .string ⟨#[102]⟩, .string ⟨#[107]⟩, .string ⟨#[104]⟩, .string ⟨#[99]⟩, .string ⟨#[98]⟩, .string ⟨#[97]⟩] 9)).alloc (.cells #[.string ⟨#[102]⟩, .string ⟨#[104]⟩] 9)).alloc (.cells #[.string ⟨#[101]⟩, .string ⟨#[102]⟩, .string ⟨#[105]⟩] 9)).alloc (.cells #[.string ⟨#[99]⟩, .string ⟨#[97]⟩, .string ⟨#[107]⟩, .string ⟨#[104]⟩, .string ⟨#[103]⟩, .string ⟨#[102]⟩] 9)).alloc (.cells #[.slice (some ⟨w.heap.size + 0, 0, none⟩) 7 7, .slice (some ⟨w.heap.size + 1, 0, none⟩) 7 7, .slice (some ⟨w.heap.size + 2, 0, none⟩) 2 2, .slice none 0 0, .slice (some ⟨w.heap.size + 3, 0, none⟩) 3 3, .slice (some ⟨w.heap.size + 4, 0, none⟩) 6 6] 38)) (w.heap.size + 5) #[.slice (some ⟨w.heap.size + 0, 0, none⟩) 7 7, .slice (some ⟨w.heap.size + 1, 0, none⟩) 7 7, .slice (some ⟨w.heap.size + 2, 0, none⟩) 2 2, .slice none 0 0, .slice (some ⟨w.heap.size + 3, 0, none⟩) 3 3, .slice (some ⟨w.heap.size + 4, 0, none⟩) 6 6] 38 ∧ Below w.heap.size w ((((((w.alloc (.cells #[.string ⟨#[97]⟩, .string ⟨#[98]⟩, .string ⟨#[99]⟩, .string ⟨#[104]⟩, .string ⟨#[107]⟩, .string ⟨#[102]⟩, .string ⟨#[103]⟩] 9)).alloc (.cells #[.string ⟨#[103]⟩, .string ⟨#[102]⟩, .string ⟨#[107]⟩, .string ⟨#[104]⟩, .string ⟨#[99]⟩, .string ⟨#[98]⟩, .string ⟨#[97]⟩] 9)).alloc (.cells #[.string ⟨#[102]⟩, .string ⟨#[104]⟩] 9)).alloc (.cells #[.string ⟨#[101]⟩, .string ⟨#[102]⟩, .string ⟨#[105]⟩] 9)).alloc (.cells #[.string ⟨#[99]⟩, .string ⟨#[97]⟩, .string ⟨#[107]⟩, .string ⟨#[104]⟩, .string ⟨#[103]⟩, .string ⟨#[102]⟩] 9)).alloc (.cells #[.slice (some ⟨w.heap.size + 0, 0, none⟩) 7 7, .slice (some ⟨w.heap.size + 1, 0, none⟩) 7 7, .slice (some ⟨w.heap.size + 2, 0, none⟩) 2 2, .slice none 0 0, .slice (some ⟨w.heap.size + 3, 0, none⟩) 3 3, .slice (some ⟨w.heap.size + 4, 0, none⟩) 6 6] 38))) := by
    have b0 := Below.refl w.heap.size w
    have k0 := Blk.new w #[.string ⟨#[97]⟩, .string ⟨#[98]⟩, .string ⟨#[99]⟩, .string ⟨#[104]⟩, .string ⟨#[107]⟩, .string ⟨#[102]⟩, .string ⟨#[103]⟩] 9
    have b1 := b0.alloc b0.size (.cells #[.string ⟨#[97]⟩, .string ⟨#[98]⟩, .string ⟨#[99]⟩, .string ⟨#[104]⟩, .string ⟨#[107]⟩, .string ⟨#[102]⟩, .string ⟨#[103]⟩] 9)
    have e0 : (w.alloc (.cells #[.string ⟨#[97]⟩, .string ⟨#[98]⟩, .string ⟨#[99]⟩, .string ⟨#[104]⟩, .string ⟨#[107]⟩, .string ⟨#[102]⟩, .string ⟨#[103]⟩] 9)).heap.size = w.heap.size + 1 := by simp
    generalize w.alloc (.cells #[.string ⟨#[97]⟩, .string ⟨#[98]⟩, .string ⟨#[99]⟩, .string ⟨#[104]⟩, .string ⟨#[107]⟩, .string ⟨#[102]⟩, .string ⟨#[103]⟩] 9) = u0 at *
    have k1 := Blk.new u0 #[.string ⟨#[103]⟩, .string ⟨#[102]⟩, .string ⟨#[107]⟩, .string ⟨#[104]⟩, .string ⟨#[99]⟩, .string ⟨#[98]⟩, .string ⟨#[97]⟩] 9
    have b2 := b1.alloc b1.size (.cells #[.string ⟨#[103]⟩, .string ⟨#[102]⟩, .string ⟨#[107]⟩, .string ⟨#[104]⟩, .string ⟨#[99]⟩, .string ⟨#[98]⟩, .string ⟨#[97]⟩] 9)
    replace k0 := k0.alloc (.cells #[.string ⟨#[103]⟩, .string ⟨#[102]⟩, .string ⟨#[107]⟩, .string ⟨#[104]⟩, .string ⟨#[99]⟩, .string ⟨#[98]⟩, .string ⟨#[97]⟩] 9)
    have e1 : (u0.alloc (.cells #[.string ⟨#[103]⟩, .string ⟨#[102]⟩, .string ⟨#[107]⟩, .string ⟨#[104]⟩, .string ⟨#[99]⟩, .string ⟨#[98]⟩, .string ⟨#[97]⟩] 9)).heap.size = w.heap.size + 2 := by simp [e0]
    rw [e0] at k1
    generalize u0.alloc (.cells #[.string ⟨#[103]⟩, .string ⟨#[102]⟩, .string ⟨#[107]⟩, .string ⟨#[104]⟩, .string ⟨#[99]⟩, .string ⟨#[98]⟩, .string ⟨#[97]⟩] 9) = u1 at *
    have k2 := Blk.new u1 #[.string ⟨#[102]⟩, .string ⟨#[104]⟩] 9
    have b3 := b2.alloc b2.size (.cells #[.string ⟨#[102]⟩, .string ⟨#[104]⟩] 9)
    replace k0 := k0.alloc (.cells #[.string ⟨#[102]⟩, .string ⟨#[104]⟩] 9)
    replace k1 := k1.alloc (.cells #[.string ⟨#[102]⟩, .string ⟨#[104]⟩] 9)
    have e2 : (u1.alloc (.cells #[.string ⟨#[102]⟩, .string ⟨#[104]⟩] 9)).heap.size = w.heap.size + 3 := by simp [e1]
    rw [e1] at k2
    generalize u1.alloc (.cells #[.string ⟨#[102]⟩, .string ⟨#[104]⟩] 9) = u2 at *
    have k3 := Blk.new u2 #[.string ⟨#[101]⟩, .string ⟨#[102]⟩, .string ⟨#[105]⟩] 9
    have b4 := b3.alloc b3.size (.cells #[.string ⟨#[101]⟩, .string ⟨#[102]⟩, .string ⟨#[105]⟩] 9)
    replace k0 := k0.alloc (.cells #[.string ⟨#[101]⟩, .string ⟨#[102]⟩, .string ⟨#[105]⟩] 9)
    replace k1 := k1.alloc (.cells #[.string ⟨#[101]⟩, .string ⟨#[102]⟩, .string ⟨#[105]⟩] 9)
    replace k2 := k2.alloc (.cells #[.string ⟨#[101]⟩, .string ⟨#[102]⟩, .string ⟨#[105]⟩] 9)
    have e3 : (u2.alloc (.cells #[.string ⟨#[101]⟩, .string ⟨#[102]⟩, .string ⟨#[105]⟩] 9)).heap.size = w.heap.size + 4 := by simp [e2]
    rw [e2] at k3
    generalize u2.alloc (.cells #[.string ⟨#[101]⟩, .string ⟨#[102]⟩, .string ⟨#[105]⟩] 9) = u3 at *
    have k4 := Blk.new u3 #[.string ⟨#[99]⟩, .string ⟨#[97]⟩, .string ⟨#[107]⟩, .string ⟨#[104]⟩, .string ⟨#[103]⟩, .string ⟨#[102]⟩] 9
    have b5 := b4.alloc b4.size (.cells #[.string ⟨#[99]⟩, .string ⟨#[97]⟩, .string ⟨#[107]⟩, .string ⟨#[104]⟩, .string ⟨#[103]⟩, .string ⟨#[102]⟩] 9)
    replace k0 := k0.alloc (.cells #[.string ⟨#[99]⟩, .string ⟨#[97]⟩, .string ⟨#[107]⟩, .string ⟨#[104]⟩, .string ⟨#[103]⟩, .string ⟨#[102]⟩] 9)
    replace k1 := k1.alloc (.cells #[.string ⟨#[99]⟩, .string ⟨#[97]⟩, .string ⟨#[107]⟩, .string ⟨#[104]⟩, .string ⟨#[103]⟩, .string ⟨#[102]⟩] 9)
    replace k2 := k2.alloc (.cells #[.string ⟨#[99]⟩, .string ⟨#[97]⟩, .string ⟨#[107]⟩, .string ⟨#[104]⟩, .string ⟨#[103]⟩, .string ⟨#[102]⟩] 9)
    replace k3 := k3.alloc (.cells #[.string ⟨#[99]⟩, .string ⟨#[97]⟩, .string ⟨#[107]⟩, .string ⟨#[104]⟩, .string ⟨#[103]⟩, .string ⟨#[102]⟩] 9)
    have e4 : (u3.alloc (.cells #[.string ⟨#[99]⟩, .string ⟨#[97]⟩, .string ⟨#[107]⟩, .string ⟨#[104]⟩, .string ⟨#[103]⟩, .string ⟨#[102]⟩] 9)).heap.size = w.heap.size + 5 := by simp [e3]
    rw [e3] at k4
    generalize u3.alloc (.cells #[.string ⟨#[99]⟩, .string ⟨#[97]⟩, .string ⟨#[107]⟩, .string ⟨#[104]⟩, .string ⟨#[103]⟩, .string ⟨#[102]⟩] 9) = u4 at *
    have k5 := Blk.new u4 #[.slice (some ⟨w.heap.size + 0, 0, none⟩) 7 7, .slice (some ⟨w.heap.size + 1, 0, none⟩) 7 7, .slice (some ⟨w.heap.size + 2, 0, none⟩) 2 2, .slice none 0 0, .slice (some ⟨w.heap.size + 3, 0, none⟩) 3 3, .slice (some ⟨w.heap.size + 4, 0, none⟩) 6 6] 38
    rw [e4] at k5
    exact ⟨k0.alloc _, k1.alloc _, k2.alloc _, k3.alloc _, k4.alloc _, k5, b5.alloc b5.size _⟩
  go_enter Try.func12, Try.ntmps12
  go_wp2_with fail
  generalize ((((((w.alloc (.cells #[.string ⟨#[97]⟩, .string ⟨#[98]⟩, .string ⟨#[99]⟩, .string ⟨#[104]⟩, .string ⟨#[107]⟩, .string ⟨#[102]⟩, .string ⟨#[103]⟩] 9)).alloc (.cells #[.string ⟨#[103]⟩, .string ⟨#[102]⟩, .string ⟨#[107]⟩, .string ⟨#[104]⟩, .string ⟨#[99]⟩, .string ⟨#[98]⟩, .string ⟨#[97]⟩] 9)).alloc (.cells #[.string ⟨#[102]⟩, .string ⟨#[104]⟩] 9)).alloc (.cells #[.string ⟨#[101]⟩, .string ⟨#[102]⟩, .string ⟨#[105]⟩] 9)).alloc (.cells #[.string ⟨#[99]⟩, .string ⟨#[97]⟩, .string ⟨#[107]⟩, .string ⟨#[104]⟩, .string ⟨#[103]⟩, .string ⟨#[102]⟩] 9)).alloc (.cells #[.slice (some ⟨w.heap.size + 0, 0, none⟩) 7 7, .slice (some ⟨w.heap.size + 1, 0, none⟩) 7 7, .slice (some ⟨w.heap.size + 2, 0, none⟩) 2 2, .slice none 0 0, .slice (some ⟨w.heap.size + 3, 0, none⟩) 3 3, .slice (some ⟨w.heap.size + 4, 0, none⟩) 6 6] 38)) = w6 at *
  obtain ⟨k0, k1, k2, k3, k4, k5, hb⟩ := HW.out
  have HB := hide hb
  have q0 := k5.cell 0
  have q1 := k5.cell 1
  have q2 := k5.cell 2
  have q3 := k5.cell 3
  have q4 := k5.cell 4
  have q5 := k5.cell 5
  simp only [List.getElem?_toArray, List.getElem?_cons_zero, List.getElem?_cons_succ] at q0 q1 q2 q3 q4 q5
  have L0 : Hid (LV Value.string w6 (fun b => w.heap.size ≤ b) (.slice (some ⟨w.heap.size + 0, 0, none⟩) 7 7) [⟨#[97]⟩, ⟨#[98]⟩, ⟨#[99]⟩, ⟨#[104]⟩, ⟨#[107]⟩, ⟨#[102]⟩, ⟨#[103]⟩]) := lv_blk (f := Value.string) (l := ([⟨#[97]⟩, ⟨#[98]⟩, ⟨#[99]⟩, ⟨#[104]⟩, ⟨#[107]⟩, ⟨#[102]⟩, ⟨#[103]⟩] : List ByteArray)) k0 (by omega) (by decide)
  have L1 : Hid (LV Value.string w6 (fun b => w.heap.size ≤ b) (.slice (some ⟨w.heap.size + 1, 0, none⟩) 7 7) [⟨#[103]⟩, ⟨#[102]⟩, ⟨#[107]⟩, ⟨#[104]⟩, ⟨#[99]⟩, ⟨#[98]⟩, ⟨#[97]⟩]) := lv_blk (f := Value.string) (l := ([⟨#[103]⟩, ⟨#[102]⟩, ⟨#[107]⟩, ⟨#[104]⟩, ⟨#[99]⟩, ⟨#[98]⟩, ⟨#[97]⟩] : List ByteArray)) k1 (by omega) (by decide)
  have L2 : Hid (LV Value.string w6 (fun b => w.heap.size ≤ b) (.slice (some ⟨w.heap.size + 2, 0, none⟩) 2 2) [⟨#[102]⟩, ⟨#[104]⟩]) := lv_blk (f := Value.string) (l := ([⟨#[102]⟩, ⟨#[104]⟩] : List ByteArray)) k2 (by omega) (by decide)
  have L3 : Hid (LV Value.string w6 (fun b => w.heap.size ≤ b) (.slice none 0 0) []) := ⟨none, 0, rfl, by simp, Or.inl rfl⟩
  have L4 : Hid (LV Value.string w6 (fun b => w.heap.size ≤ b) (.slice (some ⟨w.heap.size + 3, 0, none⟩) 3 3) [⟨#[101]⟩, ⟨#[102]⟩, ⟨#[105]⟩]) := lv_blk (f := Value.string) (l := ([⟨#[101]⟩, ⟨#[102]⟩, ⟨#[105]⟩] : List ByteArray)) k3 (by omega) (by decide)
  have L5 : Hid (LV Value.string w6 (fun b => w.heap.size ≤ b) (.slice (some ⟨w.heap.size + 4, 0, none⟩) 6 6) [⟨#[99]⟩, ⟨#[97]⟩, ⟨#[107]⟩, ⟨#[104]⟩, ⟨#[103]⟩, ⟨#[102]⟩]) := lv_blk (f := Value.string) (l := ([⟨#[99]⟩, ⟨#[97]⟩, ⟨#[107]⟩, ⟨#[104]⟩, ⟨#[103]⟩, ⟨#[102]⟩] : List ByteArray)) k4 (by omega) (by decide)
  clear k0 k1 k2 k3 k4 k5 hb HW
  refine (pick_eq z 6 (by decide) (by decide) hz _).mono ?_
  rintro e w1 ⟨rfl, rfl⟩
  have hk := pickN_lt z 6 (by decide)
  have HRN : Hid (rowN z = rowsSix.getD (pickN z 6) []) := rfl
  generalize pickN z 6 = k at *
  match k, hk with
  | 0, _ =>
    go_wp2_with fail
    go_ret
    exact ⟨_, _, rfl, by simp [rowsSix], L0.out, HB.out, HRN.out.symm⟩
  | 1, _ =>
    go_wp2_with fail
    go_ret
    exact ⟨_, _, rfl, by simp [rowsSix], L1.out, HB.out, HRN.out.symm⟩
  | 2, _ =>
    go_wp2_with fail
    go_ret
    exact ⟨_, _, rfl, by simp [rowsSix], L2.out, HB.out, HRN.out.symm⟩
  | 3, _ =>
    go_wp2_with fail
    go_ret
    exact ⟨_, _, rfl, by simp [rowsSix], L3.out, HB.out, HRN.out.symm⟩
  | 4, _ =>
    go_wp2_with fail
    go_ret
    exact ⟨_, _, rfl, by simp [rowsSix], L4.out, HB.out, HRN.out.symm⟩
  | 5, _ =>
    go_wp2_with fail
    go_ret
    exact ⟨_, _, rfl, by simp [rowsSix], L5.out, HB.out, HRN.out.symm⟩
theorem rowFrom_any (z : Int) (hz : -9223372036854775808 ≤ z ∧ z ≤ 9223372036854775807) (w : World) :
    Calls Try.prog 12 #[.int .i64 z] w fun e w' => ∃ row v, e = .returned v ∧ row ∈ rowsSix ∧ LV Value.string w' (fun b => w.heap.size ≤ b) v row ∧ Below w.heap.size w w' :=
  (rowFromN_any z hz w).mono fun e w' ⟨row, v, h1, h2, h3, h4, _⟩ => ⟨row, v, h1, h2, h3, h4⟩
#print axioms rowsSix_ok
#print axioms rowFrom_any
end Go.Proofs.Ytccbocefgoccdaa
