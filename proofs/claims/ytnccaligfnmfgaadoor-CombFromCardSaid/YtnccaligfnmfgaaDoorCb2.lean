
/- Walks: one term applied to another; whether all is put together by ap. -/
import Derived.Test.YtnccaligfnmfgaaDoorZCombFromOwn
import Derived.Test.YtnccaligfnmfgaaDoorW9
import Derived.Deep.RegionHeld3
namespace Go.Proofs.YtnccaligfnmfgaaDoor
open Go.RowKit
set_option linter.unusedSimpArgs false
set_option linter.unusedVariables false
set_option maxRecDepth 8000

/-- A term is told, of old memory and of new. -/
def TPost (w : World) (X : Nat → Prop) (t : Tm) (e : Ending) (w' : World) : Prop :=
  ∃ v, e = .returned v ∧ TV w' (fun b => X b ∨ w.heap.size ≤ b) v t ∧ Below w.heap.size w w'
theorem TV.or {w : World} {X : Nat → Prop} {v : Value} {t : Tm} (h : TV w X v t) (n : Nat) : TV w (fun b => X b ∨ n ≤ b) v t := h.mono fun _ h _ => Or.inl h
theorem lies_two {w : World} {Y : Nat → Prop} {g T c c2 : Nat} {a a2 : Option Addr} {f x : Tm} (hB : Blk w g #[.string f.name, .slice a f.args.length c, .string x.name, .slice a2 x.args.length c2] T) (hY : Y g) (h1 : Sl w Y a f.args) (h2 : Sl w Y a2 x.args) : Sl w Y (some ⟨g, 0, none⟩) [f, x] := by
  obtain ⟨s, l⟩ := f
  obtain ⟨s2, l2⟩ := x
  refine ⟨by simp, Or.inr ⟨g, 0, rfl, ?_⟩⟩
  simp only [Lies]
  exact ⟨hY, hB.cell 0, ⟨a, c, hB.cell 1, h1⟩, hY, hB.cell 2, ⟨a2, c2, hB.cell 3, h2⟩, trivial⟩
theorem cbCell_lt {w : World} {b o : Nat} {v : Value} (h : w.cell? ⟨b, o, none⟩ = some v) : b < w.heap.size := by
  apply Classical.byContradiction
  intro hn
  have e : w.heap[b]? = none := Array.getElem?_eq_none (by omega)
  simp [World.cell?, e] at h
theorem sl_twoC {w : World} {X : Nat → Prop} {a : Option Addr} {f x : Tm} (h : Sl w X a [f, x]) : ∃ b o a1 c1 a2 c2, a = some ⟨b, o, none⟩ ∧ b < w.heap.size ∧ w.cell? ⟨b, o, none⟩ = some (.string f.name) ∧ w.cell? ⟨b, o + 1, none⟩ = some (.slice a1 f.args.length c1) ∧ w.cell? ⟨b, o + 2, none⟩ = some (.string x.name) ∧ w.cell? ⟨b, o + 3, none⟩ = some (.slice a2 x.args.length c2) ∧ Sl w X a1 f.args ∧ Sl w X a2 x.args := by
  obtain ⟨s, l⟩ := f
  obtain ⟨s2, l2⟩ := x
  obtain ⟨_, h | ⟨b, o, rfl, h⟩⟩ := h
  · cases h
  · simp only [Lies] at h
    obtain ⟨_, h1, ⟨a1, c1, h2, h3⟩, _, h4, ⟨a2, c2, h5, h6⟩, _⟩ := h
    exact ⟨b, o, a1, c1, a2, c2, rfl, cbCell_lt h1, h1, h2, h4, h5, h3, h6⟩
theorem put2_blk (w : World) (f x : Tm) (a a2 : Option Addr) (c c2 : Nat) :
    Blk ((((w.alloc (.cells #[.string f.name, .slice a f.args.length c] 31)).alloc (.cells #[.string x.name, .slice a2 x.args.length c2] 31)).alloc (.cells #[.string ⟨#[97, 112]⟩, .slice (some ⟨w.heap.size + 1 + 1 + 1, 0, none⟩) 2 2] 31)).alloc (.cells #[.string f.name, .slice a f.args.length c, .string x.name, .slice a2 x.args.length c2] 31)) (w.heap.size + 1 + 1) #[.string ⟨#[97, 112]⟩, .slice (some ⟨w.heap.size + 1 + 1 + 1, 0, none⟩) 2 2] 31 ∧
    Blk ((((w.alloc (.cells #[.string f.name, .slice a f.args.length c] 31)).alloc (.cells #[.string x.name, .slice a2 x.args.length c2] 31)).alloc (.cells #[.string ⟨#[97, 112]⟩, .slice (some ⟨w.heap.size + 1 + 1 + 1, 0, none⟩) 2 2] 31)).alloc (.cells #[.string f.name, .slice a f.args.length c, .string x.name, .slice a2 x.args.length c2] 31)) (w.heap.size + 1 + 1 + 1) #[.string f.name, .slice a f.args.length c, .string x.name, .slice a2 x.args.length c2] 31 := by
  constructor
  · have h := (Blk.new ((w.alloc (.cells #[.string f.name, .slice a f.args.length c] 31)).alloc (.cells #[.string x.name, .slice a2 x.args.length c2] 31)) #[.string ⟨#[97, 112]⟩, .slice (some ⟨w.heap.size + 1 + 1 + 1, 0, none⟩) 2 2] 31).alloc (.cells #[.string f.name, .slice a f.args.length c, .string x.name, .slice a2 x.args.length c2] 31)
    simpa using h
  · have h := Blk.new (((w.alloc (.cells #[.string f.name, .slice a f.args.length c] 31)).alloc (.cells #[.string x.name, .slice a2 x.args.length c2] 31)).alloc (.cells #[.string ⟨#[97, 112]⟩, .slice (some ⟨w.heap.size + 1 + 1 + 1, 0, none⟩) 2 2] 31)) #[.string f.name, .slice a f.args.length c, .string x.name, .slice a2 x.args.length c2] 31
    simpa using h

set_option maxHeartbeats 1000000 in
theorem put2_any (f x : Tm) (fv xv : Value) (w : World) (X : Nat → Prop) (hf : TV w X fv f) (hx : TV w X xv x) :
    Calls Tryd.prog 14 #[fv, xv] w fun e w' => TPost w X (apT f x) e w' := by
  obtain ⟨a, c, rfl, hs⟩ := hf
  obtain ⟨a2, c2, rfl, hs2⟩ := hx
  have HS := hide hs
  have HS2 := hide hs2
  clear hs hs2
  have HB : Hid (Below w.heap.size w ((((w.alloc (.cells #[.string f.name, .slice a f.args.length c] 31)).alloc (.cells #[.string x.name, .slice a2 x.args.length c2] 31)).alloc (.cells #[.string ⟨#[97, 112]⟩, .slice (some ⟨w.heap.size + 1 + 1 + 1, 0, none⟩) 2 2] 31)).alloc (.cells #[.string f.name, .slice a f.args.length c, .string x.name, .slice a2 x.args.length c2] 31))) := below4 _ _ _ _
  have q := put2_blk w f x a a2 c c2
  have q0 := q.1.cell 0
  have q1 := q.1.cell 1
  have HQ := hide q.2
  clear q
  simp at q0 q1
  go_enter Tryd.func14, Tryd.ntmps14
  go_wp2_with fail
  refine bodyPost_ret (v := .agg #[.string ⟨#[97, 112]⟩, .slice (some ⟨w.heap.size + 1 + 1 + 1, 0, none⟩) 2 2]) (by simp [results, Tryd.results14, go_sem, q0, q1]) rfl ?_
  refine ⟨_, rfl, ⟨_, _, rfl, lies_two HQ.out (Or.inr (by omega)) ?_ ?_⟩, HB.out⟩
  · exact (HS.out.later HB.out).mono fun b h _ => Or.inl h
  · exact (HS2.out.later HB.out).mono fun b h _ => Or.inl h

set_option maxHeartbeats 1000000 in
theorem ap_any (f x : Tm) (fv xv : Value) (w : World) (X : Nat → Prop) (hf : TV w X fv f) (hx : TV w X xv x) :
    Calls Tryd.prog 26 #[fv, xv] w fun e w' => TPost w X (apT f x) e w' := by
  obtain ⟨a, c, rfl, hs⟩ := hf
  obtain ⟨a2, c2, rfl, hs2⟩ := hx
  have HS := hide hs
  have HS2 := hide hs2
  clear hs hs2
  have HB : Hid (Below w.heap.size w ((((w.alloc (.cells #[.string f.name, .slice a f.args.length c] 31)).alloc (.cells #[.string x.name, .slice a2 x.args.length c2] 31)).alloc (.cells #[.string ⟨#[97, 112]⟩, .slice (some ⟨w.heap.size + 1 + 1 + 1, 0, none⟩) 2 2] 31)).alloc (.cells #[.string f.name, .slice a f.args.length c, .string x.name, .slice a2 x.args.length c2] 31))) := below4 _ _ _ _
  have q := put2_blk w f x a a2 c c2
  have q0 := q.1.cell 0
  have q1 := q.1.cell 1
  have HQ := hide q.2
  clear q
  simp at q0 q1
  go_enter Tryd.func26, Tryd.ntmps26
  go_wp2_with fail
  refine bodyPost_ret (v := .agg #[.string ⟨#[97, 112]⟩, .slice (some ⟨w.heap.size + 1 + 1 + 1, 0, none⟩) 2 2]) (by simp [results, Tryd.results26, go_sem, q0, q1]) rfl ?_
  refine ⟨_, rfl, ⟨_, _, rfl, lies_two HQ.out (Or.inr (by omega)) ?_ ?_⟩, HB.out⟩
  · exact (HS.out.later HB.out).mono fun b h _ => Or.inl h
  · exact (HS2.out.later HB.out).mono fun b h _ => Or.inl h

end Go.Proofs.YtnccaligfnmfgaaDoor
