/- Walks: one term applied to another, as the document makes it. -/
import Derived.Test.YtccbocefgoccdaaZTopDownOwn
namespace Go.Proofs.Ytccbocefgoccdaa
open Go.RowKit
set_option linter.unusedSimpArgs false
set_option linter.unusedVariables false
set_option maxRecDepth 8000

def apTD (f x : Tm) : Tm := ⟨⟨#[97, 112]⟩, [f, x]⟩
def TPostD (w : World) (X : Nat → Prop) (t : Tm) (e : Ending) (w' : World) : Prop :=
  ∃ v, e = .returned v ∧ TV w' (fun b => X b ∨ w.heap.size ≤ b) v t ∧ Below w.heap.size w w'
theorem lies_twoD {w : World} {Y : Nat → Prop} {g T c c2 : Nat} {a a2 : Option Addr} {f x : Tm} (hB : Blk w g #[.string f.name, .slice a f.args.length c, .string x.name, .slice a2 x.args.length c2] T) (hY : Y g) (h1 : Sl w Y a f.args) (h2 : Sl w Y a2 x.args) : Sl w Y (some ⟨g, 0, none⟩) [f, x] := by
  obtain ⟨s, l⟩ := f
  obtain ⟨s2, l2⟩ := x
  refine ⟨by simp, Or.inr ⟨g, 0, rfl, ?_⟩⟩
  simp only [Lies]
  exact ⟨hY, hB.cell 0, ⟨a, c, hB.cell 1, h1⟩, hY, hB.cell 2, ⟨a2, c2, hB.cell 3, h2⟩, trivial⟩
theorem put2_blkD (w : World) (f x : Tm) (a a2 : Option Addr) (c c2 : Nat) :
    Blk ((((w.alloc (.cells #[.string f.name, .slice a f.args.length c] 27)).alloc (.cells #[.string x.name, .slice a2 x.args.length c2] 27)).alloc (.cells #[.string ⟨#[97, 112]⟩, .slice (some ⟨w.heap.size + 1 + 1 + 1, 0, none⟩) 2 2] 27)).alloc (.cells #[.string f.name, .slice a f.args.length c, .string x.name, .slice a2 x.args.length c2] 27)) (w.heap.size + 1 + 1) #[.string ⟨#[97, 112]⟩, .slice (some ⟨w.heap.size + 1 + 1 + 1, 0, none⟩) 2 2] 27 ∧
    Blk ((((w.alloc (.cells #[.string f.name, .slice a f.args.length c] 27)).alloc (.cells #[.string x.name, .slice a2 x.args.length c2] 27)).alloc (.cells #[.string ⟨#[97, 112]⟩, .slice (some ⟨w.heap.size + 1 + 1 + 1, 0, none⟩) 2 2] 27)).alloc (.cells #[.string f.name, .slice a f.args.length c, .string x.name, .slice a2 x.args.length c2] 27)) (w.heap.size + 1 + 1 + 1) #[.string f.name, .slice a f.args.length c, .string x.name, .slice a2 x.args.length c2] 27 := by
  constructor
  · have h := (Blk.new ((w.alloc (.cells #[.string f.name, .slice a f.args.length c] 27)).alloc (.cells #[.string x.name, .slice a2 x.args.length c2] 27)) #[.string ⟨#[97, 112]⟩, .slice (some ⟨w.heap.size + 1 + 1 + 1, 0, none⟩) 2 2] 27).alloc (.cells #[.string f.name, .slice a f.args.length c, .string x.name, .slice a2 x.args.length c2] 27)
    simpa using h
  · have h := Blk.new (((w.alloc (.cells #[.string f.name, .slice a f.args.length c] 27)).alloc (.cells #[.string x.name, .slice a2 x.args.length c2] 27)).alloc (.cells #[.string ⟨#[97, 112]⟩, .slice (some ⟨w.heap.size + 1 + 1 + 1, 0, none⟩) 2 2] 27)) #[.string f.name, .slice a f.args.length c, .string x.name, .slice a2 x.args.length c2] 27
    simpa using h

set_option maxHeartbeats 1000000 in
theorem put2D_any (f x : Tm) (fv xv : Value) (w : World) (X : Nat → Prop) (hf : TV w X fv f) (hx : TV w X xv x) :
    Calls Try.prog 9 #[fv, xv] w fun e w' => TPostD w X (apTD f x) e w' := by
  obtain ⟨a, c, rfl, hs⟩ := hf
  obtain ⟨a2, c2, rfl, hs2⟩ := hx
  have HS := hide hs
  have HS2 := hide hs2
  clear hs hs2
  have HB : Hid (Below w.heap.size w ((((w.alloc (.cells #[.string f.name, .slice a f.args.length c] 27)).alloc (.cells #[.string x.name, .slice a2 x.args.length c2] 27)).alloc (.cells #[.string ⟨#[97, 112]⟩, .slice (some ⟨w.heap.size + 1 + 1 + 1, 0, none⟩) 2 2] 27)).alloc (.cells #[.string f.name, .slice a f.args.length c, .string x.name, .slice a2 x.args.length c2] 27))) := below4 _ _ _ _
  have q := put2_blkD w f x a a2 c c2
  have q0 := q.1.cell 0
  have q1 := q.1.cell 1
  have HQ := hide q.2
  clear q
  simp at q0 q1
  go_enter Try.func9, Try.ntmps9
  go_wp2_with fail
  refine bodyPost_ret (v := .agg #[.string ⟨#[97, 112]⟩, .slice (some ⟨w.heap.size + 1 + 1 + 1, 0, none⟩) 2 2]) (by simp [results, Try.results9, go_sem, q0, q1]) rfl ?_
  refine ⟨_, rfl, ⟨_, _, rfl, lies_twoD HQ.out (Or.inr (by omega)) ?_ ?_⟩, HB.out⟩
  · exact (HS.out.later HB.out).mono fun b h _ => Or.inl h
  · exact (HS2.out.later HB.out).mono fun b h _ => Or.inl h

#print axioms put2D_any
end Go.Proofs.Ytccbocefgoccdaa
