/- Walks: above by paths, as it is asked for. -/
import Derived.Test.YtccbocefgoccdaaW136
namespace Go.Proofs.Ytccbocefgoccdaa
open Go.RowKit
open Go.WideMaps
set_option linter.unusedSimpArgs false
set_option linter.unusedVariables false
set_option maxRecDepth 8000

set_option maxHeartbeats 4000000 in
theorem aPath_any (row : List ByteArray) (ho : OnceN row) (a b : Tm) (u va vb : Value) (w : World) (X : Nat → Prop) (ea : errL [a] = 0) (eb : errL [b] = 0) (za : sizeL [a] ≤ 20000) (zb : sizeL [b] ≤ 20000) (hu : LV Value.string w X u row) (ha : TV w X va a) (hb : TV w X vb b) :
    Calls Try.prog 21 #[u, va, vb] w fun e w' => e = .returned (.bool (pathB row a b)) ∧ Below w.heap.size w w' := by
  have HA := hide ha
  have HB := hide hb
  have HU := hide hu
  obtain ⟨aa, ca, rfl, hsa⟩ := ha
  obtain ⟨ab, cb, rfl, hsb⟩ := hb
  clear hsa hsb hu
  have HEA := hide ea
  have HEB := hide eb
  have HO := hide ho
  clear ea eb ho
  have hmm := @run_makeMap Try.prog
  have B2 : Hid (Below w.heap.size w ((w.alloc (.cells #[.string a.name, .slice aa a.args.length ca] 27)).alloc (.cells #[.string b.name, .slice ab b.args.length cb] 27))) := ((Below.refl w.heap.size w).alloc (Nat.le_refl _) _).alloc (by simp) _
  have K1 : Hid (Blk ((w.alloc (.cells #[.string a.name, .slice aa a.args.length ca] 27)).alloc (.cells #[.string b.name, .slice ab b.args.length cb] 27)) w.heap.size #[.string a.name, .slice aa a.args.length ca] 27) := (Blk.new w _ _).alloc _
  have K2 : Hid (Blk ((w.alloc (.cells #[.string a.name, .slice aa a.args.length ca] 27)).alloc (.cells #[.string b.name, .slice ab b.args.length cb] 27)) (w.heap.size + 1) #[.string b.name, .slice ab b.args.length cb] 27) := by
    have h := Blk.new (w.alloc (.cells #[.string a.name, .slice aa a.args.length ca] 27)) #[.string b.name, .slice ab b.args.length cb] 27
    have e : (w.alloc (.cells #[.string a.name, .slice aa a.args.length ca] 27)).heap.size = w.heap.size + 1 := by simp
    rw [e] at h
    exact h
  go_enter Try.func21, Try.ntmps21
  go_wp2_with fail
  generalize ((w.alloc (.cells #[.string a.name, .slice aa a.args.length ca] 27)).alloc (.cells #[.string b.name, .slice ab b.args.length cb] 27)) = w2 at *
  refine (ranksOf_any row HO.out _ _ X (by exact HU.out.later B2.out)).mono ?_
  rintro e w3 ⟨rfl, hM3, hb3⟩
  have B3 := hide (B2.out.trans (hb3.mono B2.out.size))
  have M3 := hide hM3
  have K13 := hide (K1.out.below hb3 K1.out.lt)
  have K23 := hide (K2.out.below hb3 K2.out.lt)
  have hl3 := hM3.lt
  clear hM3 hb3 K1 K2
  have t0 : ∀ o o', ((w3.alloc o).alloc o').cell? ⟨w.heap.size, 0, none⟩ = some (.string a.name) := fun o o' => ((K13.out.alloc o).alloc o').cell 0
  have t1 : ∀ o o', ((w3.alloc o).alloc o').cell? ⟨w.heap.size, 1, none⟩ = some (.slice aa a.args.length ca) := fun o o' => ((K13.out.alloc o).alloc o').cell 1
  have u0 : ∀ o o', ((w3.alloc o).alloc o').cell? ⟨w.heap.size + 1, 0, none⟩ = some (.string b.name) := fun o o' => ((K23.out.alloc o).alloc o').cell 0
  have u1 : ∀ o o', ((w3.alloc o).alloc o').cell? ⟨w.heap.size + 1, 1, none⟩ = some (.slice ab b.args.length cb) := fun o o' => ((K23.out.alloc o).alloc o').cell 1
  go_wp2_with fail
  have M5 : Hid (MapAt ((w3.alloc (.map #[] 0)).alloc (.cells #[.map (some w2.heap.size), .map (some w3.heap.size)] 80)) w2.heap.size (rkL 0 row)) := (M3.out.kept (Below.heap_alloc _ _ _ hl3)).kept (Below.heap_alloc _ _ _ (by simp; omega))
  have P5 : Hid (∀ S, MapP ((w3.alloc (.map #[] 0)).alloc (.cells #[.map (some w2.heap.size), .map (some w3.heap.size)] 80)) w3.heap.size (AskQ row S)) := fun S => (MapP.new w3 (AskQ row S)).kept (Below.heap_alloc _ _ _ (by simp))
  have B5 : Hid (Below w.heap.size w ((w3.alloc (.map #[] 0)).alloc (.cells #[.map (some w2.heap.size), .map (some w3.heap.size)] 80))) := (B3.out.alloc B3.out.size _).alloc (by have := B3.out.size; simp; omega) _
  have K5 : Hid (Blk ((w3.alloc (.map #[] 0)).alloc (.cells #[.map (some w2.heap.size), .map (some w3.heap.size)] 80)) (w3.heap.size + 1) #[.map (some w2.heap.size), .map (some w3.heap.size)] 80) := by
    have h := Blk.new (w3.alloc (.map #[] 0)) #[.map (some w2.heap.size), .map (some w3.heap.size)] 80
    have e : (w3.alloc (.map #[] 0)).heap.size = w3.heap.size + 1 := by simp
    rw [e] at h
    exact h
  generalize (w3.alloc (.map #[] 0)).alloc (.cells #[.map (some w2.heap.size), .map (some w3.heap.size)] 80) = w5 at *
  refine (numbered_any a b _ _ _ X HEA.out HEB.out za zb (by exact HA.out.later B5.out) (by exact HB.out.later B5.out)).mono ?_
  rintro e w6 ⟨S, vx, vy, rfl, hS, hvx, hvy, hb6⟩
  have HVX := hide hvx
  have HVY := hide hvy
  obtain ⟨_, ax, cx, rfl, _⟩ := hvx
  obtain ⟨_, ay, cy, rfl, _⟩ := hvy
  have B6 := hide (B5.out.trans (hb6.mono B5.out.size))
  have hl5 := K5.out.lt
  have P6 : Hid (PS row S w2.heap.size w3.heap.size w6) := ⟨M5.out.below hb6 M5.out.lt, (P5.out S).below hb6 (P5.out S).lt, by omega⟩
  have K6 := K5.out.below hb6 hl5
  have q0 : ∀ o o', ((w6.alloc o).alloc o').cell? ⟨w3.heap.size + 1, 0, none⟩ = some (.map (some w2.heap.size)) := fun o o' => ((K6.alloc o).alloc o').cell 0
  have q1 : ∀ o o', ((w6.alloc o).alloc o').cell? ⟨w3.heap.size + 1, 1, none⟩ = some (.map (some w3.heap.size)) := fun o o' => ((K6.alloc o).alloc o').cell 1
  have hSl : S.length < 9000000000000000000 := by omega
  clear hb6 t0 t1 u0 u1
  go_wp2_with fail
  refine (above_any row S w2.heap.size w3.heap.size hSl (sizeL [a] + sizeL [b]) a b _ _ _ (fun b => w5.heap.size ≤ b) (Nat.le_refl _) (fun b hb => by omega) ((P6.out.alloc _).alloc _) (by exact (HVX.out.alloc _).alloc _) (by exact (HVY.out.alloc _).alloc _)).mono ?_
  rintro e w7 ⟨rfl, _, hE7⟩
  have HB7 : Hid (Below w.heap.size w w7) := by
    have h1 := (B6.out.alloc B6.out.size (.cells #[.string a.name, .slice ax a.args.length cx, .int .i64 (numT a S), .int .i64 (sizeL [a])] 83)).alloc (by have := B6.out.size; simp; omega) (.cells #[.string b.name, .slice ay b.args.length cy, .int .i64 (numT b S), .int .i64 (sizeL [b])] 83)
    exact ⟨hE7.os.trans h1.os, hE7.tape.trans h1.tape, hE7.output.trans h1.output, Nat.le_trans h1.size hE7.size, fun k hk => (hE7.block k (by have := h1.size; omega) (by have := B3.out.size; omega)).trans (h1.block k hk)⟩
  clear hE7
  go_wp2_with fail
  go_ret
  exact ⟨rfl, HB7.out⟩
#print axioms aPath_any
end Go.Proofs.Ytccbocefgoccdaa
