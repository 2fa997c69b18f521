/- Walks: binders.Put. -/
import Derived.Test.YtaifameeoipjjaaL9
namespace Go.Proofs.Ytaifameeoipjjaa
open Go.RowKit
set_option linter.unusedSimpArgs false
set_option linter.unusedVariables false
set_option maxRecDepth 8000

set_option maxHeartbeats 1000000 in
theorem bPut_any (t z : Lm) (v u : Value) (w : World) (X : Nat → Prop) (hv : MV w X v t) (hu : MV w X u z) (hts : sizeM [t] ≤ 10000) (htb : BndM [t]) (htl : LfM [t]) (hzs : sizeM [z] ≤ 10000) (hzb : BndM [z]) (hzl : LfM [z]) :
    Calls Try.prog 44 #[v, u, .int .i64 2000] w fun e w' => Below w.heap.size w w' ∧ ((sizeM [insT z 0 t] ≤ 2000 ∧ ∃ a c, e = .returned (.tuple #[.agg #[.int .i64 (insT z 0 t).kind, .int .i64 (insT z 0 t).idx, .slice a (insT z 0 t).subs.length c], .bool true]) ∧ SlM w' (fun b => w.heap.size ≤ b) a (insT z 0 t).subs) ∨ (2000 < sizeM [insT z 0 t] ∧ e = .returned (.tuple #[.agg #[.int .i64 0, .int .i64 0, .slice none 0 0], .bool false]))) := by
  have hmf : ∀ (fn : Fn) (first cap : Array Value) (w : World), (Instr.makeFunc fn first cap).run Try.prog w = .ok (.func fn first cap) w := fun _ _ _ _ => rfl
  obtain ⟨a, c, rfl, hs⟩ := hv
  obtain ⟨az, cz, rfl, hsz⟩ := hu
  have HS := hide hs
  have HZ := hide hsz
  clear hs hsz
  go_enter Try.func44, Try.ntmps44
  go_wp2_with fail
  refine (buildP_any (w.heap.size + 1 + 1 + 1) (w.heap.size + 1) z (by omega) hzb hzl (by omega) t 2000 _ 0 _ (fun b => X b ∧ b < w.heap.size) ⟨a, c, rfl, ((((HS.out.mono (Y := fun b => X b ∧ b < w.heap.size) fun b h1 h2 => ⟨h1, h2⟩).later ((Below.refl _ _).alloc (Nat.le_refl _) _)).later ((Below.refl _ _).alloc (Nat.le_refl _) _)).later ((Below.refl _ _).alloc (Nat.le_refl _) _)).later ((Below.refl _ _).alloc (Nat.le_refl _) _)⟩ (fun b h => by have := h.2; omega) (by omega) (Int.le_refl 0) (by omega) htb htl ?_ ⟨az, cz, ?_, ((((HZ.out.mono (Y := fun b => X b ∧ b < w.heap.size) fun b h1 h2 => ⟨h1, h2⟩).later ((Below.refl _ _).alloc (Nat.le_refl _) _)).later ((Below.refl _ _).alloc (Nat.le_refl _) _)).later ((Below.refl _ _).alloc (Nat.le_refl _) _)).later ((Below.refl _ _).alloc (Nat.le_refl _) _)⟩).mono ?_
  · have h := Blk.new (((w.alloc (.cells #[.int .i64 t.kind, .int .i64 t.idx, .slice a t.subs.length c] 24)).alloc (.cells #[.int .i64 z.kind, .int .i64 z.idx, .slice az z.subs.length cz] 24)).alloc (.cells #[.int .i64 0, .int .i64 0, .slice none 0 0] 24)) #[.int .i64 2000] 59
    simp only [World.size_alloc] at h
    exact h
  · have h := ((Blk.new (w.alloc (.cells #[.int .i64 t.kind, .int .i64 t.idx, .slice a t.subs.length c] 24)) #[.int .i64 z.kind, .int .i64 z.idx, .slice az z.subs.length cz] 24).alloc (.cells #[.int .i64 0, .int .i64 0, .slice none 0 0] 24)).alloc (.cells #[.int .i64 2000] 59)
    simp only [World.size_alloc] at h
    exact h
  rintro e w1 ⟨k', x', a', l', c', m, rfl, hF1, hx1, hy1, hn1⟩
  have R1 : Hid (Blk w1 (w.heap.size + 1 + 1) #[.int .i64 0, .int .i64 0, .slice none 0 0] 24) := by
    have h := ((Blk.new ((w.alloc (.cells #[.int .i64 t.kind, .int .i64 t.idx, .slice a t.subs.length c] 24)).alloc (.cells #[.int .i64 z.kind, .int .i64 z.idx, .slice az z.subs.length cz] 24)) #[.int .i64 0, .int .i64 0, .slice none 0 0] 24).alloc (.cells #[.int .i64 2000] 59)).ex hx1 (by simp)
    simp only [World.size_alloc] at h
    exact h
  have HB : Hid (Below w.heap.size w w1) := by
    have h2 : Below w.heap.size ((((w.alloc (.cells #[.int .i64 t.kind, .int .i64 t.idx, .slice a t.subs.length c] 24)).alloc (.cells #[.int .i64 z.kind, .int .i64 z.idx, .slice az z.subs.length cz] 24)).alloc (.cells #[.int .i64 0, .int .i64 0, .slice none 0 0] 24)).alloc (.cells #[.int .i64 2000] 59)) w1 := ⟨hx1.os, hx1.tape, hx1.output, hx1.size, fun k hk => hx1.block k (by simp; omega) (by omega)⟩
    exact (((((Below.refl w.heap.size w).alloc (Nat.le_refl _) (.cells #[.int .i64 t.kind, .int .i64 t.idx, .slice a t.subs.length c] 24)).alloc (by simp) (.cells #[.int .i64 z.kind, .int .i64 z.idx, .slice az z.subs.length cz] 24)).alloc (by simp; omega) (.cells #[.int .i64 0, .int .i64 0, .slice none 0 0] 24)).alloc (by simp; omega) (.cells #[.int .i64 2000] 59)).trans h2
  have HF1 := hide hF1
  have m0 : ∀ o, (w1.alloc o).cell? ⟨w.heap.size + 1 + 1 + 1, 0, none⟩ = some (.int .i64 m) := fun o => (HF1.out.alloc o).cell 0
  have r0 : w1.cell? ⟨w.heap.size + 1 + 1, 0, none⟩ = some (.int .i64 0) := R1.out.cell 0
  have r1 : w1.cell? ⟨w.heap.size + 1 + 1, 1, none⟩ = some (.int .i64 0) := R1.out.cell 1
  have r2 : w1.cell? ⟨w.heap.size + 1 + 1, 2, none⟩ = some (.slice none 0 0) := R1.out.cell 2
  have rf := R1.out.frozen
  have hRl := R1.out.lt
  clear hF1 hx1
  by_cases hle : sizeM [insT z 0 t] ≤ 2000
  · obtain ⟨rfl, rfl, rfl, rfl, hs1⟩ := hy1 hle
    have S1 := hide hs1
    have HLE := hide hle
    have hm0 : ¬ (((2000 : Nat) : Int) - sizeM [insT z 0 t] < 0) := by omega
    clear hy1 hn1 hs1 hle
    go_wp2_with fail
    refine bodyPost_ret (v := .tuple #[.agg #[.int .i64 (insT z 0 t).kind, .int .i64 (insT z 0 t).idx, .slice a' (insT z 0 t).subs.length c'], .bool true]) (by simp [results, Try.results44, go_sem, World.cell?_setCell_same, World.cell?_setCell_other, World.cell?_alloc_old, r0, r1, r2, hRl]) rfl ?_
    refine ⟨(((HB.out.setCell (by simp; omega) _).setCell (by simp; omega) _).setCell (by simp; omega) _).alloc (by have := HB.out.size; simpa [World.setCell] using this) _, Or.inl ⟨HLE.out, a', c', rfl, ((S1.out.mono (Y := fun b => w.heap.size + 4 ≤ b ∧ b < w1.heap.size) fun b h1 h2 => ⟨by simp at h1; omega, h2⟩).kept fun b hb => ?_).mono fun b hb _ => by omega⟩⟩
    have hbl := hb.2
    rw [Below.heap_alloc _ _ _ (by simpa [World.setCell] using hbl), Below.heap_setCell _ _ _ _ (by simp; omega), Below.heap_setCell _ _ _ _ (by simp; omega), Below.heap_setCell _ _ _ _ (by simp; omega)]
  · obtain rfl := hn1 (by omega)
    have HLE := hide hle
    clear hy1 hn1 hle
    go_wp2_with fail
    refine bodyPost_ret (v := .tuple #[.agg #[.int .i64 0, .int .i64 0, .slice none 0 0], .bool false]) (by simp [results, Try.results44, go_sem, World.cell?_setCell_same, World.cell?_setCell_other, World.cell?_alloc_old, r0, r1, r2, hRl]) rfl ?_
    exact ⟨(((HB.out.setCell (by simp; omega) _).setCell (by simp; omega) _).setCell (by simp; omega) _).alloc (by have := HB.out.size; simpa [World.setCell] using this) _, Or.inr ⟨by have := HLE.out; omega, rfl⟩⟩
end Go.Proofs.Ytaifameeoipjjaa
