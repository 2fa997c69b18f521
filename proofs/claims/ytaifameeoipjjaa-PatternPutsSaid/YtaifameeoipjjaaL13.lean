/- Walks: the document's Beta. -/
import Derived.Test.YtaifameeoipjjaaL12
import Derived.Test.YtaifameeoipjjaaOpenM
namespace Go.Proofs.Ytaifameeoipjjaa
open Go.RowKit
set_option linter.unusedSimpArgs false
set_option linter.unusedVariables false
set_option maxRecDepth 8000

set_option maxHeartbeats 1000000 in
theorem beta_any (t z : Lm) (v x : Value) (w : World) (X : Nat → Prop) (hv : MV w X v t) (hx : MV w X x z) (hts : sizeM [t] ≤ 100000) (htb : BndM [t]) (hzs : sizeM [z] ≤ 100000) (hzb : BndM [z]) :
    Calls Try.prog 26 #[v, x] w fun e w' => LmPost w X (insT z 0 t) e w' := by
  obtain ⟨a, c, rfl, hs⟩ := hv
  obtain ⟨az, cz, rfl, hsz⟩ := hx
  have HS := hide hs
  have HZ := hide hsz
  clear hs hsz
  have B4 : Hid (Below w.heap.size w ((((w.alloc (.cells #[.int .i64 t.kind, .int .i64 t.idx, .slice a t.subs.length c] 24)).alloc (.cells #[.int .i64 z.kind, .int .i64 z.idx, .slice az z.subs.length cz] 24)).alloc (.cells #[.int .i64 0, .int .i64 0, .slice none 0 0] 24)).alloc (.cells #[.int .i64 z.kind, .int .i64 z.idx, .slice az z.subs.length cz] 24))) := ((((Below.refl w.heap.size w).alloc (Nat.le_refl _) (.cells #[.int .i64 t.kind, .int .i64 t.idx, .slice a t.subs.length c] 24)).alloc (by simp) (.cells #[.int .i64 z.kind, .int .i64 z.idx, .slice az z.subs.length cz] 24)).alloc (by simp; omega) (.cells #[.int .i64 0, .int .i64 0, .slice none 0 0] 24)).alloc (by simp; omega) (.cells #[.int .i64 z.kind, .int .i64 z.idx, .slice az z.subs.length cz] 24)
  have R4 : Hid (Blk ((((w.alloc (.cells #[.int .i64 t.kind, .int .i64 t.idx, .slice a t.subs.length c] 24)).alloc (.cells #[.int .i64 z.kind, .int .i64 z.idx, .slice az z.subs.length cz] 24)).alloc (.cells #[.int .i64 0, .int .i64 0, .slice none 0 0] 24)).alloc (.cells #[.int .i64 z.kind, .int .i64 z.idx, .slice az z.subs.length cz] 24)) (w.heap.size + 1 + 1) #[.int .i64 0, .int .i64 0, .slice none 0 0] 24) := by
    have h := (Blk.new ((w.alloc (.cells #[.int .i64 t.kind, .int .i64 t.idx, .slice a t.subs.length c] 24)).alloc (.cells #[.int .i64 z.kind, .int .i64 z.idx, .slice az z.subs.length cz] 24)) #[.int .i64 0, .int .i64 0, .slice none 0 0] 24).alloc (.cells #[.int .i64 z.kind, .int .i64 z.idx, .slice az z.subs.length cz] 24)
    simp only [World.size_alloc] at h
    exact h
  have L4 : Hid (Blk ((((w.alloc (.cells #[.int .i64 t.kind, .int .i64 t.idx, .slice a t.subs.length c] 24)).alloc (.cells #[.int .i64 z.kind, .int .i64 z.idx, .slice az z.subs.length cz] 24)).alloc (.cells #[.int .i64 0, .int .i64 0, .slice none 0 0] 24)).alloc (.cells #[.int .i64 z.kind, .int .i64 z.idx, .slice az z.subs.length cz] 24)) (w.heap.size + 1 + 1 + 1) #[.int .i64 z.kind, .int .i64 z.idx, .slice az z.subs.length cz] 24) := by
    have h := Blk.new (((w.alloc (.cells #[.int .i64 t.kind, .int .i64 t.idx, .slice a t.subs.length c] 24)).alloc (.cells #[.int .i64 z.kind, .int .i64 z.idx, .slice az z.subs.length cz] 24)).alloc (.cells #[.int .i64 0, .int .i64 0, .slice none 0 0] 24)) #[.int .i64 z.kind, .int .i64 z.idx, .slice az z.subs.length cz] 24
    simp only [World.size_alloc] at h
    exact h
  go_enter Try.func26, Try.ntmps26
  go_wp2_with fail
  generalize hWg : ((((w.alloc (.cells #[.int .i64 t.kind, .int .i64 t.idx, .slice a t.subs.length c] 24)).alloc (.cells #[.int .i64 z.kind, .int .i64 z.idx, .slice az z.subs.length cz] 24)).alloc (.cells #[.int .i64 0, .int .i64 0, .slice none 0 0] 24)).alloc (.cells #[.int .i64 z.kind, .int .i64 z.idx, .slice az z.subs.length cz] 24)) = W at *
  have hWs : W.heap.size = w.heap.size + 4 := by rw [← hWg]; simp
  clear hWg
  have S1 : SlM W (fun b => (X b ∧ b < w.heap.size) ∨ b = w.heap.size + 1 + 1 + 1) a t.subs := ((HS.out.mono (Y := fun b => X b ∧ b < w.heap.size) fun b h1 h2 => ⟨h1, h2⟩).below B4.out (fun b h _ => h.2)).mono fun b h _ => Or.inl h
  have S2 : SlM W (fun b => (X b ∧ b < w.heap.size) ∨ b = w.heap.size + 1 + 1 + 1) az z.subs := ((HZ.out.mono (Y := fun b => X b ∧ b < w.heap.size) fun b h1 h2 => ⟨h1, h2⟩).below B4.out (fun b h _ => h.2)).mono fun b h _ => Or.inl h
  have S3 : SlM W (fun b => (X b ∧ b < w.heap.size) ∨ b = w.heap.size + 1 + 1 + 1) (some ⟨w.heap.size + 1 + 1 + 1, 0, none⟩) [z] := by
    refine ⟨by simp, Or.inr ⟨_, 0, rfl, liesM_mk _ _ _ fun i hi => ?_⟩⟩
    have hi0 : i = 0 := by simpa using hi
    subst hi0
    exact ⟨Or.inr rfl, L4.out.cell 0, L4.out.cell 1, az, cz, L4.out.cell 2, S2⟩
  refine (instead_any z _ 1 hzs hzb t _ 0 W (fun b => (X b ∧ b < w.heap.size) ∨ b = w.heap.size + 1 + 1 + 1) ⟨a, c, rfl, S1⟩ S3 (Int.le_refl 0) (by omega) htb).mono ?_
  rintro e w1 ⟨a1, c1, rfl, hs1, hb1⟩
  have R1 := hide (R4.out.below hb1 (by omega))
  have B1 := hide (B4.out.trans (hb1.mono (by omega)))
  have S5 := hide hs1
  clear S1 S2 S3 L4 R4 B4 hb1 hs1
  have r0 : w1.cell? ⟨w.heap.size + 1 + 1, 0, none⟩ = some (.int .i64 0) := R1.out.cell 0
  have r1 : w1.cell? ⟨w.heap.size + 1 + 1, 1, none⟩ = some (.int .i64 0) := R1.out.cell 1
  have r2 : w1.cell? ⟨w.heap.size + 1 + 1, 2, none⟩ = some (.slice none 0 0) := R1.out.cell 2
  have rf := R1.out.frozen
  have hRl := R1.out.lt
  have HWS := hide hWs
  clear hWs
  go_wp2_with fail
  refine bodyPost_ret (v := .agg #[.int .i64 (insT z 0 t).kind, .int .i64 (insT z 0 t).idx, .slice a1 (insT z 0 t).subs.length c1]) (by simp [results, Try.results26, go_sem, World.cell?_setCell_same, World.cell?_setCell_other, r0, r1, r2, hRl]) rfl ?_
  have hWs := HWS.out
  refine ⟨a1, c1, rfl, (S5.out.kept fun b hb => ?_).mono fun b hb _ => ?_, ((B1.out.setCell (by simp; omega) _).setCell (by simp; omega) _).setCell (by simp; omega) _⟩
  · have hbn : b ≠ w.heap.size + 1 + 1 := by
      rcases hb with ⟨h | h, _⟩ | h
      · have := h.2; omega
      · omega
      · omega
    rw [Below.heap_setCell _ _ _ _ (by simpa using hbn), Below.heap_setCell _ _ _ _ (by simpa using hbn), Below.heap_setCell _ _ _ _ (by simpa using hbn)]
  · rcases hb with ⟨h | h, _⟩ | h
    · exact Or.inl h
    · right; omega
    · right; omega
/-- What is held while the law runs. -/
def LpS (w : World) (t z : Lm) (a az : Option Addr) (c cz : Nat) (wr : World) : Prop :=
  Below w.heap.size w wr ∧ Blk wr w.heap.size #[.int .i64 t.kind, .int .i64 t.idx, .slice a t.subs.length c] 24 ∧ Blk wr (w.heap.size + 1) #[.int .i64 z.kind, .int .i64 z.idx, .slice az z.subs.length cz] 24
theorem LpS.start (w : World) (t z : Lm) (a az : Option Addr) (c cz : Nat) : LpS w t z a az c cz ((w.alloc (.cells #[.int .i64 t.kind, .int .i64 t.idx, .slice a t.subs.length c] 24)).alloc (.cells #[.int .i64 z.kind, .int .i64 z.idx, .slice az z.subs.length cz] 24)) := by
  refine ⟨((Below.refl _ _).alloc (Nat.le_refl _) _).alloc (by simp) _, (Blk.new w _ _).alloc _, ?_⟩
  have h := Blk.new (w.alloc (.cells #[.int .i64 t.kind, .int .i64 t.idx, .slice a t.subs.length c] 24)) #[.int .i64 z.kind, .int .i64 z.idx, .slice az z.subs.length cz] 24
  simp only [World.size_alloc] at h
  exact h
theorem LpS.later {w wr w' : World} {t z : Lm} {a az : Option Addr} {c cz : Nat} (h : LpS w t z a az c cz wr) (hb : Below wr.heap.size wr w') : LpS w t z a az c cz w' :=
  ⟨h.1.trans (hb.mono h.1.size), h.2.1.below hb h.2.1.lt, h.2.2.below hb h.2.2.lt⟩
theorem LpS.alloc {w wr : World} {t z : Lm} {a az : Option Addr} {c cz : Nat} (h : LpS w t z a az c cz wr) (o : Obj) : LpS w t z a az c cz (wr.alloc o) := h.later ((Below.refl _ _).alloc (Nat.le_refl _) o)
end Go.Proofs.Ytaifameeoipjjaa
