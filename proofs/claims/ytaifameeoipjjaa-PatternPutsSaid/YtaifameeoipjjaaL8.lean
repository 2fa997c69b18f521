/- Walks: a lambda term moved; what is put for what is bound from outside. -/
import Derived.Test.YtaifameeoipjjaaL7
namespace Go.Proofs.Ytaifameeoipjjaa
open Go.RowKit
set_option linter.unusedSimpArgs false
set_option linter.unusedVariables false
set_option maxRecDepth 8000

set_option maxHeartbeats 1000000 in
theorem raise_any (F : Nat) (y : Int) (hy0 : -100000 ≤ y) (hy1 : y ≤ 100000) (t : Lm) (n : Nat) (v : Value) (w : World) (X : Nat → Prop) (hv : MV w X v t) (hXF : ∀ b, X b → b ≠ F) (hn : n ≤ 9223372036854775807) (hsz : sizeM [t] ≤ 100000) (hbn : BndM [t]) (hlf : LfM [t]) (hF : Blk w F #[.int .i64 (n : Int)] 59) :
    Calls Try.prog 42 #[.pointer (some ⟨F, 0, none⟩), v, .int .i64 y] w fun e w' => MkPost w F (higT y 0 t) n e w' := by
  have hmf : ∀ (fn : Fn) (first cap : Array Value) (w : World), (Instr.makeFunc fn first cap).run Try.prog w = .ok (.func fn first cap) w := fun _ _ _ _ => rfl
  obtain ⟨a, c, rfl, hs⟩ := hv
  have HS := hide hs
  have HF := hide hF
  have hFl := hF.lt
  clear hs hF
  go_enter Try.func42, Try.ntmps42
  go_wp2_with fail
  refine (buildR_any F w.heap.size (w.heap.size + 1 + 1) y hy0 hy1 (by omega) (by omega) t n _ 0 _ (fun b => X b ∧ b < w.heap.size) ⟨a, c, rfl, ((((HS.out.mono (Y := fun b => X b ∧ b < w.heap.size) fun b h1 h2 => ⟨h1, h2⟩).later ((Below.refl _ _).alloc (Nat.le_refl _) _)).later ((Below.refl _ _).alloc (Nat.le_refl _) _)).later ((Below.refl _ _).alloc (Nat.le_refl _) _)).later ((Below.refl _ _).alloc (Nat.le_refl _) _)⟩ (fun b h => hXF b h.1) hn (Int.le_refl 0) (by omega) hbn hlf ((((HF.out.alloc _).alloc _).alloc _).alloc _) ⟨((((Blk.new w _ _).alloc _).alloc _).alloc _), by
    have h := (Blk.new ((w.alloc (.cells #[.pointer (some ⟨F, 0, none⟩)] 64)).alloc (.cells #[.int .i64 t.kind, .int .i64 t.idx, .slice a t.subs.length c] 24)) #[.int .i64 y] 3).alloc (.cells #[.int .i64 0, .int .i64 0, .slice none 0 0] 24)
    simp only [World.size_alloc] at h
    exact h⟩).mono ?_
  rintro e w1 ⟨k', x', a', l', c', m, rfl, hF1, hx1, hy1, hn1⟩
  have R1 : Hid (Blk w1 (w.heap.size + 1 + 1 + 1) #[.int .i64 0, .int .i64 0, .slice none 0 0] 24) := by
    have h := (Blk.new (((w.alloc (.cells #[.pointer (some ⟨F, 0, none⟩)] 64)).alloc (.cells #[.int .i64 t.kind, .int .i64 t.idx, .slice a t.subs.length c] 24)).alloc (.cells #[.int .i64 y] 3)) #[.int .i64 0, .int .i64 0, .slice none 0 0] 24).ex hx1 (by simp; omega)
    simp only [World.size_alloc] at h
    exact h
  have HX := hide ((((((Ex.refl F w).alloc (.cells #[.pointer (some ⟨F, 0, none⟩)] 64)).alloc (.cells #[.int .i64 t.kind, .int .i64 t.idx, .slice a t.subs.length c] 24)).alloc (.cells #[.int .i64 y] 3)).alloc (.cells #[.int .i64 0, .int .i64 0, .slice none 0 0] 24)).trans hx1)
  have HF1 := hide hF1
  have HY := hide hy1
  have HN := hide hn1
  clear hF1 hx1 hy1 hn1
  have r0 : w1.cell? ⟨w.heap.size + 1 + 1 + 1, 0, none⟩ = some (.int .i64 0) := R1.out.cell 0
  have r1 : w1.cell? ⟨w.heap.size + 1 + 1 + 1, 1, none⟩ = some (.int .i64 0) := R1.out.cell 1
  have r2 : w1.cell? ⟨w.heap.size + 1 + 1 + 1, 2, none⟩ = some (.slice none 0 0) := R1.out.cell 2
  have rf := R1.out.frozen
  have hRl := R1.out.lt
  go_wp2_with fail
  refine bodyPost_ret (v := .agg #[.int .i64 k', .int .i64 x', .slice a' l' c']) (by simp [results, Try.results42, go_sem, World.cell?_setCell_same, World.cell?_setCell_other, r0, r1, r2, hRl]) rfl ?_
  exact mk_end (W := (((w.alloc (.cells #[.pointer (some ⟨F, 0, none⟩)] 64)).alloc (.cells #[.int .i64 t.kind, .int .i64 t.idx, .slice a t.subs.length c] 24)).alloc (.cells #[.int .i64 y] 3)).alloc (.cells #[.int .i64 0, .int .i64 0, .slice none 0 0] 24)) hFl (by omega) (by simp) HF1.out HX.out HY.out HN.out
/-- What the putting closure holds. -/
def EnvP (w : World) (B F : Nat) (X : Nat → Prop) (z : Lm) : Prop := ∃ a c, Blk w B #[.int .i64 z.kind, .int .i64 z.idx, .slice a z.subs.length c] 24 ∧ SlM w X a z.subs
theorem EnvP.ex {w w' : World} {B F : Nat} {X : Nat → Prop} {z : Lm} (h : EnvP w B F X z) (he : Ex F w w') (h1 : B ≠ F) (hX : ∀ b, X b → b ≠ F) : EnvP w' B F X z := by
  obtain ⟨a, c, h2, h3⟩ := h
  exact ⟨a, c, h2.ex he h1, h3.ex he hX⟩
theorem EnvP.later {w w' : World} {B F : Nat} {X : Nat → Prop} {z : Lm} (h : EnvP w B F X z) (hb : Below w.heap.size w w') : EnvP w' B F X z := by
  obtain ⟨a, c, h2, h3⟩ := h
  exact ⟨a, c, h2.below hb h2.lt, h3.later hb⟩
/-- What comes for what is bound from outside. -/
def putL (z : Lm) (x d : Int) : Lm := if x = d then higT d 0 z else ⟨1, x - 1, []⟩

set_option maxHeartbeats 1000000 in
theorem put1_any (F B : Nat) (z : Lm) (x d : Int) (n : Nat) (w : World) (X : Nat → Prop) (hn : n ≤ 9223372036854775807) (hx0 : -100000 ≤ x) (hx1 : x ≤ 100000) (hd0 : 0 ≤ d) (hd1 : d ≤ 100000) (hzs : sizeM [z] ≤ 100000) (hzb : BndM [z]) (hzl : LfM [z]) (hF : Blk w F #[.int .i64 (n : Int)] 59) (hBF : B ≠ F) (hXF : ∀ b, X b → b ≠ F) (hE : EnvP w B F X z) :
    Calls Try.prog 50 #[.int .i64 x, .int .i64 d, .pointer (some ⟨F, 0, none⟩), .pointer (some ⟨B, 0, none⟩)] w fun e w' => MkPost w F (putL z x d) n e w' := by
  have hFl := hF.lt
  have HF := hide hF
  have HE := hide hE
  obtain ⟨az, cz, hB, hsz⟩ := hE
  have HSZ := hide hsz
  have q0 : ∀ o, (w.alloc o).cell? ⟨B, 0, none⟩ = some (.int .i64 z.kind) := fun o => (hB.alloc o).cell 0
  have q1 : ∀ o, (w.alloc o).cell? ⟨B, 1, none⟩ = some (.int .i64 z.idx) := fun o => (hB.alloc o).cell 1
  have q2 : ∀ o, (w.alloc o).cell? ⟨B, 2, none⟩ = some (.slice az z.subs.length cz) := fun o => (hB.alloc o).cell 2
  clear hB hsz hF
  by_cases hxd : x = d
  · subst hxd
    have HT : Hid (putL z x x = higT x 0 z) := by unfold Hid putL; simp
    go_enter Try.func50, Try.ntmps50
    go_wp2_with fail
    refine (raise_any F x (by omega) (by omega) z n _ _ X ⟨az, cz, rfl, HSZ.out.later ((Below.refl _ _).alloc (Nat.le_refl _) _)⟩ hXF hn hzs hzb hzl (HF.out.alloc _)).mono ?_
    rintro e w1 ⟨k', x', a', l', c', m, rfl, hF1, hx1, hy1, hn1⟩
    have R1 : Hid (Blk w1 (w.heap.size) #[.int .i64 0, .int .i64 0, .slice none 0 0] 24) := by
      have h := (Blk.new w #[.int .i64 0, .int .i64 0, .slice none 0 0] 24).ex hx1 (by simp; omega)
      exact h
    have HX := hide (((Ex.refl F w).alloc (.cells #[.int .i64 0, .int .i64 0, .slice none 0 0] 24)).trans hx1)
    have HF1 := hide hF1
    have HY := hide hy1
    have HN := hide hn1
    clear hF1 hx1 hy1 hn1
    have r0 : w1.cell? ⟨w.heap.size, 0, none⟩ = some (.int .i64 0) := R1.out.cell 0
    have r1 : w1.cell? ⟨w.heap.size, 1, none⟩ = some (.int .i64 0) := R1.out.cell 1
    have r2 : w1.cell? ⟨w.heap.size, 2, none⟩ = some (.slice none 0 0) := R1.out.cell 2
    have rf := R1.out.frozen
    have hRl := R1.out.lt
    go_wp2_with fail
    refine bodyPost_ret (v := .agg #[.int .i64 k', .int .i64 x', .slice a' l' c']) (by simp [results, Try.results50, go_sem, World.cell?_setCell_same, World.cell?_setCell_other, r0, r1, r2, hRl]) rfl ?_
    rw [HT.out]
    exact mk_end (W := w.alloc (.cells #[.int .i64 0, .int .i64 0, .slice none 0 0] 24)) hFl (by omega) (by simp) HF1.out HX.out HY.out HN.out
  · have HT : Hid (putL z x d = ⟨1, x - 1, []⟩) := by unfold Hid putL; simp [hxd]
    have hxd2 : (x == d) = false := by simpa using hxd
    have hw1 : IntKind.i64.wrap (x - 1) = x - 1 := by rw [IntKind.wrap_i64]; omega
    go_enter Try.func50, Try.ntmps50
    go_wp2_with fail
    refine (bound_any F _ n _ hn (HF.out.alloc _)).mono ?_
    rintro e w1 ⟨k', x', a', l', c', m, rfl, hF1, hx1, hy1, hn1⟩
    have R1 : Hid (Blk w1 (w.heap.size) #[.int .i64 0, .int .i64 0, .slice none 0 0] 24) := by
      have h := (Blk.new w #[.int .i64 0, .int .i64 0, .slice none 0 0] 24).ex hx1 (by simp; omega)
      exact h
    have HX := hide (((Ex.refl F w).alloc (.cells #[.int .i64 0, .int .i64 0, .slice none 0 0] 24)).trans hx1)
    have HF1 := hide hF1
    have HY := hide hy1
    have HN := hide hn1
    clear hF1 hx1 hy1 hn1
    have r0 : w1.cell? ⟨w.heap.size, 0, none⟩ = some (.int .i64 0) := R1.out.cell 0
    have r1 : w1.cell? ⟨w.heap.size, 1, none⟩ = some (.int .i64 0) := R1.out.cell 1
    have r2 : w1.cell? ⟨w.heap.size, 2, none⟩ = some (.slice none 0 0) := R1.out.cell 2
    have rf := R1.out.frozen
    have hRl := R1.out.lt
    go_wp2_with fail
    refine bodyPost_ret (v := .agg #[.int .i64 k', .int .i64 x', .slice a' l' c']) (by simp [results, Try.results50, go_sem, World.cell?_setCell_same, World.cell?_setCell_other, r0, r1, r2, hRl]) rfl ?_
    rw [HT.out]
    exact mk_end (W := w.alloc (.cells #[.int .i64 0, .int .i64 0, .slice none 0 0] 24)) hFl (by omega) (by simp) HF1.out HX.out HY.out HN.out
end Go.Proofs.Ytaifameeoipjjaa
