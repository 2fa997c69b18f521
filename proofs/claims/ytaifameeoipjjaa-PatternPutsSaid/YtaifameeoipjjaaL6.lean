/- Walks: lambda terms made, counted: what stands beside a row; knots for what is bound from outside. -/
import Derived.Test.YtaifameeoipjjaaL5
import Derived.Deep.RegionLaw
namespace Go.Proofs.Ytaifameeoipjjaa
open Go.RowKit
set_option linter.unusedSimpArgs false
set_option linter.unusedVariables false
set_option maxRecDepth 8000

/-- What is bound has nothing below it. -/
def LfM : List Lm → Prop
  | [] => True
  | ⟨k, _, l⟩ :: r => (k = 1 → l = []) ∧ LfM l ∧ LfM r
theorem LfM_nil : LfM [] := by simp [LfM]
theorem LfM_cons (k x : Int) (l r : List Lm) : LfM (⟨k, x, l⟩ :: r) ↔ (k = 1 → l = []) ∧ LfM l ∧ LfM r := by simp [LfM]
theorem LfM.at : ∀ {l : List Lm} (k : Nat) (h : k < l.length), LfM l → LfM [l[k]]
  | [], k, h, _ => by simp at h
  | ⟨s, x, l⟩ :: r, 0, h, hb => by
    rw [LfM_cons] at hb
    exact (LfM_cons s x l []).2 ⟨hb.1, hb.2.1, LfM_nil⟩
  | ⟨s, x, l⟩ :: r, k + 1, h, hb => by
    rw [LfM_cons] at hb
    have := LfM.at (l := r) k (by simpa using h) hb.2.2
    simpa using this
theorem lf_of_err : ∀ (l : List Lm) (u m : Int), errM u m l = 0 → LfM l := by
  intro l
  induction l using Lm.indL with
  | h0 => intros; exact LfM_nil
  | h k x l r ihl ihr =>
    intro u m he
    rw [errM] at he
    split at he
    · rename_i h1
      split at he
      · rename_i h2
        refine (LfM_cons k x l r).2 ⟨fun hk => ?_, ihl (deepK u k) m h2, ihr u m he⟩
        subst hk
        unfold knE at h1
        split at h1
        · cases h1
        · split at h1
          · cases h1
          · rename_i h3
            exact List.length_eq_zero_iff.1 (by simpa [subsK] using h3)
      · rename_i h2; exact absurd he h2
    · rename_i h1; exact absurd he h1

/-- What a counted making of a lambda term gives: all of it, if it is not too great; else the count is below nought. -/
def MkPost (w : World) (F : Nat) (t : Lm) (n : Nat) (e : Ending) (w' : World) : Prop :=
  ∃ (k' x' : Int) (a' : Option Addr) (l' c' : Nat) (m : Int), e = .returned (.agg #[.int .i64 k', .int .i64 x', .slice a' l' c']) ∧ Blk w' F #[.int .i64 m] 59 ∧ Ex F w w' ∧ (sizeM [t] ≤ n → m = (n : Int) - sizeM [t] ∧ k' = t.kind ∧ x' = t.idx ∧ l' = t.subs.length ∧ SlM w' (fun b => w.heap.size ≤ b) a' t.subs) ∧ (n < sizeM [t] → m = -1)

theorem SlM.ex {w w' : World} {F : Nat} {X : Nat → Prop} {a : Option Addr} {l : List Lm} (h : SlM w X a l) (he : Ex F w w') (hX : ∀ b, X b → b ≠ F) : SlM w' X a l :=
  ((h.mono (Y := fun b => X b ∧ b < w.heap.size) fun b h1 h2 => ⟨h1, h2⟩).kept fun b hb => he.block b hb.2 (hX b hb.1)).mono fun b hb _ => hb.1
theorem RowM.ex {w w' : World} {B N T : Nat} {Y : Nat → Prop} {v : Value} {l : List Lm} {xs : List Value} (h : RowM w N T Y v l xs) (he : Ex B w w') (hB : B < N) (hY : ¬ Y B) : RowM w' N T Y v l xs :=
  ⟨h.own.kept (w' := w') (row := some B) ⟨he.os, he.tape, he.output, he.size, fun j hj hn => he.block j hj (fun e => hn (by rw [e]))⟩ (Or.inr (fun e => by have := (h.own.lt B e).1; omega)),
   h.row.imp fun a l hs => ((hs.mono (Y := fun b => (Y b ∨ (N ≤ b ∧ some b ≠ v.ownBlock)) ∧ b < w.heap.size) fun b h1 h2 => ⟨h1, h2⟩).kept fun b hb => he.block b hb.2 (fun e => by
     rcases hb.1 with h1 | h1
     · rw [e] at h1; exact hY h1
     · omega)).mono fun b hb _ => hb.1⟩

theorem mk_end {w W w9 : World} {F R : Nat} {t : Lm} {n : Nat} {k' x' : Int} {a' : Option Addr} {l' c' : Nat} {m : Int} {v0 v1 v2 : Value} (hF : F < w.heap.size) (hR : w.heap.size ≤ R) (hW : R < W.heap.size) (h1 : Blk w9 F #[.int .i64 m] 59) (hx : Ex F w w9) (hy : sizeM [t] ≤ n → m = (n : Int) - sizeM [t] ∧ k' = t.kind ∧ x' = t.idx ∧ l' = t.subs.length ∧ SlM w9 (fun b => W.heap.size ≤ b) a' t.subs) (hn : n < sizeM [t] → m = -1) :
    MkPost w F t n (.returned (.agg #[.int .i64 k', .int .i64 x', .slice a' l' c'])) (((w9.setCell ⟨R, 0, none⟩ v0).setCell ⟨R, 1, none⟩ v1).setCell ⟨R, 2, none⟩ v2) := by
  refine ⟨k', x', a', l', c', m, rfl, ((h1.setOther _ _ (by omega)).setOther _ _ (by omega)).setOther _ _ (by omega), ((hx.setNew (by omega) _ _).setNew (by omega) _ _).setNew (by omega) _ _, fun h => ?_, hn⟩
  obtain ⟨e1, e2, e3, e4, e5⟩ := hy h
  refine ⟨e1, e2, e3, e4, (e5.kept fun b hb => ?_).mono fun b hb _ => by omega⟩
  rw [Below.heap_setCell _ _ _ _ (by simp; omega), Below.heap_setCell _ _ _ _ (by simp; omega), Below.heap_setCell _ _ _ _ (by simp; omega)]

theorem bound_any (F : Nat) (x : Int) (n : Nat) (w : World) (hn : n ≤ 9223372036854775807) (hF : Blk w F #[.int .i64 (n : Int)] 59) :
    Calls Try.prog 49 #[.pointer (some ⟨F, 0, none⟩), .int .i64 x] w fun e w' => MkPost w F ⟨1, x, []⟩ n e w' := by
  have hFl := hF.lt
  have f0 : ∀ o, (w.alloc o).cell? ⟨F, 0, none⟩ = some (.int .i64 (n : Int)) := fun o => (hF.alloc o).cell 0
  have ff : ∀ o, (w.alloc o).frozen? ⟨F, 0, none⟩ = false := fun o => (hF.alloc o).frozen 0
  have f0' : w.cell? ⟨F, 0, none⟩ = some (.int .i64 (n : Int)) := hF.cell 0
  have ff' : w.frozen? ⟨F, 0, none⟩ = false := hF.frozen 0
  have hw1 : IntKind.i64.wrap ((n : Int) - 1) = (n : Int) - 1 := by rw [IntKind.wrap_i64]; omega
  have HF := hide hF
  clear hF
  go_enter Try.func49, Try.ntmps49
  go_wp2_with fail
  refine bodyPost_ret (v := .agg #[.int .i64 1, .int .i64 x, .slice none 0 0]) (by simp [results, Try.results49, go_sem, World.cell?_setCell_same, World.cell?_setCell_other]) rfl ?_
  have e1 : sizeM [(⟨1, x, []⟩ : Lm)] = 1 := by simp [sizeM]
  exact ⟨1, x, none, 0, 0, (n : Int) - 1, rfl, (HF.out.set 0 _).alloc _, ((Ex.refl F w).set 0 _).alloc _, fun h => ⟨by rw [e1]; omega, rfl, rfl, rfl, by simp, Or.inl rfl⟩, fun h => by omega⟩

/-- What stands beside the row. -/
def MnSet (w : World) (F O : Nat) (kd ix : Int) (u : Value) (cF : Array Value) (wr : World) : Prop :=
  Ex F w wr ∧ Blk wr (w.heap.size + 1) #[.int .i64 0, .int .i64 0, .slice none 0 0] 24 ∧ Blk wr O #[.int .i64 kd, .int .i64 ix, u] 24 ∧ Blk wr F cF 59 ∧ O < wr.heap.size

theorem mn_set {w wr w1 w3 : World} {F O : Nat} {kd ix : Int} {u v : Value} {cF cF' : Array Value} {o2 : Obj} (hFw : F < w.heap.size) (hO : w.heap.size + 2 ≤ O) (h : MnSet w F O kd ix u cF wr) (hu : ∀ k, u.ownBlock = some k → O + 1 ≤ k)
    (he1 : Ex F wr w1) (hF1 : Blk w1 F cF' 59) (hg : (w1.alloc o2).grownBy w3 u.ownBlock) : MnSet w F O kd ix v cF' (w3.setCell ⟨O, 2, none⟩ v) := by
  obtain ⟨h1, h2, h3, h4, h5⟩ := h
  have hne : ∀ b, b < O + 1 → some b ≠ u.ownBlock := fun b hb e => by have := hu b e.symm; omega
  have hs1 := he1.size
  have hs3 := hg.size
  simp at hs3
  refine ⟨(((h1.trans he1).alloc o2).grown hg (fun k hk => by have := hu k hk; omega)).setNew (by omega) _ _, ?_, ?_, ?_, by simp [World.setCell]; omega⟩
  · exact (((h2.ex he1 (by omega)).alloc o2).grown hg (hne _ (by omega))).setOther _ _ (by omega)
  · exact (((h3.ex he1 (by omega)).alloc o2).grown hg (hne _ (by omega))).set 2 _
  · exact ((hF1.alloc o2).grown hg (hne _ (by omega))).setOther _ _ (by omega)

theorem mn_row {wr w1 w3 : World} {F O : Nat} {u : Value} {L : List Lm} {xs : List Value} {o2 : Obj} {k1 x1 : Int} {a1 : Option Addr} {n1 c1 g cap : Nat} {t : Lm} (hFO : F < O) (hOr : O < wr.heap.size) (hrow : RowM wr (O + 1) 24 (fun _ => False) u L xs)
    (he1 : Ex F wr w1) (ht : MV w1 (fun b => wr.heap.size ≤ b) (.agg #[.int .i64 k1, .int .i64 x1, .slice a1 n1 c1]) t)
    (hown : w3.ownsRow (O + 1) 24 3 (.slice (some ⟨g, 0, none⟩) (L.length + 1) cap) (L.length + 1) (xs ++ [.int .i64 k1, .int .i64 x1, .slice a1 n1 c1])) (hg : (w1.alloc o2).grownBy w3 u.ownBlock) (hat : u.ownBlock = some g ∨ g = (w1.alloc o2).heap.size) :
    RowM (w3.setCell ⟨O, 2, none⟩ (.slice (some ⟨g, 0, none⟩) (L.length + 1) cap)) (O + 1) 24 (fun _ => False) (.slice (some ⟨g, 0, none⟩) (L.length + 1) cap) (L ++ [t]) (xs ++ [.int .i64 k1, .int .i64 x1, .slice a1 n1 c1]) := by
  obtain ⟨wm, hbm, hsm, hem⟩ := he1.mid
  have hrm := hrow.ex hem (by omega) (fun h => h)
  exact (hrm.push (w1 := w1) (w2 := w1.alloc o2) (w3 := w3) (by omega) (fun _ h => h.elim) hbm (ht.mono fun b h _ => Or.inr (by omega)) o2 rfl hown hg hat).setCell (by omega) (fun h => h) _

def MnInv (w : World) (F O : Nat) (kd ix : Int) (L : List Lm) (n : Nat) (i : Value) (wr : World) : Prop :=
  ∃ (k : Nat) (u : Value), k ≤ L.length ∧ i = .int .i64 (k : Int) ∧
    ((∃ (m : Nat) (xs : List Value), (m : Int) = (n : Int) - 1 - sizeM (L.take k) ∧ MnSet w F O kd ix u #[.int .i64 (m : Int)] wr ∧ RowM wr (O + 1) 24 (fun _ => False) u (L.take k) xs) ∨
     (n < 1 + sizeM L ∧ MnSet w F O kd ix u #[.int .i64 (-1)] wr ∧ ∃ a9 l9 c9, u = .slice a9 l9 c9))
end Go.Proofs.Ytaifameeoipjjaa
