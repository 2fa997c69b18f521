/- Plain: the first of some is told by which they are; the law AutoSays. -/
import Derived.Test.YtdencaekailmcaaAv13
import Derived.Test.YtdencaekailmcaaAu15
import Derived.Test.YtdencaekailmcaaAu12
import Derived.Test.YtdencaekailmcaaZBTopSomeOwn
import Derived.Test.YtdencaekailmcaaGn1
namespace Go.Proofs.Ytdencaekailmcaa
open Go.RowKit
set_option linter.unusedSimpArgs false
set_option linter.unusedVariables false
set_option maxRecDepth 8000

theorem agT_trans {a b c : Tm} (h1 : agT a b = true) (h2 : agT b c = true) : agT a c = true := by
  unfold agT at *
  split at h1 <;> split at h2
  · rename_i e1 e2
    rw [if_pos (by omega)]
    exact ltB_trans h1 h2
  · rename_i e1 e2
    have := of_decide_eq_true h2
    rw [if_neg (by omega)]
    exact decide_eq_true (by omega)
  · rename_i e1 e2
    have := of_decide_eq_true h1
    rw [if_neg (by omega)]
    exact decide_eq_true (by omega)
  · have h3 := of_decide_eq_true h1
    have h4 := of_decide_eq_true h2
    rw [if_neg (by omega)]
    exact decide_eq_true (by omega)
theorem agT_irrefl (a : Tm) : agT a a = false := by unfold agT; rw [if_pos rfl]; exact ltB_irrefl _
theorem agT_conn {a b : Tm} (ha : OkT a) (hb : OkT b) (h1 : agT a b = false) (h2 : agT b a = false) : a = b := by
  unfold agT at *
  by_cases e : sizeL [a] = sizeL [b]
  · rw [if_pos e] at h1
    rw [if_pos e.symm] at h2
    have h3 := ltB_conn h1 h2
    refine txt_inj ha.err hb.err ?_
    unfold txB at h3
    simp only [ByteArray.mk.injEq] at h3
    have h4 := congrArg Array.toList h3
    simpa using h4
  · rw [if_neg e] at h1
    rw [if_neg (fun h => e h.symm)] at h2
    have h3 := of_decide_eq_false h1
    have h4 := of_decide_eq_false h2
    omega
theorem agT_ntrans {a b c : Tm} (h1 : agT a b = false) (h2 : agT b c = false) : agT a c = false := by
  unfold agT at *
  split at h1 <;> split at h2
  · rename_i e1 e2
    rw [if_pos (by omega)]
    exact ltB_ntrans h1 h2
  · rename_i e1 e2
    have := of_decide_eq_false h2
    rw [if_neg (by omega)]
    exact decide_eq_false (by omega)
  · rename_i e1 e2
    have := of_decide_eq_false h1
    rw [if_neg (by omega)]
    exact decide_eq_false (by omega)
  · rename_i e1 e2
    have h3 := of_decide_eq_false h1
    have h4 := of_decide_eq_false h2
    rw [if_neg (by omega)]
    exact decide_eq_false (by omega)
theorem bst_min {st : Fs} : ∀ (l : List Int) (acc : Option Tm), (l.foldl (bstS st) acc = none → acc = none ∧ ∀ s ∈ l, atF st s = none) ∧ ∀ t, l.foldl (bstS st) acc = some t → (∀ a, acc = some a → agT a t = false) ∧ ∀ s ∈ l, ∀ u, atF st s = some u → agT u t = false
  | [], acc => ⟨fun h => ⟨h, by simp⟩, fun t h => ⟨fun a e => by rw [List.foldl_nil] at h; rw [e] at h; cases h; exact agT_irrefl _, by simp⟩⟩
  | s :: r, acc => by
    obtain ⟨h1, h2⟩ := bst_min r (bstS st acc s)
    constructor
    · intro h
      obtain ⟨h3, h4⟩ := h1 h
      unfold bstS at h3
      split at h3
      · rename_i h5
        rw [h3] at h5
        simp [ahO] at h5
      · rename_i h5
        refine ⟨h3, fun x hx => ?_⟩
        rcases List.mem_cons.1 hx with rfl | hx
        · cases e : atF st x with
          | none => rfl
          | some u => rw [e, h3] at h5; simp [ahO] at h5
        · exact h4 x hx
    · intro t h
      obtain ⟨h3, h4⟩ := h2 t h
      by_cases h5 : ahO (atF st s) acc = true
      · have e1 : bstS st acc s = atF st s := by unfold bstS; rw [if_pos h5]
        rw [e1] at h3
        cases e2 : atF st s with
        | none => rw [e2] at h5; simp [ahO] at h5
        | some u =>
          have h6 := h3 u e2
          refine ⟨fun a ea => ?_, fun x hx v hv => ?_⟩
          · rw [e2, ea] at h5
            have h7 : agT u a = true := h5
            cases h8 : agT a t with
            | false => rfl
            | true => rw [agT_trans h7 h8] at h6; cases h6
          · rcases List.mem_cons.1 hx with rfl | hx
            · rw [e2] at hv; cases hv; exact h6
            · exact h4 x hx v hv
      · have e1 : bstS st acc s = acc := by unfold bstS; rw [if_neg h5]
        rw [e1] at h3
        refine ⟨h3, fun x hx v hv => ?_⟩
        rcases List.mem_cons.1 hx with rfl | hx
        · rw [hv] at h5
          cases ea : acc with
          | none => rw [ea] at h5; simp [ahO] at h5
          | some a =>
            rw [ea] at h5
            have h7 : agT v a = false := by simpa [ahO] using h5
            have h6 := h3 a ea
            cases h8 : agT v t with
            | false => rfl
            | true =>
              exfalso
              have hne : ¬ agT a t = true := by rw [h6]; decide
              -- t is not behind a, v is not ahead of a, yet v is ahead of t
              have h9 := agT_ntrans h7 h6
              rw [h9] at h8; cases h8
        · exact h4 x hx v hv
theorem bst_same {st : Fs} (hok : OkF st) {l k : List Int} (h : ∀ s, s ∈ l ↔ s ∈ k) : bstF st l = bstF st k := by
  cases e1 : bstF st l with
  | none =>
    have h1 := ((bst_min (st := st) l none).1 e1).2
    cases e2 : bstF st k with
    | none => rfl
    | some t =>
      rcases bst_in k none e2 with h2 | ⟨s, hs, h2⟩
      · cases h2
      · rw [h1 s ((h s).2 hs)] at h2; cases h2
  | some t =>
    have h1 := ((bst_min (st := st) l none).2 t e1).2
    rcases bst_in l none e1 with h2 | ⟨s, hs, h2⟩
    · cases h2
    · cases e2 : bstF st k with
      | none => have h3 := ((bst_min (st := st) k none).1 e2).2; rw [h3 s ((h s).1 hs)] at h2; cases h2
      | some u =>
        have h3 := ((bst_min (st := st) k none).2 u e2).2
        rcases bst_in k none e2 with h4 | ⟨x, hx, h4⟩
        · cases h4
        · have h5 := h1 x ((h x).2 hx) u h4
          have h6 := h3 s ((h s).1 hs) t h2
          rw [agT_conn (hok s t h2) (hok x u h4) h6 h5]
/-- The boxes of both. -/
structure AsW (w : World) (ac tc : Array Value) (w' : World) : Prop where
  bl : Below w.heap.size w w'
  ka : Blk w' w.heap.size ac 25
  kb : Blk w' (w.heap.size + 1) tc 28
theorem AsW.later {w w1 w2 : World} {ac tc : Array Value} (h : AsW w ac tc w1) (hb : Below w1.heap.size w1 w2) : AsW w ac tc w2 :=
  ⟨h.bl.trans (hb.mono h.bl.size), h.ka.below hb h.ka.lt, h.kb.below hb h.kb.lt⟩
theorem AsW.set {w w' : World} {ac tc : Array Value} (h : AsW w ac tc w') {C : Nat} (hC : w.heap.size + 2 ≤ C) (i : Nat) (v : Value) : AsW w ac tc (w'.setCell ⟨C, i, none⟩ v) :=
  ⟨h.bl.setCell (p := ⟨C, i, none⟩) (by simp; omega) v, h.ka.setOther (b' := C) i v (by omega), h.kb.setOther (b' := C) i v (by omega)⟩
/-- What was wanted of Some. -/
structure AsE (w : World) (A : Au) (ac tc : Array Value) (C : Nat) (q : Value) (w' : World) : Prop where
  bx : AsW w ac tc w'
  ex : ∃ (g : Int) (x : Tm) (a : Option Addr) (c : Nat), q = .int .i64 g ∧ Blk w' C #[.string x.name, .slice a x.args.length c] 28 ∧
    ((auE 8 40 A ≠ 0 ∧ g = auE 8 40 A) ∨ (auE 8 40 A = 0 ∧ ∃ (n : Nat) (st : Fs), A.st = (n : Int) ∧ FinF A.mv (List.replicate n none) st ∧ OkF st ∧ ((bstF st A.la = none ∧ g = 7) ∨ (bstF st A.la = some x ∧ g = 0 ∧ Sl w' (fun b => b ≠ C) a x.args))))

end Go.Proofs.Ytdencaekailmcaa
