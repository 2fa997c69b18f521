
/- Walks: the text of a lambda term, as the document writes it. -/
import Derived.Test.YtanbgnmcaijnnaaGreatDoorZDTopChurchOwn
import Derived.Test.YtanbgnmcaijnnaaGreatDoorL4
import Derived.Laws.OwnMore
namespace Go.Proofs.YtanbgnmcaijnnaaGreatDoor
open Go.RowKit
set_option linter.unusedSimpArgs false
set_option linter.unusedVariables false
set_option maxRecDepth 8000

/-- The names of the first binders. -/
def xsN (d : Nat) : List ByteArray := (List.range d).map fun k => ⟨(120 :: Lib.decDigits k).toArray⟩
theorem xsN_len (d : Nat) : (xsN d).length = d := by simp [xsN]
theorem xsN_succ (d : Nat) : xsN (d + 1) = xsN d ++ [⟨(120 :: Lib.decDigits d).toArray⟩] := by simp [xsN, List.range_succ]
theorem xsN_get (d k : Nat) (h : k < (xsN d).length) : (xsN d)[k] = ⟨(120 :: Lib.decDigits k).toArray⟩ := by simp [xsN]

/-- What a name looks like, found by its place. -/
theorem nm_get (fr : List ByteArray) (d m : Nat) (x : Int) (hx0 : 0 ≤ x) (hm : (m : Int) = fr.length + d - 1 - x) (h : m < (fr ++ xsN d).length) : ((fr ++ xsN d)[m]).data.toList = nmAt fr (d - 1 - x) := by
  unfold nmAt
  by_cases hk : (d : Int) - 1 - x < 0
  · rw [if_pos hk]
    have h1 : m < fr.length := by omega
    have h2 : ((fr.length : Int) + (d - 1 - x)).toNat = m := by omega
    rw [h2, List.getElem_append_left h1, List.getElem?_eq_getElem h1]
    rfl
  · rw [if_neg hk]
    have h1 : fr.length ≤ m := by omega
    have h2 : ((d : Int) - 1 - x).toNat = m - fr.length := by omega
    rw [List.getElem_append_right h1, xsN_get, h2]


/-- All of one list behind an empty one of one's own. -/
theorem app_spread {W : World} {B g : Nat} {Y : Nat → Prop} {a : Option Addr} {c : Nat} {l : List ByteArray} (hown : W.ownsRow B 9 1 (.slice (some ⟨g, 0, none⟩) 0 0) 0 []) (hB : B ≤ W.heap.size) (hl : l.length ≤ 100000) (h : LV Value.string W Y (.slice a l.length c) l) :
    ∃ v1 W1, (Builtin.append_ #[58, 58] 58 #[.slice (some ⟨g, 0, none⟩) 0 0, .slice a l.length c]).run Tryz.prog W = .ok v1 W1 ∧ W1.ownsRow B 9 1 v1 l.length (l.map Value.string) ∧ W.grownBy W1 (some g) := by
  obtain ⟨i0, hi, hz0, hz1, hz2⟩ := info_parts Tryz.infoStr
  obtain ⟨a2, c2, e, ⟨h1, h2⟩, h3⟩ := h
  simp at e
  obtain ⟨rfl, rfl⟩ := e
  cases a with
  | none =>
    rcases h3 with rfl | ⟨b, o, e, _⟩
    · refine ⟨_, W, ?_, hown, ⟨rfl, rfl, rfl, Nat.le_refl _, fun k hk _ => rfl⟩⟩
      have hrun : ∀ cc, (Builtin.append_ #[58, 58] 58 #[.slice (some ⟨g, 0, none⟩) 0 0, .slice none 0 cc]).run Tryz.prog W = .ok (.slice (some ⟨g, 0, none⟩) 0 0) W := fun cc => by
        simp [Builtin.append_, run_underlying Tryz.underlying58, sizeOf, typeInfo, hi, Builtin.lenOf, Builtin.firstCells, storeCells]
      exact hrun c
    · cases e
  | some ad =>
    obtain ⟨v1, W1, hr, ho, hg, _⟩ := run_append_own (P := Tryz.prog) W B 58 58 9 i0 _ 1 16 Tryz.underlying58 hi hz0 hz1 hz2 rfl (by decide) _ 0 [] hown ad l.length c (l.map Value.string) (by simp) (fun j u hj => by
      rcases h3 with rfl | ⟨b, o, e, hY, h3⟩
      · simp at hj
      · cases e
        rw [List.getElem?_map] at hj
        obtain ⟨y, hy, rfl⟩ := Option.map_eq_some_iff.1 hj
        obtain ⟨hlt, rfl⟩ := List.getElem?_eq_some_iff.1 hy
        have hq := h3 j hlt
        have ea : (⟨b, o, none⟩ : Addr).add j = ⟨b, o + j, none⟩ := by unfold Addr.add; split <;> simp_all
        rw [ea]; exact hq) (fun x hx => by simp at hx; obtain ⟨y, _, rfl⟩ := hx; rfl) (by unfold maxLen; omega) (by omega) hB
    exact ⟨v1, W1, hr, by simpa using ho, by simpa [Value.ownBlock] using hg⟩

/-- One more. -/
theorem app_one {W : World} {B P : Nat} {v : Value} {s : ByteArray} {l : List ByteArray} (hown : W.ownsRow B 9 1 v l.length (l.map Value.string)) (hB : B ≤ W.heap.size) (hl : l.length ≤ 100000) (hP : W.cell? ⟨P, 0, none⟩ = some (.string s)) :
    ∃ v1 W1, (Builtin.append_ #[58, 58] 58 #[v, .slice (some ⟨P, 0, none⟩) 1 1]).run Tryz.prog W = .ok v1 W1 ∧ W1.ownsRow B 9 1 v1 (l.length + 1) ((l ++ [s]).map Value.string) ∧ W.grownBy W1 v.ownBlock := by
  obtain ⟨i0, hi, hz0, hz1, hz2⟩ := info_parts Tryz.infoStr
  obtain ⟨v1, W1, hr, ho, hg, _⟩ := run_append_own (P := Tryz.prog) W B 58 58 9 i0 _ 1 16 Tryz.underlying58 hi hz0 hz1 hz2 rfl (by decide) _ l.length _ hown ⟨P, 0, none⟩ 1 1 [.string s] rfl (fun j u hj => by
    cases j with
    | zero => simp at hj; subst hj; exact hP
    | succ j => simp at hj) (fun x hx => by simp at hx; subst hx; rfl) (by unfold maxLen; omega) (by omega) hB
  exact ⟨v1, W1, hr, by simpa using ho, hg⟩

/-- Behind both appends: all names, and one more. -/
def ApW (N : Nat) (w1 : World) (l : List ByteArray) (v : Value) (w' : World) : Prop := LV Value.string w' (fun b => N ≤ b) v l ∧ Below N w1 w'
theorem cell_is {w w' : World} {p : Addr} {v : Value} (h : w.cell? p = some v) (hb : Below w.heap.size w w') : w'.cell? p = some v := by
  have hlt : p.block < w.heap.size := by
    apply Classical.byContradiction
    intro hn
    have : w.cell? p = none := by
      unfold World.cell?
      rw [Array.getElem?_eq_none (by omega)]
    rw [this] at h; cases h
  rw [hb.cell hlt]; exact h
theorem str_cat (a b : List UInt8) : (⟨a.toArray⟩ : ByteArray) ++ ⟨b.toArray⟩ = ⟨(a ++ b).toArray⟩ := by
  apply ByteArray.ext
  simp

end Go.Proofs.YtanbgnmcaijnnaaGreatDoor
