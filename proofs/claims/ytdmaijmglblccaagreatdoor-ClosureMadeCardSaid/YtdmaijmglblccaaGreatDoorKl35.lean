/- Walks: the law ClosureSays. -/
import Derived.Test.YtdmaijmglblccaaGreatDoorKl32
import Derived.Test.YtdmaijmglblccaaGreatDoorKl34
import Derived.Test.YtdmaijmglblccaaGreatDoorKl22
import Derived.Test.YtdmaijmglblccaaGreatDoorKl23
import Derived.Test.YtdmaijmglblccaaGreatDoorKl20
import Derived.Test.YtdmaijmglblccaaGreatDoorZBClosureMadeOwn
import Derived.Test.YtdmaijmglblccaaGreatDoorZClosureMadeOwn
namespace Go.Proofs.YtdmaijmglblccaaGreatDoor
open Go.RowKit
set_option linter.unusedSimpArgs false
set_option linter.unusedVariables false
set_option maxRecDepth 8000

/-- What is wrong with equations and two terms, after so many terms. -/
def fN (ls : List Pr) (a b : Tm) : Nat → Int
  | 0 => grdE ls
  | 1 => if grdE ls = 0 then cloE a else grdE ls
  | _ => if grdE ls = 0 then (if cloE a = 0 then cloE b else cloE a) else grdE ls
theorem fN_end {ls : List Pr} {a b : Tm} {i : Nat} (h : fN ls a b i ≠ 0) : fN ls a b 2 = fN ls a b i := by
  match i, h with
  | 0, h => simp only [fN] at *; rw [if_neg h]
  | 1, h =>
    simp only [fN] at *
    by_cases h0 : grdE ls = 0
    · rw [if_pos h0] at h
      rw [if_pos h0, if_pos h0, if_neg h]
    · rw [if_neg h0, if_neg h0]
  | i + 2, _ => rfl
theorem fN_next {ls : List Pr} {a b : Tm} {i : Nat} (hi : i < 2) (h : fN ls a b i = 0) : fN ls a b (i + 1) = cloE (([a, b] : List Tm)[i]'(by simpa using hi)) := by
  match i, hi, h with
  | 0, _, h => simp only [fN] at *; rw [if_pos h]; rfl
  | 1, _, h =>
    simp only [fN] at *
    by_cases h0 : grdE ls = 0
    · rw [if_pos h0] at h
      rw [if_pos h0, if_pos h]
      rfl
    · rw [if_neg h0] at h
      exact absurd h h0
theorem fN_zero {ls : List Pr} {a b : Tm} (h : fN ls a b 2 = 0) : grdE ls = 0 ∧ cloE a = 0 ∧ cloE b = 0 := by
  simp only [fN] at h
  by_cases h0 : grdE ls = 0
  · rw [if_pos h0] at h
    by_cases h1 : cloE a = 0
    · rw [if_pos h1] at h
      exact ⟨h0, h1, h⟩
    · rw [if_neg h1] at h
      exact absurd h h1
  · rw [if_neg h0] at h
    exact absurd h h0
theorem clo_size {t : Tm} (h : cloE t = 0) : sizeL [t] ≤ 200 := mayE_size (clo_may h)
/-- What closure.Same answers, in one row. -/
theorem ksm_all {ls : List Pr} {a b : Tm} {w w' : World} {e : Ending} (h : KSmP ls a b w e w') : Below w.heap.size w w' ∧ ∃ z : Bool, e = .returned (.tuple #[.bool z, .int .i64 (fN ls a b 2)]) ∧ (fN ls a b 2 = 0 → (z = true ↔ Cg ls (· ∈ preL (prT ls ++ [a, b])) a b)) ∧ (fN ls a b 2 ≠ 0 → z = false) := by
  obtain ⟨hb, h | h | h | h⟩ := h
  · obtain ⟨h0, e1⟩ := h
    have e2 : fN ls a b 2 = grdE ls := by simp only [fN]; rw [if_neg h0]
    exact ⟨hb, false, by rw [e2]; exact e1, fun h => absurd (by rw [← e2]; exact h) h0, fun _ => rfl⟩
  · obtain ⟨h0, h1, e1⟩ := h
    have e2 : fN ls a b 2 = cloE a := by simp only [fN]; rw [if_pos h0, if_neg h1]
    exact ⟨hb, false, by rw [e2]; exact e1, fun h => absurd (by rw [← e2]; exact h) h1, fun _ => rfl⟩
  · obtain ⟨h0, h1, h2, e1⟩ := h
    have e2 : fN ls a b 2 = cloE b := by simp only [fN]; rw [if_pos h0, if_pos h1]
    exact ⟨hb, false, by rw [e2]; exact e1, fun h => absurd (by rw [← e2]; exact h) h2, fun _ => rfl⟩
  · obtain ⟨h0, h1, h2, z, e1, hz⟩ := h
    have e2 : fN ls a b 2 = 0 := by simp only [fN]; rw [if_pos h0, if_pos h1]; exact h2
    exact ⟨hb, z, by rw [e2]; exact e1, fun _ => hz, fun h => absurd e2 h⟩
/-- A row of texts, whatever room is behind it. -/
def LW (w : World) (v : Value) (l : List ByteArray) : Prop := ∃ a c, v = .slice a l.length c ∧ l.length ≤ 9223372036854775807 ∧ (l = [] ∨ ∃ b o, a = some ⟨b, o, none⟩ ∧ ∀ i (h : i < l.length), w.cell? ⟨b, o + i, none⟩ = some (.string l[i]))
theorem LW.later {w w' : World} {v : Value} {l : List ByteArray} (h : LW w v l) (hb : Below w.heap.size w w') : LW w' v l := by
  obtain ⟨a, c, e, hl, h⟩ := h
  exact ⟨a, c, e, hl, h.imp id fun ⟨b, o, e2, hc⟩ => ⟨b, o, e2, fun i hi => (hb.cell (p := ⟨b, o + i, none⟩) (World.block_lt_of_cell? w _ (hc i hi))).trans (hc i hi)⟩⟩
theorem LW.of_lv {w : World} {X : Nat → Prop} {v : Value} {l : List ByteArray} (h : LV Value.string w X v l) : LW w v l := by
  obtain ⟨a, c, e, ⟨hl, _⟩, h⟩ := h
  exact ⟨a, c, e, hl, h.imp id fun ⟨b, o, e2, _, hc⟩ => ⟨b, o, e2, hc⟩⟩
theorem LW.of_stx {w : World} {v : Value} {l : List ByteArray} (h : Stx w v l) : LW w v l := by
  obtain ⟨g, c, e, _, h2, h3⟩ := h
  exact ⟨some ⟨g, 0, none⟩, c, e, by omega, Or.inr ⟨g, 0, rfl, fun i hi => by rw [Nat.zero_add]; exact h3 i hi⟩⟩
set_option maxHeartbeats 400000 in
theorem sameNamesW_any (l : List ByteArray) (v u : Value) (w : World) (hv : LW w v l) (hu : LW w u l) :
    Calls Tryz.prog 18 #[v, u] w fun e w' => e = .returned (.bool true) ∧ Below w.heap.size w w' := by
  obtain ⟨a, c, rfl, hl, h1⟩ := hv
  obtain ⟨a2, c2, rfl, _, h2⟩ := hu
  go_enter Tryz.func18, Tryz.ntmps18
  go_wp2_with fail
  go_loopw [5] (fun i wr => ∃ k n : Nat, k ≤ l.length ∧ i = .int .i64 k ∧ wr = w.drewN n) (fun i wr => l.length - (intOf i).toNat)
  case atStart => exact ⟨0, 0, Nat.zero_le _, rfl, rfl⟩
  case round =>
    obtain ⟨k, n, hk, rfl, rfl⟩ := hrel
    by_cases hlt : k < l.length
    · obtain ⟨b, o, rfl, hc⟩ := h1.resolve_left (fun h => by rw [h] at hlt; simp at hlt)
      obtain ⟨b2, o2, rfl, hc2⟩ := h2.resolve_left (fun h => by rw [h] at hlt; simp at hlt)
      have d1 := hc k hlt
      have d2 := hc2 k hlt
      clear hc hc2 h1 h2
      go_wp2_with fail
      go_quiet (fail)
      go_wp2_with fail
      go_roundw
      case rel => exact ⟨k + 1, _, by omega, by go_num, rfl⟩
      case measure => simp [intOf]; omega
    · go_wp2_with fail
      go_ret
      exact ⟨rfl, below_drewN (Below.refl _ _) _⟩
/-- Rows of rows of texts, to be read. -/
def RrV (w : World) (a : Option Addr) (ps : List (Value × List ByteArray)) : Prop := (ps = [] ∨ ∃ g, a = some ⟨g, 0, none⟩ ∧ ∀ j (h : j < ps.length), w.cell? ⟨g, j, none⟩ = some ps[j].1) ∧ ∀ p ∈ ps, LW w p.1 p.2
theorem RrV.later {w w' : World} {a : Option Addr} {ps : List (Value × List ByteArray)} (h : RrV w a ps) (hb : Below w.heap.size w w') : RrV w' a ps := by
  obtain ⟨h1, h2⟩ := h
  refine ⟨h1.imp id fun ⟨g, e, hc⟩ => ⟨g, e, fun j hj => (hb.cell (p := ⟨g, j, none⟩) (World.block_lt_of_cell? w _ (hc j hj))).trans (hc j hj)⟩, fun p hp => (h2 p hp).later hb⟩
theorem RrV.nil (w : World) (a : Option Addr) : RrV w a [] := ⟨Or.inl rfl, fun p hp => by cases hp⟩
/-- What closure.Classes answers, in one row. -/
theorem clp_all {ls : List Pr} {w w' : World} {e : Ending} (h : ClP ls w e w') : Below w.heap.size w w' ∧ ∃ (a : Option Addr) (c : Nat) (ps : List (Value × List ByteArray)), e = .returned (.tuple #[.slice a ps.length c, .int .i64 (grdE ls)]) ∧ RrV w' a ps ∧ (grdE ls = 0 → ClsR ls (· ∈ preL (prT ls)) (ps.map (·.2))) ∧ (grdE ls ≠ 0 → ps = []) := by
  obtain ⟨hb, h | h⟩ := h
  · exact ⟨hb, none, 0, [], h.2, RrV.nil _ _, fun h0 => absurd h0 h.1, fun _ => rfl⟩
  · obtain ⟨h0, a, c, ps, e1, h1, h2, h3⟩ := h
    exact ⟨hb, a, c, ps, by rw [h0]; exact e1, ⟨h1, fun p hp => LW.of_stx (h2 p hp)⟩, fun _ => h3, fun h => absurd h0 h⟩
/-- What holds all along. -/
structure CsW (ls : List Pr) (a b : Tm) (ua aa ab : Option Addr) (uc ca cb Pa Pb : Nat) (w wr : World) : Prop where
  qv : QV wr (fun _ => True) (.slice ua ls.length uc) ls
  sa : Sl wr (fun _ => True) aa a.args
  sb : Sl wr (fun _ => True) ab b.args
  pa : Blk wr Pa #[.string a.name, .slice aa a.args.length ca] 25
  pb : Blk wr Pb #[.string b.name, .slice ab b.args.length cb] 25
  bl : Below w.heap.size w wr
theorem CsW.later {ls : List Pr} {a b : Tm} {ua aa ab : Option Addr} {uc ca cb Pa Pb : Nat} {w wr w' : World} (h : CsW ls a b ua aa ab uc ca cb Pa Pb w wr) (hb : Below wr.heap.size wr w') : CsW ls a b ua aa ab uc ca cb Pa Pb w w' :=
  ⟨h.qv.later hb, h.sa.later hb, h.sb.later hb, h.pa.below hb h.pa.lt, h.pb.below hb h.pb.lt, h.bl.trans (hb.mono h.bl.size)⟩
theorem CsW.cells {ls : List Pr} {a b : Tm} {ua aa ab : Option Addr} {uc ca cb Pa Pb : Nat} {w wr : World} (h : CsW ls a b ua aa ab uc ca cb Pa Pb w wr) : wr.cell? ⟨Pa, 0, none⟩ = some (.string a.name) ∧ wr.cell? ⟨Pa, 1, none⟩ = some (.slice aa a.args.length ca) ∧ wr.cell? ⟨Pb, 0, none⟩ = some (.string b.name) ∧ wr.cell? ⟨Pb, 1, none⟩ = some (.slice ab b.args.length cb) := ⟨h.pa.cell 0, h.pa.cell 1, h.pb.cell 0, h.pb.cell 1⟩
theorem prT_take1 {ls : List Pr} {i : Nat} (h : i < ls.length) : sizeL (prT (ls.take (i + 1))) = sizeL (prT (ls.take i)) + sizeL [ls[i].l] + sizeL [ls[i].r] := by
  rw [← preL_length, prT_takeK h, List.length_append, List.length_append, preL_length, preL_length, preL_length]
end Go.Proofs.YtdmaijmglblccaaGreatDoor
