/- Several texts in one. -/
import Derived.WalkKit
import Derived.WalkSpells
import Derived.WalkLawsBesides
import Derived.Test.YtdmaijmglblccaaGreatDoorRows
import Derived.Deep.AppendLies
import Derived.WideMake
import Derived.BigQuiet
import Derived.Deep.AppendSrc
import Derived.Lib.Builder
import Derived.Lib.AppendStr
import Derived.Deep.RegionHeld
import Derived.Deep.RegionHeld3
import Derived.Deep.DeepCutAuto
import Derived.Deep.RegionLaw
import Derived.Test.YtdmaijmglblccaaGreatDoorShelf
import Derived.Ground.SlgnProg
import Derived.Shelf.SlicesE.Clone
/- The tree that a term is, and how it lies in memory: plain mathematics of terms, and what stays where it was. -/
namespace Go.Proofs.YtdmaijmglblccaaGreatDoor
open Go.RowKit

/-- Kept from the walk. -/
theorem hide {p : Prop} (h : p) : Hid p := h

/-- A term as a tree. -/
structure Tm where
  name : ByteArray
  args : List Tm

theorem Tm.ind {P : Tm → Prop} (h : ∀ s l, (∀ x ∈ l, P x) → P ⟨s, l⟩) (t : Tm) : P t :=
  Tm.rec (motive_1 := P) (motive_2 := fun l => ∀ x ∈ l, P x) (fun s l ih => h s l ih) (fun x hx => by cases hx)
    (fun a l ha hl x hx => by
      rcases List.mem_cons.1 hx with e | e
      · subst e; exact ha
      · exact hl x e) t

theorem Tm.indL {P : List Tm → Prop} (h0 : P []) (h : ∀ s l r, P l → P r → P (⟨s, l⟩ :: r)) (l : List Tm) : P l :=
  Tm.rec_1 (motive_1 := fun t => P t.args) (motive_2 := P) (fun _ _ ih => ih) h0 (fun a l ha hl => by obtain ⟨s, k⟩ := a; exact h s k l ha hl) l

/-- The knots of a list of terms. -/
def sizeL : List Tm → Nat
  | [] => 0
  | ⟨_, l⟩ :: r => 1 + sizeL l + sizeL r

theorem sizeL_append (a b : List Tm) : sizeL (a ++ b) = sizeL a + sizeL b := by
  induction a with
  | nil => simp [sizeL]
  | cons t r ih => obtain ⟨s, l⟩ := t; simp only [List.cons_append, sizeL, ih]; omega

/-- A list of terms lies in a row of cells, two a term, in blocks that X lets. -/
def Lies (w : World) (X : Nat → Prop) : Nat → Nat → List Tm → Prop
  | _, _, [] => True
  | b, o, ⟨s, l⟩ :: r => X b ∧ w.cell? ⟨b, o, none⟩ = some (.string s) ∧
      (∃ a c, w.cell? ⟨b, o + 1, none⟩ = some (.slice a l.length c) ∧ l.length ≤ 9223372036854775807 ∧ (l = [] ∨ ∃ b' o', a = some ⟨b', o', none⟩ ∧ Lies w X b' o' l)) ∧ Lies w X b (o + 2) r

/-- What a slice of terms holds. -/
def Sl (w : World) (X : Nat → Prop) (a : Option Addr) (l : List Tm) : Prop := l.length ≤ 9223372036854775807 ∧ (l = [] ∨ ∃ b o, a = some ⟨b, o, none⟩ ∧ Lies w X b o l)

/-- What a term's value holds. -/
def TV (w : World) (X : Nat → Prop) (v : Value) (t : Tm) : Prop := ∃ a c, v = .agg #[.string t.name, .slice a t.args.length c] ∧ Sl w X a t.args

theorem lies_kept {w w' : World} {X : Nat → Prop} (h : ∀ b, X b → w'.heap[b]? = w.heap[b]?) (l : List Tm) : ∀ b o, Lies w X b o l → Lies w' X b o l := by
  induction l using Tm.indL with
  | h0 => intro b o _; simp [Lies]
  | h s l r ihl ihr =>
    intro b o hl
    simp only [Lies] at hl ⊢
    obtain ⟨hx, h1, ⟨a, c, h2, h2', h3⟩, h4⟩ := hl
    refine ⟨hx, by rw [World.cell?_of_block (h b hx)]; exact h1, ⟨a, c, by rw [World.cell?_of_block (h b hx)]; exact h2, h2', ?_⟩, ihr _ _ h4⟩
    rcases h3 with h3 | ⟨b', o', h3, h5⟩
    · exact Or.inl h3
    · exact Or.inr ⟨b', o', h3, ihl _ _ h5⟩

theorem lies_mono {w : World} {X Y : Nat → Prop} (h : ∀ b, X b → b < w.heap.size → Y b) (l : List Tm) : ∀ b o, Lies w X b o l → Lies w Y b o l := by
  induction l using Tm.indL with
  | h0 => intro b o _; simp [Lies]
  | h s l r ihl ihr =>
    intro b o hl
    simp only [Lies] at hl ⊢
    obtain ⟨hx, h1, ⟨a, c, h2, h2', h3⟩, h4⟩ := hl
    have hb : b < w.heap.size := by
      apply Classical.byContradiction
      intro hn
      have e : w.heap[b]? = none := Array.getElem?_eq_none (by omega)
      simp [World.cell?, e] at h1
    refine ⟨h b hx hb, h1, ⟨a, c, h2, h2', ?_⟩, ihr _ _ h4⟩
    rcases h3 with h3 | ⟨b', o', h3, h5⟩
    · exact Or.inl h3
    · exact Or.inr ⟨b', o', h3, ihl _ _ h5⟩

theorem Sl.kept {w w' : World} {X : Nat → Prop} {a : Option Addr} {l : List Tm} (h : Sl w X a l) (hk : ∀ b, X b → w'.heap[b]? = w.heap[b]?) : Sl w' X a l := by
  obtain ⟨hl, h⟩ := h
  refine ⟨hl, ?_⟩
  rcases h with h | ⟨b, o, e, h⟩
  · exact Or.inl h
  · exact Or.inr ⟨b, o, e, lies_kept hk _ _ _ h⟩

theorem Sl.mono {w : World} {X Y : Nat → Prop} {a : Option Addr} {l : List Tm} (h : Sl w X a l) (hk : ∀ b, X b → b < w.heap.size → Y b) : Sl w Y a l := by
  obtain ⟨hl, h⟩ := h
  refine ⟨hl, ?_⟩
  rcases h with h | ⟨b, o, e, h⟩
  · exact Or.inl h
  · exact Or.inr ⟨b, o, e, lies_mono hk _ _ _ h⟩

theorem Sl.below {w w' : World} {X : Nat → Prop} {a : Option Addr} {l : List Tm} {B : Nat} (h : Sl w X a l) (hb : Below B w w') (hX : ∀ b, X b → b < w.heap.size → b < B) : Sl w' X a l := by
  have h1 : Sl w (fun b => X b ∧ b < B) a l := h.mono fun b hx hs => ⟨hx, hX b hx hs⟩
  have h2 : Sl w' (fun b => X b ∧ b < B) a l := h1.kept fun b hx => hb.block b hx.2
  exact h2.mono fun b hx _ => hx.1

theorem TV.kept {w w' : World} {X : Nat → Prop} {v : Value} {t : Tm} (h : TV w X v t) (hk : ∀ b, X b → w'.heap[b]? = w.heap[b]?) : TV w' X v t := by
  obtain ⟨a, c, e, h⟩ := h
  exact ⟨a, c, e, h.kept hk⟩

theorem TV.mono {w : World} {X Y : Nat → Prop} {v : Value} {t : Tm} (h : TV w X v t) (hk : ∀ b, X b → b < w.heap.size → Y b) : TV w Y v t := by
  obtain ⟨a, c, e, h⟩ := h
  exact ⟨a, c, e, h.mono hk⟩

theorem TV.below {w w' : World} {X : Nat → Prop} {v : Value} {t : Tm} {B : Nat} (h : TV w X v t) (hb : Below B w w') (hX : ∀ b, X b → b < w.heap.size → b < B) : TV w' X v t := by
  obtain ⟨a, c, e, h⟩ := h
  exact ⟨a, c, e, h.below hb hX⟩

theorem TV.alloc {w : World} {X : Nat → Prop} {v : Value} {t : Tm} (h : TV w X v t) (o : Obj) : TV (w.alloc o) X v t :=
  h.below ((Below.refl _ _).alloc (Nat.le_refl _) o) (fun _ _ h => h)

theorem TV.later {w w' : World} {X : Nat → Prop} {v : Value} {t : Tm} (h : TV w X v t) (hb : Below w.heap.size w w') : TV w' X v t := h.below hb (fun _ _ h => h)

theorem Sl.later {w w' : World} {X : Nat → Prop} {a : Option Addr} {l : List Tm} (h : Sl w X a l) (hb : Below w.heap.size w w') : Sl w' X a l := h.below hb (fun _ _ h => h)

/-- One of a row. -/
theorem lies_get {w : World} {X : Nat → Prop} : ∀ (l : List Tm) (b o : Nat), Lies w X b o l → ∀ i (h : i < l.length),
    X b ∧ w.cell? ⟨b, o + i * 2, none⟩ = some (.string l[i].name) ∧ ∃ a c, w.cell? ⟨b, o + i * 2 + 1, none⟩ = some (.slice a l[i].args.length c) ∧ Sl w X a l[i].args := by
  intro l
  induction l with
  | nil => intro b o _ i h; simp at h
  | cons t r ih =>
    intro b o hl i h
    obtain ⟨s, k⟩ := t
    simp only [Lies] at hl
    obtain ⟨hx, h1, ⟨a, c, h2, h3⟩, h4⟩ := hl
    cases i with
    | zero => exact ⟨hx, h1, a, c, h2, h3⟩
    | succ i =>
      have := ih b (o + 2) h4 i (by simpa using h)
      simp only [List.getElem_cons_succ]
      rw [show o + (i + 1) * 2 = o + 2 + i * 2 by omega]
      exact this

theorem lies_mk {w : World} {X : Nat → Prop} : ∀ (l : List Tm) (b o : Nat), (∀ i (h : i < l.length),
    X b ∧ w.cell? ⟨b, o + i * 2, none⟩ = some (.string l[i].name) ∧ ∃ a c, w.cell? ⟨b, o + i * 2 + 1, none⟩ = some (.slice a l[i].args.length c) ∧ Sl w X a l[i].args) → Lies w X b o l := by
  intro l
  induction l with
  | nil => intro b o _; simp [Lies]
  | cons t r ih =>
    intro b o hl
    obtain ⟨s, k⟩ := t
    simp only [Lies]
    obtain ⟨hx, h1, a, c, h2, h3⟩ := hl 0 (by simp)
    refine ⟨hx, h1, ⟨a, c, h2, h3⟩, ih b (o + 2) fun i h => ?_⟩
    have := hl (i + 1) (by simpa using h)
    simp only [List.getElem_cons_succ] at this
    rw [show o + (i + 1) * 2 = o + 2 + i * 2 by omega] at this
    exact this

/-- One of a slice, in a later world. -/
theorem Sl.get {w wr : World} {X : Nat → Prop} {a : Option Addr} {l : List Tm} {B : Nat} (h : Sl w X a l) (hb : Below B w wr) (hX : ∀ b, X b → b < w.heap.size → b < B) (k : Nat) (hk : k < l.length) :
    ∃ b o a' c', a = some ⟨b, o, none⟩ ∧ wr.cell? ⟨b, o + k * 2, none⟩ = some (.string l[k].name) ∧ wr.cell? ⟨b, o + k * 2 + 1, none⟩ = some (.slice a' l[k].args.length c') ∧ TV wr X (.agg #[.string l[k].name, .slice a' l[k].args.length c']) l[k] := by
  have h' := h.below hb hX
  obtain ⟨_, h1⟩ := h'
  rcases h1 with h1 | ⟨b, o, e, h1⟩
  · subst h1; simp at hk
  · obtain ⟨_, h2, a', c', h3, h4⟩ := lies_get _ _ _ h1 k hk
    exact ⟨b, o, a', c', e, h2, h3, a', c', rfl, h4⟩

end Go.Proofs.YtdmaijmglblccaaGreatDoor

/- Walks: letters, digits, names. -/
namespace Go.Proofs.YtdmaijmglblccaaGreatDoor
open Go.RowKit
set_option linter.unusedSimpArgs false
set_option linter.unusedVariables false

def digB (n : Int) : Bool := decide (48 ≤ n) && decide (n ≤ 57)
def capB (n : Int) : Bool := decide (65 ≤ n) && decide (n ≤ 90)
def lowB (n : Int) : Bool := decide (97 ≤ n) && decide (n ≤ 122)
def letB (n : Int) : Bool := lowB n || capB n
def alnB (n : Int) : Bool := letB n || digB n

theorem ret_bool {a b : Bool} (h : a = b) : Ending.returned (.bool a) = .returned (.bool b) := by rw [h]

set_option maxHeartbeats 400000 in
theorem isDigit_any (n : Int) (w : World) : Calls Tryz.prog 102 #[.int .u8 n] w fun e w' => e = .returned (.bool (digB n)) ∧ w' = w := by
  go_enter Tryz.func102, Tryz.ntmps102
  go_wp2_with fail
  all_goals (go_ret; refine ⟨ret_bool ?_, rfl⟩; rw [Bool.eq_iff_iff]; simp [alnB, letB, lowB, capB, digB] <;> omega)

set_option maxHeartbeats 400000 in
theorem isCapital_any (n : Int) (w : World) : Calls Tryz.prog 71 #[.int .u8 n] w fun e w' => e = .returned (.bool (capB n)) ∧ w' = w := by
  go_enter Tryz.func71, Tryz.ntmps71
  go_wp2_with fail
  all_goals (go_ret; refine ⟨ret_bool ?_, rfl⟩; rw [Bool.eq_iff_iff]; simp [alnB, letB, lowB, capB, digB] <;> omega)

set_option maxHeartbeats 400000 in
theorem isLetter_any (n : Int) (w : World) : Calls Tryz.prog 101 #[.int .u8 n] w fun e w' => e = .returned (.bool (letB n)) ∧ w' = w := by
  go_enter Tryz.func101, Tryz.ntmps101
  go_wp2_with (go_at_call 71; refine (isCapital_any _ _).mono ?_; rintro e w' ⟨rfl, rfl⟩)
  all_goals (go_ret; refine ⟨ret_bool ?_, rfl⟩; rw [Bool.eq_iff_iff]; simp [alnB, letB, lowB, capB, digB] <;> omega)

set_option maxHeartbeats 400000 in
theorem isLetterR_any (n : Int) (w : World) : Calls Tryz.prog 42 #[.int .u8 n] w fun e w' => e = .returned (.bool (alnB n)) ∧ w' = w := by
  go_enter Tryz.func42, Tryz.ntmps42
  go_wp2_with fail
  all_goals (go_ret; refine ⟨ret_bool ?_, rfl⟩; rw [Bool.eq_iff_iff]; simp [alnB, letB, lowB, capB, digB] <;> omega)
end Go.Proofs.YtdmaijmglblccaaGreatDoor

/- Walks: which texts are names, and which of them are variables'. -/
namespace Go.Proofs.YtdmaijmglblccaaGreatDoor
open Go.RowKit
set_option linter.unusedSimpArgs false
set_option linter.unusedVariables false

def byteAt (s : ByteArray) (i : Nat) : Int := if h : i < s.size then (s[i].toNat : Int) else 0
theorem byteAt_of {s : ByteArray} {i : Nat} (h : i < s.size) : (s[i].toNat : Int) = byteAt s i := by simp [byteAt, h]
def varB (s : ByteArray) : Bool := capB (byteAt s 0)
def alnTo (s : ByteArray) (k : Nat) : Bool := (List.range k).all fun i => alnB (byteAt s i)
def nameB (s : ByteArray) : Bool := decide (1 ≤ s.size) && decide (s.size ≤ 8) && !digB (byteAt s 0) && alnTo s s.size

theorem isEmpty_pos {s : ByteArray} (h : 0 < s.size) : s.toList.isEmpty = false := by
  rw [ByteArray.toList_eq, List.isEmpty_eq_false_iff, ← List.length_pos_iff]
  simpa using h
theorem isEmpty_zero {s : ByteArray} (h : ¬ 0 < s.size) : s.toList.isEmpty = true := by
  rw [ByteArray.toList_eq, List.isEmpty_iff, ← List.length_eq_zero_iff]
  have : s.size = 0 := by omega
  simpa using this
theorem alnTo_succ (s : ByteArray) (k : Nat) : alnTo s (k + 1) = (alnTo s k && alnB (byteAt s k)) := by
  simp [alnTo, List.range_succ, List.all_append]
theorem alnTo_false {s : ByteArray} {k n : Nat} (h : k ≤ n) (hf : alnTo s k = false) : alnTo s n = false := by
  cases hn : alnTo s n with
  | false => rfl
  | true =>
    rw [← hf]; symm
    unfold alnTo at hn ⊢
    rw [List.all_eq_true] at hn ⊢
    intro x hx; exact hn x (by rw [List.mem_range] at hx ⊢; omega)
set_option maxHeartbeats 400000 in
theorem isVarR_any (s : ByteArray) (w : World) : Calls Tryz.prog 26 #[.string s] w fun e w' => e = .returned (.bool (varB s)) ∧ w' = w := by
  by_cases h : 0 < s.size
  · have hb := hide (byteAt_of h)
    have he := isEmpty_pos h
    go_enter Tryz.func26, Tryz.ntmps26
    go_wp2_with fail
    all_goals (go_ret; refine ⟨ret_bool ?_, rfl⟩; have hb' := hb.out; rw [Bool.eq_iff_iff]; simp [varB, capB] <;> omega)
  · have he := isEmpty_zero h
    have hv : Hid (false = varB s) := by simp [Hid, varB, byteAt, h, capB]
    go_enter Tryz.func26, Tryz.ntmps26
    go_wp2_with fail
    go_ret
    exact ⟨ret_bool hv.out, rfl⟩

set_option maxHeartbeats 400000 in
theorem isVariable_all (s : ByteArray) (w : World) : Calls Tryz.prog 52 #[.string s] w fun e w' => e = .returned (.bool (varB s)) ∧ w' = w := by
  by_cases h : 0 < s.size
  · have hb := hide (byteAt_of h)
    have he := isEmpty_pos h
    go_enter Tryz.func52, Tryz.ntmps52
    go_wp2_with (go_at_call 71; refine (isCapital_any _ _).mono ?_; rintro e w' ⟨rfl, rfl⟩)
    go_ret
    refine ⟨ret_bool ?_, rfl⟩
    rw [hb.out]; rfl
  · have he := isEmpty_zero h
    have hv : Hid (false = varB s) := by simp [Hid, varB, byteAt, h, capB]
    go_enter Tryz.func52, Tryz.ntmps52
    go_wp2_with fail
    go_ret
    exact ⟨ret_bool hv.out, rfl⟩
theorem isVariable_any (s : ByteArray) (w : World) (h : 0 < s.size) : Calls Tryz.prog 52 #[.string s] w fun e w' => e = .returned (.bool (varB s)) ∧ w' = w := isVariable_all s w

theorem nameB_no {s : ByteArray} {k : Nat} (hk : k < s.size) (h : alnB (byteAt s k) = false) : nameB s = false := by
  have h1 : alnTo s (k + 1) = false := by rw [alnTo_succ, h]; simp
  have h2 := alnTo_false (n := s.size) (by omega) h1
  simp [nameB, h2]

set_option maxHeartbeats 400000 in
theorem isName_any (s : ByteArray) (w : World) : Calls Tryz.prog 75 #[.string s] w fun e w' => e = .returned (.bool (nameB s)) ∧ w' = w := by
  by_cases h0 : s.size < 1
  · have hn : Hid (false = nameB s) := by simp [Hid, nameB]; omega
    go_enter Tryz.func75, Tryz.ntmps75
    go_wp2_with fail
    go_ret
    exact ⟨ret_bool hn.out, rfl⟩
  · by_cases h8 : 8 < s.size
    · have hn : Hid (false = nameB s) := by simp [Hid, nameB]; omega
      go_enter Tryz.func75, Tryz.ntmps75
      go_wp2_with fail
      all_goals (go_ret; exact ⟨ret_bool hn.out, rfl⟩)
    · have hb := hide (byteAt_of (s := s) (i := 0) (by omega))
      by_cases hd : digB (byteAt s 0) = true
      · have hn : Hid (false = nameB s) := by simp [Hid, nameB, hd]
        have hd' := hide hd
        clear hd
        go_enter Tryz.func75, Tryz.ntmps75
        go_wp2_with (go_at_call 102; refine (isDigit_any _ _).mono ?_; rintro e w' ⟨rfl, rfl⟩; rw [hb.out, hd'.out])
        all_goals (go_ret; exact ⟨ret_bool hn.out, rfl⟩)
      · have hd' : Hid (digB (byteAt s 0) = false) := by simpa [Hid] using hd
        clear hd
        go_enter Tryz.func75, Tryz.ntmps75
        go_wp2_with (go_at_call 102; refine (isDigit_any _ _).mono ?_; rintro e w' ⟨rfl, rfl⟩; rw [hb.out, hd'.out])
        go_loop [19] (fun i => ∃ k : Nat, k ≤ s.size ∧ i = .int .i64 k ∧ alnTo s k = true) (fun i => s.size - (intOf i).toNat)
        case atStart => exact ⟨0, Nat.zero_le _, rfl, rfl⟩
        case round =>
          obtain ⟨k, hk, rfl, ha⟩ := hrel
          have HA := hide ha
          clear ha
          by_cases hlt : k < s.size
          · have hbk := hide (byteAt_of hlt)
            have hsuc := hide (alnTo_succ s k)
            cases hl : letB (byteAt s k) with
            | true =>
              have HL := hide hl
              clear hl
              go_wp2_with (go_at_call 101; refine (isLetter_any _ _).mono ?_; rintro e w' ⟨rfl, rfl⟩; rw [hbk.out, HL.out])
              go_round
              case rel => exact ⟨k + 1, by omega, by go_num, by rw [hsuc.out, HA.out, alnB, HL.out]; rfl⟩
              case measure => simp [intOf]; omega
            | false =>
              have HL := hide hl
              clear hl
              cases hg : digB (byteAt s k) with
              | true =>
                have HG := hide hg
                clear hg
                go_wp2_with (first | (go_at_call 101; refine (isLetter_any _ _).mono ?_; rintro e w' ⟨rfl, rfl⟩; rw [hbk.out, HL.out]) | (go_at_call 102; refine (isDigit_any _ _).mono ?_; rintro e w' ⟨rfl, rfl⟩; rw [hbk.out, HG.out]))
                go_round
                case rel => exact ⟨k + 1, by omega, by go_num, by rw [hsuc.out, HA.out, alnB, HL.out, HG.out]; rfl⟩
                case measure => simp [intOf]; omega
              | false =>
                have HG := hide hg
                clear hg
                go_wp2_with (first | (go_at_call 101; refine (isLetter_any _ _).mono ?_; rintro e w' ⟨rfl, rfl⟩; rw [hbk.out, HL.out]) | (go_at_call 102; refine (isDigit_any _ _).mono ?_; rintro e w' ⟨rfl, rfl⟩; rw [hbk.out, HG.out]))
                go_ret
                exact ⟨ret_bool (nameB_no hlt (by rw [alnB, HL.out, HG.out]; rfl)).symm, rfl⟩
          · have hn : Hid (true = nameB s) := by
              have e : k = s.size := by omega
              have := HA.out
              rw [e] at this
              simp [Hid, nameB, this, hd'.out]; omega
            go_wp2_with fail
            go_ret
            exact ⟨ret_bool hn.out, rfl⟩

set_option maxHeartbeats 400000 in
theorem isNameR_any (s : ByteArray) (w : World) : Calls Tryz.prog 25 #[.string s] w fun e w' => e = .returned (.bool (nameB s)) ∧ w' = w := by
  by_cases h0 : 0 < s.size
  · have he := isEmpty_pos h0
    have hb := hide (byteAt_of h0)
    by_cases h8 : 8 < s.size
    · have hn : Hid (false = nameB s) := by simp [Hid, nameB]; omega
      go_enter Tryz.func25, Tryz.ntmps25
      go_wp2_with fail
      all_goals (go_ret; exact ⟨ret_bool hn.out, rfl⟩)
    · cases hd : digB (byteAt s 0) with
      | true =>
        have hn : Hid (false = nameB s) := by simp [Hid, nameB, hd]
        have hd1 : 48 ≤ (s[0].toNat : Int) := by rw [hb.out]; simp [digB] at hd; exact hd.1
        have hd2 : (s[0].toNat : Int) ≤ 57 := by rw [hb.out]; simp [digB] at hd; exact hd.2
        clear hd
        go_enter Tryz.func25, Tryz.ntmps25
        go_wp2_with fail
        all_goals (go_ret; exact ⟨ret_bool hn.out, rfl⟩)
      | false =>
        have HD := hide hd
        clear hd
        have hor : (s[0].toNat : Int) < 48 ∨ (48 ≤ (s[0].toNat : Int) ∧ 57 < (s[0].toNat : Int)) := by
          have := HD.out; rw [hb.out]; simp [digB] at this; omega
        rcases hor with h1 | ⟨h1, h2⟩
        all_goals
          go_enter Tryz.func25, Tryz.ntmps25
          go_wp2_with fail
          go_loop [3] (fun i => ∃ k : Nat, k ≤ s.size ∧ i = .int .i64 k ∧ alnTo s k = true) (fun i => s.size - (intOf i).toNat)
          case atStart => exact ⟨0, Nat.zero_le _, rfl, rfl⟩
          case round =>
            obtain ⟨k, hk, rfl, ha⟩ := hrel
            have HA := hide ha
            clear ha
            by_cases hlt : k < s.size
            · have hbk := hide (byteAt_of hlt)
              have hsuc := hide (alnTo_succ s k)
              cases hl : alnB (byteAt s k) with
              | true =>
                have HL := hide hl
                clear hl
                go_wp2_with (go_at_call 42; refine (isLetterR_any _ _).mono ?_; rintro e w' ⟨rfl, rfl⟩; rw [hbk.out, HL.out])
                go_round
                case rel => exact ⟨k + 1, by omega, by go_num, by rw [hsuc.out, HA.out, HL.out]; rfl⟩
                case measure => simp [intOf]; omega
              | false =>
                have HL := hide hl
                clear hl
                go_wp2_with (go_at_call 42; refine (isLetterR_any _ _).mono ?_; rintro e w' ⟨rfl, rfl⟩; rw [hbk.out, HL.out])
                go_ret
                exact ⟨ret_bool (nameB_no hlt HL.out).symm, rfl⟩
            · have hn : Hid (true = nameB s) := by
                have e : k = s.size := by omega
                have := HA.out
                rw [e] at this
                simp [Hid, nameB, this, HD.out]; omega
              go_wp2_with fail
              go_ret
              exact ⟨ret_bool hn.out, rfl⟩
  · have he := isEmpty_zero h0
    have hn : Hid (false = nameB s) := by simp [Hid, nameB]; omega
    go_enter Tryz.func25, Tryz.ntmps25
    go_wp2_with fail
    all_goals (go_ret; exact ⟨ret_bool hn.out, rfl⟩)
end Go.Proofs.YtdmaijmglblccaaGreatDoor

/- Rows of terms that a call makes. -/
namespace Go.Proofs.YtdmaijmglblccaaGreatDoor
open Go.RowKit
set_option linter.unusedSimpArgs false
set_option linter.unusedVariables false

/-- These cells are these terms. -/
def RowT (w : World) (X : Nat → Prop) : List Tm → List Value → Prop
  | [], xs => xs = []
  | t :: l, xs => ∃ a c r, xs = .string t.name :: .slice a t.args.length c :: r ∧ Sl w X a t.args ∧ RowT w X l r

theorem RowT.len {w : World} {X : Nat → Prop} : ∀ {l : List Tm} {xs : List Value}, RowT w X l xs → xs.length = l.length * 2
  | [], xs, h => by simp [RowT] at h; simp [h]
  | t :: l, xs, h => by
    obtain ⟨a, c, r, rfl, _, h⟩ := h
    simp only [List.length_cons]
    rw [RowT.len h]; omega

theorem RowT.append {w : World} {X : Nat → Prop} : ∀ {l k : List Tm} {xs ys : List Value}, RowT w X l xs → RowT w X k ys → RowT w X (l ++ k) (xs ++ ys)
  | [], k, xs, ys, h, h' => by simp [RowT] at h; subst h; simpa using h'
  | t :: l, k, xs, ys, h, h' => by
    obtain ⟨a, c, r, rfl, hs, h⟩ := h
    exact ⟨a, c, r ++ ys, rfl, hs, RowT.append h h'⟩

theorem RowT.one {w : World} {X : Nat → Prop} : ∀ {l : List Tm} {xs : List Value}, RowT w X l xs → ∀ u ∈ xs, u.oneCell' = true
  | [], xs, h, u, hu => by simp [RowT] at h; subst h; cases hu
  | t :: l, xs, h, u, hu => by
    obtain ⟨a, c, r, rfl, _, h⟩ := h
    rcases List.mem_cons.1 hu with e | hu
    · subst e; rfl
    · rcases List.mem_cons.1 hu with e | hu
      · subst e; rfl
      · exact RowT.one h u hu

theorem RowT.imp {w w' : World} {X Y : Nat → Prop} (hs : ∀ a l, Sl w X a l → Sl w' Y a l) : ∀ {l : List Tm} {xs : List Value}, RowT w X l xs → RowT w' Y l xs
  | [], xs, h => h
  | t :: l, xs, h => by
    obtain ⟨a, c, r, e, h1, h⟩ := h
    exact ⟨a, c, r, e, hs _ _ h1, RowT.imp hs h⟩

theorem RowT.get {w : World} {X : Nat → Prop} : ∀ {l : List Tm} {xs : List Value}, RowT w X l xs → ∀ i (h : i < l.length),
    xs[i * 2]? = some (.string l[i].name) ∧ ∃ a c, xs[i * 2 + 1]? = some (.slice a l[i].args.length c) ∧ Sl w X a l[i].args
  | [], xs, h, i, hi => by simp at hi
  | t :: l, xs, h, i, hi => by
    obtain ⟨a, c, r, rfl, h1, h⟩ := h
    cases i with
    | zero => exact ⟨rfl, a, c, rfl, h1⟩
    | succ i =>
      have := RowT.get h i (by simpa using hi)
      rw [show (i + 1) * 2 = i * 2 + 2 by omega, show i * 2 + 2 + 1 = (i * 2 + 1) + 2 by omega]
      simpa using this

theorem sizeL_len (l : List Tm) : l.length ≤ sizeL l := by
  induction l with
  | nil => simp
  | cons t r ih => obtain ⟨s, k⟩ := t; simp only [List.length_cons, sizeL]; omega

theorem lies_of_rowT {w w' : World} {X Y : Nat → Prop} (b : Nat) (hb : Y b) : ∀ (l : List Tm) (xs : List Value) (o : Nat), RowT w X l xs → (∀ a k, Sl w X a k → Sl w' Y a k) → (∀ j u, xs[j]? = some u → w'.cell? ⟨b, o + j, none⟩ = some u) → Lies w' Y b o l := by
  intro l
  induction l with
  | nil => intro xs o _ _ _; simp [Lies]
  | cons t r ih =>
    intro xs o h hs hc
    obtain ⟨s, k⟩ := t
    obtain ⟨a, c, r', rfl, h1, h2⟩ := h
    simp only [Lies]
    obtain ⟨h3, h4⟩ := hs _ _ h1
    refine ⟨hb, hc 0 _ rfl, ⟨a, c, hc 1 _ rfl, h3, h4⟩, ih r' (o + 2) h2 hs fun j u hj => ?_⟩
    have := hc (j + 2) u (by simpa using hj)
    rwa [show o + (j + 2) = o + 2 + j by omega] at this

/-- The knots, each ahead of those below it. -/
def preL : List Tm → List Tm
  | [] => []
  | ⟨s, l⟩ :: r => ⟨s, l⟩ :: (preL l ++ preL r)

theorem preL_append (a b : List Tm) : preL (a ++ b) = preL a ++ preL b := by
  induction a with
  | nil => simp [preL]
  | cons t r ih => obtain ⟨s, l⟩ := t; simp [preL, ih]

theorem preL_take (l : List Tm) (k : Nat) (h : k < l.length) : preL (l.take (k + 1)) = preL (l.take k) ++ preL [l[k]] := by
  rw [List.take_succ_eq_append_getElem h, preL_append]

theorem preL_length (l : List Tm) : (preL l).length = sizeL l := by
  induction l using Tm.indL with
  | h0 => simp [preL, sizeL]
  | h s l r ihl ihr => simp [preL, sizeL, ihl, ihr]; omega

/-- Old memory, told by the world that was. -/
theorem Sl.back {w w' : World} {X : Nat → Prop} {a : Option Addr} {l : List Tm} {B : Nat} (h : Sl w' X a l) (hb : Below B w w') (hX : ∀ b, X b → b < B) : Sl w X a l :=
  h.kept fun b hx => (hb.block b (hX b hx)).symm

/-- What a row that is owned says of the slice. -/
theorem owned_val {w : World} {base e size : Nat} {v : Value} {n : Nat} {xs : List Value} (h : w.ownsRow base e size v n xs) (hn : 0 < n) :
    ∃ g cap, v = .slice (some ⟨g, 0, none⟩) n cap ∧ base ≤ g ∧ g < w.heap.size ∧ ∀ j u, xs[j]? = some u → w.cell? ⟨g, j, none⟩ = some u := by
  have h' := h
  obtain ⟨hl, h1⟩ := h
  rcases h1 with ⟨_, h0⟩ | ⟨g, cap, cur, hv, hg, hh, _⟩
  · omega
  · subst hv
    have hlt := (h'.lt g rfl).2
    refine ⟨g, cap, rfl, hg, hlt, fun j u hj => ?_⟩
    have := h'.cells (g := g) rfl j u hj
    by_cases h0 : j = 0
    · subst h0; simpa [Addr.add] using this
    · simpa [Addr.add, h0] using this

/-- An append whose outcome is known. -/
theorem wpList_append_eq {P : Program} {ops : Array Oper} {rest : List Oper} {o : Oper} {a : Act} {Q : Exit → Act → World → Prop} {w w' : World} {v u v' : Value} (hgd : o.guard = none) (s x : Operand) (t t' : TypeId)
    (ho : o.op = .call { callee := .builtin .append, args := #[s, x], argTypes := #[t, t'] }) (hs : a.eval s = v) (hx : a.eval x = u)
    (hr : (Builtin.append_ #[t, t'] o.type #[v, u]).run P w = .ok v' w') (h : wpList P ops Q rest (a.put o.dst v') w') : wpList P ops Q (o :: rest) a w :=
  wpList_plain hgd fun K hK => by
    unfold Oper.wp execOp
    simp only [ho, resolve, invoke, builtin, Sem.run_bind, Sem.run_pure, Result.andThen_ok, List.map_toArray, List.map_cons, List.map_nil, hs, hx, hr]
    exact hK _ _ h

end Go.Proofs.YtdmaijmglblccaaGreatDoor

/- Small facts on blocks, and what a round that appends a term does to a row of terms. -/
namespace Go.Proofs.YtdmaijmglblccaaGreatDoor
open Go.RowKit
set_option linter.unusedSimpArgs false
set_option linter.unusedVariables false

/-- A block of plain cells. -/
def Blk (w : World) (b : Nat) (cs : Array Value) (T : Nat) : Prop := w.heap[b]? = some (.cells cs T (0, 0))

theorem Blk.lt {w : World} {b : Nat} {cs : Array Value} {T : Nat} (h : Blk w b cs T) : b < w.heap.size := by
  apply Classical.byContradiction
  intro hn
  have e : w.heap[b]? = none := Array.getElem?_eq_none (by omega)
  rw [Blk, e] at h; cases h

theorem Blk.cell {w : World} {b : Nat} {cs : Array Value} {T : Nat} (h : Blk w b cs T) (i : Nat) : w.cell? ⟨b, i, none⟩ = cs[i]? := by
  unfold Blk at h; simp [World.cell?, h]

theorem Blk.c0 {w : World} {b : Nat} {v : Value} {l : List Value} {T : Nat} (h : Blk w b (List.toArray (v :: l)) T) : w.cell? ⟨b, 0, none⟩ = some v := h.cell 0
theorem Blk.c1 {w : World} {b : Nat} {v0 v : Value} {l : List Value} {T : Nat} (h : Blk w b (List.toArray (v0 :: v :: l)) T) : w.cell? ⟨b, 1, none⟩ = some v := h.cell 1
theorem Blk.c2 {w : World} {b : Nat} {v0 v1 v : Value} {l : List Value} {T : Nat} (h : Blk w b (List.toArray (v0 :: v1 :: v :: l)) T) : w.cell? ⟨b, 2, none⟩ = some v := h.cell 2
theorem Blk.c3 {w : World} {b : Nat} {v0 v1 v2 v : Value} {l : List Value} {T : Nat} (h : Blk w b (List.toArray (v0 :: v1 :: v2 :: v :: l)) T) : w.cell? ⟨b, 3, none⟩ = some v := h.cell 3
theorem Blk.frozen {w : World} {b : Nat} {cs : Array Value} {T : Nat} (h : Blk w b cs T) (i : Nat) : w.frozen? ⟨b, i, none⟩ = false := by
  unfold Blk at h; simp [World.frozen?, h]

theorem Blk.new (w : World) (cs : Array Value) (T : Nat) : Blk (w.alloc (.cells cs T)) w.heap.size cs T := heap_alloc_new w _

theorem Blk.alloc {w : World} {b : Nat} {cs : Array Value} {T : Nat} (h : Blk w b cs T) (o : Obj) : Blk (w.alloc o) b cs T := by
  unfold Blk at *; rw [Below.heap_alloc w o b (Blk.lt h)]; exact h

theorem Blk.below {w w' : World} {b B : Nat} {cs : Array Value} {T : Nat} (h : Blk w b cs T) (hb : Below B w w') (hB : b < B) : Blk w' b cs T := by
  unfold Blk at *; rw [hb.block b hB]; exact h

theorem Blk.drewN {w : World} {b : Nat} {cs : Array Value} {T : Nat} (h : Blk w b cs T) (n : Nat) : Blk (w.drewN n) b cs T := h

theorem Blk.grown {w w' : World} {b : Nat} {cs : Array Value} {T : Nat} {row : Option Nat} (h : Blk w b cs T) (hg : w.grownBy w' row) (hr : some b ≠ row) : Blk w' b cs T := by
  unfold Blk at *; rw [hg.block b (Blk.lt h) hr]; exact h

theorem Blk.set {w : World} {b : Nat} {cs : Array Value} {T : Nat} (h : Blk w b cs T) (i : Nat) (v : Value) : Blk (w.setCell ⟨b, i, none⟩ v) b (cs.setIfInBounds i v) T := by
  unfold Blk at *
  simp [World.setCell, Array.getElem?_modify, h]

theorem Blk.setOther {w : World} {b b' : Nat} {cs : Array Value} {T : Nat} (h : Blk w b cs T) (i : Nat) (v : Value) (hne : b ≠ b') : Blk (w.setCell ⟨b', i, none⟩ v) b cs T := by
  unfold Blk at *; rw [Below.heap_setCell _ _ _ _ (by simpa using hne)]; exact h

/-- The row so far, apart from what its terms are made of: old memory that Y lets, and new memory. -/
structure Row (w : World) (N : Nat) (T : Nat) (Y : Nat → Prop) (v : Value) (l : List Tm) (xs : List Value) : Prop where
  own : w.ownsRow N T 2 v l.length xs
  row : RowT w (fun b => Y b ∨ (N ≤ b ∧ some b ≠ v.ownBlock)) l xs

theorem Row.start (w : World) (N T : Nat) (Y : Nat → Prop) : Row w N T Y (.slice none 0 0) [] [] := ⟨World.ownsRow_nil w N T 2, rfl⟩

theorem Row.below {w w' : World} {N T : Nat} {Y : Nat → Prop} {v : Value} {l : List Tm} {xs : List Value} (h : Row w N T Y v l xs) (hb : Below w.heap.size w w') : Row w' N T Y v l xs :=
  ⟨h.own.kept (w' := w') (row := none) ⟨hb.os, hb.tape, hb.output, hb.size, fun j hj _ => hb.block j hj⟩ (by rcases Option.eq_none_or_eq_some (Value.ownBlock v) with h | ⟨x, h⟩; exact Or.inl h; exact Or.inr (by rw [h]; simp)),
   h.row.imp fun a l h => h.later hb⟩

theorem Row.ne {w : World} {N T : Nat} {Y : Nat → Prop} {v : Value} {l : List Tm} {xs : List Value} (h : Row w N T Y v l xs) {b : Nat} (hb : b < N) : some b ≠ v.ownBlock := fun e => by
  have := (h.own.lt b e.symm).1; omega

/-- One more: the term's cells have been laid into a block of their own, and appended. -/
theorem Row.push {w w1 w2 w3 : World} {N T : Nat} {Y : Nat → Prop} {v : Value} {l : List Tm} {xs : List Value} (h : Row w N T Y v l xs) (hN : N ≤ w.heap.size) (hY : ∀ b, Y b → b < N) (hb : Below w.heap.size w w1) {s : ByteArray} {a : Option Addr} {n c : Nat} {t : Tm}
    (ht : TV w1 (fun b => Y b ∨ w.heap.size ≤ b) (.agg #[.string s, .slice a n c]) t) (o : Obj) (hw2 : w2 = w1.alloc o) {g cap : Nat}
    (hown : w3.ownsRow N T 2 (.slice (some ⟨g, 0, none⟩) (l.length + 1) cap) (l.length + 1) (xs ++ [.string s, .slice a n c])) (hg : w2.grownBy w3 v.ownBlock) (hg1 : v.ownBlock = some g ∨ g = w2.heap.size) :
    Row w3 N T Y (.slice (some ⟨g, 0, none⟩) (l.length + 1) cap) (l ++ [t]) (xs ++ [.string s, .slice a n c]) := by
  subst hw2
  have hlt := h.own.lt
  refine ⟨by simpa using hown, ?_⟩
  have hsz : w1.heap.size ≤ (w1.alloc o).heap.size := by simp
  have hbs := hb.size
  have hgN : N ≤ g := by
    rcases hg1 with e | e
    · exact (hlt g e).1
    · simp at e; omega
  refine RowT.append (h.row.imp fun a' k' hs => ?_) ?_
  · have h1 : Sl w (fun b => (Y b ∨ (N ≤ b ∧ some b ≠ v.ownBlock)) ∧ b < w.heap.size) a' k' := hs.mono fun b h1 h2 => ⟨h1, h2⟩
    have h2 : Sl w3 (fun b => (Y b ∨ (N ≤ b ∧ some b ≠ v.ownBlock)) ∧ b < w.heap.size) a' k' := h1.kept fun b hx => by
      have hne : some b ≠ v.ownBlock := by
        rcases hx.1 with hy | hy
        · exact h.ne (hY b hy)
        · exact hy.2
      rw [hg.block b (by simp; omega) hne, Below.heap_alloc _ _ _ (by omega), hb.block b hx.2]
    refine h2.mono fun b hx _ => ?_
    rcases hx.1 with hy | hy
    · exact Or.inl hy
    · refine Or.inr ⟨hy.1, fun e => ?_⟩
      simp [Value.ownBlock] at e
      rcases hg1 with e' | e'
      · exact hy.2 (by rw [e', e])
      · simp at e'; omega
  · obtain ⟨a2, c2, e, hs⟩ := ht
    simp at e
    obtain ⟨rfl, rfl, rfl, rfl⟩ := e
    refine ⟨a, c, [], rfl, ?_, rfl⟩
    have h1 : Sl w1 (fun b => (Y b ∨ w.heap.size ≤ b) ∧ b < w1.heap.size) a t.args := hs.mono fun b h1 h2 => ⟨h1, h2⟩
    have h2 : Sl w3 (fun b => (Y b ∨ w.heap.size ≤ b) ∧ b < w1.heap.size) a t.args := h1.kept fun b hx => by
      have hne : some b ≠ v.ownBlock := by
        rcases hx.1 with hy | hy
        · exact h.ne (hY b hy)
        · intro e; have := (hlt b e.symm).2; omega
      rw [hg.block b (by simp; omega) hne, Below.heap_alloc _ _ _ hx.2]
    refine h2.mono fun b hx _ => ?_
    rcases hx.1 with hy | hy
    · exact Or.inl hy
    · refine Or.inr ⟨by omega, fun e => ?_⟩
      simp [Value.ownBlock] at e
      rcases hg1 with e' | e'
      · have := (hlt g e').2; omega
      · simp at e'; omega

/-- A store into a block that is none of the row's. -/
theorem Row.setCell {w : World} {N T : Nat} {Y : Nat → Prop} {v : Value} {l : List Tm} {xs : List Value} (h : Row w N T Y v l xs) {b i : Nat} (hb : b < N) (hY : ¬ Y b) (u : Value) : Row (w.setCell ⟨b, i, none⟩ u) N T Y v l xs :=
  ⟨ownsRow_setCell_below h.own (by simpa using hb) u, h.row.imp fun a k hs => hs.kept fun c hc => Below.heap_setCell _ _ _ _ (by
    simp
    rcases hc with hc | hc
    · intro e; subst e; exact hY hc
    · omega)⟩

theorem Row.sl {w : World} {N T : Nat} {Y : Nat → Prop} {v : Value} {l : List Tm} {xs : List Value} (h : Row w N T Y v l xs) : ∃ a c, v = .slice a l.length c ∧ Sl w (fun b => Y b ∨ N ≤ b) a l := by
  have hml : l.length ≤ 9223372036854775807 := by
    rcases h.own.2 with ⟨_, h0⟩ | ⟨g, cap, cur, _, _, _, h1, h2, _⟩
    · omega
    · unfold maxLen at h2; omega
  by_cases h0 : 0 < l.length
  · obtain ⟨g, cap, rfl, hg, hlt, hc⟩ := owned_val h.own h0
    exact ⟨_, _, rfl, hml, Or.inr ⟨g, 0, rfl, lies_of_rowT g (Or.inr hg) l xs 0 h.row (fun a k hs => hs.mono fun b hb _ => hb.imp id (fun h => h.1)) (fun j u hj => by simpa using hc j u hj)⟩⟩
  · have e : l = [] := List.length_eq_zero_iff.1 (by omega)
    subst e
    rcases h.own.2 with ⟨hv, _⟩ | ⟨g, cap, cur, hv, _⟩
    · exact ⟨none, 0, hv, hml, Or.inl rfl⟩
    · exact ⟨_, _, hv, hml, Or.inl rfl⟩

end Go.Proofs.YtdmaijmglblccaaGreatDoor

/- The text of a term. -/
namespace Go.Proofs.YtdmaijmglblccaaGreatDoor

/-- The texts of a list of terms, commas between. -/
def txtL : List Tm → List UInt8
  | [] => []
  | ⟨s, l⟩ :: r => s.data.toList ++ (if l.isEmpty = true then [] else 40 :: (txtL l ++ [41])) ++ (if r.isEmpty = true then [] else 44 :: txtL r)

/-- A name, and the first k below it, without the last bracket. -/
def txtTo (s : ByteArray) (l : List Tm) (k : Nat) : List UInt8 := if k = 0 then s.data.toList else s.data.toList ++ 40 :: txtL (l.take k)

theorem txtL_one (s : ByteArray) (l : List Tm) : txtL [(⟨s, l⟩ : Tm)] = s.data.toList ++ (if l.isEmpty = true then [] else 40 :: (txtL l ++ [41])) := by simp [txtL]

theorem txtL_cons (t : Tm) (r : List Tm) (h : r ≠ []) : txtL (t :: r) = txtL [t] ++ 44 :: txtL r := by
  obtain ⟨s, l⟩ := t
  rw [txtL_one]
  have hr : (r.isEmpty = true) = False := by simpa using h
  simp only [txtL, hr, if_false]

theorem txtL_append (a b : List Tm) (ha : a ≠ []) (hb : b ≠ []) : txtL (a ++ b) = txtL a ++ 44 :: txtL b := by
  induction a with
  | nil => exact absurd rfl ha
  | cons t r ih =>
    by_cases hr : r = []
    · subst hr; simpa using txtL_cons t b hb
    · rw [List.cons_append, txtL_cons t (r ++ b) (by simp [hr]), ih hr, txtL_cons t r hr]
      simp

theorem txtTo_zero (s : ByteArray) (l : List Tm) (h : 0 < l.length) : txtTo s l (0 + 1) = txtTo s l 0 ++ ([40] : List UInt8) ++ txtL [l[0]'h] := by
  have h1 : l.take (0 + 1) = l.take 0 ++ [l[0]] := List.take_succ_eq_append_getElem h
  have h2 : l.take 1 = [l[0]] := by simpa using h1
  unfold txtTo
  rw [if_neg (by decide), if_pos rfl, h2]
  simp

theorem txtTo_succ (s : ByteArray) (l : List Tm) (k : Nat) (hk : 0 < k) (h : k < l.length) : txtTo s l (k + 1) = txtTo s l k ++ [44] ++ txtL [l[k]] := by
  have h1 : l.take k ≠ [] := by
    intro e
    have h3 := congrArg List.length e
    rw [List.length_take] at h3
    simp only [List.length_nil] at h3
    omega
  unfold txtTo
  rw [if_neg (by omega), if_neg (by omega), List.take_succ_eq_append_getElem h, txtL_append _ _ h1 (by simp)]
  simp

theorem txtTo_end (s : ByteArray) (l : List Tm) (h : l ≠ []) : txtL [(⟨s, l⟩ : Tm)] = txtTo s l l.length ++ [41] := by
  have hl : l.length ≠ 0 := by intro e; exact h (List.length_eq_zero_iff.1 e)
  rw [txtL_one, if_neg (by simpa using h)]
  simp [txtTo, hl]

theorem txt_nil (s : ByteArray) : txtL [(⟨s, []⟩ : Tm)] = s.data.toList := by simp [txtL]

theorem txtTo_len (s : ByteArray) (l : List Tm) (k : Nat) (hk : k ≤ l.length) : (txtTo s l k).length ≤ (txtL [(⟨s, l⟩ : Tm)]).length := by
  rw [txtL_one]
  unfold txtTo
  by_cases h0 : k = 0
  · rw [if_pos h0]; simp
  · rw [if_neg h0]
    have hl : l ≠ [] := by intro e; subst e; simp at hk; omega
    rw [if_neg (by simpa using hl)]
    by_cases hd : l.drop k = []
    · have : l.take k = l := by have h2 := List.take_append_drop k l; rw [hd] at h2; simpa using h2
      rw [this]; simp
    · have ht : l.take k ≠ [] := by
        intro e
        have h3 := congrArg List.length e
        rw [List.length_take] at h3
        simp only [List.length_nil] at h3
        have hlp := List.length_pos_iff.2 hl
        omega
      have h2 := txtL_append (l.take k) (l.drop k) ht hd
      rw [List.take_append_drop] at h2
      rw [h2]; simp only [List.length_append, List.length_cons]; omega
end Go.Proofs.YtdmaijmglblccaaGreatDoor

/- Walks: how many knots a term has. -/
namespace Go.Proofs.YtdmaijmglblccaaGreatDoor
open Go.RowKit

/-- Behind a call that makes memory: old cells and marks read as before. -/
theorem bcell {W w1 : World} {B : Nat} (hb : Below B W w1) : (∀ b o, b < B → w1.cell? ⟨b, o, none⟩ = W.cell? ⟨b, o, none⟩) ∧ (∀ b o, b < B → w1.frozen? ⟨b, o, none⟩ = W.frozen? ⟨b, o, none⟩) :=
  ⟨fun b o h => hb.cell (p := ⟨b, o, none⟩) h, fun b o h => hb.frozen (p := ⟨b, o, none⟩) h⟩

theorem sizeL_take (l : List Tm) (k : Nat) (h : k < l.length) : sizeL (l.take (k + 1)) = sizeL (l.take k) + sizeL [l[k]] := by
  rw [List.take_succ_eq_append_getElem h, sizeL_append]

theorem sizeL_take_le (l : List Tm) (k : Nat) : sizeL (l.take k) ≤ sizeL l := by
  have := sizeL_append (l.take k) (l.drop k)
  rw [List.take_append_drop] at this
  omega

theorem ret_int {k : IntKind} {a b : Int} (h : a = b) : Ending.returned (.int k a) = .returned (.int k b) := by rw [h]

/-- Behind a call whose first deed was to lay its parameter down. -/
theorem below_box {w wr : World} {o : Obj} (hb : Below (w.heap.size + 1) (w.alloc o) wr) : Below w.heap.size w wr :=
  ((Below.refl _ _).alloc (Nat.le_refl _) _).trans (hb.mono (Nat.le_succ _))

set_option maxHeartbeats 400000 in
theorem size_any (t : Tm) : ∀ (v : Value) (most : Int) (w : World) (X : Nat → Prop), TV w X v t → 0 ≤ most → most ≤ 1000000 →
    Calls Tryz.prog 12 #[v, .int .i64 most] w fun e w' => e = .returned (.int .i64 (min (sizeL [t]) (most + 1))) ∧ Below w.heap.size w w' := by
  induction t using Tm.ind with
  | h s l ih =>
    intro v most w X hv hm0 hm1
    obtain ⟨a, c, rfl, hs⟩ := hv
    have IH := hide ih
    clear ih
    go_enter Tryz.func12, Tryz.ntmps12
    go_wp2_with fail
    go_loopw [5, 6] (fun n i wr => ∃ k : Nat, k ≤ l.length ∧ i = .int .i64 k ∧ n = .int .i64 (min (1 + sizeL (l.take k)) (most + 1)) ∧ Below (w.heap.size + 1) (w.alloc (Obj.cells #[Value.string s, Value.slice a l.length c] 25)) wr) (fun n i wr => l.length - (intOf i).toNat)
    case atStart => exact ⟨0, Nat.zero_le _, rfl, by simp [sizeL]; omega, Below.refl _ _⟩
    case round =>
      obtain ⟨k, hk, rfl, rfl, hb⟩ := hrel
      have hc := bcell hb
      have c0 : wr.cell? ⟨w.heap.size, 0, none⟩ = some (.string s) := by rw [hc.1 _ _ (by omega)]; simp
      have c1 : wr.cell? ⟨w.heap.size, 1, none⟩ = some (.slice a l.length c) := by rw [hc.1 _ _ (by omega)]; simp
      have hl := hs.1
      have hn : 0 ≤ ((1 : Int) + sizeL (l.take k)) := by omega
      by_cases hlt : k < l.length
      · obtain ⟨b, o, a', c', rfl, d0, d1, hx⟩ := hs.get (((Below.refl _ _).alloc (Nat.le_refl _) _).trans (hb.mono (Nat.le_succ _))) (fun _ _ h => h) k hlt
        by_cases hle : 1 + (sizeL (l.take k) : Int) ≤ most
        · have hmin : min (1 + (sizeL (l.take k) : Int)) (most + 1) = 1 + (sizeL (l.take k) : Int) := by omega
          rw [hmin]
          go_wp2_with fail
          refine (IH.out _ (List.getElem_mem hlt) _ _ _ X hx (by omega) (by omega)).mono ?_
          rintro e w1 ⟨rfl, hb1⟩
          have hsz : w.heap.size + 1 ≤ wr.heap.size := by have := hb.size; simpa using this
          have Hst := hide (sizeL_take l k hlt)
          have hm2 : 0 ≤ min ((sizeL [l[k]] : Int)) (most - (1 + (sizeL (l.take k) : Int)) + 1) := by omega
          have hm3 : min ((sizeL [l[k]] : Int)) (most - (1 + (sizeL (l.take k) : Int)) + 1) ≤ 1000001 := by omega
          go_wp2_with fail
          go_roundw
          case rel => exact ⟨k + 1, by omega, by go_num, by rw [Hst.out]; congr 1; omega, hb.trans (hb1.mono hsz)⟩
          case measure => simp [intOf]; omega
        · have hmin : min (1 + (sizeL (l.take k) : Int)) (most + 1) = most + 1 := by omega
          rw [hmin]
          have hz : (sizeL [(⟨s, l⟩ : Tm)] : Int) = 1 + sizeL l := by simp [sizeL]
          have hle2 : sizeL (l.take k) ≤ sizeL l := sizeL_take_le l k
          have HF := hide (show (most + 1 : Int) = min (sizeL [(⟨s, l⟩ : Tm)] : Int) (most + 1) by omega)
          clear hz
          go_wp2_with fail
          go_ret
          exact ⟨ret_int HF.out, below_box hb⟩
      · have htk : l.take k = l := List.take_of_length_le (by omega)
        rw [htk]
        have hz : (sizeL [(⟨s, l⟩ : Tm)] : Int) = 1 + sizeL l := by simp [sizeL]
        have HZ := hide hz
        clear hz
        go_wp2_with fail
        · go_ret
          exact ⟨ret_int (by have := HZ.out; omega), below_box hb⟩
        · go_ret
          exact ⟨ret_int (by have := HZ.out; omega), below_box hb⟩

end Go.Proofs.YtdmaijmglblccaaGreatDoor

/- Walks: counting knots with a bound; what is wrong with a term. -/
namespace Go.Proofs.YtdmaijmglblccaaGreatDoor
open Go.RowKit
set_option linter.unusedSimpArgs false
set_option linter.unusedVariables false

theorem argsOf_any (s : ByteArray) (a : Option Addr) (n c : Nat) (w : World) :
    Calls Tryz.prog 77 #[.agg #[.string s, .slice a n c]] w fun e w' => e = .returned (.slice a n c) ∧ w' = w.alloc (.cells #[.string s, .slice a n c] 25) := by
  go_enter Tryz.func77, Tryz.ntmps77
  go_wp2_with fail
  go_ret
  exact ⟨rfl, rfl⟩

set_option maxHeartbeats 400000 in
theorem countOn_any (M : Int) (hM0 : 0 ≤ M) (hM1 : M ≤ 1000000) (t : Tm) : ∀ (v : Value) (n : Int) (w : World) (X : Nat → Prop), TV w X v t → 0 ≤ n → n ≤ M →
    Calls Tryz.prog 103 #[v, .func (.func 77) #[] #[], .int .i64 M, .int .i64 n] w fun e w' => e = .returned (.int .i64 (min (n + sizeL [t]) (M + 1))) ∧ Below w.heap.size w w' := by
  induction t using Tm.ind with
  | h s l ih =>
    intro v n w X hv hn0 hn1
    obtain ⟨a, c, rfl, hs⟩ := hv
    have IH := hide ih
    clear ih
    have hz : Hid ((sizeL [(⟨s, l⟩ : Tm)] : Int) = 1 + sizeL l) := by simp [Hid, sizeL]
    go_enter Tryz.func103, Tryz.ntmps103
    go_wp2_with (go_at_call 77; refine (argsOf_any _ _ _ _ _).mono ?_; rintro e w' ⟨rfl, rfl⟩)
    have hB0 : Hid (Below w.heap.size w ((w.alloc (Obj.cells #[Value.string s, Value.slice a l.length c] 25)).alloc (Obj.cells #[Value.string s, Value.slice a l.length c] 25))) := ((Below.refl _ _).alloc (Nat.le_refl _) _).alloc (by simp) _
    have hZ0 : Hid (w.heap.size + 2 ≤ ((w.alloc (Obj.cells #[Value.string s, Value.slice a l.length c] 25)).alloc (Obj.cells #[Value.string s, Value.slice a l.length c] 25)).heap.size) := by simp [Hid]
    generalize ((w.alloc (Obj.cells #[Value.string s, Value.slice a l.length c] 25)).alloc (Obj.cells #[Value.string s, Value.slice a l.length c] 25)) = w0 at *
    go_loopw [9, 18] (fun m i wr => ∃ k : Nat, k ≤ l.length ∧ i = .int .i64 k ∧ m = .int .i64 (min (n + 1 + sizeL (l.take k)) (M + 1)) ∧ Below w.heap.size w wr) (fun m i wr => l.length - (intOf i).toNat)
    case atStart => exact ⟨0, Nat.zero_le _, rfl, by rw [show sizeL (l.take 0) = 0 by simp [sizeL]]; congr 1; omega, hB0.out⟩
    case round =>
      obtain ⟨k, hk, rfl, rfl, hb⟩ := hrel
      have hl := hs.1
      have hsz : w.heap.size ≤ wr.heap.size := hb.size
      by_cases hlt : k < l.length
      · obtain ⟨b, o, a', c', rfl, d0, d1, hx⟩ := hs.get hb (fun _ _ h => h) k hlt
        by_cases hle : n + 1 + (sizeL (l.take k) : Int) ≤ M
        · have hmin : min (n + 1 + (sizeL (l.take k) : Int)) (M + 1) = n + 1 + (sizeL (l.take k) : Int) := by omega
          rw [hmin]
          go_wp2_with fail
          refine (IH.out _ (List.getElem_mem hlt) _ _ _ X (hx.alloc _) (by omega) (by omega)).mono ?_
          rintro e w1 ⟨rfl, hb1⟩
          have Hst := hide (sizeL_take l k hlt)
          go_wp2_with fail
          go_roundw
          case rel => exact ⟨k + 1, by omega, by go_num, by rw [Hst.out]; congr 1; omega, (hb.alloc hsz _).trans (hb1.mono (by simp; omega))⟩
          case measure => simp [intOf]; omega
        · have hmin : min (n + 1 + (sizeL (l.take k) : Int)) (M + 1) = M + 1 := by omega
          rw [hmin]
          have hle2 : sizeL (l.take k) ≤ sizeL l := sizeL_take_le l k
          go_wp2_with fail
          go_ret
          refine ⟨ret_int (by have := hz.out; omega), ?_⟩
          exact hb.alloc (by omega) _
      · have htk : l.take k = l := List.take_of_length_le (by omega)
        rw [htk]
        go_wp2_with fail
        go_ret
        exact ⟨ret_int (by have := hz.out; omega), hb⟩

theorem countT_any (M : Int) (hM0 : 0 ≤ M) (hM1 : M ≤ 1000000) (t : Tm) (v : Value) (w : World) (X : Nat → Prop) (hv : TV w X v t) :
    Calls Tryz.prog 76 #[v, .func (.func 77) #[] #[], .int .i64 M] w fun e w' => e = .returned (.int .i64 (min (sizeL [t] : Int) (M + 1))) ∧ Below w.heap.size w w' := by
  obtain ⟨a, c, rfl, hs⟩ := hv
  have hv : TV w X (.agg #[.string t.name, .slice a t.args.length c]) t := ⟨a, c, rfl, hs⟩
  go_enter Tryz.func76, Tryz.ntmps76
  go_wp2_with fail
  refine (countOn_any M hM0 hM1 t _ _ _ X (hv.alloc _) (by omega) (by omega)).mono ?_
  rintro e w1 ⟨rfl, hb1⟩
  go_wp2_with fail
  go_ret
  exact ⟨ret_int (by omega), ((Below.refl _ _).alloc (Nat.le_refl _) _).trans (hb1.mono (by simp))⟩

theorem count_any (M : Int) (hM0 : 0 ≤ M) (hM1 : M ≤ 1000000) (t : Tm) (v : Value) (w : World) (X : Nat → Prop) (hv : TV w X v t) :
    Calls Tryz.prog 59 #[v, .int .i64 M] w fun e w' => e = .returned (.int .i64 (min (sizeL [t] : Int) (M + 1))) ∧ Below w.heap.size w w' := by
  obtain ⟨a, c, rfl, hs⟩ := hv
  have hv : TV w X (.agg #[.string t.name, .slice a t.args.length c]) t := ⟨a, c, rfl, hs⟩
  go_enter Tryz.func59, Tryz.ntmps59
  go_wp2_with fail
  refine (countT_any M hM0 hM1 t _ _ X (hv.alloc _)).mono ?_
  rintro e w1 ⟨rfl, hb1⟩
  go_wp2_with fail
  go_ret
  exact ⟨ret_int (by omega), ((Below.refl _ _).alloc (Nat.le_refl _) _).trans (hb1.mono (by simp))⟩

/-- What is wrong, knot by knot: 0 nothing, 1 no name, 2 a variable with terms below it. -/
def errL : List Tm → Int
  | [] => 0
  | ⟨s, l⟩ :: r => if nameB s = true then (if (varB s && decide (0 < l.length)) = true then 2 else if errL l = 0 then errL r else errL l) else 1

theorem errL_cons (t : Tm) (r : List Tm) : errL (t :: r) = if errL [t] = 0 then errL r else errL [t] := by
  obtain ⟨s, l⟩ := t
  simp only [errL]
  split
  · split
    · simp
    · split <;> simp_all
  · simp

theorem errL_append (a b : List Tm) : errL (a ++ b) = if errL a = 0 then errL b else errL a := by
  induction a with
  | nil => simp [errL]
  | cons t r ih =>
    rw [List.cons_append, errL_cons, errL_cons t r, ih]
    by_cases h : errL [t] = 0 <;> simp [h]

theorem errL_take (l : List Tm) (k : Nat) (h : k < l.length) : errL (l.take (k + 1)) = if errL (l.take k) = 0 then errL [l[k]] else errL (l.take k) := by
  rw [List.take_succ_eq_append_getElem h, errL_append]

theorem errL_of_take {l : List Tm} {k : Nat} (h : errL (l.take k) ≠ 0) : errL l = errL (l.take k) := by
  have := errL_append (l.take k) (l.drop k)
  rw [List.take_append_drop, if_neg h] at this
  exact this

theorem name_pos {s : ByteArray} (h : nameB s = true) : 0 < s.size := by
  simp [nameB] at h; omega

set_option maxHeartbeats 400000 in
theorem checkKnots_any (t : Tm) : ∀ (v : Value) (w : World) (X : Nat → Prop), TV w X v t →
    Calls Tryz.prog 60 #[v] w fun e w' => e = .returned (.int .i64 (errL [t])) ∧ Below w.heap.size w w' := by
  induction t using Tm.ind with
  | h s l ih =>
    intro v w X hv
    obtain ⟨a, c, rfl, hs⟩ := hv
    have IH := hide ih
    clear ih
    have hl := hs.1
    cases hn : nameB s with
    | false =>
      have hz : Hid (1 = errL [(⟨s, l⟩ : Tm)]) := by simp [Hid, errL, hn]
      have HN := hide hn
      clear hn
      go_enter Tryz.func60, Tryz.ntmps60
      go_wp2_with (go_at_call 75; refine (isName_any _ _).mono ?_; rintro e w' ⟨rfl, rfl⟩; rw [HN.out])
      go_ret
      exact ⟨ret_int hz.out, (Below.refl _ _).alloc (Nat.le_refl _) _⟩
    | true =>
      have HN := hide hn
      have hpos := name_pos hn
      by_cases hvl : varB s = true ∧ 0 < l.length
      · obtain ⟨hv, hlp⟩ := hvl
        have hz : Hid (2 = errL [(⟨s, l⟩ : Tm)]) := by simp [Hid, errL, hn, hv, hlp]
        have HV := hide hv
        clear hn hv
        go_enter Tryz.func60, Tryz.ntmps60
        go_wp2_with (first | (go_at_call 75; refine (isName_any _ _).mono ?_; rintro e w' ⟨rfl, rfl⟩; rw [HN.out]) | (go_at_call 52; refine (isVariable_any _ _ hpos).mono ?_; rintro e w' ⟨rfl, rfl⟩; rw [HV.out]))
        go_ret
        exact ⟨ret_int hz.out, (Below.refl _ _).alloc (Nat.le_refl _) _⟩
      · have hz : Hid (errL [(⟨s, l⟩ : Tm)] = errL l) := by
          have : (varB s && decide (0 < l.length)) = false := by
            rw [Bool.eq_false_iff]; intro h; simp at h; exact hvl ⟨h.1, by omega⟩
          simp only [Hid, errL, hn, this]
          by_cases h0 : errL l = 0 <;> simp [h0]
        have hcase : (varB s = true ∧ l.length < 1) ∨ varB s = false := by
          cases hv : varB s with
          | true => exact Or.inl ⟨rfl, by apply Classical.byContradiction; intro h; exact hvl ⟨hv, by omega⟩⟩
          | false => exact Or.inr rfl
        clear hn hvl
        rcases hcase with ⟨hv, hl0⟩ | hv
        · have e0 : l = [] := List.length_eq_zero_iff.1 (by omega)
          subst e0
          have HV := hide hv
          clear hv
          go_enter Tryz.func60, Tryz.ntmps60
          go_wp2_with (first | (go_at_call 75; refine (isName_any _ _).mono ?_; rintro e w' ⟨rfl, rfl⟩; rw [HN.out]) | (go_at_call 52; refine (isVariable_any _ _ hpos).mono ?_; rintro e w' ⟨rfl, rfl⟩; rw [HV.out]))
          go_loop [22] (fun i => i = .int .i64 0) (fun i => 0)
          case atStart => rfl
          case round =>
            subst hrel
            have HZ : Hid (0 = errL [(⟨s, []⟩ : Tm)]) := by unfold Hid; rw [hz.out]; simp [errL]
            go_wp2_with fail
            go_ret
            exact ⟨ret_int HZ.out, (Below.refl _ _).alloc (Nat.le_refl _) _⟩
        · have HV := hide hv
          clear hv
          go_enter Tryz.func60, Tryz.ntmps60
          go_wp2_with (first | (go_at_call 75; refine (isName_any _ _).mono ?_; rintro e w' ⟨rfl, rfl⟩; rw [HN.out]) | (go_at_call 52; refine (isVariable_any _ _ hpos).mono ?_; rintro e w' ⟨rfl, rfl⟩; rw [HV.out]))
          go_loopw [22] (fun i wr => ∃ k : Nat, k ≤ l.length ∧ i = .int .i64 k ∧ errL (l.take k) = 0 ∧ Below (w.heap.size + 1) (w.alloc (Obj.cells #[Value.string s, Value.slice a l.length c] 25)) wr) (fun i wr => l.length - (intOf i).toNat)
          case atStart => exact ⟨0, Nat.zero_le _, rfl, by simp [errL], Below.refl _ _⟩
          case round =>
            obtain ⟨k, hk, rfl, he, hb⟩ := hrel
            have HE := hide he
            clear he
            have hsz : w.heap.size + 1 ≤ wr.heap.size := by have := hb.size; simpa using this
            by_cases hlt : k < l.length
            · obtain ⟨b, o, a', c', rfl, d0, d1, hx⟩ := hs.get (below_box hb) (fun _ _ h => h) k hlt
              have HT := hide (errL_take l k hlt)
              go_wp2_with fail
              refine (IH.out _ (List.getElem_mem hlt) _ _ X (hx.alloc _)).mono ?_
              rintro e w1 ⟨rfl, hb1⟩
              by_cases hez : errL [l[k]] = 0
              · have HZ := hide hez
                rw [hez]
                clear hez
                go_wp2_with fail
                go_roundw
                case rel => exact ⟨k + 1, by omega, by go_num, by rw [HT.out, HE.out, HZ.out]; rfl, (hb.alloc hsz _).trans (hb1.mono (by simp; omega))⟩
                case measure => simp [intOf]; omega
              · have hez' : (errL [l[k]] == 0) = false := by simpa using hez
                have HZ : Hid (errL [l[k]] = errL [(⟨s, l⟩ : Tm)]) := by
                  have h1 : errL (l.take (k + 1)) = errL [l[k]] := by rw [HT.out, HE.out]; rfl
                  unfold Hid
                  rw [hz.out, errL_of_take (l := l) (k := k + 1) (by rw [h1]; exact hez), h1]
                go_wp2_with fail
                go_ret
                exact ⟨ret_int HZ.out, ((below_box hb).alloc (by omega) _).trans (hb1.mono (by simp; omega))⟩
            · have htk : l.take k = l := List.take_of_length_le (by omega)
              have HZ : Hid (0 = errL [(⟨s, l⟩ : Tm)]) := by unfold Hid; rw [hz.out, ← htk, HE.out]
              go_wp2_with fail
              go_ret
              exact ⟨ret_int HZ.out, below_box hb⟩

/-- What is wrong with a term. -/
def mayE (t : Tm) : Int := if 200 < sizeL [t] then 3 else errL [t]

set_option maxHeartbeats 400000 in
theorem check_any (t : Tm) (v : Value) (w : World) (X : Nat → Prop) (hv : TV w X v t) :
    Calls Tryz.prog 45 #[v] w fun e w' => e = .returned (.int .i64 (mayE t)) ∧ Below w.heap.size w w' := by
  obtain ⟨a, c, rfl, hs⟩ := hv
  have hv : TV w X (.agg #[.string t.name, .slice a t.args.length c]) t := ⟨a, c, rfl, hs⟩
  go_enter Tryz.func45, Tryz.ntmps45
  go_wp2_with fail
  refine (count_any 200 (by omega) (by omega) t _ _ X (hv.alloc _)).mono ?_
  rintro e w1 ⟨rfl, hb1⟩
  have c0 : w1.cell? ⟨w.heap.size, 0, none⟩ = some (.string t.name) := by rw [hb1.cell (p := ⟨_, _, none⟩) (by simp)]; simp
  have c1 : w1.cell? ⟨w.heap.size, 1, none⟩ = some (.slice a t.args.length c) := by rw [hb1.cell (p := ⟨_, _, none⟩) (by simp)]; simp
  have hb2 : Below w.heap.size w w1 := ((Below.refl _ _).alloc (Nat.le_refl _) _).trans (hb1.mono (by simp))
  by_cases h : 200 < sizeL [t]
  · have hm : Hid (3 = mayE t) := by simp [Hid, mayE, h]
    have e : min (sizeL [t] : Int) (200 + 1) = 201 := by omega
    rw [e]
    go_wp2_with fail
    go_ret
    exact ⟨ret_int hm.out, hb2⟩
  · have hm : Hid (errL [t] = mayE t) := by simp [Hid, mayE, h]
    have e : min (sizeL [t] : Int) (200 + 1) = sizeL [t] := by omega
    rw [e]
    go_wp2_with fail
    refine (checkKnots_any t _ _ X (hv.later hb2)).mono ?_
    rintro e w2 ⟨rfl, hb3⟩
    go_wp2_with fail
    go_ret
    exact ⟨ret_int hm.out, hb2.trans (hb3.mono hb2.size)⟩
end Go.Proofs.YtdmaijmglblccaaGreatDoor

/- Bindings in memory. -/
namespace Go.Proofs.YtdmaijmglblccaaGreatDoor
open Go.RowKit
set_option linter.unusedSimpArgs false
set_option linter.unusedVariables false

/-- A variable and what stands for it. -/
structure Bd where
  nm : ByteArray
  t : Tm

/-- A list of bindings in memory. -/
def BV (w : World) (X : Nat → Prop) (v : Value) (l : List Bd) : Prop :=
  ∃ a c, v = .slice a l.length c ∧ (l.length ≤ 9223372036854775807 ∧ l.length ≤ c) ∧ (l = [] ∨ ∃ b o, a = some ⟨b, o, none⟩ ∧ X b ∧ ∀ i (h : i < l.length), w.cell? ⟨b, o + i * 3, none⟩ = some (.string l[i].nm) ∧ w.cell? ⟨b, o + i * 3 + 1, none⟩ = some (.string l[i].t.name) ∧ ∃ a' c', w.cell? ⟨b, o + i * 3 + 2, none⟩ = some (.slice a' l[i].t.args.length c') ∧ Sl w X a' l[i].t.args)

theorem BV.kept {w w' : World} {X : Nat → Prop} {v : Value} {l : List Bd} (h : BV w X v l) (hk : ∀ b, X b → w'.heap[b]? = w.heap[b]?) : BV w' X v l := by
  obtain ⟨a, c, e, hl, h⟩ := h
  refine ⟨a, c, e, hl, ?_⟩
  rcases h with h | ⟨b, o, ea, hX, h⟩
  · exact Or.inl h
  · refine Or.inr ⟨b, o, ea, hX, fun i hi => ?_⟩
    obtain ⟨h1, h2, a', c', h3, h4⟩ := h i hi
    have hb := hk b hX
    exact ⟨by simpa [World.cell?, hb] using h1, by simpa [World.cell?, hb] using h2, a', c', by simpa [World.cell?, hb] using h3, h4.kept hk⟩
theorem cell_lt {w : World} {b o : Nat} {v : Value} (h : w.cell? ⟨b, o, none⟩ = some v) : b < w.heap.size := by
  rcases Nat.lt_or_ge b w.heap.size with h' | h'
  · exact h'
  · simp [World.cell?, Array.getElem?_eq_none h'] at h
theorem BV.mono {w : World} {X Y : Nat → Prop} {v : Value} {l : List Bd} (h : BV w X v l) (hk : ∀ b, X b → b < w.heap.size → Y b) : BV w Y v l := by
  obtain ⟨a, c, e, hl, h⟩ := h
  refine ⟨a, c, e, hl, ?_⟩
  rcases h with h | ⟨b, o, ea, hX, h⟩
  · exact Or.inl h
  · by_cases h0 : l = []
    · exact Or.inl h0
    · have hp : 0 < l.length := List.length_pos_iff.2 h0
      refine Or.inr ⟨b, o, ea, hk b hX (cell_lt (h 0 hp).1), fun i hi => ?_⟩
      obtain ⟨h1, h2, a', c', h3, h4⟩ := h i hi
      exact ⟨h1, h2, a', c', h3, h4.mono hk⟩
theorem BV.later {w w' : World} {X : Nat → Prop} {v : Value} {l : List Bd} (h : BV w X v l) (hb : Below w.heap.size w w') : BV w' X v l :=
  ((h.mono (Y := fun b => X b ∧ b < w.heap.size) fun b h1 h2 => ⟨h1, h2⟩).kept fun b hx => hb.block b hx.2).mono fun b hx _ => hx.1
theorem BV.alloc {w : World} {X : Nat → Prop} {v : Value} {l : List Bd} (h : BV w X v l) (o : Obj) : BV (w.alloc o) X v l := h.later ((Below.refl _ _).alloc (Nat.le_refl _) o)
theorem BV.get {w : World} {X : Nat → Prop} {a : Option Addr} {n c : Nat} {l : List Bd} (h : BV w X (.slice a n c) l) (i : Nat) (hi : i < l.length) :
    ∃ b o a' c', a = some ⟨b, o, none⟩ ∧ w.cell? ⟨b, o + i * 3, none⟩ = some (.string l[i].nm) ∧ w.cell? ⟨b, o + i * 3 + 1, none⟩ = some (.string l[i].t.name) ∧ w.cell? ⟨b, o + i * 3 + 2, none⟩ = some (.slice a' l[i].t.args.length c') ∧ Sl w X a' l[i].t.args := by
  obtain ⟨a2, c2, e, hl, h⟩ := h
  simp at e
  obtain ⟨rfl, rfl, rfl⟩ := e
  rcases h with h | ⟨b, o, ea, hX, h⟩
  · subst h; simp at hi
  · obtain ⟨h1, h2, a', c', h3, h4⟩ := h i hi
    exact ⟨b, o, a', c', ea, h1, h2, h3, h4⟩

theorem bytes_inj {a b : ByteArray} (h : a.toList = b.toList) : a = b := by
  rw [ByteArray.toList_eq, ByteArray.toList_eq] at h
  cases a with
  | mk x =>
    cases b with
    | mk y => congr 1; exact Array.toList_inj.1 h
end Go.Proofs.YtdmaijmglblccaaGreatDoor

/- Walks: all knots of a term. -/
namespace Go.Proofs.YtdmaijmglblccaaGreatDoor
open Go.RowKit
set_option linter.unusedSimpArgs false
set_option linter.unusedVariables false

theorem Tryz.infoTerm : (Tryz.prog.info? 25).map (fun i => (i.zero, i.size, i.bytes)) = some (some (.agg #[.string ByteArray.empty, .slice none 0 0]), 2, 40) := by kernel_rfl

theorem ownsRow_base {w : World} {base base' e size : Nat} {v : Value} {n : Nat} {xs : List Value} (h : w.ownsRow base e size v n xs) (hb : base' ≤ base) : w.ownsRow base' e size v n xs := by
  obtain ⟨h0, h1⟩ := h
  refine ⟨h0, ?_⟩
  rcases h1 with h1 | ⟨g, cap, cur, hv, hg, r⟩
  · exact Or.inl h1
  · exact Or.inr ⟨g, cap, cur, hv, Nat.le_trans hb hg, r⟩

set_option maxHeartbeats 400000 in
theorem knots_any (t : Tm) : ∀ (v : Value) (w : World) (X : Nat → Prop), TV w X v t → sizeL [t] ≤ 1000000 →
    Calls Tryz.prog 11 #[v] w fun e w' => ∃ v' xs, e = .returned v' ∧ w'.ownsRow w.heap.size 25 2 v' (sizeL [t]) xs ∧ RowT w X (preL [t]) xs ∧ Below w.heap.size w w' := by
  induction t using Tm.ind with
  | h s l ih =>
    intro v w X0 hv0 hsm
    obtain ⟨X, hX, hXX, hv⟩ : ∃ X : Nat → Prop, (∀ b, X b → b < w.heap.size) ∧ (∀ b, X b → X0 b) ∧ TV w X v ⟨s, l⟩ := ⟨fun b => X0 b ∧ b < w.heap.size, fun _ h => h.2, fun _ h => h.1, hv0.mono fun b h1 h2 => ⟨h1, h2⟩⟩
    clear hv0
    obtain ⟨a, c, rfl, hs⟩ := hv
    have IH := hide ih
    clear ih
    have hl := hs.1
    have hz : sizeL [(⟨s, l⟩ : Tm)] = 1 + sizeL l := by simp [sizeL]
    rw [hz] at hsm ⊢
    clear hz
    obtain ⟨i0, hi, hz0, hz1, hz2⟩ := info_parts Tryz.infoTerm
    go_enter Tryz.func11, Tryz.ntmps11
    go_wp2_with fail
    go_loopw [3, 4] (fun v i wr => ∃ (k : Nat) (xs : List Value), k ≤ l.length ∧ i = .int .i64 k ∧ wr.ownsRow (w.heap.size + 1) 25 2 v (1 + sizeL (l.take k)) xs ∧ RowT w X (⟨s, l⟩ :: preL (l.take k)) xs ∧ Below (w.heap.size + 1) (w.alloc (Obj.cells #[Value.string s, Value.slice a l.length c] 25)) wr) (fun v i wr => l.length - (intOf i).toNat)
    case atStart =>
      refine ⟨0, [.string s, .slice a l.length c], Nat.zero_le _, rfl, ⟨by simp [sizeL], Or.inr ⟨w.heap.size + 1, 1, #[.string s, .slice a l.length c], by simp [sizeL], Nat.le_refl _, ?_, by simp [sizeL], by decide, by simp, by simp [sizeL]⟩⟩, ⟨a, c, [], rfl, hs, by simp [preL, RowT]⟩, (Below.refl _ _).alloc (by simp) _⟩
      have := heap_alloc_new (w.alloc (Obj.cells #[Value.string s, Value.slice a l.length c] 25)) (Obj.cells #[Value.string s, Value.slice a l.length c] 25)
      simpa using this
    case round =>
      obtain ⟨k, xs, hk, rfl, hown, hrow, hb⟩ := hrel
      have HROW := hide hrow
      clear hrow
      have hc := bcell hb
      have c0 : wr.cell? ⟨w.heap.size, 0, none⟩ = some (.string s) := by rw [hc.1 _ _ (by omega)]; simp
      have c1 : wr.cell? ⟨w.heap.size, 1, none⟩ = some (.slice a l.length c) := by rw [hc.1 _ _ (by omega)]; simp
      clear hc
      have hsz : w.heap.size + 1 ≤ wr.heap.size := by have := hb.size; simpa using this
      by_cases hlt : k < l.length
      · obtain ⟨b, o, a', c', rfl, d0, d1, hx⟩ := hs.get (below_box hb) (fun _ _ h => h) k hlt
        have Hst := hide (sizeL_take l k hlt)
        have hle := sizeL_take_le l (k + 1)
        have hle1 : sizeL (l.take k) + sizeL [l[k]] ≤ sizeL l := by rw [← Hst.out]; exact hle
        have hpos : 0 < sizeL [l[k]] := by generalize l[k] = t; obtain ⟨s', l'⟩ := t; simp [sizeL]; omega
        clear hle
        go_wp2_with fail
        refine (IH.out _ (List.getElem_mem hlt) _ _ X hx (by omega)).mono ?_
        rintro e w1 ⟨v1, ys, rfl, hown1, hrow1, hb1⟩
        have HROW1 : Hid (RowT w X (preL [l[k]]) ys) := hrow1.imp fun a l h => h.back (below_box hb) hX
        have hlen1 := hide hown1.1
        have hcells := hide (owned_val hown1 hpos)
        obtain ⟨g1, cap1, rfl, hg1, hg1', hcel⟩ := hcells.out
        have hownw1 : w1.ownsRow (w.heap.size + 1) 25 2 _ (1 + sizeL (l.take k)) xs := hown.kept (w' := w1) (row := none) ⟨hb1.os, hb1.tape, hb1.output, hb1.size, fun j hj _ => hb1.block j hj⟩ (by rcases Option.eq_none_or_eq_some (Value.ownBlock _) with h | ⟨x, h⟩; exact Or.inl h; exact Or.inr (by rw [h]; simp))
        have hyl : ys.length = sizeL [l[k]] * 2 := hlen1.out
        obtain ⟨v2, w2, hr2, hown2, hgr2, hnil2⟩ := run_append_own (P := Tryz.prog) w1 (w.heap.size + 1) 23 23 25 i0 _ 2 40 Tryz.underlying23 hi hz0 hz1 hz2 rfl (by decide) _ _ xs hownw1
          ⟨g1, 0, none⟩ (sizeL [l[k]]) cap1 ys hyl (fun j u hj => by
            have := hcel j u hj
            by_cases h0 : j = 0
            · subst h0; simpa [Addr.add] using this
            · simpa [Addr.add, h0] using this) HROW1.out.one (by unfold maxLen; omega) (by omega) (by have := hb1.size; omega)
        clear hnil2
        have hb2 : Hid (Below (w.heap.size + 1) (w.alloc (Obj.cells #[Value.string s, Value.slice (some ⟨b, o, none⟩) l.length c] 25)) w2) :=
          (hb.trans (hb1.mono hsz)).grown hgr2 (by have := hb1.size; omega) (fun j hj => (hownw1.lt j hj).1)
        have HR2 : Hid (RowT w X (⟨s, l⟩ :: preL (l.take (k + 1))) (xs ++ ys)) := by
          have := HROW.out.append HROW1.out
          unfold Hid
          rw [preL_take l k hlt]
          simpa using this
        have hown3 := hide hown2
        clear hown1 hownw1 hown2 hgr2 hcel hyl
        have HA := hide hr2
        clear hr2
        go_wp2_with (at_builtin; refine wpList_append_eq rfl _ _ _ _ rfl rfl rfl HA.out ?_)
        go_roundw
        case rel => exact ⟨k + 1, xs ++ ys, by omega, by go_num, by have := hown3.out; rw [Hst.out, ← Nat.add_assoc]; exact this, HR2.out, hb2.out⟩
        case measure => simp [intOf]; omega
      · have htk : l.take k = l := List.take_of_length_le (by omega)
        rw [htk] at hown
        have hown3 := hide hown
        have hr3 : Hid (RowT w X0 (preL [(⟨s, l⟩ : Tm)]) xs) := by
          have := HROW.out
          rw [htk] at this
          have h2 : RowT w X0 (⟨s, l⟩ :: preL l) xs := this.imp fun a l h => h.mono fun b hb _ => hXX b hb
          unfold Hid
          simpa [preL] using h2
        clear hown
        go_wp2_with fail
        go_ret
        exact ⟨_, xs, rfl, ownsRow_base hown3.out (by omega), hr3.out, below_box hb⟩
end Go.Proofs.YtdmaijmglblccaaGreatDoor

/- Walks: what the document says of a term. -/
namespace Go.Proofs.YtdmaijmglblccaaGreatDoor
open Go.RowKit
set_option linter.unusedSimpArgs false
set_option linter.unusedVariables false

def kErr (t : Tm) : Int := if nameB t.name = true then (if (varB t.name && decide (0 < t.args.length)) = true then 2 else 0) else 1
def errP : List Tm → Int
  | [] => 0
  | t :: r => if kErr t = 0 then errP r else kErr t
theorem errP_append (a b : List Tm) : errP (a ++ b) = if errP a = 0 then errP b else errP a := by
  induction a with
  | nil => simp [errP]
  | cons t r ih => simp only [List.cons_append, errP, ih]; by_cases h : kErr t = 0 <;> simp [h]
theorem errL_preL (l : List Tm) : errL l = errP (preL l) := by
  induction l using Tm.indL with
  | h0 => simp [errL, preL, errP]
  | h s l r ihl ihr =>
    simp only [errL, preL, errP, errP_append, ← ihl, ← ihr, kErr]
    by_cases h1 : nameB s = true
    · by_cases h2 : (varB s && decide (0 < l.length)) = true
      · simp only [h1, h2, if_true]; simp
      · simp only [h1, if_true]; rw [if_neg h2, if_neg h2]; simp
    · rw [if_neg h1, if_neg h1]; simp
theorem errP_take (l : List Tm) (k : Nat) (h : k < l.length) : errP (l.take (k + 1)) = if errP (l.take k) = 0 then kErr l[k] else errP (l.take k) := by
  rw [List.take_succ_eq_append_getElem h, errP_append]
  congr 1
  simp only [errP]
  by_cases h : kErr l[k] = 0 <;> simp [h]
theorem errP_of_take {l : List Tm} {k : Nat} (h : errP (l.take k) ≠ 0) : errP l = errP (l.take k) := by
  have := errP_append (l.take k) (l.drop k)
  rw [List.take_append_drop, if_neg h] at this
  exact this
theorem errP_at {l : List Tm} {k : Nat} (h : k < l.length) (h0 : errP (l.take k) = 0) (h1 : kErr l[k] ≠ 0) : errP l = kErr l[k] := by
  have e := errP_take l k h
  rw [if_pos h0] at e
  rw [← e]
  exact errP_of_take (by rw [e]; exact h1)

set_option maxHeartbeats 400000 in
theorem termMay_any (t : Tm) (v : Value) (w : World) (X : Nat → Prop) (hv : TV w X v t) :
    Calls Tryz.prog 9 #[v] w fun e w' => e = .returned (.int .i64 (mayE t)) ∧ Below w.heap.size w w' := by
  obtain ⟨a, c, rfl, hs⟩ := hv
  have hv : TV w X (.agg #[.string t.name, .slice a t.args.length c]) t := ⟨a, c, rfl, hs⟩
  go_enter Tryz.func9, Tryz.ntmps9
  go_wp2_with fail
  refine (size_any t _ _ _ X (hv.alloc _) (by omega) (by omega)).mono ?_
  rintro e w1 ⟨rfl, hb1⟩
  have c0 : w1.cell? ⟨w.heap.size, 0, none⟩ = some (.string t.name) := by rw [hb1.cell (p := ⟨_, _, none⟩) (by simp)]; simp
  have c1 : w1.cell? ⟨w.heap.size, 1, none⟩ = some (.slice a t.args.length c) := by rw [hb1.cell (p := ⟨_, _, none⟩) (by simp)]; simp
  have hb2 : Below w.heap.size w w1 := ((Below.refl _ _).alloc (Nat.le_refl _) _).trans (hb1.mono (by simp))
  by_cases h : 200 < sizeL [t]
  · have hm : Hid (3 = mayE t) := by simp [Hid, mayE, h]
    have e : min ((sizeL [t] : Int)) (200 + 1) = 201 := by omega
    rw [e]
    go_wp2_with fail
    go_ret
    exact ⟨ret_int hm.out, hb2⟩
  · have hm : Hid (errP (preL [t]) = mayE t) := by simp [Hid, mayE, h, errL_preL]
    have e : min ((sizeL [t] : Int)) (200 + 1) = sizeL [t] := by omega
    rw [e]
    go_wp2_with fail
    refine (knots_any t _ _ X (hv.later hb2) (by omega)).mono ?_
    rintro e w2 ⟨v2, xs, rfl, hown, hrow, hb3⟩
    have hpos : 0 < sizeL [t] := by obtain ⟨s', l'⟩ := t; simp [sizeL]; omega
    obtain ⟨g, cap, rfl, hg, hg', hcel⟩ := owned_val hown hpos
    have hb4 := hide (hb2.trans (hb3.mono hb2.size))
    have HROW := hide hrow
    have HCEL := hide hcel
    have hpl := preL_length [t]
    generalize preL [t] = ks at *
    have hks : ks.length ≤ 1000 := by omega
    rw [← hpl]
    clear hown hrow hcel hb3 hb1 c0 c1 hpl hpos e
    go_wp2_with fail
    go_loop [4] (fun i => ∃ k : Nat, k ≤ ks.length ∧ i = .int .i64 k ∧ errP (ks.take k) = 0) (fun i => ks.length - (intOf i).toNat)
    case atStart => exact ⟨0, Nat.zero_le _, rfl, by simp [errP]⟩
    case round =>
      obtain ⟨k, hk, rfl, he⟩ := hrel
      have HE := hide he
      clear he
      by_cases hlt : k < ks.length
      · obtain ⟨x0, a', c', x1, hsl⟩ := HROW.out.get k hlt
        have d0 := HCEL.out _ _ x0
        have d1 := HCEL.out _ _ x1
        have hl1 := hsl.1
        clear x0 x1
        cases hn : nameB ks[k].name with
        | false =>
          have HN := hide hn
          have hz : Hid (1 = mayE t) := by
            have : kErr ks[k] = 1 := by simp [kErr, hn]
            unfold Hid; rw [← hm.out, errP_at hlt HE.out (by rw [this]; decide), this]
          clear hn
          go_wp2_with (go_at_call 25; refine (isNameR_any _ _).mono ?_; rintro e w' ⟨rfl, rfl⟩; rw [HN.out])
          go_ret
          exact ⟨ret_int hz.out, hb4.out⟩
        | true =>
          have HN := hide hn
          cases hv : varB ks[k].name with
          | true =>
            have HV := hide hv
            by_cases hp : 0 < ks[k].args.length
            · have hz : Hid (2 = mayE t) := by
                have : kErr ks[k] = 2 := by simp [kErr, hn, hv, hp]
                unfold Hid; rw [← hm.out, errP_at hlt HE.out (by rw [this]; decide), this]
              clear hn hv
              go_wp2_with (first | (go_at_call 25; refine (isNameR_any _ _).mono ?_; rintro e w' ⟨rfl, rfl⟩; rw [HN.out]) | (go_at_call 26; refine (isVarR_any _ _).mono ?_; rintro e w' ⟨rfl, rfl⟩; rw [HV.out]))
              go_ret
              exact ⟨ret_int hz.out, hb4.out⟩
            · have hz : Hid (errP (ks.take (k + 1)) = 0) := by
                have : kErr ks[k] = 0 := by simp [kErr, hn, hv, hp]
                unfold Hid; rw [errP_take _ _ hlt, HE.out, this]; rfl
              clear hn hv
              go_wp2_with (first | (go_at_call 25; refine (isNameR_any _ _).mono ?_; rintro e w' ⟨rfl, rfl⟩; rw [HN.out]) | (go_at_call 26; refine (isVarR_any _ _).mono ?_; rintro e w' ⟨rfl, rfl⟩; rw [HV.out]))
              go_round
              case rel => exact ⟨k + 1, by omega, by go_num, hz.out⟩
              case measure => simp [intOf]; omega
          | false =>
            have HV := hide hv
            have hz : Hid (errP (ks.take (k + 1)) = 0) := by
              have : kErr ks[k] = 0 := by simp [kErr, hn, hv]
              unfold Hid; rw [errP_take _ _ hlt, HE.out, this]; rfl
            clear hn hv
            go_wp2_with (first | (go_at_call 25; refine (isNameR_any _ _).mono ?_; rintro e w' ⟨rfl, rfl⟩; rw [HN.out]) | (go_at_call 26; refine (isVarR_any _ _).mono ?_; rintro e w' ⟨rfl, rfl⟩; rw [HV.out]))
            go_round
            case rel => exact ⟨k + 1, by omega, by go_num, hz.out⟩
            case measure => simp [intOf]; omega
      · have htk : ks.take k = ks := List.take_of_length_le (by omega)
        have hz : Hid (0 = mayE t) := by unfold Hid; rw [← hm.out, ← htk, HE.out]
        go_wp2_with fail
        go_ret
        exact ⟨ret_int hz.out, hb4.out⟩

/-- What is wrong with the first, else with the second. -/
def twoE (t x : Tm) : Int := if mayE t = 0 then mayE x else mayE t

set_option maxHeartbeats 400000 in
theorem twoMay_any (t x : Tm) (v u : Value) (w : World) (X : Nat → Prop) (hv : TV w X v t) (hu : TV w X u x) :
    Calls Tryz.prog 41 #[v, u] w fun e w' => e = .returned (.int .i64 (twoE t x)) ∧ Below w.heap.size w w' := by
  obtain ⟨a, c, rfl, hs⟩ := hv
  obtain ⟨a2, c2, rfl, hs2⟩ := hu
  have hv : TV w X (.agg #[.string t.name, .slice a t.args.length c]) t := ⟨a, c, rfl, hs⟩
  have hu : TV w X (.agg #[.string x.name, .slice a2 x.args.length c2]) x := ⟨a2, c2, rfl, hs2⟩
  go_enter Tryz.func41, Tryz.ntmps41
  go_wp2_with fail
  refine (termMay_any t _ _ X ((hv.alloc _).alloc _)).mono ?_
  rintro e w1 ⟨rfl, hb1⟩
  have c0 : w1.cell? ⟨w.heap.size + 1, 0, none⟩ = some (.string x.name) := by rw [hb1.cell (p := ⟨_, _, none⟩) (by simp)]; simp
  have c1 : w1.cell? ⟨w.heap.size + 1, 1, none⟩ = some (.slice a2 x.args.length c2) := by rw [hb1.cell (p := ⟨_, _, none⟩) (by simp)]; simp
  have hb2 : Below w.heap.size w w1 := (((Below.refl _ _).alloc (Nat.le_refl _) _).alloc (by simp) _).trans (hb1.mono (by simp; omega))
  by_cases h : mayE t = 0
  · have hz : Hid (mayE x = twoE t x) := by simp [Hid, twoE, h]
    rw [h]
    clear h
    go_wp2_with fail
    refine (termMay_any x _ _ X (hu.later hb2)).mono ?_
    rintro e w2 ⟨rfl, hb3⟩
    go_wp2_with fail
    go_ret
    exact ⟨ret_int hz.out, hb2.trans (hb3.mono hb2.size)⟩
  · have hz : Hid (mayE t = twoE t x) := by simp [Hid, twoE, h]
    have h' : (mayE t == 0) = false := by simpa using h
    clear h
    go_wp2_with fail
    go_ret
    exact ⟨ret_int hz.out, hb2⟩

set_option maxHeartbeats 400000 in
theorem huge_any (t : Tm) (v : Value) (w : World) (X : Nat → Prop) (hv : TV w X v t) :
    Calls Tryz.prog 7 #[v] w fun e w' => e = .returned (.bool (decide (3000 < sizeL [t]))) ∧ Below w.heap.size w w' := by
  obtain ⟨a, c, rfl, hs⟩ := hv
  have hv : TV w X (.agg #[.string t.name, .slice a t.args.length c]) t := ⟨a, c, rfl, hs⟩
  go_enter Tryz.func7, Tryz.ntmps7
  go_wp2_with fail
  refine (size_any t _ _ _ X (hv.alloc _) (by omega) (by omega)).mono ?_
  rintro e w1 ⟨rfl, hb1⟩
  have hb2 : Below w.heap.size w w1 := ((Below.refl _ _).alloc (Nat.le_refl _) _).trans (hb1.mono (by simp))
  go_wp2_with fail
  go_ret
  exact ⟨ret_bool (by rw [Bool.eq_iff_iff]; simp; omega), hb2⟩
end Go.Proofs.YtdmaijmglblccaaGreatDoor

/- But for one block the world is as it was. -/
namespace Go.Proofs.YtdmaijmglblccaaGreatDoor
open Go.RowKit
set_option linter.unusedSimpArgs false
set_option linter.unusedVariables false
set_option maxRecDepth 8000

/-- But for block B the world is as it was. -/
structure Ex (B : Nat) (w w' : World) : Prop where
  os : w'.os = w.os
  tape : w'.tape = w.tape
  output : w'.output = w.output
  size : w.heap.size ≤ w'.heap.size
  block : ∀ k, k < w.heap.size → k ≠ B → w'.heap[k]? = w.heap[k]?
theorem Ex.refl (B : Nat) (w : World) : Ex B w w := ⟨rfl, rfl, rfl, Nat.le_refl _, fun _ _ _ => rfl⟩
theorem Ex.trans {B : Nat} {a b c : World} (h : Ex B a b) (k : Ex B b c) : Ex B a c :=
  ⟨k.os.trans h.os, k.tape.trans h.tape, k.output.trans h.output, Nat.le_trans h.size k.size, fun i hi hn => (k.block i (Nat.lt_of_lt_of_le hi h.size) hn).trans (h.block i hi hn)⟩
theorem Ex.drewN {B : Nat} {a w : World} (h : Ex B a w) (n : Nat) : Ex B a (w.drewN n) := ⟨h.os, h.tape, h.output, h.size, h.block⟩
theorem Ex.drew {B : Nat} {a w : World} (h : Ex B a w) : Ex B a w.drew := ⟨h.os, h.tape, h.output, h.size, h.block⟩
theorem Ex.set {B : Nat} {a w : World} (h : Ex B a w) (i : Nat) (v : Value) : Ex B a (w.setCell ⟨B, i, none⟩ v) :=
  ⟨h.os, h.tape, h.output, by simpa [World.setCell] using h.size, fun k hk hn => (Below.heap_setCell _ _ _ _ (by simpa using hn)).trans (h.block k hk hn)⟩

theorem Ex.alloc {B : Nat} {a w : World} (h : Ex B a w) (o : Obj) : Ex B a (w.alloc o) :=
  ⟨h.os, h.tape, h.output, by have := h.size; simp; omega, fun k hk hn => (Below.heap_alloc _ _ _ (Nat.lt_of_lt_of_le hk h.size)).trans (h.block k hk hn)⟩

theorem Blk.ex {w w' : World} {B b T : Nat} {cs : Array Value} (h : Blk w b cs T) (he : Ex B w w') (hne : b ≠ B) : Blk w' b cs T := by
  unfold Blk at *
  rw [he.block b (Blk.lt h) hne]; exact h
theorem Row.ex {w w' : World} {B N T : Nat} {Y : Nat → Prop} {v : Value} {l : List Tm} {xs : List Value} (h : Row w N T Y v l xs) (he : Ex B w w') (hB : B < N) (hY : ¬ Y B) : Row w' N T Y v l xs :=
  ⟨h.own.kept (w' := w') (row := some B) ⟨he.os, he.tape, he.output, he.size, fun j hj hn => he.block j hj (fun e => hn (by rw [e]))⟩ (Or.inr (fun e => by have := (h.own.lt B e).1; omega)),
   h.row.imp fun a l hs => ((hs.mono (Y := fun b => (Y b ∨ (N ≤ b ∧ some b ≠ v.ownBlock)) ∧ b < w.heap.size) fun b h1 h2 => ⟨h1, h2⟩).kept fun b hb => he.block b hb.2 (fun e => by
     rcases hb.1 with h1 | h1
     · rw [e] at h1; exact hY h1
     · omega)).mono fun b hb _ => hb.1⟩

theorem Ex.grown {B : Nat} {a w w' : World} {row : Option Nat} (h : Ex B a w) (hg : w.grownBy w' row) (hr : ∀ k, row = some k → a.heap.size ≤ k) : Ex B a w' :=
  ⟨hg.os.trans h.os, hg.tape.trans h.tape, hg.output.trans h.output, Nat.le_trans h.size hg.size, fun k hk hn => (hg.block k (Nat.lt_of_lt_of_le hk h.size) (fun e => by have := hr k e.symm; omega)).trans (h.block k hk hn)⟩
end Go.Proofs.YtdmaijmglblccaaGreatDoor


/- Rows of bindings that a call makes. -/
namespace Go.Proofs.YtdmaijmglblccaaGreatDoor
open Go.RowKit
set_option linter.unusedSimpArgs false
set_option linter.unusedVariables false

/-- A binding, and where those below its term's first knot lie. -/
abbrev Bc := Bd × Option Addr × Nat
instance : Inhabited Bc := ⟨(⟨⟨#[]⟩, ⟨⟨#[]⟩, []⟩⟩, none, 0)⟩
end Go.Proofs.YtdmaijmglblccaaGreatDoor


/- But for some blocks the world is as it was. -/
namespace Go.Proofs.YtdmaijmglblccaaGreatDoor
open Go.RowKit
set_option linter.unusedSimpArgs false
set_option linter.unusedVariables false
set_option maxRecDepth 8000

/-- But for the blocks that Q names the world is as it was. -/
structure ExQ (Q : Nat → Prop) (w w' : World) : Prop where
  os : w'.os = w.os
  tape : w'.tape = w.tape
  output : w'.output = w.output
  size : w.heap.size ≤ w'.heap.size
  block : ∀ k, k < w.heap.size → ¬ Q k → w'.heap[k]? = w.heap[k]?
theorem ExQ.refl (Q : Nat → Prop) (w : World) : ExQ Q w w := ⟨rfl, rfl, rfl, Nat.le_refl _, fun _ _ _ => rfl⟩
theorem ExQ.trans {Q : Nat → Prop} {a b c : World} (h : ExQ Q a b) (k : ExQ Q b c) : ExQ Q a c :=
  ⟨k.os.trans h.os, k.tape.trans h.tape, k.output.trans h.output, Nat.le_trans h.size k.size, fun i hi hn => (k.block i (Nat.lt_of_lt_of_le hi h.size) hn).trans (h.block i hi hn)⟩
/-- One behind the other, the second naming blocks that the first world had not. -/
theorem ExQ.transN {Q R : Nat → Prop} {a b c : World} (h : ExQ Q a b) (k : ExQ R b c) (hR : ∀ i, R i → i < a.heap.size → Q i) : ExQ Q a c :=
  ⟨k.os.trans h.os, k.tape.trans h.tape, k.output.trans h.output, Nat.le_trans h.size k.size, fun i hi hn => (k.block i (Nat.lt_of_lt_of_le hi h.size) (fun hr => hn (hR i hr hi))).trans (h.block i hi hn)⟩
theorem ExQ.mono {Q R : Nat → Prop} {a b : World} (h : ExQ Q a b) (hR : ∀ i, Q i → i < a.heap.size → R i) : ExQ R a b := ⟨h.os, h.tape, h.output, h.size, fun i hi hn => h.block i hi (fun hq => hn (hR i hq hi))⟩
theorem ExQ.drewN {Q : Nat → Prop} {a w : World} (h : ExQ Q a w) (n : Nat) : ExQ Q a (w.drewN n) := ⟨h.os, h.tape, h.output, h.size, h.block⟩
theorem ExQ.drew {Q : Nat → Prop} {a w : World} (h : ExQ Q a w) : ExQ Q a w.drew := ⟨h.os, h.tape, h.output, h.size, h.block⟩
theorem ExQ.set {Q : Nat → Prop} {a w : World} (h : ExQ Q a w) {B : Nat} (hB : Q B) (i : Nat) (v : Value) : ExQ Q a (w.setCell ⟨B, i, none⟩ v) :=
  ⟨h.os, h.tape, h.output, by simpa [World.setCell] using h.size, fun k hk hn => (Below.heap_setCell _ _ _ _ (by simp; intro e; subst e; exact hn hB)).trans (h.block k hk hn)⟩
theorem ExQ.alloc {Q : Nat → Prop} {a w : World} (h : ExQ Q a w) (o : Obj) : ExQ Q a (w.alloc o) :=
  ⟨h.os, h.tape, h.output, by have := h.size; simp; omega, fun k hk hn => (Below.heap_alloc _ _ _ (Nat.lt_of_lt_of_le hk h.size)).trans (h.block k hk hn)⟩
theorem ExQ.grown {Q : Nat → Prop} {a w w' : World} {row : Option Nat} (h : ExQ Q a w) (hg : w.grownBy w' row) (hr : ∀ k, row = some k → a.heap.size ≤ k ∨ Q k) : ExQ Q a w' :=
  ⟨hg.os.trans h.os, hg.tape.trans h.tape, hg.output.trans h.output, Nat.le_trans h.size hg.size, fun k hk hn => (hg.block k (Nat.lt_of_lt_of_le hk h.size) (fun e => by rcases hr k e.symm with h1 | h1; omega; exact hn h1)).trans (h.block k hk hn)⟩
theorem ExQ.ofBelow {Q : Nat → Prop} {w w' : World} (h : Below w.heap.size w w') : ExQ Q w w' := ⟨h.os, h.tape, h.output, h.size, fun k hk _ => h.block k hk⟩
theorem ExQ.below {Q : Nat → Prop} {w w' : World} {B : Nat} (h : ExQ Q w w') (hB : B ≤ w.heap.size) (hQ : ∀ b, Q b → B ≤ b) : Below B w w' :=
  ⟨h.os, h.tape, h.output, h.size, fun k hk => h.block k (by omega) (fun hq => by have := hQ k hq; omega)⟩
theorem Blk.exq {w w' : World} {Q : Nat → Prop} {b T : Nat} {cs : Array Value} (h : Blk w b cs T) (he : ExQ Q w w') (hne : ¬ Q b) : Blk w' b cs T := by
  unfold Blk at *
  rw [he.block b (Blk.lt h) hne]; exact h
theorem Sl.exq {w w' : World} {Q X : Nat → Prop} {a : Option Addr} {l : List Tm} (h : Sl w X a l) (he : ExQ Q w w') (hX : ∀ b, X b → ¬ Q b) : Sl w' X a l :=
  ((h.mono (Y := fun b => X b ∧ b < w.heap.size) fun b h1 h2 => ⟨h1, h2⟩).kept fun b hb => he.block b hb.2 (hX b hb.1)).mono fun b hb _ => hb.1
theorem ownsRow_at {w w' : World} {base e size n : Nat} {v : Value} {xs : List Value} (h : w.ownsRow base e size v n xs) (hk : ∀ g, v.ownBlock = some g → w'.heap[g]? = w.heap[g]?) : w'.ownsRow base e size v n xs := by
  obtain ⟨hl, h1⟩ := h
  refine ⟨hl, ?_⟩
  rcases h1 with h1 | ⟨g, cap, cur, hv, hg, hh, hr⟩
  · exact Or.inl h1
  · refine Or.inr ⟨g, cap, cur, hv, hg, ?_, hr⟩
    rw [hk g (by rw [hv]; rfl)]
    exact hh
theorem Row.exq {w w' : World} {Q : Nat → Prop} {N T : Nat} {Y : Nat → Prop} {v : Value} {l : List Tm} {xs : List Value} (h : Row w N T Y v l xs) (he : ExQ Q w w') (hQ : ∀ b, Q b → b < N) (hY : ∀ b, Q b → ¬ Y b) : Row w' N T Y v l xs :=
  ⟨ownsRow_at h.own fun g hg => he.block g (h.own.lt g hg).2 (fun hq => by have := hQ g hq; have := (h.own.lt g hg).1; omega),
   h.row.imp fun a l hs => hs.exq he fun b hb hq => by
     rcases hb with h1 | h1
     · exact hY b hq h1
     · have := hQ b hq; omega⟩
end Go.Proofs.YtdmaijmglblccaaGreatDoor

/- Maps by texts, as they lie in memory. -/
namespace Go.Proofs.YtdmaijmglblccaaGreatDoor
open Go.RowKit
set_option linter.unusedSimpArgs false
set_option linter.unusedVariables false

def mapGet : List (ByteArray × Value) → ByteArray → Option Value
  | [], _ => none
  | p :: r, n => if p.1 = n then some p.2 else mapGet r n

/-- The entries' stamps: each below the clock, none twice. -/
def Stamps (es : Array MapEntry) (clk : Nat) : Prop := (∀ x ∈ es.toList, x.born < clk) ∧ (es.toList.map (·.born)).Nodup
/-- The map at r has these keys, in the order in which they came, and what stands for them. -/
def MapAt (w : World) (r : Nat) (L : List (ByteArray × Value)) : Prop :=
  ∃ es clk, w.heap[r]? = some (.map es clk) ∧ es.toList.map (fun e => (e.key, e.val)) = L.map (fun p => (Value.string p.1, p.2)) ∧ Stamps es clk
theorem Stamps.push {es : Array MapEntry} {clk : Nat} (h : Stamps es clk) (k v : Value) : Stamps (es.push { key := k, val := v, born := clk }) (clk + 1) := by
  obtain ⟨h1, h2⟩ := h
  refine ⟨fun x hx => ?_, ?_⟩
  · rw [Array.toList_push, List.mem_append] at hx
    rcases hx with hx | hx
    · have := h1 x hx; omega
    · have e : x = { key := k, val := v, born := clk } := by simpa using hx
      subst e; exact Nat.lt_succ_self _
  · rw [Array.toList_push, List.map_append, List.nodup_append]
    refine ⟨h2, by simp, fun a ha b hb => ?_⟩
    obtain ⟨x, hx, rfl⟩ := List.mem_map.1 ha
    have := h1 x hx
    have e : b = clk := by simpa using hb
    omega
theorem MapAt.new (w : World) : MapAt (w.alloc (.map #[] 0)) w.heap.size [] := ⟨#[], 0, heap_alloc_new w _, rfl, by simp [Stamps]⟩
theorem MapAt.lt {w : World} {r : Nat} {L : List (ByteArray × Value)} (h : MapAt w r L) : r < w.heap.size := by
  obtain ⟨es, clk, h, _⟩ := h
  exact (Array.getElem?_eq_some_iff.1 h).1
theorem MapAt.kept {w w' : World} {r : Nat} {L : List (ByteArray × Value)} (h : MapAt w r L) (hk : w'.heap[r]? = w.heap[r]?) : MapAt w' r L := by
  obtain ⟨es, clk, h1, h2⟩ := h
  exact ⟨es, clk, hk.trans h1, h2⟩
theorem MapAt.below {w w' : World} {r B : Nat} {L : List (ByteArray × Value)} (h : MapAt w r L) (hb : Below B w w') (hB : r < B) : MapAt w' r L := h.kept (hb.block r hB)

theorem findNow_map (n : ByteArray) : ∀ (l : List MapEntry) (L : List (ByteArray × Value)) (i : Nat), l.map (fun e => (e.key, e.val)) = L.map (fun p => (Value.string p.1, p.2)) →
    (mapGet L n = none → Instr.findNow .string (.string n) l i = some none) ∧ (∀ v, mapGet L n = some v → ∃ j, Instr.findNow .string (.string n) l i = some (some (j, v)))
  | [], [], i, h => ⟨fun _ => rfl, fun v h => by simp [mapGet] at h⟩
  | [], p :: L, i, h => by simp at h
  | e :: l, [], i, h => by simp at h
  | e :: l, p :: L, i, h => by
    simp only [List.map_cons, List.cons.injEq, Prod.mk.injEq] at h
    obtain ⟨⟨hk, hv⟩, ht⟩ := h
    obtain ⟨ih1, ih2⟩ := findNow_map n l L (i + 1) ht
    by_cases hn : p.1 = n
    · have hs : Instr.sameNow .string (.string n) e.key = some true := by
        rw [hk, hn]
        show some (n == n) = some true
        rw [show (n == n) = true from (MapKept.bytes_beq _ _).2 rfl]
      refine ⟨fun h => by simp [mapGet, hn] at h, fun v h => ⟨i, ?_⟩⟩
      simp only [mapGet, hn, if_true, Option.some.injEq] at h
      simp [Instr.findNow, hs, hv, h]
    · have hs : Instr.sameNow .string (.string n) e.key = some false := by
        rw [hk]
        show some (n == p.1) = some false
        have hb : (n == p.1) = false := by
          cases hh : (n == p.1) with
          | false => rfl
          | true => exact absurd ((MapKept.bytes_beq _ _).1 hh).symm hn
        rw [hb]
      refine ⟨fun h => ?_, fun v h => ?_⟩
      · rw [mapGet, if_neg hn] at h
        simp [Instr.findNow, hs, ih1 h]
      · rw [mapGet, if_neg hn] at h
        obtain ⟨j, hj⟩ := ih2 v h
        exact ⟨j, by simp [Instr.findNow, hs, hj]⟩

theorem run_look {P : Program} {w : World} {T kt et : TypeId} {r : Nat} {L : List (ByteArray × Value)} {z : Value} (hm : P.underlying T = some (.map kt et)) (hk : P.underlying kt = some .string) (hz : (zeroValue et).run P w = .ok z w) (h : MapAt w r L) (n : ByteArray) :
    (Instr.lookup T (.map (some r)) (.string n) true).run P w = .ok (.tuple #[(mapGet L n).getD z, .bool (mapGet L n).isSome]) w := by
  obtain ⟨es, clk, hb, he, hst⟩ := h
  obtain ⟨h1, h2⟩ := findNow_map n es.toList L 0 he
  have hc : ∀ b, (Instr.checkKey b 10000 kt (.string n)).run P w = .ok () w := fun b => MapKept.run_checkKey (k := .string n) hk (by simp [MapKept.IsKey]) b 9999
  cases hg : mapGet L n with
  | none => simp [Instr.lookup, run_underlying hm, MapKept.run_getObj_map hb, hc, MapKept.run_findKey hk (h1 hg), Result.andThen, hz]
  | some v =>
    obtain ⟨j, hj⟩ := h2 v hg
    simp [Instr.lookup, run_underlying hm, MapKept.run_getObj_map hb, hc, MapKept.run_findKey hk hj, Result.andThen]

theorem run_put {P : Program} {w : World} {T kt et : TypeId} {r : Nat} {L : List (ByteArray × Value)} (hm : P.underlying T = some (.map kt et)) (hk : P.underlying kt = some .string) (h : MapAt w r L) (n : ByteArray) (v : Value) (hn : mapGet L n = none) :
    ∃ w', (Instr.mapUpdate T (.map (some r)) (.string n) v).run P w = .ok () w' ∧ MapAt w' r (L ++ [(n, v)]) ∧ w'.heap.size = w.heap.size ∧ w'.os = w.os ∧ w'.tape = w.tape ∧ w'.output = w.output ∧ (∀ b, b ≠ r → w'.heap[b]? = w.heap[b]?) := by
  obtain ⟨es, clk, hb, he, hst⟩ := h
  obtain ⟨h1, h2⟩ := findNow_map n es.toList L 0 he
  have hc : (Instr.checkKey false 10000 kt (.string n)).run P w = .ok () w := MapKept.run_checkKey (k := .string n) hk (by simp [MapKept.IsKey]) false 9999
  have hlt : r < w.heap.size := (Array.getElem?_eq_some_iff.1 hb).1
  refine ⟨{ w with heap := w.heap.setIfInBounds r (.map (es.push { key := .string n, val := v, born := clk }) (clk + 1)) }, ?_, ⟨_, _, (MapKept.heap_set hb).1, by simp [he], hst.push _ _⟩, by simp, rfl, rfl, rfl, fun b hne => (MapKept.heap_set hb).2 b hne⟩
  simp [Instr.mapUpdate, run_underlying hm, MapKept.run_getObj_map hb, hc, MapKept.run_findKey hk (h1 hn), MapKept.run_setObj_map _ hb, Result.andThen]
end Go.Proofs.YtdmaijmglblccaaGreatDoor

/- Lists of things of one cell each. -/
namespace Go.Proofs.YtdmaijmglblccaaGreatDoor
open Go.RowKit
set_option linter.unusedSimpArgs false
set_option linter.unusedVariables false

/-- A list in memory, a cell each. -/
def LV {α : Type} (f : α → Value) (w : World) (X : Nat → Prop) (v : Value) (l : List α) : Prop :=
  ∃ a c, v = .slice a l.length c ∧ (l.length ≤ 9223372036854775807 ∧ l.length ≤ c) ∧ (l = [] ∨ ∃ b o, a = some ⟨b, o, none⟩ ∧ X b ∧ ∀ i (h : i < l.length), w.cell? ⟨b, o + i, none⟩ = some (f l[i]))

theorem LV.kept {α : Type} {f : α → Value} {w w' : World} {X : Nat → Prop} {v : Value} {l : List α} (h : LV f w X v l) (hk : ∀ b, X b → w'.heap[b]? = w.heap[b]?) : LV f w' X v l := by
  obtain ⟨a, c, e, hl, h⟩ := h
  refine ⟨a, c, e, hl, ?_⟩
  rcases h with h | ⟨b, o, e, hx, h⟩
  · exact Or.inl h
  · exact Or.inr ⟨b, o, e, hx, fun i hi => by rw [World.cell?_of_block (hk b hx)]; exact h i hi⟩

theorem LV.mono {α : Type} {f : α → Value} {w : World} {X Y : Nat → Prop} {v : Value} {l : List α} (h : LV f w X v l) (hk : ∀ b, X b → b < w.heap.size → Y b) : LV f w Y v l := by
  obtain ⟨a, c, e, hl, h⟩ := h
  refine ⟨a, c, e, hl, ?_⟩
  rcases h with h | ⟨b, o, e, hx, h⟩
  · exact Or.inl h
  · by_cases h0 : l = []
    · exact Or.inl h0
    · have hp : 0 < l.length := List.length_pos_iff.2 h0
      exact Or.inr ⟨b, o, e, hk b hx (World.block_lt_of_cell? w _ (h 0 hp)), h⟩

theorem LV.below {α : Type} {f : α → Value} {w w' : World} {X : Nat → Prop} {v : Value} {l : List α} {B : Nat} (h : LV f w X v l) (hb : Below B w w') (hX : ∀ b, X b → b < w.heap.size → b < B) : LV f w' X v l := by
  have h1 : LV f w (fun b => X b ∧ b < B) v l := h.mono fun b hx hs => ⟨hx, hX b hx hs⟩
  have h2 : LV f w' (fun b => X b ∧ b < B) v l := h1.kept fun b hx => hb.block b hx.2
  exact h2.mono fun b hx _ => hx.1

theorem LV.later {α : Type} {f : α → Value} {w w' : World} {X : Nat → Prop} {v : Value} {l : List α} (h : LV f w X v l) (hb : Below w.heap.size w w') : LV f w' X v l := h.below hb (fun _ _ h => h)
theorem LV.alloc {α : Type} {f : α → Value} {w : World} {X : Nat → Prop} {v : Value} {l : List α} (h : LV f w X v l) (o : Obj) : LV f (w.alloc o) X v l := h.later ((Below.refl _ _).alloc (Nat.le_refl _) o)

/-- Out of a row that a call owns. -/
theorem LV.of_own {α : Type} {f : α → Value} {w : World} {N T : Nat} {v : Value} {l : List α} (h : w.ownsRow N T 1 v l.length (l.map f)) : LV f w (fun b => N ≤ b) v l := by
  have h' := h
  obtain ⟨_, h1⟩ := h
  rcases h1 with ⟨rfl, h0⟩ | ⟨g, cap, cur, hv, hg, hh, hnc, hcm, _⟩
  · have e : l = [] := List.length_eq_zero_iff.1 h0
    subst e
    exact ⟨none, 0, rfl, by simp, Or.inl rfl⟩
  · unfold maxLen at hcm
    refine ⟨some ⟨g, 0, none⟩, cap, hv, ⟨by omega, hnc⟩, ?_⟩
    by_cases h0 : l = []
    · exact Or.inl h0
    · have hp : 0 < l.length := List.length_pos_iff.2 h0
      obtain ⟨g2, cap2, hv2, _, _, hc⟩ := owned_val h' hp
      rw [hv] at hv2
      simp at hv2
      obtain ⟨rfl, rfl⟩ := hv2
      exact Or.inr ⟨g, 0, rfl, hg, fun i hi => by rw [Nat.zero_add]; exact hc i _ (by simp [hi])⟩
end Go.Proofs.YtdmaijmglblccaaGreatDoor


/- Walks: lists that are the same; whether a text is in a list. -/
namespace Go.Proofs.YtdmaijmglblccaaGreatDoor
open Go.RowKit
set_option linter.unusedSimpArgs false
set_option linter.unusedVariables false

/-- Is a text in a list? -/
def inB (x : ByteArray) (l : List ByteArray) : Bool := l.any fun y => y.toList == x.toList
theorem inB_take {x : ByteArray} {l : List ByteArray} {k : Nat} (h : k < l.length) (h0 : inB x (l.take k) = false) (h1 : (l[k].toList == x.toList) = false) : inB x (l.take (k + 1)) = false := by
  unfold inB at *
  rw [List.take_succ_eq_append_getElem h, List.any_append, h0]
  simpa using h1
theorem inB_yes {x : ByteArray} {l : List ByteArray} {k : Nat} (h : k < l.length) (h1 : (l[k].toList == x.toList) = true) : inB x l = true := by
  unfold inB
  rw [List.any_eq_true]
  exact ⟨l[k], List.getElem_mem h, h1⟩

set_option maxHeartbeats 400000 in
theorem in_any (x : ByteArray) (l : List ByteArray) (v : Value) (w : World) (X : Nat → Prop) (hv : LV Value.string w X v l) :
    Calls Tryz.prog 22 #[.string x, v] w fun e w' => e = .returned (.bool (inB x l)) ∧ w' = w := by
  obtain ⟨a, c, rfl, ⟨hl, _⟩, h1⟩ := hv
  go_enter Tryz.func22, Tryz.ntmps22
  go_wp2_with fail
  go_loop [5] (fun i => ∃ k : Nat, k ≤ l.length ∧ i = .int .i64 k ∧ inB x (l.take k) = false) (fun i => l.length - (intOf i).toNat)
  case atStart => exact ⟨0, Nat.zero_le _, rfl, by simp [inB]⟩
  case round =>
    obtain ⟨k, hk, rfl, ha⟩ := hrel
    have HA := hide ha
    clear ha
    by_cases hlt : k < l.length
    · obtain ⟨b, o, rfl, _, hc⟩ := h1.resolve_left (fun h => by rw [h] at hlt; simp at hlt)
      have d1 := hc k hlt
      clear hc h1
      cases hq : (l[k].toList == x.toList) with
      | true =>
        have HQ := hide (inB_yes hlt hq)
        go_wp2_with fail
        go_ret
        exact ⟨ret_bool HQ.out.symm, rfl⟩
      | false =>
        have HQ := hide (inB_take hlt HA.out hq)
        go_wp2_with fail
        go_round
        case rel => exact ⟨k + 1, by omega, by go_num, HQ.out⟩
        case measure => simp [intOf]; omega
    · have htk : l.take k = l := List.take_of_length_le (by omega)
      have HF : Hid (false = inB x l) := by unfold Hid; rw [← HA.out, htk]
      go_wp2_with fail
      go_ret
      exact ⟨ret_bool HF.out, rfl⟩
end Go.Proofs.YtdmaijmglblccaaGreatDoor


/- Walks: the variables of a term, each once. -/
namespace Go.Proofs.YtdmaijmglblccaaGreatDoor
open Go.RowKit
set_option linter.unusedSimpArgs false
set_option linter.unusedVariables false

theorem Tryz.infoStr : (Tryz.prog.info? 9).map (fun i => (i.zero, i.size, i.bytes)) = some (some (.string ByteArray.empty), 1, 16) := by kernel_rfl

/-- A variable more. -/
def addV (acc : List ByteArray) (s : ByteArray) : List ByteArray := if (varB s && !inB s acc) = true then acc ++ [s] else acc
/-- The variables of knots, as they come. -/
def varsP (acc : List ByteArray) (ks : List Tm) : List ByteArray := ks.foldl (fun acc k => addV acc k.name) acc

theorem addV_yes {acc : List ByteArray} {s : ByteArray} (h : varB s = true) (h2 : inB s acc = false) : addV acc s = acc ++ [s] := by simp [addV, h, h2]
theorem addV_in {acc : List ByteArray} {s : ByteArray} (h : varB s = true) (h2 : inB s acc = true) : addV acc s = acc := by simp [addV, h, h2]
theorem addV_no {acc : List ByteArray} {s : ByteArray} (h : varB s = false) : addV acc s = acc := by simp [addV, h]
theorem addV_len (acc : List ByteArray) (s : ByteArray) : (addV acc s).length ≤ acc.length + 1 := by
  unfold addV; split <;> simp
theorem varsP_append (acc : List ByteArray) (a b : List Tm) : varsP acc (a ++ b) = varsP (varsP acc a) b := by simp [varsP, List.foldl_append]
theorem varsP_len (ks : List Tm) : ∀ acc, (varsP acc ks).length ≤ acc.length + ks.length := by
  induction ks with
  | nil => intro acc; simp [varsP]
  | cons k r ih => intro acc; have := ih (addV acc k.name); have h2 := addV_len acc k.name; simp only [varsP, List.foldl_cons, List.length_cons] at *; omega
theorem varsP_take (acc : List ByteArray) (ks : List Tm) (k : Nat) (h : k < ks.length) : varsP acc (ks.take (k + 1)) = addV (varsP acc (ks.take k)) ks[k].name := by
  rw [List.take_succ_eq_append_getElem h, varsP_append]; rfl

set_option maxHeartbeats 1000000 in
theorem varsOf_any (t : Tm) (v : Value) (w : World) (X : Nat → Prop) (hv : TV w X v t) (hsm : sizeL [t] ≤ 1000000) :
    Calls Tryz.prog 10 #[v] w fun e w' => ∃ v', e = .returned v' ∧ LV Value.string w' (fun b => w.heap.size ≤ b) v' (varsP [] (preL [t])) ∧ Below w.heap.size w w' := by
  obtain ⟨a, c, rfl, hs⟩ := hv
  have HV := hide (show TV w X (.agg #[.string t.name, .slice a t.args.length c]) t from ⟨a, c, rfl, hs⟩)
  clear hs
  obtain ⟨i0, hi, hz0, hz1, hz2⟩ := info_parts Tryz.infoStr
  go_enter Tryz.func10, Tryz.ntmps10
  go_wp2_with fail
  refine (knots_any t _ _ X (by exact HV.out.alloc _) hsm).mono ?_
  rintro e w2 ⟨v2, xs, rfl, hown, hrow, hb3⟩
  have hpos : 0 < sizeL [t] := by obtain ⟨s', l'⟩ := t; simp [sizeL]; omega
  obtain ⟨g, cap, rfl, hg, hg', hcel⟩ := owned_val hown hpos
  have hb4 := hide (((Below.refl w.heap.size w).alloc (Nat.le_refl _) (.cells #[.string t.name, .slice a t.args.length c] 25)).trans (hb3.mono (by simp)))
  have HROW := hide hrow
  have HCEL := hide hcel
  have hpl := preL_length [t]
  generalize hkse : preL [t] = ks at *
  have HKSE := hide hkse
  clear hkse
  have hks : ks.length ≤ 1000000 := by omega
  rw [← hpl]
  clear hown hrow hcel hb3 hpl hpos hsm
  go_wp2_with fail
  go_loopw [4, 5] (fun q i wr => ∃ k : Nat, k ≤ ks.length ∧ i = .int .i64 k ∧ wr.ownsRow w2.heap.size 9 1 q (varsP [] (ks.take k)).length ((varsP [] (ks.take k)).map Value.string) ∧ Below w2.heap.size w2 wr) (fun q i wr => ks.length - (intOf i).toNat)
  case atStart => exact ⟨0, Nat.zero_le _, rfl, by simpa [varsP] using World.ownsRow_nil w2 w2.heap.size 9 1, Below.refl _ _⟩
  case round =>
    obtain ⟨k, hk, rfl, hown, hb⟩ := hrel
    have HOWN := hide hown
    have HB := hide hb
    by_cases hlt : k < ks.length
    · obtain ⟨x0, a', c', x1, hsl⟩ := HROW.out.get k hlt
      have d0 := cell_later hb (HCEL.out _ _ x0)
      have HT := hide (varsP_take [] ks k hlt)
      have hlen0 := varsP_len (ks.take k) []
      have hlen : (varsP [] (ks.take k)).length ≤ 1000000 := by
        have : (ks.take k).length ≤ k := List.length_take_le _ _
        simp at hlen0; omega
      clear x0 x1 hsl hown hb hlen0
      generalize hacc : varsP [] (ks.take k) = acc at *
      have HACC := hide hacc
      clear hacc
      cases hvb : varB ks[k].name with
      | false =>
        have HN := hide (addV_no (acc := acc) hvb)
        have HVB := hide hvb
        clear hvb
        go_wp2_with (go_at_call 26; refine (isVarR_any _ _).mono ?_; rintro e w' ⟨rfl, rfl⟩; rw [HVB.out])
        go_roundw
        case rel => exact ⟨k + 1, by omega, by go_num, by rw [HT.out, HN.out]; exact HOWN.out, HB.out⟩
        case measure => simp [intOf]; omega
      | true =>
        have HVB := hide hvb
        cases hin : inB ks[k].name acc with
        | true =>
          have HN := hide (addV_in hvb hin)
          have HIN := hide hin
          clear hvb hin
          go_wp2_with (first | (go_at_call 26; refine (isVarR_any _ _).mono ?_; rintro e w' ⟨rfl, rfl⟩; rw [HVB.out]) | (go_at_call 22; refine (in_any _ _ _ _ _ (LV.of_own HOWN.out)).mono ?_; rintro e w' ⟨rfl, rfl⟩; rw [HIN.out]))
          go_roundw
          case rel => exact ⟨k + 1, by omega, by go_num, by rw [HT.out, HN.out]; exact HOWN.out, HB.out⟩
          case measure => simp [intOf]; omega
        | false =>
          have HN := hide (addV_yes hvb hin)
          have HIN := hide hin
          clear hvb hin
          obtain ⟨q2, w3, hr2, hown2, hgr2, _⟩ := run_append_own (P := Tryz.prog) (wr.alloc (.cells #[.string ks[k].name] 9)) w2.heap.size 31 31 9 i0 _ 1 16 Tryz.underlying31 hi hz0 hz1 hz2 rfl (by decide) _ acc.length (acc.map Value.string) (HOWN.out.alloc _)
            ⟨wr.heap.size, 0, none⟩ 1 1 [.string ks[k].name] rfl (cell_one_new _ _ _) (fun x hx => by simp at hx; subst hx; rfl) (by unfold maxLen; omega) (by omega) (by have := HB.out.size; simp; omega)
          have HR := hide hr2
          have HO2 := hide hown2
          have HB2 := hide ((HB.out.alloc HB.out.size _).grown hgr2 (by have := HB.out.size; simp; omega) (fun j hj => (HOWN.out.lt j hj).1))
          clear hr2 hown2 hgr2
          go_wp2_with (first | (go_at_call 26; refine (isVarR_any _ _).mono ?_; rintro e w' ⟨rfl, rfl⟩; rw [HVB.out]) | (go_at_call 22; refine (in_any _ _ _ _ _ (LV.of_own HOWN.out)).mono ?_; rintro e w' ⟨rfl, rfl⟩; rw [HIN.out]) | (at_builtin; refine wpList_append_eq rfl _ _ _ _ rfl rfl rfl HR.out ?_))
          go_roundw
          case rel => exact ⟨k + 1, by omega, by go_num, by rw [HT.out, HN.out]; simpa using HO2.out, HB2.out⟩
          case measure => simp [intOf]; omega
    · have htk : ks.take k = ks := List.take_of_length_le (by omega)
      rw [htk] at hown
      have HO := hide hown
      clear hown hb
      go_wp2_with fail
      go_ret
      exact ⟨_, rfl, by rw [HKSE.out]; exact (LV.of_own HO.out).mono fun b hb _ => Nat.le_trans hb4.out.size hb, hb4.out.trans (HB.out.mono hb4.out.size)⟩

theorem grown_trans {w w1 w2 : World} {r r1 : Option Nat} (h : w.grownBy w1 r) (h1 : w1.grownBy w2 r1) (hr : ∀ k, r1 = some k → r = some k ∨ w.heap.size ≤ k) : w.grownBy w2 r :=
  ⟨h1.os.trans h.os, h1.tape.trans h.tape, h1.output.trans h.output, Nat.le_trans h.size h1.size, fun k hk hne => (h1.block k (Nat.lt_of_lt_of_le hk h.size) (fun e => by
    rcases hr k e.symm with h2 | h2
    · exact hne h2.symm
    · omega)).trans (h.block k hk hne)⟩

theorem grown_of_below {w w' : World} (hb : Below w.heap.size w w') (r : Option Nat) : w.grownBy w' r := ⟨hb.os, hb.tape, hb.output, hb.size, fun k hk _ => hb.block k hk⟩

theorem TV.grown {w w' : World} {X : Nat → Prop} {v : Value} {t : Tm} {r : Option Nat} (h : TV w X v t) (hg : w.grownBy w' r) (hX : ∀ b, X b → some b ≠ r) : TV w' X v t := by
  have h1 : TV w (fun b => X b ∧ b < w.heap.size) v t := h.mono fun b h1 h2 => ⟨h1, h2⟩
  have h2 : TV w' (fun b => X b ∧ b < w.heap.size) v t := h1.kept fun b hx => hg.block b hx.2 (hX b hx.1)
  exact h2.mono fun b hx _ => hx.1

/-- What stays true of a row of texts while it is added to. -/
def NamesAt (w0 : World) (B : Nat) (q0 : Value) (acc : List ByteArray) (q : Value) (wr : World) : Prop :=
  wr.ownsRow B 9 1 q acc.length (acc.map Value.string) ∧ w0.grownBy wr q0.ownBlock ∧ (∀ k, q.ownBlock = some k → q0.ownBlock = some k ∨ w0.heap.size ≤ k)

theorem NamesAt.step {w0 w1 w2 : World} {B : Nat} {q0 q1 q2 : Value} {acc1 acc2 : List ByteArray} (h1 : NamesAt w0 B q0 acc1 q1 w1) (h2 : NamesAt w1 B q1 acc2 q2 w2) : NamesAt w0 B q0 acc2 q2 w2 := by
  refine ⟨h2.1, grown_trans h1.2.1 h2.2.1 h1.2.2, fun k hk => ?_⟩
  rcases h2.2.2 k hk with h | h
  · exact h1.2.2 k h
  · exact Or.inr (Nat.le_trans h1.2.1.size h)

theorem NamesAt.below {w0 w1 w2 : World} {B : Nat} {q0 q1 : Value} {acc1 : List ByteArray} (h1 : NamesAt w0 B q0 acc1 q1 w1) (hb : Below w1.heap.size w1 w2) : NamesAt w0 B q0 acc1 q1 w2 :=
  ⟨h1.1.kept (w' := w2) (row := none) ⟨hb.os, hb.tape, hb.output, hb.size, fun j hj _ => hb.block j hj⟩ (by rcases Option.eq_none_or_eq_some (Value.ownBlock q1) with h | ⟨x, h⟩; exact Or.inl h; exact Or.inr (by rw [h]; simp)),
   grown_trans h1.2.1 (grown_of_below hb q1.ownBlock) h1.2.2, h1.2.2⟩
end Go.Proofs.YtdmaijmglblccaaGreatDoor


/- Walks: what stands at a place. -/
namespace Go.Proofs.YtdmaijmglblccaaGreatDoor
open Go.RowKit
set_option linter.unusedSimpArgs false
set_option linter.unusedVariables false

/-- A list of numbers in memory. -/
def PV (w : World) (X : Nat → Prop) (v : Value) (zs : List Int) : Prop :=
  ∃ a c, v = .slice a zs.length c ∧ (zs.length ≤ 9223372036854775807 ∧ zs.length ≤ c) ∧ (zs = [] ∨ ∃ b o, a = some ⟨b, o, none⟩ ∧ X b ∧ ∀ i (h : i < zs.length), w.cell? ⟨b, o + i, none⟩ = some (.int .i64 zs[i]))

theorem PV.kept {w w' : World} {X : Nat → Prop} {v : Value} {zs : List Int} (h : PV w X v zs) (hk : ∀ b, X b → w'.heap[b]? = w.heap[b]?) : PV w' X v zs := by
  obtain ⟨a, c, e, hl, h⟩ := h
  refine ⟨a, c, e, hl, ?_⟩
  rcases h with h | ⟨b, o, e, hx, h⟩
  · exact Or.inl h
  · exact Or.inr ⟨b, o, e, hx, fun i hi => by rw [World.cell?_of_block (hk b hx)]; exact h i hi⟩

theorem PV.mono {w : World} {X Y : Nat → Prop} {v : Value} {zs : List Int} (h : PV w X v zs) (hk : ∀ b, X b → b < w.heap.size → Y b) : PV w Y v zs := by
  obtain ⟨a, c, e, hl, h⟩ := h
  refine ⟨a, c, e, hl, ?_⟩
  rcases h with h | ⟨b, o, e, hx, h⟩
  · exact Or.inl h
  · by_cases h0 : zs = []
    · exact Or.inl h0
    · have hp : 0 < zs.length := List.length_pos_iff.2 h0
      exact Or.inr ⟨b, o, e, hk b hx (World.block_lt_of_cell? w _ (h 0 hp)), h⟩

theorem PV.below {w w' : World} {X : Nat → Prop} {v : Value} {zs : List Int} {B : Nat} (h : PV w X v zs) (hb : Below B w w') (hX : ∀ b, X b → b < w.heap.size → b < B) : PV w' X v zs := by
  have h1 : PV w (fun b => X b ∧ b < B) v zs := h.mono fun b hx hs => ⟨hx, hX b hx hs⟩
  have h2 : PV w' (fun b => X b ∧ b < B) v zs := h1.kept fun b hx => hb.block b hx.2
  exact h2.mono fun b hx _ => hx.1

theorem PV.later {w w' : World} {X : Nat → Prop} {v : Value} {zs : List Int} (h : PV w X v zs) (hb : Below w.heap.size w w') : PV w' X v zs := h.below hb (fun _ _ h => h)
theorem PV.alloc {w : World} {X : Nat → Prop} {v : Value} {zs : List Int} (h : PV w X v zs) (o : Obj) : PV (w.alloc o) X v zs := h.later ((Below.refl _ _).alloc (Nat.le_refl _) o)

theorem below2 {w : World} (o1 o2 : Obj) : Below w.heap.size w ((w.alloc o1).alloc o2) := ((Below.refl _ _).alloc (Nat.le_refl _) _).alloc (by simp) _

end Go.Proofs.YtdmaijmglblccaaGreatDoor

/- The places of a term, and rows of lists of numbers. -/
namespace Go.Proofs.YtdmaijmglblccaaGreatDoor
open Go.RowKit
set_option linter.unusedSimpArgs false
set_option linter.unusedVariables false

/-- These cells are these lists. -/
def RowP (w : World) (Z : Nat → Prop) : List (List Int) → List Value → Prop
  | [], xs => xs = []
  | z :: r, xs => ∃ u xs', xs = u :: xs' ∧ PV w Z u z ∧ RowP w Z r xs'

theorem RowP.len {w : World} {Z : Nat → Prop} : ∀ {l : List (List Int)} {xs : List Value}, RowP w Z l xs → xs.length = l.length
  | [], xs, h => by simp [RowP] at h; simp [h]
  | z :: l, xs, h => by obtain ⟨u, xs', rfl, _, h⟩ := h; simp [RowP.len h]
theorem RowP.append {w : World} {Z : Nat → Prop} : ∀ {l k : List (List Int)} {xs ys : List Value}, RowP w Z l xs → RowP w Z k ys → RowP w Z (l ++ k) (xs ++ ys)
  | [], k, xs, ys, h, h' => by simp [RowP] at h; subst h; simpa using h'
  | z :: l, k, xs, ys, h, h' => by obtain ⟨u, xs', rfl, hp, h⟩ := h; exact ⟨u, xs' ++ ys, rfl, hp, RowP.append h h'⟩
theorem RowP.imp {w w' : World} {Z Z' : Nat → Prop} (hs : ∀ u z, PV w Z u z → PV w' Z' u z) : ∀ {l : List (List Int)} {xs : List Value}, RowP w Z l xs → RowP w' Z' l xs
  | [], xs, h => h
  | z :: l, xs, h => by obtain ⟨u, xs', e, hp, h⟩ := h; exact ⟨u, xs', e, hs _ _ hp, RowP.imp hs h⟩
theorem RowP.get {w : World} {Z : Nat → Prop} : ∀ {l : List (List Int)} {xs : List Value}, RowP w Z l xs → ∀ i (h : i < l.length), ∃ u, xs[i]? = some u ∧ PV w Z u l[i]
  | [], xs, h, i, hi => by simp at hi
  | z :: l, xs, h, i, hi => by
    obtain ⟨u, xs', rfl, hp, h⟩ := h
    cases i with
    | zero => exact ⟨u, rfl, hp⟩
    | succ i => obtain ⟨u', h1, h2⟩ := RowP.get h i (by simpa using hi); exact ⟨u', by simpa using h1, h2⟩
theorem PV.one {w : World} {Z : Nat → Prop} {u : Value} {z : List Int} (h : PV w Z u z) : u.oneCell' = true := by obtain ⟨a, c, rfl, _⟩ := h; rfl

theorem Tryz.infoInt : (Tryz.prog.info? 3).map (fun i => (i.zero, i.size, i.bytes)) = some (some (.int .i64 0), 1, 8) := by kernel_rfl
theorem Tryz.infoInts : (Tryz.prog.info? 45).map (fun i => (i.zero, i.size, i.bytes)) = some (some (.slice none 0 0), 1, 24) := by kernel_rfl

end Go.Proofs.YtdmaijmglblccaaGreatDoor

/- Walks: writing into a Builder, with all else as it was. -/
namespace Go.Proofs.YtdmaijmglblccaaGreatDoor
open Go.RowKit
set_option linter.unusedSimpArgs false
set_option linter.unusedVariables false

theorem Tryz.infoByte : (Tryz.prog.info? 5).map (fun i => (i.zero, i.size, i.bytes)) = some (some (.int .u8 0), 1, 1) := by kernel_rfl
theorem Tryz.sizeBuilder : (Tryz.prog.info? 100).map (·.size) = some 2 := by kernel_rfl
theorem Tryz.liesBuilder : liesAt Tryz.prog Tryz.prog.depth 100 (2 / Tryz.prog.cellsOf 100) 0 100 1 = true := by kernel_rfl

/-- A Builder in block b, its bytes in a row of its own. -/
def Bld (w : World) (B b : Nat) (bs : List Value) (v : Value) : Prop :=
  B ≤ b ∧ (∃ p, (p = .pointer none ∨ p = .pointer (some ⟨b, 0, none⟩)) ∧ w.heap[b]? = some (.cells #[p, v] 100 (0, 0))) ∧ w.ownsRow B 5 1 v bs.length bs

/-- What a write leaves alone. -/
def BFr (w w' : World) (b : Nat) (v v' : Value) : Prop :=
  w'.os = w.os ∧ w'.tape = w.tape ∧ w'.output = w.output ∧ w.heap.size ≤ w'.heap.size ∧ (∀ k, k < w.heap.size → k ≠ b → some k ≠ v.ownBlock → w'.heap[k]? = w.heap[k]?) ∧ (∀ k, v'.ownBlock = some k → v.ownBlock = some k ∨ w.heap.size ≤ k)

theorem BFr.refl (w : World) (b : Nat) (v : Value) : BFr w w b v v := ⟨rfl, rfl, rfl, Nat.le_refl _, fun _ _ _ _ => rfl, fun _ h => Or.inl h⟩
theorem BFr.trans {w w1 w2 : World} {b : Nat} {v v1 v2 : Value} (h : BFr w w1 b v v1) (h1 : BFr w1 w2 b v1 v2) : BFr w w2 b v v2 := by
  obtain ⟨a1, a2, a3, a4, a5, a6⟩ := h
  obtain ⟨c1, c2, c3, c4, c5, c6⟩ := h1
  refine ⟨c1.trans a1, c2.trans a2, c3.trans a3, Nat.le_trans a4 c4, fun k hk hb hv => ?_, fun k hk => ?_⟩
  · refine (c5 k (Nat.lt_of_lt_of_le hk a4) hb (fun e => ?_)).trans (a5 k hk hb hv)
    rcases a6 k e.symm with h | h
    · exact hv h.symm
    · omega
  · rcases c6 k hk with h | h
    · exact a6 k h
    · exact Or.inr (Nat.le_trans a4 h)
theorem BFr.of_below {w w' : World} (hb : Below w.heap.size w w') (b : Nat) (v : Value) : BFr w w' b v v := ⟨hb.os, hb.tape, hb.output, hb.size, fun k hk _ _ => hb.block k hk, fun _ h => Or.inl h⟩

theorem bd_ne {w : World} {B b : Nat} {bs : List Value} {v : Value} (h : Bld w B b bs v) : v.ownBlock ≠ some b := by
  obtain ⟨_, ⟨p, _, hb⟩, hown⟩ := h
  exact Lib.ownBlock_ne hown hb (by decide)

set_option maxHeartbeats 1000000 in
set_option maxRecDepth 100000 in
theorem copyCheck_any (B b : Nat) (bs : List Value) (v : Value) (w : World) (h : Bld w B b bs v) :
    Calls Tryz.prog 105 #[.pointer (some ⟨b, 0, none⟩)] w fun e w' => e = .returned (.tuple #[]) ∧ w'.heap[b]? = some (.cells #[.pointer (some ⟨b, 0, none⟩), v] 100 (0, 0)) ∧ w'.ownsRow B 5 1 v bs.length bs ∧ BFr w w' b v v := by
  obtain ⟨j, hj, hjs⟩ := Option.map_eq_some_iff.1 Tryz.sizeBuilder
  have hne := bd_ne h
  obtain ⟨hB, ⟨p, hp, hbk⟩, hown⟩ := h
  have h0 : w.cell? ⟨b, 0, none⟩ = some p := by rw [Lib.cell_of_heap hbk]; rfl
  have hsh : w.shape? b = some (100, 2) := by simp [World.shape?, hbk]
  have hfz : w.frozen? ⟨b, 0, none⟩ = false := Lib.frozen_of_heap hbk 0
  rcases hp with rfl | rfl
  · have HF : Hid ((w.setCell ⟨b, 0, none⟩ (.pointer (some ⟨b, 0, none⟩))).heap[b]? = some (.cells #[.pointer (some ⟨b, 0, none⟩), v] 100 (0, 0)) ∧ (w.setCell ⟨b, 0, none⟩ (.pointer (some ⟨b, 0, none⟩))).ownsRow B 5 1 v bs.length bs ∧ BFr w (w.setCell ⟨b, 0, none⟩ (.pointer (some ⟨b, 0, none⟩))) b v v) := by
      refine ⟨by simp [World.setCell, Array.getElem?_modify, hbk], ?_, rfl, rfl, rfl, by simp [World.setCell], fun k hk hkb _ => Below.heap_setCell _ _ _ _ (by simpa using hkb), fun _ h => Or.inl h⟩
      refine hown.kept (w' := w.setCell ⟨b, 0, none⟩ (.pointer (some ⟨b, 0, none⟩))) (row := some b) ⟨rfl, rfl, rfl, by simp [World.setCell], fun k hk hkb => Below.heap_setCell _ _ _ _ (by simp at hkb; simpa using hkb)⟩ (Or.inr hne)
    have HOWN := hide hown
    clear hown
    go_enter Tryz.func105, Tryz.ntmps105
    go_wp2_with fail
    rw [Lib.run_to_unsafe w ⟨b, 0, none⟩ Tryz.underlying97 Tryz.underlying143 hj (by rw [hjs]; decide) hsh (Nat.zero_lt_succ 1)]
    simp only [Result.andThen]
    rw [Oper.upon_value]
    go_wp2_with fail
    rw [run_callFunc_extern Tryz.func115 (by kernel_rfl) (by kernel_rfl) (by kernel_rfl) (e := Extern.AbiNoEscape.same) (by kernel_rfl)]
    rw [Lib.run_noEscape]
    simp only [Result.andThen]
    rw [Oper.upon_value]
    go_wp2_with fail
    rw [Lib.run_from_unsafe w ⟨b, 0, none⟩ Tryz.underlying143 Tryz.underlying97 hj hsh Tryz.liesBuilder]
    simp only [Result.andThen]
    rw [Oper.upon_value]
    go_wp2_with fail
    go_end0
    exact ⟨rfl, HF.out⟩
  · have HOWN := hide hown
    go_enter Tryz.func105, Tryz.ntmps105
    go_wp2_with fail
    rw [Lib.run_neq_ptr_same w _ Tryz.underlying97 hj]
    go_wp2_with fail
    go_end0
    exact ⟨rfl, hbk, HOWN.out, BFr.refl _ _ _⟩

theorem bd_lt {w : World} {b : Nat} {o : Obj} (h : w.heap[b]? = some o) : b < w.heap.size := by
  apply Classical.byContradiction
  intro hn
  rw [Array.getElem?_eq_none (by omega)] at h; cases h

/-- Behind an append and the store of its slice. -/
theorem bd_put {w w2 : World} {B b : Nat} {bs bs' : List Value} {v v' : Value} (hB : B ≤ b) (hBw : B ≤ w.heap.size) (hbk : w.heap[b]? = some (.cells #[.pointer (some ⟨b, 0, none⟩), v] 100 (0, 0))) (hown : w.ownsRow B 5 1 v bs.length bs) (hown' : w2.ownsRow B 5 1 v' bs'.length bs') (hg : w.grownBy w2 v.ownBlock)
    (hat : ∀ k, v'.ownBlock = some k → v.ownBlock = some k ∨ w.heap.size ≤ k) : Bld (w2.setCell ⟨b, 1, none⟩ v') B b bs' v' ∧ BFr w (w2.setCell ⟨b, 1, none⟩ v') b v v' := by
  have hne : v.ownBlock ≠ some b := Lib.ownBlock_ne hown hbk (by decide)
  have hlt := bd_lt hbk
  have hb2 : w2.heap[b]? = some (.cells #[.pointer (some ⟨b, 0, none⟩), v] 100 (0, 0)) := by rw [hg.block b hlt (fun e => hne e.symm)]; exact hbk
  have hne' : v'.ownBlock ≠ some b := Lib.ownBlock_ne hown' hb2 (by decide)
  refine ⟨⟨hB, ⟨_, Or.inr rfl, by simp [World.setCell, Array.getElem?_modify, hb2]⟩, ?_⟩, hg.os, hg.tape, hg.output, by simp [World.setCell]; exact hg.size, fun k hk hkb hv => ?_, hat⟩
  · exact hown'.kept (w' := w2.setCell ⟨b, 1, none⟩ v') (row := some b) ⟨rfl, rfl, rfl, by simp [World.setCell], fun k hk hkb => Below.heap_setCell _ _ _ _ (by simp at hkb; simpa using hkb)⟩ (Or.inr hne')
  · rw [Below.heap_setCell _ _ _ _ (by simpa using hkb)]; exact hg.block k hk hv

/-- Where the row lies behind an append of a text's bytes. -/
theorem str_at {w w' : World} {B : Nat} {v v' : Value} {n : Nat} {xs : List Value} {s : ByteArray} {ty : TypeId} (hown : w.ownsRow B 5 1 v n xs) (hsm : n + s.size ≤ 2000000000) (hr : (Builtin.append_ #[98, 9] ty #[v, .string s]).run Tryz.prog w = .ok v' w')
    (hnil : v' = .slice none 0 0 ↔ v = .slice none 0 0 ∧ s.size = 0) : ∀ k, v'.ownBlock = some k → v.ownBlock = some k ∨ w.heap.size ≤ k := by
  obtain ⟨i0, hi, hz0, hz1, hz2⟩ := info_parts Tryz.infoByte
  have hsrc : Src Tryz.prog i0.size 9 (.string s) s.size (byteCells s) w := by rw [hz1]; exact Src.ofString w Tryz.underlying9 s
  have hlx := hown.1
  intro k hk
  rcases hown.2 with ⟨rfl, rfl⟩ | ⟨g, cap, cur, rfl, hBg, hh, hnc, hcm, hcs, htk⟩
  · by_cases h0 : s.size = 0
    · have := hnil.2 ⟨rfl, h0⟩
      rw [this] at hk; cases hk
    · have hg := run_append_grow_src (P := Tryz.prog) w 98 9 ty 5 i0 (.int .u8 0) Tryz.underlying98 hi hz0 none 0 0 [] (by simpa using run_firstCells_none w.drew i0.size 0 0 0) (.string s) s.size (byteCells s) hsrc (by omega) (by omega) (by rw [hz2]; have := growslice_fits (need := 0 + s.size) (old := 0) (bytes := 1) (by omega) (by omega); omega)
      rw [hr] at hg
      simp only [Result.ok.injEq] at hg
      rw [hg.1] at hk
      simp [Value.ownBlock] at hk
      right; omega
  · by_cases hroom : n + s.size ≤ cap
    · have hc : ∀ j, j < (byteCells s).length → (w.cell? ⟨g, 0 + n * i0.size + j, none⟩).isSome = true := fun j hj => by
        rw [byteCells_length] at hj
        rw [Lib.cell_of_heap hh, hz1]
        simp; omega
      have hf : ∀ j, j < (byteCells s).length → w.frozen? ⟨g, 0 + n * i0.size + j, none⟩ = false := fun j hj => Lib.frozen_of_heap hh _
      have hg := run_append_room_src (P := Tryz.prog) w 98 9 ty 5 i0 Tryz.underlying98 hi g 0 n cap (.string s) s.size (byteCells s) hsrc hroom hc hf
      rw [hr] at hg
      simp only [Result.ok.injEq] at hg
      rw [hg.1] at hk
      simp [Value.ownBlock] at hk
      left; simp [Value.ownBlock, hk]
    · have hfc := run_firstCells_some (P := Tryz.prog) w.drew i0.size n ⟨g, 0, none⟩ n cap xs (by rw [hz1]; exact hlx) (fun j u hj => by have := hown.cells (g := g) rfl j u hj; simpa using this)
      have hg := run_append_grow_src (P := Tryz.prog) w 98 9 ty 5 i0 (.int .u8 0) Tryz.underlying98 hi hz0 (some ⟨g, 0, none⟩) n cap xs hfc (.string s) s.size (byteCells s) hsrc (by omega) (by omega) (by rw [hz2]; have := growslice_fits (need := n + s.size) (old := cap) (bytes := 1) (by omega) (by omega); omega)
      rw [hr] at hg
      simp only [Result.ok.injEq] at hg
      rw [hg.1] at hk
      simp [Value.ownBlock] at hk
      right; omega

set_option maxHeartbeats 1000000 in
set_option maxRecDepth 100000 in
theorem writeByte_any (B b : Nat) (bs : List Value) (v : Value) (c : Int) (w : World) (h : Bld w B b bs v) (hlen : bs.length ≤ 1000000000) (hBw : B ≤ w.heap.size) :
    Calls Tryz.prog 80 #[.pointer (some ⟨b, 0, none⟩), .int .u8 c] w fun e w' => e = .returned .nilIface ∧ ∃ v', Bld w' B b (bs ++ [.int .u8 c]) v' ∧ BFr w w' b v v' := by
  obtain ⟨i0, hi, hz0, hz1, hz2⟩ := info_parts Tryz.infoByte
  have hB := h.1
  have H := hide h
  clear h
  go_enter Tryz.func80, Tryz.ntmps80
  go_wp2_with (go_at_call 105; refine (copyCheck_any B b bs v _ H.out).mono ?_)
  rintro e w1 ⟨rfl, hbk, hown, hfr⟩
  have c0 : w1.cell? ⟨b, 0, none⟩ = some (.pointer (some ⟨b, 0, none⟩)) := by rw [Lib.cell_of_heap hbk]; rfl
  have c1 : w1.cell? ⟨b, 1, none⟩ = some v := by rw [Lib.cell_of_heap hbk]; rfl
  have hlt := bd_lt hbk
  have hne : v.ownBlock ≠ some b := Lib.ownBlock_ne hown hbk (by decide)
  have hBw1 : B ≤ w1.heap.size := Nat.le_trans hBw hfr.2.2.2.1
  obtain ⟨g, cap, w2, hr2, hown2, hg2, hat2, _⟩ := run_append_lies (P := Tryz.prog) (w := w1.alloc (.cells #[.int .u8 c] 5)) 98 98 B 5 i0 _ 1 1 Tryz.underlying98 hi hz0 hz1 hz2 rfl (by decide) v bs.length bs (hown.alloc _)
    ⟨w1.heap.size, 0, none⟩ 1 1 [.int .u8 c] rfl (cell_one_new _ _ _) (fun x hx => by simp at hx; subst hx; rfl) (by decide) (by unfold maxLen; omega) (by omega) (by simp; omega) _ rfl
  have hg3 : w1.grownBy w2 v.ownBlock := grown_trans (grown_of_below ((Below.refl _ _).alloc (Nat.le_refl _) _) v.ownBlock) hg2 (fun k hk => Or.inl hk)
  have HPUT := hide (bd_put (bs' := bs ++ [.int .u8 c]) hB hBw1 hbk hown (by simpa using hown2) hg3 (fun k hk => by
    simp [Value.ownBlock] at hk
    subst hk
    rcases hat2 with e | e
    · exact Or.inl e
    · right; simp at e; omega))
  have hb2 : w2.heap[b]? = some (.cells #[.pointer (some ⟨b, 0, none⟩), v] 100 (0, 0)) := by rw [hg3.block b hlt (fun e => hne e.symm)]; exact hbk
  have d0 : w2.cell? ⟨b, 0, none⟩ = some (.pointer (some ⟨b, 0, none⟩)) := by rw [Lib.cell_of_heap hb2]; rfl
  have d1 : w2.cell? ⟨b, 1, none⟩ = some v := by rw [Lib.cell_of_heap hb2]; rfl
  have f1 : w2.frozen? ⟨b, 1, none⟩ = false := Lib.frozen_of_heap hb2 1
  have HR := hide hr2
  have HFR := hide hfr
  clear hr2 hown hown2 hg2 hg3 hat2 hbk hfr hb2
  go_wp2_with (at_builtin; refine wpList_append_eq rfl _ _ _ _ rfl rfl rfl HR.out ?_)
  go_ret
  exact ⟨rfl, _, HPUT.out.1, HFR.out.trans HPUT.out.2⟩

set_option maxHeartbeats 1000000 in
set_option maxRecDepth 100000 in
theorem writeString_any (B b : Nat) (bs : List Value) (v : Value) (s : ByteArray) (w : World) (h : Bld w B b bs v) (hlen : bs.length + s.size ≤ 1000000000) (hBw : B ≤ w.heap.size) :
    Calls Tryz.prog 79 #[.pointer (some ⟨b, 0, none⟩), .string s] w fun e w' => e = .returned (.tuple #[.int .i64 s.size, .nilIface]) ∧ ∃ v', Bld w' B b (bs ++ Lib.strCells s) v' ∧ BFr w w' b v v' := by
  obtain ⟨i0, hi, hz0, hz1, hz2⟩ := info_parts Tryz.infoByte
  have hB := h.1
  have H := hide h
  clear h
  go_enter Tryz.func79, Tryz.ntmps79
  go_wp2_with (go_at_call 105; refine (copyCheck_any B b bs v _ H.out).mono ?_)
  rintro e w1 ⟨rfl, hbk, hown, hfr⟩
  have c0 : w1.cell? ⟨b, 0, none⟩ = some (.pointer (some ⟨b, 0, none⟩)) := by rw [Lib.cell_of_heap hbk]; rfl
  have c1 : w1.cell? ⟨b, 1, none⟩ = some v := by rw [Lib.cell_of_heap hbk]; rfl
  have hlt := bd_lt hbk
  have hne : v.ownBlock ≠ some b := Lib.ownBlock_ne hown hbk (by decide)
  have hBw1 : B ≤ w1.heap.size := Nat.le_trans hBw hfr.2.2.2.1
  obtain ⟨v2, w2, hr2, hown2, hg2, hnil2⟩ := Lib.run_append_own_string (P := Tryz.prog) w1 B 98 9 98 5 i0 Tryz.underlying98 Tryz.underlying9 hi hz0 hz1 hz2 v bs.length bs hown s (by unfold maxLen; omega) (by omega) hBw1
  have hat := str_at hown (by omega) hr2 hnil2
  have HPUT := hide (bd_put (bs' := bs ++ Lib.strCells s) hB hBw1 hbk hown (by simpa [Lib.strCells_length] using hown2) hg2 hat)
  have hb2 : w2.heap[b]? = some (.cells #[.pointer (some ⟨b, 0, none⟩), v] 100 (0, 0)) := by rw [hg2.block b hlt (fun e => hne e.symm)]; exact hbk
  have d0 : w2.cell? ⟨b, 0, none⟩ = some (.pointer (some ⟨b, 0, none⟩)) := by rw [Lib.cell_of_heap hb2]; rfl
  have d1 : w2.cell? ⟨b, 1, none⟩ = some v := by rw [Lib.cell_of_heap hb2]; rfl
  have f1 : w2.frozen? ⟨b, 1, none⟩ = false := Lib.frozen_of_heap hb2 1
  obtain ⟨ao, n', cap, rfl⟩ : ∃ ao n' cap, v2 = .slice ao n' cap := by
    rcases hown2.2 with ⟨hv, _⟩ | ⟨g, cap, cur, hv, _⟩
    · exact ⟨_, _, _, hv⟩
    · exact ⟨_, _, _, hv⟩
  have HR := hide hr2
  have HFR := hide hfr
  clear hr2 hown hown2 hg2 hat hnil2 hbk hfr hb2
  go_wp2_with (at_builtin; refine wpList_append_eq rfl _ _ _ _ rfl rfl rfl HR.out ?_)
  go_ret2
  exact ⟨rfl, _, HPUT.out.1, HFR.out.trans HPUT.out.2⟩
end Go.Proofs.YtdmaijmglblccaaGreatDoor

/- The tree that a lambda term is, and how it lies in memory. -/
namespace Go.Proofs.YtdmaijmglblccaaGreatDoor
open Go.RowKit

/-- A lambda term as a tree. -/
structure Lm where
  kind : Int
  idx : Int
  subs : List Lm

theorem Lm.ind {P : Lm → Prop} (h : ∀ k x l, (∀ y ∈ l, P y) → P ⟨k, x, l⟩) (t : Lm) : P t :=
  Lm.rec (motive_1 := P) (motive_2 := fun l => ∀ x ∈ l, P x) (fun k x l ih => h k x l ih) (fun x hx => by cases hx)
    (fun a l ha hl x hx => by
      rcases List.mem_cons.1 hx with e | e
      · subst e; exact ha
      · exact hl x e) t

theorem Lm.indL {P : List Lm → Prop} (h0 : P []) (h : ∀ k x l r, P l → P r → P (⟨k, x, l⟩ :: r)) (l : List Lm) : P l :=
  Lm.rec_1 (motive_1 := fun t => P t.subs) (motive_2 := P) (fun _ _ _ ih => ih) h0 (fun a l ha hl => by obtain ⟨k, x, m⟩ := a; exact h k x m l ha hl) l

/-- A list of lambda terms lies in a row of cells, three a term, in blocks that X lets. -/
def LiesM (w : World) (X : Nat → Prop) : Nat → Nat → List Lm → Prop
  | _, _, [] => True
  | b, o, ⟨k, x, l⟩ :: r => X b ∧ w.cell? ⟨b, o, none⟩ = some (.int .i64 k) ∧ w.cell? ⟨b, o + 1, none⟩ = some (.int .i64 x) ∧
      (∃ a c, w.cell? ⟨b, o + 2, none⟩ = some (.slice a l.length c) ∧ l.length ≤ 9223372036854775807 ∧ (l = [] ∨ ∃ b' o', a = some ⟨b', o', none⟩ ∧ LiesM w X b' o' l)) ∧ LiesM w X b (o + 3) r

/-- What a slice of lambda terms holds. -/
def SlM (w : World) (X : Nat → Prop) (a : Option Addr) (l : List Lm) : Prop := l.length ≤ 9223372036854775807 ∧ (l = [] ∨ ∃ b o, a = some ⟨b, o, none⟩ ∧ LiesM w X b o l)

/-- What a lambda term's value holds. -/
def MV (w : World) (X : Nat → Prop) (v : Value) (t : Lm) : Prop := ∃ a c, v = .agg #[.int .i64 t.kind, .int .i64 t.idx, .slice a t.subs.length c] ∧ SlM w X a t.subs

theorem liesM_kept {w w' : World} {X : Nat → Prop} (h : ∀ b, X b → w'.heap[b]? = w.heap[b]?) (l : List Lm) : ∀ b o, LiesM w X b o l → LiesM w' X b o l := by
  induction l using Lm.indL with
  | h0 => intro b o _; simp [LiesM]
  | h k x l r ihl ihr =>
    intro b o hl
    simp only [LiesM] at hl ⊢
    obtain ⟨hx, h1, h1', ⟨a, c, h2, h2', h3⟩, h4⟩ := hl
    refine ⟨hx, by rw [World.cell?_of_block (h b hx)]; exact h1, by rw [World.cell?_of_block (h b hx)]; exact h1', ⟨a, c, by rw [World.cell?_of_block (h b hx)]; exact h2, h2', ?_⟩, ihr _ _ h4⟩
    rcases h3 with h3 | ⟨b', o', h3, h5⟩
    · exact Or.inl h3
    · exact Or.inr ⟨b', o', h3, ihl _ _ h5⟩

theorem liesM_mono {w : World} {X Y : Nat → Prop} (h : ∀ b, X b → b < w.heap.size → Y b) (l : List Lm) : ∀ b o, LiesM w X b o l → LiesM w Y b o l := by
  induction l using Lm.indL with
  | h0 => intro b o _; simp [LiesM]
  | h k x l r ihl ihr =>
    intro b o hl
    simp only [LiesM] at hl ⊢
    obtain ⟨hx, h1, h1', ⟨a, c, h2, h2', h3⟩, h4⟩ := hl
    have hb : b < w.heap.size := by
      apply Classical.byContradiction
      intro hn
      have e : w.heap[b]? = none := Array.getElem?_eq_none (by omega)
      simp [World.cell?, e] at h1
    refine ⟨h b hx hb, h1, h1', ⟨a, c, h2, h2', ?_⟩, ihr _ _ h4⟩
    rcases h3 with h3 | ⟨b', o', h3, h5⟩
    · exact Or.inl h3
    · exact Or.inr ⟨b', o', h3, ihl _ _ h5⟩
theorem SlM.kept {w w' : World} {X : Nat → Prop} {a : Option Addr} {l : List Lm} (h : SlM w X a l) (hk : ∀ b, X b → w'.heap[b]? = w.heap[b]?) : SlM w' X a l := by
  obtain ⟨hl, h⟩ := h
  refine ⟨hl, ?_⟩
  rcases h with h | ⟨b, o, e, h⟩
  · exact Or.inl h
  · exact Or.inr ⟨b, o, e, liesM_kept hk _ _ _ h⟩

theorem SlM.mono {w : World} {X Y : Nat → Prop} {a : Option Addr} {l : List Lm} (h : SlM w X a l) (hk : ∀ b, X b → b < w.heap.size → Y b) : SlM w Y a l := by
  obtain ⟨hl, h⟩ := h
  refine ⟨hl, ?_⟩
  rcases h with h | ⟨b, o, e, h⟩
  · exact Or.inl h
  · exact Or.inr ⟨b, o, e, liesM_mono hk _ _ _ h⟩

theorem SlM.below {w w' : World} {X : Nat → Prop} {a : Option Addr} {l : List Lm} {B : Nat} (h : SlM w X a l) (hb : Below B w w') (hX : ∀ b, X b → b < w.heap.size → b < B) : SlM w' X a l := by
  have h1 : SlM w (fun b => X b ∧ b < B) a l := h.mono fun b hx hs => ⟨hx, hX b hx hs⟩
  have h2 : SlM w' (fun b => X b ∧ b < B) a l := h1.kept fun b hx => hb.block b hx.2
  exact h2.mono fun b hx _ => hx.1

theorem MV.kept {w w' : World} {X : Nat → Prop} {v : Value} {t : Lm} (h : MV w X v t) (hk : ∀ b, X b → w'.heap[b]? = w.heap[b]?) : MV w' X v t := by
  obtain ⟨a, c, e, h⟩ := h
  exact ⟨a, c, e, h.kept hk⟩

theorem MV.mono {w : World} {X Y : Nat → Prop} {v : Value} {t : Lm} (h : MV w X v t) (hk : ∀ b, X b → b < w.heap.size → Y b) : MV w Y v t := by
  obtain ⟨a, c, e, h⟩ := h
  exact ⟨a, c, e, h.mono hk⟩

theorem MV.below {w w' : World} {X : Nat → Prop} {v : Value} {t : Lm} {B : Nat} (h : MV w X v t) (hb : Below B w w') (hX : ∀ b, X b → b < w.heap.size → b < B) : MV w' X v t := by
  obtain ⟨a, c, e, h⟩ := h
  exact ⟨a, c, e, h.below hb hX⟩

theorem MV.alloc {w : World} {X : Nat → Prop} {v : Value} {t : Lm} (h : MV w X v t) (o : Obj) : MV (w.alloc o) X v t :=
  h.below ((Below.refl _ _).alloc (Nat.le_refl _) o) (fun _ _ h => h)

theorem MV.later {w w' : World} {X : Nat → Prop} {v : Value} {t : Lm} (h : MV w X v t) (hb : Below w.heap.size w w') : MV w' X v t := h.below hb (fun _ _ h => h)

theorem SlM.later {w w' : World} {X : Nat → Prop} {a : Option Addr} {l : List Lm} (h : SlM w X a l) (hb : Below w.heap.size w w') : SlM w' X a l := h.below hb (fun _ _ h => h)

/-- One of a row. -/
theorem liesM_get {w : World} {X : Nat → Prop} : ∀ (l : List Lm) (b o : Nat), LiesM w X b o l → ∀ i (h : i < l.length),
    X b ∧ w.cell? ⟨b, o + i * 3, none⟩ = some (.int .i64 l[i].kind) ∧ w.cell? ⟨b, o + i * 3 + 1, none⟩ = some (.int .i64 l[i].idx) ∧ ∃ a c, w.cell? ⟨b, o + i * 3 + 2, none⟩ = some (.slice a l[i].subs.length c) ∧ SlM w X a l[i].subs := by
  intro l
  induction l with
  | nil => intro b o _ i h; simp at h
  | cons t r ih =>
    intro b o hl i h
    obtain ⟨s, x, k⟩ := t
    simp only [LiesM] at hl
    obtain ⟨hx, h1, h1', ⟨a, c, h2, h3⟩, h4⟩ := hl
    cases i with
    | zero => exact ⟨hx, h1, h1', a, c, h2, h3⟩
    | succ i =>
      have := ih b (o + 3) h4 i (by simpa using h)
      simp only [List.getElem_cons_succ]
      rw [show o + (i + 1) * 3 = o + 3 + i * 3 by omega]
      exact this

/-- One of a slice, in a later world. -/
theorem SlM.get {w wr : World} {X : Nat → Prop} {a : Option Addr} {l : List Lm} {B : Nat} (h : SlM w X a l) (hb : Below B w wr) (hX : ∀ b, X b → b < w.heap.size → b < B) (k : Nat) (hk : k < l.length) :
    ∃ b o a' c', a = some ⟨b, o, none⟩ ∧ wr.cell? ⟨b, o + k * 3, none⟩ = some (.int .i64 l[k].kind) ∧ wr.cell? ⟨b, o + k * 3 + 1, none⟩ = some (.int .i64 l[k].idx) ∧ wr.cell? ⟨b, o + k * 3 + 2, none⟩ = some (.slice a' l[k].subs.length c') ∧ MV wr X (.agg #[.int .i64 l[k].kind, .int .i64 l[k].idx, .slice a' l[k].subs.length c']) l[k] := by
  have h' := h.below hb hX
  obtain ⟨_, h1⟩ := h'
  rcases h1 with h1 | ⟨b, o, e, h1⟩
  · subst h1; simp at hk
  · obtain ⟨_, h2, h2', a', c', h3, h4⟩ := liesM_get _ _ _ h1 k hk
    exact ⟨b, o, a', c', e, h2, h2', h3, a', c', rfl, h4⟩
end Go.Proofs.YtdmaijmglblccaaGreatDoor


/- Walks: how many knots a lambda term has. -/
namespace Go.Proofs.YtdmaijmglblccaaGreatDoor
open Go.RowKit
set_option linter.unusedSimpArgs false
set_option linter.unusedVariables false

end Go.Proofs.YtdmaijmglblccaaGreatDoor


/- Walks: may a lambda term be? -/
namespace Go.Proofs.YtdmaijmglblccaaGreatDoor
open Go.RowKit
set_option linter.unusedSimpArgs false
set_option linter.unusedVariables false
set_option maxRecDepth 8000

end Go.Proofs.YtdmaijmglblccaaGreatDoor

/- Rows of lambda terms. -/
namespace Go.Proofs.YtdmaijmglblccaaGreatDoor
open Go.RowKit
set_option linter.unusedSimpArgs false
set_option linter.unusedVariables false

/-- These cells are these lambda terms. -/
def RowTM (w : World) (X : Nat → Prop) : List Lm → List Value → Prop
  | [], xs => xs = []
  | t :: l, xs => ∃ a c r, xs = .int .i64 t.kind :: .int .i64 t.idx :: .slice a t.subs.length c :: r ∧ SlM w X a t.subs ∧ RowTM w X l r
theorem RowTM.len {w : World} {X : Nat → Prop} : ∀ {l : List Lm} {xs : List Value}, RowTM w X l xs → xs.length = l.length * 3
  | [], xs, h => by simp [RowTM] at h; simp [h]
  | t :: l, xs, h => by
    obtain ⟨a, c, r, rfl, _, h⟩ := h
    simp only [List.length_cons]
    rw [RowTM.len h]; omega
theorem RowTM.append {w : World} {X : Nat → Prop} : ∀ {l k : List Lm} {xs ys : List Value}, RowTM w X l xs → RowTM w X k ys → RowTM w X (l ++ k) (xs ++ ys)
  | [], k, xs, ys, h, h' => by simp [RowTM] at h; subst h; simpa using h'
  | t :: l, k, xs, ys, h, h' => by
    obtain ⟨a, c, r, rfl, hs, h⟩ := h
    exact ⟨a, c, r ++ ys, rfl, hs, RowTM.append h h'⟩
theorem RowTM.imp {w w' : World} {X Y : Nat → Prop} (hs : ∀ a l, SlM w X a l → SlM w' Y a l) : ∀ {l : List Lm} {xs : List Value}, RowTM w X l xs → RowTM w' Y l xs
  | [], xs, h => h
  | t :: l, xs, h => by
    obtain ⟨a, c, r, e, h1, h⟩ := h
    exact ⟨a, c, r, e, hs _ _ h1, RowTM.imp hs h⟩
theorem liesM_of_row {w w' : World} {X Y : Nat → Prop} (b : Nat) (hb : Y b) : ∀ (l : List Lm) (xs : List Value) (o : Nat), RowTM w X l xs → (∀ a k, SlM w X a k → SlM w' Y a k) → (∀ j u, xs[j]? = some u → w'.cell? ⟨b, o + j, none⟩ = some u) → LiesM w' Y b o l := by
  intro l
  induction l with
  | nil => intro xs o _ _ _; simp [LiesM]
  | cons t r ih =>
    intro xs o h hs hc
    obtain ⟨s, x, k⟩ := t
    obtain ⟨a, c, r', rfl, h1, h2⟩ := h
    simp only [LiesM]
    obtain ⟨h3, h4⟩ := hs _ _ h1
    refine ⟨hb, hc 0 _ rfl, hc 1 _ rfl, ⟨a, c, hc 2 _ rfl, h3, h4⟩, ih r' (o + 3) h2 hs fun j u hj => ?_⟩
    have := hc (j + 3) u (by simpa using hj)
    rwa [show o + (j + 3) = o + 3 + j by omega] at this

/-- The row so far, apart from what its terms are made of: old memory that Y lets, and new memory. -/
structure RowM (w : World) (N : Nat) (T : Nat) (Y : Nat → Prop) (v : Value) (l : List Lm) (xs : List Value) : Prop where
  own : w.ownsRow N T 3 v l.length xs
  row : RowTM w (fun b => Y b ∨ (N ≤ b ∧ some b ≠ v.ownBlock)) l xs

theorem RowM.start (w : World) (N T : Nat) (Y : Nat → Prop) : RowM w N T Y (.slice none 0 0) [] [] := ⟨World.ownsRow_nil w N T 3, rfl⟩

theorem RowM.below {w w' : World} {N T : Nat} {Y : Nat → Prop} {v : Value} {l : List Lm} {xs : List Value} (h : RowM w N T Y v l xs) (hb : Below w.heap.size w w') : RowM w' N T Y v l xs :=
  ⟨h.own.kept (w' := w') (row := none) ⟨hb.os, hb.tape, hb.output, hb.size, fun j hj _ => hb.block j hj⟩ (by rcases Option.eq_none_or_eq_some (Value.ownBlock v) with h | ⟨x, h⟩; exact Or.inl h; exact Or.inr (by rw [h]; simp)),
   h.row.imp fun a l h => h.later hb⟩

theorem RowM.ne {w : World} {N T : Nat} {Y : Nat → Prop} {v : Value} {l : List Lm} {xs : List Value} (h : RowM w N T Y v l xs) {b : Nat} (hb : b < N) : some b ≠ v.ownBlock := fun e => by
  have := (h.own.lt b e.symm).1; omega

/-- One more: the term's cells have been laid into a block of their own, and appended. -/
theorem RowM.push {w w1 w2 w3 : World} {N T : Nat} {Y : Nat → Prop} {v : Value} {l : List Lm} {xs : List Value} (h : RowM w N T Y v l xs) (hN : N ≤ w.heap.size) (hY : ∀ b, Y b → b < N) (hb : Below w.heap.size w w1) {s s2 : Int} {a : Option Addr} {n c : Nat} {t : Lm}
    (ht : MV w1 (fun b => Y b ∨ w.heap.size ≤ b) (.agg #[.int .i64 s, .int .i64 s2, .slice a n c]) t) (o : Obj) (hw2 : w2 = w1.alloc o) {g cap : Nat}
    (hown : w3.ownsRow N T 3 (.slice (some ⟨g, 0, none⟩) (l.length + 1) cap) (l.length + 1) (xs ++ [.int .i64 s, .int .i64 s2, .slice a n c])) (hg : w2.grownBy w3 v.ownBlock) (hg1 : v.ownBlock = some g ∨ g = w2.heap.size) :
    RowM w3 N T Y (.slice (some ⟨g, 0, none⟩) (l.length + 1) cap) (l ++ [t]) (xs ++ [.int .i64 s, .int .i64 s2, .slice a n c]) := by
  subst hw2
  have hlt := h.own.lt
  refine ⟨by simpa using hown, ?_⟩
  have hsz : w1.heap.size ≤ (w1.alloc o).heap.size := by simp
  have hbs := hb.size
  have hgN : N ≤ g := by
    rcases hg1 with e | e
    · exact (hlt g e).1
    · simp at e; omega
  refine RowTM.append (h.row.imp fun a' k' hs => ?_) ?_
  · have h1 : SlM w (fun b => (Y b ∨ (N ≤ b ∧ some b ≠ v.ownBlock)) ∧ b < w.heap.size) a' k' := hs.mono fun b h1 h2 => ⟨h1, h2⟩
    have h2 : SlM w3 (fun b => (Y b ∨ (N ≤ b ∧ some b ≠ v.ownBlock)) ∧ b < w.heap.size) a' k' := h1.kept fun b hx => by
      have hne : some b ≠ v.ownBlock := by
        rcases hx.1 with hy | hy
        · exact h.ne (hY b hy)
        · exact hy.2
      rw [hg.block b (by simp; omega) hne, Below.heap_alloc _ _ _ (by omega), hb.block b hx.2]
    refine h2.mono fun b hx _ => ?_
    rcases hx.1 with hy | hy
    · exact Or.inl hy
    · refine Or.inr ⟨hy.1, fun e => ?_⟩
      simp [Value.ownBlock] at e
      rcases hg1 with e' | e'
      · exact hy.2 (by rw [e', e])
      · simp at e'; omega
  · obtain ⟨a2, c2, e, hs⟩ := ht
    simp at e
    obtain ⟨rfl, rfl, rfl, rfl, rfl⟩ := e
    refine ⟨a, c, [], rfl, ?_, rfl⟩
    have h1 : SlM w1 (fun b => (Y b ∨ w.heap.size ≤ b) ∧ b < w1.heap.size) a t.subs := hs.mono fun b h1 h2 => ⟨h1, h2⟩
    have h2 : SlM w3 (fun b => (Y b ∨ w.heap.size ≤ b) ∧ b < w1.heap.size) a t.subs := h1.kept fun b hx => by
      have hne : some b ≠ v.ownBlock := by
        rcases hx.1 with hy | hy
        · exact h.ne (hY b hy)
        · intro e; have := (hlt b e.symm).2; omega
      rw [hg.block b (by simp; omega) hne, Below.heap_alloc _ _ _ hx.2]
    refine h2.mono fun b hx _ => ?_
    rcases hx.1 with hy | hy
    · exact Or.inl hy
    · refine Or.inr ⟨by omega, fun e => ?_⟩
      simp [Value.ownBlock] at e
      rcases hg1 with e' | e'
      · have := (hlt g e').2; omega
      · simp at e'; omega

/-- A store into a block that is none of the row's. -/
theorem RowM.setCell {w : World} {N T : Nat} {Y : Nat → Prop} {v : Value} {l : List Lm} {xs : List Value} (h : RowM w N T Y v l xs) {b i : Nat} (hb : b < N) (hY : ¬ Y b) (u : Value) : RowM (w.setCell ⟨b, i, none⟩ u) N T Y v l xs :=
  ⟨ownsRow_setCell_below h.own (by simpa using hb) u, h.row.imp fun a k hs => hs.kept fun c hc => Below.heap_setCell _ _ _ _ (by
    simp
    rcases hc with hc | hc
    · intro e; subst e; exact hY hc
    · omega)⟩

theorem RowM.sl {w : World} {N T : Nat} {Y : Nat → Prop} {v : Value} {l : List Lm} {xs : List Value} (h : RowM w N T Y v l xs) : ∃ a c, v = .slice a l.length c ∧ SlM w (fun b => Y b ∨ N ≤ b) a l := by
  have hml : l.length ≤ 9223372036854775807 := by
    rcases h.own.2 with ⟨_, h0⟩ | ⟨g, cap, cur, _, _, _, h1, h2, _⟩
    · omega
    · unfold maxLen at h2; omega
  by_cases h0 : 0 < l.length
  · obtain ⟨g, cap, rfl, hg, hlt, hc⟩ := owned_val h.own h0
    exact ⟨_, _, rfl, hml, Or.inr ⟨g, 0, rfl, liesM_of_row g (Or.inr hg) l xs 0 h.row (fun a k hs => hs.mono fun b hb _ => hb.imp id (fun h => h.1)) (fun j u hj => by simpa using hc j u hj)⟩⟩
  · have e : l = [] := List.length_eq_zero_iff.1 (by omega)
    subst e
    rcases h.own.2 with ⟨hv, _⟩ | ⟨g, cap, cur, hv, _⟩
    · exact ⟨none, 0, hv, hml, Or.inl rfl⟩
    · exact ⟨_, _, hv, hml, Or.inl rfl⟩

end Go.Proofs.YtdmaijmglblccaaGreatDoor


/- Walks: may a lambda term be, as the document says. -/
namespace Go.Proofs.YtdmaijmglblccaaGreatDoor
open Go.RowKit
set_option linter.unusedSimpArgs false
set_option linter.unusedVariables false
set_option maxRecDepth 8000

end Go.Proofs.YtdmaijmglblccaaGreatDoor


/- What a round that appends a lambda term does. -/
namespace Go.Proofs.YtdmaijmglblccaaGreatDoor
open Go.RowKit
set_option linter.unusedSimpArgs false
set_option linter.unusedVariables false
set_option maxRecDepth 8000

end Go.Proofs.YtdmaijmglblccaaGreatDoor

/- Lambda terms: what is bound from outside is moved; a term is put in (plain). -/
namespace Go.Proofs.YtdmaijmglblccaaGreatDoor
open Go.RowKit
set_option linter.unusedSimpArgs false
set_option linter.unusedVariables false
set_option maxRecDepth 8000

/-- No number is great. -/
def BndM : List Lm → Prop
  | [] => True
  | ⟨_, x, l⟩ :: r => (0 ≤ x ∧ x ≤ 100000) ∧ BndM l ∧ BndM r
theorem BndM_nil : BndM [] := by simp [BndM]
theorem BndM_cons (k x : Int) (l r : List Lm) : BndM (⟨k, x, l⟩ :: r) ↔ (0 ≤ x ∧ x ≤ 100000) ∧ BndM l ∧ BndM r := by simp [BndM]
theorem BndM.at : ∀ {l : List Lm} (k : Nat) (h : k < l.length), BndM l → BndM [l[k]]
  | [], k, h, _ => by simp at h
  | ⟨s, x, l⟩ :: r, 0, h, hb => by
    rw [BndM_cons] at hb
    exact (BndM_cons s x l []).2 ⟨hb.1, hb.2.1, BndM_nil⟩
  | ⟨s, x, l⟩ :: r, k + 1, h, hb => by
    rw [BndM_cons] at hb
    have := BndM.at (l := r) k (by simpa using h) hb.2.2
    simpa using this
end Go.Proofs.YtdmaijmglblccaaGreatDoor


/- Walks: what is bound from outside is moved, as the document says. -/
namespace Go.Proofs.YtdmaijmglblccaaGreatDoor
open Go.RowKit
set_option linter.unusedSimpArgs false
set_option linter.unusedVariables false
set_option maxRecDepth 8000

end Go.Proofs.YtdmaijmglblccaaGreatDoor

/- Walks: does some variable stand in a term (knots.IsOpen). -/
namespace Go.Proofs.YtdmaijmglblccaaGreatDoor
open Go.RowKit
set_option linter.unusedSimpArgs false
set_option linter.unusedVariables false
set_option maxRecDepth 8000

/-- A variable stands in it. -/
def opnB (t : Tm) : Bool := (preL [t]).any fun k => varB k.name
theorem opnB_eq (t : Tm) : opnB t = (varB t.name || t.args.any opnB) := by
  have key : ∀ l : List Tm, ((preL l).any fun k => varB k.name) = l.any opnB := by
    intro l
    induction l with
    | nil => simp [preL]
    | cons x r ih =>
      have h := preL_append [x] r
      simp only [List.singleton_append] at h
      rw [h, List.any_append, ih, List.any_cons]
      rfl
  obtain ⟨s, l⟩ := t
  unfold opnB
  rw [preL, List.any_cons, List.any_append, key l]
  rw [show preL ([] : List Tm) = [] by simp [preL]]
  simp only [List.any_nil, Bool.or_false]
  rfl
theorem varsP_pos : ∀ (ks : List Tm) (acc : List ByteArray), (0 < (varsP acc ks).length) ↔ (0 < acc.length ∨ (ks.any fun k => varB k.name) = true)
  | [], acc => by simp [varsP]
  | k :: r, acc => by
    have h : varsP acc (k :: r) = varsP (addV acc k.name) r := rfl
    rw [h, varsP_pos r, List.any_cons, Bool.or_eq_true]
    have h2 : 0 < (addV acc k.name).length ↔ (0 < acc.length ∨ varB k.name = true) := by
      cases hv : varB k.name with
      | false => rw [addV_no hv]; simp
      | true =>
        cases hi : inB k.name acc with
        | false => rw [addV_yes hv hi]; simp
        | true =>
          rw [addV_in hv hi]
          have : 0 < acc.length := by
            cases acc with
            | nil => simp [inB] at hi
            | cons a b => simp
          simp [this]
    rw [h2]
    constructor
    · rintro ((h | h) | h)
      · exact Or.inl h
      · exact Or.inr (Or.inl h)
      · exact Or.inr (Or.inr h)
    · rintro (h | h | h)
      · exact Or.inl (Or.inl h)
      · exact Or.inl (Or.inr h)
      · exact Or.inr h
theorem opn_vars (t : Tm) : (0 < (varsP [] (preL [t])).length) ↔ opnB t = true := by
  rw [varsP_pos]; simp [opnB]
theorem any_takeT {l : List Tm} {f : Tm → Bool} {k : Nat} (h : k < l.length) (hk : (l.take k).any f = false) (h1 : f l[k] = false) : (l.take (k + 1)).any f = false := by
  rw [List.take_succ_eq_append_getElem h, List.any_append, hk]; simp [h1]
theorem any_atT {l : List Tm} {f : Tm → Bool} {k : Nat} (h : k < l.length) (h1 : f l[k] = true) : l.any f = true := List.any_eq_true.2 ⟨_, List.getElem_mem h, h1⟩

set_option maxHeartbeats 1000000 in
theorem indexOpen_of (l : List Tm) (HC : ∀ x ∈ l, ∀ (v : Value) (w : World) (X : Nat → Prop), TV w X v x → Calls Tryz.prog 34 #[v] w fun e w' => e = .returned (.bool (opnB x)) ∧ Below w.heap.size w w') (a : Option Addr) (c : Nat) (w : World) (X : Nat → Prop) (hs : Sl w X a l) :
    Calls Tryz.prog 72 #[.slice a l.length c, .func (.func 34) #[] #[]] w fun e w' => ∃ z : Int, e = .returned (.int .i64 z) ∧ decide (0 ≤ z) = l.any opnB ∧ Below w.heap.size w w' := by
  have H := hide HC
  have HS := hide (hs.mono (Y := fun b => X b ∧ b < w.heap.size) fun b h1 h2 => ⟨h1, h2⟩)
  have hl := hs.1
  clear HC hs
  go_enter Tryz.func72, Tryz.ntmps72
  go_wp2_with fail
  go_loopw [8] (fun i wr => ∃ k : Nat, k ≤ l.length ∧ i = .int .i64 (k : Int) ∧ (l.take k).any opnB = false ∧ Below w.heap.size w wr) (fun i wr => l.length - (intOf i).toNat)
  case atStart => exact ⟨0, Nat.zero_le _, rfl, by simp, Below.refl _ _⟩
  case round =>
    obtain ⟨k, hk, rfl, hno, hbr⟩ := hrel
    have HNO := hide hno
    have HBR := hide hbr
    clear hno hbr
    by_cases hlt : k < l.length
    · have hki : (k : Int) < (l.length : Int) := by omega
      obtain ⟨b, o, a1, c1, rfl, x0, x1, hx⟩ := HS.out.get HBR.out (fun b h _ => h.2) k hlt
      have HX := hide hx
      clear hx
      go_wp2_with fail
      refine (H.out l[k] (List.getElem_mem hlt) _ _ _ HX.out).mono ?_
      rintro e w2 ⟨rfl, hb2⟩
      have HB2 := hide (HBR.out.trans (hb2.mono HBR.out.size))
      clear hb2 x0 x1
      cases ho : opnB l[k] with
      | true =>
        have HA := hide (any_atT (f := opnB) hlt ho)
        clear ho
        go_wp2_with fail
        go_ret
        exact ⟨_, rfl, by rw [HA.out]; simp, HB2.out⟩
      | false =>
        have HA := hide (any_takeT (f := opnB) hlt HNO.out ho)
        clear ho
        go_wp2_with fail
        go_roundw
        case rel => exact ⟨k + 1, by omega, by go_num, HA.out, HB2.out⟩
        case measure => simp [intOf]; omega
    · have hki : ¬ (k : Int) < (l.length : Int) := by omega
      have HA : Hid (l.any opnB = false) := by have h := HNO.out; rw [List.take_of_length_le (by omega)] at h; exact h
      go_wp2_with fail
      go_ret
      exact ⟨-1, rfl, by rw [HA.out]; rfl, HBR.out⟩
theorem isOpen_any (t : Tm) : ∀ (v : Value) (w : World) (X : Nat → Prop), TV w X v t → Calls Tryz.prog 34 #[v] w fun e w' => e = .returned (.bool (opnB t)) ∧ Below w.heap.size w w' := by
  induction t using Tm.ind with
  | h s0 l0 ih =>
    intro v w X ht
    have IH := hide ih
    clear ih
    obtain ⟨t, hte⟩ : ∃ t : Tm, t = ⟨s0, l0⟩ := ⟨_, rfl⟩
    rw [← hte] at ht ⊢
    have HTE : Hid (t.args = l0) := by rw [hte]; rfl
    clear hte
    obtain ⟨aw, ct, rfl, hst⟩ := ht
    have B1 : Hid (Below w.heap.size w (w.alloc (.cells #[.string t.name, .slice aw t.args.length ct] 25))) := (Below.refl _ _).alloc (Nat.le_refl _) _
    have K1 : Hid (Blk (w.alloc (.cells #[.string t.name, .slice aw t.args.length ct] 25)) w.heap.size #[.string t.name, .slice aw t.args.length ct] 25) := Blk.new _ _ _
    have S1 := hide (hst.later B1.out)
    have hla := hst.1
    clear hst
    have HV := hide (isVariable_all t.name (w.alloc (.cells #[.string t.name, .slice aw t.args.length ct] 25)))
    have c0 := K1.out.cell 0
    have c1 := K1.out.cell 1
    cases hv : varB t.name with
    | true =>
      have HO : Hid (opnB t = true) := by unfold Hid; rw [opnB_eq, hv]; rfl
      have HVV := hide hv
      clear hv
      go_enter Tryz.func34, Tryz.ntmps34
      go_wp2_with fail
      refine HV.out.mono ?_
      rintro e w2 ⟨rfl, rfl⟩
      rw [HVV.out]
      go_wp2_with fail
      go_ret
      exact ⟨by rw [HO.out]; rfl, B1.out⟩
    | false =>
      have HO : Hid (opnB t = t.args.any opnB) := by unfold Hid; rw [opnB_eq, hv]; rfl
      have HVV := hide hv
      clear hv
      go_enter Tryz.func34, Tryz.ntmps34
      go_wp2_with fail
      refine HV.out.mono ?_
      rintro e w2 ⟨rfl, rfl⟩
      rw [HVV.out]
      go_wp2_with fail
      generalize (w.alloc (.cells #[.string t.name, .slice aw t.args.length ct] 25)) = w1 at *
      clear c0 c1
      have CF : Calls Tryz.prog 53 #[.slice aw t.args.length ct, .func (.func 34) #[] #[]] w1 fun e w' => e = .returned (.bool (t.args.any opnB)) ∧ Below w1.heap.size w1 w' := by
        go_enter Tryz.func53, Tryz.ntmps53
        go_wp2_with fail
        refine (indexOpen_of t.args (fun x hx v w X h => IH.out x (by rw [← HTE.out]; exact hx) v w X h) aw ct _ _ S1.out).mono ?_
        rintro e w' ⟨z, rfl, hz, hb⟩
        have HZ := hide hz
        have HB := hide hb
        clear hz hb
        go_wp2_with fail
        go_ret
        exact ⟨by rw [← HZ.out]; rfl, HB.out⟩
      refine CF.mono ?_
      rintro e w3 ⟨rfl, hb3⟩
      have B3 := hide (B1.out.trans (hb3.mono B1.out.size))
      clear hb3
      go_wp2_with fail
      go_ret
      exact ⟨by rw [HO.out]; rfl, B3.out⟩
end Go.Proofs.YtdmaijmglblccaaGreatDoor


/- Walks: what stands at a place, as the document says. -/
namespace Go.Proofs.YtdmaijmglblccaaGreatDoor
open Go.RowKit
set_option linter.unusedSimpArgs false
set_option linter.unusedVariables false

theorem TV.back {w w' : World} {X : Nat → Prop} {v : Value} {t : Tm} {B : Nat} (h : TV w' X v t) (hb : Below B w w') (hX : ∀ b, X b → b < B) : TV w X v t := by
  obtain ⟨a, c, e, h⟩ := h
  exact ⟨a, c, e, h.back hb hX⟩

end Go.Proofs.YtdmaijmglblccaaGreatDoor


/- Walks: a copy of a term. -/
namespace Go.Proofs.YtdmaijmglblccaaGreatDoor
open Go.RowKit
set_option linter.unusedSimpArgs false
set_option linter.unusedVariables false

end Go.Proofs.YtdmaijmglblccaaGreatDoor

/- Walks: two terms that are the same. -/
namespace Go.Proofs.YtdmaijmglblccaaGreatDoor
open Go.RowKit
set_option linter.unusedSimpArgs false
set_option linter.unusedVariables false

theorem same_cells {w w1 : World} {n : Nat} {p1 p2 p3 p4 p5 p6 : Addr} {v1 v2 v3 v4 v5 v6 : Value} (hb : Below (w.drewN n).heap.size (w.drewN n) w1)
    (h : w.cell? p1 = some v1 ∧ w.cell? p2 = some v2 ∧ w.cell? p3 = some v3 ∧ w.cell? p4 = some v4 ∧ w.cell? p5 = some v5 ∧ w.cell? p6 = some v6) :
    w1.cell? p1 = some v1 ∧ w1.cell? p2 = some v2 ∧ w1.cell? p3 = some v3 ∧ w1.cell? p4 = some v4 ∧ w1.cell? p5 = some v5 ∧ w1.cell? p6 = some v6 := by
  have hb' : Below w.heap.size w w1 := (below_drewN (Below.refl _ _) n).trans (hb.mono (by simp))
  exact ⟨cell_later hb' h.1, cell_later hb' h.2.1, cell_later hb' h.2.2.1, cell_later hb' h.2.2.2.1, cell_later hb' h.2.2.2.2.1, cell_later hb' h.2.2.2.2.2⟩

end Go.Proofs.YtdmaijmglblccaaGreatDoor

/- Bindings in the order of their names: plain. -/
namespace Go.Proofs.YtdmaijmglblccaaGreatDoor
open Go.RowKit
set_option linter.unusedSimpArgs false
set_option linter.unusedVariables false

/-- One text is ahead of another one. -/
def ltB (a b : ByteArray) : Bool := Op.bytesLess a.toList b.toList
theorem bl_irrefl : ∀ a : List UInt8, Op.bytesLess a a = false
  | [] => rfl
  | x :: r => by simp [Op.bytesLess, bl_irrefl r]
theorem bl_trans : ∀ a b c : List UInt8, Op.bytesLess a b = true → Op.bytesLess b c = true → Op.bytesLess a c = true
  | _, [], _, h, _ => by simp [Op.bytesLess] at h
  | _, _ :: _, [], _, h => by simp [Op.bytesLess] at h
  | [], _ :: _, _ :: _, _, _ => by simp [Op.bytesLess]
  | x :: a, y :: b, z :: c, h1, h2 => by
    simp only [Op.bytesLess, Bool.or_eq_true, Bool.and_eq_true, decide_eq_true_eq, beq_iff_eq] at h1 h2 ⊢
    rw [UInt8.lt_iff_toNat_lt] at h1 h2 ⊢
    rcases h1 with h1 | ⟨rfl, h1⟩ <;> rcases h2 with h2 | ⟨rfl, h2⟩
    · left; omega
    · left; exact h1
    · left; exact h2
    · right; exact ⟨rfl, bl_trans a b c h1 h2⟩
theorem bl_conn : ∀ a b : List UInt8, Op.bytesLess a b = false → Op.bytesLess b a = false → a = b
  | [], [], _, _ => rfl
  | [], _ :: _, h, _ => by simp [Op.bytesLess] at h
  | _ :: _, [], _, h => by simp [Op.bytesLess] at h
  | x :: a, y :: b, h1, h2 => by
    simp only [Op.bytesLess, Bool.or_eq_false_iff, decide_eq_false_iff_not] at h1 h2
    obtain ⟨h1, h3⟩ := h1
    obtain ⟨h2, h4⟩ := h2
    rw [UInt8.lt_iff_toNat_lt] at h1 h2
    have e : x = y := UInt8.toNat_inj.mp (by omega)
    subst e
    simp only [BEq.rfl, Bool.true_and] at h3 h4
    rw [bl_conn a b h3 h4]
theorem ltB_irrefl (a : ByteArray) : ltB a a = false := bl_irrefl _
theorem ltB_trans {a b c : ByteArray} (h1 : ltB a b = true) (h2 : ltB b c = true) : ltB a c = true := bl_trans _ _ _ h1 h2
theorem ltB_conn {a b : ByteArray} (h1 : ltB a b = false) (h2 : ltB b a = false) : a = b := bytes_inj (bl_conn _ _ h1 h2)
theorem ltB_asymm {a b : ByteArray} (h : ltB a b = true) : ltB b a = false := by
  cases hb : ltB b a with
  | false => rfl
  | true => have := ltB_trans h hb; rw [ltB_irrefl] at this; cases this
/-- No name twice, and each ahead of the next. -/
def SortedB (l : List Bd) : Prop := l.Pairwise fun a b => ltB a.nm b.nm = true
/-- No name twice. -/
def ApartB (l : List Bd) : Prop := l.Pairwise fun a b => a.nm ≠ b.nm
theorem SortedB.apart {l : List Bd} (h : SortedB l) : ApartB l := h.imp fun {a b} h e => by rw [e, ltB_irrefl] at h; cases h
end Go.Proofs.YtdmaijmglblccaaGreatDoor

/- What comes of putting a term at a place. -/
namespace Go.Proofs.YtdmaijmglblccaaGreatDoor

end Go.Proofs.YtdmaijmglblccaaGreatDoor

/- A slice without its first. -/
namespace Go.Proofs.YtdmaijmglblccaaGreatDoor
open Go.RowKit
set_option linter.unusedSimpArgs false
set_option linter.unusedVariables false

end Go.Proofs.YtdmaijmglblccaaGreatDoor


/- The library's Clone at rows of terms. -/
namespace Go.Proofs.YtdmaijmglblccaaGreatDoor
open Go.RowKit Go.Shelf
set_option linter.unusedSimpArgs false
set_option linter.unusedVariables false
set_option maxRecDepth 8000

end Go.Proofs.YtdmaijmglblccaaGreatDoor


/- Walks: a term with another one at a place that it has. -/
namespace Go.Proofs.YtdmaijmglblccaaGreatDoor
open Go.RowKit
set_option linter.unusedSimpArgs false
set_option linter.unusedVariables false
set_option maxRecDepth 8000

theorem RowT.put {w : World} {X : Nat → Prop} {y : Tm} {a : Option Addr} {c : Nat} (hy : Sl w X a y.args) : ∀ {l : List Tm} {xs : List Value} (k : Nat), RowT w X l xs → k < l.length → RowT w X (l.set k y) ((xs.set (k * 2) (.string y.name)).set (k * 2 + 1) (.slice a y.args.length c))
  | [], xs, k, h, hk => by simp at hk
  | t :: l, xs, 0, h, _ => by
    obtain ⟨a', c', r, rfl, h1, h2⟩ := h
    exact ⟨a, c, r, by simp, hy, h2⟩
  | t :: l, xs, k + 1, h, hk => by
    obtain ⟨a', c', r, rfl, h1, h2⟩ := h
    refine ⟨a', c', (r.set (k * 2) (.string y.name)).set (k * 2 + 1) (.slice a y.args.length c), ?_, h1, RowT.put hy k h2 (by simpa using hk)⟩
    have e : (k + 1) * 2 = k * 2 + 1 + 1 := by omega
    rw [e]
    simp
end Go.Proofs.YtdmaijmglblccaaGreatDoor


/- Walks: a term with another one at a place, as the document says. -/
namespace Go.Proofs.YtdmaijmglblccaaGreatDoor
open Go.RowKit
set_option linter.unusedSimpArgs false
set_option linter.unusedVariables false
set_option maxRecDepth 8000

end Go.Proofs.YtdmaijmglblccaaGreatDoor


/- Walks: two answers that are terms. -/
namespace Go.Proofs.YtdmaijmglblccaaGreatDoor
open Go.RowKit
set_option linter.unusedSimpArgs false
set_option linter.unusedVariables false

end Go.Proofs.YtdmaijmglblccaaGreatDoor


/- Walks: Put, and the law on it. -/
namespace Go.Proofs.YtdmaijmglblccaaGreatDoor
open Go.RowKit
set_option linter.unusedSimpArgs false
set_option linter.unusedVariables false
set_option maxRecDepth 8000

end Go.Proofs.YtdmaijmglblccaaGreatDoor

/- Walks: the text of a term, as the program writes it. -/
namespace Go.Proofs.YtdmaijmglblccaaGreatDoor
open Go.RowKit
set_option linter.unusedSimpArgs false
set_option linter.unusedVariables false
set_option maxRecDepth 8000

theorem TV.bfr {w w' : World} {X : Nat → Prop} {v q q' : Value} {t : Tm} {b : Nat} (h : TV w X v t) (hf : BFr w w' b q q') (hX : ∀ x, X x → x ≠ b ∧ some x ≠ q.ownBlock) : TV w' X v t := by
  have h1 : TV w (fun x => X x ∧ x < w.heap.size) v t := h.mono fun b h1 h2 => ⟨h1, h2⟩
  have h2 : TV w' (fun x => X x ∧ x < w.heap.size) v t := h1.kept fun x hx => hf.2.2.2.2.1 x hx.2 (hX x hx.1).1 (hX x hx.1).2
  exact h2.mono fun b hx _ => hx.1
theorem Sl.bfr {w w' : World} {X : Nat → Prop} {a : Option Addr} {q q' : Value} {l : List Tm} {b : Nat} (h : Sl w X a l) (hf : BFr w w' b q q') (hX : ∀ x, X x → x ≠ b ∧ some x ≠ q.ownBlock) : Sl w' X a l := by
  have h1 : Sl w (fun x => X x ∧ x < w.heap.size) a l := h.mono fun b h1 h2 => ⟨h1, h2⟩
  have h2 : Sl w' (fun x => X x ∧ x < w.heap.size) a l := h1.kept fun x hx => hf.2.2.2.2.1 x hx.2 (hX x hx.1).1 (hX x hx.1).2
  exact h2.mono fun b hx _ => hx.1
theorem Bld.alloc {w : World} {B b : Nat} {bs : List Value} {v : Value} (h : Bld w B b bs v) (o : Obj) : Bld (w.alloc o) B b bs v := by
  obtain ⟨hB, ⟨p, hp, hb⟩, hown⟩ := h
  exact ⟨hB, ⟨p, hp, by rw [Below.heap_alloc _ _ _ (bd_lt hb)]; exact hb⟩, hown.alloc o⟩
theorem Bld.lt {w : World} {B b : Nat} {bs : List Value} {v : Value} (h : Bld w B b bs v) : b < w.heap.size := by
  obtain ⟨_, ⟨p, _, hb⟩, _⟩ := h
  exact bd_lt hb
theorem Bld.old {w : World} {B b : Nat} {bs : List Value} {v : Value} (h : Bld w B b bs v) {x : Nat} (hx : x < B) : x ≠ b ∧ some x ≠ v.ownBlock := by
  refine ⟨by have := h.1; omega, fun e => ?_⟩
  have := (h.2.2.lt x e.symm).1; omega
theorem Blk.bfr {w w' : World} {b k T : Nat} {q q' : Value} {cs : Array Value} (h : Blk w k cs T) (hf : BFr w w' b q q') (hk : k ≠ b) (hq : some k ≠ q.ownBlock) : Blk w' k cs T := by
  unfold Blk at *; rw [hf.2.2.2.2.1 k (Blk.lt h) hk hq]; exact h

def bytesV (l : List UInt8) : List Value := l.map fun b => Value.int .u8 b.toNat
theorem bytesV_len (l : List UInt8) : (bytesV l).length = l.length := by simp [bytesV]
theorem bytesV_str (pre : List UInt8) (s : ByteArray) : bytesV pre ++ Lib.strCells s = bytesV (pre ++ s.data.toList) := by simp [bytesV, Lib.strCells]
theorem bytesV_one (pre : List UInt8) (c : UInt8) : bytesV pre ++ [.int .u8 c.toNat] = bytesV (pre ++ [c]) := by simp [bytesV]

/-- The new box is none of the Builder's. -/
theorem Bld.box {w : World} {B b : Nat} {bs : List Value} {v : Value} (h : Bld w B b bs v) : w.heap.size ≠ b ∧ some w.heap.size ≠ v.ownBlock := by
  refine ⟨by have := h.lt; omega, fun e => ?_⟩
  have := (h.2.2.lt _ e.symm).2; omega

theorem own_box {w wr : World} {b : Nat} {q0 q : Value} {o : Obj} (h : some w.heap.size ≠ q0.ownBlock) (hf : BFr (w.alloc o) wr b q0 q) : some w.heap.size ≠ q.ownBlock := fun e => by
  rcases hf.2.2.2.2.2 _ e.symm with h1 | h1
  · exact h h1.symm
  · simp at h1; omega

/-- What holds at each round's head of writing. -/
def WrInv (w : World) (B b : Nat) (v0 : Value) (pre : List UInt8) (s : ByteArray) (l : List Tm) (i : Value) (wr : World) : Prop :=
  ∃ (k : Nat) (q : Value), k ≤ l.length ∧ i = .int .i64 k ∧ Bld wr B b (bytesV (pre ++ s.data.toList ++ 40 :: txtL (l.take k))) q ∧ BFr w wr b v0 q

theorem wr_take0 (pre : List UInt8) (s : ByteArray) (l : List Tm) : pre ++ s.data.toList ++ ([40] : List UInt8) = pre ++ s.data.toList ++ 40 :: txtL (l.take 0) := by simp [txtL]
theorem wr_take1 (pre : List UInt8) (s : ByteArray) (l : List Tm) (h : 0 < l.length) : pre ++ s.data.toList ++ 40 :: txtL (l.take 0) ++ txtL [l[0]'h] = pre ++ s.data.toList ++ 40 :: txtL (l.take (0 + 1)) := by
  rw [List.take_succ_eq_append_getElem h]; simp [txtL]
theorem wr_takeS (pre : List UInt8) (s : ByteArray) (l : List Tm) (k : Nat) (hk : 0 < k) (h : k < l.length) : pre ++ s.data.toList ++ 40 :: txtL (l.take k) ++ ([44] : List UInt8) ++ txtL [l[k]] = pre ++ s.data.toList ++ 40 :: txtL (l.take (k + 1)) := by
  have h1 : l.take k ≠ [] := by
    intro e
    have h3 := congrArg List.length e
    rw [List.length_take] at h3
    simp only [List.length_nil] at h3
    omega
  rw [List.take_succ_eq_append_getElem h, txtL_append _ _ h1 (by simp)]; simp
theorem wr_end (pre : List UInt8) (s : ByteArray) (l : List Tm) (h : l ≠ []) : pre ++ s.data.toList ++ 40 :: txtL l ++ ([41] : List UInt8) = pre ++ txtL [(⟨s, l⟩ : Tm)] := by
  rw [txtL_one, if_neg (by simpa using h)]; simp
theorem wr_len (pre : List UInt8) (s : ByteArray) (l : List Tm) (k : Nat) (h : l ≠ []) (hk : k ≤ l.length) : (pre ++ s.data.toList ++ 40 :: txtL (l.take k)).length ≤ pre.length + (txtL [(⟨s, l⟩ : Tm)]).length := by
  by_cases h0 : k = 0
  · subst h0
    rw [txtL_one, if_neg (by simpa using h)]
    simp [txtL]
  · have h1 := txtTo_len s l k hk
    unfold txtTo at h1
    rw [if_neg h0] at h1
    simp only [List.length_append] at *
    omega

set_option maxHeartbeats 2000000 in
theorem write_any (t : Tm) : ∀ (v q0 : Value) (pre : List UInt8) (B b : Nat) (w : World) (X : Nat → Prop), TV w X v t → (∀ x, X x → x < B) → Bld w B b (bytesV pre) q0 → B ≤ w.heap.size → pre.length + (txtL [t]).length ≤ 900000000 →
    Calls Tryz.prog 65 #[.pointer (some ⟨b, 0, none⟩), v] w fun e w' => e = .returned (.tuple #[]) ∧ ∃ q, Bld w' B b (bytesV (pre ++ txtL [t])) q ∧ BFr w w' b q0 q := by
  induction t using Tm.ind with
  | h s l ih =>
    intro v q0 pre B b w X hv hX hbd hB hsm
    have IH := hide ih
    clear ih
    obtain ⟨a, c, rfl, hs⟩ := hv
    have hl := hs.1
    have hsz : s.size ≤ (txtL [(⟨s, l⟩ : Tm)]).length := by
      rw [txtL_one]; have h2 : s.data.toList.length = s.size := by rw [Array.length_toList]; rfl
      simp only [List.length_append]; omega
    have HBD := hide hbd
    have hbox := hbd.box
    clear hbd
    go_enter Tryz.func65, Tryz.ntmps65
    go_wp2_with fail
    refine (writeString_any B b _ q0 s _ (by exact HBD.out.alloc _) (by rw [bytesV_len]; omega) (by simp; omega)).mono ?_
    rintro e w1 ⟨rfl, q1, hbd1, hfr1⟩
    rw [bytesV_str] at hbd1
    have K1 := hide ((Blk.new w #[.string s, .slice a l.length c] 25).bfr hfr1 hbox.1 hbox.2)
    have HFR1 := hide hfr1
    have HW0 := hide (BFr.of_below ((Below.refl w.heap.size w).alloc (Nat.le_refl _) (.cells #[.string s, .slice a l.length c] 25)) b q0)
    have c1 : w1.cell? ⟨w.heap.size, 1, none⟩ = some (.slice a l.length c) := K1.out.cell 1
    have HBD1 := hide hbd1
    clear hfr1 hbd1
    by_cases hn : l = []
    · subst hn
      have HE := hide (txt_nil s)
      go_wp2_with fail
      refine bodyPost_ret (v := .tuple #[]) (by simp [results, Tryz.results65, go_sem]) rfl ?_
      exact ⟨rfl, q1, by rw [HE.out]; exact HBD1.out, HW0.out.trans HFR1.out⟩
    · have hlp : 0 < l.length := List.length_pos_iff.2 hn
      have hlp' : (((l.length : Nat) : Int) == 0) = false := by simp; omega
      have HN := hide hn
      have hw0 := wr_len pre s l 0 hn (Nat.zero_le _)
      have hp1 : (bytesV (pre ++ s.data.toList)).length ≤ 900000000 := by rw [bytesV_len]; simp only [List.length_append, List.length_cons] at hw0 ⊢; omega
      clear hn hw0
      go_wp2_with fail
      refine (writeByte_any B b _ q1 40 _ (by exact HBD1.out) (by omega) (by have := HFR1.out.2.2.2.1; simp at this; omega)).mono ?_
      rintro e w2 ⟨rfl, q2, hbd2, hfr2⟩
      have hbd2' : Bld w2 B b (bytesV (pre ++ s.data.toList ++ 40 :: txtL (l.take 0))) q2 := by
        have h3 := bytesV_one (pre ++ s.data.toList) 40
        rw [← wr_take0, ← h3]; exact hbd2
      have HBD2 := hide hbd2'
      have HFR2 := hide (HFR1.out.trans hfr2)
      have K2 := hide (K1.out.bfr hfr2 hbox.1 (own_box hbox.2 HFR1.out))
      have c2 : w2.cell? ⟨w.heap.size, 1, none⟩ = some (.slice a l.length c) := K2.out.cell 1
      clear hbd2 hbd2' hfr2 c1
      go_wp2_with fail
      go_loopw [19] (fun i wr => WrInv (w.alloc (.cells #[.string s, .slice a l.length c] 25)) B b q0 pre s l i wr) (fun i wr => l.length - (intOf i).toNat)
      case atStart => exact ⟨0, q2, Nat.zero_le _, rfl, HBD2.out, HFR2.out⟩
      case round =>
        obtain ⟨k, q, hk, rfl, hbdk, hfrk⟩ := hrel
        have HBK := hide hbdk
        have HFK := hide hfrk
        have hwl := wr_len pre s l k HN.out hk
        have hBr : B ≤ wr.heap.size := by have := hfrk.2.2.2.1; simp at this; omega
        by_cases hlt : k < l.length
        · have hsr := (hs.later ((Below.refl w.heap.size w).alloc (Nat.le_refl _) (.cells #[.string s, .slice a l.length c] 25))).bfr hfrk (fun x hx => HBD.out.old (hX x hx))
          obtain ⟨bx, o, a', c', rfl, d0, d1, hx⟩ := hsr.get (Below.refl wr.heap.size wr) (fun _ _ h => h) k hlt
          have HX := hide hx
          have hwl2 := wr_len pre s l (k + 1) HN.out (by omega)
          clear hbdk hfrk hsr hx
          by_cases hk0 : k = 0
          · subst hk0
            simp only [Nat.zero_mul, Nat.add_zero] at d0 d1
            have HE := hide (wr_take1 pre s l hlt)
            have hln : (pre ++ s.data.toList ++ 40 :: txtL (l.take 0)).length + (txtL [l[0]]).length ≤ 900000000 := by
              rw [← HE.out] at hwl2; simp only [List.length_append] at hwl2 ⊢; omega
            clear hwl hwl2
            go_wp2_with fail
            refine (IH.out _ (List.getElem_mem hlt) _ q _ B b _ X (by exact HX.out.alloc _) hX (by exact HBK.out.alloc _) (by simp; omega) hln).mono ?_
            rintro e w5 ⟨rfl, q5, hbd5, hfr5⟩
            have HBD5 := hide hbd5
            have HFR5 := hide (HFK.out.trans ((BFr.of_below ((Below.refl wr.heap.size wr).alloc (Nat.le_refl _) _) b q).trans hfr5))
            clear hbd5 hfr5
            go_wp2_with fail
            go_roundw
            case rel => exact ⟨0 + 1, q5, by omega, by go_num, by rw [← HE.out]; exact HBD5.out, HFR5.out⟩
            case measure => simp [intOf]; omega
          · have hkp : 0 < k := by omega
            have HE := hide (wr_takeS pre s l k hkp hlt)
            have hln : (pre ++ s.data.toList ++ 40 :: txtL (l.take k) ++ ([44] : List UInt8)).length + (txtL [l[k]]).length ≤ 900000000 := by
              rw [← HE.out] at hwl2; simp only [List.length_append] at hwl2 ⊢; omega
            have hbk : (bytesV (pre ++ s.data.toList ++ 40 :: txtL (l.take k))).length ≤ 1000000000 := by rw [bytesV_len]; omega
            clear hwl hwl2 hk0
            go_wp2_with fail
            refine (writeByte_any B b _ q 44 _ (by exact HBK.out.alloc _) hbk (by simp; omega)).mono ?_
            rintro e w4 ⟨rfl, q4, hbd4, hfr4⟩
            have hbd4' : Bld w4 B b (bytesV (pre ++ s.data.toList ++ 40 :: txtL (l.take k) ++ ([44] : List UInt8))) q4 := by
              have h3 := bytesV_one (pre ++ s.data.toList ++ 40 :: txtL (l.take k)) 44
              rw [← h3]; exact hbd4
            have HX4 := hide ((HX.out.alloc (.cells #[.string l[k].name, .slice a' l[k].args.length c'] 25)).bfr hfr4 (fun x hx => HBK.out.old (hX x hx)))
            have hb4 := HBK.out.box
            have K4 := hide ((Blk.new wr #[.string l[k].name, .slice a' l[k].args.length c'] 25).bfr hfr4 hb4.1 hb4.2)
            have e0 : w4.cell? ⟨wr.heap.size, 0, none⟩ = some (.string l[k].name) := K4.out.cell 0
            have e1 : w4.cell? ⟨wr.heap.size, 1, none⟩ = some (.slice a' l[k].args.length c') := K4.out.cell 1
            have hB4 : B ≤ w4.heap.size := by have := hfr4.2.2.2.1; simp at this; omega
            have HBD4 := hide hbd4'
            have HFR4 := hide (HFK.out.trans ((BFr.of_below ((Below.refl wr.heap.size wr).alloc (Nat.le_refl _) _) b q).trans hfr4))
            clear hbd4 hbd4' hfr4 hb4
            go_wp2_with fail
            refine (IH.out _ (List.getElem_mem hlt) _ q4 _ B b _ X (by exact HX4.out) hX (by exact HBD4.out) hB4 hln).mono ?_
            rintro e w5 ⟨rfl, q5, hbd5, hfr5⟩
            have HBD5 := hide hbd5
            have HFR5 := hide (HFR4.out.trans hfr5)
            clear hbd5 hfr5
            go_wp2_with fail
            go_roundw
            case rel => exact ⟨k + 1, q5, by omega, by go_num, by rw [← HE.out]; exact HBD5.out, HFR5.out⟩
            case measure => simp [intOf]; omega
        · have htk : l.take k = l := List.take_of_length_le (by omega)
          have hbk : (bytesV (pre ++ s.data.toList ++ 40 :: txtL (l.take k))).length ≤ 1000000000 := by rw [bytesV_len]; omega
          rw [htk] at hbdk hbk
          have HBE := hide hbdk
          have HE := hide (wr_end pre s l HN.out)
          clear hbdk hfrk hwl htk
          go_wp2_with fail
          refine (writeByte_any B b _ q 41 _ (by exact HBE.out) hbk hBr).mono ?_
          rintro e w4 ⟨rfl, q4, hbd4, hfr4⟩
          have hbd4' : Bld w4 B b (bytesV (pre ++ txtL [(⟨s, l⟩ : Tm)])) q4 := by
            have h3 := bytesV_one (pre ++ s.data.toList ++ 40 :: txtL l) 41
            rw [← HE.out, ← h3]; exact hbd4
          have HBD4 := hide hbd4'
          have HFR4 := hide (HW0.out.trans (HFK.out.trans hfr4))
          clear hbd4 hbd4' hfr4
          go_wp2_with fail
          go_end0
          exact ⟨rfl, q4, HBD4.out, HFR4.out⟩
end Go.Proofs.YtdmaijmglblccaaGreatDoor


/- Walks: the variables of a term, as the program gathers them. -/
namespace Go.Proofs.YtdmaijmglblccaaGreatDoor
open Go.RowKit
set_option linter.unusedSimpArgs false
set_option linter.unusedVariables false

theorem Sl.grown {w w' : World} {X : Nat → Prop} {a : Option Addr} {l : List Tm} {r : Option Nat} (h : Sl w X a l) (hg : w.grownBy w' r) (hX : ∀ b, X b → some b ≠ r) : Sl w' X a l := by
  have h1 : Sl w (fun b => X b ∧ b < w.heap.size) a l := h.mono fun b h1 h2 => ⟨h1, h2⟩
  have h2 : Sl w' (fun b => X b ∧ b < w.heap.size) a l := h1.kept fun b hx => hg.block b hx.2 (hX b hx.1)
  exact h2.mono fun b hx _ => hx.1

theorem err_name {s : ByteArray} {l : List Tm} (h : errL [(⟨s, l⟩ : Tm)] = 0) : nameB s = true ∧ errL l = 0 := by
  simp only [errL] at h
  split at h
  · refine ⟨by assumption, ?_⟩
    split at h
    · exact absurd h (by decide)
    · split at h
      · assumption
      · exact h
  · exact absurd h (by decide)

theorem NamesAt.lv {w0 w1 : World} {B : Nat} {q0 q1 : Value} {acc1 : List ByteArray} (h : NamesAt w0 B q0 acc1 q1 w1) : LV Value.string w1 (fun b => B ≤ b) q1 acc1 := LV.of_own h.1

theorem NamesAt.refl {w : World} {B : Nat} {q : Value} {acc : List ByteArray} (h : w.ownsRow B 9 1 q acc.length (acc.map Value.string)) : NamesAt w B q acc q w :=
  ⟨h, grown_of_below (Below.refl _ _) _, fun _ h => Or.inl h⟩

end Go.Proofs.YtdmaijmglblccaaGreatDoor


/- Walks: Text. -/
namespace Go.Proofs.YtdmaijmglblccaaGreatDoor
open Go.RowKit
set_option linter.unusedSimpArgs false
set_option linter.unusedVariables false
set_option maxRecDepth 8000

theorem name_le {s : ByteArray} (h : nameB s = true) : s.size ≤ 8 := by
  simp [nameB] at h; omega

/-- A text is not long. -/
theorem txt_len (l : List Tm) (h : errL l = 0) : (txtL l).length ≤ 11 * sizeL l := by
  induction l using Tm.indL with
  | h0 => simp [txtL]
  | h s l r ihl ihr =>
    rw [errL_cons] at h
    by_cases h0 : errL [(⟨s, l⟩ : Tm)] = 0
    · rw [if_pos h0] at h
      obtain ⟨hn, hl⟩ := err_name h0
      have h1 := ihl hl
      have h2 := ihr h
      have h3 := name_le hn
      have h4 : s.data.toList.length = s.size := by rw [Array.length_toList]; rfl
      simp only [txtL, sizeL, List.length_append]
      split <;> split <;> simp only [List.length_nil, List.length_cons, List.length_append] <;> omega
    · rw [if_neg h0] at h; exact absurd h h0

theorem bytes_cells (l : List UInt8) : bytesV l = Lib.byteCells l := rfl

set_option maxHeartbeats 1000000 in
theorem ktext_any (t : Tm) (v : Value) (w : World) (X : Nat → Prop) (hv : TV w X v t) (hlen : (txtL [t]).length ≤ 1000000) :
    Calls Tryz.prog 48 #[v] w fun e w' => e = .returned (.string ⟨(txtL [t]).toArray⟩) ∧ Below w.heap.size w w' := by
  obtain ⟨X', hX, hv'⟩ : ∃ X' : Nat → Prop, (∀ b, X' b → b < w.heap.size) ∧ TV w X' v t := ⟨fun b => X b ∧ b < w.heap.size, fun _ h => h.2, hv.mono fun b h1 h2 => ⟨h1, h2⟩⟩
  clear hv
  obtain ⟨a, c, rfl, hs⟩ := hv'
  have HV := hide (show TV w X' (.agg #[.string t.name, .slice a t.args.length c]) t from ⟨a, c, rfl, hs⟩)
  clear hs
  generalize hR : (.string ⟨(txtL [t]).toArray⟩ : Value) = R
  have HR := hide hR
  clear hR
  have K1 := hide (Blk.new w #[.string t.name, .slice a t.args.length c] 25)
  have HB := hide ((Below.refl w.heap.size w).alloc (Nat.le_refl _) (.cells #[.string t.name, .slice a t.args.length c] 25))
  have c0 : ∀ o, ((w.alloc (.cells #[.string t.name, .slice a t.args.length c] 25)).alloc o).cell? ⟨w.heap.size, 0, none⟩ = some (.string t.name) := fun o => (K1.out.alloc o).cell 0
  have c1 : ∀ o, ((w.alloc (.cells #[.string t.name, .slice a t.args.length c] 25)).alloc o).cell? ⟨w.heap.size, 1, none⟩ = some (.slice a t.args.length c) := fun o => (K1.out.alloc o).cell 1
  have HBD : Hid (Bld ((w.alloc (.cells #[.string t.name, .slice a t.args.length c] 25)).alloc (.cells #[.pointer none, .slice none 0 0] 100)) (w.heap.size + 1) (w.heap.size + 1) (bytesV []) (.slice none 0 0)) := ⟨Nat.le_refl _, ⟨_, Or.inl rfl, by have h := heap_alloc_new (w.alloc (.cells #[.string t.name, .slice a t.args.length c] 25)) (.cells #[.pointer none, .slice none 0 0] 100); simpa using h⟩, World.ownsRow_nil _ _ _ _⟩
  go_enter Tryz.func48, Tryz.ntmps48
  go_wp2_with fail
  have hz1 : (w.alloc (.cells #[.string t.name, .slice a t.args.length c] 25)).heap.size = w.heap.size + 1 := by simp
  generalize (w.alloc (.cells #[.string t.name, .slice a t.args.length c] 25)) = w1 at *
  rw [← hz1] at HBD ⊢
  clear hz1
  refine (write_any t _ _ [] w1.heap.size w1.heap.size _ X' (by exact (HV.out.later HB.out).alloc _) (fun b hb => by have := hX b hb; have := HB.out.size; omega) (by exact HBD.out) (by simp) (by simp; omega)).mono ?_
  rintro e w3 ⟨rfl, q3, hbd3, hfr3⟩
  have HISB : Hid (Lib.IsBuilder 100 5 w1.heap.size w1.heap.size (Lib.byteCells (txtL [t])) w3) := by
    have h1 : Bld w3 w1.heap.size w1.heap.size (Lib.byteCells (txtL [t])) q3 := by simpa [bytes_cells] using hbd3
    have hne := bd_ne h1
    obtain ⟨g1, ⟨p, hp, hb⟩, hown⟩ := h1
    rcases hp with rfl | rfl
    · exact Or.inl ⟨g1, q3, hb, hown, hne⟩
    · exact Or.inr ⟨g1, q3, hb, hown, hne⟩
  have hsz3 : w1.heap.size ≤ w3.heap.size := by have := hfr3.2.2.2.1; simp at this; omega
  have HB3 : Hid (Below w.heap.size w w3) := by
    refine HB.out.trans ⟨hfr3.1, hfr3.2.1, hfr3.2.2.1, hsz3, fun k hk => ?_⟩
    have hk1 : k < w1.heap.size := Nat.lt_of_lt_of_le hk HB.out.size
    rw [hfr3.2.2.2.2.1 k (by simp; omega) (by omega) (by simp [Value.ownBlock]), Below.heap_alloc _ _ _ hk1]
  clear hbd3 hfr3 c0 c1
  go_wp2_with fail
  refine (Tryz.Builder_String_any w1.heap.size w1.heap.size (txtL [t]) _ HISB.out hsz3).mono ?_
  rintro e w4 ⟨rfl, hb4⟩
  go_wp2_with fail
  go_ret
  exact ⟨by rw [← HR.out]; rfl, HB3.out.trans (hb4.mono HB.out.size)⟩

end Go.Proofs.YtdmaijmglblccaaGreatDoor

/- Boxes: a term that lies in a block of its own. -/
namespace Go.Proofs.YtdmaijmglblccaaGreatDoor
open Go.RowKit
set_option linter.unusedSimpArgs false
set_option linter.unusedVariables false
set_option maxRecDepth 8000

/-- A term in a box. -/
def BxT (w : World) (A : Nat) (t : Tm) (a : Option Addr) (c : Nat) : Prop := Blk w A #[.string t.name, .slice a t.args.length c] 25 ∧ Sl w (fun _ => True) a t.args
theorem BxT.later {w w' : World} {A : Nat} {t : Tm} {a : Option Addr} {c : Nat} (h : BxT w A t a c) (hb : Below w.heap.size w w') : BxT w' A t a c := ⟨h.1.below hb h.1.lt, h.2.later hb⟩
theorem BxT.new {w : World} {t : Tm} {a : Option Addr} {c : Nat} {X : Nat → Prop} (h : Sl w X a t.args) : BxT (w.alloc (.cells #[.string t.name, .slice a t.args.length c] 25)) w.heap.size t a c :=
  ⟨Blk.new w _ _, (h.mono fun _ _ _ => trivial).later ((Below.refl _ _).alloc (Nat.le_refl _) _)⟩
theorem BxT.cs {w : World} {A : Nat} {t : Tm} {a : Option Addr} {c : Nat} (h : BxT w A t a c) : w.cell? ⟨A, 0, none⟩ = some (.string t.name) ∧ w.cell? ⟨A, 1, none⟩ = some (.slice a t.args.length c) := ⟨h.1.cell 0, h.1.cell 1⟩
theorem BxT.tv {w : World} {A : Nat} {t : Tm} {a : Option Addr} {c : Nat} (h : BxT w A t a c) : TV w (fun _ => True) (.agg #[.string t.name, .slice a t.args.length c]) t := ⟨a, c, rfl, h.2⟩
end Go.Proofs.YtdmaijmglblccaaGreatDoor
