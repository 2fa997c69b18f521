/- Several texts in one. -/
import Derived.WalkKit
import Derived.WalkSpells
import Derived.WalkLawsBesides
import Derived.Test.YtdmaijmglblccaaGreatDoorRows
import Derived.Deep.AppendLies
import Derived.Lib.ItoaNum
import Derived.WideMake
import Derived.BigQuiet
import Derived.Deep.AppendSrc
/- The tree that a term is, and how it lies in memory: plain mathematics of terms, and what stays where it was. -/
namespace Go.Proofs.YtdmaijmglblccaaGreatDoor
open Go.RowKit

/-- Kept from the walk. -/
theorem hide {p : Prop} (h : p) : Hid p := h

/-- A term as a tree. -/
structure Tm where
  name : ByteArray
  args : List Tm

theorem Tm.ind {P : Tm → Prop} (h : ∀ s l, (∀ x ∈ l, P x) → P ⟨s, l⟩) (t : Tm) : P t :=
  Tm.rec (motive_1 := P) (motive_2 := fun l => ∀ x ∈ l, P x) (fun s l ih => h s l ih) (fun x hx => by cases hx)
    (fun a l ha hl x hx => by
      rcases List.mem_cons.1 hx with e | e
      · subst e; exact ha
      · exact hl x e) t

theorem Tm.indL {P : List Tm → Prop} (h0 : P []) (h : ∀ s l r, P l → P r → P (⟨s, l⟩ :: r)) (l : List Tm) : P l :=
  Tm.rec_1 (motive_1 := fun t => P t.args) (motive_2 := P) (fun _ _ ih => ih) h0 (fun a l ha hl => by obtain ⟨s, k⟩ := a; exact h s k l ha hl) l

/-- The knots of a list of terms. -/
def sizeL : List Tm → Nat
  | [] => 0
  | ⟨_, l⟩ :: r => 1 + sizeL l + sizeL r

theorem sizeL_append (a b : List Tm) : sizeL (a ++ b) = sizeL a + sizeL b := by
  induction a with
  | nil => simp [sizeL]
  | cons t r ih => obtain ⟨s, l⟩ := t; simp only [List.cons_append, sizeL, ih]; omega

/-- A list of terms lies in a row of cells, two a term, in blocks that X lets. -/
def Lies (w : World) (X : Nat → Prop) : Nat → Nat → List Tm → Prop
  | _, _, [] => True
  | b, o, ⟨s, l⟩ :: r => X b ∧ w.cell? ⟨b, o, none⟩ = some (.string s) ∧
      (∃ a c, w.cell? ⟨b, o + 1, none⟩ = some (.slice a l.length c) ∧ l.length ≤ 9223372036854775807 ∧ (l = [] ∨ ∃ b' o', a = some ⟨b', o', none⟩ ∧ Lies w X b' o' l)) ∧ Lies w X b (o + 2) r

/-- What a slice of terms holds. -/
def Sl (w : World) (X : Nat → Prop) (a : Option Addr) (l : List Tm) : Prop := l.length ≤ 9223372036854775807 ∧ (l = [] ∨ ∃ b o, a = some ⟨b, o, none⟩ ∧ Lies w X b o l)

/-- What a term's value holds. -/
def TV (w : World) (X : Nat → Prop) (v : Value) (t : Tm) : Prop := ∃ a c, v = .agg #[.string t.name, .slice a t.args.length c] ∧ Sl w X a t.args

theorem lies_kept {w w' : World} {X : Nat → Prop} (h : ∀ b, X b → w'.heap[b]? = w.heap[b]?) (l : List Tm) : ∀ b o, Lies w X b o l → Lies w' X b o l := by
  induction l using Tm.indL with
  | h0 => intro b o _; simp [Lies]
  | h s l r ihl ihr =>
    intro b o hl
    simp only [Lies] at hl ⊢
    obtain ⟨hx, h1, ⟨a, c, h2, h2', h3⟩, h4⟩ := hl
    refine ⟨hx, by rw [World.cell?_of_block (h b hx)]; exact h1, ⟨a, c, by rw [World.cell?_of_block (h b hx)]; exact h2, h2', ?_⟩, ihr _ _ h4⟩
    rcases h3 with h3 | ⟨b', o', h3, h5⟩
    · exact Or.inl h3
    · exact Or.inr ⟨b', o', h3, ihl _ _ h5⟩

theorem lies_mono {w : World} {X Y : Nat → Prop} (h : ∀ b, X b → b < w.heap.size → Y b) (l : List Tm) : ∀ b o, Lies w X b o l → Lies w Y b o l := by
  induction l using Tm.indL with
  | h0 => intro b o _; simp [Lies]
  | h s l r ihl ihr =>
    intro b o hl
    simp only [Lies] at hl ⊢
    obtain ⟨hx, h1, ⟨a, c, h2, h2', h3⟩, h4⟩ := hl
    have hb : b < w.heap.size := by
      apply Classical.byContradiction
      intro hn
      have e : w.heap[b]? = none := Array.getElem?_eq_none (by omega)
      simp [World.cell?, e] at h1
    refine ⟨h b hx hb, h1, ⟨a, c, h2, h2', ?_⟩, ihr _ _ h4⟩
    rcases h3 with h3 | ⟨b', o', h3, h5⟩
    · exact Or.inl h3
    · exact Or.inr ⟨b', o', h3, ihl _ _ h5⟩

theorem Sl.kept {w w' : World} {X : Nat → Prop} {a : Option Addr} {l : List Tm} (h : Sl w X a l) (hk : ∀ b, X b → w'.heap[b]? = w.heap[b]?) : Sl w' X a l := by
  obtain ⟨hl, h⟩ := h
  refine ⟨hl, ?_⟩
  rcases h with h | ⟨b, o, e, h⟩
  · exact Or.inl h
  · exact Or.inr ⟨b, o, e, lies_kept hk _ _ _ h⟩

theorem Sl.mono {w : World} {X Y : Nat → Prop} {a : Option Addr} {l : List Tm} (h : Sl w X a l) (hk : ∀ b, X b → b < w.heap.size → Y b) : Sl w Y a l := by
  obtain ⟨hl, h⟩ := h
  refine ⟨hl, ?_⟩
  rcases h with h | ⟨b, o, e, h⟩
  · exact Or.inl h
  · exact Or.inr ⟨b, o, e, lies_mono hk _ _ _ h⟩

theorem Sl.below {w w' : World} {X : Nat → Prop} {a : Option Addr} {l : List Tm} {B : Nat} (h : Sl w X a l) (hb : Below B w w') (hX : ∀ b, X b → b < w.heap.size → b < B) : Sl w' X a l := by
  have h1 : Sl w (fun b => X b ∧ b < B) a l := h.mono fun b hx hs => ⟨hx, hX b hx hs⟩
  have h2 : Sl w' (fun b => X b ∧ b < B) a l := h1.kept fun b hx => hb.block b hx.2
  exact h2.mono fun b hx _ => hx.1

theorem TV.kept {w w' : World} {X : Nat → Prop} {v : Value} {t : Tm} (h : TV w X v t) (hk : ∀ b, X b → w'.heap[b]? = w.heap[b]?) : TV w' X v t := by
  obtain ⟨a, c, e, h⟩ := h
  exact ⟨a, c, e, h.kept hk⟩

theorem TV.mono {w : World} {X Y : Nat → Prop} {v : Value} {t : Tm} (h : TV w X v t) (hk : ∀ b, X b → b < w.heap.size → Y b) : TV w Y v t := by
  obtain ⟨a, c, e, h⟩ := h
  exact ⟨a, c, e, h.mono hk⟩

theorem TV.below {w w' : World} {X : Nat → Prop} {v : Value} {t : Tm} {B : Nat} (h : TV w X v t) (hb : Below B w w') (hX : ∀ b, X b → b < w.heap.size → b < B) : TV w' X v t := by
  obtain ⟨a, c, e, h⟩ := h
  exact ⟨a, c, e, h.below hb hX⟩

theorem TV.alloc {w : World} {X : Nat → Prop} {v : Value} {t : Tm} (h : TV w X v t) (o : Obj) : TV (w.alloc o) X v t :=
  h.below ((Below.refl _ _).alloc (Nat.le_refl _) o) (fun _ _ h => h)

theorem TV.later {w w' : World} {X : Nat → Prop} {v : Value} {t : Tm} (h : TV w X v t) (hb : Below w.heap.size w w') : TV w' X v t := h.below hb (fun _ _ h => h)

theorem Sl.later {w w' : World} {X : Nat → Prop} {a : Option Addr} {l : List Tm} (h : Sl w X a l) (hb : Below w.heap.size w w') : Sl w' X a l := h.below hb (fun _ _ h => h)

/-- One of a row. -/
theorem lies_get {w : World} {X : Nat → Prop} : ∀ (l : List Tm) (b o : Nat), Lies w X b o l → ∀ i (h : i < l.length),
    X b ∧ w.cell? ⟨b, o + i * 2, none⟩ = some (.string l[i].name) ∧ ∃ a c, w.cell? ⟨b, o + i * 2 + 1, none⟩ = some (.slice a l[i].args.length c) ∧ Sl w X a l[i].args := by
  intro l
  induction l with
  | nil => intro b o _ i h; simp at h
  | cons t r ih =>
    intro b o hl i h
    obtain ⟨s, k⟩ := t
    simp only [Lies] at hl
    obtain ⟨hx, h1, ⟨a, c, h2, h3⟩, h4⟩ := hl
    cases i with
    | zero => exact ⟨hx, h1, a, c, h2, h3⟩
    | succ i =>
      have := ih b (o + 2) h4 i (by simpa using h)
      simp only [List.getElem_cons_succ]
      rw [show o + (i + 1) * 2 = o + 2 + i * 2 by omega]
      exact this

theorem lies_mk {w : World} {X : Nat → Prop} : ∀ (l : List Tm) (b o : Nat), (∀ i (h : i < l.length),
    X b ∧ w.cell? ⟨b, o + i * 2, none⟩ = some (.string l[i].name) ∧ ∃ a c, w.cell? ⟨b, o + i * 2 + 1, none⟩ = some (.slice a l[i].args.length c) ∧ Sl w X a l[i].args) → Lies w X b o l := by
  intro l
  induction l with
  | nil => intro b o _; simp [Lies]
  | cons t r ih =>
    intro b o hl
    obtain ⟨s, k⟩ := t
    simp only [Lies]
    obtain ⟨hx, h1, a, c, h2, h3⟩ := hl 0 (by simp)
    refine ⟨hx, h1, ⟨a, c, h2, h3⟩, ih b (o + 2) fun i h => ?_⟩
    have := hl (i + 1) (by simpa using h)
    simp only [List.getElem_cons_succ] at this
    rw [show o + (i + 1) * 2 = o + 2 + i * 2 by omega] at this
    exact this

/-- One of a slice, in a later world. -/
theorem Sl.get {w wr : World} {X : Nat → Prop} {a : Option Addr} {l : List Tm} {B : Nat} (h : Sl w X a l) (hb : Below B w wr) (hX : ∀ b, X b → b < w.heap.size → b < B) (k : Nat) (hk : k < l.length) :
    ∃ b o a' c', a = some ⟨b, o, none⟩ ∧ wr.cell? ⟨b, o + k * 2, none⟩ = some (.string l[k].name) ∧ wr.cell? ⟨b, o + k * 2 + 1, none⟩ = some (.slice a' l[k].args.length c') ∧ TV wr X (.agg #[.string l[k].name, .slice a' l[k].args.length c']) l[k] := by
  have h' := h.below hb hX
  obtain ⟨_, h1⟩ := h'
  rcases h1 with h1 | ⟨b, o, e, h1⟩
  · subst h1; simp at hk
  · obtain ⟨_, h2, a', c', h3, h4⟩ := lies_get _ _ _ h1 k hk
    exact ⟨b, o, a', c', e, h2, h3, a', c', rfl, h4⟩

end Go.Proofs.YtdmaijmglblccaaGreatDoor

/- Walks: letters, digits, names. -/
namespace Go.Proofs.YtdmaijmglblccaaGreatDoor
open Go.RowKit
set_option linter.unusedSimpArgs false
set_option linter.unusedVariables false

def digB (n : Int) : Bool := decide (48 ≤ n) && decide (n ≤ 57)
def capB (n : Int) : Bool := decide (65 ≤ n) && decide (n ≤ 90)
def lowB (n : Int) : Bool := decide (97 ≤ n) && decide (n ≤ 122)
def letB (n : Int) : Bool := lowB n || capB n
def alnB (n : Int) : Bool := letB n || digB n

theorem ret_bool {a b : Bool} (h : a = b) : Ending.returned (.bool a) = .returned (.bool b) := by rw [h]

set_option maxHeartbeats 400000 in
theorem isDigit_any (n : Int) (w : World) : Calls Tryz.prog 102 #[.int .u8 n] w fun e w' => e = .returned (.bool (digB n)) ∧ w' = w := by
  go_enter Tryz.func102, Tryz.ntmps102
  go_wp2_with fail
  all_goals (go_ret; refine ⟨ret_bool ?_, rfl⟩; rw [Bool.eq_iff_iff]; simp [alnB, letB, lowB, capB, digB] <;> omega)

set_option maxHeartbeats 400000 in
theorem isCapital_any (n : Int) (w : World) : Calls Tryz.prog 71 #[.int .u8 n] w fun e w' => e = .returned (.bool (capB n)) ∧ w' = w := by
  go_enter Tryz.func71, Tryz.ntmps71
  go_wp2_with fail
  all_goals (go_ret; refine ⟨ret_bool ?_, rfl⟩; rw [Bool.eq_iff_iff]; simp [alnB, letB, lowB, capB, digB] <;> omega)

set_option maxHeartbeats 400000 in
theorem isLetter_any (n : Int) (w : World) : Calls Tryz.prog 101 #[.int .u8 n] w fun e w' => e = .returned (.bool (letB n)) ∧ w' = w := by
  go_enter Tryz.func101, Tryz.ntmps101
  go_wp2_with (go_at_call 71; refine (isCapital_any _ _).mono ?_; rintro e w' ⟨rfl, rfl⟩)
  all_goals (go_ret; refine ⟨ret_bool ?_, rfl⟩; rw [Bool.eq_iff_iff]; simp [alnB, letB, lowB, capB, digB] <;> omega)

set_option maxHeartbeats 400000 in
theorem isLetterR_any (n : Int) (w : World) : Calls Tryz.prog 42 #[.int .u8 n] w fun e w' => e = .returned (.bool (alnB n)) ∧ w' = w := by
  go_enter Tryz.func42, Tryz.ntmps42
  go_wp2_with fail
  all_goals (go_ret; refine ⟨ret_bool ?_, rfl⟩; rw [Bool.eq_iff_iff]; simp [alnB, letB, lowB, capB, digB] <;> omega)
end Go.Proofs.YtdmaijmglblccaaGreatDoor

/- Walks: which texts are names, and which of them are variables'. -/
namespace Go.Proofs.YtdmaijmglblccaaGreatDoor
open Go.RowKit
set_option linter.unusedSimpArgs false
set_option linter.unusedVariables false

def byteAt (s : ByteArray) (i : Nat) : Int := if h : i < s.size then (s[i].toNat : Int) else 0
theorem byteAt_of {s : ByteArray} {i : Nat} (h : i < s.size) : (s[i].toNat : Int) = byteAt s i := by simp [byteAt, h]
def varB (s : ByteArray) : Bool := capB (byteAt s 0)
def alnTo (s : ByteArray) (k : Nat) : Bool := (List.range k).all fun i => alnB (byteAt s i)
def nameB (s : ByteArray) : Bool := decide (1 ≤ s.size) && decide (s.size ≤ 8) && !digB (byteAt s 0) && alnTo s s.size

theorem isEmpty_pos {s : ByteArray} (h : 0 < s.size) : s.toList.isEmpty = false := by
  rw [ByteArray.toList_eq, List.isEmpty_eq_false_iff, ← List.length_pos_iff]
  simpa using h
theorem isEmpty_zero {s : ByteArray} (h : ¬ 0 < s.size) : s.toList.isEmpty = true := by
  rw [ByteArray.toList_eq, List.isEmpty_iff, ← List.length_eq_zero_iff]
  have : s.size = 0 := by omega
  simpa using this
theorem alnTo_succ (s : ByteArray) (k : Nat) : alnTo s (k + 1) = (alnTo s k && alnB (byteAt s k)) := by
  simp [alnTo, List.range_succ, List.all_append]
theorem alnTo_false {s : ByteArray} {k n : Nat} (h : k ≤ n) (hf : alnTo s k = false) : alnTo s n = false := by
  cases hn : alnTo s n with
  | false => rfl
  | true =>
    rw [← hf]; symm
    unfold alnTo at hn ⊢
    rw [List.all_eq_true] at hn ⊢
    intro x hx; exact hn x (by rw [List.mem_range] at hx ⊢; omega)
set_option maxHeartbeats 400000 in
theorem isVarR_any (s : ByteArray) (w : World) : Calls Tryz.prog 26 #[.string s] w fun e w' => e = .returned (.bool (varB s)) ∧ w' = w := by
  by_cases h : 0 < s.size
  · have hb := hide (byteAt_of h)
    have he := isEmpty_pos h
    go_enter Tryz.func26, Tryz.ntmps26
    go_wp2_with fail
    all_goals (go_ret; refine ⟨ret_bool ?_, rfl⟩; have hb' := hb.out; rw [Bool.eq_iff_iff]; simp [varB, capB] <;> omega)
  · have he := isEmpty_zero h
    have hv : Hid (false = varB s) := by simp [Hid, varB, byteAt, h, capB]
    go_enter Tryz.func26, Tryz.ntmps26
    go_wp2_with fail
    go_ret
    exact ⟨ret_bool hv.out, rfl⟩

set_option maxHeartbeats 400000 in
theorem isVariable_all (s : ByteArray) (w : World) : Calls Tryz.prog 52 #[.string s] w fun e w' => e = .returned (.bool (varB s)) ∧ w' = w := by
  by_cases h : 0 < s.size
  · have hb := hide (byteAt_of h)
    have he := isEmpty_pos h
    go_enter Tryz.func52, Tryz.ntmps52
    go_wp2_with (go_at_call 71; refine (isCapital_any _ _).mono ?_; rintro e w' ⟨rfl, rfl⟩)
    go_ret
    refine ⟨ret_bool ?_, rfl⟩
    rw [hb.out]; rfl
  · have he := isEmpty_zero h
    have hv : Hid (false = varB s) := by simp [Hid, varB, byteAt, h, capB]
    go_enter Tryz.func52, Tryz.ntmps52
    go_wp2_with fail
    go_ret
    exact ⟨ret_bool hv.out, rfl⟩
theorem isVariable_any (s : ByteArray) (w : World) (h : 0 < s.size) : Calls Tryz.prog 52 #[.string s] w fun e w' => e = .returned (.bool (varB s)) ∧ w' = w := isVariable_all s w

theorem nameB_no {s : ByteArray} {k : Nat} (hk : k < s.size) (h : alnB (byteAt s k) = false) : nameB s = false := by
  have h1 : alnTo s (k + 1) = false := by rw [alnTo_succ, h]; simp
  have h2 := alnTo_false (n := s.size) (by omega) h1
  simp [nameB, h2]

set_option maxHeartbeats 400000 in
theorem isName_any (s : ByteArray) (w : World) : Calls Tryz.prog 75 #[.string s] w fun e w' => e = .returned (.bool (nameB s)) ∧ w' = w := by
  by_cases h0 : s.size < 1
  · have hn : Hid (false = nameB s) := by simp [Hid, nameB]; omega
    go_enter Tryz.func75, Tryz.ntmps75
    go_wp2_with fail
    go_ret
    exact ⟨ret_bool hn.out, rfl⟩
  · by_cases h8 : 8 < s.size
    · have hn : Hid (false = nameB s) := by simp [Hid, nameB]; omega
      go_enter Tryz.func75, Tryz.ntmps75
      go_wp2_with fail
      all_goals (go_ret; exact ⟨ret_bool hn.out, rfl⟩)
    · have hb := hide (byteAt_of (s := s) (i := 0) (by omega))
      by_cases hd : digB (byteAt s 0) = true
      · have hn : Hid (false = nameB s) := by simp [Hid, nameB, hd]
        have hd' := hide hd
        clear hd
        go_enter Tryz.func75, Tryz.ntmps75
        go_wp2_with (go_at_call 102; refine (isDigit_any _ _).mono ?_; rintro e w' ⟨rfl, rfl⟩; rw [hb.out, hd'.out])
        all_goals (go_ret; exact ⟨ret_bool hn.out, rfl⟩)
      · have hd' : Hid (digB (byteAt s 0) = false) := by simpa [Hid] using hd
        clear hd
        go_enter Tryz.func75, Tryz.ntmps75
        go_wp2_with (go_at_call 102; refine (isDigit_any _ _).mono ?_; rintro e w' ⟨rfl, rfl⟩; rw [hb.out, hd'.out])
        go_loop [19] (fun i => ∃ k : Nat, k ≤ s.size ∧ i = .int .i64 k ∧ alnTo s k = true) (fun i => s.size - (intOf i).toNat)
        case atStart => exact ⟨0, Nat.zero_le _, rfl, rfl⟩
        case round =>
          obtain ⟨k, hk, rfl, ha⟩ := hrel
          have HA := hide ha
          clear ha
          by_cases hlt : k < s.size
          · have hbk := hide (byteAt_of hlt)
            have hsuc := hide (alnTo_succ s k)
            cases hl : letB (byteAt s k) with
            | true =>
              have HL := hide hl
              clear hl
              go_wp2_with (go_at_call 101; refine (isLetter_any _ _).mono ?_; rintro e w' ⟨rfl, rfl⟩; rw [hbk.out, HL.out])
              go_round
              case rel => exact ⟨k + 1, by omega, by go_num, by rw [hsuc.out, HA.out, alnB, HL.out]; rfl⟩
              case measure => simp [intOf]; omega
            | false =>
              have HL := hide hl
              clear hl
              cases hg : digB (byteAt s k) with
              | true =>
                have HG := hide hg
                clear hg
                go_wp2_with (first | (go_at_call 101; refine (isLetter_any _ _).mono ?_; rintro e w' ⟨rfl, rfl⟩; rw [hbk.out, HL.out]) | (go_at_call 102; refine (isDigit_any _ _).mono ?_; rintro e w' ⟨rfl, rfl⟩; rw [hbk.out, HG.out]))
                go_round
                case rel => exact ⟨k + 1, by omega, by go_num, by rw [hsuc.out, HA.out, alnB, HL.out, HG.out]; rfl⟩
                case measure => simp [intOf]; omega
              | false =>
                have HG := hide hg
                clear hg
                go_wp2_with (first | (go_at_call 101; refine (isLetter_any _ _).mono ?_; rintro e w' ⟨rfl, rfl⟩; rw [hbk.out, HL.out]) | (go_at_call 102; refine (isDigit_any _ _).mono ?_; rintro e w' ⟨rfl, rfl⟩; rw [hbk.out, HG.out]))
                go_ret
                exact ⟨ret_bool (nameB_no hlt (by rw [alnB, HL.out, HG.out]; rfl)).symm, rfl⟩
          · have hn : Hid (true = nameB s) := by
              have e : k = s.size := by omega
              have := HA.out
              rw [e] at this
              simp [Hid, nameB, this, hd'.out]; omega
            go_wp2_with fail
            go_ret
            exact ⟨ret_bool hn.out, rfl⟩

set_option maxHeartbeats 400000 in
theorem isNameR_any (s : ByteArray) (w : World) : Calls Tryz.prog 25 #[.string s] w fun e w' => e = .returned (.bool (nameB s)) ∧ w' = w := by
  by_cases h0 : 0 < s.size
  · have he := isEmpty_pos h0
    have hb := hide (byteAt_of h0)
    by_cases h8 : 8 < s.size
    · have hn : Hid (false = nameB s) := by simp [Hid, nameB]; omega
      go_enter Tryz.func25, Tryz.ntmps25
      go_wp2_with fail
      all_goals (go_ret; exact ⟨ret_bool hn.out, rfl⟩)
    · cases hd : digB (byteAt s 0) with
      | true =>
        have hn : Hid (false = nameB s) := by simp [Hid, nameB, hd]
        have hd1 : 48 ≤ (s[0].toNat : Int) := by rw [hb.out]; simp [digB] at hd; exact hd.1
        have hd2 : (s[0].toNat : Int) ≤ 57 := by rw [hb.out]; simp [digB] at hd; exact hd.2
        clear hd
        go_enter Tryz.func25, Tryz.ntmps25
        go_wp2_with fail
        all_goals (go_ret; exact ⟨ret_bool hn.out, rfl⟩)
      | false =>
        have HD := hide hd
        clear hd
        have hor : (s[0].toNat : Int) < 48 ∨ (48 ≤ (s[0].toNat : Int) ∧ 57 < (s[0].toNat : Int)) := by
          have := HD.out; rw [hb.out]; simp [digB] at this; omega
        rcases hor with h1 | ⟨h1, h2⟩
        all_goals
          go_enter Tryz.func25, Tryz.ntmps25
          go_wp2_with fail
          go_loop [3] (fun i => ∃ k : Nat, k ≤ s.size ∧ i = .int .i64 k ∧ alnTo s k = true) (fun i => s.size - (intOf i).toNat)
          case atStart => exact ⟨0, Nat.zero_le _, rfl, rfl⟩
          case round =>
            obtain ⟨k, hk, rfl, ha⟩ := hrel
            have HA := hide ha
            clear ha
            by_cases hlt : k < s.size
            · have hbk := hide (byteAt_of hlt)
              have hsuc := hide (alnTo_succ s k)
              cases hl : alnB (byteAt s k) with
              | true =>
                have HL := hide hl
                clear hl
                go_wp2_with (go_at_call 42; refine (isLetterR_any _ _).mono ?_; rintro e w' ⟨rfl, rfl⟩; rw [hbk.out, HL.out])
                go_round
                case rel => exact ⟨k + 1, by omega, by go_num, by rw [hsuc.out, HA.out, HL.out]; rfl⟩
                case measure => simp [intOf]; omega
              | false =>
                have HL := hide hl
                clear hl
                go_wp2_with (go_at_call 42; refine (isLetterR_any _ _).mono ?_; rintro e w' ⟨rfl, rfl⟩; rw [hbk.out, HL.out])
                go_ret
                exact ⟨ret_bool (nameB_no hlt HL.out).symm, rfl⟩
            · have hn : Hid (true = nameB s) := by
                have e : k = s.size := by omega
                have := HA.out
                rw [e] at this
                simp [Hid, nameB, this, HD.out]; omega
              go_wp2_with fail
              go_ret
              exact ⟨ret_bool hn.out, rfl⟩
  · have he := isEmpty_zero h0
    have hn : Hid (false = nameB s) := by simp [Hid, nameB]; omega
    go_enter Tryz.func25, Tryz.ntmps25
    go_wp2_with fail
    all_goals (go_ret; exact ⟨ret_bool hn.out, rfl⟩)
end Go.Proofs.YtdmaijmglblccaaGreatDoor

/- Rows of terms that a call makes. -/
namespace Go.Proofs.YtdmaijmglblccaaGreatDoor
open Go.RowKit
set_option linter.unusedSimpArgs false
set_option linter.unusedVariables false

/-- These cells are these terms. -/
def RowT (w : World) (X : Nat → Prop) : List Tm → List Value → Prop
  | [], xs => xs = []
  | t :: l, xs => ∃ a c r, xs = .string t.name :: .slice a t.args.length c :: r ∧ Sl w X a t.args ∧ RowT w X l r

theorem RowT.len {w : World} {X : Nat → Prop} : ∀ {l : List Tm} {xs : List Value}, RowT w X l xs → xs.length = l.length * 2
  | [], xs, h => by simp [RowT] at h; simp [h]
  | t :: l, xs, h => by
    obtain ⟨a, c, r, rfl, _, h⟩ := h
    simp only [List.length_cons]
    rw [RowT.len h]; omega

theorem RowT.append {w : World} {X : Nat → Prop} : ∀ {l k : List Tm} {xs ys : List Value}, RowT w X l xs → RowT w X k ys → RowT w X (l ++ k) (xs ++ ys)
  | [], k, xs, ys, h, h' => by simp [RowT] at h; subst h; simpa using h'
  | t :: l, k, xs, ys, h, h' => by
    obtain ⟨a, c, r, rfl, hs, h⟩ := h
    exact ⟨a, c, r ++ ys, rfl, hs, RowT.append h h'⟩

theorem RowT.one {w : World} {X : Nat → Prop} : ∀ {l : List Tm} {xs : List Value}, RowT w X l xs → ∀ u ∈ xs, u.oneCell' = true
  | [], xs, h, u, hu => by simp [RowT] at h; subst h; cases hu
  | t :: l, xs, h, u, hu => by
    obtain ⟨a, c, r, rfl, _, h⟩ := h
    rcases List.mem_cons.1 hu with e | hu
    · subst e; rfl
    · rcases List.mem_cons.1 hu with e | hu
      · subst e; rfl
      · exact RowT.one h u hu

theorem RowT.imp {w w' : World} {X Y : Nat → Prop} (hs : ∀ a l, Sl w X a l → Sl w' Y a l) : ∀ {l : List Tm} {xs : List Value}, RowT w X l xs → RowT w' Y l xs
  | [], xs, h => h
  | t :: l, xs, h => by
    obtain ⟨a, c, r, e, h1, h⟩ := h
    exact ⟨a, c, r, e, hs _ _ h1, RowT.imp hs h⟩

theorem RowT.get {w : World} {X : Nat → Prop} : ∀ {l : List Tm} {xs : List Value}, RowT w X l xs → ∀ i (h : i < l.length),
    xs[i * 2]? = some (.string l[i].name) ∧ ∃ a c, xs[i * 2 + 1]? = some (.slice a l[i].args.length c) ∧ Sl w X a l[i].args
  | [], xs, h, i, hi => by simp at hi
  | t :: l, xs, h, i, hi => by
    obtain ⟨a, c, r, rfl, h1, h⟩ := h
    cases i with
    | zero => exact ⟨rfl, a, c, rfl, h1⟩
    | succ i =>
      have := RowT.get h i (by simpa using hi)
      rw [show (i + 1) * 2 = i * 2 + 2 by omega, show i * 2 + 2 + 1 = (i * 2 + 1) + 2 by omega]
      simpa using this

theorem sizeL_len (l : List Tm) : l.length ≤ sizeL l := by
  induction l with
  | nil => simp
  | cons t r ih => obtain ⟨s, k⟩ := t; simp only [List.length_cons, sizeL]; omega

theorem lies_of_rowT {w w' : World} {X Y : Nat → Prop} (b : Nat) (hb : Y b) : ∀ (l : List Tm) (xs : List Value) (o : Nat), RowT w X l xs → (∀ a k, Sl w X a k → Sl w' Y a k) → (∀ j u, xs[j]? = some u → w'.cell? ⟨b, o + j, none⟩ = some u) → Lies w' Y b o l := by
  intro l
  induction l with
  | nil => intro xs o _ _ _; simp [Lies]
  | cons t r ih =>
    intro xs o h hs hc
    obtain ⟨s, k⟩ := t
    obtain ⟨a, c, r', rfl, h1, h2⟩ := h
    simp only [Lies]
    obtain ⟨h3, h4⟩ := hs _ _ h1
    refine ⟨hb, hc 0 _ rfl, ⟨a, c, hc 1 _ rfl, h3, h4⟩, ih r' (o + 2) h2 hs fun j u hj => ?_⟩
    have := hc (j + 2) u (by simpa using hj)
    rwa [show o + (j + 2) = o + 2 + j by omega] at this

/-- The knots, each ahead of those below it. -/
def preL : List Tm → List Tm
  | [] => []
  | ⟨s, l⟩ :: r => ⟨s, l⟩ :: (preL l ++ preL r)

theorem preL_append (a b : List Tm) : preL (a ++ b) = preL a ++ preL b := by
  induction a with
  | nil => simp [preL]
  | cons t r ih => obtain ⟨s, l⟩ := t; simp [preL, ih]

theorem preL_take (l : List Tm) (k : Nat) (h : k < l.length) : preL (l.take (k + 1)) = preL (l.take k) ++ preL [l[k]] := by
  rw [List.take_succ_eq_append_getElem h, preL_append]

theorem preL_length (l : List Tm) : (preL l).length = sizeL l := by
  induction l using Tm.indL with
  | h0 => simp [preL, sizeL]
  | h s l r ihl ihr => simp [preL, sizeL, ihl, ihr]; omega

/-- Old memory, told by the world that was. -/
theorem Sl.back {w w' : World} {X : Nat → Prop} {a : Option Addr} {l : List Tm} {B : Nat} (h : Sl w' X a l) (hb : Below B w w') (hX : ∀ b, X b → b < B) : Sl w X a l :=
  h.kept fun b hx => (hb.block b (hX b hx)).symm

/-- What a row that is owned says of the slice. -/
theorem owned_val {w : World} {base e size : Nat} {v : Value} {n : Nat} {xs : List Value} (h : w.ownsRow base e size v n xs) (hn : 0 < n) :
    ∃ g cap, v = .slice (some ⟨g, 0, none⟩) n cap ∧ base ≤ g ∧ g < w.heap.size ∧ ∀ j u, xs[j]? = some u → w.cell? ⟨g, j, none⟩ = some u := by
  have h' := h
  obtain ⟨hl, h1⟩ := h
  rcases h1 with ⟨_, h0⟩ | ⟨g, cap, cur, hv, hg, hh, _⟩
  · omega
  · subst hv
    have hlt := (h'.lt g rfl).2
    refine ⟨g, cap, rfl, hg, hlt, fun j u hj => ?_⟩
    have := h'.cells (g := g) rfl j u hj
    by_cases h0 : j = 0
    · subst h0; simpa [Addr.add] using this
    · simpa [Addr.add, h0] using this

/-- An append whose outcome is known. -/
theorem wpList_append_eq {P : Program} {ops : Array Oper} {rest : List Oper} {o : Oper} {a : Act} {Q : Exit → Act → World → Prop} {w w' : World} {v u v' : Value} (hgd : o.guard = none) (s x : Operand) (t t' : TypeId)
    (ho : o.op = .call { callee := .builtin .append, args := #[s, x], argTypes := #[t, t'] }) (hs : a.eval s = v) (hx : a.eval x = u)
    (hr : (Builtin.append_ #[t, t'] o.type #[v, u]).run P w = .ok v' w') (h : wpList P ops Q rest (a.put o.dst v') w') : wpList P ops Q (o :: rest) a w :=
  wpList_plain hgd fun K hK => by
    unfold Oper.wp execOp
    simp only [ho, resolve, invoke, builtin, Sem.run_bind, Sem.run_pure, Result.andThen_ok, List.map_toArray, List.map_cons, List.map_nil, hs, hx, hr]
    exact hK _ _ h

end Go.Proofs.YtdmaijmglblccaaGreatDoor

/- Small facts on blocks, and what a round that appends a term does to a row of terms. -/
namespace Go.Proofs.YtdmaijmglblccaaGreatDoor
open Go.RowKit
set_option linter.unusedSimpArgs false
set_option linter.unusedVariables false

/-- A block of plain cells. -/
def Blk (w : World) (b : Nat) (cs : Array Value) (T : Nat) : Prop := w.heap[b]? = some (.cells cs T (0, 0))

theorem Blk.lt {w : World} {b : Nat} {cs : Array Value} {T : Nat} (h : Blk w b cs T) : b < w.heap.size := by
  apply Classical.byContradiction
  intro hn
  have e : w.heap[b]? = none := Array.getElem?_eq_none (by omega)
  rw [Blk, e] at h; cases h

theorem Blk.cell {w : World} {b : Nat} {cs : Array Value} {T : Nat} (h : Blk w b cs T) (i : Nat) : w.cell? ⟨b, i, none⟩ = cs[i]? := by
  unfold Blk at h; simp [World.cell?, h]

theorem Blk.c0 {w : World} {b : Nat} {v : Value} {l : List Value} {T : Nat} (h : Blk w b (List.toArray (v :: l)) T) : w.cell? ⟨b, 0, none⟩ = some v := h.cell 0
theorem Blk.c1 {w : World} {b : Nat} {v0 v : Value} {l : List Value} {T : Nat} (h : Blk w b (List.toArray (v0 :: v :: l)) T) : w.cell? ⟨b, 1, none⟩ = some v := h.cell 1
theorem Blk.c2 {w : World} {b : Nat} {v0 v1 v : Value} {l : List Value} {T : Nat} (h : Blk w b (List.toArray (v0 :: v1 :: v :: l)) T) : w.cell? ⟨b, 2, none⟩ = some v := h.cell 2
theorem Blk.c3 {w : World} {b : Nat} {v0 v1 v2 v : Value} {l : List Value} {T : Nat} (h : Blk w b (List.toArray (v0 :: v1 :: v2 :: v :: l)) T) : w.cell? ⟨b, 3, none⟩ = some v := h.cell 3
theorem Blk.frozen {w : World} {b : Nat} {cs : Array Value} {T : Nat} (h : Blk w b cs T) (i : Nat) : w.frozen? ⟨b, i, none⟩ = false := by
  unfold Blk at h; simp [World.frozen?, h]

theorem Blk.new (w : World) (cs : Array Value) (T : Nat) : Blk (w.alloc (.cells cs T)) w.heap.size cs T := heap_alloc_new w _

theorem Blk.alloc {w : World} {b : Nat} {cs : Array Value} {T : Nat} (h : Blk w b cs T) (o : Obj) : Blk (w.alloc o) b cs T := by
  unfold Blk at *; rw [Below.heap_alloc w o b (Blk.lt h)]; exact h

theorem Blk.below {w w' : World} {b B : Nat} {cs : Array Value} {T : Nat} (h : Blk w b cs T) (hb : Below B w w') (hB : b < B) : Blk w' b cs T := by
  unfold Blk at *; rw [hb.block b hB]; exact h

theorem Blk.drewN {w : World} {b : Nat} {cs : Array Value} {T : Nat} (h : Blk w b cs T) (n : Nat) : Blk (w.drewN n) b cs T := h

theorem Blk.grown {w w' : World} {b : Nat} {cs : Array Value} {T : Nat} {row : Option Nat} (h : Blk w b cs T) (hg : w.grownBy w' row) (hr : some b ≠ row) : Blk w' b cs T := by
  unfold Blk at *; rw [hg.block b (Blk.lt h) hr]; exact h

theorem Blk.set {w : World} {b : Nat} {cs : Array Value} {T : Nat} (h : Blk w b cs T) (i : Nat) (v : Value) : Blk (w.setCell ⟨b, i, none⟩ v) b (cs.setIfInBounds i v) T := by
  unfold Blk at *
  simp [World.setCell, Array.getElem?_modify, h]

theorem Blk.setOther {w : World} {b b' : Nat} {cs : Array Value} {T : Nat} (h : Blk w b cs T) (i : Nat) (v : Value) (hne : b ≠ b') : Blk (w.setCell ⟨b', i, none⟩ v) b cs T := by
  unfold Blk at *; rw [Below.heap_setCell _ _ _ _ (by simpa using hne)]; exact h

/-- The row so far, apart from what its terms are made of: old memory that Y lets, and new memory. -/
structure Row (w : World) (N : Nat) (T : Nat) (Y : Nat → Prop) (v : Value) (l : List Tm) (xs : List Value) : Prop where
  own : w.ownsRow N T 2 v l.length xs
  row : RowT w (fun b => Y b ∨ (N ≤ b ∧ some b ≠ v.ownBlock)) l xs

theorem Row.start (w : World) (N T : Nat) (Y : Nat → Prop) : Row w N T Y (.slice none 0 0) [] [] := ⟨World.ownsRow_nil w N T 2, rfl⟩

theorem Row.below {w w' : World} {N T : Nat} {Y : Nat → Prop} {v : Value} {l : List Tm} {xs : List Value} (h : Row w N T Y v l xs) (hb : Below w.heap.size w w') : Row w' N T Y v l xs :=
  ⟨h.own.kept (w' := w') (row := none) ⟨hb.os, hb.tape, hb.output, hb.size, fun j hj _ => hb.block j hj⟩ (by rcases Option.eq_none_or_eq_some (Value.ownBlock v) with h | ⟨x, h⟩; exact Or.inl h; exact Or.inr (by rw [h]; simp)),
   h.row.imp fun a l h => h.later hb⟩

theorem Row.ne {w : World} {N T : Nat} {Y : Nat → Prop} {v : Value} {l : List Tm} {xs : List Value} (h : Row w N T Y v l xs) {b : Nat} (hb : b < N) : some b ≠ v.ownBlock := fun e => by
  have := (h.own.lt b e.symm).1; omega

/-- One more: the term's cells have been laid into a block of their own, and appended. -/
theorem Row.push {w w1 w2 w3 : World} {N T : Nat} {Y : Nat → Prop} {v : Value} {l : List Tm} {xs : List Value} (h : Row w N T Y v l xs) (hN : N ≤ w.heap.size) (hY : ∀ b, Y b → b < N) (hb : Below w.heap.size w w1) {s : ByteArray} {a : Option Addr} {n c : Nat} {t : Tm}
    (ht : TV w1 (fun b => Y b ∨ w.heap.size ≤ b) (.agg #[.string s, .slice a n c]) t) (o : Obj) (hw2 : w2 = w1.alloc o) {g cap : Nat}
    (hown : w3.ownsRow N T 2 (.slice (some ⟨g, 0, none⟩) (l.length + 1) cap) (l.length + 1) (xs ++ [.string s, .slice a n c])) (hg : w2.grownBy w3 v.ownBlock) (hg1 : v.ownBlock = some g ∨ g = w2.heap.size) :
    Row w3 N T Y (.slice (some ⟨g, 0, none⟩) (l.length + 1) cap) (l ++ [t]) (xs ++ [.string s, .slice a n c]) := by
  subst hw2
  have hlt := h.own.lt
  refine ⟨by simpa using hown, ?_⟩
  have hsz : w1.heap.size ≤ (w1.alloc o).heap.size := by simp
  have hbs := hb.size
  have hgN : N ≤ g := by
    rcases hg1 with e | e
    · exact (hlt g e).1
    · simp at e; omega
  refine RowT.append (h.row.imp fun a' k' hs => ?_) ?_
  · have h1 : Sl w (fun b => (Y b ∨ (N ≤ b ∧ some b ≠ v.ownBlock)) ∧ b < w.heap.size) a' k' := hs.mono fun b h1 h2 => ⟨h1, h2⟩
    have h2 : Sl w3 (fun b => (Y b ∨ (N ≤ b ∧ some b ≠ v.ownBlock)) ∧ b < w.heap.size) a' k' := h1.kept fun b hx => by
      have hne : some b ≠ v.ownBlock := by
        rcases hx.1 with hy | hy
        · exact h.ne (hY b hy)
        · exact hy.2
      rw [hg.block b (by simp; omega) hne, Below.heap_alloc _ _ _ (by omega), hb.block b hx.2]
    refine h2.mono fun b hx _ => ?_
    rcases hx.1 with hy | hy
    · exact Or.inl hy
    · refine Or.inr ⟨hy.1, fun e => ?_⟩
      simp [Value.ownBlock] at e
      rcases hg1 with e' | e'
      · exact hy.2 (by rw [e', e])
      · simp at e'; omega
  · obtain ⟨a2, c2, e, hs⟩ := ht
    simp at e
    obtain ⟨rfl, rfl, rfl, rfl⟩ := e
    refine ⟨a, c, [], rfl, ?_, rfl⟩
    have h1 : Sl w1 (fun b => (Y b ∨ w.heap.size ≤ b) ∧ b < w1.heap.size) a t.args := hs.mono fun b h1 h2 => ⟨h1, h2⟩
    have h2 : Sl w3 (fun b => (Y b ∨ w.heap.size ≤ b) ∧ b < w1.heap.size) a t.args := h1.kept fun b hx => by
      have hne : some b ≠ v.ownBlock := by
        rcases hx.1 with hy | hy
        · exact h.ne (hY b hy)
        · intro e; have := (hlt b e.symm).2; omega
      rw [hg.block b (by simp; omega) hne, Below.heap_alloc _ _ _ hx.2]
    refine h2.mono fun b hx _ => ?_
    rcases hx.1 with hy | hy
    · exact Or.inl hy
    · refine Or.inr ⟨by omega, fun e => ?_⟩
      simp [Value.ownBlock] at e
      rcases hg1 with e' | e'
      · have := (hlt g e').2; omega
      · simp at e'; omega

/-- A store into a block that is none of the row's. -/
theorem Row.setCell {w : World} {N T : Nat} {Y : Nat → Prop} {v : Value} {l : List Tm} {xs : List Value} (h : Row w N T Y v l xs) {b i : Nat} (hb : b < N) (hY : ¬ Y b) (u : Value) : Row (w.setCell ⟨b, i, none⟩ u) N T Y v l xs :=
  ⟨ownsRow_setCell_below h.own (by simpa using hb) u, h.row.imp fun a k hs => hs.kept fun c hc => Below.heap_setCell _ _ _ _ (by
    simp
    rcases hc with hc | hc
    · intro e; subst e; exact hY hc
    · omega)⟩

theorem Row.sl {w : World} {N T : Nat} {Y : Nat → Prop} {v : Value} {l : List Tm} {xs : List Value} (h : Row w N T Y v l xs) : ∃ a c, v = .slice a l.length c ∧ Sl w (fun b => Y b ∨ N ≤ b) a l := by
  have hml : l.length ≤ 9223372036854775807 := by
    rcases h.own.2 with ⟨_, h0⟩ | ⟨g, cap, cur, _, _, _, h1, h2, _⟩
    · omega
    · unfold maxLen at h2; omega
  by_cases h0 : 0 < l.length
  · obtain ⟨g, cap, rfl, hg, hlt, hc⟩ := owned_val h.own h0
    exact ⟨_, _, rfl, hml, Or.inr ⟨g, 0, rfl, lies_of_rowT g (Or.inr hg) l xs 0 h.row (fun a k hs => hs.mono fun b hb _ => hb.imp id (fun h => h.1)) (fun j u hj => by simpa using hc j u hj)⟩⟩
  · have e : l = [] := List.length_eq_zero_iff.1 (by omega)
    subst e
    rcases h.own.2 with ⟨hv, _⟩ | ⟨g, cap, cur, hv, _⟩
    · exact ⟨none, 0, hv, hml, Or.inl rfl⟩
    · exact ⟨_, _, hv, hml, Or.inl rfl⟩

end Go.Proofs.YtdmaijmglblccaaGreatDoor

/- Texts read as terms: what both readers do. -/
namespace Go.Proofs.YtdmaijmglblccaaGreatDoor
open Go.RowKit
set_option linter.unusedSimpArgs false
set_option linter.unusedVariables false

/-- What reading gives: an error (0: none), a term, where it ended, how many knots there were. -/
structure Rd where
  err : Int
  t : Tm
  pos : Nat
  k : Nat
end Go.Proofs.YtdmaijmglblccaaGreatDoor

/- The text of a term. -/
namespace Go.Proofs.YtdmaijmglblccaaGreatDoor

/-- The texts of a list of terms, commas between. -/
def txtL : List Tm → List UInt8
  | [] => []
  | ⟨s, l⟩ :: r => s.data.toList ++ (if l.isEmpty = true then [] else 40 :: (txtL l ++ [41])) ++ (if r.isEmpty = true then [] else 44 :: txtL r)

/-- A name, and the first k below it, without the last bracket. -/
def txtTo (s : ByteArray) (l : List Tm) (k : Nat) : List UInt8 := if k = 0 then s.data.toList else s.data.toList ++ 40 :: txtL (l.take k)

theorem txtL_one (s : ByteArray) (l : List Tm) : txtL [(⟨s, l⟩ : Tm)] = s.data.toList ++ (if l.isEmpty = true then [] else 40 :: (txtL l ++ [41])) := by simp [txtL]

theorem txtL_cons (t : Tm) (r : List Tm) (h : r ≠ []) : txtL (t :: r) = txtL [t] ++ 44 :: txtL r := by
  obtain ⟨s, l⟩ := t
  rw [txtL_one]
  have hr : (r.isEmpty = true) = False := by simpa using h
  simp only [txtL, hr, if_false]

theorem txtL_append (a b : List Tm) (ha : a ≠ []) (hb : b ≠ []) : txtL (a ++ b) = txtL a ++ 44 :: txtL b := by
  induction a with
  | nil => exact absurd rfl ha
  | cons t r ih =>
    by_cases hr : r = []
    · subst hr; simpa using txtL_cons t b hb
    · rw [List.cons_append, txtL_cons t (r ++ b) (by simp [hr]), ih hr, txtL_cons t r hr]
      simp

theorem txtTo_zero (s : ByteArray) (l : List Tm) (h : 0 < l.length) : txtTo s l (0 + 1) = txtTo s l 0 ++ ([40] : List UInt8) ++ txtL [l[0]'h] := by
  have h1 : l.take (0 + 1) = l.take 0 ++ [l[0]] := List.take_succ_eq_append_getElem h
  have h2 : l.take 1 = [l[0]] := by simpa using h1
  unfold txtTo
  rw [if_neg (by decide), if_pos rfl, h2]
  simp

theorem txtTo_succ (s : ByteArray) (l : List Tm) (k : Nat) (hk : 0 < k) (h : k < l.length) : txtTo s l (k + 1) = txtTo s l k ++ [44] ++ txtL [l[k]] := by
  have h1 : l.take k ≠ [] := by
    intro e
    have h3 := congrArg List.length e
    rw [List.length_take] at h3
    simp only [List.length_nil] at h3
    omega
  unfold txtTo
  rw [if_neg (by omega), if_neg (by omega), List.take_succ_eq_append_getElem h, txtL_append _ _ h1 (by simp)]
  simp

theorem txtTo_end (s : ByteArray) (l : List Tm) (h : l ≠ []) : txtL [(⟨s, l⟩ : Tm)] = txtTo s l l.length ++ [41] := by
  have hl : l.length ≠ 0 := by intro e; exact h (List.length_eq_zero_iff.1 e)
  rw [txtL_one, if_neg (by simpa using h)]
  simp [txtTo, hl]

theorem txt_nil (s : ByteArray) : txtL [(⟨s, []⟩ : Tm)] = s.data.toList := by simp [txtL]

theorem txtTo_len (s : ByteArray) (l : List Tm) (k : Nat) (hk : k ≤ l.length) : (txtTo s l k).length ≤ (txtL [(⟨s, l⟩ : Tm)]).length := by
  rw [txtL_one]
  unfold txtTo
  by_cases h0 : k = 0
  · rw [if_pos h0]; simp
  · rw [if_neg h0]
    have hl : l ≠ [] := by intro e; subst e; simp at hk; omega
    rw [if_neg (by simpa using hl)]
    by_cases hd : l.drop k = []
    · have : l.take k = l := by have h2 := List.take_append_drop k l; rw [hd] at h2; simpa using h2
      rw [this]; simp
    · have ht : l.take k ≠ [] := by
        intro e
        have h3 := congrArg List.length e
        rw [List.length_take] at h3
        simp only [List.length_nil] at h3
        have hlp := List.length_pos_iff.2 hl
        omega
      have h2 := txtL_append (l.take k) (l.drop k) ht hd
      rw [List.take_append_drop] at h2
      rw [h2]; simp only [List.length_append, List.length_cons]; omega
end Go.Proofs.YtdmaijmglblccaaGreatDoor

/- Walks: how many knots a term has. -/
namespace Go.Proofs.YtdmaijmglblccaaGreatDoor
open Go.RowKit

/-- Behind a call that makes memory: old cells and marks read as before. -/
theorem bcell {W w1 : World} {B : Nat} (hb : Below B W w1) : (∀ b o, b < B → w1.cell? ⟨b, o, none⟩ = W.cell? ⟨b, o, none⟩) ∧ (∀ b o, b < B → w1.frozen? ⟨b, o, none⟩ = W.frozen? ⟨b, o, none⟩) :=
  ⟨fun b o h => hb.cell (p := ⟨b, o, none⟩) h, fun b o h => hb.frozen (p := ⟨b, o, none⟩) h⟩

theorem sizeL_take (l : List Tm) (k : Nat) (h : k < l.length) : sizeL (l.take (k + 1)) = sizeL (l.take k) + sizeL [l[k]] := by
  rw [List.take_succ_eq_append_getElem h, sizeL_append]

theorem sizeL_take_le (l : List Tm) (k : Nat) : sizeL (l.take k) ≤ sizeL l := by
  have := sizeL_append (l.take k) (l.drop k)
  rw [List.take_append_drop] at this
  omega

theorem ret_int {k : IntKind} {a b : Int} (h : a = b) : Ending.returned (.int k a) = .returned (.int k b) := by rw [h]

/-- Behind a call whose first deed was to lay its parameter down. -/
theorem below_box {w wr : World} {o : Obj} (hb : Below (w.heap.size + 1) (w.alloc o) wr) : Below w.heap.size w wr :=
  ((Below.refl _ _).alloc (Nat.le_refl _) _).trans (hb.mono (Nat.le_succ _))

set_option maxHeartbeats 400000 in
theorem size_any (t : Tm) : ∀ (v : Value) (most : Int) (w : World) (X : Nat → Prop), TV w X v t → 0 ≤ most → most ≤ 1000000 →
    Calls Tryz.prog 12 #[v, .int .i64 most] w fun e w' => e = .returned (.int .i64 (min (sizeL [t]) (most + 1))) ∧ Below w.heap.size w w' := by
  induction t using Tm.ind with
  | h s l ih =>
    intro v most w X hv hm0 hm1
    obtain ⟨a, c, rfl, hs⟩ := hv
    have IH := hide ih
    clear ih
    go_enter Tryz.func12, Tryz.ntmps12
    go_wp2_with fail
    go_loopw [5, 6] (fun n i wr => ∃ k : Nat, k ≤ l.length ∧ i = .int .i64 k ∧ n = .int .i64 (min (1 + sizeL (l.take k)) (most + 1)) ∧ Below (w.heap.size + 1) (w.alloc (Obj.cells #[Value.string s, Value.slice a l.length c] 25)) wr) (fun n i wr => l.length - (intOf i).toNat)
    case atStart => exact ⟨0, Nat.zero_le _, rfl, by simp [sizeL]; omega, Below.refl _ _⟩
    case round =>
      obtain ⟨k, hk, rfl, rfl, hb⟩ := hrel
      have hc := bcell hb
      have c0 : wr.cell? ⟨w.heap.size, 0, none⟩ = some (.string s) := by rw [hc.1 _ _ (by omega)]; simp
      have c1 : wr.cell? ⟨w.heap.size, 1, none⟩ = some (.slice a l.length c) := by rw [hc.1 _ _ (by omega)]; simp
      have hl := hs.1
      have hn : 0 ≤ ((1 : Int) + sizeL (l.take k)) := by omega
      by_cases hlt : k < l.length
      · obtain ⟨b, o, a', c', rfl, d0, d1, hx⟩ := hs.get (((Below.refl _ _).alloc (Nat.le_refl _) _).trans (hb.mono (Nat.le_succ _))) (fun _ _ h => h) k hlt
        by_cases hle : 1 + (sizeL (l.take k) : Int) ≤ most
        · have hmin : min (1 + (sizeL (l.take k) : Int)) (most + 1) = 1 + (sizeL (l.take k) : Int) := by omega
          rw [hmin]
          go_wp2_with fail
          refine (IH.out _ (List.getElem_mem hlt) _ _ _ X hx (by omega) (by omega)).mono ?_
          rintro e w1 ⟨rfl, hb1⟩
          have hsz : w.heap.size + 1 ≤ wr.heap.size := by have := hb.size; simpa using this
          have Hst := hide (sizeL_take l k hlt)
          have hm2 : 0 ≤ min ((sizeL [l[k]] : Int)) (most - (1 + (sizeL (l.take k) : Int)) + 1) := by omega
          have hm3 : min ((sizeL [l[k]] : Int)) (most - (1 + (sizeL (l.take k) : Int)) + 1) ≤ 1000001 := by omega
          go_wp2_with fail
          go_roundw
          case rel => exact ⟨k + 1, by omega, by go_num, by rw [Hst.out]; congr 1; omega, hb.trans (hb1.mono hsz)⟩
          case measure => simp [intOf]; omega
        · have hmin : min (1 + (sizeL (l.take k) : Int)) (most + 1) = most + 1 := by omega
          rw [hmin]
          have hz : (sizeL [(⟨s, l⟩ : Tm)] : Int) = 1 + sizeL l := by simp [sizeL]
          have hle2 : sizeL (l.take k) ≤ sizeL l := sizeL_take_le l k
          have HF := hide (show (most + 1 : Int) = min (sizeL [(⟨s, l⟩ : Tm)] : Int) (most + 1) by omega)
          clear hz
          go_wp2_with fail
          go_ret
          exact ⟨ret_int HF.out, below_box hb⟩
      · have htk : l.take k = l := List.take_of_length_le (by omega)
        rw [htk]
        have hz : (sizeL [(⟨s, l⟩ : Tm)] : Int) = 1 + sizeL l := by simp [sizeL]
        have HZ := hide hz
        clear hz
        go_wp2_with fail
        · go_ret
          exact ⟨ret_int (by have := HZ.out; omega), below_box hb⟩
        · go_ret
          exact ⟨ret_int (by have := HZ.out; omega), below_box hb⟩

end Go.Proofs.YtdmaijmglblccaaGreatDoor

/- Walks: counting knots with a bound; what is wrong with a term. -/
namespace Go.Proofs.YtdmaijmglblccaaGreatDoor
open Go.RowKit
set_option linter.unusedSimpArgs false
set_option linter.unusedVariables false

theorem argsOf_any (s : ByteArray) (a : Option Addr) (n c : Nat) (w : World) :
    Calls Tryz.prog 77 #[.agg #[.string s, .slice a n c]] w fun e w' => e = .returned (.slice a n c) ∧ w' = w.alloc (.cells #[.string s, .slice a n c] 25) := by
  go_enter Tryz.func77, Tryz.ntmps77
  go_wp2_with fail
  go_ret
  exact ⟨rfl, rfl⟩

set_option maxHeartbeats 400000 in
theorem countOn_any (M : Int) (hM0 : 0 ≤ M) (hM1 : M ≤ 1000000) (t : Tm) : ∀ (v : Value) (n : Int) (w : World) (X : Nat → Prop), TV w X v t → 0 ≤ n → n ≤ M →
    Calls Tryz.prog 103 #[v, .func (.func 77) #[] #[], .int .i64 M, .int .i64 n] w fun e w' => e = .returned (.int .i64 (min (n + sizeL [t]) (M + 1))) ∧ Below w.heap.size w w' := by
  induction t using Tm.ind with
  | h s l ih =>
    intro v n w X hv hn0 hn1
    obtain ⟨a, c, rfl, hs⟩ := hv
    have IH := hide ih
    clear ih
    have hz : Hid ((sizeL [(⟨s, l⟩ : Tm)] : Int) = 1 + sizeL l) := by simp [Hid, sizeL]
    go_enter Tryz.func103, Tryz.ntmps103
    go_wp2_with (go_at_call 77; refine (argsOf_any _ _ _ _ _).mono ?_; rintro e w' ⟨rfl, rfl⟩)
    have hB0 : Hid (Below w.heap.size w ((w.alloc (Obj.cells #[Value.string s, Value.slice a l.length c] 25)).alloc (Obj.cells #[Value.string s, Value.slice a l.length c] 25))) := ((Below.refl _ _).alloc (Nat.le_refl _) _).alloc (by simp) _
    have hZ0 : Hid (w.heap.size + 2 ≤ ((w.alloc (Obj.cells #[Value.string s, Value.slice a l.length c] 25)).alloc (Obj.cells #[Value.string s, Value.slice a l.length c] 25)).heap.size) := by simp [Hid]
    generalize ((w.alloc (Obj.cells #[Value.string s, Value.slice a l.length c] 25)).alloc (Obj.cells #[Value.string s, Value.slice a l.length c] 25)) = w0 at *
    go_loopw [9, 18] (fun m i wr => ∃ k : Nat, k ≤ l.length ∧ i = .int .i64 k ∧ m = .int .i64 (min (n + 1 + sizeL (l.take k)) (M + 1)) ∧ Below w.heap.size w wr) (fun m i wr => l.length - (intOf i).toNat)
    case atStart => exact ⟨0, Nat.zero_le _, rfl, by rw [show sizeL (l.take 0) = 0 by simp [sizeL]]; congr 1; omega, hB0.out⟩
    case round =>
      obtain ⟨k, hk, rfl, rfl, hb⟩ := hrel
      have hl := hs.1
      have hsz : w.heap.size ≤ wr.heap.size := hb.size
      by_cases hlt : k < l.length
      · obtain ⟨b, o, a', c', rfl, d0, d1, hx⟩ := hs.get hb (fun _ _ h => h) k hlt
        by_cases hle : n + 1 + (sizeL (l.take k) : Int) ≤ M
        · have hmin : min (n + 1 + (sizeL (l.take k) : Int)) (M + 1) = n + 1 + (sizeL (l.take k) : Int) := by omega
          rw [hmin]
          go_wp2_with fail
          refine (IH.out _ (List.getElem_mem hlt) _ _ _ X (hx.alloc _) (by omega) (by omega)).mono ?_
          rintro e w1 ⟨rfl, hb1⟩
          have Hst := hide (sizeL_take l k hlt)
          go_wp2_with fail
          go_roundw
          case rel => exact ⟨k + 1, by omega, by go_num, by rw [Hst.out]; congr 1; omega, (hb.alloc hsz _).trans (hb1.mono (by simp; omega))⟩
          case measure => simp [intOf]; omega
        · have hmin : min (n + 1 + (sizeL (l.take k) : Int)) (M + 1) = M + 1 := by omega
          rw [hmin]
          have hle2 : sizeL (l.take k) ≤ sizeL l := sizeL_take_le l k
          go_wp2_with fail
          go_ret
          refine ⟨ret_int (by have := hz.out; omega), ?_⟩
          exact hb.alloc (by omega) _
      · have htk : l.take k = l := List.take_of_length_le (by omega)
        rw [htk]
        go_wp2_with fail
        go_ret
        exact ⟨ret_int (by have := hz.out; omega), hb⟩

theorem countT_any (M : Int) (hM0 : 0 ≤ M) (hM1 : M ≤ 1000000) (t : Tm) (v : Value) (w : World) (X : Nat → Prop) (hv : TV w X v t) :
    Calls Tryz.prog 76 #[v, .func (.func 77) #[] #[], .int .i64 M] w fun e w' => e = .returned (.int .i64 (min (sizeL [t] : Int) (M + 1))) ∧ Below w.heap.size w w' := by
  obtain ⟨a, c, rfl, hs⟩ := hv
  have hv : TV w X (.agg #[.string t.name, .slice a t.args.length c]) t := ⟨a, c, rfl, hs⟩
  go_enter Tryz.func76, Tryz.ntmps76
  go_wp2_with fail
  refine (countOn_any M hM0 hM1 t _ _ _ X (hv.alloc _) (by omega) (by omega)).mono ?_
  rintro e w1 ⟨rfl, hb1⟩
  go_wp2_with fail
  go_ret
  exact ⟨ret_int (by omega), ((Below.refl _ _).alloc (Nat.le_refl _) _).trans (hb1.mono (by simp))⟩

theorem count_any (M : Int) (hM0 : 0 ≤ M) (hM1 : M ≤ 1000000) (t : Tm) (v : Value) (w : World) (X : Nat → Prop) (hv : TV w X v t) :
    Calls Tryz.prog 59 #[v, .int .i64 M] w fun e w' => e = .returned (.int .i64 (min (sizeL [t] : Int) (M + 1))) ∧ Below w.heap.size w w' := by
  obtain ⟨a, c, rfl, hs⟩ := hv
  have hv : TV w X (.agg #[.string t.name, .slice a t.args.length c]) t := ⟨a, c, rfl, hs⟩
  go_enter Tryz.func59, Tryz.ntmps59
  go_wp2_with fail
  refine (countT_any M hM0 hM1 t _ _ X (hv.alloc _)).mono ?_
  rintro e w1 ⟨rfl, hb1⟩
  go_wp2_with fail
  go_ret
  exact ⟨ret_int (by omega), ((Below.refl _ _).alloc (Nat.le_refl _) _).trans (hb1.mono (by simp))⟩

/-- What is wrong, knot by knot: 0 nothing, 1 no name, 2 a variable with terms below it. -/
def errL : List Tm → Int
  | [] => 0
  | ⟨s, l⟩ :: r => if nameB s = true then (if (varB s && decide (0 < l.length)) = true then 2 else if errL l = 0 then errL r else errL l) else 1

theorem errL_cons (t : Tm) (r : List Tm) : errL (t :: r) = if errL [t] = 0 then errL r else errL [t] := by
  obtain ⟨s, l⟩ := t
  simp only [errL]
  split
  · split
    · simp
    · split <;> simp_all
  · simp

theorem errL_append (a b : List Tm) : errL (a ++ b) = if errL a = 0 then errL b else errL a := by
  induction a with
  | nil => simp [errL]
  | cons t r ih =>
    rw [List.cons_append, errL_cons, errL_cons t r, ih]
    by_cases h : errL [t] = 0 <;> simp [h]

theorem errL_take (l : List Tm) (k : Nat) (h : k < l.length) : errL (l.take (k + 1)) = if errL (l.take k) = 0 then errL [l[k]] else errL (l.take k) := by
  rw [List.take_succ_eq_append_getElem h, errL_append]

theorem errL_of_take {l : List Tm} {k : Nat} (h : errL (l.take k) ≠ 0) : errL l = errL (l.take k) := by
  have := errL_append (l.take k) (l.drop k)
  rw [List.take_append_drop, if_neg h] at this
  exact this

theorem name_pos {s : ByteArray} (h : nameB s = true) : 0 < s.size := by
  simp [nameB] at h; omega

set_option maxHeartbeats 400000 in
theorem checkKnots_any (t : Tm) : ∀ (v : Value) (w : World) (X : Nat → Prop), TV w X v t →
    Calls Tryz.prog 60 #[v] w fun e w' => e = .returned (.int .i64 (errL [t])) ∧ Below w.heap.size w w' := by
  induction t using Tm.ind with
  | h s l ih =>
    intro v w X hv
    obtain ⟨a, c, rfl, hs⟩ := hv
    have IH := hide ih
    clear ih
    have hl := hs.1
    cases hn : nameB s with
    | false =>
      have hz : Hid (1 = errL [(⟨s, l⟩ : Tm)]) := by simp [Hid, errL, hn]
      have HN := hide hn
      clear hn
      go_enter Tryz.func60, Tryz.ntmps60
      go_wp2_with (go_at_call 75; refine (isName_any _ _).mono ?_; rintro e w' ⟨rfl, rfl⟩; rw [HN.out])
      go_ret
      exact ⟨ret_int hz.out, (Below.refl _ _).alloc (Nat.le_refl _) _⟩
    | true =>
      have HN := hide hn
      have hpos := name_pos hn
      by_cases hvl : varB s = true ∧ 0 < l.length
      · obtain ⟨hv, hlp⟩ := hvl
        have hz : Hid (2 = errL [(⟨s, l⟩ : Tm)]) := by simp [Hid, errL, hn, hv, hlp]
        have HV := hide hv
        clear hn hv
        go_enter Tryz.func60, Tryz.ntmps60
        go_wp2_with (first | (go_at_call 75; refine (isName_any _ _).mono ?_; rintro e w' ⟨rfl, rfl⟩; rw [HN.out]) | (go_at_call 52; refine (isVariable_any _ _ hpos).mono ?_; rintro e w' ⟨rfl, rfl⟩; rw [HV.out]))
        go_ret
        exact ⟨ret_int hz.out, (Below.refl _ _).alloc (Nat.le_refl _) _⟩
      · have hz : Hid (errL [(⟨s, l⟩ : Tm)] = errL l) := by
          have : (varB s && decide (0 < l.length)) = false := by
            rw [Bool.eq_false_iff]; intro h; simp at h; exact hvl ⟨h.1, by omega⟩
          simp only [Hid, errL, hn, this]
          by_cases h0 : errL l = 0 <;> simp [h0]
        have hcase : (varB s = true ∧ l.length < 1) ∨ varB s = false := by
          cases hv : varB s with
          | true => exact Or.inl ⟨rfl, by apply Classical.byContradiction; intro h; exact hvl ⟨hv, by omega⟩⟩
          | false => exact Or.inr rfl
        clear hn hvl
        rcases hcase with ⟨hv, hl0⟩ | hv
        · have e0 : l = [] := List.length_eq_zero_iff.1 (by omega)
          subst e0
          have HV := hide hv
          clear hv
          go_enter Tryz.func60, Tryz.ntmps60
          go_wp2_with (first | (go_at_call 75; refine (isName_any _ _).mono ?_; rintro e w' ⟨rfl, rfl⟩; rw [HN.out]) | (go_at_call 52; refine (isVariable_any _ _ hpos).mono ?_; rintro e w' ⟨rfl, rfl⟩; rw [HV.out]))
          go_loop [22] (fun i => i = .int .i64 0) (fun i => 0)
          case atStart => rfl
          case round =>
            subst hrel
            have HZ : Hid (0 = errL [(⟨s, []⟩ : Tm)]) := by unfold Hid; rw [hz.out]; simp [errL]
            go_wp2_with fail
            go_ret
            exact ⟨ret_int HZ.out, (Below.refl _ _).alloc (Nat.le_refl _) _⟩
        · have HV := hide hv
          clear hv
          go_enter Tryz.func60, Tryz.ntmps60
          go_wp2_with (first | (go_at_call 75; refine (isName_any _ _).mono ?_; rintro e w' ⟨rfl, rfl⟩; rw [HN.out]) | (go_at_call 52; refine (isVariable_any _ _ hpos).mono ?_; rintro e w' ⟨rfl, rfl⟩; rw [HV.out]))
          go_loopw [22] (fun i wr => ∃ k : Nat, k ≤ l.length ∧ i = .int .i64 k ∧ errL (l.take k) = 0 ∧ Below (w.heap.size + 1) (w.alloc (Obj.cells #[Value.string s, Value.slice a l.length c] 25)) wr) (fun i wr => l.length - (intOf i).toNat)
          case atStart => exact ⟨0, Nat.zero_le _, rfl, by simp [errL], Below.refl _ _⟩
          case round =>
            obtain ⟨k, hk, rfl, he, hb⟩ := hrel
            have HE := hide he
            clear he
            have hsz : w.heap.size + 1 ≤ wr.heap.size := by have := hb.size; simpa using this
            by_cases hlt : k < l.length
            · obtain ⟨b, o, a', c', rfl, d0, d1, hx⟩ := hs.get (below_box hb) (fun _ _ h => h) k hlt
              have HT := hide (errL_take l k hlt)
              go_wp2_with fail
              refine (IH.out _ (List.getElem_mem hlt) _ _ X (hx.alloc _)).mono ?_
              rintro e w1 ⟨rfl, hb1⟩
              by_cases hez : errL [l[k]] = 0
              · have HZ := hide hez
                rw [hez]
                clear hez
                go_wp2_with fail
                go_roundw
                case rel => exact ⟨k + 1, by omega, by go_num, by rw [HT.out, HE.out, HZ.out]; rfl, (hb.alloc hsz _).trans (hb1.mono (by simp; omega))⟩
                case measure => simp [intOf]; omega
              · have hez' : (errL [l[k]] == 0) = false := by simpa using hez
                have HZ : Hid (errL [l[k]] = errL [(⟨s, l⟩ : Tm)]) := by
                  have h1 : errL (l.take (k + 1)) = errL [l[k]] := by rw [HT.out, HE.out]; rfl
                  unfold Hid
                  rw [hz.out, errL_of_take (l := l) (k := k + 1) (by rw [h1]; exact hez), h1]
                go_wp2_with fail
                go_ret
                exact ⟨ret_int HZ.out, ((below_box hb).alloc (by omega) _).trans (hb1.mono (by simp; omega))⟩
            · have htk : l.take k = l := List.take_of_length_le (by omega)
              have HZ : Hid (0 = errL [(⟨s, l⟩ : Tm)]) := by unfold Hid; rw [hz.out, ← htk, HE.out]
              go_wp2_with fail
              go_ret
              exact ⟨ret_int HZ.out, below_box hb⟩

/-- What is wrong with a term. -/
def mayE (t : Tm) : Int := if 200 < sizeL [t] then 3 else errL [t]

set_option maxHeartbeats 400000 in
theorem check_any (t : Tm) (v : Value) (w : World) (X : Nat → Prop) (hv : TV w X v t) :
    Calls Tryz.prog 45 #[v] w fun e w' => e = .returned (.int .i64 (mayE t)) ∧ Below w.heap.size w w' := by
  obtain ⟨a, c, rfl, hs⟩ := hv
  have hv : TV w X (.agg #[.string t.name, .slice a t.args.length c]) t := ⟨a, c, rfl, hs⟩
  go_enter Tryz.func45, Tryz.ntmps45
  go_wp2_with fail
  refine (count_any 200 (by omega) (by omega) t _ _ X (hv.alloc _)).mono ?_
  rintro e w1 ⟨rfl, hb1⟩
  have c0 : w1.cell? ⟨w.heap.size, 0, none⟩ = some (.string t.name) := by rw [hb1.cell (p := ⟨_, _, none⟩) (by simp)]; simp
  have c1 : w1.cell? ⟨w.heap.size, 1, none⟩ = some (.slice a t.args.length c) := by rw [hb1.cell (p := ⟨_, _, none⟩) (by simp)]; simp
  have hb2 : Below w.heap.size w w1 := ((Below.refl _ _).alloc (Nat.le_refl _) _).trans (hb1.mono (by simp))
  by_cases h : 200 < sizeL [t]
  · have hm : Hid (3 = mayE t) := by simp [Hid, mayE, h]
    have e : min (sizeL [t] : Int) (200 + 1) = 201 := by omega
    rw [e]
    go_wp2_with fail
    go_ret
    exact ⟨ret_int hm.out, hb2⟩
  · have hm : Hid (errL [t] = mayE t) := by simp [Hid, mayE, h]
    have e : min (sizeL [t] : Int) (200 + 1) = sizeL [t] := by omega
    rw [e]
    go_wp2_with fail
    refine (checkKnots_any t _ _ X (hv.later hb2)).mono ?_
    rintro e w2 ⟨rfl, hb3⟩
    go_wp2_with fail
    go_ret
    exact ⟨ret_int hm.out, hb2.trans (hb3.mono hb2.size)⟩
end Go.Proofs.YtdmaijmglblccaaGreatDoor

/- What was written is read again. -/
namespace Go.Proofs.YtdmaijmglblccaaGreatDoor
open Go.RowKit
set_option linter.unusedSimpArgs false
set_option linter.unusedVariables false

theorem byteAt_list (s : ByteArray) (j : Nat) (c : UInt8) (h : s.data.toList[j]? = some c) : byteAt s j = (c.toNat : Int) := by
  have hj : j < s.data.toList.length := by
    rcases Nat.lt_or_ge j s.data.toList.length with h' | h'
    · exact h'
    · rw [List.getElem?_eq_none h'] at h; cases h
  have hs : j < s.size := by simpa using hj
  unfold byteAt
  rw [dif_pos hs]
  have : s.data.toList[j]? = some s[j] := by
    rw [List.getElem?_eq_getElem hj]; rfl
  rw [this] at h
  cases h
  rfl

theorem size_list (s : ByteArray) : s.size = s.data.toList.length := by simp

/-- The letters of a name are letters or digits. -/
theorem name_aln {nm : ByteArray} (h : nameB nm = true) : ∀ c ∈ nm.data.toList, alnB (c.toNat : Int) = true := by
  intro c hc
  obtain ⟨j, hj, hjc⟩ := List.getElem_of_mem hc
  have h2 : alnTo nm nm.size = true := by
    unfold nameB at h
    simp only [Bool.and_eq_true] at h
    exact h.2
  unfold alnTo at h2
  rw [List.all_eq_true] at h2
  have h3 := h2 j (by rw [List.mem_range, size_list]; exact hj)
  rw [byteAt_list nm j c (by rw [List.getElem?_eq_getElem hj, hjc])] at h3
  exact h3
/-- What may stand behind a term. -/
def Behind (post : List UInt8) : Prop := post = [] ∨ ∃ c r, post = c :: r ∧ (c = 41 ∨ c = 44)

end Go.Proofs.YtdmaijmglblccaaGreatDoor

/- No two terms have one text, nor two pairs of terms, with a sign between them: plain. -/
namespace Go.Proofs.YtdmaijmglblccaaGreatDoor
open Go.RowKit
set_option linter.unusedSimpArgs false
set_option linter.unusedVariables false

/-- What may stand behind a term. -/
def Beh (x : List UInt8) : Prop := x = [] ∨ ∃ c r, x = c :: r ∧ (c = 41 ∨ c = 44 ∨ c = 61)
/-- What ends a name. -/
def Ends (x : List UInt8) : Prop := x = [] ∨ ∃ c r, x = c :: r ∧ alnB (c.toNat : Int) = false
theorem Beh.ends {x : List UInt8} (h : Beh x) : Ends x := by
  rcases h with h | ⟨c, r, e, h⟩
  · exact Or.inl h
  · refine Or.inr ⟨c, r, e, ?_⟩
    rcases h with rfl | rfl | rfl <;> decide
theorem name_split : ∀ (n m : List UInt8) {x y : List UInt8}, (∀ c ∈ n, alnB (c.toNat : Int) = true) → (∀ c ∈ m, alnB (c.toNat : Int) = true) → Ends x → Ends y → n ++ x = m ++ y → n = m ∧ x = y
  | [], [], x, y, _, _, _, _, h => ⟨rfl, by simpa using h⟩
  | [], c :: m, x, y, _, hm, hx, _, h => by
    exfalso
    have h : x = c :: (m ++ y) := by simpa using h
    have h1 := hm c (by simp)
    rcases hx with hx | ⟨d, r, e, h2⟩
    · rw [hx] at h; cases h
    · rw [e] at h
      injection h with h3 h4
      rw [← h3, h2] at h1
      cases h1
  | c :: n, [], x, y, hn, _, _, hy, h => by
    exfalso
    have h : c :: (n ++ x) = y := by simpa using h
    have h1 := hn c (by simp)
    rcases hy with hy | ⟨d, r, e, h2⟩
    · rw [hy] at h; cases h
    · rw [e] at h
      injection h with h3 h4
      rw [h3, h2] at h1
      cases h1
  | c :: n, d :: m, x, y, hn, hm, hx, hy, h => by
    have h : c :: (n ++ x) = d :: (m ++ y) := by simpa using h
    injection h with h1 h2
    obtain ⟨e1, e2⟩ := name_split n m (fun z hz => hn z (by simp [hz])) (fun z hz => hm z (by simp [hz])) hx hy h2
    exact ⟨by rw [h1, e1], e2⟩
theorem errL_parts0 {s : ByteArray} {l : List Tm} (h : errL [(⟨s, l⟩ : Tm)] = 0) : errL l = 0 := by
  simp only [errL] at h
  repeat' split at h
  all_goals first | (cases h; done) | assumption | simp_all
theorem errL_name0 {s : ByteArray} {l : List Tm} (h : errL [(⟨s, l⟩ : Tm)] = 0) : nameB s = true := by
  simp only [errL] at h
  repeat' split at h
  all_goals first | (cases h; done) | assumption | simp_all
def OneT (t : Tm) : Prop := ∀ (u : Tm) (x y : List UInt8), errL [t] = 0 → errL [u] = 0 → Beh x → Beh y → txtL [t] ++ x = txtL [u] ++ y → t = u ∧ x = y
theorem oneL : ∀ (l : List Tm), (∀ t ∈ l, OneT t) → ∀ (k : List Tm) (x y : List UInt8), l ≠ [] → k ≠ [] → errL l = 0 → errL k = 0 → txtL l ++ 41 :: x = txtL k ++ 41 :: y → l = k ∧ x = y
  | [], _, k, x, y, h, _, _, _, _ => absurd rfl h
  | t :: r, hT, [], x, y, _, h, _, _, _ => absurd rfl h
  | t :: r, hT, u :: q, x, y, _, _, he, hf, hh => by
    have e1 : errL [t] = 0 ∧ errL r = 0 := by
      rw [errL_cons] at he
      split at he
      · rename_i h; exact ⟨h, he⟩
      · rename_i h; exact absurd he h
    have e2 : errL [u] = 0 ∧ errL q = 0 := by
      rw [errL_cons] at hf
      split at hf
      · rename_i h; exact ⟨h, hf⟩
      · rename_i h; exact absurd hf h
    have T := hT t (by simp)
    by_cases hr : r = []
    · subst hr
      by_cases hq : q = []
      · subst hq
        obtain ⟨h1, h2⟩ := T u _ _ e1.1 e2.1 (Or.inr ⟨41, x, rfl, by simp⟩) (Or.inr ⟨41, y, rfl, by simp⟩) hh
        injection h2 with _ h2
        exact ⟨by rw [h1], h2⟩
      · rw [txtL_cons u q hq, List.append_assoc, List.cons_append] at hh
        obtain ⟨_, h2⟩ := T u _ _ e1.1 e2.1 (Or.inr ⟨41, x, rfl, by simp⟩) (Or.inr ⟨44, _, rfl, by simp⟩) hh
        injection h2 with h2 _
        cases h2
    · rw [txtL_cons t r hr, List.append_assoc, List.cons_append] at hh
      by_cases hq : q = []
      · subst hq
        obtain ⟨_, h2⟩ := T u _ _ e1.1 e2.1 (Or.inr ⟨44, _, rfl, by simp⟩) (Or.inr ⟨41, y, rfl, by simp⟩) hh
        injection h2 with h2 _
        cases h2
      · rw [txtL_cons u q hq, List.append_assoc, List.cons_append] at hh
        obtain ⟨h1, h2⟩ := T u _ _ e1.1 e2.1 (Or.inr ⟨44, _, rfl, by simp⟩) (Or.inr ⟨44, _, rfl, by simp⟩) hh
        injection h2 with _ h2
        obtain ⟨h3, h4⟩ := oneL r (fun t ht => hT t (by simp [ht])) q x y hr hq e1.2 e2.2 h2
        exact ⟨by rw [h1, h3], h4⟩
/-- No two terms have one text. -/
theorem oneT (t : Tm) : OneT t := by
  induction t using Tm.ind with
  | h s l ih =>
    rintro ⟨s', k⟩ x y he hf hx hy hh
    have nm : nameB s = true := errL_name0 he
    have nm' : nameB s' = true := errL_name0 hf
    rw [txtL_one, txtL_one, List.append_assoc, List.append_assoc] at hh
    have ends : ∀ (l : List Tm) (x : List UInt8), Beh x → Ends ((if l.isEmpty = true then [] else 40 :: (txtL l ++ [41])) ++ x) := fun l x hx => by
      by_cases hl : l.isEmpty = true
      · rw [if_pos hl]; exact hx.ends
      · rw [if_neg hl]; exact Or.inr ⟨40, _, rfl, by decide⟩
    obtain ⟨h1, h2⟩ := name_split _ _ (name_aln nm) (name_aln nm') (ends l x hx) (ends k y hy) hh
    have hs : s = s' := by
      obtain ⟨⟨a⟩⟩ := s
      obtain ⟨⟨b⟩⟩ := s'
      have : a = b := h1
      rw [this]
    have no40 : ∀ {x z : List UInt8}, Beh x → x ≠ 40 :: z := fun {x z} hx h => by
      rcases hx with hx | ⟨c, r, e, hc⟩
      · rw [hx] at h; cases h
      · rw [e] at h
        injection h with h _
        rw [h] at hc
        revert hc
        decide
    have e1 : errL l = 0 := (errL_parts0 he)
    have e2 : errL k = 0 := (errL_parts0 hf)
    cases l with
    | nil =>
      cases k with
      | nil => exact ⟨by rw [hs], by simpa using h2⟩
      | cons u k => exact absurd (by simpa using h2) (no40 (z := txtL (u :: k) ++ 41 :: y) hx)
    | cons t l =>
      cases k with
      | nil => exact absurd (by simpa using h2.symm) (no40 (z := txtL (t :: l) ++ 41 :: x) hy)
      | cons u k =>
        have h3 : txtL (t :: l) ++ 41 :: x = txtL (u :: k) ++ 41 :: y := by simpa using h2
        obtain ⟨h4, h5⟩ := oneL (t :: l) ih (u :: k) x y (by simp) (by simp) e1 e2 h3
        exact ⟨by rw [hs, h4], h5⟩
theorem txt_inj {t u : Tm} (ht : errL [t] = 0) (hu : errL [u] = 0) (h : txtL [t] = txtL [u]) : t = u := (oneT t u [] [] ht hu (Or.inl rfl) (Or.inl rfl) (by rw [h])).1
end Go.Proofs.YtdmaijmglblccaaGreatDoor

/- Bindings in memory. -/
namespace Go.Proofs.YtdmaijmglblccaaGreatDoor
open Go.RowKit
set_option linter.unusedSimpArgs false
set_option linter.unusedVariables false

/-- A variable and what stands for it. -/
structure Bd where
  nm : ByteArray
  t : Tm

/-- A list of bindings in memory. -/
def BV (w : World) (X : Nat → Prop) (v : Value) (l : List Bd) : Prop :=
  ∃ a c, v = .slice a l.length c ∧ (l.length ≤ 9223372036854775807 ∧ l.length ≤ c) ∧ (l = [] ∨ ∃ b o, a = some ⟨b, o, none⟩ ∧ X b ∧ ∀ i (h : i < l.length), w.cell? ⟨b, o + i * 3, none⟩ = some (.string l[i].nm) ∧ w.cell? ⟨b, o + i * 3 + 1, none⟩ = some (.string l[i].t.name) ∧ ∃ a' c', w.cell? ⟨b, o + i * 3 + 2, none⟩ = some (.slice a' l[i].t.args.length c') ∧ Sl w X a' l[i].t.args)

theorem BV.kept {w w' : World} {X : Nat → Prop} {v : Value} {l : List Bd} (h : BV w X v l) (hk : ∀ b, X b → w'.heap[b]? = w.heap[b]?) : BV w' X v l := by
  obtain ⟨a, c, e, hl, h⟩ := h
  refine ⟨a, c, e, hl, ?_⟩
  rcases h with h | ⟨b, o, ea, hX, h⟩
  · exact Or.inl h
  · refine Or.inr ⟨b, o, ea, hX, fun i hi => ?_⟩
    obtain ⟨h1, h2, a', c', h3, h4⟩ := h i hi
    have hb := hk b hX
    exact ⟨by simpa [World.cell?, hb] using h1, by simpa [World.cell?, hb] using h2, a', c', by simpa [World.cell?, hb] using h3, h4.kept hk⟩
theorem cell_lt {w : World} {b o : Nat} {v : Value} (h : w.cell? ⟨b, o, none⟩ = some v) : b < w.heap.size := by
  rcases Nat.lt_or_ge b w.heap.size with h' | h'
  · exact h'
  · simp [World.cell?, Array.getElem?_eq_none h'] at h
theorem BV.mono {w : World} {X Y : Nat → Prop} {v : Value} {l : List Bd} (h : BV w X v l) (hk : ∀ b, X b → b < w.heap.size → Y b) : BV w Y v l := by
  obtain ⟨a, c, e, hl, h⟩ := h
  refine ⟨a, c, e, hl, ?_⟩
  rcases h with h | ⟨b, o, ea, hX, h⟩
  · exact Or.inl h
  · by_cases h0 : l = []
    · exact Or.inl h0
    · have hp : 0 < l.length := List.length_pos_iff.2 h0
      refine Or.inr ⟨b, o, ea, hk b hX (cell_lt (h 0 hp).1), fun i hi => ?_⟩
      obtain ⟨h1, h2, a', c', h3, h4⟩ := h i hi
      exact ⟨h1, h2, a', c', h3, h4.mono hk⟩
theorem BV.later {w w' : World} {X : Nat → Prop} {v : Value} {l : List Bd} (h : BV w X v l) (hb : Below w.heap.size w w') : BV w' X v l :=
  ((h.mono (Y := fun b => X b ∧ b < w.heap.size) fun b h1 h2 => ⟨h1, h2⟩).kept fun b hx => hb.block b hx.2).mono fun b hx _ => hx.1
theorem BV.alloc {w : World} {X : Nat → Prop} {v : Value} {l : List Bd} (h : BV w X v l) (o : Obj) : BV (w.alloc o) X v l := h.later ((Below.refl _ _).alloc (Nat.le_refl _) o)
theorem BV.get {w : World} {X : Nat → Prop} {a : Option Addr} {n c : Nat} {l : List Bd} (h : BV w X (.slice a n c) l) (i : Nat) (hi : i < l.length) :
    ∃ b o a' c', a = some ⟨b, o, none⟩ ∧ w.cell? ⟨b, o + i * 3, none⟩ = some (.string l[i].nm) ∧ w.cell? ⟨b, o + i * 3 + 1, none⟩ = some (.string l[i].t.name) ∧ w.cell? ⟨b, o + i * 3 + 2, none⟩ = some (.slice a' l[i].t.args.length c') ∧ Sl w X a' l[i].t.args := by
  obtain ⟨a2, c2, e, hl, h⟩ := h
  simp at e
  obtain ⟨rfl, rfl, rfl⟩ := e
  rcases h with h | ⟨b, o, ea, hX, h⟩
  · subst h; simp at hi
  · obtain ⟨h1, h2, a', c', h3, h4⟩ := h i hi
    exact ⟨b, o, a', c', ea, h1, h2, h3, h4⟩

theorem bytes_inj {a b : ByteArray} (h : a.toList = b.toList) : a = b := by
  rw [ByteArray.toList_eq, ByteArray.toList_eq] at h
  cases a with
  | mk x =>
    cases b with
    | mk y => congr 1; exact Array.toList_inj.1 h
end Go.Proofs.YtdmaijmglblccaaGreatDoor

/- Walks: all knots of a term. -/
namespace Go.Proofs.YtdmaijmglblccaaGreatDoor
open Go.RowKit
set_option linter.unusedSimpArgs false
set_option linter.unusedVariables false

theorem Tryz.infoTerm : (Tryz.prog.info? 25).map (fun i => (i.zero, i.size, i.bytes)) = some (some (.agg #[.string ByteArray.empty, .slice none 0 0]), 2, 40) := by kernel_rfl

theorem ownsRow_base {w : World} {base base' e size : Nat} {v : Value} {n : Nat} {xs : List Value} (h : w.ownsRow base e size v n xs) (hb : base' ≤ base) : w.ownsRow base' e size v n xs := by
  obtain ⟨h0, h1⟩ := h
  refine ⟨h0, ?_⟩
  rcases h1 with h1 | ⟨g, cap, cur, hv, hg, r⟩
  · exact Or.inl h1
  · exact Or.inr ⟨g, cap, cur, hv, Nat.le_trans hb hg, r⟩

set_option maxHeartbeats 400000 in
theorem knots_any (t : Tm) : ∀ (v : Value) (w : World) (X : Nat → Prop), TV w X v t → sizeL [t] ≤ 1000000 →
    Calls Tryz.prog 11 #[v] w fun e w' => ∃ v' xs, e = .returned v' ∧ w'.ownsRow w.heap.size 25 2 v' (sizeL [t]) xs ∧ RowT w X (preL [t]) xs ∧ Below w.heap.size w w' := by
  induction t using Tm.ind with
  | h s l ih =>
    intro v w X0 hv0 hsm
    obtain ⟨X, hX, hXX, hv⟩ : ∃ X : Nat → Prop, (∀ b, X b → b < w.heap.size) ∧ (∀ b, X b → X0 b) ∧ TV w X v ⟨s, l⟩ := ⟨fun b => X0 b ∧ b < w.heap.size, fun _ h => h.2, fun _ h => h.1, hv0.mono fun b h1 h2 => ⟨h1, h2⟩⟩
    clear hv0
    obtain ⟨a, c, rfl, hs⟩ := hv
    have IH := hide ih
    clear ih
    have hl := hs.1
    have hz : sizeL [(⟨s, l⟩ : Tm)] = 1 + sizeL l := by simp [sizeL]
    rw [hz] at hsm ⊢
    clear hz
    obtain ⟨i0, hi, hz0, hz1, hz2⟩ := info_parts Tryz.infoTerm
    go_enter Tryz.func11, Tryz.ntmps11
    go_wp2_with fail
    go_loopw [3, 4] (fun v i wr => ∃ (k : Nat) (xs : List Value), k ≤ l.length ∧ i = .int .i64 k ∧ wr.ownsRow (w.heap.size + 1) 25 2 v (1 + sizeL (l.take k)) xs ∧ RowT w X (⟨s, l⟩ :: preL (l.take k)) xs ∧ Below (w.heap.size + 1) (w.alloc (Obj.cells #[Value.string s, Value.slice a l.length c] 25)) wr) (fun v i wr => l.length - (intOf i).toNat)
    case atStart =>
      refine ⟨0, [.string s, .slice a l.length c], Nat.zero_le _, rfl, ⟨by simp [sizeL], Or.inr ⟨w.heap.size + 1, 1, #[.string s, .slice a l.length c], by simp [sizeL], Nat.le_refl _, ?_, by simp [sizeL], by decide, by simp, by simp [sizeL]⟩⟩, ⟨a, c, [], rfl, hs, by simp [preL, RowT]⟩, (Below.refl _ _).alloc (by simp) _⟩
      have := heap_alloc_new (w.alloc (Obj.cells #[Value.string s, Value.slice a l.length c] 25)) (Obj.cells #[Value.string s, Value.slice a l.length c] 25)
      simpa using this
    case round =>
      obtain ⟨k, xs, hk, rfl, hown, hrow, hb⟩ := hrel
      have HROW := hide hrow
      clear hrow
      have hc := bcell hb
      have c0 : wr.cell? ⟨w.heap.size, 0, none⟩ = some (.string s) := by rw [hc.1 _ _ (by omega)]; simp
      have c1 : wr.cell? ⟨w.heap.size, 1, none⟩ = some (.slice a l.length c) := by rw [hc.1 _ _ (by omega)]; simp
      clear hc
      have hsz : w.heap.size + 1 ≤ wr.heap.size := by have := hb.size; simpa using this
      by_cases hlt : k < l.length
      · obtain ⟨b, o, a', c', rfl, d0, d1, hx⟩ := hs.get (below_box hb) (fun _ _ h => h) k hlt
        have Hst := hide (sizeL_take l k hlt)
        have hle := sizeL_take_le l (k + 1)
        have hle1 : sizeL (l.take k) + sizeL [l[k]] ≤ sizeL l := by rw [← Hst.out]; exact hle
        have hpos : 0 < sizeL [l[k]] := by generalize l[k] = t; obtain ⟨s', l'⟩ := t; simp [sizeL]; omega
        clear hle
        go_wp2_with fail
        refine (IH.out _ (List.getElem_mem hlt) _ _ X hx (by omega)).mono ?_
        rintro e w1 ⟨v1, ys, rfl, hown1, hrow1, hb1⟩
        have HROW1 : Hid (RowT w X (preL [l[k]]) ys) := hrow1.imp fun a l h => h.back (below_box hb) hX
        have hlen1 := hide hown1.1
        have hcells := hide (owned_val hown1 hpos)
        obtain ⟨g1, cap1, rfl, hg1, hg1', hcel⟩ := hcells.out
        have hownw1 : w1.ownsRow (w.heap.size + 1) 25 2 _ (1 + sizeL (l.take k)) xs := hown.kept (w' := w1) (row := none) ⟨hb1.os, hb1.tape, hb1.output, hb1.size, fun j hj _ => hb1.block j hj⟩ (by rcases Option.eq_none_or_eq_some (Value.ownBlock _) with h | ⟨x, h⟩; exact Or.inl h; exact Or.inr (by rw [h]; simp))
        have hyl : ys.length = sizeL [l[k]] * 2 := hlen1.out
        obtain ⟨v2, w2, hr2, hown2, hgr2, hnil2⟩ := run_append_own (P := Tryz.prog) w1 (w.heap.size + 1) 23 23 25 i0 _ 2 40 Tryz.underlying23 hi hz0 hz1 hz2 rfl (by decide) _ _ xs hownw1
          ⟨g1, 0, none⟩ (sizeL [l[k]]) cap1 ys hyl (fun j u hj => by
            have := hcel j u hj
            by_cases h0 : j = 0
            · subst h0; simpa [Addr.add] using this
            · simpa [Addr.add, h0] using this) HROW1.out.one (by unfold maxLen; omega) (by omega) (by have := hb1.size; omega)
        clear hnil2
        have hb2 : Hid (Below (w.heap.size + 1) (w.alloc (Obj.cells #[Value.string s, Value.slice (some ⟨b, o, none⟩) l.length c] 25)) w2) :=
          (hb.trans (hb1.mono hsz)).grown hgr2 (by have := hb1.size; omega) (fun j hj => (hownw1.lt j hj).1)
        have HR2 : Hid (RowT w X (⟨s, l⟩ :: preL (l.take (k + 1))) (xs ++ ys)) := by
          have := HROW.out.append HROW1.out
          unfold Hid
          rw [preL_take l k hlt]
          simpa using this
        have hown3 := hide hown2
        clear hown1 hownw1 hown2 hgr2 hcel hyl
        have HA := hide hr2
        clear hr2
        go_wp2_with (at_builtin; refine wpList_append_eq rfl _ _ _ _ rfl rfl rfl HA.out ?_)
        go_roundw
        case rel => exact ⟨k + 1, xs ++ ys, by omega, by go_num, by have := hown3.out; rw [Hst.out, ← Nat.add_assoc]; exact this, HR2.out, hb2.out⟩
        case measure => simp [intOf]; omega
      · have htk : l.take k = l := List.take_of_length_le (by omega)
        rw [htk] at hown
        have hown3 := hide hown
        have hr3 : Hid (RowT w X0 (preL [(⟨s, l⟩ : Tm)]) xs) := by
          have := HROW.out
          rw [htk] at this
          have h2 : RowT w X0 (⟨s, l⟩ :: preL l) xs := this.imp fun a l h => h.mono fun b hb _ => hXX b hb
          unfold Hid
          simpa [preL] using h2
        clear hown
        go_wp2_with fail
        go_ret
        exact ⟨_, xs, rfl, ownsRow_base hown3.out (by omega), hr3.out, below_box hb⟩
end Go.Proofs.YtdmaijmglblccaaGreatDoor

/- Walks: what the document says of a term. -/
namespace Go.Proofs.YtdmaijmglblccaaGreatDoor
open Go.RowKit
set_option linter.unusedSimpArgs false
set_option linter.unusedVariables false

def kErr (t : Tm) : Int := if nameB t.name = true then (if (varB t.name && decide (0 < t.args.length)) = true then 2 else 0) else 1
def errP : List Tm → Int
  | [] => 0
  | t :: r => if kErr t = 0 then errP r else kErr t
theorem errP_append (a b : List Tm) : errP (a ++ b) = if errP a = 0 then errP b else errP a := by
  induction a with
  | nil => simp [errP]
  | cons t r ih => simp only [List.cons_append, errP, ih]; by_cases h : kErr t = 0 <;> simp [h]
theorem errL_preL (l : List Tm) : errL l = errP (preL l) := by
  induction l using Tm.indL with
  | h0 => simp [errL, preL, errP]
  | h s l r ihl ihr =>
    simp only [errL, preL, errP, errP_append, ← ihl, ← ihr, kErr]
    by_cases h1 : nameB s = true
    · by_cases h2 : (varB s && decide (0 < l.length)) = true
      · simp only [h1, h2, if_true]; simp
      · simp only [h1, if_true]; rw [if_neg h2, if_neg h2]; simp
    · rw [if_neg h1, if_neg h1]; simp
theorem errP_take (l : List Tm) (k : Nat) (h : k < l.length) : errP (l.take (k + 1)) = if errP (l.take k) = 0 then kErr l[k] else errP (l.take k) := by
  rw [List.take_succ_eq_append_getElem h, errP_append]
  congr 1
  simp only [errP]
  by_cases h : kErr l[k] = 0 <;> simp [h]
theorem errP_of_take {l : List Tm} {k : Nat} (h : errP (l.take k) ≠ 0) : errP l = errP (l.take k) := by
  have := errP_append (l.take k) (l.drop k)
  rw [List.take_append_drop, if_neg h] at this
  exact this
theorem errP_at {l : List Tm} {k : Nat} (h : k < l.length) (h0 : errP (l.take k) = 0) (h1 : kErr l[k] ≠ 0) : errP l = kErr l[k] := by
  have e := errP_take l k h
  rw [if_pos h0] at e
  rw [← e]
  exact errP_of_take (by rw [e]; exact h1)

set_option maxHeartbeats 400000 in
theorem termMay_any (t : Tm) (v : Value) (w : World) (X : Nat → Prop) (hv : TV w X v t) :
    Calls Tryz.prog 9 #[v] w fun e w' => e = .returned (.int .i64 (mayE t)) ∧ Below w.heap.size w w' := by
  obtain ⟨a, c, rfl, hs⟩ := hv
  have hv : TV w X (.agg #[.string t.name, .slice a t.args.length c]) t := ⟨a, c, rfl, hs⟩
  go_enter Tryz.func9, Tryz.ntmps9
  go_wp2_with fail
  refine (size_any t _ _ _ X (hv.alloc _) (by omega) (by omega)).mono ?_
  rintro e w1 ⟨rfl, hb1⟩
  have c0 : w1.cell? ⟨w.heap.size, 0, none⟩ = some (.string t.name) := by rw [hb1.cell (p := ⟨_, _, none⟩) (by simp)]; simp
  have c1 : w1.cell? ⟨w.heap.size, 1, none⟩ = some (.slice a t.args.length c) := by rw [hb1.cell (p := ⟨_, _, none⟩) (by simp)]; simp
  have hb2 : Below w.heap.size w w1 := ((Below.refl _ _).alloc (Nat.le_refl _) _).trans (hb1.mono (by simp))
  by_cases h : 200 < sizeL [t]
  · have hm : Hid (3 = mayE t) := by simp [Hid, mayE, h]
    have e : min ((sizeL [t] : Int)) (200 + 1) = 201 := by omega
    rw [e]
    go_wp2_with fail
    go_ret
    exact ⟨ret_int hm.out, hb2⟩
  · have hm : Hid (errP (preL [t]) = mayE t) := by simp [Hid, mayE, h, errL_preL]
    have e : min ((sizeL [t] : Int)) (200 + 1) = sizeL [t] := by omega
    rw [e]
    go_wp2_with fail
    refine (knots_any t _ _ X (hv.later hb2) (by omega)).mono ?_
    rintro e w2 ⟨v2, xs, rfl, hown, hrow, hb3⟩
    have hpos : 0 < sizeL [t] := by obtain ⟨s', l'⟩ := t; simp [sizeL]; omega
    obtain ⟨g, cap, rfl, hg, hg', hcel⟩ := owned_val hown hpos
    have hb4 := hide (hb2.trans (hb3.mono hb2.size))
    have HROW := hide hrow
    have HCEL := hide hcel
    have hpl := preL_length [t]
    generalize preL [t] = ks at *
    have hks : ks.length ≤ 1000 := by omega
    rw [← hpl]
    clear hown hrow hcel hb3 hb1 c0 c1 hpl hpos e
    go_wp2_with fail
    go_loop [4] (fun i => ∃ k : Nat, k ≤ ks.length ∧ i = .int .i64 k ∧ errP (ks.take k) = 0) (fun i => ks.length - (intOf i).toNat)
    case atStart => exact ⟨0, Nat.zero_le _, rfl, by simp [errP]⟩
    case round =>
      obtain ⟨k, hk, rfl, he⟩ := hrel
      have HE := hide he
      clear he
      by_cases hlt : k < ks.length
      · obtain ⟨x0, a', c', x1, hsl⟩ := HROW.out.get k hlt
        have d0 := HCEL.out _ _ x0
        have d1 := HCEL.out _ _ x1
        have hl1 := hsl.1
        clear x0 x1
        cases hn : nameB ks[k].name with
        | false =>
          have HN := hide hn
          have hz : Hid (1 = mayE t) := by
            have : kErr ks[k] = 1 := by simp [kErr, hn]
            unfold Hid; rw [← hm.out, errP_at hlt HE.out (by rw [this]; decide), this]
          clear hn
          go_wp2_with (go_at_call 25; refine (isNameR_any _ _).mono ?_; rintro e w' ⟨rfl, rfl⟩; rw [HN.out])
          go_ret
          exact ⟨ret_int hz.out, hb4.out⟩
        | true =>
          have HN := hide hn
          cases hv : varB ks[k].name with
          | true =>
            have HV := hide hv
            by_cases hp : 0 < ks[k].args.length
            · have hz : Hid (2 = mayE t) := by
                have : kErr ks[k] = 2 := by simp [kErr, hn, hv, hp]
                unfold Hid; rw [← hm.out, errP_at hlt HE.out (by rw [this]; decide), this]
              clear hn hv
              go_wp2_with (first | (go_at_call 25; refine (isNameR_any _ _).mono ?_; rintro e w' ⟨rfl, rfl⟩; rw [HN.out]) | (go_at_call 26; refine (isVarR_any _ _).mono ?_; rintro e w' ⟨rfl, rfl⟩; rw [HV.out]))
              go_ret
              exact ⟨ret_int hz.out, hb4.out⟩
            · have hz : Hid (errP (ks.take (k + 1)) = 0) := by
                have : kErr ks[k] = 0 := by simp [kErr, hn, hv, hp]
                unfold Hid; rw [errP_take _ _ hlt, HE.out, this]; rfl
              clear hn hv
              go_wp2_with (first | (go_at_call 25; refine (isNameR_any _ _).mono ?_; rintro e w' ⟨rfl, rfl⟩; rw [HN.out]) | (go_at_call 26; refine (isVarR_any _ _).mono ?_; rintro e w' ⟨rfl, rfl⟩; rw [HV.out]))
              go_round
              case rel => exact ⟨k + 1, by omega, by go_num, hz.out⟩
              case measure => simp [intOf]; omega
          | false =>
            have HV := hide hv
            have hz : Hid (errP (ks.take (k + 1)) = 0) := by
              have : kErr ks[k] = 0 := by simp [kErr, hn, hv]
              unfold Hid; rw [errP_take _ _ hlt, HE.out, this]; rfl
            clear hn hv
            go_wp2_with (first | (go_at_call 25; refine (isNameR_any _ _).mono ?_; rintro e w' ⟨rfl, rfl⟩; rw [HN.out]) | (go_at_call 26; refine (isVarR_any _ _).mono ?_; rintro e w' ⟨rfl, rfl⟩; rw [HV.out]))
            go_round
            case rel => exact ⟨k + 1, by omega, by go_num, hz.out⟩
            case measure => simp [intOf]; omega
      · have htk : ks.take k = ks := List.take_of_length_le (by omega)
        have hz : Hid (0 = mayE t) := by unfold Hid; rw [← hm.out, ← htk, HE.out]
        go_wp2_with fail
        go_ret
        exact ⟨ret_int hz.out, hb4.out⟩

/-- What is wrong with the first, else with the second. -/
def twoE (t x : Tm) : Int := if mayE t = 0 then mayE x else mayE t

set_option maxHeartbeats 400000 in
theorem twoMay_any (t x : Tm) (v u : Value) (w : World) (X : Nat → Prop) (hv : TV w X v t) (hu : TV w X u x) :
    Calls Tryz.prog 41 #[v, u] w fun e w' => e = .returned (.int .i64 (twoE t x)) ∧ Below w.heap.size w w' := by
  obtain ⟨a, c, rfl, hs⟩ := hv
  obtain ⟨a2, c2, rfl, hs2⟩ := hu
  have hv : TV w X (.agg #[.string t.name, .slice a t.args.length c]) t := ⟨a, c, rfl, hs⟩
  have hu : TV w X (.agg #[.string x.name, .slice a2 x.args.length c2]) x := ⟨a2, c2, rfl, hs2⟩
  go_enter Tryz.func41, Tryz.ntmps41
  go_wp2_with fail
  refine (termMay_any t _ _ X ((hv.alloc _).alloc _)).mono ?_
  rintro e w1 ⟨rfl, hb1⟩
  have c0 : w1.cell? ⟨w.heap.size + 1, 0, none⟩ = some (.string x.name) := by rw [hb1.cell (p := ⟨_, _, none⟩) (by simp)]; simp
  have c1 : w1.cell? ⟨w.heap.size + 1, 1, none⟩ = some (.slice a2 x.args.length c2) := by rw [hb1.cell (p := ⟨_, _, none⟩) (by simp)]; simp
  have hb2 : Below w.heap.size w w1 := (((Below.refl _ _).alloc (Nat.le_refl _) _).alloc (by simp) _).trans (hb1.mono (by simp; omega))
  by_cases h : mayE t = 0
  · have hz : Hid (mayE x = twoE t x) := by simp [Hid, twoE, h]
    rw [h]
    clear h
    go_wp2_with fail
    refine (termMay_any x _ _ X (hu.later hb2)).mono ?_
    rintro e w2 ⟨rfl, hb3⟩
    go_wp2_with fail
    go_ret
    exact ⟨ret_int hz.out, hb2.trans (hb3.mono hb2.size)⟩
  · have hz : Hid (mayE t = twoE t x) := by simp [Hid, twoE, h]
    have h' : (mayE t == 0) = false := by simpa using h
    clear h
    go_wp2_with fail
    go_ret
    exact ⟨ret_int hz.out, hb2⟩

set_option maxHeartbeats 400000 in
theorem huge_any (t : Tm) (v : Value) (w : World) (X : Nat → Prop) (hv : TV w X v t) :
    Calls Tryz.prog 7 #[v] w fun e w' => e = .returned (.bool (decide (3000 < sizeL [t]))) ∧ Below w.heap.size w w' := by
  obtain ⟨a, c, rfl, hs⟩ := hv
  have hv : TV w X (.agg #[.string t.name, .slice a t.args.length c]) t := ⟨a, c, rfl, hs⟩
  go_enter Tryz.func7, Tryz.ntmps7
  go_wp2_with fail
  refine (size_any t _ _ _ X (hv.alloc _) (by omega) (by omega)).mono ?_
  rintro e w1 ⟨rfl, hb1⟩
  have hb2 : Below w.heap.size w w1 := ((Below.refl _ _).alloc (Nat.le_refl _) _).trans (hb1.mono (by simp))
  go_wp2_with fail
  go_ret
  exact ⟨ret_bool (by rw [Bool.eq_iff_iff]; simp; omega), hb2⟩
end Go.Proofs.YtdmaijmglblccaaGreatDoor

/- Pairs of terms in memory; what is wrong with them. -/
namespace Go.Proofs.YtdmaijmglblccaaGreatDoor
open Go.RowKit
set_option linter.unusedSimpArgs false
set_option linter.unusedVariables false

/-- Two terms. -/
structure Pr where
  l : Tm
  r : Tm

/-- A list of pairs in memory. -/
def QV (w : World) (X : Nat → Prop) (v : Value) (l : List Pr) : Prop :=
  ∃ a c, v = .slice a l.length c ∧ (l.length ≤ 9223372036854775807 ∧ l.length ≤ c) ∧ (l = [] ∨ ∃ b o, a = some ⟨b, o, none⟩ ∧ X b ∧ ∀ i (h : i < l.length), ∃ a1 c1 a2 c2, w.cell? ⟨b, o + i * 4, none⟩ = some (.string l[i].l.name) ∧ w.cell? ⟨b, o + i * 4 + 1, none⟩ = some (.slice a1 l[i].l.args.length c1) ∧ w.cell? ⟨b, o + i * 4 + 2, none⟩ = some (.string l[i].r.name) ∧ w.cell? ⟨b, o + i * 4 + 3, none⟩ = some (.slice a2 l[i].r.args.length c2) ∧ Sl w X a1 l[i].l.args ∧ Sl w X a2 l[i].r.args)

theorem QV.kept {w w' : World} {X : Nat → Prop} {v : Value} {l : List Pr} (h : QV w X v l) (hk : ∀ b, X b → w'.heap[b]? = w.heap[b]?) : QV w' X v l := by
  obtain ⟨a, c, e, hl, h⟩ := h
  refine ⟨a, c, e, hl, ?_⟩
  rcases h with h | ⟨b, o, ea, hX, h⟩
  · exact Or.inl h
  · refine Or.inr ⟨b, o, ea, hX, fun i hi => ?_⟩
    obtain ⟨a1, c1, a2, c2, h1, h2, h3, h4, h5, h6⟩ := h i hi
    have hb := hk b hX
    exact ⟨a1, c1, a2, c2, by simpa [World.cell?, hb] using h1, by simpa [World.cell?, hb] using h2, by simpa [World.cell?, hb] using h3, by simpa [World.cell?, hb] using h4, h5.kept hk, h6.kept hk⟩
theorem QV.mono {w : World} {X Y : Nat → Prop} {v : Value} {l : List Pr} (h : QV w X v l) (hk : ∀ b, X b → b < w.heap.size → Y b) : QV w Y v l := by
  obtain ⟨a, c, e, hl, h⟩ := h
  refine ⟨a, c, e, hl, ?_⟩
  rcases h with h | ⟨b, o, ea, hX, h⟩
  · exact Or.inl h
  · by_cases h0 : l = []
    · exact Or.inl h0
    · have hp : 0 < l.length := List.length_pos_iff.2 h0
      obtain ⟨_, _, _, _, g, _⟩ := h 0 hp
      refine Or.inr ⟨b, o, ea, hk b hX (cell_lt g), fun i hi => ?_⟩
      obtain ⟨a1, c1, a2, c2, h1, h2, h3, h4, h5, h6⟩ := h i hi
      exact ⟨a1, c1, a2, c2, h1, h2, h3, h4, h5.mono hk, h6.mono hk⟩
theorem QV.later {w w' : World} {X : Nat → Prop} {v : Value} {l : List Pr} (h : QV w X v l) (hb : Below w.heap.size w w') : QV w' X v l :=
  ((h.mono (Y := fun b => X b ∧ b < w.heap.size) fun b h1 h2 => ⟨h1, h2⟩).kept fun b hx => hb.block b hx.2).mono fun b hx _ => hx.1
theorem QV.alloc {w : World} {X : Nat → Prop} {v : Value} {l : List Pr} (h : QV w X v l) (o : Obj) : QV (w.alloc o) X v l := h.later ((Below.refl _ _).alloc (Nat.le_refl _) o)
theorem QV.get {w : World} {X : Nat → Prop} {a : Option Addr} {n c : Nat} {l : List Pr} (h : QV w X (.slice a n c) l) (i : Nat) (hi : i < l.length) :
    ∃ b o a1 c1 a2 c2, a = some ⟨b, o, none⟩ ∧ w.cell? ⟨b, o + i * 4, none⟩ = some (.string l[i].l.name) ∧ w.cell? ⟨b, o + i * 4 + 1, none⟩ = some (.slice a1 l[i].l.args.length c1) ∧ w.cell? ⟨b, o + i * 4 + 2, none⟩ = some (.string l[i].r.name) ∧ w.cell? ⟨b, o + i * 4 + 3, none⟩ = some (.slice a2 l[i].r.args.length c2) ∧ Sl w X a1 l[i].l.args ∧ Sl w X a2 l[i].r.args := by
  obtain ⟨a2, c2, e, hl, h⟩ := h
  simp at e
  obtain ⟨rfl, rfl, rfl⟩ := e
  rcases h with h | ⟨b, o, ea, hX, h⟩
  · subst h; simp at hi
  · obtain ⟨a1, c1, a2, c2, h1, h2, h3, h4, h5, h6⟩ := h i hi
    exact ⟨b, o, a1, c1, a2, c2, ea, h1, h2, h3, h4, h5, h6⟩

/-- What is wrong with the first that is wrong. -/
def pmT (ls : List Pr) : Nat → Int
  | 0 => 0
  | k + 1 => if pmT ls k = 0 then (match ls[k]? with | some p => twoE p.l p.r | none => 0) else pmT ls k
def pairsE (ls : List Pr) : Int := if 40 < ls.length then 3 else pmT ls ls.length
theorem pmT_stays {ls : List Pr} {k : Nat} (h : pmT ls k ≠ 0) : ∀ n, k ≤ n → pmT ls n = pmT ls k
  | 0, hn => by
    have : k = 0 := by omega
    subst this; rfl
  | n + 1, hn => by
    by_cases e : k = n + 1
    · subst e; rfl
    · have ih := pmT_stays h n (by omega)
      rw [pmT, if_neg (by rw [ih]; exact h)]
      exact ih
theorem pmT_next {ls : List Pr} {k : Nat} (hk : k < ls.length) (h0 : pmT ls k = 0) : pmT ls (k + 1) = twoE ls[k].l ls[k].r := by rw [pmT, if_pos h0, List.getElem?_eq_getElem hk]
theorem pmT_err {ls : List Pr} {k : Nat} (hk : k < ls.length) (h40 : ¬ 40 < ls.length) (h0 : pmT ls k = 0) (hne : twoE ls[k].l ls[k].r ≠ 0) : pairsE ls = twoE ls[k].l ls[k].r := by
  unfold pairsE
  rw [if_neg h40]
  have h1 := pmT_next hk h0
  rw [← h1]
  exact pmT_stays (by rw [h1]; exact hne) _ (by omega)
theorem pairsE_len {ls : List Pr} (h : pairsE ls = 0) : ls.length ≤ 40 := by
  unfold pairsE at h
  split at h
  · cases h
  · omega
theorem pairsE_all {ls : List Pr} (h : pairsE ls = 0) : ∀ p ∈ ls, mayE p.l = 0 ∧ mayE p.r = 0 := by
  intro p hp
  obtain ⟨k, hk, rfl⟩ := List.getElem_of_mem hp
  have h40 := pairsE_len h
  unfold pairsE at h
  rw [if_neg (by omega)] at h
  have h0 : ∀ n, n ≤ ls.length → pmT ls n = 0 := fun n hn => by
    by_cases e : pmT ls n = 0
    · exact e
    · have := pmT_stays e _ hn
      rw [this] at h
      exact absurd h e
  have h1 := pmT_next hk (h0 k (by omega))
  rw [h0 (k + 1) (by omega)] at h1
  have h2 := h1.symm
  unfold twoE at h2
  by_cases e : mayE ls[k].l = 0
  · rw [if_pos e] at h2; exact ⟨e, h2⟩
  · rw [if_neg e] at h2; exact absurd h2 e
end Go.Proofs.YtdmaijmglblccaaGreatDoor

/- Plain: what equations without variables make the same, among the terms that are there. -/
namespace Go.Proofs.YtdmaijmglblccaaGreatDoor
open Go.RowKit
set_option linter.unusedSimpArgs false
set_option linter.unusedVariables false
set_option maxRecDepth 8000

/-- What a number's digits are worth. -/
def decK (l : List UInt8) : Nat := l.foldl (fun a b => 10 * a + (b.toNat - 48)) 0
theorem decK_snoc (l : List UInt8) (b : UInt8) : decK (l ++ [b]) = 10 * decK l + (b.toNat - 48) := by simp [decK]
theorem digK {n : Nat} (h : n < 10) : (UInt8.ofNat (48 + n)).toNat - 48 = n := by
  rw [UInt8.toNat_ofNat']
  omega
theorem decK_dec (n : Nat) : decK (Lib.decDigits n) = n := by
  induction n using Nat.strongRecOn with
  | ind n ih =>
    by_cases h : n < 10
    · rw [Lib.decDigits, dif_pos h]
      have := decK_snoc [] (UInt8.ofNat (48 + n))
      simp only [List.nil_append] at this
      rw [this, digK h]
      simp [decK]
    · have e : Lib.decDigits n = Lib.decDigits (n / 10) ++ [UInt8.ofNat (48 + n % 10)] := by
        conv => lhs; rw [Lib.decDigits, dif_neg h]
      rw [e, decK_snoc, ih (n / 10) (by omega), digK (by omega)]
      omega
theorem aln_dig {n : Nat} (h : n < 10) : alnB ((UInt8.ofNat (48 + n)).toNat : Int) = true := by
  have : ∀ k : Fin 10, alnB ((UInt8.ofNat (48 + k.val)).toNat : Int) = true := by decide
  exact this ⟨n, h⟩
theorem aln_dec (n : Nat) : ∀ c ∈ Lib.decDigits n, alnB (c.toNat : Int) = true := by
  induction n using Nat.strongRecOn with
  | ind n ih =>
    by_cases h : n < 10
    · rw [Lib.decDigits, dif_pos h]
      intro c hc
      rw [List.mem_singleton.1 hc]
      exact aln_dig h
    · have e : Lib.decDigits n = Lib.decDigits (n / 10) ++ [UInt8.ofNat (48 + n % 10)] := by
        conv => lhs; rw [Lib.decDigits, dif_neg h]
      rw [e]
      intro c hc
      rcases List.mem_append.1 hc with hc | hc
      · exact ih (n / 10) (by omega) c hc
      · rw [List.mem_singleton.1 hc]
        exact aln_dig (by omega)
/-- Numbers, a blank ahead of each. -/
def sgW : List Nat → List UInt8
  | [] => []
  | c :: r => 32 :: (Lib.decDigits c ++ sgW r)
theorem sgW_app : ∀ a b : List Nat, sgW (a ++ b) = sgW a ++ sgW b
  | [], b => rfl
  | c :: r, b => by rw [List.cons_append, sgW, sgW, sgW_app r b]; simp
/-- A term's sign: its symbol, and numbers for those right below it. -/
def sgn (n : ByteArray) (cs : List Nat) : ByteArray := ⟨(n.data.toList ++ sgW cs).toArray⟩
theorem sgW_ends : ∀ cs : List Nat, Ends (sgW cs)
  | [] => Or.inl rfl
  | c :: r => Or.inr ⟨32, _, rfl, by decide⟩
theorem sgW_inj : ∀ a b : List Nat, sgW a = sgW b → a = b
  | [], [], _ => rfl
  | [], c :: r, h => by cases h
  | c :: r, [], h => by cases h
  | c :: r, d :: q, h => by
    rw [sgW, sgW] at h
    injection h with _ h
    obtain ⟨h1, h2⟩ := name_split _ _ (aln_dec c) (aln_dec d) (sgW_ends r) (sgW_ends q) h
    have h3 : c = d := by rw [← decK_dec c, h1, decK_dec]
    rw [h3, sgW_inj r q h2]
theorem sgn_inj {n m : ByteArray} {a b : List Nat} (hn : nameB n = true) (hm : nameB m = true) (h : sgn n a = sgn m b) : n = m ∧ a = b := by
  unfold sgn at h
  have h1 := congrArg (fun x : ByteArray => x.data.toList) h
  simp only [List.toList_toArray] at h1
  obtain ⟨h2, h3⟩ := name_split _ _ (name_aln hn) (name_aln hm) (sgW_ends a) (sgW_ends b) h1
  refine ⟨?_, sgW_inj _ _ h3⟩
  obtain ⟨⟨x⟩⟩ := n
  obtain ⟨⟨y⟩⟩ := m
  have : x = y := h2
  rw [this]

/-- What equations make the same, among those of S. -/
inductive Cg (E : List Pr) (S : Tm → Prop) : Tm → Tm → Prop
  | refl (t : Tm) : Cg E S t t
  | sym {a b : Tm} : Cg E S a b → Cg E S b a
  | trans {a b c : Tm} : Cg E S a b → Cg E S b c → Cg E S a c
  | eq {p : Pr} : p ∈ E → Cg E S p.l p.r
  | cong {n : ByteArray} {l k : List Tm} : S ⟨n, l⟩ → S ⟨n, k⟩ → l.length = k.length → (∀ (i : Nat) (h1 : i < l.length) (h2 : i < k.length), Cg E S l[i] k[i]) → Cg E S ⟨n, l⟩ ⟨n, k⟩
theorem Cg.mono {E : List Pr} {S T : Tm → Prop} (h : ∀ t, S t → T t) {a b : Tm} (g : Cg E S a b) : Cg E T a b := by
  induction g with
  | refl t => exact .refl t
  | sym _ ih => exact .sym ih
  | trans _ _ i1 i2 => exact .trans i1 i2
  | eq hp => exact .eq hp
  | cong h1 h2 hl _ ih => exact .cong (h _ h1) (h _ h2) hl ih
theorem Cg.iff {E : List Pr} {S T : Tm → Prop} (h : ∀ t, S t ↔ T t) {a b : Tm} : Cg E S a b ↔ Cg E T a b := ⟨fun g => g.mono fun t ht => (h t).1 ht, fun g => g.mono fun t ht => (h t).2 ht⟩
/-- Terms by numbers, and a number of each for what is the same. -/
structure Num (E : List Pr) (L : List Tm) (K : List Nat) : Prop where
  nd : L.Nodup
  len : K.length = L.length
  below : ∀ t ∈ L, ∀ x ∈ t.args, x ∈ L
  eqs : ∀ p ∈ E, p.l ∈ L ∧ p.r ∈ L
/-- What is done when nothing more becomes the same. -/
structure Done (E : List Pr) (L : List Tm) (K : List Nat) : Prop where
  sound : ∀ (i k : Nat) (h1 : i < L.length) (h2 : k < L.length) (g1 : i < K.length) (g2 : k < K.length), K[i] = K[k] → Cg E (· ∈ L) L[i] L[k]
  given : ∀ p ∈ E, ∃ (i k : Nat) (h1 : i < L.length) (h2 : k < L.length) (g1 : i < K.length) (g2 : k < K.length), L[i] = p.l ∧ L[k] = p.r ∧ K[i] = K[k]
  closed : ∀ (i k : Nat) (h1 : i < L.length) (h2 : k < L.length) (g1 : i < K.length) (g2 : k < K.length), L[i].name = L[k].name → L[i].args.length = L[k].args.length →
    (∀ (j : Nat) (q1 : j < L[i].args.length) (q2 : j < L[k].args.length), ∃ (x y : Nat) (h3 : x < L.length) (h4 : y < L.length) (g3 : x < K.length) (g4 : y < K.length), L[x] = L[i].args[j] ∧ L[y] = L[k].args[j] ∧ K[x] = K[y]) → K[i] = K[k]
/-- The same, or of one number. -/
def KR (L : List Tm) (K : List Nat) (a b : Tm) : Prop := a = b ∨ ∃ (i k : Nat) (h1 : i < L.length) (h2 : k < L.length) (g1 : i < K.length) (g2 : k < K.length), L[i] = a ∧ L[k] = b ∧ K[i] = K[k]
theorem nd_at {L : List Tm} (h : L.Nodup) {i k : Nat} (h1 : i < L.length) (h2 : k < L.length) (e : L[i] = L[k]) : i = k := by
  rcases Nat.lt_trichotomy i k with g | g | g
  · exact absurd e (List.pairwise_iff_getElem.1 h i k h1 h2 g)
  · exact g
  · exact absurd e.symm (List.pairwise_iff_getElem.1 h k i h2 h1 g)
theorem KR.of_mem {L : List Tm} {K : List Nat} (hl : K.length = L.length) {a b : Tm} (h : KR L K a b) (ha : a ∈ L) : ∃ (i k : Nat) (h1 : i < L.length) (h2 : k < L.length) (g1 : i < K.length) (g2 : k < K.length), L[i] = a ∧ L[k] = b ∧ K[i] = K[k] := by
  rcases h with rfl | h
  · obtain ⟨i, hi, rfl⟩ := List.getElem_of_mem ha
    exact ⟨i, i, hi, hi, by omega, by omega, rfl, rfl, rfl⟩
  · exact h
theorem KR.sym {L : List Tm} {K : List Nat} {a b : Tm} (h : KR L K a b) : KR L K b a := by
  rcases h with rfl | ⟨i, k, h1, h2, g1, g2, e1, e2, e3⟩
  · exact Or.inl rfl
  · exact Or.inr ⟨k, i, h2, h1, g2, g1, e2, e1, e3.symm⟩
theorem KR.trans {L : List Tm} {K : List Nat} (hd : L.Nodup) {a b c : Tm} (h : KR L K a b) (g : KR L K b c) : KR L K a c := by
  rcases h with rfl | ⟨i, k, h1, h2, g1, g2, rfl, e2, e3⟩
  · exact g
  · rcases g with rfl | ⟨x, y, h3, h4, g3, g4, e4, rfl, e6⟩
    · exact Or.inr ⟨i, k, h1, h2, g1, g2, rfl, e2, e3⟩
    · have hx := nd_at hd h2 h3 (e2.trans e4.symm)
      subst hx
      exact Or.inr ⟨i, y, h1, h4, g1, g4, rfl, rfl, e3.trans e6⟩
theorem cg_kr {E : List Pr} {L : List Tm} {K : List Nat} (hn : Num E L K) (hd : Done E L K) {a b : Tm} (h : Cg E (· ∈ L) a b) : KR L K a b := by
  have hl := hn.len
  induction h with
  | refl t => exact Or.inl rfl
  | sym _ ih => exact ih.sym
  | trans _ _ i1 i2 => exact i1.trans hn.nd i2
  | eq hp =>
    obtain ⟨i, k, h1, h2, g1, g2, e1, e2, e3⟩ := hd.given _ hp
    exact Or.inr ⟨i, k, h1, h2, g1, g2, e1, e2, e3⟩
  | @cong n l k s1 s2 hlen _ ih =>
    obtain ⟨i, hi, ei⟩ := List.getElem_of_mem s1
    obtain ⟨j, hj, ej⟩ := List.getElem_of_mem s2
    refine Or.inr ⟨i, j, hi, hj, by omega, by omega, ei, ej, ?_⟩
    refine hd.closed i j hi hj (by omega) (by omega) (by rw [ei, ej]) (by rw [ei, ej]; exact hlen) fun q q1 q2 => ?_
    have q3 : q < l.length := by rw [ei] at q1; exact q1
    have q4 : q < k.length := by omega
    have hm : l[q] ∈ L := hn.below _ s1 _ (List.getElem_mem q3)
    obtain ⟨x, y, h3, h4, g3, g4, e4, e5, e6⟩ := (ih q q3 q4).of_mem hl hm
    refine ⟨x, y, h3, h4, g3, g4, ?_, ?_, e6⟩
    · rw [e4]; congr 1; rw [ei]
    · rw [e5]; congr 1; rw [ej]
/-- The numbers tell what is the same. -/
theorem num_iff {E : List Pr} {L : List Tm} {K : List Nat} (hn : Num E L K) (hd : Done E L K) {i k : Nat} (h1 : i < L.length) (h2 : k < L.length) (g1 : i < K.length) (g2 : k < K.length) : K[i] = K[k] ↔ Cg E (· ∈ L) L[i] L[k] := by
  refine ⟨hd.sound i k h1 h2 g1 g2, fun h => ?_⟩
  obtain ⟨x, y, h3, h4, g3, g4, e1, e2, e3⟩ := (cg_kr hn hd h).of_mem hn.len (List.getElem_mem h1)
  have := nd_at hn.nd h3 h1 e1
  have := nd_at hn.nd h4 h2 e2
  subst_vars
  exact e3
end Go.Proofs.YtdmaijmglblccaaGreatDoor

/- Plain: terms by numbers, those below ahead of those above. -/
namespace Go.Proofs.YtdmaijmglblccaaGreatDoor
open Go.RowKit
set_option linter.unusedSimpArgs false
set_option linter.unusedVariables false
set_option maxRecDepth 8000

/-- What stands there, or else d. -/
def gd {α : Type} (l : List α) (d : α) (i : Nat) : α := (l[i]?).getD d
theorem gd_get {α : Type} {l : List α} {d : α} {i : Nat} (h : i < l.length) : gd l d i = l[i] := by unfold gd; rw [List.getElem?_eq_getElem h]; rfl
theorem gd_mem {α : Type} {l : List α} {d : α} {i : Nat} (h : i < l.length) : gd l d i ∈ l := by rw [gd_get h]; exact List.getElem_mem h
theorem gd_app {α : Type} {l r : List α} {d : α} {i : Nat} (h : i < l.length) : gd (l ++ r) d i = gd l d i := by unfold gd; rw [List.getElem?_append_left h]
theorem gd_end {α : Type} {l : List α} {d x : α} : gd (l ++ [x]) d l.length = x := by unfold gd; simp
theorem gd_end2 {α : Type} {l : List α} {d x : α} {n : Nat} (h : l.length = n) : gd (l ++ [x]) d n = x := by rw [← h]; exact gd_end
theorem gd_set {α : Type} {l : List α} {d x : α} {i : Nat} (h : i < l.length) : gd (l.set i x) d i = x := by unfold gd; rw [List.getElem?_set_self h]; rfl
theorem gd_set_ne {α : Type} {l : List α} {d x : α} {i j : Nat} (h : i ≠ j) : gd (l.set i x) d j = gd l d j := by unfold gd; rw [List.getElem?_set_ne h]
theorem gd_map {α β : Type} {f : α → β} {l : List α} {d : α} {e : β} {i : Nat} (h : i < l.length) : gd (l.map f) e i = f (gd l d i) := by rw [gd_get h, gd_get (by simpa using h)]; simp
theorem gd_of_mem {α : Type} {l : List α} {x : α} (d : α) (h : x ∈ l) : ∃ i, i < l.length ∧ gd l d i = x := by
  obtain ⟨i, hi, rfl⟩ := List.getElem_of_mem h
  exact ⟨i, hi, gd_get hi⟩

/-- The program's numbers: terms, those right below, classes, members, those right above, signs. -/
structure Kl where
  ts : List Tm
  bl : List (List Nat)
  cl : List Nat
  mb : List (List Nat)
  ab : List (List Nat)
  sg : List (ByteArray × Nat)
def noK : Tm := ⟨⟨#[]⟩, []⟩
def Kl.T (k : Kl) : Nat → Tm := gd k.ts noK
def Kl.B (k : Kl) : Nat → List Nat := gd k.bl []
def Kl.C (k : Kl) : Nat → Nat := gd k.cl 0
def Kl.M (k : Kl) : Nat → List Nat := gd k.mb []
def Kl.A (k : Kl) : Nat → List Nat := gd k.ab []
/-- What stands for a sign. -/
def sgG : List (ByteArray × Nat) → ByteArray → Option Nat
  | [], _ => none
  | p :: r, n => if p.1 = n then some p.2 else sgG r n
theorem sgG_app (b : List (ByteArray × Nat)) (n : ByteArray) : ∀ a : List (ByteArray × Nat), sgG (a ++ b) n = (sgG a n).or (sgG b n)
  | [] => by simp [sgG]
  | p :: r => by
    rw [List.cons_append, sgG, sgG]
    split
    · rfl
    · exact sgG_app b n r
theorem sgG_one (s n : ByteArray) (m : Nat) : sgG [(s, m)] n = if s = n then some m else none := by simp [sgG]
def sumN (l : List (List Nat)) : Nat := (l.map List.length).sum
theorem sumN_app (a b : List (List Nat)) : sumN (a ++ b) = sumN a + sumN b := by simp [sumN]
theorem sumN_at {l : List (List Nat)} {i : Nat} (h : i < l.length) : (gd l [] i).length ≤ sumN l := by
  induction l generalizing i with
  | nil => simp at h
  | cons a r ih =>
    cases i with
    | zero => simp [gd, sumN]
    | succ i =>
      have h2 := ih (i := i) (by simpa using h)
      have e : gd (a :: r) [] (i + 1) = gd r [] i := by simp [gd]
      rw [e]
      simp [sumN] at h2 ⊢
      omega
theorem sumN_set {l : List (List Nat)} {i : Nat} (x : List Nat) (h : i < l.length) : sumN (l.set i x) + (gd l [] i).length = sumN l + x.length := by
  induction l generalizing i with
  | nil => simp at h
  | cons a r ih =>
    cases i with
    | zero => simp [gd, sumN]; omega
    | succ i =>
      have h2 := ih (i := i) (by simpa using h)
      have e : gd (a :: r) [] (i + 1) = gd r [] i := by simp [gd]
      rw [e]
      simp [sumN] at h2 ⊢
      omega
/-- While terms are numbered: each is a class of its own; U: of which is it known that they are noted above? -/
structure NumI (k : Kl) (U : Nat → Nat → Prop) : Prop where
  lb : k.bl.length = k.ts.length
  lc : k.cl.length = k.ts.length
  lm : k.mb.length = k.ts.length
  la : k.ab.length = k.ts.length
  nd : k.ts.Nodup
  may : ∀ t ∈ k.ts, errL [t] = 0
  arg : ∀ m, m < k.ts.length → (k.T m).args = (k.B m).map k.T ∧ ∀ b ∈ k.B m, b < m
  own : ∀ m, m < k.ts.length → k.C m = m ∧ k.M m = [m]
  up : ∀ m, m < k.ts.length → ∀ b ∈ k.B m, U m b → m ∈ k.A b
  alt : ∀ c, c < k.ts.length → ∀ m ∈ k.A c, m < k.ts.length
  ent : ∀ s m, sgG k.sg s = some m → m < k.ts.length ∧ s = sgn (k.T m).name (k.B m)
  has : ∀ m, m < k.ts.length → sgG k.sg (sgn (k.T m).name (k.B m)) = some m
abbrev AllU : Nat → Nat → Prop := fun _ _ => True
theorem kT_mem {k : Kl} {m : Nat} (h : m < k.ts.length) : k.T m ∈ k.ts := gd_mem h
theorem kT_inj {k : Kl} (hd : k.ts.Nodup) {i j : Nat} (h1 : i < k.ts.length) (h2 : j < k.ts.length) (e : k.T i = k.T j) : i = j := by
  unfold Kl.T at e
  rw [gd_get h1, gd_get h2] at e
  exact nd_at hd h1 h2 e
theorem kT_maps {k : Kl} (hd : k.ts.Nodup) : ∀ (a b : List Nat), (∀ x ∈ a, x < k.ts.length) → (∀ x ∈ b, x < k.ts.length) → a.map k.T = b.map k.T → a = b
  | [], [], _, _, _ => rfl
  | [], y :: b, _, _, h => by simp at h
  | x :: a, [], _, _, h => by simp at h
  | x :: a, y :: b, ha, hb, h => by
    simp only [List.map_cons, List.cons.injEq] at h
    rw [kT_inj hd (ha x (by simp)) (hb y (by simp)) h.1, kT_maps hd a b (fun z hz => ha z (by simp [hz])) (fun z hz => hb z (by simp [hz])) h.2]
theorem err_nmK {t : Tm} (h : errL [t] = 0) : nameB t.name = true := by obtain ⟨s, l⟩ := t; exact errL_name0 h
theorem NumI.blt {k : Kl} {U : Nat → Nat → Prop} (h : NumI k U) {m : Nat} (hm : m < k.ts.length) : ∀ b ∈ k.B m, b < k.ts.length := fun b hb => by have := (h.arg m hm).2 b hb; omega
/-- A term that is there. -/
theorem num_found {k : Kl} {U : Nat → Nat → Prop} (h : NumI k U) {t : Tm} (he : errL [t] = 0) {bs : List Nat} (ha : t.args = bs.map k.T) {m : Nat} (hs : sgG k.sg (sgn t.name bs) = some m) : m < k.ts.length ∧ k.T m = t := by
  obtain ⟨hm, e⟩ := h.ent _ _ hs
  obtain ⟨e1, e2⟩ := sgn_inj (err_nmK he) (err_nmK (h.may _ (kT_mem hm))) e
  refine ⟨hm, ?_⟩
  have e3 := (h.arg m hm).1
  rw [← e2, ← ha] at e3
  generalize k.T m = x at *
  obtain ⟨s, l⟩ := t
  obtain ⟨s', l'⟩ := x
  simp only at e1 e3
  rw [e1, e3]
/-- A term more. -/
def Kl.more (k : Kl) (t : Tm) (bs : List Nat) : Kl := ⟨k.ts ++ [t], k.bl ++ [bs], k.cl ++ [k.ts.length], k.mb ++ [[k.ts.length]], k.ab ++ [[]], k.sg ++ [(sgn t.name bs, k.ts.length)]⟩
theorem num_more {k : Kl} (h : NumI k AllU) {t : Tm} (he : errL [t] = 0) {bs : List Nat} (hb : ∀ b ∈ bs, b < k.ts.length) (ha : t.args = bs.map k.T) (hs : sgG k.sg (sgn t.name bs) = none) : NumI (k.more t bs) (fun m _ => m < k.ts.length) ∧ (k.more t bs).T k.ts.length = t ∧ (k.more t bs).B k.ts.length = bs := by
  have hT : ∀ m, m < k.ts.length → (k.more t bs).T m = k.T m := fun m hm => gd_app hm
  have hB : ∀ m, m < k.ts.length → (k.more t bs).B m = k.B m := fun m hm => gd_app (by rw [h.lb]; exact hm)
  have hC : ∀ m, m < k.ts.length → (k.more t bs).C m = k.C m := fun m hm => gd_app (by rw [h.lc]; exact hm)
  have hM : ∀ m, m < k.ts.length → (k.more t bs).M m = k.M m := fun m hm => gd_app (by rw [h.lm]; exact hm)
  have hA : ∀ m, m < k.ts.length → (k.more t bs).A m = k.A m := fun m hm => gd_app (by rw [h.la]; exact hm)
  have nT : (k.more t bs).T k.ts.length = t := gd_end
  have nB : (k.more t bs).B k.ts.length = bs := gd_end2 h.lb
  have nC : (k.more t bs).C k.ts.length = k.ts.length := gd_end2 h.lc
  have nM : (k.more t bs).M k.ts.length = [k.ts.length] := gd_end2 h.lm
  have nA : (k.more t bs).A k.ts.length = [] := gd_end2 h.la
  have hz : (k.more t bs).ts.length = k.ts.length + 1 := by simp [Kl.more]
  have mapT : ∀ l : List Nat, (∀ b ∈ l, b < k.ts.length) → l.map (k.more t bs).T = l.map k.T := fun l hl => List.map_congr_left fun b hb => hT b (hl b hb)
  refine ⟨⟨?_, ?_, ?_, ?_, ?_, ?_, fun m hm => ?_, fun m hm => ?_, fun m hm b hb hu => ?_, fun c hc m hm => ?_, fun s m hsm => ?_, fun m hm => ?_⟩, nT, nB⟩
  · simp [Kl.more, h.lb]
  · simp [Kl.more, h.lc]
  · simp [Kl.more, h.lm]
  · simp [Kl.more, h.la]
  · show (k.ts ++ [t]).Nodup
    rw [List.nodup_append]
    refine ⟨h.nd, by simp, fun a ha1 b hb1 e => ?_⟩
    rw [List.mem_singleton] at hb1
    subst hb1
    subst e
    obtain ⟨m, hm, em⟩ := gd_of_mem noK ha1
    have em : k.T m = a := em
    have h1 := (h.arg m hm).1
    rw [em, ha] at h1
    have h2 := kT_maps h.nd _ _ hb (h.blt hm) h1
    have h3 := h.has m hm
    rw [em, ← h2, hs] at h3
    cases h3
  · intro x hx
    rcases List.mem_append.1 hx with hx | hx
    · exact h.may x hx
    · rw [List.mem_singleton.1 hx]; exact he
  · by_cases hmn : m < k.ts.length
    · rw [hT m hmn, hB m hmn, mapT _ (h.blt hmn)]
      exact h.arg m hmn
    · have e : m = k.ts.length := by omega
      subst e
      rw [nT, nB, mapT _ hb]
      exact ⟨ha, hb⟩
  · by_cases hmn : m < k.ts.length
    · rw [hC m hmn, hM m hmn]
      exact h.own m hmn
    · have e : m = k.ts.length := by omega
      subst e
      exact ⟨nC, nM⟩
  · rw [hB m hu] at hb
    rw [hA b (h.blt hu b hb)]
    exact h.up m hu b hb trivial
  · by_cases hcn : c < k.ts.length
    · rw [hA c hcn] at hm
      have := h.alt c hcn m hm
      omega
    · have e : c = k.ts.length := by omega
      subst e
      rw [nA] at hm
      cases hm
  · have hsm : sgG (k.sg ++ [(sgn t.name bs, k.ts.length)]) s = some m := hsm
    rw [sgG_app] at hsm
    cases h1 : sgG k.sg s with
    | some m1 =>
      rw [h1] at hsm
      cases hsm
      obtain ⟨g1, g2⟩ := h.ent _ _ h1
      exact ⟨by omega, by rw [hT m g1, hB m g1]; exact g2⟩
    | none =>
      rw [h1, Option.none_or, sgG_one] at hsm
      split at hsm
      · rename_i e
        cases hsm
        exact ⟨by omega, by rw [nT, nB]; exact e.symm⟩
      · cases hsm
  · show sgG (k.sg ++ [(sgn t.name bs, k.ts.length)]) _ = some m
    rw [sgG_app]
    by_cases hmn : m < k.ts.length
    · rw [hT m hmn, hB m hmn, h.has m hmn]
      rfl
    · have e : m = k.ts.length := by omega
      subst e
      rw [nT, nB, hs, Option.none_or, sgG_one, if_pos rfl]
/-- Noted right above another one: once. -/
def Kl.note (k : Kl) (b n : Nat) : Kl := if (k.A b).getLast? = some n then k else { k with ab := k.ab.set b (k.A b ++ [n]) }
theorem note_same (k : Kl) (b n : Nat) : (k.note b n).ts = k.ts ∧ (k.note b n).bl = k.bl ∧ (k.note b n).cl = k.cl ∧ (k.note b n).mb = k.mb ∧ (k.note b n).sg = k.sg ∧ (k.note b n).ab.length = k.ab.length := by
  unfold Kl.note
  split <;> simp
theorem note_A {k : Kl} {b n : Nat} (hb : b < k.ab.length) : n ∈ (k.note b n).A b ∧ (∀ c, ∀ m ∈ k.A c, m ∈ (k.note b n).A c) ∧ ∀ c, ∀ m ∈ (k.note b n).A c, m ∈ k.A c ∨ m = n := by
  unfold Kl.note
  split
  · rename_i h
    exact ⟨List.mem_of_getLast? h, fun c m h => h, fun c m h => Or.inl h⟩
  · have e : ∀ c, (Kl.A { k with ab := k.ab.set b (k.A b ++ [n]) } c) = if b = c then k.A b ++ [n] else k.A c := fun c => by
      unfold Kl.A
      by_cases hc : b = c
      · subst hc; rw [if_pos rfl, gd_set hb]
      · rw [if_neg hc, gd_set_ne hc]
    refine ⟨by rw [e, if_pos rfl]; simp, fun c m hm => ?_, fun c m hm => ?_⟩
    · rw [e]
      split
      · rename_i hc; subst hc; simp [hm]
      · exact hm
    · rw [e] at hm
      split at hm
      · rename_i hc; subst hc
        rcases List.mem_append.1 hm with h1 | h1
        · exact Or.inl h1
        · exact Or.inr (List.mem_singleton.1 h1)
      · exact Or.inl hm
theorem note_sum {k : Kl} {b n : Nat} (hb : b < k.ab.length) : sumN (k.note b n).ab ≤ sumN k.ab + 1 := by
  unfold Kl.note
  split
  · omega
  · have h := sumN_set (k.A b ++ [n]) hb
    have e : (k.A b).length = (gd k.ab [] b).length := rfl
    simp only [List.length_append, List.length_singleton] at h
    simp only
    omega
theorem num_note {k : Kl} {U : Nat → Nat → Prop} (h : NumI k U) {b n : Nat} (hb : b < k.ts.length) (hn : n < k.ts.length) : NumI (k.note b n) (fun m c => U m c ∨ (m = n ∧ c = b)) := by
  obtain ⟨e1, e2, e3, e4, e5, e6⟩ := note_same k b n
  obtain ⟨a1, a2, a3⟩ := note_A (k := k) (b := b) (n := n) (by rw [h.la]; exact hb)
  have hT : (k.note b n).T = k.T := by unfold Kl.T; rw [e1]
  have hB : (k.note b n).B = k.B := by unfold Kl.B; rw [e2]
  have hC : (k.note b n).C = k.C := by unfold Kl.C; rw [e3]
  have hM : (k.note b n).M = k.M := by unfold Kl.M; rw [e4]
  refine ⟨by rw [e1, e2]; exact h.lb, by rw [e1, e3]; exact h.lc, by rw [e1, e4]; exact h.lm, by rw [e1, e6]; exact h.la, by rw [e1]; exact h.nd, by rw [e1]; exact h.may, by rw [e1, hT, hB]; exact h.arg, by rw [e1, hC, hM]; exact h.own, ?_, ?_, by rw [e1, e5, hT, hB]; exact h.ent, by rw [e1, e5, hT, hB]; exact h.has⟩
  · rw [e1, hB]
    rintro m hm c hc (hu | ⟨rfl, rfl⟩)
    · exact a2 c m (h.up m hm c hc hu)
    · exact a1
  · rw [e1]
    intro c hc m hm
    rcases a3 c m hm with h1 | h1
    · exact h.alt c hc m h1
    · rw [h1]; exact hn
def Kl.notes (k : Kl) (bs : List Nat) (n : Nat) : Kl := bs.foldl (fun k b => k.note b n) k
theorem notes_snoc (k : Kl) (bs : List Nat) (b n : Nat) : k.notes (bs ++ [b]) n = (k.notes bs n).note b n := by simp [Kl.notes]
theorem notes_same (n : Nat) : ∀ (bs : List Nat) (k : Kl), (k.notes bs n).ts = k.ts ∧ (k.notes bs n).bl = k.bl ∧ (k.notes bs n).cl = k.cl ∧ (k.notes bs n).mb = k.mb ∧ (k.notes bs n).sg = k.sg ∧ (k.notes bs n).ab.length = k.ab.length
  | [], k => ⟨rfl, rfl, rfl, rfl, rfl, rfl⟩
  | b :: r, k => by
    obtain ⟨e1, e2, e3, e4, e5, e6⟩ := note_same k b n
    obtain ⟨f1, f2, f3, f4, f5, f6⟩ := notes_same n r (k.note b n)
    exact ⟨f1.trans e1, f2.trans e2, f3.trans e3, f4.trans e4, f5.trans e5, f6.trans e6⟩
theorem num_notes {n : Nat} : ∀ (bs : List Nat) {k : Kl} {U : Nat → Nat → Prop}, NumI k U → (∀ b ∈ bs, b < k.ts.length) → n < k.ts.length → NumI (k.notes bs n) (fun m c => U m c ∨ (m = n ∧ c ∈ bs)) ∧ sumN (k.notes bs n).ab ≤ sumN k.ab + bs.length
  | [], k, U, h, _, _ => ⟨⟨h.lb, h.lc, h.lm, h.la, h.nd, h.may, h.arg, h.own, fun m hm b hb hu => h.up m hm b hb (by simpa using hu), h.alt, h.ent, h.has⟩, Nat.le_add_right _ _⟩
  | b :: r, k, U, h, hb, hn => by
    obtain ⟨e1, -, -, -, -, -⟩ := note_same k b n
    have h1 := num_note h (hb b (by simp)) hn
    obtain ⟨h2, h3⟩ := num_notes r h1 (fun c hc => by rw [e1]; exact hb c (by simp [hc])) (by rw [e1]; exact hn)
    have h4 := note_sum (k := k) (b := b) (n := n) (by rw [h.la]; exact hb b (by simp))
    refine ⟨⟨h2.lb, h2.lc, h2.lm, h2.la, h2.nd, h2.may, h2.arg, h2.own, fun m hm c hc hu => h2.up m hm c hc ?_, h2.alt, h2.ent, h2.has⟩, ?_⟩
    · rcases hu with hu | ⟨e, hu⟩
      · exact Or.inl (Or.inl hu)
      · rcases List.mem_cons.1 hu with hu | hu
        · exact Or.inl (Or.inr ⟨e, hu⟩)
        · exact Or.inr ⟨e, hu⟩
    · have : (k.notes (b :: r) n).ab = ((k.note b n).notes r n).ab := rfl
      rw [this]
      simp only [List.length_cons]
      omega
/-- All terms within one that is there are there. -/
theorem num_within {k : Kl} {U : Nat → Nat → Prop} (h : NumI k U) (t : Tm) : t ∈ k.ts → ∀ x ∈ preL [t], x ∈ k.ts := by
  induction t using Tm.ind with
  | h s l ih =>
    intro ht x hx
    obtain ⟨m, hm, e0⟩ := gd_of_mem noK ht
    have e : k.T m = ⟨s, l⟩ := e0
    clear e0
    have hl : ∀ y ∈ l, y ∈ k.ts := fun y hy => by
      have h1 := (h.arg m hm).1
      rw [e] at h1
      have h2 : l = (k.B m).map k.T := h1
      rw [h2] at hy
      obtain ⟨b, hb, rfl⟩ := List.mem_map.1 hy
      exact kT_mem (h.blt hm b hb)
    have key : ∀ q : List Tm, (∀ y ∈ q, y ∈ l) → ∀ x ∈ preL q, x ∈ k.ts := by
      intro q
      induction q with
      | nil => intro _ x hx; simp [preL] at hx
      | cons y r ihr =>
        intro hq x hx
        have e1 : preL (y :: r) = preL [y] ++ preL r := by rw [← preL_append]; rfl
        rw [e1] at hx
        rcases List.mem_append.1 hx with hx | hx
        · exact ih y (hq y (by simp)) (hl y (hq y (by simp))) x hx
        · exact ihr (fun z hz => hq z (by simp [hz])) x hx
    simp only [preL, List.append_nil, List.mem_cons] at hx
    rcases hx with hx | hx
    · rw [hx]; exact ht
    · exact key l (fun y hy => hy) x hx
/-- What numbering a term does. -/
structure NumR (k : Kl) (t : Tm) (k' : Kl) (m : Nat) : Prop where
  ok : NumI k' AllU
  lt : m < k'.ts.length
  eq : k'.T m = t
  pre : k.ts <+: k'.ts
  old : ∀ x ∈ k'.ts, x ∈ k.ts ∨ x ∈ preL [t]
  all : ∀ x ∈ preL [t], x ∈ k'.ts
  len : k'.ts.length ≤ k.ts.length + sizeL [t]
  sum : sumN k'.ab + 1 ≤ sumN k.ab + sizeL [t]
end Go.Proofs.YtdmaijmglblccaaGreatDoor

/- The document's kinds (ClosureOf): a plain text. -/
namespace Go.Proofs.YtdmaijmglblccaaGreatDoor
open Go.RowKit
set_option linter.unusedSimpArgs false
set_option linter.unusedVariables false
set_option maxRecDepth 8000

/-- All of one kind become of another one's. -/
def joK (K : List Nat) (a b : Nat) : List Nat := if gd K 0 a = gd K 0 b then K else K.map fun c => if c = gd K 0 a then gd K 0 b else c
theorem joK_len (K : List Nat) (a b : Nat) : (joK K a b).length = K.length := by unfold joK; split <;> simp
theorem gd_mapK {α β : Type} {l : List α} {f : α → β} {d : α} {e : β} {i : Nat} (h : i < l.length) : gd (l.map f) e i = f (gd l d i) := by
  rw [gd_get (by simpa using h), gd_get h]; simp
theorem joK_at {K : List Nat} {a b i : Nat} (hi : i < K.length) : gd (joK K a b) 0 i = if gd K 0 a = gd K 0 b then gd K 0 i else if gd K 0 i = gd K 0 a then gd K 0 b else gd K 0 i := by
  unfold joK
  split
  · rfl
  · rw [gd_mapK (d := 0) hi]
theorem joK_keep {K : List Nat} {a b i j : Nat} (hi : i < K.length) (hj : j < K.length) (h : gd K 0 i = gd K 0 j) : gd (joK K a b) 0 i = gd (joK K a b) 0 j := by
  rw [joK_at hi, joK_at hj, h]
theorem joK_join {K : List Nat} {a b : Nat} (ha : a < K.length) (hb : b < K.length) : gd (joK K a b) 0 a = gd (joK K a b) 0 b := by
  rw [joK_at ha, joK_at hb]
  split
  · assumption
  · rw [if_pos rfl]
    split <;> rfl
theorem joK_sound {K : List Nat} {a b : Nat} {R : Nat → Nat → Prop} (ha : a < K.length) (hb : b < K.length) (hs : ∀ i j, R i j → R j i) (ht : ∀ i j k, R i j → R j k → R i k) (h : ∀ i j, i < K.length → j < K.length → gd K 0 i = gd K 0 j → R i j) (hab : R a b) : ∀ i j, i < K.length → j < K.length → gd (joK K a b) 0 i = gd (joK K a b) 0 j → R i j := by
  intro i j hi hj e
  rw [joK_at hi, joK_at hj] at e
  split at e
  · exact h i j hi hj e
  · split at e
    · rename_i h1
      have ri := h i a hi ha h1
      split at e
      · rename_i h2
        exact ht _ _ _ ri (hs _ _ (h j a hj ha h2))
      · exact ht _ _ _ ri (ht _ _ _ hab (h b j hb hj e))
    · split at e
      · rename_i h2
        have rj := h j a hj ha h2
        exact hs _ _ (ht _ _ _ rj (ht _ _ _ hab (h b i hb hi e.symm)))
      · exact h i j hi hj e
/-- How many kinds there are. -/
def cnK (n : Nat) (K : List Nat) : Nat := ((List.range n).filter fun c => decide (c ∈ K)).length
theorem flt_lt {l : List Nat} {p q : Nat → Bool} (h : ∀ x ∈ l, p x = true → q x = true) {y : Nat} (hy : y ∈ l) (h1 : p y = false) (h2 : q y = true) : (l.filter p).length < (l.filter q).length := by
  have hle : ∀ {l : List Nat}, (∀ x ∈ l, p x = true → q x = true) → (l.filter p).length ≤ (l.filter q).length := by
    intro l
    induction l with
    | nil => intro _; simp
    | cons a r ih =>
      intro h
      have ih := ih fun x hx => h x (by simp [hx])
      by_cases hp : p a = true
      · rw [List.filter_cons_of_pos hp, List.filter_cons_of_pos (h a (by simp) hp)]
        simpa using ih
      · rw [List.filter_cons_of_neg hp]
        by_cases hq : q a = true
        · rw [List.filter_cons_of_pos hq]; simp only [List.length_cons]; omega
        · rw [List.filter_cons_of_neg hq]; exact ih
  induction l with
  | nil => simp at hy
  | cons a r ih =>
    have hr : ∀ x ∈ r, p x = true → q x = true := fun x hx => h x (by simp [hx])
    rcases List.mem_cons.1 hy with e | e
    · subst e
      rw [List.filter_cons_of_neg (by rw [h1]; simp), List.filter_cons_of_pos h2]
      have := hle hr
      simp only [List.length_cons]
      omega
    · have ih := ih hr e
      by_cases hp : p a = true
      · rw [List.filter_cons_of_pos hp, List.filter_cons_of_pos (h a (by simp) hp)]
        simpa using ih
      · rw [List.filter_cons_of_neg hp]
        by_cases hq : q a = true
        · rw [List.filter_cons_of_pos hq]; simp only [List.length_cons]; omega
        · rw [List.filter_cons_of_neg hq]; exact ih
theorem joK_mem {K : List Nat} {a b c : Nat} (hb : b < K.length) (h : c ∈ joK K a b) : c ∈ K := by
  unfold joK at h
  split at h
  · exact h
  · obtain ⟨x, hx, e⟩ := List.mem_map.1 h
    split at e
    · rw [← e]; exact gd_mem hb
    · rw [← e]; exact hx
/-- One less when two kinds become one. -/
theorem joK_cnt {n : Nat} {K : List Nat} {a b : Nat} (ha : a < K.length) (hb : b < K.length) (hn : ∀ c ∈ K, c < n) (hne : gd K 0 a ≠ gd K 0 b) : cnK n (joK K a b) < cnK n K := by
  unfold cnK
  refine flt_lt (y := gd K 0 a) (fun x _ hx => ?_) (List.mem_range.2 (hn _ (gd_mem ha))) ?_ ?_
  · exact decide_eq_true (joK_mem hb (of_decide_eq_true hx))
  · refine decide_eq_false fun h => ?_
    unfold joK at h
    rw [if_neg hne] at h
    obtain ⟨x, hx, e⟩ := List.mem_map.1 h
    split at e
    · exact hne e.symm
    · rename_i h2; exact h2 e
  · exact decide_eq_true (gd_mem ha)
/-- What the document keeps while it joins: terms, and a kind of each. -/
structure KdI (E : List Pr) (L : List Tm) (K : List Nat) : Prop where
  len : K.length = L.length
  lt : ∀ c ∈ K, c < L.length
  snd : ∀ i j, i < K.length → j < K.length → gd K 0 i = gd K 0 j → Cg E (· ∈ L) (gd L noK i) (gd L noK j)
theorem KdI.join {E : List Pr} {L : List Tm} {K : List Nat} (h : KdI E L K) {a b : Nat} (ha : a < L.length) (hb : b < L.length) (hc : Cg E (· ∈ L) (gd L noK a) (gd L noK b)) : KdI E L (joK K a b) := by
  have hl := h.len
  refine ⟨by rw [joK_len, hl], fun c hc => h.lt c (joK_mem (by omega) hc), fun i j hi hj => ?_⟩
  rw [joK_len] at hi hj
  exact joK_sound (R := fun i j => Cg E (· ∈ L) (gd L noK i) (gd L noK j)) (by omega) (by omega) (fun _ _ g => g.sym) (fun _ _ _ g1 g2 => g1.trans g2) h.snd hc i j hi hj
/-- At the start each is of its own kind. -/
theorem KdI.start (E : List Pr) (L : List Tm) : KdI E L (List.range L.length) := by
  refine ⟨by simp, fun c hc => by simpa using hc, fun i j hi hj e => ?_⟩
  rw [gd_get hi, gd_get hj, List.getElem_range, List.getElem_range] at e
  subst e
  exact .refl _
theorem tm_etaK (t : Tm) : t = ⟨t.name, t.args⟩ := by cases t; rfl
/-- Of one name, and their parts are of the same kinds. -/
def cngK (L : List Tm) (bl : List (List Nat)) (K : List Nat) (i k : Nat) : Prop :=
  (gd L noK i).name = (gd L noK k).name ∧ (gd bl [] i).length = (gd bl [] k).length ∧ ∀ j, j < (gd bl [] i).length → gd K 0 (gd (gd bl [] i) 0 j) = gd K 0 (gd (gd bl [] k) 0 j)
/-- The parts by their numbers. -/
def BlK (L : List Tm) (bl : List (List Nat)) : Prop := ∀ i, i < L.length → (gd L noK i).args = (gd bl [] i).map (gd L noK) ∧ ∀ b ∈ gd bl [] i, b < L.length
theorem cng_Cg {E : List Pr} {L : List Tm} {bl : List (List Nat)} {K : List Nat} (h : KdI E L K) (hb : BlK L bl) {i k : Nat} (hi : i < L.length) (hk : k < L.length) (hc : cngK L bl K i k) : Cg E (· ∈ L) (gd L noK i) (gd L noK k) := by
  obtain ⟨a1, a2⟩ := hb i hi
  obtain ⟨b1, b2⟩ := hb k hk
  obtain ⟨c1, c2, c3⟩ := hc
  have hl := h.len
  have m1 : gd L noK i ∈ L := gd_mem hi
  have m2 : gd L noK k ∈ L := gd_mem hk
  have e1 : gd L noK i = ⟨(gd L noK k).name, (gd bl [] i).map (gd L noK)⟩ := by rw [← c1, ← a1]; exact tm_etaK _
  have e2 : gd L noK k = ⟨(gd L noK k).name, (gd bl [] k).map (gd L noK)⟩ := by rw [← b1]; exact tm_etaK _
  rw [e1] at m1
  rw [e2] at m2
  have hcg : Cg E (· ∈ L) ⟨(gd L noK k).name, (gd bl [] i).map (gd L noK)⟩ ⟨(gd L noK k).name, (gd bl [] k).map (gd L noK)⟩ := by
    refine .cong m1 m2 (by simpa using c2) fun j h1 h2 => ?_
    have g1 : j < (gd bl [] i).length := by simpa using h1
    have g2 : j < (gd bl [] k).length := by simpa using h2
    have h3 := c3 j g1
    rw [gd_get g1, gd_get g2] at h3
    simp only [List.getElem_map]
    exact h.snd _ _ (by rw [hl]; exact a2 _ (List.getElem_mem g1)) (by rw [hl]; exact b2 _ (List.getElem_mem g2)) h3
  rw [← e1, ← e2] at hcg
  exact hcg
def okP (L : List Tm) (bl : List (List Nat)) (K : List Nat) (i k : Nat) : Prop := cngK L bl K i k → gd K 0 i = gd K 0 k
theorem cngK.sym {L : List Tm} {bl : List (List Nat)} {K : List Nat} {i k : Nat} (h : cngK L bl K i k) : cngK L bl K k i :=
  ⟨h.1.symm, h.2.1.symm, fun j hj => (h.2.2 j (by rw [h.2.1]; exact hj)).symm⟩
/-- When a round joins nothing, all is done. -/
theorem done_of {E : List Pr} {L : List Tm} {bl : List (List Nat)} {K : List Nat} (hnd : L.Nodup) (h : KdI E L K) (hb : BlK L bl) (hg : ∀ p ∈ E, ∃ i k, i < L.length ∧ k < L.length ∧ gd L noK i = p.l ∧ gd L noK k = p.r ∧ gd K 0 i = gd K 0 k) (hok : ∀ i, i < L.length → ∀ k, k < i → okP L bl K i k) : Done E L K := by
  have hl := h.len
  refine ⟨fun i k h1 h2 g1 g2 e => ?_, fun p hp => ?_, fun i k h1 h2 g1 g2 e1 e2 e3 => ?_⟩
  · have := h.snd i k g1 g2 (by rw [gd_get g1, gd_get g2]; exact e)
    rwa [gd_get h1, gd_get h2] at this
  · obtain ⟨i, k, h1, h2, e1, e2, e3⟩ := hg p hp
    have g1 : i < K.length := by omega
    have g2 : k < K.length := by omega
    rw [gd_get h1] at e1
    rw [gd_get h2] at e2
    rw [gd_get g1, gd_get g2] at e3
    exact ⟨i, k, h1, h2, g1, g2, e1, e2, e3⟩
  · obtain ⟨a1, a2⟩ := hb i h1
    obtain ⟨b1, b2⟩ := hb k h2
    have hc : cngK L bl K i k := by
      rw [gd_get h1] at a1
      rw [gd_get h2] at b1
      have hlen : (gd bl [] i).length = (gd bl [] k).length := by
        rw [a1, b1] at e2; simpa using e2
      refine ⟨by rw [gd_get h1, gd_get h2]; exact e1, hlen, fun j hj => ?_⟩
      have hj2 : j < (gd bl [] k).length := by omega
      obtain ⟨x, y, h3, h4, g3, g4, f1, f2, f3⟩ := e3 j (by rw [a1]; simpa using hj) (by rw [b1]; simpa using hj2)
      have x1 : L[x] = gd L noK ((gd bl [] i)[j]) := by rw [f1]; simp only [a1, List.getElem_map]
      have y1 : L[y] = gd L noK ((gd bl [] k)[j]) := by rw [f2]; simp only [b1, List.getElem_map]
      have bx := a2 _ (List.getElem_mem hj)
      have by_ := b2 _ (List.getElem_mem hj2)
      rw [gd_get bx] at x1
      rw [gd_get by_] at y1
      have x2 := (List.getElem_inj hnd).1 x1
      have y2 := (List.getElem_inj hnd).1 y1
      rw [gd_get hj, gd_get hj2, ← x2, ← y2, gd_get g3, gd_get g4]
      exact f3
    have key : gd K 0 i = gd K 0 k := by
      rcases Nat.lt_trichotomy i k with e | e | e
      · exact (hok k h2 i e hc.sym).symm
      · rw [e]
      · exact hok i h1 k e hc
    rwa [gd_get g1, gd_get g2] at key
end Go.Proofs.YtdmaijmglblccaaGreatDoor

/- Plain: classes that are joined till nothing is left to do. -/
namespace Go.Proofs.YtdmaijmglblccaaGreatDoor
open Go.RowKit
set_option linter.unusedSimpArgs false
set_option linter.unusedVariables false
set_option maxRecDepth 8000

theorem filter_leK {α : Type} {p q : α → Bool} : ∀ V : List α, (∀ y ∈ V, q y = true → p y = true) → (V.filter q).length ≤ (V.filter p).length
  | [], _ => by simp
  | v :: V, h => by
    have ih := filter_leK V fun y hy => h y (by simp [hy])
    cases hq : q v with
    | true =>
      rw [List.filter_cons_of_pos hq, List.filter_cons_of_pos (h v (by simp) hq)]
      simp only [List.length_cons]
      omega
    | false =>
      rw [List.filter_cons_of_neg (by rw [hq]; simp)]
      cases hp : p v with
      | true => rw [List.filter_cons_of_pos hp]; simp only [List.length_cons]; omega
      | false => rw [List.filter_cons_of_neg (by rw [hp]; simp)]; exact ih
theorem filter_ltK {α : Type} {p q : α → Bool} : ∀ V : List α, (∀ y ∈ V, q y = true → p y = true) → (∃ x ∈ V, p x = true ∧ q x = false) → (V.filter q).length < (V.filter p).length
  | [], _, ⟨x, hx, _⟩ => by cases hx
  | v :: V, h, ⟨x, hx, h1, h2⟩ => by
    have hle := filter_leK V fun y hy => h y (by simp [hy])
    rcases List.mem_cons.1 hx with rfl | hx
    · rw [List.filter_cons_of_neg (by rw [h2]; simp), List.filter_cons_of_pos h1]
      simp only [List.length_cons]
      omega
    · have ih := filter_ltK V (fun y hy => h y (by simp [hy])) ⟨x, hx, h1, h2⟩
      cases hq : q v with
      | true =>
        rw [List.filter_cons_of_pos hq, List.filter_cons_of_pos (h v (by simp) hq)]
        simp only [List.length_cons]
        omega
      | false =>
        rw [List.filter_cons_of_neg (by rw [hq]; simp)]
        cases hp : p v with
        | true => rw [List.filter_cons_of_pos hp]; simp only [List.length_cons]; omega
        | false => rw [List.filter_cons_of_neg (by rw [hp]; simp)]; exact ih
/-- The classes right below. -/
def Kl.S (k : Kl) (m : Nat) : List Nat := (k.B m).map k.C
def Kl.sig (k : Kl) (m : Nat) : ByteArray := sgn (k.T m).name (k.S m)
/-- An equivalence that has what is told, and what is to do. -/
structure GdQ (k : Kl) (td : List (Nat × Nat)) (Q : Nat → Nat → Prop) : Prop where
  sym : ∀ {a b}, Q a b → Q b a
  trans : ∀ {a b c}, Q a b → Q b c → Q a c
  cls : ∀ i j, i < k.ts.length → j < k.ts.length → k.C i = k.C j → Q i j
  tdo : ∀ p ∈ td, Q p.1 p.2
structure JnI (E : List Pr) (S : Tm → Prop) (W : Nat) (k : Kl) (td : List (Nat × Nat)) (P : Nat → Prop) : Prop where
  lb : k.bl.length = k.ts.length
  lc : k.cl.length = k.ts.length
  lm : k.mb.length = k.ts.length
  la : k.ab.length = k.ts.length
  nd : k.ts.Nodup
  clt : ∀ i, i < k.ts.length → k.C i < k.ts.length
  arg : ∀ m, m < k.ts.length → (k.T m).args = (k.B m).map k.T ∧ ∀ b ∈ k.B m, b < k.ts.length
  nm : ∀ m, m < k.ts.length → nameB (k.T m).name = true
  inS : ∀ m, m < k.ts.length → S (k.T m)
  mem : ∀ i c, i < k.ts.length → c < k.ts.length → (i ∈ k.M c ↔ k.C i = c)
  mlt : ∀ c, c < k.ts.length → ∀ i ∈ k.M c, i < k.ts.length
  up : ∀ m, m < k.ts.length → ∀ b ∈ k.B m, m ∈ k.A (k.C b)
  alt : ∀ c, c < k.ts.length → ∀ m ∈ k.A c, m < k.ts.length
  ms : sumN k.mb ≤ k.ts.length
  sa : sumN k.ab ≤ W
  snd : ∀ i j, i < k.ts.length → j < k.ts.length → k.C i = k.C j → Cg E S (k.T i) (k.T j)
  tsn : ∀ p ∈ td, p.1 < k.ts.length ∧ p.2 < k.ts.length ∧ Cg E S (k.T p.1) (k.T p.2)
  giv : ∀ p ∈ E, ∃ a b, a < k.ts.length ∧ b < k.ts.length ∧ k.T a = p.l ∧ k.T b = p.r ∧ ∀ Q, GdQ k td Q → Q a b
  ent : ∀ s m, sgG k.sg s = some m → m < k.ts.length ∧ ∃ cs, s = sgn (k.T m).name cs ∧ cs.length = (k.B m).length ∧ ∀ j, j < cs.length → gd cs 0 j = k.C (gd (k.B m) 0 j) ∨ (gd cs 0 j < k.ts.length ∧ k.M (gd cs 0 j) = [])
  has : ∀ m, m < k.ts.length → ¬ P m → ∃ e, sgG k.sg (k.sig m) = some e ∧ ∀ Q, GdQ k td Q → Q m e
/-- How much is left: classes with members. -/
def Kl.cnt (k : Kl) : Nat := ((List.range k.ts.length).filter fun c => !(k.M c).isEmpty).length

section
variable {E : List Pr} {S : Tm → Prop} {W : Nat} {k : Kl} {td : List (Nat × Nat)} {P : Nat → Prop}

theorem JnI.live (h : JnI E S W k td P) {i : Nat} (hi : i < k.ts.length) : k.M (k.C i) ≠ [] := fun e => by
  have := (h.mem i (k.C i) hi (h.clt i hi)).2 rfl
  rw [e] at this
  cases this
/-- At the start. -/
theorem jn_start (hn : NumI k AllU) (hW : sumN k.ab ≤ W) (hS : ∀ t ∈ k.ts, S t) (htd : ∀ p ∈ td, p.1 < k.ts.length ∧ p.2 < k.ts.length ∧ Cg E S (k.T p.1) (k.T p.2)) (hE : ∀ p ∈ E, ∃ q ∈ td, k.T q.1 = p.l ∧ k.T q.2 = p.r) : JnI E S W k td (fun _ => False) := by
  have hC : ∀ i, i < k.ts.length → k.C i = i := fun i hi => (hn.own i hi).1
  have hM : ∀ i, i < k.ts.length → k.M i = [i] := fun i hi => (hn.own i hi).2
  have hS2 : ∀ m, m < k.ts.length → k.S m = k.B m := fun m hm => by
    unfold Kl.S
    have : (k.B m).map k.C = (k.B m).map id := List.map_congr_left fun b hb => hC b (hn.blt hm b hb)
    rw [this, List.map_id]
  refine ⟨hn.lb, hn.lc, hn.lm, hn.la, hn.nd, fun i hi => by rw [hC i hi]; exact hi, fun m hm => ⟨(hn.arg m hm).1, hn.blt hm⟩, fun m hm => err_nmK (hn.may _ (kT_mem hm)), fun m hm => hS _ (kT_mem hm), fun i c hi hc => ?_, fun c hc i hi => ?_, fun m hm b hb => ?_, hn.alt, ?_, hW, fun i j hi hj e => ?_, htd, fun p hp => ?_, fun s m hs => ?_, fun m hm _ => ?_⟩
  · rw [hM c hc, hC i hi]; simp
  · rw [hM c hc, List.mem_singleton] at hi; omega
  · rw [hC b (hn.blt hm b hb)]; exact hn.up m hm b hb trivial
  · have e : k.mb = (List.range k.ts.length).map fun i => [i] := by
      apply List.ext_getElem (by simp [hn.lm])
      intro i h1 h2
      have h3 : i < k.ts.length := by rw [← hn.lm]; exact h1
      have := hM i h3
      unfold Kl.M at this
      rw [gd_get h1] at this
      simp [this]
    unfold sumN
    rw [e]
    have h3 : ∀ l : List Nat, ((l.map fun i => [i]).map List.length).sum = l.length := by
      intro l
      induction l with
      | nil => rfl
      | cons a r ih => simp only [List.map_cons, List.sum_cons, List.length_cons, List.length_nil, ih]; omega
    rw [h3]
    simp
  · rw [hC i hi, hC j hj] at e; subst e; exact .refl _
  · obtain ⟨q, hq, e1, e2⟩ := hE p hp
    obtain ⟨g1, g2, _⟩ := htd q hq
    exact ⟨q.1, q.2, g1, g2, e1, e2, fun Q hQ => hQ.tdo q hq⟩
  · obtain ⟨hm, e⟩ := hn.ent s m hs
    refine ⟨hm, k.B m, e, rfl, fun j hj => Or.inl ?_⟩
    rw [hC _ (hn.blt hm _ (gd_mem hj))]
  · refine ⟨m, ?_, fun Q hQ => hQ.cls m m hm hm rfl⟩
    unfold Kl.sig
    rw [hS2 m hm]
    exact hn.has m hm
/-- Two that are the same already. -/
theorem jn_skip {a b : Nat} (h : JnI E S W k (td ++ [(a, b)]) P) (e : k.C a = k.C b) : JnI E S W k td P := by
  obtain ⟨ga, gb, gc⟩ := h.tsn (a, b) (by simp)
  have key : ∀ Q, GdQ k td Q → GdQ k (td ++ [(a, b)]) Q := fun Q hQ => ⟨hQ.sym, hQ.trans, hQ.cls, fun p hp => by
    rcases List.mem_append.1 hp with hp | hp
    · exact hQ.tdo p hp
    · rw [List.mem_singleton.1 hp]; exact hQ.cls a b ga gb e⟩
  refine { h with tsn := fun p hp => h.tsn p (by simp [hp]), giv := fun p hp => ?_, has := fun m hm hp => ?_ }
  · obtain ⟨x, y, h1, h2, h3, h4, h5⟩ := h.giv p hp
    exact ⟨x, y, h1, h2, h3, h4, fun Q hQ => h5 Q (key Q hQ)⟩
  · obtain ⟨x, h1, h2⟩ := h.has m hm hp
    exact ⟨x, h1, fun Q hQ => h2 Q (key Q hQ)⟩
/-- One class goes into another one. -/
def Kl.swal (k : Kl) (l m : Nat) : Kl := { k with cl := k.cl.map (fun c => if c = l then m else c), mb := (k.mb.set m (k.M m ++ k.M l)).set l [], ab := (k.ab.set m (k.A m ++ k.A l)).set l [] }
theorem swal_C (hl : k.cl.length = k.ts.length) {l m i : Nat} (hi : i < k.ts.length) : (k.swal l m).C i = if k.C i = l then m else k.C i := by
  show gd (k.cl.map _) 0 i = _
  rw [gd_map (d := 0) (by omega)]
  rfl
theorem swal_M (hl : k.mb.length = k.ts.length) {l m : Nat} (h1 : l < k.ts.length) (h2 : m < k.ts.length) (hne : l ≠ m) (c : Nat) : (k.swal l m).M c = if c = l then [] else if c = m then k.M m ++ k.M l else k.M c := by
  show gd ((k.mb.set m (k.M m ++ k.M l)).set l []) [] c = _
  by_cases hc : c = l
  · subst hc; rw [if_pos rfl, gd_set (by simp; omega)]
  · rw [if_neg hc, gd_set_ne (fun e => hc e.symm)]
    by_cases hm : c = m
    · subst hm; rw [if_pos rfl, gd_set (by omega)]
    · rw [if_neg hm, gd_set_ne (fun e => hm e.symm)]; rfl
theorem swal_A (hl : k.ab.length = k.ts.length) {l m : Nat} (h1 : l < k.ts.length) (h2 : m < k.ts.length) (hne : l ≠ m) (c : Nat) : (k.swal l m).A c = if c = l then [] else if c = m then k.A m ++ k.A l else k.A c := by
  show gd ((k.ab.set m (k.A m ++ k.A l)).set l []) [] c = _
  by_cases hc : c = l
  · subst hc; rw [if_pos rfl, gd_set (by simp; omega)]
  · rw [if_neg hc, gd_set_ne (fun e => hc e.symm)]
    by_cases hm : c = m
    · subst hm; rw [if_pos rfl, gd_set (by omega)]
    · rw [if_neg hm, gd_set_ne (fun e => hm e.symm)]; rfl
theorem sum_swal {L : List (List Nat)} {l m : Nat} (h1 : l < L.length) (h2 : m < L.length) (hne : l ≠ m) : sumN ((L.set m (gd L [] m ++ gd L [] l)).set l []) = sumN L := by
  have e1 := sumN_set (l := L) (i := m) (gd L [] m ++ gd L [] l) h2
  have e2 := sumN_set (l := L.set m (gd L [] m ++ gd L [] l)) (i := l) [] (by simpa using h1)
  rw [gd_set_ne (fun e => hne e.symm)] at e2
  simp only [List.length_append, List.length_nil] at e1 e2
  omega
theorem jn_swal {a b l m : Nat} (h : JnI E S W k (td ++ [(a, b)]) (fun _ => False)) (hlm : (l = k.C a ∧ m = k.C b) ∨ (l = k.C b ∧ m = k.C a)) (hne : l ≠ m) :
    JnI E S W (k.swal l m) td (fun x => x ∈ k.A l) ∧ (k.swal l m).cnt < k.cnt := by
  obtain ⟨ga, gb, gc⟩ := h.tsn (a, b) (by simp)
  simp only at ga gb gc
  have hl : l < k.ts.length := by rcases hlm with ⟨e, _⟩ | ⟨e, _⟩ <;> rw [e] <;> exact h.clt _ (by assumption)
  have hm : m < k.ts.length := by rcases hlm with ⟨_, e⟩ | ⟨_, e⟩ <;> rw [e] <;> exact h.clt _ (by assumption)
  have live_m : k.M m ≠ [] := by rcases hlm with ⟨_, e⟩ | ⟨_, e⟩ <;> rw [e] <;> exact h.live (by assumption)
  have live_l : k.M l ≠ [] := by rcases hlm with ⟨e, _⟩ | ⟨e, _⟩ <;> rw [e] <;> exact h.live (by assumption)
  have hC : ∀ i, i < k.ts.length → (k.swal l m).C i = if k.C i = l then m else k.C i := fun i hi => swal_C h.lc hi
  have hM := swal_M (k := k) h.lm hl hm hne
  have hA := swal_A (k := k) h.la hl hm hne
  have hT : (k.swal l m).T = k.T := rfl
  have hB : (k.swal l m).B = k.B := rfl
  have hsg : (k.swal l m).sg = k.sg := rfl
  have hz : (k.swal l m).ts = k.ts := rfl
  -- what is good behind it was good ahead of it
  have key : ∀ Q, GdQ (k.swal l m) td Q → GdQ k (td ++ [(a, b)]) Q := fun Q hQ => by
    have hab : Q a b := hQ.cls a b ga gb (by rw [hC a ga, hC b gb]; rcases hlm with ⟨e1, e2⟩ | ⟨e1, e2⟩ <;> subst e1 <;> subst e2 <;> simp)
    refine ⟨hQ.sym, hQ.trans, fun i j hi hj e => hQ.cls i j hi hj (by rw [hC i hi, hC j hj, e]), fun p hp => ?_⟩
    rcases List.mem_append.1 hp with hp | hp
    · exact hQ.tdo p hp
    · rw [List.mem_singleton.1 hp]; exact hab
  have cross : ∀ i j, i < k.ts.length → j < k.ts.length → k.C i = l → k.C j = m → Cg E S (k.T i) (k.T j) := fun i j hi hj e1 e2 => by
    rcases hlm with ⟨f1, f2⟩ | ⟨f1, f2⟩
    · exact ((h.snd i a hi ga (e1.trans f1)).trans gc).trans (h.snd b j gb hj (f2.symm.trans e2.symm))
    · exact ((h.snd i b hi gb (e1.trans f1)).trans gc.sym).trans (h.snd a j ga hj (f2.symm.trans e2.symm))
  refine ⟨{ lb := h.lb, lc := by simp [Kl.swal, h.lc], lm := by simp [Kl.swal, h.lm], la := by simp [Kl.swal, h.la], nd := h.nd, arg := h.arg, nm := h.nm, inS := h.inS, clt := fun i hi => ?_, mem := fun i c hi hc => ?_, mlt := fun c hc i hi => ?_, up := fun x hx y hy => ?_, alt := fun c hc x hx => ?_, ms := ?_, sa := ?_, snd := fun i j hi hj e => ?_, tsn := fun p hp => h.tsn p (by simp [hp]), giv := fun p hp => ?_, ent := fun s x hs => ?_, has := fun x hx hp => ?_ }, ?_⟩
  · rw [hC i hi]; split
    · exact hm
    · exact h.clt i hi
  · rw [hC i hi, hM c]
    have e1 := h.mem i l hi hl
    have e2 := h.mem i m hi hm
    have e3 := h.mem i c hi hc
    by_cases hcl : c = l
    · subst hcl
      rw [if_pos rfl]
      refine ⟨(fun x => by cases x), fun x => ?_⟩
      split at x
      · exact absurd x.symm hne
      · rename_i g; exact absurd x g
    · rw [if_neg hcl]
      by_cases hcm : c = m
      · subst hcm
        rw [if_pos rfl, List.mem_append, e2, e1]
        refine ⟨fun x => ?_, fun x => ?_⟩
        · rcases x with x | x
          · rw [if_neg (by rw [x]; exact fun q => hcl q)]; exact x
          · rw [if_pos x]
        · split at x
          · rename_i g; exact Or.inr g
          · exact Or.inl x
      · rw [if_neg hcm, e3]
        refine ⟨fun x => ?_, fun x => ?_⟩
        · rw [if_neg (by rw [x]; exact hcl)]; exact x
        · split at x
          · exact absurd x.symm hcm
          · exact x
  · rw [hM c] at hi
    split at hi
    · cases hi
    · split at hi
      · rcases List.mem_append.1 hi with g | g
        · exact h.mlt m hm i g
        · exact h.mlt l hl i g
      · exact h.mlt c hc i hi
  · have hyl := (h.arg x hx).2 y hy
    have hu := h.up x hx y hy
    rw [hC y hyl, hA]
    by_cases g : k.C y = l
    · rw [if_pos g, if_neg (fun q => hne q.symm), if_pos rfl]
      rw [g] at hu
      simp [hu]
    · rw [if_neg g, if_neg g]
      split
      · rename_i q; rw [q] at hu; simp [hu]
      · exact hu
  · rw [hA c] at hx
    split at hx
    · cases hx
    · split at hx
      · rcases List.mem_append.1 hx with g | g
        · exact h.alt m hm x g
        · exact h.alt l hl x g
      · exact h.alt c hc x hx
  · have e := sum_swal (L := k.mb) (l := l) (m := m) (by rw [h.lm]; exact hl) (by rw [h.lm]; exact hm) hne
    show sumN ((k.mb.set m (k.M m ++ k.M l)).set l []) ≤ k.ts.length
    have := h.ms
    unfold Kl.M
    omega
  · have e := sum_swal (L := k.ab) (l := l) (m := m) (by rw [h.la]; exact hl) (by rw [h.la]; exact hm) hne
    show sumN ((k.ab.set m (k.A m ++ k.A l)).set l []) ≤ W
    have := h.sa
    unfold Kl.A
    omega
  · rw [hC i hi, hC j hj] at e
    by_cases g1 : k.C i = l
    · by_cases g2 : k.C j = l
      · exact h.snd i j hi hj (g1.trans g2.symm)
      · rw [if_pos g1, if_neg g2] at e
        exact cross i j hi hj g1 e.symm
    · by_cases g2 : k.C j = l
      · rw [if_neg g1, if_pos g2] at e
        exact (cross j i hj hi g2 e).sym
      · rw [if_neg g1, if_neg g2] at e
        exact h.snd i j hi hj e
  · obtain ⟨x, y, h1, h2, h3, h4, h5⟩ := h.giv p hp
    exact ⟨x, y, h1, h2, h3, h4, fun Q hQ => h5 Q (key Q hQ)⟩
  · obtain ⟨hx, cs, e1, e2, e3⟩ := h.ent s x hs
    refine ⟨hx, cs, e1, e2, fun j hj => ?_⟩
    have hbl : gd (k.B x) 0 j < k.ts.length := (h.arg x hx).2 _ (gd_mem (by omega))
    show gd cs 0 j = (k.swal l m).C (gd (k.B x) 0 j) ∨ (gd cs 0 j < k.ts.length ∧ (k.swal l m).M (gd cs 0 j) = [])
    rcases e3 j hj with g | ⟨g1, g2⟩
    · rw [hC _ hbl, hM]
      by_cases q : k.C (gd (k.B x) 0 j) = l
      · rw [q] at g
        exact Or.inr ⟨by omega, by rw [if_pos g]⟩
      · exact Or.inl (by rw [if_neg q]; exact g)
    · refine Or.inr ⟨g1, ?_⟩
      rw [hM]
      split
      · rfl
      · split
        · rename_i q; rw [q] at g2; exact absurd g2 live_m
        · exact g2
  · have hno : ∀ y ∈ k.B x, k.C y ≠ l := fun y hy e => hp (by rw [← e]; exact h.up x hx y hy)
    have hsame : (k.swal l m).sig x = k.sig x := by
      unfold Kl.sig Kl.S
      rw [hT, hB]
      congr 1
      exact List.map_congr_left fun y hy => by rw [hC y ((h.arg x hx).2 y hy), if_neg (hno y hy)]
    obtain ⟨e, g1, g2⟩ := h.has x hx (fun f => f)
    exact ⟨e, by rw [hsg, hsame]; exact g1, fun Q hQ => g2 Q (key Q hQ)⟩
  · unfold Kl.cnt
    rw [hz]
    refine filter_ltK _ (fun c hc hq => ?_) ⟨l, List.mem_range.2 hl, ?_, ?_⟩
    · rw [hM] at hq
      split at hq
      · simp at hq
      · split at hq
        · rename_i g; rw [g]; simpa using live_m
        · exact hq
    · simpa using live_l
    · rw [hM, if_pos rfl]; rfl
/-- Another one has its sign. -/
theorem jn_other {n o : Nat} (h : JnI E S W k td P) (hn : n < k.ts.length) (hs : sgG k.sg (k.sig n) = some o) : JnI E S W k (td ++ [(n, o)]) (fun x => P x ∧ x ≠ n) := by
  obtain ⟨ho, cs, e1, e2, e3⟩ := h.ent _ _ hs
  obtain ⟨f1, f2⟩ := sgn_inj (h.nm n hn) (h.nm o ho) e1
  have key : ∀ Q, GdQ k (td ++ [(n, o)]) Q → GdQ k td Q := fun Q hQ => ⟨hQ.sym, hQ.trans, hQ.cls, fun p hp => hQ.tdo p (by simp [hp])⟩
  have hB : (k.B n).length = (k.B o).length := by rw [← e2, ← f2]; simp [Kl.S]
  have hc : Cg E S (k.T n) (k.T o) := by
    have a1 := (h.arg n hn).1
    have a2 := (h.arg o ho).1
    have s1 := h.inS n hn
    have s2 := h.inS o ho
    have key2 : ∀ (u v : Tm), u.args = (k.B n).map k.T → v.args = (k.B o).map k.T → S u → S v → u.name = v.name → Cg E S u v := ?_
    · exact key2 _ _ a1 a2 s1 s2 f1
    clear a1 a2 s1 s2 f1
    rintro ⟨x, l⟩ ⟨y, r⟩ a1 a2 s1 s2 f1
    simp only at a1 a2 f1
    subst f1
    refine .cong s1 s2 (by rw [a1, a2]; simp [hB]) fun j h1 h2 => ?_
    have h3 : j < (k.B n).length := by rw [a1] at h1; simpa using h1
    have h4 : j < (k.B o).length := by omega
    have b1 : (k.B n)[j] < k.ts.length := (h.arg n hn).2 _ (List.getElem_mem h3)
    have b2 : (k.B o)[j] < k.ts.length := (h.arg o ho).2 _ (List.getElem_mem h4)
    have q1 : l[j] = k.T (k.B n)[j] := by simp [a1]
    have q2 : r[j] = k.T (k.B o)[j] := by simp [a2]
    rw [q1, q2]
    refine h.snd _ _ b1 b2 ?_
    have hj : j < cs.length := by omega
    have hcj : gd cs 0 j = k.C (k.B n)[j] := by rw [← f2]; unfold Kl.S; rw [gd_map (d := 0) h3, gd_get h3]
    rcases e3 j hj with g | ⟨_, g⟩
    · rw [← hcj, g, gd_get h4]
    · rw [hcj] at g
      exact absurd g (h.live b1)
  refine { h with tsn := fun p hp => ?_, giv := fun p hp => ?_, has := fun x hx hp => ?_ }
  · rcases List.mem_append.1 hp with hp | hp
    · exact h.tsn p hp
    · rw [List.mem_singleton.1 hp]; exact ⟨hn, ho, hc⟩
  · obtain ⟨x, y, h1, h2, h3, h4, h5⟩ := h.giv p hp
    exact ⟨x, y, h1, h2, h3, h4, fun Q hQ => h5 Q (key Q hQ)⟩
  · by_cases hxn : x = n
    · subst hxn
      exact ⟨o, hs, fun Q hQ => hQ.tdo (x, o) (by simp)⟩
    · obtain ⟨e, g1, g2⟩ := h.has x hx (fun f => hp ⟨f, hxn⟩)
      exact ⟨e, g1, fun Q hQ => g2 Q (key Q hQ)⟩
/-- Its sign is new. -/
def Kl.signed (k : Kl) (n : Nat) : Kl := { k with sg := k.sg ++ [(k.sig n, n)] }
theorem jn_new {n : Nat} (h : JnI E S W k td P) (hn : n < k.ts.length) (hs : sgG k.sg (k.sig n) = none) : JnI E S W (k.signed n) td (fun x => P x ∧ x ≠ n) := by
  have key : ∀ Q, GdQ (k.signed n) td Q → GdQ k td Q := fun Q hQ => ⟨hQ.sym, hQ.trans, hQ.cls, hQ.tdo⟩
  have hg : ∀ s, sgG (k.signed n).sg s = (sgG k.sg s).or (if k.sig n = s then some n else none) := fun s => by
    show sgG (k.sg ++ [(k.sig n, n)]) s = _
    rw [sgG_app, sgG_one]
  have hgig : ∀ x, (k.signed n).sig x = k.sig x := fun x => rfl
  refine { h with giv := fun p hp => ?_, ent := fun s m hm => ?_, has := fun x hx hp => ?_ }
  · obtain ⟨x, y, h1, h2, h3, h4, h5⟩ := h.giv p hp
    exact ⟨x, y, h1, h2, h3, h4, fun Q hQ => h5 Q (key Q hQ)⟩
  · rw [hg] at hm
    cases h1 : sgG k.sg s with
    | some m1 =>
      rw [h1] at hm
      cases hm
      exact h.ent s _ h1
    | none =>
      rw [h1, Option.none_or] at hm
      split at hm
      · rename_i e
        cases hm
        refine ⟨hn, k.S n, e.symm, by simp [Kl.S]; rfl, fun j hj => Or.inl ?_⟩
        have hj2 : j < (k.B n).length := by simpa [Kl.S] using hj
        unfold Kl.S
        rw [gd_map (d := 0) hj2]
        rfl
      · cases hm
  · by_cases hxn : x = n
    · subst hxn
      exact ⟨x, by rw [hg, hgig, hs, Option.none_or, if_pos rfl], fun Q hQ => hQ.cls x x hx hx rfl⟩
    · obtain ⟨e, g1, g2⟩ := h.has x hx (fun f => hp ⟨f, hxn⟩)
      exact ⟨e, by rw [hg, hgig, g1]; rfl, fun Q hQ => g2 Q (key Q hQ)⟩
theorem JnI.less {P' : Nat → Prop} (h : JnI E S W k td P) (hp : ∀ x, P x → P' x) : JnI E S W k td P' := { h with has := fun x hx hn => h.has x hx fun f => hn (hp x f) }
end
/-- When nothing is left to do. -/
theorem jn_done {E : List Pr} {W : Nat} {k : Kl} (h : JnI E (· ∈ k.ts) W k [] (fun _ => False)) : Done E k.ts k.cl := by
  have hq : GdQ k [] fun i j => k.C i = k.C j := ⟨fun e => e.symm, fun e f => e.trans f, fun _ _ _ _ e => e, by simp⟩
  have hT : ∀ i (hi : i < k.ts.length), k.ts[i] = k.T i := fun i hi => (gd_get hi).symm
  have hC : ∀ i (hi : i < k.cl.length), k.cl[i] = k.C i := fun i hi => (gd_get hi).symm
  have hl := h.lc
  refine ⟨fun i j h1 h2 g1 g2 e => ?_, fun p hp => ?_, fun i j h1 h2 g1 g2 e1 e2 e3 => ?_⟩
  · rw [hC i g1, hC j g2] at e
    rw [hT i h1, hT j h2]
    exact h.snd i j h1 h2 e
  · obtain ⟨a, b, h1, h2, h3, h4, h5⟩ := h.giv p hp
    exact ⟨a, b, h1, h2, by omega, by omega, by rw [hT a h1, h3], by rw [hT b h2, h4], by rw [hC, hC]; exact h5 _ hq⟩
  · rw [hC i g1, hC j g2]
    simp only [hT i h1, hT j h2] at e1 e2 e3
    have a1 := (h.arg i h1).1
    have a2 := (h.arg j h2).1
    have hs : k.sig i = k.sig j := by
      unfold Kl.sig Kl.S
      rw [e1]
      congr 1
      apply List.ext_getElem
      · have := e2
        rw [a1, a2] at this
        simpa using this
      · intro q q1 q2
        simp only [List.length_map] at q1 q2
        have r1 : q < (k.T i).args.length := by rw [a1]; simpa using q1
        have r2 : q < (k.T j).args.length := by rw [a2]; simpa using q2
        obtain ⟨x, y, h3, h4, g3, g4, e4, e5, e6⟩ := e3 q r1 r2
        have b1 := (h.arg i h1).2 _ (List.getElem_mem q1)
        have b2 := (h.arg j h2).2 _ (List.getElem_mem q2)
        have c1 : (k.T i).args[q] = k.T (k.B i)[q] := by simp [a1]
        have c2 : (k.T j).args[q] = k.T (k.B j)[q] := by simp [a2]
        rw [c1, hT x h3] at e4
        rw [c2, hT y h4] at e5
        rw [hC x g3, hC y g4] at e6
        have d1 := kT_inj h.nd h3 b1 e4
        have d2 := kT_inj h.nd h4 b2 e5
        subst d1
        subst d2
        simpa using e6
    obtain ⟨e, f1, f2⟩ := h.has i h1 (fun f => f)
    obtain ⟨e', f3, f4⟩ := h.has j h2 (fun f => f)
    rw [hs, f3] at f1
    cases f1
    exact (f2 _ hq).trans (f4 _ hq).symm
end Go.Proofs.YtdmaijmglblccaaGreatDoor

/- But for one block the world is as it was. -/
namespace Go.Proofs.YtdmaijmglblccaaGreatDoor
open Go.RowKit
set_option linter.unusedSimpArgs false
set_option linter.unusedVariables false
set_option maxRecDepth 8000

/-- But for block B the world is as it was. -/
structure Ex (B : Nat) (w w' : World) : Prop where
  os : w'.os = w.os
  tape : w'.tape = w.tape
  output : w'.output = w.output
  size : w.heap.size ≤ w'.heap.size
  block : ∀ k, k < w.heap.size → k ≠ B → w'.heap[k]? = w.heap[k]?
theorem Ex.refl (B : Nat) (w : World) : Ex B w w := ⟨rfl, rfl, rfl, Nat.le_refl _, fun _ _ _ => rfl⟩
theorem Ex.trans {B : Nat} {a b c : World} (h : Ex B a b) (k : Ex B b c) : Ex B a c :=
  ⟨k.os.trans h.os, k.tape.trans h.tape, k.output.trans h.output, Nat.le_trans h.size k.size, fun i hi hn => (k.block i (Nat.lt_of_lt_of_le hi h.size) hn).trans (h.block i hi hn)⟩
theorem Ex.drewN {B : Nat} {a w : World} (h : Ex B a w) (n : Nat) : Ex B a (w.drewN n) := ⟨h.os, h.tape, h.output, h.size, h.block⟩
theorem Ex.drew {B : Nat} {a w : World} (h : Ex B a w) : Ex B a w.drew := ⟨h.os, h.tape, h.output, h.size, h.block⟩
theorem Ex.set {B : Nat} {a w : World} (h : Ex B a w) (i : Nat) (v : Value) : Ex B a (w.setCell ⟨B, i, none⟩ v) :=
  ⟨h.os, h.tape, h.output, by simpa [World.setCell] using h.size, fun k hk hn => (Below.heap_setCell _ _ _ _ (by simpa using hn)).trans (h.block k hk hn)⟩

theorem Ex.alloc {B : Nat} {a w : World} (h : Ex B a w) (o : Obj) : Ex B a (w.alloc o) :=
  ⟨h.os, h.tape, h.output, by have := h.size; simp; omega, fun k hk hn => (Below.heap_alloc _ _ _ (Nat.lt_of_lt_of_le hk h.size)).trans (h.block k hk hn)⟩

theorem Blk.ex {w w' : World} {B b T : Nat} {cs : Array Value} (h : Blk w b cs T) (he : Ex B w w') (hne : b ≠ B) : Blk w' b cs T := by
  unfold Blk at *
  rw [he.block b (Blk.lt h) hne]; exact h
theorem Row.ex {w w' : World} {B N T : Nat} {Y : Nat → Prop} {v : Value} {l : List Tm} {xs : List Value} (h : Row w N T Y v l xs) (he : Ex B w w') (hB : B < N) (hY : ¬ Y B) : Row w' N T Y v l xs :=
  ⟨h.own.kept (w' := w') (row := some B) ⟨he.os, he.tape, he.output, he.size, fun j hj hn => he.block j hj (fun e => hn (by rw [e]))⟩ (Or.inr (fun e => by have := (h.own.lt B e).1; omega)),
   h.row.imp fun a l hs => ((hs.mono (Y := fun b => (Y b ∨ (N ≤ b ∧ some b ≠ v.ownBlock)) ∧ b < w.heap.size) fun b h1 h2 => ⟨h1, h2⟩).kept fun b hb => he.block b hb.2 (fun e => by
     rcases hb.1 with h1 | h1
     · rw [e] at h1; exact hY h1
     · omega)).mono fun b hb _ => hb.1⟩

theorem Ex.grown {B : Nat} {a w w' : World} {row : Option Nat} (h : Ex B a w) (hg : w.grownBy w' row) (hr : ∀ k, row = some k → a.heap.size ≤ k) : Ex B a w' :=
  ⟨hg.os.trans h.os, hg.tape.trans h.tape, hg.output.trans h.output, Nat.le_trans h.size hg.size, fun k hk hn => (hg.block k (Nat.lt_of_lt_of_le hk h.size) (fun e => by have := hr k e.symm; omega)).trans (h.block k hk hn)⟩
end Go.Proofs.YtdmaijmglblccaaGreatDoor


/- Rows of bindings that a call makes. -/
namespace Go.Proofs.YtdmaijmglblccaaGreatDoor
open Go.RowKit
set_option linter.unusedSimpArgs false
set_option linter.unusedVariables false

/-- A binding, and where those below its term's first knot lie. -/
abbrev Bc := Bd × Option Addr × Nat
instance : Inhabited Bc := ⟨(⟨⟨#[]⟩, ⟨⟨#[]⟩, []⟩⟩, none, 0)⟩
end Go.Proofs.YtdmaijmglblccaaGreatDoor


/- But for some blocks the world is as it was. -/
namespace Go.Proofs.YtdmaijmglblccaaGreatDoor
open Go.RowKit
set_option linter.unusedSimpArgs false
set_option linter.unusedVariables false
set_option maxRecDepth 8000

/-- But for the blocks that Q names the world is as it was. -/
structure ExQ (Q : Nat → Prop) (w w' : World) : Prop where
  os : w'.os = w.os
  tape : w'.tape = w.tape
  output : w'.output = w.output
  size : w.heap.size ≤ w'.heap.size
  block : ∀ k, k < w.heap.size → ¬ Q k → w'.heap[k]? = w.heap[k]?
theorem ExQ.refl (Q : Nat → Prop) (w : World) : ExQ Q w w := ⟨rfl, rfl, rfl, Nat.le_refl _, fun _ _ _ => rfl⟩
theorem ExQ.trans {Q : Nat → Prop} {a b c : World} (h : ExQ Q a b) (k : ExQ Q b c) : ExQ Q a c :=
  ⟨k.os.trans h.os, k.tape.trans h.tape, k.output.trans h.output, Nat.le_trans h.size k.size, fun i hi hn => (k.block i (Nat.lt_of_lt_of_le hi h.size) hn).trans (h.block i hi hn)⟩
/-- One behind the other, the second naming blocks that the first world had not. -/
theorem ExQ.transN {Q R : Nat → Prop} {a b c : World} (h : ExQ Q a b) (k : ExQ R b c) (hR : ∀ i, R i → i < a.heap.size → Q i) : ExQ Q a c :=
  ⟨k.os.trans h.os, k.tape.trans h.tape, k.output.trans h.output, Nat.le_trans h.size k.size, fun i hi hn => (k.block i (Nat.lt_of_lt_of_le hi h.size) (fun hr => hn (hR i hr hi))).trans (h.block i hi hn)⟩
theorem ExQ.mono {Q R : Nat → Prop} {a b : World} (h : ExQ Q a b) (hR : ∀ i, Q i → i < a.heap.size → R i) : ExQ R a b := ⟨h.os, h.tape, h.output, h.size, fun i hi hn => h.block i hi (fun hq => hn (hR i hq hi))⟩
theorem ExQ.drewN {Q : Nat → Prop} {a w : World} (h : ExQ Q a w) (n : Nat) : ExQ Q a (w.drewN n) := ⟨h.os, h.tape, h.output, h.size, h.block⟩
theorem ExQ.drew {Q : Nat → Prop} {a w : World} (h : ExQ Q a w) : ExQ Q a w.drew := ⟨h.os, h.tape, h.output, h.size, h.block⟩
theorem ExQ.set {Q : Nat → Prop} {a w : World} (h : ExQ Q a w) {B : Nat} (hB : Q B) (i : Nat) (v : Value) : ExQ Q a (w.setCell ⟨B, i, none⟩ v) :=
  ⟨h.os, h.tape, h.output, by simpa [World.setCell] using h.size, fun k hk hn => (Below.heap_setCell _ _ _ _ (by simp; intro e; subst e; exact hn hB)).trans (h.block k hk hn)⟩
theorem ExQ.alloc {Q : Nat → Prop} {a w : World} (h : ExQ Q a w) (o : Obj) : ExQ Q a (w.alloc o) :=
  ⟨h.os, h.tape, h.output, by have := h.size; simp; omega, fun k hk hn => (Below.heap_alloc _ _ _ (Nat.lt_of_lt_of_le hk h.size)).trans (h.block k hk hn)⟩
theorem ExQ.grown {Q : Nat → Prop} {a w w' : World} {row : Option Nat} (h : ExQ Q a w) (hg : w.grownBy w' row) (hr : ∀ k, row = some k → a.heap.size ≤ k ∨ Q k) : ExQ Q a w' :=
  ⟨hg.os.trans h.os, hg.tape.trans h.tape, hg.output.trans h.output, Nat.le_trans h.size hg.size, fun k hk hn => (hg.block k (Nat.lt_of_lt_of_le hk h.size) (fun e => by rcases hr k e.symm with h1 | h1; omega; exact hn h1)).trans (h.block k hk hn)⟩
theorem ExQ.ofBelow {Q : Nat → Prop} {w w' : World} (h : Below w.heap.size w w') : ExQ Q w w' := ⟨h.os, h.tape, h.output, h.size, fun k hk _ => h.block k hk⟩
theorem ExQ.below {Q : Nat → Prop} {w w' : World} {B : Nat} (h : ExQ Q w w') (hB : B ≤ w.heap.size) (hQ : ∀ b, Q b → B ≤ b) : Below B w w' :=
  ⟨h.os, h.tape, h.output, h.size, fun k hk => h.block k (by omega) (fun hq => by have := hQ k hq; omega)⟩
theorem Blk.exq {w w' : World} {Q : Nat → Prop} {b T : Nat} {cs : Array Value} (h : Blk w b cs T) (he : ExQ Q w w') (hne : ¬ Q b) : Blk w' b cs T := by
  unfold Blk at *
  rw [he.block b (Blk.lt h) hne]; exact h
theorem Sl.exq {w w' : World} {Q X : Nat → Prop} {a : Option Addr} {l : List Tm} (h : Sl w X a l) (he : ExQ Q w w') (hX : ∀ b, X b → ¬ Q b) : Sl w' X a l :=
  ((h.mono (Y := fun b => X b ∧ b < w.heap.size) fun b h1 h2 => ⟨h1, h2⟩).kept fun b hb => he.block b hb.2 (hX b hb.1)).mono fun b hb _ => hb.1
theorem ownsRow_at {w w' : World} {base e size n : Nat} {v : Value} {xs : List Value} (h : w.ownsRow base e size v n xs) (hk : ∀ g, v.ownBlock = some g → w'.heap[g]? = w.heap[g]?) : w'.ownsRow base e size v n xs := by
  obtain ⟨hl, h1⟩ := h
  refine ⟨hl, ?_⟩
  rcases h1 with h1 | ⟨g, cap, cur, hv, hg, hh, hr⟩
  · exact Or.inl h1
  · refine Or.inr ⟨g, cap, cur, hv, hg, ?_, hr⟩
    rw [hk g (by rw [hv]; rfl)]
    exact hh
theorem Row.exq {w w' : World} {Q : Nat → Prop} {N T : Nat} {Y : Nat → Prop} {v : Value} {l : List Tm} {xs : List Value} (h : Row w N T Y v l xs) (he : ExQ Q w w') (hQ : ∀ b, Q b → b < N) (hY : ∀ b, Q b → ¬ Y b) : Row w' N T Y v l xs :=
  ⟨ownsRow_at h.own fun g hg => he.block g (h.own.lt g hg).2 (fun hq => by have := hQ g hq; have := (h.own.lt g hg).1; omega),
   h.row.imp fun a l hs => hs.exq he fun b hb hq => by
     rcases hb with h1 | h1
     · exact hY b hq h1
     · have := hQ b hq; omega⟩
end Go.Proofs.YtdmaijmglblccaaGreatDoor

/- Maps by texts, as they lie in memory. -/
namespace Go.Proofs.YtdmaijmglblccaaGreatDoor
open Go.RowKit
set_option linter.unusedSimpArgs false
set_option linter.unusedVariables false

def mapGet : List (ByteArray × Value) → ByteArray → Option Value
  | [], _ => none
  | p :: r, n => if p.1 = n then some p.2 else mapGet r n

/-- The entries' stamps: each below the clock, none twice. -/
def Stamps (es : Array MapEntry) (clk : Nat) : Prop := (∀ x ∈ es.toList, x.born < clk) ∧ (es.toList.map (·.born)).Nodup
/-- The map at r has these keys, in the order in which they came, and what stands for them. -/
def MapAt (w : World) (r : Nat) (L : List (ByteArray × Value)) : Prop :=
  ∃ es clk, w.heap[r]? = some (.map es clk) ∧ es.toList.map (fun e => (e.key, e.val)) = L.map (fun p => (Value.string p.1, p.2)) ∧ Stamps es clk
theorem Stamps.push {es : Array MapEntry} {clk : Nat} (h : Stamps es clk) (k v : Value) : Stamps (es.push { key := k, val := v, born := clk }) (clk + 1) := by
  obtain ⟨h1, h2⟩ := h
  refine ⟨fun x hx => ?_, ?_⟩
  · rw [Array.toList_push, List.mem_append] at hx
    rcases hx with hx | hx
    · have := h1 x hx; omega
    · have e : x = { key := k, val := v, born := clk } := by simpa using hx
      subst e; exact Nat.lt_succ_self _
  · rw [Array.toList_push, List.map_append, List.nodup_append]
    refine ⟨h2, by simp, fun a ha b hb => ?_⟩
    obtain ⟨x, hx, rfl⟩ := List.mem_map.1 ha
    have := h1 x hx
    have e : b = clk := by simpa using hb
    omega
theorem MapAt.new (w : World) : MapAt (w.alloc (.map #[] 0)) w.heap.size [] := ⟨#[], 0, heap_alloc_new w _, rfl, by simp [Stamps]⟩
theorem MapAt.lt {w : World} {r : Nat} {L : List (ByteArray × Value)} (h : MapAt w r L) : r < w.heap.size := by
  obtain ⟨es, clk, h, _⟩ := h
  exact (Array.getElem?_eq_some_iff.1 h).1
theorem MapAt.kept {w w' : World} {r : Nat} {L : List (ByteArray × Value)} (h : MapAt w r L) (hk : w'.heap[r]? = w.heap[r]?) : MapAt w' r L := by
  obtain ⟨es, clk, h1, h2⟩ := h
  exact ⟨es, clk, hk.trans h1, h2⟩
theorem MapAt.below {w w' : World} {r B : Nat} {L : List (ByteArray × Value)} (h : MapAt w r L) (hb : Below B w w') (hB : r < B) : MapAt w' r L := h.kept (hb.block r hB)

theorem findNow_map (n : ByteArray) : ∀ (l : List MapEntry) (L : List (ByteArray × Value)) (i : Nat), l.map (fun e => (e.key, e.val)) = L.map (fun p => (Value.string p.1, p.2)) →
    (mapGet L n = none → Instr.findNow .string (.string n) l i = some none) ∧ (∀ v, mapGet L n = some v → ∃ j, Instr.findNow .string (.string n) l i = some (some (j, v)))
  | [], [], i, h => ⟨fun _ => rfl, fun v h => by simp [mapGet] at h⟩
  | [], p :: L, i, h => by simp at h
  | e :: l, [], i, h => by simp at h
  | e :: l, p :: L, i, h => by
    simp only [List.map_cons, List.cons.injEq, Prod.mk.injEq] at h
    obtain ⟨⟨hk, hv⟩, ht⟩ := h
    obtain ⟨ih1, ih2⟩ := findNow_map n l L (i + 1) ht
    by_cases hn : p.1 = n
    · have hs : Instr.sameNow .string (.string n) e.key = some true := by
        rw [hk, hn]
        show some (n == n) = some true
        rw [show (n == n) = true from (MapKept.bytes_beq _ _).2 rfl]
      refine ⟨fun h => by simp [mapGet, hn] at h, fun v h => ⟨i, ?_⟩⟩
      simp only [mapGet, hn, if_true, Option.some.injEq] at h
      simp [Instr.findNow, hs, hv, h]
    · have hs : Instr.sameNow .string (.string n) e.key = some false := by
        rw [hk]
        show some (n == p.1) = some false
        have hb : (n == p.1) = false := by
          cases hh : (n == p.1) with
          | false => rfl
          | true => exact absurd ((MapKept.bytes_beq _ _).1 hh).symm hn
        rw [hb]
      refine ⟨fun h => ?_, fun v h => ?_⟩
      · rw [mapGet, if_neg hn] at h
        simp [Instr.findNow, hs, ih1 h]
      · rw [mapGet, if_neg hn] at h
        obtain ⟨j, hj⟩ := ih2 v h
        exact ⟨j, by simp [Instr.findNow, hs, hj]⟩

theorem run_look {P : Program} {w : World} {T kt et : TypeId} {r : Nat} {L : List (ByteArray × Value)} {z : Value} (hm : P.underlying T = some (.map kt et)) (hk : P.underlying kt = some .string) (hz : (zeroValue et).run P w = .ok z w) (h : MapAt w r L) (n : ByteArray) :
    (Instr.lookup T (.map (some r)) (.string n) true).run P w = .ok (.tuple #[(mapGet L n).getD z, .bool (mapGet L n).isSome]) w := by
  obtain ⟨es, clk, hb, he, hst⟩ := h
  obtain ⟨h1, h2⟩ := findNow_map n es.toList L 0 he
  have hc : ∀ b, (Instr.checkKey b 10000 kt (.string n)).run P w = .ok () w := fun b => MapKept.run_checkKey (k := .string n) hk (by simp [MapKept.IsKey]) b 9999
  cases hg : mapGet L n with
  | none => simp [Instr.lookup, run_underlying hm, MapKept.run_getObj_map hb, hc, MapKept.run_findKey hk (h1 hg), Result.andThen, hz]
  | some v =>
    obtain ⟨j, hj⟩ := h2 v hg
    simp [Instr.lookup, run_underlying hm, MapKept.run_getObj_map hb, hc, MapKept.run_findKey hk hj, Result.andThen]

theorem run_put {P : Program} {w : World} {T kt et : TypeId} {r : Nat} {L : List (ByteArray × Value)} (hm : P.underlying T = some (.map kt et)) (hk : P.underlying kt = some .string) (h : MapAt w r L) (n : ByteArray) (v : Value) (hn : mapGet L n = none) :
    ∃ w', (Instr.mapUpdate T (.map (some r)) (.string n) v).run P w = .ok () w' ∧ MapAt w' r (L ++ [(n, v)]) ∧ w'.heap.size = w.heap.size ∧ w'.os = w.os ∧ w'.tape = w.tape ∧ w'.output = w.output ∧ (∀ b, b ≠ r → w'.heap[b]? = w.heap[b]?) := by
  obtain ⟨es, clk, hb, he, hst⟩ := h
  obtain ⟨h1, h2⟩ := findNow_map n es.toList L 0 he
  have hc : (Instr.checkKey false 10000 kt (.string n)).run P w = .ok () w := MapKept.run_checkKey (k := .string n) hk (by simp [MapKept.IsKey]) false 9999
  have hlt : r < w.heap.size := (Array.getElem?_eq_some_iff.1 hb).1
  refine ⟨{ w with heap := w.heap.setIfInBounds r (.map (es.push { key := .string n, val := v, born := clk }) (clk + 1)) }, ?_, ⟨_, _, (MapKept.heap_set hb).1, by simp [he], hst.push _ _⟩, by simp, rfl, rfl, rfl, fun b hne => (MapKept.heap_set hb).2 b hne⟩
  simp [Instr.mapUpdate, run_underlying hm, MapKept.run_getObj_map hb, hc, MapKept.run_findKey hk (h1 hn), MapKept.run_setObj_map _ hb, Result.andThen]
end Go.Proofs.YtdmaijmglblccaaGreatDoor

/- Maps by texts: looked into, and set where the key is there. -/
namespace Go.Proofs.YtdmaijmglblccaaGreatDoor
open Go.RowKit
set_option linter.unusedSimpArgs false
set_option linter.unusedVariables false

theorem run_look1 {P : Program} {w : World} {T kt et : TypeId} {r : Nat} {L : List (ByteArray × Value)} {z : Value} (hm : P.underlying T = some (.map kt et)) (hk : P.underlying kt = some .string) (hz : (zeroValue et).run P w = .ok z w) (h : MapAt w r L) (n : ByteArray) :
    (Instr.lookup T (.map (some r)) (.string n) false).run P w = .ok ((mapGet L n).getD z) w := by
  obtain ⟨es, clk, hb, he, hstm⟩ := h
  obtain ⟨h1, h2⟩ := findNow_map n es.toList L 0 he
  have hc : ∀ b, (Instr.checkKey b 10000 kt (.string n)).run P w = .ok () w := fun b => MapKept.run_checkKey (k := .string n) hk (by simp [MapKept.IsKey]) b 9999
  cases hg : mapGet L n with
  | none => simp [Instr.lookup, run_underlying hm, MapKept.run_getObj_map hb, hc, MapKept.run_findKey hk (h1 hg), Result.andThen, hz]
  | some v =>
    obtain ⟨j, hj⟩ := h2 v hg
    simp [Instr.lookup, run_underlying hm, MapKept.run_getObj_map hb, hc, MapKept.run_findKey hk hj, Result.andThen]

end Go.Proofs.YtdmaijmglblccaaGreatDoor

/- Lists of things of one cell each. -/
namespace Go.Proofs.YtdmaijmglblccaaGreatDoor
open Go.RowKit
set_option linter.unusedSimpArgs false
set_option linter.unusedVariables false

/-- A list in memory, a cell each. -/
def LV {α : Type} (f : α → Value) (w : World) (X : Nat → Prop) (v : Value) (l : List α) : Prop :=
  ∃ a c, v = .slice a l.length c ∧ (l.length ≤ 9223372036854775807 ∧ l.length ≤ c) ∧ (l = [] ∨ ∃ b o, a = some ⟨b, o, none⟩ ∧ X b ∧ ∀ i (h : i < l.length), w.cell? ⟨b, o + i, none⟩ = some (f l[i]))

theorem LV.kept {α : Type} {f : α → Value} {w w' : World} {X : Nat → Prop} {v : Value} {l : List α} (h : LV f w X v l) (hk : ∀ b, X b → w'.heap[b]? = w.heap[b]?) : LV f w' X v l := by
  obtain ⟨a, c, e, hl, h⟩ := h
  refine ⟨a, c, e, hl, ?_⟩
  rcases h with h | ⟨b, o, e, hx, h⟩
  · exact Or.inl h
  · exact Or.inr ⟨b, o, e, hx, fun i hi => by rw [World.cell?_of_block (hk b hx)]; exact h i hi⟩

theorem LV.mono {α : Type} {f : α → Value} {w : World} {X Y : Nat → Prop} {v : Value} {l : List α} (h : LV f w X v l) (hk : ∀ b, X b → b < w.heap.size → Y b) : LV f w Y v l := by
  obtain ⟨a, c, e, hl, h⟩ := h
  refine ⟨a, c, e, hl, ?_⟩
  rcases h with h | ⟨b, o, e, hx, h⟩
  · exact Or.inl h
  · by_cases h0 : l = []
    · exact Or.inl h0
    · have hp : 0 < l.length := List.length_pos_iff.2 h0
      exact Or.inr ⟨b, o, e, hk b hx (World.block_lt_of_cell? w _ (h 0 hp)), h⟩

theorem LV.below {α : Type} {f : α → Value} {w w' : World} {X : Nat → Prop} {v : Value} {l : List α} {B : Nat} (h : LV f w X v l) (hb : Below B w w') (hX : ∀ b, X b → b < w.heap.size → b < B) : LV f w' X v l := by
  have h1 : LV f w (fun b => X b ∧ b < B) v l := h.mono fun b hx hs => ⟨hx, hX b hx hs⟩
  have h2 : LV f w' (fun b => X b ∧ b < B) v l := h1.kept fun b hx => hb.block b hx.2
  exact h2.mono fun b hx _ => hx.1

theorem LV.later {α : Type} {f : α → Value} {w w' : World} {X : Nat → Prop} {v : Value} {l : List α} (h : LV f w X v l) (hb : Below w.heap.size w w') : LV f w' X v l := h.below hb (fun _ _ h => h)
theorem LV.alloc {α : Type} {f : α → Value} {w : World} {X : Nat → Prop} {v : Value} {l : List α} (h : LV f w X v l) (o : Obj) : LV f (w.alloc o) X v l := h.later ((Below.refl _ _).alloc (Nat.le_refl _) o)

/-- Out of a row that a call owns. -/
theorem LV.of_own {α : Type} {f : α → Value} {w : World} {N T : Nat} {v : Value} {l : List α} (h : w.ownsRow N T 1 v l.length (l.map f)) : LV f w (fun b => N ≤ b) v l := by
  have h' := h
  obtain ⟨_, h1⟩ := h
  rcases h1 with ⟨rfl, h0⟩ | ⟨g, cap, cur, hv, hg, hh, hnc, hcm, _⟩
  · have e : l = [] := List.length_eq_zero_iff.1 h0
    subst e
    exact ⟨none, 0, rfl, by simp, Or.inl rfl⟩
  · unfold maxLen at hcm
    refine ⟨some ⟨g, 0, none⟩, cap, hv, ⟨by omega, hnc⟩, ?_⟩
    by_cases h0 : l = []
    · exact Or.inl h0
    · have hp : 0 < l.length := List.length_pos_iff.2 h0
      obtain ⟨g2, cap2, hv2, _, _, hc⟩ := owned_val h' hp
      rw [hv] at hv2
      simp at hv2
      obtain ⟨rfl, rfl⟩ := hv2
      exact Or.inr ⟨g, 0, rfl, hg, fun i hi => by rw [Nat.zero_add]; exact hc i _ (by simp [hi])⟩
end Go.Proofs.YtdmaijmglblccaaGreatDoor


/- Walks: lists that are the same; whether a text is in a list. -/
namespace Go.Proofs.YtdmaijmglblccaaGreatDoor
open Go.RowKit
set_option linter.unusedSimpArgs false
set_option linter.unusedVariables false

/-- Is a text in a list? -/
def inB (x : ByteArray) (l : List ByteArray) : Bool := l.any fun y => y.toList == x.toList
theorem inB_take {x : ByteArray} {l : List ByteArray} {k : Nat} (h : k < l.length) (h0 : inB x (l.take k) = false) (h1 : (l[k].toList == x.toList) = false) : inB x (l.take (k + 1)) = false := by
  unfold inB at *
  rw [List.take_succ_eq_append_getElem h, List.any_append, h0]
  simpa using h1
theorem inB_yes {x : ByteArray} {l : List ByteArray} {k : Nat} (h : k < l.length) (h1 : (l[k].toList == x.toList) = true) : inB x l = true := by
  unfold inB
  rw [List.any_eq_true]
  exact ⟨l[k], List.getElem_mem h, h1⟩

set_option maxHeartbeats 400000 in
theorem in_any (x : ByteArray) (l : List ByteArray) (v : Value) (w : World) (X : Nat → Prop) (hv : LV Value.string w X v l) :
    Calls Tryz.prog 22 #[.string x, v] w fun e w' => e = .returned (.bool (inB x l)) ∧ w' = w := by
  obtain ⟨a, c, rfl, ⟨hl, _⟩, h1⟩ := hv
  go_enter Tryz.func22, Tryz.ntmps22
  go_wp2_with fail
  go_loop [5] (fun i => ∃ k : Nat, k ≤ l.length ∧ i = .int .i64 k ∧ inB x (l.take k) = false) (fun i => l.length - (intOf i).toNat)
  case atStart => exact ⟨0, Nat.zero_le _, rfl, by simp [inB]⟩
  case round =>
    obtain ⟨k, hk, rfl, ha⟩ := hrel
    have HA := hide ha
    clear ha
    by_cases hlt : k < l.length
    · obtain ⟨b, o, rfl, _, hc⟩ := h1.resolve_left (fun h => by rw [h] at hlt; simp at hlt)
      have d1 := hc k hlt
      clear hc h1
      cases hq : (l[k].toList == x.toList) with
      | true =>
        have HQ := hide (inB_yes hlt hq)
        go_wp2_with fail
        go_ret
        exact ⟨ret_bool HQ.out.symm, rfl⟩
      | false =>
        have HQ := hide (inB_take hlt HA.out hq)
        go_wp2_with fail
        go_round
        case rel => exact ⟨k + 1, by omega, by go_num, HQ.out⟩
        case measure => simp [intOf]; omega
    · have htk : l.take k = l := List.take_of_length_le (by omega)
      have HF : Hid (false = inB x l) := by unfold Hid; rw [← HA.out, htk]
      go_wp2_with fail
      go_ret
      exact ⟨ret_bool HF.out, rfl⟩
end Go.Proofs.YtdmaijmglblccaaGreatDoor


/- Walks: the variables of a term, each once. -/
namespace Go.Proofs.YtdmaijmglblccaaGreatDoor
open Go.RowKit
set_option linter.unusedSimpArgs false
set_option linter.unusedVariables false

theorem Tryz.infoStr : (Tryz.prog.info? 9).map (fun i => (i.zero, i.size, i.bytes)) = some (some (.string ByteArray.empty), 1, 16) := by kernel_rfl

/-- A variable more. -/
def addV (acc : List ByteArray) (s : ByteArray) : List ByteArray := if (varB s && !inB s acc) = true then acc ++ [s] else acc
/-- The variables of knots, as they come. -/
def varsP (acc : List ByteArray) (ks : List Tm) : List ByteArray := ks.foldl (fun acc k => addV acc k.name) acc

theorem addV_yes {acc : List ByteArray} {s : ByteArray} (h : varB s = true) (h2 : inB s acc = false) : addV acc s = acc ++ [s] := by simp [addV, h, h2]
theorem addV_in {acc : List ByteArray} {s : ByteArray} (h : varB s = true) (h2 : inB s acc = true) : addV acc s = acc := by simp [addV, h, h2]
theorem addV_no {acc : List ByteArray} {s : ByteArray} (h : varB s = false) : addV acc s = acc := by simp [addV, h]
theorem addV_len (acc : List ByteArray) (s : ByteArray) : (addV acc s).length ≤ acc.length + 1 := by
  unfold addV; split <;> simp
theorem varsP_append (acc : List ByteArray) (a b : List Tm) : varsP acc (a ++ b) = varsP (varsP acc a) b := by simp [varsP, List.foldl_append]
theorem varsP_len (ks : List Tm) : ∀ acc, (varsP acc ks).length ≤ acc.length + ks.length := by
  induction ks with
  | nil => intro acc; simp [varsP]
  | cons k r ih => intro acc; have := ih (addV acc k.name); have h2 := addV_len acc k.name; simp only [varsP, List.foldl_cons, List.length_cons] at *; omega
theorem varsP_take (acc : List ByteArray) (ks : List Tm) (k : Nat) (h : k < ks.length) : varsP acc (ks.take (k + 1)) = addV (varsP acc (ks.take k)) ks[k].name := by
  rw [List.take_succ_eq_append_getElem h, varsP_append]; rfl

set_option maxHeartbeats 1000000 in
theorem varsOf_any (t : Tm) (v : Value) (w : World) (X : Nat → Prop) (hv : TV w X v t) (hsm : sizeL [t] ≤ 1000000) :
    Calls Tryz.prog 10 #[v] w fun e w' => ∃ v', e = .returned v' ∧ LV Value.string w' (fun b => w.heap.size ≤ b) v' (varsP [] (preL [t])) ∧ Below w.heap.size w w' := by
  obtain ⟨a, c, rfl, hs⟩ := hv
  have HV := hide (show TV w X (.agg #[.string t.name, .slice a t.args.length c]) t from ⟨a, c, rfl, hs⟩)
  clear hs
  obtain ⟨i0, hi, hz0, hz1, hz2⟩ := info_parts Tryz.infoStr
  go_enter Tryz.func10, Tryz.ntmps10
  go_wp2_with fail
  refine (knots_any t _ _ X (by exact HV.out.alloc _) hsm).mono ?_
  rintro e w2 ⟨v2, xs, rfl, hown, hrow, hb3⟩
  have hpos : 0 < sizeL [t] := by obtain ⟨s', l'⟩ := t; simp [sizeL]; omega
  obtain ⟨g, cap, rfl, hg, hg', hcel⟩ := owned_val hown hpos
  have hb4 := hide (((Below.refl w.heap.size w).alloc (Nat.le_refl _) (.cells #[.string t.name, .slice a t.args.length c] 25)).trans (hb3.mono (by simp)))
  have HROW := hide hrow
  have HCEL := hide hcel
  have hpl := preL_length [t]
  generalize hkse : preL [t] = ks at *
  have HKSE := hide hkse
  clear hkse
  have hks : ks.length ≤ 1000000 := by omega
  rw [← hpl]
  clear hown hrow hcel hb3 hpl hpos hsm
  go_wp2_with fail
  go_loopw [4, 5] (fun q i wr => ∃ k : Nat, k ≤ ks.length ∧ i = .int .i64 k ∧ wr.ownsRow w2.heap.size 9 1 q (varsP [] (ks.take k)).length ((varsP [] (ks.take k)).map Value.string) ∧ Below w2.heap.size w2 wr) (fun q i wr => ks.length - (intOf i).toNat)
  case atStart => exact ⟨0, Nat.zero_le _, rfl, by simpa [varsP] using World.ownsRow_nil w2 w2.heap.size 9 1, Below.refl _ _⟩
  case round =>
    obtain ⟨k, hk, rfl, hown, hb⟩ := hrel
    have HOWN := hide hown
    have HB := hide hb
    by_cases hlt : k < ks.length
    · obtain ⟨x0, a', c', x1, hsl⟩ := HROW.out.get k hlt
      have d0 := cell_later hb (HCEL.out _ _ x0)
      have HT := hide (varsP_take [] ks k hlt)
      have hlen0 := varsP_len (ks.take k) []
      have hlen : (varsP [] (ks.take k)).length ≤ 1000000 := by
        have : (ks.take k).length ≤ k := List.length_take_le _ _
        simp at hlen0; omega
      clear x0 x1 hsl hown hb hlen0
      generalize hacc : varsP [] (ks.take k) = acc at *
      have HACC := hide hacc
      clear hacc
      cases hvb : varB ks[k].name with
      | false =>
        have HN := hide (addV_no (acc := acc) hvb)
        have HVB := hide hvb
        clear hvb
        go_wp2_with (go_at_call 26; refine (isVarR_any _ _).mono ?_; rintro e w' ⟨rfl, rfl⟩; rw [HVB.out])
        go_roundw
        case rel => exact ⟨k + 1, by omega, by go_num, by rw [HT.out, HN.out]; exact HOWN.out, HB.out⟩
        case measure => simp [intOf]; omega
      | true =>
        have HVB := hide hvb
        cases hin : inB ks[k].name acc with
        | true =>
          have HN := hide (addV_in hvb hin)
          have HIN := hide hin
          clear hvb hin
          go_wp2_with (first | (go_at_call 26; refine (isVarR_any _ _).mono ?_; rintro e w' ⟨rfl, rfl⟩; rw [HVB.out]) | (go_at_call 22; refine (in_any _ _ _ _ _ (LV.of_own HOWN.out)).mono ?_; rintro e w' ⟨rfl, rfl⟩; rw [HIN.out]))
          go_roundw
          case rel => exact ⟨k + 1, by omega, by go_num, by rw [HT.out, HN.out]; exact HOWN.out, HB.out⟩
          case measure => simp [intOf]; omega
        | false =>
          have HN := hide (addV_yes hvb hin)
          have HIN := hide hin
          clear hvb hin
          obtain ⟨q2, w3, hr2, hown2, hgr2, _⟩ := run_append_own (P := Tryz.prog) (wr.alloc (.cells #[.string ks[k].name] 9)) w2.heap.size 31 31 9 i0 _ 1 16 Tryz.underlying31 hi hz0 hz1 hz2 rfl (by decide) _ acc.length (acc.map Value.string) (HOWN.out.alloc _)
            ⟨wr.heap.size, 0, none⟩ 1 1 [.string ks[k].name] rfl (cell_one_new _ _ _) (fun x hx => by simp at hx; subst hx; rfl) (by unfold maxLen; omega) (by omega) (by have := HB.out.size; simp; omega)
          have HR := hide hr2
          have HO2 := hide hown2
          have HB2 := hide ((HB.out.alloc HB.out.size _).grown hgr2 (by have := HB.out.size; simp; omega) (fun j hj => (HOWN.out.lt j hj).1))
          clear hr2 hown2 hgr2
          go_wp2_with (first | (go_at_call 26; refine (isVarR_any _ _).mono ?_; rintro e w' ⟨rfl, rfl⟩; rw [HVB.out]) | (go_at_call 22; refine (in_any _ _ _ _ _ (LV.of_own HOWN.out)).mono ?_; rintro e w' ⟨rfl, rfl⟩; rw [HIN.out]) | (at_builtin; refine wpList_append_eq rfl _ _ _ _ rfl rfl rfl HR.out ?_))
          go_roundw
          case rel => exact ⟨k + 1, by omega, by go_num, by rw [HT.out, HN.out]; simpa using HO2.out, HB2.out⟩
          case measure => simp [intOf]; omega
    · have htk : ks.take k = ks := List.take_of_length_le (by omega)
      rw [htk] at hown
      have HO := hide hown
      clear hown hb
      go_wp2_with fail
      go_ret
      exact ⟨_, rfl, by rw [HKSE.out]; exact (LV.of_own HO.out).mono fun b hb _ => Nat.le_trans hb4.out.size hb, hb4.out.trans (HB.out.mono hb4.out.size)⟩

theorem grown_trans {w w1 w2 : World} {r r1 : Option Nat} (h : w.grownBy w1 r) (h1 : w1.grownBy w2 r1) (hr : ∀ k, r1 = some k → r = some k ∨ w.heap.size ≤ k) : w.grownBy w2 r :=
  ⟨h1.os.trans h.os, h1.tape.trans h.tape, h1.output.trans h.output, Nat.le_trans h.size h1.size, fun k hk hne => (h1.block k (Nat.lt_of_lt_of_le hk h.size) (fun e => by
    rcases hr k e.symm with h2 | h2
    · exact hne h2.symm
    · omega)).trans (h.block k hk hne)⟩

theorem grown_of_below {w w' : World} (hb : Below w.heap.size w w') (r : Option Nat) : w.grownBy w' r := ⟨hb.os, hb.tape, hb.output, hb.size, fun k hk _ => hb.block k hk⟩

theorem TV.grown {w w' : World} {X : Nat → Prop} {v : Value} {t : Tm} {r : Option Nat} (h : TV w X v t) (hg : w.grownBy w' r) (hX : ∀ b, X b → some b ≠ r) : TV w' X v t := by
  have h1 : TV w (fun b => X b ∧ b < w.heap.size) v t := h.mono fun b h1 h2 => ⟨h1, h2⟩
  have h2 : TV w' (fun b => X b ∧ b < w.heap.size) v t := h1.kept fun b hx => hg.block b hx.2 (hX b hx.1)
  exact h2.mono fun b hx _ => hx.1

/-- What stays true of a row of texts while it is added to. -/
def NamesAt (w0 : World) (B : Nat) (q0 : Value) (acc : List ByteArray) (q : Value) (wr : World) : Prop :=
  wr.ownsRow B 9 1 q acc.length (acc.map Value.string) ∧ w0.grownBy wr q0.ownBlock ∧ (∀ k, q.ownBlock = some k → q0.ownBlock = some k ∨ w0.heap.size ≤ k)

theorem NamesAt.step {w0 w1 w2 : World} {B : Nat} {q0 q1 q2 : Value} {acc1 acc2 : List ByteArray} (h1 : NamesAt w0 B q0 acc1 q1 w1) (h2 : NamesAt w1 B q1 acc2 q2 w2) : NamesAt w0 B q0 acc2 q2 w2 := by
  refine ⟨h2.1, grown_trans h1.2.1 h2.2.1 h1.2.2, fun k hk => ?_⟩
  rcases h2.2.2 k hk with h | h
  · exact h1.2.2 k h
  · exact Or.inr (Nat.le_trans h1.2.1.size h)

theorem NamesAt.below {w0 w1 w2 : World} {B : Nat} {q0 q1 : Value} {acc1 : List ByteArray} (h1 : NamesAt w0 B q0 acc1 q1 w1) (hb : Below w1.heap.size w1 w2) : NamesAt w0 B q0 acc1 q1 w2 :=
  ⟨h1.1.kept (w' := w2) (row := none) ⟨hb.os, hb.tape, hb.output, hb.size, fun j hj _ => hb.block j hj⟩ (by rcases Option.eq_none_or_eq_some (Value.ownBlock q1) with h | ⟨x, h⟩; exact Or.inl h; exact Or.inr (by rw [h]; simp)),
   grown_trans h1.2.1 (grown_of_below hb q1.ownBlock) h1.2.2, h1.2.2⟩
end Go.Proofs.YtdmaijmglblccaaGreatDoor


/- Walks: what stands at a place. -/
namespace Go.Proofs.YtdmaijmglblccaaGreatDoor
open Go.RowKit
set_option linter.unusedSimpArgs false
set_option linter.unusedVariables false

/-- A list of numbers in memory. -/
def PV (w : World) (X : Nat → Prop) (v : Value) (zs : List Int) : Prop :=
  ∃ a c, v = .slice a zs.length c ∧ (zs.length ≤ 9223372036854775807 ∧ zs.length ≤ c) ∧ (zs = [] ∨ ∃ b o, a = some ⟨b, o, none⟩ ∧ X b ∧ ∀ i (h : i < zs.length), w.cell? ⟨b, o + i, none⟩ = some (.int .i64 zs[i]))

theorem PV.kept {w w' : World} {X : Nat → Prop} {v : Value} {zs : List Int} (h : PV w X v zs) (hk : ∀ b, X b → w'.heap[b]? = w.heap[b]?) : PV w' X v zs := by
  obtain ⟨a, c, e, hl, h⟩ := h
  refine ⟨a, c, e, hl, ?_⟩
  rcases h with h | ⟨b, o, e, hx, h⟩
  · exact Or.inl h
  · exact Or.inr ⟨b, o, e, hx, fun i hi => by rw [World.cell?_of_block (hk b hx)]; exact h i hi⟩

theorem PV.mono {w : World} {X Y : Nat → Prop} {v : Value} {zs : List Int} (h : PV w X v zs) (hk : ∀ b, X b → b < w.heap.size → Y b) : PV w Y v zs := by
  obtain ⟨a, c, e, hl, h⟩ := h
  refine ⟨a, c, e, hl, ?_⟩
  rcases h with h | ⟨b, o, e, hx, h⟩
  · exact Or.inl h
  · by_cases h0 : zs = []
    · exact Or.inl h0
    · have hp : 0 < zs.length := List.length_pos_iff.2 h0
      exact Or.inr ⟨b, o, e, hk b hx (World.block_lt_of_cell? w _ (h 0 hp)), h⟩

theorem PV.below {w w' : World} {X : Nat → Prop} {v : Value} {zs : List Int} {B : Nat} (h : PV w X v zs) (hb : Below B w w') (hX : ∀ b, X b → b < w.heap.size → b < B) : PV w' X v zs := by
  have h1 : PV w (fun b => X b ∧ b < B) v zs := h.mono fun b hx hs => ⟨hx, hX b hx hs⟩
  have h2 : PV w' (fun b => X b ∧ b < B) v zs := h1.kept fun b hx => hb.block b hx.2
  exact h2.mono fun b hx _ => hx.1

theorem PV.later {w w' : World} {X : Nat → Prop} {v : Value} {zs : List Int} (h : PV w X v zs) (hb : Below w.heap.size w w') : PV w' X v zs := h.below hb (fun _ _ h => h)
theorem PV.alloc {w : World} {X : Nat → Prop} {v : Value} {zs : List Int} (h : PV w X v zs) (o : Obj) : PV (w.alloc o) X v zs := h.later ((Below.refl _ _).alloc (Nat.le_refl _) o)

theorem below2 {w : World} (o1 o2 : Obj) : Below w.heap.size w ((w.alloc o1).alloc o2) := ((Below.refl _ _).alloc (Nat.le_refl _) _).alloc (by simp) _

end Go.Proofs.YtdmaijmglblccaaGreatDoor

/- The places of a term, and rows of lists of numbers. -/
namespace Go.Proofs.YtdmaijmglblccaaGreatDoor
open Go.RowKit
set_option linter.unusedSimpArgs false
set_option linter.unusedVariables false

/-- These cells are these lists. -/
def RowP (w : World) (Z : Nat → Prop) : List (List Int) → List Value → Prop
  | [], xs => xs = []
  | z :: r, xs => ∃ u xs', xs = u :: xs' ∧ PV w Z u z ∧ RowP w Z r xs'

theorem RowP.len {w : World} {Z : Nat → Prop} : ∀ {l : List (List Int)} {xs : List Value}, RowP w Z l xs → xs.length = l.length
  | [], xs, h => by simp [RowP] at h; simp [h]
  | z :: l, xs, h => by obtain ⟨u, xs', rfl, _, h⟩ := h; simp [RowP.len h]
theorem RowP.append {w : World} {Z : Nat → Prop} : ∀ {l k : List (List Int)} {xs ys : List Value}, RowP w Z l xs → RowP w Z k ys → RowP w Z (l ++ k) (xs ++ ys)
  | [], k, xs, ys, h, h' => by simp [RowP] at h; subst h; simpa using h'
  | z :: l, k, xs, ys, h, h' => by obtain ⟨u, xs', rfl, hp, h⟩ := h; exact ⟨u, xs' ++ ys, rfl, hp, RowP.append h h'⟩
theorem RowP.imp {w w' : World} {Z Z' : Nat → Prop} (hs : ∀ u z, PV w Z u z → PV w' Z' u z) : ∀ {l : List (List Int)} {xs : List Value}, RowP w Z l xs → RowP w' Z' l xs
  | [], xs, h => h
  | z :: l, xs, h => by obtain ⟨u, xs', e, hp, h⟩ := h; exact ⟨u, xs', e, hs _ _ hp, RowP.imp hs h⟩
theorem RowP.get {w : World} {Z : Nat → Prop} : ∀ {l : List (List Int)} {xs : List Value}, RowP w Z l xs → ∀ i (h : i < l.length), ∃ u, xs[i]? = some u ∧ PV w Z u l[i]
  | [], xs, h, i, hi => by simp at hi
  | z :: l, xs, h, i, hi => by
    obtain ⟨u, xs', rfl, hp, h⟩ := h
    cases i with
    | zero => exact ⟨u, rfl, hp⟩
    | succ i => obtain ⟨u', h1, h2⟩ := RowP.get h i (by simpa using hi); exact ⟨u', by simpa using h1, h2⟩
theorem PV.one {w : World} {Z : Nat → Prop} {u : Value} {z : List Int} (h : PV w Z u z) : u.oneCell' = true := by obtain ⟨a, c, rfl, _⟩ := h; rfl

theorem Tryz.infoInt : (Tryz.prog.info? 3).map (fun i => (i.zero, i.size, i.bytes)) = some (some (.int .i64 0), 1, 8) := by kernel_rfl
theorem Tryz.infoInts : (Tryz.prog.info? 45).map (fun i => (i.zero, i.size, i.bytes)) = some (some (.slice none 0 0), 1, 24) := by kernel_rfl

end Go.Proofs.YtdmaijmglblccaaGreatDoor

/- Memory: closure's classes: rows of one's own, each known by a number. -/
namespace Go.Proofs.YtdmaijmglblccaaGreatDoor
open Go.RowKit
set_option linter.unusedSimpArgs false
set_option linter.unusedVariables false
set_option maxRecDepth 8000

/-- Whose a block is. -/
abbrev Oid := Nat × Nat
/-- One that is none of the classes'. -/
abbrev eX : Oid := (0, 0)
/-- What stands fast: blocks of other owners. -/
structure Fr (I : Oid → Prop) (o : Nat → Oid) (w : World) (o' : Nat → Oid) (w' : World) : Prop where
  os : w'.os = w.os
  tape : w'.tape = w.tape
  output : w'.output = w.output
  size : w.heap.size ≤ w'.heap.size
  blk : ∀ b, b < w.heap.size → ¬ I (o b) → w'.heap[b]? = w.heap[b]? ∧ o' b = o b
theorem Fr.refl (I : Oid → Prop) (o : Nat → Oid) (w : World) : Fr I o w o w := ⟨rfl, rfl, rfl, Nat.le_refl _, fun _ _ _ => ⟨rfl, rfl⟩⟩
theorem Fr.mono {I J : Oid → Prop} {o o' : Nat → Oid} {w w' : World} (h : Fr I o w o' w') (hi : ∀ i, I i → J i) : Fr J o w o' w' := ⟨h.os, h.tape, h.output, h.size, fun b hb hn => h.blk b hb fun g => hn (hi _ g)⟩
theorem Fr.trans {I : Oid → Prop} {o o1 o2 : Nat → Oid} {w w1 w2 : World} (h : Fr I o w o1 w1) (k : Fr I o1 w1 o2 w2) : Fr I o w o2 w2 :=
  ⟨k.os.trans h.os, k.tape.trans h.tape, k.output.trans h.output, Nat.le_trans h.size k.size, fun b hb hn => by
    obtain ⟨e1, e2⟩ := h.blk b hb hn
    obtain ⟨e3, e4⟩ := k.blk b (Nat.lt_of_lt_of_le hb h.size) (by rw [e2]; exact hn)
    exact ⟨e3.trans e1, e4.trans e2⟩⟩
theorem Fr.below {I : Oid → Prop} {o : Nat → Oid} {w w' : World} (h : Below w.heap.size w w') : Fr I o w o w' := ⟨h.os, h.tape, h.output, h.size, fun b hb _ => ⟨h.block b hb, rfl⟩⟩
/-- What a call leaves: blocks that are none of the classes'. -/
def Exo (o : Nat → Oid) (w : World) (o' : Nat → Oid) (w' : World) : Prop := w'.os = w.os ∧ w'.tape = w.tape ∧ w'.output = w.output ∧ w.heap.size ≤ w'.heap.size ∧ ∀ b, b < w.heap.size → o b = eX → w'.heap[b]? = w.heap[b]? ∧ o' b = eX
theorem Exo.refl (o : Nat → Oid) (w : World) : Exo o w o w := ⟨rfl, rfl, rfl, Nat.le_refl _, fun _ _ h => ⟨rfl, h⟩⟩
theorem Exo.trans {o o1 o2 : Nat → Oid} {w w1 w2 : World} (h : Exo o w o1 w1) (k : Exo o1 w1 o2 w2) : Exo o w o2 w2 :=
  ⟨k.1.trans h.1, k.2.1.trans h.2.1, k.2.2.1.trans h.2.2.1, Nat.le_trans h.2.2.2.1 k.2.2.2.1, fun b hb he => by
    obtain ⟨e1, e2⟩ := h.2.2.2.2 b hb he
    obtain ⟨e3, e4⟩ := k.2.2.2.2 b (Nat.lt_of_lt_of_le hb h.2.2.2.1) e2
    exact ⟨e3.trans e1, e4⟩⟩
theorem Fr.exo {I : Oid → Prop} {o o' : Nat → Oid} {w w' : World} (h : Fr I o w o' w') (hn : ¬ I eX) : Exo o w o' w' :=
  ⟨h.os, h.tape, h.output, h.size, fun b hb he => by
    obtain ⟨e1, e2⟩ := h.blk b hb (by rw [he]; exact hn)
    exact ⟨e1, e2.trans he⟩⟩
theorem Exo.below {o o' : Nat → Oid} {w w' : World} (h : Below w.heap.size w w') (ho : ∀ b, b < w.heap.size → o' b = o b) : Exo o w o' w' := ⟨h.os, h.tape, h.output, h.size, fun b hb he => ⟨h.block b hb, (ho b hb).trans he⟩⟩
/-- A row of one's own, and its owner. -/
def Rwo (w : World) (N : Nat) (o : Nat → Oid) (id : Oid) (T e : Nat) (v : Value) (n : Nat) (xs : List Value) : Prop := w.ownsRow N T e v n xs ∧ ∀ b, v.ownBlock = some b → o b = id
theorem Rwo.keep {w w' : World} {N : Nat} {o o' : Nat → Oid} {id : Oid} {T e : Nat} {v : Value} {n : Nat} {xs : List Value} (h : Rwo w N o id T e v n xs) (hk : ∀ b, b < w.heap.size → o b = id → w'.heap[b]? = w.heap[b]? ∧ o' b = id) : Rwo w' N o' id T e v n xs :=
  ⟨ownsRow_at h.1 fun g hg => (hk g (h.1.lt g hg).2 (h.2 g hg)).1, fun b hb => (hk b (h.1.lt b hb).2 (h.2 b hb)).2⟩
theorem Rwo.fr {w w' : World} {N : Nat} {I : Oid → Prop} {o o' : Nat → Oid} {id : Oid} {T e : Nat} {v : Value} {n : Nat} {xs : List Value} (h : Rwo w N o id T e v n xs) (f : Fr I o w o' w') (hn : ¬ I id) : Rwo w' N o' id T e v n xs :=
  h.keep fun b hb he => by
    obtain ⟨e1, e2⟩ := f.blk b hb (by rw [he]; exact hn)
    exact ⟨e1, e2.trans he⟩
theorem Rwo.later {w w' : World} {N : Nat} {o : Nat → Oid} {id : Oid} {T e : Nat} {v : Value} {n : Nat} {xs : List Value} (h : Rwo w N o id T e v n xs) (hb : Below w.heap.size w w') : Rwo w' N o id T e v n xs := h.keep fun b hb2 he => ⟨hb.block b hb2, he⟩
theorem Rwo.shape {w : World} {N : Nat} {o : Nat → Oid} {id : Oid} {T e : Nat} {v : Value} {n : Nat} {xs : List Value} (h : Rwo w N o id T e v n xs) : ∃ a c, v = .slice a n c := by
  rcases h.1.2 with ⟨hv, h0⟩ | ⟨g, cap, cur, hv, _⟩
  · exact ⟨none, 0, by rw [hv, h0]⟩
  · exact ⟨_, _, hv⟩
theorem Rwo.nil (w : World) (N : Nat) (o : Nat → Oid) (id : Oid) (T e : Nat) : Rwo w N o id T e (.slice none 0 0) 0 [] := ⟨World.ownsRow_nil w N T e, fun b hb => by simp [Value.ownBlock] at hb⟩
/-- A cell of it. -/
theorem Rwo.at {w : World} {N : Nat} {o : Nat → Oid} {id : Oid} {T : Nat} {a : Option Addr} {n c : Nat} {xs : List Value} (h : Rwo w N o id T 1 (.slice a n c) n xs) {i : Nat} (hi : i < n) : ∃ g u, a = some ⟨g, 0, none⟩ ∧ xs[i]? = some u ∧ w.cell? ⟨g, i, none⟩ = some u ∧ w.frozen? ⟨g, i, none⟩ = false ∧ o g = id ∧ g < w.heap.size ∧ N ≤ g := by
  obtain ⟨g, cap, hv, hg, hlt⟩ := h.1.form (by omega)
  obtain ⟨rfl, _, rfl⟩ : a = some ⟨g, 0, none⟩ ∧ True ∧ c = cap := by cases hv; exact ⟨rfl, trivial, rfl⟩
  have hxl : xs.length = n := by simpa using h.1.1
  refine ⟨g, xs[i], rfl, List.getElem?_eq_getElem (by omega), ?_, h.1.frozenAt i, h.2 g rfl, hlt, hg⟩
  rw [h.1.cellAt i (by omega), List.getElem?_eq_getElem (by omega)]
/-- Whose a row's block is from now on. -/
def upV (o : Nat → Oid) (v : Value) (id : Oid) : Nat → Oid := fun b => if v.ownBlock = some b then id else o b
theorem upV_yes {o : Nat → Oid} {v : Value} {id : Oid} {b : Nat} (h : v.ownBlock = some b) : upV o v id b = id := if_pos h
theorem upV_no {o : Nat → Oid} {v : Value} {id : Oid} {b : Nat} (h : v.ownBlock ≠ some b) : upV o v id b = o b := if_neg h
theorem Rwo.give {w : World} {N : Nat} {o : Nat → Oid} {id id' : Oid} {T e : Nat} {v : Value} {n : Nat} {xs : List Value} (h : Rwo w N o id T e v n xs) : Rwo w N (upV o v id') id' T e v n xs := ⟨h.1, fun b hb => upV_yes hb⟩
theorem Rwo.other {w : World} {N : Nat} {o : Nat → Oid} {id i1 i2 : Oid} {T e : Nat} {v u : Value} {n : Nat} {xs : List Value} (h : Rwo w N o id T e v n xs) (hu : ∀ b, u.ownBlock = some b → o b = i1) (hne : id ≠ i1) : Rwo w N (upV o u i2) id T e v n xs :=
  ⟨h.1, fun b hb => by
    rw [upV_no]
    · exact h.2 b hb
    · intro e
      exact hne ((h.2 b hb).symm.trans (hu b e))⟩
/-- Numbers as values. -/
abbrev iV (n : Nat) : Value := .int .i64 (n : Int)
def iL (l : List Nat) : List Value := l.map iV
theorem iL_len (l : List Nat) : (iL l).length = l.length := by simp [iL]
theorem iL_at {l : List Nat} {i : Nat} {u : Value} (h : (iL l)[i]? = some u) : u = iV (gd l 0 i) := by
  unfold iL at h
  rw [List.getElem?_map] at h
  unfold gd
  cases hl : l[i]? with
  | none => rw [hl] at h; cases h
  | some x => rw [hl] at h; cases h; rfl
/-- One more, in one cell. -/
theorem app_cell {w : World} {N : Nat} {o : Nat → Oid} {id : Oid} {TL T by_ : Nat} {z : Value} {v : Value} {xs : List Value} (hT : Tryz.prog.underlying TL = some (.slice T)) (hinfo : (Tryz.prog.info? T).map (fun i => (i.zero, i.size, i.bytes)) = some (some z, 1, by_)) (hz : z.cells.size = 1) (hby : by_ ≤ 100)
    (h : Rwo w N o id T 1 v xs.length xs) (hN : N ≤ w.heap.size) (hl : xs.length ≤ 1000000) (x : Value) (hx : x.oneCell' = true) :
    ∃ g cap w3, (Builtin.append_ #[TL, TL] TL #[v, .slice (some ⟨w.heap.size, 0, none⟩) 1 1]).run Tryz.prog (w.alloc (.cells #[x] T)) = .ok (.slice (some ⟨g, 0, none⟩) (xs.length + 1) cap) w3 ∧
      Rwo w3 N (upV o (.slice (some ⟨g, 0, none⟩) (xs.length + 1) cap) id) id T 1 (.slice (some ⟨g, 0, none⟩) (xs.length + 1) cap) (xs ++ [x]).length (xs ++ [x]) ∧ Fr (fun i => i = id) o w (upV o (.slice (some ⟨g, 0, none⟩) (xs.length + 1) cap) id) w3 := by
  obtain ⟨i0, hi, hz0, hz1, hz2⟩ := info_parts hinfo
  obtain ⟨g, cap, w3, hr, ho, hg, hat, _⟩ := run_append_lies (P := Tryz.prog) (w := w.alloc (.cells #[x] T)) TL TL N T i0 _ 1 by_ hT hi hz0 hz1 hz2 hz (by decide) v xs.length xs (h.1.alloc _) ⟨w.heap.size, 0, none⟩ 1 1 [x] rfl (World.news_of_block (cs := #[x]) (heap_alloc_new w _)) (by simpa using hx) (by omega) (by unfold maxLen; omega) (by have : (xs.length + 1) * by_ ≤ 1000001 * 100 := Nat.mul_le_mul (by omega) hby; omega) (by simp; omega) _ rfl
  refine ⟨g, cap, w3, hr, ⟨by simpa using ho, fun b hb => upV_yes hb⟩, ⟨hg.os, hg.tape, hg.output, Nat.le_trans (by simp) hg.size, fun b hb hn => ?_⟩⟩
  have hne : v.ownBlock ≠ some b := fun e => hn (h.2 b e)
  have hgb : g ≠ b := fun e => by
    subst e
    rcases hat with e | e
    · exact hne e
    · rw [World.size_alloc] at e; omega
  refine ⟨by rw [hg.block b (by simp; omega) (fun e => hne e.symm), Below.heap_alloc _ _ _ hb], upV_no (by simpa [Value.ownBlock] using hgb)⟩
/-- A store into a row. -/
theorem Rwo.put {w : World} {N : Nat} {o : Nat → Oid} {id : Oid} {T g n c : Nat} {xs : List Value} (h : Rwo w N o id T 1 (.slice (some ⟨g, 0, none⟩) n c) n xs) (i : Nat) (u : Value) : Rwo (w.setCell ⟨g, i, none⟩ u) N o id T 1 (.slice (some ⟨g, 0, none⟩) n c) n (xs.set i u) ∧ Fr (fun j => j = id) o w o (w.setCell ⟨g, i, none⟩ u) := by
  obtain ⟨h1, h2⟩ := h.1.stored i u
  refine ⟨⟨h1, h.2⟩, ⟨h2.os, h2.tape, h2.output, h2.size, fun b hb hn => ⟨?_, rfl⟩⟩⟩
  exact h2.block b hb fun e => hn (by cases e; exact h.2 g rfl)
theorem fr_box {o : Nat → Oid} {w : World} {B : Nat} {id : Oid} (hB : o B = id) (j : Nat) (u : Value) : Fr (fun i => i = id) o w o (w.setCell ⟨B, j, none⟩ u) :=
  ⟨rfl, rfl, rfl, by simp [World.setCell], fun b hb hn => ⟨Below.heap_setCell _ _ _ _ (by intro e; exact hn (by rw [← hB]; simp at e; rw [e])), rfl⟩⟩

/-- A term and where it lies. -/
abbrev Tc := Tm × Option Addr × Nat
def flatT : List Tc → List Value
  | [] => []
  | c :: r => .string c.1.name :: .slice c.2.1 c.1.args.length c.2.2 :: flatT r
theorem flatT_len : ∀ l : List Tc, (flatT l).length = l.length * 2
  | [] => rfl
  | c :: r => by simp only [flatT, List.length_cons, flatT_len r]; omega
theorem flatT_app : ∀ (a b : List Tc), flatT (a ++ b) = flatT a ++ flatT b
  | [], b => rfl
  | c :: r, b => by simp [flatT, flatT_app r b]
theorem flatT_get : ∀ (l : List Tc) (i : Nat) (h : i < l.length), (flatT l)[i * 2]? = some (.string l[i].1.name) ∧ (flatT l)[i * 2 + 1]? = some (.slice l[i].2.1 l[i].1.args.length l[i].2.2)
  | c :: r, 0, _ => ⟨rfl, rfl⟩
  | c :: r, i + 1, h => by
    have := flatT_get r i (by simpa using h)
    rw [show (i + 1) * 2 = i * 2 + 1 + 1 by omega]
    simpa [flatT] using this
/-- Where the rows lie. -/
structure Km where
  v0 : Value
  v1 : Value
  v2 : Value
  v3 : Value
  v4 : Value
  cs : List Tc
  vb : List Value
  vm : List Value
  va : List Value
abbrev nV : Value := .slice none 0 0
def sgV (l : List (ByteArray × Nat)) : List (ByteArray × Value) := l.map fun p => (p.1, iV p.2)
/-- The classes in memory. -/
structure KlAt (N B r : Nat) (X : Nat → Prop) (w : World) (o : Nat → Oid) (k : Kl) (m : Km) : Prop where
  box : Blk w B #[m.v0, m.v1, m.v2, m.v3, m.v4, .map (some r)] 65
  map : MapAt w r (sgV k.sg)
  nB : B < N
  nr : r < N
  nN : N ≤ w.heap.size
  oB : o B = (1, 0)
  oR : o r = (2, 0)
  r0 : Rwo w N o (3, 0) 25 2 m.v0 m.cs.length (flatT m.cs)
  ts : m.cs.map (·.1) = k.ts
  tx : ∀ c ∈ m.cs, Sl w X c.2.1 c.1.args
  hX : ∀ b, X b → b < w.heap.size ∧ o b = eX
  r1 : Rwo w N o (4, 0) 45 1 m.v1 m.vb.length m.vb
  r2 : Rwo w N o (5, 0) 3 1 m.v2 (iL k.cl).length (iL k.cl)
  r3 : Rwo w N o (6, 0) 45 1 m.v3 m.vm.length m.vm
  r4 : Rwo w N o (7, 0) 45 1 m.v4 m.va.length m.va
  l1 : m.vb.length = k.bl.length
  l3 : m.vm.length = k.mb.length
  l4 : m.va.length = k.ab.length
  i1 : ∀ i, i < k.bl.length → Rwo w N o (8, i) 3 1 (gd m.vb nV i) (iL (k.B i)).length (iL (k.B i))
  i3 : ∀ i, i < k.mb.length → Rwo w N o (9, i) 3 1 (gd m.vm nV i) (iL (k.M i)).length (iL (k.M i))
  i4 : ∀ i, i < k.ab.length → Rwo w N o (10, i) 3 1 (gd m.va nV i) (iL (k.A i)).length (iL (k.A i))
/-- What is none of theirs has changed, or is new. -/
theorem KlAt.mv {N B r : Nat} {X : Nat → Prop} {w w' : World} {o o' : Nat → Oid} {k : Kl} {m : Km} (h : KlAt N B r X w o k m) (hz : w.heap.size ≤ w'.heap.size) (hk : ∀ b, b < w.heap.size → (o b ≠ eX ∨ X b) → w'.heap[b]? = w.heap[b]? ∧ o' b = o b) : KlAt N B r X w' o' k m := by
  have kk : ∀ {id : Oid} {T e : Nat} {v : Value} {n : Nat} {xs : List Value}, Rwo w N o id T e v n xs → id ≠ eX → Rwo w' N o' id T e v n xs := fun h hne => h.keep fun b hb he => by
    obtain ⟨e1, e2⟩ := hk b hb (Or.inl (by rw [he]; exact hne))
    exact ⟨e1, e2.trans he⟩
  have hB := hk B h.box.lt (Or.inl (by rw [h.oB]; decide))
  have hR := hk r h.map.lt (Or.inl (by rw [h.oR]; decide))
  exact ⟨hB.1.trans h.box, h.map.kept hR.1, h.nB, h.nr, Nat.le_trans h.nN hz, hB.2.trans h.oB, hR.2.trans h.oR, kk h.r0 (by decide), h.ts, fun c hc => (h.tx c hc).kept fun b hb => (hk b (h.hX b hb).1 (Or.inr hb)).1, fun b hb => ⟨Nat.lt_of_lt_of_le (h.hX b hb).1 hz, (hk b (h.hX b hb).1 (Or.inr hb)).2.trans (h.hX b hb).2⟩,
    kk h.r1 (by decide), kk h.r2 (by decide), kk h.r3 (by decide), kk h.r4 (by decide), h.l1, h.l3, h.l4, fun i hi => kk (h.i1 i hi) (by simp), fun i hi => kk (h.i3 i hi) (by simp), fun i hi => kk (h.i4 i hi) (by simp)⟩
theorem KlAt.later {N B r : Nat} {X : Nat → Prop} {w w' : World} {o : Nat → Oid} {k : Kl} {m : Km} (h : KlAt N B r X w o k m) (hb : Below w.heap.size w w') : KlAt N B r X w' o k m := h.mv hb.size fun b hb2 _ => ⟨hb.block b hb2, rfl⟩
theorem KlAt.fresh {N B r : Nat} {X : Nat → Prop} {w w' : World} {o o' : Nat → Oid} {k : Kl} {m : Km} (h : KlAt N B r X w o k m) (hb : Below w.heap.size w w') (ho : ∀ b, b < w.heap.size → o' b = o b) : KlAt N B r X w' o' k m := h.mv hb.size fun b hb2 _ => ⟨hb.block b hb2, ho b hb2⟩
/-- One more row in bl. -/
theorem KlAt.push_bl {N B r : Nat} {X : Nat → Prop} {w : World} {o : Nat → Oid} {k : Kl} {m : Km} (h : KlAt N B r X w o k m) (hl : k.bl.length ≤ 1000000) (lv : Value) (bs : List Nat) (hv : Rwo w N o eX 3 1 lv (iL bs).length (iL bs)) (hnX : ∀ b, lv.ownBlock = some b → ¬ X b) (hone : lv.oneCell' = true) :
    ∃ g cap w3 o', (Builtin.append_ #[62, 62] 62 #[m.v1, .slice (some ⟨w.heap.size, 0, none⟩) 1 1]).run Tryz.prog (w.alloc (.cells #[lv] 45)) = .ok (.slice (some ⟨g, 0, none⟩) (k.bl.length + 1) cap) w3 ∧ Blk w3 B #[m.v0, m.v1, m.v2, m.v3, m.v4, .map (some r)] 65 ∧
      KlAt N B r X (w3.setCell ⟨B, 1, none⟩ (.slice (some ⟨g, 0, none⟩) (k.bl.length + 1) cap)) o' { k with bl := k.bl ++ [bs] } { m with v1 := .slice (some ⟨g, 0, none⟩) (k.bl.length + 1) cap, vb := m.vb ++ [lv] } ∧
      Fr (fun i => i = (4, 0) ∨ i = (1, 0) ∨ i = eX) o w o' (w3.setCell ⟨B, 1, none⟩ (.slice (some ⟨g, 0, none⟩) (k.bl.length + 1) cap)) ∧ (∀ b, b < w.heap.size → o b = eX → lv.ownBlock ≠ some b → (w3.setCell ⟨B, 1, none⟩ (.slice (some ⟨g, 0, none⟩) (k.bl.length + 1) cap)).heap[b]? = w.heap[b]? ∧ o' b = eX) := by
  have hll := h.l1
  obtain ⟨g, cap, w3, hr, ho, hf⟩ := app_cell (id := (4, 0)) Tryz.underlying62 Tryz.infoInts rfl (by decide) h.r1 h.nN (by omega) lv hone
  rw [hll] at hr ho hf
  have hB3 : Blk w3 B #[m.v0, m.v1, m.v2, m.v3, m.v4, .map (some r)] 65 := (hf.blk B h.box.lt (by rw [h.oB]; simp)).1.trans h.box
  have oB3 : upV o (.slice (some ⟨g, 0, none⟩) (k.bl.length + 1) cap) (4, 0) B = (1, 0) := (hf.blk B h.box.lt (by rw [h.oB]; simp)).2.trans h.oB
  have hf2 : Fr (fun i => i = (4, 0) ∨ i = (1, 0)) o w _ (w3.setCell ⟨B, 1, none⟩ (.slice (some ⟨g, 0, none⟩) (k.bl.length + 1) cap)) := (hf.mono fun i hi => Or.inl hi).trans ((fr_box oB3 1 _).mono fun i hi => Or.inr hi)
  have hlv := hv.fr hf2 (by simp)
  have hgb : g ≠ B := fun e => by
    have h1 := ho.2 g rfl
    have h2 := oB3
    rw [← e] at h2
    rw [h1] at h2
    cases h2
  have ho2 := ho.fr (fr_box (B := B) oB3 1 (.slice (some ⟨g, 0, none⟩) (k.bl.length + 1) cap)) (by simp)
  refine ⟨g, cap, w3, upV (upV o (.slice (some ⟨g, 0, none⟩) (k.bl.length + 1) cap) (4, 0)) lv (8, k.bl.length), hr, hB3, ?_, ?_, ?_⟩
  · have oth : ∀ {id : Oid} {T e : Nat} {v : Value} {n : Nat} {xs : List Value}, Rwo w N o id T e v n xs → id ≠ (4, 0) → id ≠ (1, 0) → id ≠ eX → Rwo (w3.setCell ⟨B, 1, none⟩ (.slice (some ⟨g, 0, none⟩) (k.bl.length + 1) cap)) N (upV (upV o (.slice (some ⟨g, 0, none⟩) (k.bl.length + 1) cap) (4, 0)) lv (8, k.bl.length)) id T e v n xs := fun hh h1 h2 h3 => (hh.fr hf2 (by rintro (e | e); exact h1 e; exact h2 e)).other hlv.2 h3
    have hbb := hB3.set 1 (.slice (some ⟨g, 0, none⟩) (k.bl.length + 1) cap)
    have notlv : ∀ b, b < w.heap.size → o b ≠ eX → lv.ownBlock ≠ some b := fun b hb hne e => hne (hv.2 b e)
    have hRr := hf2.blk r h.map.lt (by rw [h.oR]; simp)
    refine ⟨by simpa using hbb, h.map.kept hRr.1, h.nB, h.nr, Nat.le_trans h.nN hf2.size, ?_, ?_, oth h.r0 (by decide) (by decide) (by decide), h.ts, fun c hc => (h.tx c hc).kept fun b hb => (hf2.blk b (h.hX b hb).1 (by rw [(h.hX b hb).2]; simp)).1, fun b hb => ⟨Nat.lt_of_lt_of_le (h.hX b hb).1 hf2.size, ?_⟩, ho2.other hlv.2 (by decide), oth h.r2 (by decide) (by decide) (by decide), oth h.r3 (by decide) (by decide) (by decide), oth h.r4 (by decide) (by decide) (by decide), by simp [hll], h.l3, h.l4, ?_, fun i hi => oth (h.i3 i hi) (by simp) (by simp) (by simp), fun i hi => oth (h.i4 i hi) (by simp) (by simp) (by simp)⟩
    · rw [upV_no (notlv B h.box.lt (by rw [h.oB]; decide))]; exact oB3
    · rw [upV_no (notlv r h.map.lt (by rw [h.oR]; decide))]; exact hRr.2.trans h.oR
    · rw [upV_no (fun e => hnX b e hb)]; exact (hf2.blk b (h.hX b hb).1 (by rw [(h.hX b hb).2]; simp)).2.trans (h.hX b hb).2
    · intro i hi
      have hi : i < k.bl.length + 1 := by simpa using hi
      by_cases hin : i < k.bl.length
      · have e1 : gd (m.vb ++ [lv]) nV i = gd m.vb nV i := gd_app (by omega)
        have e2 : Kl.B { k with bl := k.bl ++ [bs] } i = k.B i := gd_app hin
        show Rwo _ N _ (8, i) 3 1 (gd (m.vb ++ [lv]) nV i) (iL (Kl.B { k with bl := k.bl ++ [bs] } i)).length (iL (Kl.B { k with bl := k.bl ++ [bs] } i))
        rw [e1, e2]
        exact oth (h.i1 i hin) (by simp) (by simp) (by simp)
      · have e : i = k.bl.length := by omega
        subst e
        have e1 : gd (m.vb ++ [lv]) nV k.bl.length = lv := gd_end2 hll
        have e2 : Kl.B { k with bl := k.bl ++ [bs] } k.bl.length = bs := gd_end
        show Rwo _ N _ (8, k.bl.length) 3 1 (gd (m.vb ++ [lv]) nV k.bl.length) (iL (Kl.B { k with bl := k.bl ++ [bs] } k.bl.length)).length (iL (Kl.B { k with bl := k.bl ++ [bs] } k.bl.length))
        rw [e1, e2]
        exact hlv.give
  · refine ⟨hf2.os, hf2.tape, hf2.output, hf2.size, fun b hb hn => ?_⟩
    obtain ⟨e1, e2⟩ := hf2.blk b hb fun g => hn (by rcases g with g | g; exact Or.inl g; exact Or.inr (Or.inl g))
    exact ⟨e1, by rw [upV_no (fun e => hn (Or.inr (Or.inr (hv.2 b e))))]; exact e2⟩
  · intro b hb he hne
    obtain ⟨e1, e2⟩ := hf2.blk b hb (by rw [he]; simp)
    exact ⟨e1, by rw [upV_no hne]; exact e2.trans he⟩
/-- One more row in mb. -/
theorem KlAt.push_mb {N B r : Nat} {X : Nat → Prop} {w : World} {o : Nat → Oid} {k : Kl} {m : Km} (h : KlAt N B r X w o k m) (hl : k.mb.length ≤ 1000000) (lv : Value) (bs : List Nat) (hv : Rwo w N o eX 3 1 lv (iL bs).length (iL bs)) (hnX : ∀ b, lv.ownBlock = some b → ¬ X b) (hone : lv.oneCell' = true) :
    ∃ g cap w3 o', (Builtin.append_ #[62, 62] 62 #[m.v3, .slice (some ⟨w.heap.size, 0, none⟩) 1 1]).run Tryz.prog (w.alloc (.cells #[lv] 45)) = .ok (.slice (some ⟨g, 0, none⟩) (k.mb.length + 1) cap) w3 ∧ Blk w3 B #[m.v0, m.v1, m.v2, m.v3, m.v4, .map (some r)] 65 ∧
      KlAt N B r X (w3.setCell ⟨B, 3, none⟩ (.slice (some ⟨g, 0, none⟩) (k.mb.length + 1) cap)) o' { k with mb := k.mb ++ [bs] } { m with v3 := .slice (some ⟨g, 0, none⟩) (k.mb.length + 1) cap, vm := m.vm ++ [lv] } ∧
      Fr (fun i => i = (6, 0) ∨ i = (1, 0) ∨ i = eX) o w o' (w3.setCell ⟨B, 3, none⟩ (.slice (some ⟨g, 0, none⟩) (k.mb.length + 1) cap)) ∧ (∀ b, b < w.heap.size → o b = eX → lv.ownBlock ≠ some b → (w3.setCell ⟨B, 3, none⟩ (.slice (some ⟨g, 0, none⟩) (k.mb.length + 1) cap)).heap[b]? = w.heap[b]? ∧ o' b = eX) := by
  have hll := h.l3
  obtain ⟨g, cap, w3, hr, ho, hf⟩ := app_cell (id := (6, 0)) Tryz.underlying62 Tryz.infoInts rfl (by decide) h.r3 h.nN (by omega) lv hone
  rw [hll] at hr ho hf
  have hB3 : Blk w3 B #[m.v0, m.v1, m.v2, m.v3, m.v4, .map (some r)] 65 := (hf.blk B h.box.lt (by rw [h.oB]; simp)).1.trans h.box
  have oB3 : upV o (.slice (some ⟨g, 0, none⟩) (k.mb.length + 1) cap) (6, 0) B = (1, 0) := (hf.blk B h.box.lt (by rw [h.oB]; simp)).2.trans h.oB
  have hf2 : Fr (fun i => i = (6, 0) ∨ i = (1, 0)) o w _ (w3.setCell ⟨B, 3, none⟩ (.slice (some ⟨g, 0, none⟩) (k.mb.length + 1) cap)) := (hf.mono fun i hi => Or.inl hi).trans ((fr_box oB3 3 _).mono fun i hi => Or.inr hi)
  have hlv := hv.fr hf2 (by simp)
  have hgb : g ≠ B := fun e => by
    have h1 := ho.2 g rfl
    have h2 := oB3
    rw [← e] at h2
    rw [h1] at h2
    cases h2
  have ho2 := ho.fr (fr_box (B := B) oB3 3 (.slice (some ⟨g, 0, none⟩) (k.mb.length + 1) cap)) (by simp)
  refine ⟨g, cap, w3, upV (upV o (.slice (some ⟨g, 0, none⟩) (k.mb.length + 1) cap) (6, 0)) lv (9, k.mb.length), hr, hB3, ?_, ?_, ?_⟩
  · have oth : ∀ {id : Oid} {T e : Nat} {v : Value} {n : Nat} {xs : List Value}, Rwo w N o id T e v n xs → id ≠ (6, 0) → id ≠ (1, 0) → id ≠ eX → Rwo (w3.setCell ⟨B, 3, none⟩ (.slice (some ⟨g, 0, none⟩) (k.mb.length + 1) cap)) N (upV (upV o (.slice (some ⟨g, 0, none⟩) (k.mb.length + 1) cap) (6, 0)) lv (9, k.mb.length)) id T e v n xs := fun hh h1 h2 h3 => (hh.fr hf2 (by rintro (e | e); exact h1 e; exact h2 e)).other hlv.2 h3
    have hbb := hB3.set 3 (.slice (some ⟨g, 0, none⟩) (k.mb.length + 1) cap)
    have notlv : ∀ b, b < w.heap.size → o b ≠ eX → lv.ownBlock ≠ some b := fun b hb hne e => hne (hv.2 b e)
    have hRr := hf2.blk r h.map.lt (by rw [h.oR]; simp)
    refine ⟨by simpa using hbb, h.map.kept hRr.1, h.nB, h.nr, Nat.le_trans h.nN hf2.size, ?_, ?_, oth h.r0 (by decide) (by decide) (by decide), h.ts, fun c hc => (h.tx c hc).kept fun b hb => (hf2.blk b (h.hX b hb).1 (by rw [(h.hX b hb).2]; simp)).1, fun b hb => ⟨Nat.lt_of_lt_of_le (h.hX b hb).1 hf2.size, ?_⟩, oth h.r1 (by decide) (by decide) (by decide), oth h.r2 (by decide) (by decide) (by decide), ho2.other hlv.2 (by decide), oth h.r4 (by decide) (by decide) (by decide), h.l1, by simp [hll], h.l4, fun i hi => oth (h.i1 i hi) (by simp) (by simp) (by simp), ?_, fun i hi => oth (h.i4 i hi) (by simp) (by simp) (by simp)⟩
    · rw [upV_no (notlv B h.box.lt (by rw [h.oB]; decide))]; exact oB3
    · rw [upV_no (notlv r h.map.lt (by rw [h.oR]; decide))]; exact hRr.2.trans h.oR
    · rw [upV_no (fun e => hnX b e hb)]; exact (hf2.blk b (h.hX b hb).1 (by rw [(h.hX b hb).2]; simp)).2.trans (h.hX b hb).2
    · intro i hi
      have hi : i < k.mb.length + 1 := by simpa using hi
      by_cases hin : i < k.mb.length
      · have e1 : gd (m.vm ++ [lv]) nV i = gd m.vm nV i := gd_app (by omega)
        have e2 : Kl.M { k with mb := k.mb ++ [bs] } i = k.M i := gd_app hin
        show Rwo _ N _ (9, i) 3 1 (gd (m.vm ++ [lv]) nV i) (iL (Kl.M { k with mb := k.mb ++ [bs] } i)).length (iL (Kl.M { k with mb := k.mb ++ [bs] } i))
        rw [e1, e2]
        exact oth (h.i3 i hin) (by simp) (by simp) (by simp)
      · have e : i = k.mb.length := by omega
        subst e
        have e1 : gd (m.vm ++ [lv]) nV k.mb.length = lv := gd_end2 hll
        have e2 : Kl.M { k with mb := k.mb ++ [bs] } k.mb.length = bs := gd_end
        show Rwo _ N _ (9, k.mb.length) 3 1 (gd (m.vm ++ [lv]) nV k.mb.length) (iL (Kl.M { k with mb := k.mb ++ [bs] } k.mb.length)).length (iL (Kl.M { k with mb := k.mb ++ [bs] } k.mb.length))
        rw [e1, e2]
        exact hlv.give
  · refine ⟨hf2.os, hf2.tape, hf2.output, hf2.size, fun b hb hn => ?_⟩
    obtain ⟨e1, e2⟩ := hf2.blk b hb fun g => hn (by rcases g with g | g; exact Or.inl g; exact Or.inr (Or.inl g))
    exact ⟨e1, by rw [upV_no (fun e => hn (Or.inr (Or.inr (hv.2 b e))))]; exact e2⟩
  · intro b hb he hne
    obtain ⟨e1, e2⟩ := hf2.blk b hb (by rw [he]; simp)
    exact ⟨e1, by rw [upV_no hne]; exact e2.trans he⟩
/-- One more row in ab. -/
theorem KlAt.push_ab {N B r : Nat} {X : Nat → Prop} {w : World} {o : Nat → Oid} {k : Kl} {m : Km} (h : KlAt N B r X w o k m) (hl : k.ab.length ≤ 1000000) (lv : Value) (bs : List Nat) (hv : Rwo w N o eX 3 1 lv (iL bs).length (iL bs)) (hnX : ∀ b, lv.ownBlock = some b → ¬ X b) (hone : lv.oneCell' = true) :
    ∃ g cap w3 o', (Builtin.append_ #[62, 62] 62 #[m.v4, .slice (some ⟨w.heap.size, 0, none⟩) 1 1]).run Tryz.prog (w.alloc (.cells #[lv] 45)) = .ok (.slice (some ⟨g, 0, none⟩) (k.ab.length + 1) cap) w3 ∧ Blk w3 B #[m.v0, m.v1, m.v2, m.v3, m.v4, .map (some r)] 65 ∧
      KlAt N B r X (w3.setCell ⟨B, 4, none⟩ (.slice (some ⟨g, 0, none⟩) (k.ab.length + 1) cap)) o' { k with ab := k.ab ++ [bs] } { m with v4 := .slice (some ⟨g, 0, none⟩) (k.ab.length + 1) cap, va := m.va ++ [lv] } ∧
      Fr (fun i => i = (7, 0) ∨ i = (1, 0) ∨ i = eX) o w o' (w3.setCell ⟨B, 4, none⟩ (.slice (some ⟨g, 0, none⟩) (k.ab.length + 1) cap)) ∧ (∀ b, b < w.heap.size → o b = eX → lv.ownBlock ≠ some b → (w3.setCell ⟨B, 4, none⟩ (.slice (some ⟨g, 0, none⟩) (k.ab.length + 1) cap)).heap[b]? = w.heap[b]? ∧ o' b = eX) := by
  have hll := h.l4
  obtain ⟨g, cap, w3, hr, ho, hf⟩ := app_cell (id := (7, 0)) Tryz.underlying62 Tryz.infoInts rfl (by decide) h.r4 h.nN (by omega) lv hone
  rw [hll] at hr ho hf
  have hB3 : Blk w3 B #[m.v0, m.v1, m.v2, m.v3, m.v4, .map (some r)] 65 := (hf.blk B h.box.lt (by rw [h.oB]; simp)).1.trans h.box
  have oB3 : upV o (.slice (some ⟨g, 0, none⟩) (k.ab.length + 1) cap) (7, 0) B = (1, 0) := (hf.blk B h.box.lt (by rw [h.oB]; simp)).2.trans h.oB
  have hf2 : Fr (fun i => i = (7, 0) ∨ i = (1, 0)) o w _ (w3.setCell ⟨B, 4, none⟩ (.slice (some ⟨g, 0, none⟩) (k.ab.length + 1) cap)) := (hf.mono fun i hi => Or.inl hi).trans ((fr_box oB3 4 _).mono fun i hi => Or.inr hi)
  have hlv := hv.fr hf2 (by simp)
  have hgb : g ≠ B := fun e => by
    have h1 := ho.2 g rfl
    have h2 := oB3
    rw [← e] at h2
    rw [h1] at h2
    cases h2
  have ho2 := ho.fr (fr_box (B := B) oB3 4 (.slice (some ⟨g, 0, none⟩) (k.ab.length + 1) cap)) (by simp)
  refine ⟨g, cap, w3, upV (upV o (.slice (some ⟨g, 0, none⟩) (k.ab.length + 1) cap) (7, 0)) lv (10, k.ab.length), hr, hB3, ?_, ?_, ?_⟩
  · have oth : ∀ {id : Oid} {T e : Nat} {v : Value} {n : Nat} {xs : List Value}, Rwo w N o id T e v n xs → id ≠ (7, 0) → id ≠ (1, 0) → id ≠ eX → Rwo (w3.setCell ⟨B, 4, none⟩ (.slice (some ⟨g, 0, none⟩) (k.ab.length + 1) cap)) N (upV (upV o (.slice (some ⟨g, 0, none⟩) (k.ab.length + 1) cap) (7, 0)) lv (10, k.ab.length)) id T e v n xs := fun hh h1 h2 h3 => (hh.fr hf2 (by rintro (e | e); exact h1 e; exact h2 e)).other hlv.2 h3
    have hbb := hB3.set 4 (.slice (some ⟨g, 0, none⟩) (k.ab.length + 1) cap)
    have notlv : ∀ b, b < w.heap.size → o b ≠ eX → lv.ownBlock ≠ some b := fun b hb hne e => hne (hv.2 b e)
    have hRr := hf2.blk r h.map.lt (by rw [h.oR]; simp)
    refine ⟨by simpa using hbb, h.map.kept hRr.1, h.nB, h.nr, Nat.le_trans h.nN hf2.size, ?_, ?_, oth h.r0 (by decide) (by decide) (by decide), h.ts, fun c hc => (h.tx c hc).kept fun b hb => (hf2.blk b (h.hX b hb).1 (by rw [(h.hX b hb).2]; simp)).1, fun b hb => ⟨Nat.lt_of_lt_of_le (h.hX b hb).1 hf2.size, ?_⟩, oth h.r1 (by decide) (by decide) (by decide), oth h.r2 (by decide) (by decide) (by decide), oth h.r3 (by decide) (by decide) (by decide), ho2.other hlv.2 (by decide), h.l1, h.l3, by simp [hll], fun i hi => oth (h.i1 i hi) (by simp) (by simp) (by simp), fun i hi => oth (h.i3 i hi) (by simp) (by simp) (by simp), ?_⟩
    · rw [upV_no (notlv B h.box.lt (by rw [h.oB]; decide))]; exact oB3
    · rw [upV_no (notlv r h.map.lt (by rw [h.oR]; decide))]; exact hRr.2.trans h.oR
    · rw [upV_no (fun e => hnX b e hb)]; exact (hf2.blk b (h.hX b hb).1 (by rw [(h.hX b hb).2]; simp)).2.trans (h.hX b hb).2
    · intro i hi
      have hi : i < k.ab.length + 1 := by simpa using hi
      by_cases hin : i < k.ab.length
      · have e1 : gd (m.va ++ [lv]) nV i = gd m.va nV i := gd_app (by omega)
        have e2 : Kl.A { k with ab := k.ab ++ [bs] } i = k.A i := gd_app hin
        show Rwo _ N _ (10, i) 3 1 (gd (m.va ++ [lv]) nV i) (iL (Kl.A { k with ab := k.ab ++ [bs] } i)).length (iL (Kl.A { k with ab := k.ab ++ [bs] } i))
        rw [e1, e2]
        exact oth (h.i4 i hin) (by simp) (by simp) (by simp)
      · have e : i = k.ab.length := by omega
        subst e
        have e1 : gd (m.va ++ [lv]) nV k.ab.length = lv := gd_end2 hll
        have e2 : Kl.A { k with ab := k.ab ++ [bs] } k.ab.length = bs := gd_end
        show Rwo _ N _ (10, k.ab.length) 3 1 (gd (m.va ++ [lv]) nV k.ab.length) (iL (Kl.A { k with ab := k.ab ++ [bs] } k.ab.length)).length (iL (Kl.A { k with ab := k.ab ++ [bs] } k.ab.length))
        rw [e1, e2]
        exact hlv.give
  · refine ⟨hf2.os, hf2.tape, hf2.output, hf2.size, fun b hb hn => ?_⟩
    obtain ⟨e1, e2⟩ := hf2.blk b hb fun g => hn (by rcases g with g | g; exact Or.inl g; exact Or.inr (Or.inl g))
    exact ⟨e1, by rw [upV_no (fun e => hn (Or.inr (Or.inr (hv.2 b e))))]; exact e2⟩
  · intro b hb he hne
    obtain ⟨e1, e2⟩ := hf2.blk b hb (by rw [he]; simp)
    exact ⟨e1, by rw [upV_no hne]; exact e2.trans he⟩
/-- One more class. -/
theorem KlAt.push_cl {N B r : Nat} {X : Nat → Prop} {w : World} {o : Nat → Oid} {k : Kl} {m : Km} (h : KlAt N B r X w o k m) (hl : k.cl.length ≤ 1000000) (x : Nat) :
    ∃ g cap w3 o', (Builtin.append_ #[45, 45] 45 #[m.v2, .slice (some ⟨w.heap.size, 0, none⟩) 1 1]).run Tryz.prog (w.alloc (.cells #[iV x] 3)) = .ok (.slice (some ⟨g, 0, none⟩) (k.cl.length + 1) cap) w3 ∧ Blk w3 B #[m.v0, m.v1, m.v2, m.v3, m.v4, .map (some r)] 65 ∧
      KlAt N B r X (w3.setCell ⟨B, 2, none⟩ (.slice (some ⟨g, 0, none⟩) (k.cl.length + 1) cap)) o' { k with cl := k.cl ++ [x] } { m with v2 := .slice (some ⟨g, 0, none⟩) (k.cl.length + 1) cap } ∧ Fr (fun i => i = (5, 0) ∨ i = (1, 0)) o w o' (w3.setCell ⟨B, 2, none⟩ (.slice (some ⟨g, 0, none⟩) (k.cl.length + 1) cap)) := by
  have hr2 := h.r2
  obtain ⟨g, cap, w3, hr, ho, hf⟩ := app_cell (id := (5, 0)) Tryz.underlying45 Tryz.infoInt rfl (by decide) hr2 h.nN (by rw [iL_len]; exact hl) (iV x) rfl
  rw [iL_len] at hr ho hf
  have hB3 : Blk w3 B #[m.v0, m.v1, m.v2, m.v3, m.v4, .map (some r)] 65 := (hf.blk B h.box.lt (by rw [h.oB]; simp)).1.trans h.box
  have oB3 : upV o (.slice (some ⟨g, 0, none⟩) (k.cl.length + 1) cap) (5, 0) B = (1, 0) := (hf.blk B h.box.lt (by rw [h.oB]; simp)).2.trans h.oB
  have hf2 : Fr (fun i => i = (5, 0) ∨ i = (1, 0)) o w _ (w3.setCell ⟨B, 2, none⟩ (.slice (some ⟨g, 0, none⟩) (k.cl.length + 1) cap)) := (hf.mono fun i hi => Or.inl hi).trans ((fr_box oB3 2 _).mono fun i hi => Or.inr hi)
  have ho2 := ho.fr (fr_box (B := B) oB3 2 (.slice (some ⟨g, 0, none⟩) (k.cl.length + 1) cap)) (by simp)
  have hbb := hB3.set 2 (.slice (some ⟨g, 0, none⟩) (k.cl.length + 1) cap)
  have hRr := hf2.blk r h.map.lt (by rw [h.oR]; simp)
  refine ⟨g, cap, w3, _, hr, hB3, ⟨by simpa using hbb, h.map.kept hRr.1, h.nB, h.nr, Nat.le_trans h.nN hf2.size, oB3, hRr.2.trans h.oR, h.r0.fr hf2 (by simp), h.ts, fun c hc => (h.tx c hc).kept fun b hb => (hf2.blk b (h.hX b hb).1 (by rw [(h.hX b hb).2]; simp)).1, fun b hb => ⟨Nat.lt_of_lt_of_le (h.hX b hb).1 hf2.size, (hf2.blk b (h.hX b hb).1 (by rw [(h.hX b hb).2]; simp)).2.trans (h.hX b hb).2⟩, h.r1.fr hf2 (by simp), ?_, h.r3.fr hf2 (by simp), h.r4.fr hf2 (by simp), h.l1, h.l3, h.l4, fun i hi => (h.i1 i hi).fr hf2 (by simp), fun i hi => (h.i3 i hi).fr hf2 (by simp), fun i hi => (h.i4 i hi).fr hf2 (by simp)⟩, hf2⟩
  have e : iL k.cl ++ [iV x] = iL (k.cl ++ [x]) := by simp [iL]
  rw [e] at ho2
  exact ho2
/-- A class is put. -/
theorem KlAt.put_cl {N B r : Nat} {X : Nat → Prop} {w : World} {o : Nat → Oid} {k : Kl} {m : Km} (h : KlAt N B r X w o k m) {g n c : Nat} (hv : m.v2 = .slice (some ⟨g, 0, none⟩) n c) (i x : Nat) :
    KlAt N B r X (w.setCell ⟨g, i, none⟩ (iV x)) o { k with cl := k.cl.set i x } m ∧ Fr (fun j => j = (5, 0)) o w o (w.setCell ⟨g, i, none⟩ (iV x)) := by
  have h2 := h.r2
  rw [hv] at h2
  have hn : n = (iL k.cl).length := by obtain ⟨a, c', e⟩ := h2.shape; cases e; rfl
  subst hn
  obtain ⟨h3, hf⟩ := h2.put i (iV x)
  have e : (iL k.cl).set i (iV x) = iL (k.cl.set i x) := by simp [iL, List.map_set]
  have e2 : (iL k.cl).length = (iL (k.cl.set i x)).length := by simp [iL]
  refine ⟨⟨(hf.blk B h.box.lt (by rw [h.oB]; simp)).1.trans h.box, h.map.kept (hf.blk r h.map.lt (by rw [h.oR]; simp)).1, h.nB, h.nr, Nat.le_trans h.nN hf.size, h.oB, h.oR, h.r0.fr hf (by simp), h.ts, fun c hc => (h.tx c hc).kept fun b hb => (hf.blk b (h.hX b hb).1 (by rw [(h.hX b hb).2]; simp)).1, fun b hb => ⟨Nat.lt_of_lt_of_le (h.hX b hb).1 hf.size, (h.hX b hb).2⟩, h.r1.fr hf (by simp), ?_, h.r3.fr hf (by simp), h.r4.fr hf (by simp), h.l1, h.l3, h.l4, fun i hi => (h.i1 i hi).fr hf (by simp), fun i hi => (h.i3 i hi).fr hf (by simp), fun i hi => (h.i4 i hi).fr hf (by simp)⟩, hf⟩
  rw [hv]
  rw [e] at h3
  show Rwo _ N o (5, 0) 3 1 _ (iL (k.cl.set i x)).length (iL (k.cl.set i x))
  rw [← e2]
  exact h3
theorem sgG_get : ∀ (l : List (ByteArray × Nat)) (n : ByteArray), mapGet (sgV l) n = (sgG l n).map iV
  | [], n => rfl
  | p :: q, n => by
    unfold sgV sgG
    rw [List.map_cons, mapGet]
    by_cases h : p.1 = n
    · rw [if_pos h, if_pos h]; rfl
    · rw [if_neg h, if_neg h]; exact sgG_get q n
/-- A sign more. -/
theorem KlAt.push_sg {N B r : Nat} {X : Nat → Prop} {w : World} {o : Nat → Oid} {k : Kl} {m : Km} (h : KlAt N B r X w o k m) (s : ByteArray) (x : Nat) (hs : sgG k.sg s = none) :
    ∃ w1, (Instr.mapUpdate 63 (.map (some r)) (.string s) (iV x)).run Tryz.prog w = .ok () w1 ∧ KlAt N B r X w1 o { k with sg := k.sg ++ [(s, x)] } m ∧ Fr (fun i => i = (2, 0)) o w o w1 := by
  have hg : mapGet (sgV k.sg) s = none := by rw [sgG_get, hs]; rfl
  obtain ⟨w1, hr, hm, hz, ho, ht, hu, hk⟩ := run_put (P := Tryz.prog) Tryz.underlying63 Tryz.underlying9 h.map s (iV x) hg
  have hf : Fr (fun i => i = (2, 0)) o w o w1 := ⟨ho, ht, hu, by omega, fun b hb hn => ⟨hk b (fun e => hn (by rw [e]; exact h.oR)), rfl⟩⟩
  refine ⟨w1, hr, ⟨(hf.blk B h.box.lt (by rw [h.oB]; simp)).1.trans h.box, ?_, h.nB, h.nr, Nat.le_trans h.nN hf.size, h.oB, h.oR, h.r0.fr hf (by simp), h.ts, fun c hc => (h.tx c hc).kept fun b hb => (hf.blk b (h.hX b hb).1 (by rw [(h.hX b hb).2]; simp)).1, fun b hb => ⟨Nat.lt_of_lt_of_le (h.hX b hb).1 hf.size, (h.hX b hb).2⟩, h.r1.fr hf (by simp), h.r2.fr hf (by simp), h.r3.fr hf (by simp), h.r4.fr hf (by simp), h.l1, h.l3, h.l4, fun i hi => (h.i1 i hi).fr hf (by simp), fun i hi => (h.i3 i hi).fr hf (by simp), fun i hi => (h.i4 i hi).fr hf (by simp)⟩, hf⟩
  have e : sgV (k.sg ++ [(s, x)]) = sgV k.sg ++ [(s, iV x)] := by simp [sgV]
  show MapAt w1 r (sgV (k.sg ++ [(s, x)]))
  rw [e]
  exact hm
end Go.Proofs.YtdmaijmglblccaaGreatDoor
