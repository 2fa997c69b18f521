/- Several texts in one. -/
import Derived.WalkKit
import Derived.WalkSpells
import Derived.WalkLawsBesides
import Derived.Test.YtdencaekailmcaaRows
import Derived.BigQuiet
import Derived.Deep.AppendLies
import Derived.Deep.AppendSrc
import Derived.Laws.BitsAllLaws
import Derived.Deep.DeepCutAuto
import Derived.Deep.RegionHeld
import Derived.Deep.RegionHeld3
import Derived.Laws.OwnMore
/- The tree that a term is, and how it lies in memory: plain mathematics of terms, and what stays where it was. -/
namespace Go.Proofs.Ytdencaekailmcaa
open Go.RowKit

/-- Kept from the walk. -/
theorem hide {p : Prop} (h : p) : Hid p := h

/-- A term as a tree. -/
structure Tm where
  name : ByteArray
  args : List Tm

theorem Tm.ind {P : Tm → Prop} (h : ∀ s l, (∀ x ∈ l, P x) → P ⟨s, l⟩) (t : Tm) : P t :=
  Tm.rec (motive_1 := P) (motive_2 := fun l => ∀ x ∈ l, P x) (fun s l ih => h s l ih) (fun x hx => by cases hx)
    (fun a l ha hl x hx => by
      rcases List.mem_cons.1 hx with e | e
      · subst e; exact ha
      · exact hl x e) t

theorem Tm.indL {P : List Tm → Prop} (h0 : P []) (h : ∀ s l r, P l → P r → P (⟨s, l⟩ :: r)) (l : List Tm) : P l :=
  Tm.rec_1 (motive_1 := fun t => P t.args) (motive_2 := P) (fun _ _ ih => ih) h0 (fun a l ha hl => by obtain ⟨s, k⟩ := a; exact h s k l ha hl) l

/-- The knots of a list of terms. -/
def sizeL : List Tm → Nat
  | [] => 0
  | ⟨_, l⟩ :: r => 1 + sizeL l + sizeL r

theorem sizeL_append (a b : List Tm) : sizeL (a ++ b) = sizeL a + sizeL b := by
  induction a with
  | nil => simp [sizeL]
  | cons t r ih => obtain ⟨s, l⟩ := t; simp only [List.cons_append, sizeL, ih]; omega

/-- A list of terms lies in a row of cells, two a term, in blocks that X lets. -/
def Lies (w : World) (X : Nat → Prop) : Nat → Nat → List Tm → Prop
  | _, _, [] => True
  | b, o, ⟨s, l⟩ :: r => X b ∧ w.cell? ⟨b, o, none⟩ = some (.string s) ∧
      (∃ a c, w.cell? ⟨b, o + 1, none⟩ = some (.slice a l.length c) ∧ l.length ≤ 9223372036854775807 ∧ (l = [] ∨ ∃ b' o', a = some ⟨b', o', none⟩ ∧ Lies w X b' o' l)) ∧ Lies w X b (o + 2) r

/-- What a slice of terms holds. -/
def Sl (w : World) (X : Nat → Prop) (a : Option Addr) (l : List Tm) : Prop := l.length ≤ 9223372036854775807 ∧ (l = [] ∨ ∃ b o, a = some ⟨b, o, none⟩ ∧ Lies w X b o l)

/-- What a term's value holds. -/
def TV (w : World) (X : Nat → Prop) (v : Value) (t : Tm) : Prop := ∃ a c, v = .agg #[.string t.name, .slice a t.args.length c] ∧ Sl w X a t.args

theorem lies_kept {w w' : World} {X : Nat → Prop} (h : ∀ b, X b → w'.heap[b]? = w.heap[b]?) (l : List Tm) : ∀ b o, Lies w X b o l → Lies w' X b o l := by
  induction l using Tm.indL with
  | h0 => intro b o _; simp [Lies]
  | h s l r ihl ihr =>
    intro b o hl
    simp only [Lies] at hl ⊢
    obtain ⟨hx, h1, ⟨a, c, h2, h2', h3⟩, h4⟩ := hl
    refine ⟨hx, by rw [World.cell?_of_block (h b hx)]; exact h1, ⟨a, c, by rw [World.cell?_of_block (h b hx)]; exact h2, h2', ?_⟩, ihr _ _ h4⟩
    rcases h3 with h3 | ⟨b', o', h3, h5⟩
    · exact Or.inl h3
    · exact Or.inr ⟨b', o', h3, ihl _ _ h5⟩

theorem lies_mono {w : World} {X Y : Nat → Prop} (h : ∀ b, X b → b < w.heap.size → Y b) (l : List Tm) : ∀ b o, Lies w X b o l → Lies w Y b o l := by
  induction l using Tm.indL with
  | h0 => intro b o _; simp [Lies]
  | h s l r ihl ihr =>
    intro b o hl
    simp only [Lies] at hl ⊢
    obtain ⟨hx, h1, ⟨a, c, h2, h2', h3⟩, h4⟩ := hl
    have hb : b < w.heap.size := by
      apply Classical.byContradiction
      intro hn
      have e : w.heap[b]? = none := Array.getElem?_eq_none (by omega)
      simp [World.cell?, e] at h1
    refine ⟨h b hx hb, h1, ⟨a, c, h2, h2', ?_⟩, ihr _ _ h4⟩
    rcases h3 with h3 | ⟨b', o', h3, h5⟩
    · exact Or.inl h3
    · exact Or.inr ⟨b', o', h3, ihl _ _ h5⟩

theorem Sl.kept {w w' : World} {X : Nat → Prop} {a : Option Addr} {l : List Tm} (h : Sl w X a l) (hk : ∀ b, X b → w'.heap[b]? = w.heap[b]?) : Sl w' X a l := by
  obtain ⟨hl, h⟩ := h
  refine ⟨hl, ?_⟩
  rcases h with h | ⟨b, o, e, h⟩
  · exact Or.inl h
  · exact Or.inr ⟨b, o, e, lies_kept hk _ _ _ h⟩

theorem Sl.mono {w : World} {X Y : Nat → Prop} {a : Option Addr} {l : List Tm} (h : Sl w X a l) (hk : ∀ b, X b → b < w.heap.size → Y b) : Sl w Y a l := by
  obtain ⟨hl, h⟩ := h
  refine ⟨hl, ?_⟩
  rcases h with h | ⟨b, o, e, h⟩
  · exact Or.inl h
  · exact Or.inr ⟨b, o, e, lies_mono hk _ _ _ h⟩

theorem Sl.below {w w' : World} {X : Nat → Prop} {a : Option Addr} {l : List Tm} {B : Nat} (h : Sl w X a l) (hb : Below B w w') (hX : ∀ b, X b → b < w.heap.size → b < B) : Sl w' X a l := by
  have h1 : Sl w (fun b => X b ∧ b < B) a l := h.mono fun b hx hs => ⟨hx, hX b hx hs⟩
  have h2 : Sl w' (fun b => X b ∧ b < B) a l := h1.kept fun b hx => hb.block b hx.2
  exact h2.mono fun b hx _ => hx.1

theorem TV.kept {w w' : World} {X : Nat → Prop} {v : Value} {t : Tm} (h : TV w X v t) (hk : ∀ b, X b → w'.heap[b]? = w.heap[b]?) : TV w' X v t := by
  obtain ⟨a, c, e, h⟩ := h
  exact ⟨a, c, e, h.kept hk⟩

theorem TV.mono {w : World} {X Y : Nat → Prop} {v : Value} {t : Tm} (h : TV w X v t) (hk : ∀ b, X b → b < w.heap.size → Y b) : TV w Y v t := by
  obtain ⟨a, c, e, h⟩ := h
  exact ⟨a, c, e, h.mono hk⟩

theorem TV.below {w w' : World} {X : Nat → Prop} {v : Value} {t : Tm} {B : Nat} (h : TV w X v t) (hb : Below B w w') (hX : ∀ b, X b → b < w.heap.size → b < B) : TV w' X v t := by
  obtain ⟨a, c, e, h⟩ := h
  exact ⟨a, c, e, h.below hb hX⟩

theorem TV.alloc {w : World} {X : Nat → Prop} {v : Value} {t : Tm} (h : TV w X v t) (o : Obj) : TV (w.alloc o) X v t :=
  h.below ((Below.refl _ _).alloc (Nat.le_refl _) o) (fun _ _ h => h)

theorem TV.later {w w' : World} {X : Nat → Prop} {v : Value} {t : Tm} (h : TV w X v t) (hb : Below w.heap.size w w') : TV w' X v t := h.below hb (fun _ _ h => h)

theorem Sl.later {w w' : World} {X : Nat → Prop} {a : Option Addr} {l : List Tm} (h : Sl w X a l) (hb : Below w.heap.size w w') : Sl w' X a l := h.below hb (fun _ _ h => h)

/-- One of a row. -/
theorem lies_get {w : World} {X : Nat → Prop} : ∀ (l : List Tm) (b o : Nat), Lies w X b o l → ∀ i (h : i < l.length),
    X b ∧ w.cell? ⟨b, o + i * 2, none⟩ = some (.string l[i].name) ∧ ∃ a c, w.cell? ⟨b, o + i * 2 + 1, none⟩ = some (.slice a l[i].args.length c) ∧ Sl w X a l[i].args := by
  intro l
  induction l with
  | nil => intro b o _ i h; simp at h
  | cons t r ih =>
    intro b o hl i h
    obtain ⟨s, k⟩ := t
    simp only [Lies] at hl
    obtain ⟨hx, h1, ⟨a, c, h2, h3⟩, h4⟩ := hl
    cases i with
    | zero => exact ⟨hx, h1, a, c, h2, h3⟩
    | succ i =>
      have := ih b (o + 2) h4 i (by simpa using h)
      simp only [List.getElem_cons_succ]
      rw [show o + (i + 1) * 2 = o + 2 + i * 2 by omega]
      exact this

theorem lies_mk {w : World} {X : Nat → Prop} : ∀ (l : List Tm) (b o : Nat), (∀ i (h : i < l.length),
    X b ∧ w.cell? ⟨b, o + i * 2, none⟩ = some (.string l[i].name) ∧ ∃ a c, w.cell? ⟨b, o + i * 2 + 1, none⟩ = some (.slice a l[i].args.length c) ∧ Sl w X a l[i].args) → Lies w X b o l := by
  intro l
  induction l with
  | nil => intro b o _; simp [Lies]
  | cons t r ih =>
    intro b o hl
    obtain ⟨s, k⟩ := t
    simp only [Lies]
    obtain ⟨hx, h1, a, c, h2, h3⟩ := hl 0 (by simp)
    refine ⟨hx, h1, ⟨a, c, h2, h3⟩, ih b (o + 2) fun i h => ?_⟩
    have := hl (i + 1) (by simpa using h)
    simp only [List.getElem_cons_succ] at this
    rw [show o + (i + 1) * 2 = o + 2 + i * 2 by omega] at this
    exact this

/-- One of a slice, in a later world. -/
theorem Sl.get {w wr : World} {X : Nat → Prop} {a : Option Addr} {l : List Tm} {B : Nat} (h : Sl w X a l) (hb : Below B w wr) (hX : ∀ b, X b → b < w.heap.size → b < B) (k : Nat) (hk : k < l.length) :
    ∃ b o a' c', a = some ⟨b, o, none⟩ ∧ wr.cell? ⟨b, o + k * 2, none⟩ = some (.string l[k].name) ∧ wr.cell? ⟨b, o + k * 2 + 1, none⟩ = some (.slice a' l[k].args.length c') ∧ TV wr X (.agg #[.string l[k].name, .slice a' l[k].args.length c']) l[k] := by
  have h' := h.below hb hX
  obtain ⟨_, h1⟩ := h'
  rcases h1 with h1 | ⟨b, o, e, h1⟩
  · subst h1; simp at hk
  · obtain ⟨_, h2, a', c', h3, h4⟩ := lies_get _ _ _ h1 k hk
    exact ⟨b, o, a', c', e, h2, h3, a', c', rfl, h4⟩

end Go.Proofs.Ytdencaekailmcaa

/- Walks: letters, digits, names. -/
namespace Go.Proofs.Ytdencaekailmcaa
open Go.RowKit
set_option linter.unusedSimpArgs false
set_option linter.unusedVariables false

def digB (n : Int) : Bool := decide (48 ≤ n) && decide (n ≤ 57)
def capB (n : Int) : Bool := decide (65 ≤ n) && decide (n ≤ 90)
def lowB (n : Int) : Bool := decide (97 ≤ n) && decide (n ≤ 122)
def letB (n : Int) : Bool := lowB n || capB n
def alnB (n : Int) : Bool := letB n || digB n

theorem ret_bool {a b : Bool} (h : a = b) : Ending.returned (.bool a) = .returned (.bool b) := by rw [h]

set_option maxHeartbeats 400000 in
theorem isDigit_any (n : Int) (w : World) : Calls Try.prog 58 #[.int .u8 n] w fun e w' => e = .returned (.bool (digB n)) ∧ w' = w := by
  go_enter Try.func58, Try.ntmps58
  go_wp2_with fail
  all_goals (go_ret; refine ⟨ret_bool ?_, rfl⟩; rw [Bool.eq_iff_iff]; simp [alnB, letB, lowB, capB, digB] <;> omega)

set_option maxHeartbeats 400000 in
theorem isCapital_any (n : Int) (w : World) : Calls Try.prog 54 #[.int .u8 n] w fun e w' => e = .returned (.bool (capB n)) ∧ w' = w := by
  go_enter Try.func54, Try.ntmps54
  go_wp2_with fail
  all_goals (go_ret; refine ⟨ret_bool ?_, rfl⟩; rw [Bool.eq_iff_iff]; simp [alnB, letB, lowB, capB, digB] <;> omega)

set_option maxHeartbeats 400000 in
theorem isLetter_any (n : Int) (w : World) : Calls Try.prog 59 #[.int .u8 n] w fun e w' => e = .returned (.bool (letB n)) ∧ w' = w := by
  go_enter Try.func59, Try.ntmps59
  go_wp2_with (go_at_call 54; refine (isCapital_any _ _).mono ?_; rintro e w' ⟨rfl, rfl⟩)
  all_goals (go_ret; refine ⟨ret_bool ?_, rfl⟩; rw [Bool.eq_iff_iff]; simp [alnB, letB, lowB, capB, digB] <;> omega)

end Go.Proofs.Ytdencaekailmcaa

/- Walks: which texts are names, and which of them are variables'. -/
namespace Go.Proofs.Ytdencaekailmcaa
open Go.RowKit
set_option linter.unusedSimpArgs false
set_option linter.unusedVariables false

def byteAt (s : ByteArray) (i : Nat) : Int := if h : i < s.size then (s[i].toNat : Int) else 0
theorem byteAt_of {s : ByteArray} {i : Nat} (h : i < s.size) : (s[i].toNat : Int) = byteAt s i := by simp [byteAt, h]
def varB (s : ByteArray) : Bool := capB (byteAt s 0)
def alnTo (s : ByteArray) (k : Nat) : Bool := (List.range k).all fun i => alnB (byteAt s i)
def nameB (s : ByteArray) : Bool := decide (1 ≤ s.size) && decide (s.size ≤ 8) && !digB (byteAt s 0) && alnTo s s.size

theorem isEmpty_pos {s : ByteArray} (h : 0 < s.size) : s.toList.isEmpty = false := by
  rw [ByteArray.toList_eq, List.isEmpty_eq_false_iff, ← List.length_pos_iff]
  simpa using h
theorem isEmpty_zero {s : ByteArray} (h : ¬ 0 < s.size) : s.toList.isEmpty = true := by
  rw [ByteArray.toList_eq, List.isEmpty_iff, ← List.length_eq_zero_iff]
  have : s.size = 0 := by omega
  simpa using this
theorem alnTo_succ (s : ByteArray) (k : Nat) : alnTo s (k + 1) = (alnTo s k && alnB (byteAt s k)) := by
  simp [alnTo, List.range_succ, List.all_append]
theorem alnTo_false {s : ByteArray} {k n : Nat} (h : k ≤ n) (hf : alnTo s k = false) : alnTo s n = false := by
  cases hn : alnTo s n with
  | false => rfl
  | true =>
    rw [← hf]; symm
    unfold alnTo at hn ⊢
    rw [List.all_eq_true] at hn ⊢
    intro x hx; exact hn x (by rw [List.mem_range] at hx ⊢; omega)
set_option maxHeartbeats 400000 in
theorem isVariable_all (s : ByteArray) (w : World) : Calls Try.prog 46 #[.string s] w fun e w' => e = .returned (.bool (varB s)) ∧ w' = w := by
  by_cases h : 0 < s.size
  · have hb := hide (byteAt_of h)
    have he := isEmpty_pos h
    go_enter Try.func46, Try.ntmps46
    go_wp2_with (go_at_call 54; refine (isCapital_any _ _).mono ?_; rintro e w' ⟨rfl, rfl⟩)
    go_ret
    refine ⟨ret_bool ?_, rfl⟩
    rw [hb.out]; rfl
  · have he := isEmpty_zero h
    have hv : Hid (false = varB s) := by simp [Hid, varB, byteAt, h, capB]
    go_enter Try.func46, Try.ntmps46
    go_wp2_with fail
    go_ret
    exact ⟨ret_bool hv.out, rfl⟩
theorem isVariable_any (s : ByteArray) (w : World) (h : 0 < s.size) : Calls Try.prog 46 #[.string s] w fun e w' => e = .returned (.bool (varB s)) ∧ w' = w := isVariable_all s w

theorem nameB_no {s : ByteArray} {k : Nat} (hk : k < s.size) (h : alnB (byteAt s k) = false) : nameB s = false := by
  have h1 : alnTo s (k + 1) = false := by rw [alnTo_succ, h]; simp
  have h2 := alnTo_false (n := s.size) (by omega) h1
  simp [nameB, h2]

set_option maxHeartbeats 400000 in
theorem isName_any (s : ByteArray) (w : World) : Calls Try.prog 51 #[.string s] w fun e w' => e = .returned (.bool (nameB s)) ∧ w' = w := by
  by_cases h0 : s.size < 1
  · have hn : Hid (false = nameB s) := by simp [Hid, nameB]; omega
    go_enter Try.func51, Try.ntmps51
    go_wp2_with fail
    go_ret
    exact ⟨ret_bool hn.out, rfl⟩
  · by_cases h8 : 8 < s.size
    · have hn : Hid (false = nameB s) := by simp [Hid, nameB]; omega
      go_enter Try.func51, Try.ntmps51
      go_wp2_with fail
      all_goals (go_ret; exact ⟨ret_bool hn.out, rfl⟩)
    · have hb := hide (byteAt_of (s := s) (i := 0) (by omega))
      by_cases hd : digB (byteAt s 0) = true
      · have hn : Hid (false = nameB s) := by simp [Hid, nameB, hd]
        have hd' := hide hd
        clear hd
        go_enter Try.func51, Try.ntmps51
        go_wp2_with (go_at_call 58; refine (isDigit_any _ _).mono ?_; rintro e w' ⟨rfl, rfl⟩; rw [hb.out, hd'.out])
        all_goals (go_ret; exact ⟨ret_bool hn.out, rfl⟩)
      · have hd' : Hid (digB (byteAt s 0) = false) := by simpa [Hid] using hd
        clear hd
        go_enter Try.func51, Try.ntmps51
        go_wp2_with (go_at_call 58; refine (isDigit_any _ _).mono ?_; rintro e w' ⟨rfl, rfl⟩; rw [hb.out, hd'.out])
        go_loop [19] (fun i => ∃ k : Nat, k ≤ s.size ∧ i = .int .i64 k ∧ alnTo s k = true) (fun i => s.size - (intOf i).toNat)
        case atStart => exact ⟨0, Nat.zero_le _, rfl, rfl⟩
        case round =>
          obtain ⟨k, hk, rfl, ha⟩ := hrel
          have HA := hide ha
          clear ha
          by_cases hlt : k < s.size
          · have hbk := hide (byteAt_of hlt)
            have hsuc := hide (alnTo_succ s k)
            cases hl : letB (byteAt s k) with
            | true =>
              have HL := hide hl
              clear hl
              go_wp2_with (go_at_call 59; refine (isLetter_any _ _).mono ?_; rintro e w' ⟨rfl, rfl⟩; rw [hbk.out, HL.out])
              go_round
              case rel => exact ⟨k + 1, by omega, by go_num, by rw [hsuc.out, HA.out, alnB, HL.out]; rfl⟩
              case measure => simp [intOf]; omega
            | false =>
              have HL := hide hl
              clear hl
              cases hg : digB (byteAt s k) with
              | true =>
                have HG := hide hg
                clear hg
                go_wp2_with (first | (go_at_call 59; refine (isLetter_any _ _).mono ?_; rintro e w' ⟨rfl, rfl⟩; rw [hbk.out, HL.out]) | (go_at_call 58; refine (isDigit_any _ _).mono ?_; rintro e w' ⟨rfl, rfl⟩; rw [hbk.out, HG.out]))
                go_round
                case rel => exact ⟨k + 1, by omega, by go_num, by rw [hsuc.out, HA.out, alnB, HL.out, HG.out]; rfl⟩
                case measure => simp [intOf]; omega
              | false =>
                have HG := hide hg
                clear hg
                go_wp2_with (first | (go_at_call 59; refine (isLetter_any _ _).mono ?_; rintro e w' ⟨rfl, rfl⟩; rw [hbk.out, HL.out]) | (go_at_call 58; refine (isDigit_any _ _).mono ?_; rintro e w' ⟨rfl, rfl⟩; rw [hbk.out, HG.out]))
                go_ret
                exact ⟨ret_bool (nameB_no hlt (by rw [alnB, HL.out, HG.out]; rfl)).symm, rfl⟩
          · have hn : Hid (true = nameB s) := by
              have e : k = s.size := by omega
              have := HA.out
              rw [e] at this
              simp [Hid, nameB, this, hd'.out]; omega
            go_wp2_with fail
            go_ret
            exact ⟨ret_bool hn.out, rfl⟩

end Go.Proofs.Ytdencaekailmcaa

/- Plain: automata on terms: both at once, one beside the other. -/
namespace Go.Proofs.Ytdencaekailmcaa
open Go.RowKit
set_option linter.unusedSimpArgs false
set_option linter.unusedVariables false
set_option maxRecDepth 8000

/-- A move, an automaton. -/
structure Mv where
  name : ByteArray
  frm : List Int
  to : Int
structure Au where
  st : Int
  mv : List Mv
  la : List Int

/-- What is wrong with it. -/
def okSt (n : Int) (l : List Int) : Bool := l.all fun s => decide (0 ≤ s) && decide (s < n)
def mvE (n : Int) (m : Mv) : Int := if (nameB m.name && !varB m.name) = true then (if 4 < m.frm.length then 3 else if (okSt n m.frm && okSt n [m.to]) = true then 0 else 10) else 1
def mvsE (n : Int) : List Mv → Int
  | [] => 0
  | m :: r => if mvE n m = 0 then mvsE n r else mvE n m
def auE (S M : Nat) (A : Au) : Int := if A.st < 0 ∨ (S : Int) < A.st ∨ M < A.mv.length then 3 else if mvsE A.st A.mv = 0 then (if okSt A.st A.la = true then 0 else 10) else mvsE A.st A.mv

theorem okSt_mem {n : Int} {l : List Int} (h : okSt n l = true) : ∀ s ∈ l, 0 ≤ s ∧ s < n := by
  intro s hs
  unfold okSt at h
  rw [List.all_eq_true] at h
  have := h s hs
  simp at this
  exact this
theorem okSt_of {n : Int} {l : List Int} (h : ∀ s ∈ l, 0 ≤ s ∧ s < n) : okSt n l = true := by
  unfold okSt
  rw [List.all_eq_true]
  intro s hs
  have := h s hs
  simp
  exact this
/-- What a move is that may be. -/
structure OkMv (n : Int) (m : Mv) : Prop where
  nm : (nameB m.name && !varB m.name) = true
  len : m.frm.length ≤ 4
  frm : ∀ s ∈ m.frm, 0 ≤ s ∧ s < n
  to : 0 ≤ m.to ∧ m.to < n
theorem mvE_zero {n : Int} {m : Mv} : mvE n m = 0 ↔ OkMv n m := by
  unfold mvE
  constructor
  · intro h
    by_cases h1 : (nameB m.name && !varB m.name) = true
    · rw [if_pos h1] at h
      by_cases h2 : 4 < m.frm.length
      · rw [if_pos h2] at h; cases h
      · rw [if_neg h2] at h
        by_cases h3 : (okSt n m.frm && okSt n [m.to]) = true
        · rw [Bool.and_eq_true] at h3
          exact ⟨h1, by omega, okSt_mem h3.1, okSt_mem h3.2 _ (by simp)⟩
        · rw [if_neg h3] at h; cases h
    · rw [if_neg h1] at h; cases h
  · intro h
    rw [if_pos h.nm, if_neg (by have := h.len; omega), if_pos]
    rw [Bool.and_eq_true]
    exact ⟨okSt_of h.frm, okSt_of fun s hs => by simp at hs; subst hs; exact h.to⟩
theorem mvsE_zero {n : Int} : ∀ {l : List Mv}, mvsE n l = 0 ↔ ∀ m ∈ l, OkMv n m
  | [] => by simp [mvsE]
  | m :: r => by
    unfold mvsE
    by_cases h : mvE n m = 0
    · rw [if_pos h, mvsE_zero]
      constructor
      · intro h2 x hx
        rcases List.mem_cons.1 hx with rfl | hx
        · exact mvE_zero.1 h
        · exact h2 x hx
      · exact fun h2 x hx => h2 x (List.mem_cons_of_mem _ hx)
    · rw [if_neg h]
      constructor
      · intro h2; exact absurd h2 h
      · intro h2; exact absurd (mvE_zero.2 (h2 m (by simp))) h
structure OkAu (S M : Nat) (A : Au) : Prop where
  pos : 0 ≤ A.st
  st : A.st ≤ S
  len : A.mv.length ≤ M
  mv : ∀ m ∈ A.mv, OkMv A.st m
  la : ∀ s ∈ A.la, 0 ≤ s ∧ s < A.st
theorem auE_zero {S M : Nat} {A : Au} : auE S M A = 0 ↔ OkAu S M A := by
  unfold auE
  constructor
  · intro h
    by_cases h1 : A.st < 0 ∨ (S : Int) < A.st ∨ M < A.mv.length
    · rw [if_pos h1] at h; cases h
    · rw [if_neg h1] at h
      by_cases h2 : mvsE A.st A.mv = 0
      · rw [if_pos h2] at h
        by_cases h3 : okSt A.st A.la = true
        · exact ⟨by omega, by omega, by omega, mvsE_zero.1 h2, okSt_mem h3⟩
        · rw [if_neg h3] at h; cases h
      · rw [if_neg h2] at h; exact absurd h h2
  · intro h
    have := h.pos; have := h.st; have := h.len
    rw [if_neg (by omega), if_pos (mvsE_zero.2 h.mv), if_pos (okSt_of h.la)]

/-- Where a term may end. -/
def bitAt (l : List Bool) (i : Int) : Bool := (l[i.toNat]?).getD false
def goB : List (List Bool) → List Int → Bool
  | b :: bs, i :: is => bitAt b i && goB bs is
  | _, _ => true
def mvB (name : ByteArray) (below : List (List Bool)) (m : Mv) : Bool := decide (m.name = name) && decide (m.frm.length = below.length) && goB below m.frm
def endB (ms : List Mv) (name : ByteArray) (below : List (List Bool)) (s : Nat) : Bool := ms.any fun m => mvB name below m && decide (m.to = (s : Int))
def edgT (ms : List Mv) (n : Nat) (name : ByteArray) (below : List (List Bool)) : List Bool := (List.range n).map (endB ms name below)
def endsL (ms : List Mv) (n : Nat) : List Tm → List (List Bool)
  | [] => []
  | ⟨s, l⟩ :: r => edgT ms n s (endsL ms n l) :: endsL ms n r
def lasB (A : Au) (l : List Bool) : Bool := A.la.any fun i => bitAt l i
def endT (A : Au) (t : Tm) : List Bool := edgT A.mv A.st.toNat t.name (endsL A.mv A.st.toNat t.args)
def accB (A : Au) (t : Tm) : Bool := lasB A (endT A t)

theorem edgT_len (ms : List Mv) (n : Nat) (s : ByteArray) (b : List (List Bool)) : (edgT ms n s b).length = n := by simp [edgT]
theorem bit_edg {ms : List Mv} {n : Nat} {name : ByteArray} {below : List (List Bool)} {s : Nat} (h : s < n) : bitAt (edgT ms n name below) (s : Int) = endB ms name below s := by
  unfold bitAt edgT
  rw [Int.toNat_natCast, List.getElem?_map, List.getElem?_range h]
  rfl
theorem endsL_len (ms : List Mv) (n : Nat) : ∀ l : List Tm, (endsL ms n l).length = l.length
  | [] => by simp [endsL]
  | ⟨s, l⟩ :: r => by simp only [endsL, List.length_cons, endsL_len ms n r]
theorem endsL_map (ms : List Mv) (n : Nat) : ∀ l : List Tm, endsL ms n l = l.map fun t => edgT ms n t.name (endsL ms n t.args)
  | [] => by simp [endsL]
  | ⟨s, l⟩ :: r => by rw [endsL, List.map_cons, endsL_map ms n r]
theorem endB_iff {ms : List Mv} {name : ByteArray} {below : List (List Bool)} {s : Nat} : endB ms name below s = true ↔ ∃ m ∈ ms, mvB name below m = true ∧ m.to = (s : Int) := by
  unfold endB
  rw [List.any_eq_true]
  constructor
  · rintro ⟨m, h1, h2⟩
    rw [Bool.and_eq_true, decide_eq_true_eq] at h2
    exact ⟨m, h1, h2⟩
  · rintro ⟨m, h1, h2⟩
    exact ⟨m, h1, by rw [Bool.and_eq_true, decide_eq_true_eq]; exact h2⟩
/-- The last states, each once. -/
def lastO (A : Au) : List Int := ((List.range A.st.toNat).filter fun (s : Nat) => decide ((s : Int) ∈ A.la)).map fun (s : Nat) => (s : Int)
theorem lastO_mem {A : Au} (h : ∀ s ∈ A.la, 0 ≤ s ∧ s < A.st) (s : Int) : s ∈ lastO A ↔ s ∈ A.la := by
  unfold lastO
  simp only [List.mem_map, List.mem_filter, List.mem_range, decide_eq_true_eq]
  constructor
  · rintro ⟨k, ⟨_, h2⟩, rfl⟩; exact h2
  · intro hs
    have := h s hs
    exact ⟨s.toNat, ⟨by omega, by rw [Int.toNat_of_nonneg this.1]; exact hs⟩, Int.toNat_of_nonneg this.1⟩
/-- Both at once. -/
def twoI (q s r : Int) : Int := s * q + r
/-- A piece of memory of both. -/
def Rl (p q : Int) (x a b : List Bool) : Prop := ∀ s r : Int, (0 ≤ s ∧ s < p) → (0 ≤ r ∧ r < q) → bitAt x (twoI q s r) = (bitAt a s && bitAt b r)
def RlL (p q : Int) : List (List Bool) → List (List Bool) → List (List Bool) → Prop
  | [], [], [] => True
  | x :: X, a :: A, b :: B => Rl p q x a b ∧ RlL p q X A B
  | _, _, _ => False
theorem RlL.len {p q : Int} : ∀ {X A B : List (List Bool)}, RlL p q X A B → X.length = A.length ∧ X.length = B.length
  | [], [], [], _ => ⟨rfl, rfl⟩
  | x :: X, a :: A, b :: B, h => by have := RlL.len h.2; simp [this.1, this.2]; omega
  | [], [], _ :: _, h => h.elim
  | [], _ :: _, _, h => h.elim
  | _ :: _, [], _, h => h.elim
  | _ :: _, _ :: _, [], h => h.elim
/-- A piece of memory of one beside the other. -/
def Rs (p q : Int) (x a b : List Bool) : Prop := (∀ s : Int, (0 ≤ s ∧ s < p) → bitAt x s = bitAt a s) ∧ ∀ r : Int, (0 ≤ r ∧ r < q) → bitAt x (p + r) = bitAt b r
def RsL (p q : Int) : List (List Bool) → List (List Bool) → List (List Bool) → Prop
  | [], [], [] => True
  | x :: X, a :: A, b :: B => Rs p q x a b ∧ RsL p q X A B
  | _, _, _ => False
theorem RsL.len {p q : Int} : ∀ {X A B : List (List Bool)}, RsL p q X A B → X.length = A.length ∧ X.length = B.length
  | [], [], [], _ => ⟨rfl, rfl⟩
  | x :: X, a :: A, b :: B, h => by have := RsL.len h.2; simp [this.1, this.2]; omega
  | [], [], _ :: _, h => h.elim
  | [], _ :: _, _, h => h.elim
  | _ :: _, [], _, h => h.elim
  | _ :: _, _ :: _, [], h => h.elim
end Go.Proofs.Ytdencaekailmcaa

/- Rows of terms that a call makes. -/
namespace Go.Proofs.Ytdencaekailmcaa
open Go.RowKit
set_option linter.unusedSimpArgs false
set_option linter.unusedVariables false

/-- These cells are these terms. -/
def RowT (w : World) (X : Nat → Prop) : List Tm → List Value → Prop
  | [], xs => xs = []
  | t :: l, xs => ∃ a c r, xs = .string t.name :: .slice a t.args.length c :: r ∧ Sl w X a t.args ∧ RowT w X l r

theorem RowT.len {w : World} {X : Nat → Prop} : ∀ {l : List Tm} {xs : List Value}, RowT w X l xs → xs.length = l.length * 2
  | [], xs, h => by simp [RowT] at h; simp [h]
  | t :: l, xs, h => by
    obtain ⟨a, c, r, rfl, _, h⟩ := h
    simp only [List.length_cons]
    rw [RowT.len h]; omega

theorem RowT.append {w : World} {X : Nat → Prop} : ∀ {l k : List Tm} {xs ys : List Value}, RowT w X l xs → RowT w X k ys → RowT w X (l ++ k) (xs ++ ys)
  | [], k, xs, ys, h, h' => by simp [RowT] at h; subst h; simpa using h'
  | t :: l, k, xs, ys, h, h' => by
    obtain ⟨a, c, r, rfl, hs, h⟩ := h
    exact ⟨a, c, r ++ ys, rfl, hs, RowT.append h h'⟩

theorem RowT.one {w : World} {X : Nat → Prop} : ∀ {l : List Tm} {xs : List Value}, RowT w X l xs → ∀ u ∈ xs, u.oneCell' = true
  | [], xs, h, u, hu => by simp [RowT] at h; subst h; cases hu
  | t :: l, xs, h, u, hu => by
    obtain ⟨a, c, r, rfl, _, h⟩ := h
    rcases List.mem_cons.1 hu with e | hu
    · subst e; rfl
    · rcases List.mem_cons.1 hu with e | hu
      · subst e; rfl
      · exact RowT.one h u hu

theorem RowT.imp {w w' : World} {X Y : Nat → Prop} (hs : ∀ a l, Sl w X a l → Sl w' Y a l) : ∀ {l : List Tm} {xs : List Value}, RowT w X l xs → RowT w' Y l xs
  | [], xs, h => h
  | t :: l, xs, h => by
    obtain ⟨a, c, r, e, h1, h⟩ := h
    exact ⟨a, c, r, e, hs _ _ h1, RowT.imp hs h⟩

theorem RowT.get {w : World} {X : Nat → Prop} : ∀ {l : List Tm} {xs : List Value}, RowT w X l xs → ∀ i (h : i < l.length),
    xs[i * 2]? = some (.string l[i].name) ∧ ∃ a c, xs[i * 2 + 1]? = some (.slice a l[i].args.length c) ∧ Sl w X a l[i].args
  | [], xs, h, i, hi => by simp at hi
  | t :: l, xs, h, i, hi => by
    obtain ⟨a, c, r, rfl, h1, h⟩ := h
    cases i with
    | zero => exact ⟨rfl, a, c, rfl, h1⟩
    | succ i =>
      have := RowT.get h i (by simpa using hi)
      rw [show (i + 1) * 2 = i * 2 + 2 by omega, show i * 2 + 2 + 1 = (i * 2 + 1) + 2 by omega]
      simpa using this

theorem sizeL_len (l : List Tm) : l.length ≤ sizeL l := by
  induction l with
  | nil => simp
  | cons t r ih => obtain ⟨s, k⟩ := t; simp only [List.length_cons, sizeL]; omega

theorem lies_of_rowT {w w' : World} {X Y : Nat → Prop} (b : Nat) (hb : Y b) : ∀ (l : List Tm) (xs : List Value) (o : Nat), RowT w X l xs → (∀ a k, Sl w X a k → Sl w' Y a k) → (∀ j u, xs[j]? = some u → w'.cell? ⟨b, o + j, none⟩ = some u) → Lies w' Y b o l := by
  intro l
  induction l with
  | nil => intro xs o _ _ _; simp [Lies]
  | cons t r ih =>
    intro xs o h hs hc
    obtain ⟨s, k⟩ := t
    obtain ⟨a, c, r', rfl, h1, h2⟩ := h
    simp only [Lies]
    obtain ⟨h3, h4⟩ := hs _ _ h1
    refine ⟨hb, hc 0 _ rfl, ⟨a, c, hc 1 _ rfl, h3, h4⟩, ih r' (o + 2) h2 hs fun j u hj => ?_⟩
    have := hc (j + 2) u (by simpa using hj)
    rwa [show o + (j + 2) = o + 2 + j by omega] at this

/-- The knots, each ahead of those below it. -/
def preL : List Tm → List Tm
  | [] => []
  | ⟨s, l⟩ :: r => ⟨s, l⟩ :: (preL l ++ preL r)

theorem preL_append (a b : List Tm) : preL (a ++ b) = preL a ++ preL b := by
  induction a with
  | nil => simp [preL]
  | cons t r ih => obtain ⟨s, l⟩ := t; simp [preL, ih]

/-- Old memory, told by the world that was. -/
theorem Sl.back {w w' : World} {X : Nat → Prop} {a : Option Addr} {l : List Tm} {B : Nat} (h : Sl w' X a l) (hb : Below B w w') (hX : ∀ b, X b → b < B) : Sl w X a l :=
  h.kept fun b hx => (hb.block b (hX b hx)).symm

/-- What a row that is owned says of the slice. -/
theorem owned_val {w : World} {base e size : Nat} {v : Value} {n : Nat} {xs : List Value} (h : w.ownsRow base e size v n xs) (hn : 0 < n) :
    ∃ g cap, v = .slice (some ⟨g, 0, none⟩) n cap ∧ base ≤ g ∧ g < w.heap.size ∧ ∀ j u, xs[j]? = some u → w.cell? ⟨g, j, none⟩ = some u := by
  have h' := h
  obtain ⟨hl, h1⟩ := h
  rcases h1 with ⟨_, h0⟩ | ⟨g, cap, cur, hv, hg, hh, _⟩
  · omega
  · subst hv
    have hlt := (h'.lt g rfl).2
    refine ⟨g, cap, rfl, hg, hlt, fun j u hj => ?_⟩
    have := h'.cells (g := g) rfl j u hj
    by_cases h0 : j = 0
    · subst h0; simpa [Addr.add] using this
    · simpa [Addr.add, h0] using this

/-- An append whose outcome is known. -/
theorem wpList_append_eq {P : Program} {ops : Array Oper} {rest : List Oper} {o : Oper} {a : Act} {Q : Exit → Act → World → Prop} {w w' : World} {v u v' : Value} (hgd : o.guard = none) (s x : Operand) (t t' : TypeId)
    (ho : o.op = .call { callee := .builtin .append, args := #[s, x], argTypes := #[t, t'] }) (hs : a.eval s = v) (hx : a.eval x = u)
    (hr : (Builtin.append_ #[t, t'] o.type #[v, u]).run P w = .ok v' w') (h : wpList P ops Q rest (a.put o.dst v') w') : wpList P ops Q (o :: rest) a w :=
  wpList_plain hgd fun K hK => by
    unfold Oper.wp execOp
    simp only [ho, resolve, invoke, builtin, Sem.run_bind, Sem.run_pure, Result.andThen_ok, List.map_toArray, List.map_cons, List.map_nil, hs, hx, hr]
    exact hK _ _ h

end Go.Proofs.Ytdencaekailmcaa

/- Lists of things of one cell each. -/
namespace Go.Proofs.Ytdencaekailmcaa
open Go.RowKit
set_option linter.unusedSimpArgs false
set_option linter.unusedVariables false

/-- A list in memory, a cell each. -/
def LV {α : Type} (f : α → Value) (w : World) (X : Nat → Prop) (v : Value) (l : List α) : Prop :=
  ∃ a c, v = .slice a l.length c ∧ (l.length ≤ 9223372036854775807 ∧ l.length ≤ c) ∧ (l = [] ∨ ∃ b o, a = some ⟨b, o, none⟩ ∧ X b ∧ ∀ i (h : i < l.length), w.cell? ⟨b, o + i, none⟩ = some (f l[i]))

theorem LV.kept {α : Type} {f : α → Value} {w w' : World} {X : Nat → Prop} {v : Value} {l : List α} (h : LV f w X v l) (hk : ∀ b, X b → w'.heap[b]? = w.heap[b]?) : LV f w' X v l := by
  obtain ⟨a, c, e, hl, h⟩ := h
  refine ⟨a, c, e, hl, ?_⟩
  rcases h with h | ⟨b, o, e, hx, h⟩
  · exact Or.inl h
  · exact Or.inr ⟨b, o, e, hx, fun i hi => by rw [World.cell?_of_block (hk b hx)]; exact h i hi⟩

theorem LV.mono {α : Type} {f : α → Value} {w : World} {X Y : Nat → Prop} {v : Value} {l : List α} (h : LV f w X v l) (hk : ∀ b, X b → b < w.heap.size → Y b) : LV f w Y v l := by
  obtain ⟨a, c, e, hl, h⟩ := h
  refine ⟨a, c, e, hl, ?_⟩
  rcases h with h | ⟨b, o, e, hx, h⟩
  · exact Or.inl h
  · by_cases h0 : l = []
    · exact Or.inl h0
    · have hp : 0 < l.length := List.length_pos_iff.2 h0
      exact Or.inr ⟨b, o, e, hk b hx (World.block_lt_of_cell? w _ (h 0 hp)), h⟩

theorem LV.below {α : Type} {f : α → Value} {w w' : World} {X : Nat → Prop} {v : Value} {l : List α} {B : Nat} (h : LV f w X v l) (hb : Below B w w') (hX : ∀ b, X b → b < w.heap.size → b < B) : LV f w' X v l := by
  have h1 : LV f w (fun b => X b ∧ b < B) v l := h.mono fun b hx hs => ⟨hx, hX b hx hs⟩
  have h2 : LV f w' (fun b => X b ∧ b < B) v l := h1.kept fun b hx => hb.block b hx.2
  exact h2.mono fun b hx _ => hx.1

theorem LV.later {α : Type} {f : α → Value} {w w' : World} {X : Nat → Prop} {v : Value} {l : List α} (h : LV f w X v l) (hb : Below w.heap.size w w') : LV f w' X v l := h.below hb (fun _ _ h => h)
theorem LV.alloc {α : Type} {f : α → Value} {w : World} {X : Nat → Prop} {v : Value} {l : List α} (h : LV f w X v l) (o : Obj) : LV f (w.alloc o) X v l := h.later ((Below.refl _ _).alloc (Nat.le_refl _) o)

/-- Out of a row that a call owns. -/
theorem LV.of_own {α : Type} {f : α → Value} {w : World} {N T : Nat} {v : Value} {l : List α} (h : w.ownsRow N T 1 v l.length (l.map f)) : LV f w (fun b => N ≤ b) v l := by
  have h' := h
  obtain ⟨_, h1⟩ := h
  rcases h1 with ⟨rfl, h0⟩ | ⟨g, cap, cur, hv, hg, hh, hnc, hcm, _⟩
  · have e : l = [] := List.length_eq_zero_iff.1 h0
    subst e
    exact ⟨none, 0, rfl, by simp, Or.inl rfl⟩
  · unfold maxLen at hcm
    refine ⟨some ⟨g, 0, none⟩, cap, hv, ⟨by omega, hnc⟩, ?_⟩
    by_cases h0 : l = []
    · exact Or.inl h0
    · have hp : 0 < l.length := List.length_pos_iff.2 h0
      obtain ⟨g2, cap2, hv2, _, _, hc⟩ := owned_val h' hp
      rw [hv] at hv2
      simp at hv2
      obtain ⟨rfl, rfl⟩ := hv2
      exact Or.inr ⟨g, 0, rfl, hg, fun i hi => by rw [Nat.zero_add]; exact hc i _ (by simp [hi])⟩
end Go.Proofs.Ytdencaekailmcaa


/- Walks: lists that are the same; whether a text is in a list. -/
namespace Go.Proofs.Ytdencaekailmcaa
open Go.RowKit
set_option linter.unusedSimpArgs false
set_option linter.unusedVariables false

end Go.Proofs.Ytdencaekailmcaa

/- Walks: how many knots a term has. -/
namespace Go.Proofs.Ytdencaekailmcaa
open Go.RowKit

/-- Behind a call that makes memory: old cells and marks read as before. -/
theorem bcell {W w1 : World} {B : Nat} (hb : Below B W w1) : (∀ b o, b < B → w1.cell? ⟨b, o, none⟩ = W.cell? ⟨b, o, none⟩) ∧ (∀ b o, b < B → w1.frozen? ⟨b, o, none⟩ = W.frozen? ⟨b, o, none⟩) :=
  ⟨fun b o h => hb.cell (p := ⟨b, o, none⟩) h, fun b o h => hb.frozen (p := ⟨b, o, none⟩) h⟩

theorem sizeL_take (l : List Tm) (k : Nat) (h : k < l.length) : sizeL (l.take (k + 1)) = sizeL (l.take k) + sizeL [l[k]] := by
  rw [List.take_succ_eq_append_getElem h, sizeL_append]

theorem sizeL_take_le (l : List Tm) (k : Nat) : sizeL (l.take k) ≤ sizeL l := by
  have := sizeL_append (l.take k) (l.drop k)
  rw [List.take_append_drop] at this
  omega

theorem ret_int {k : IntKind} {a b : Int} (h : a = b) : Ending.returned (.int k a) = .returned (.int k b) := by rw [h]

/-- Behind a call whose first deed was to lay its parameter down. -/
theorem below_box {w wr : World} {o : Obj} (hb : Below (w.heap.size + 1) (w.alloc o) wr) : Below w.heap.size w wr :=
  ((Below.refl _ _).alloc (Nat.le_refl _) _).trans (hb.mono (Nat.le_succ _))

set_option maxHeartbeats 400000 in
theorem size_any (t : Tm) : ∀ (v : Value) (most : Int) (w : World) (X : Nat → Prop), TV w X v t → 0 ≤ most → most ≤ 1000000 →
    Calls Try.prog 20 #[v, .int .i64 most] w fun e w' => e = .returned (.int .i64 (min (sizeL [t]) (most + 1))) ∧ Below w.heap.size w w' := by
  induction t using Tm.ind with
  | h s l ih =>
    intro v most w X hv hm0 hm1
    obtain ⟨a, c, rfl, hs⟩ := hv
    have IH := hide ih
    clear ih
    go_enter Try.func20, Try.ntmps20
    go_wp2_with fail
    go_loopw [5, 6] (fun n i wr => ∃ k : Nat, k ≤ l.length ∧ i = .int .i64 k ∧ n = .int .i64 (min (1 + sizeL (l.take k)) (most + 1)) ∧ Below (w.heap.size + 1) (w.alloc (Obj.cells #[Value.string s, Value.slice a l.length c] 28)) wr) (fun n i wr => l.length - (intOf i).toNat)
    case atStart => exact ⟨0, Nat.zero_le _, rfl, by simp [sizeL]; omega, Below.refl _ _⟩
    case round =>
      obtain ⟨k, hk, rfl, rfl, hb⟩ := hrel
      have hc := bcell hb
      have c0 : wr.cell? ⟨w.heap.size, 0, none⟩ = some (.string s) := by rw [hc.1 _ _ (by omega)]; simp
      have c1 : wr.cell? ⟨w.heap.size, 1, none⟩ = some (.slice a l.length c) := by rw [hc.1 _ _ (by omega)]; simp
      have hl := hs.1
      have hn : 0 ≤ ((1 : Int) + sizeL (l.take k)) := by omega
      by_cases hlt : k < l.length
      · obtain ⟨b, o, a', c', rfl, d0, d1, hx⟩ := hs.get (((Below.refl _ _).alloc (Nat.le_refl _) _).trans (hb.mono (Nat.le_succ _))) (fun _ _ h => h) k hlt
        by_cases hle : 1 + (sizeL (l.take k) : Int) ≤ most
        · have hmin : min (1 + (sizeL (l.take k) : Int)) (most + 1) = 1 + (sizeL (l.take k) : Int) := by omega
          rw [hmin]
          go_wp2_with fail
          refine (IH.out _ (List.getElem_mem hlt) _ _ _ X hx (by omega) (by omega)).mono ?_
          rintro e w1 ⟨rfl, hb1⟩
          have hsz : w.heap.size + 1 ≤ wr.heap.size := by have := hb.size; simpa using this
          have Hst := hide (sizeL_take l k hlt)
          have hm2 : 0 ≤ min ((sizeL [l[k]] : Int)) (most - (1 + (sizeL (l.take k) : Int)) + 1) := by omega
          have hm3 : min ((sizeL [l[k]] : Int)) (most - (1 + (sizeL (l.take k) : Int)) + 1) ≤ 1000001 := by omega
          go_wp2_with fail
          go_roundw
          case rel => exact ⟨k + 1, by omega, by go_num, by rw [Hst.out]; congr 1; omega, hb.trans (hb1.mono hsz)⟩
          case measure => simp [intOf]; omega
        · have hmin : min (1 + (sizeL (l.take k) : Int)) (most + 1) = most + 1 := by omega
          rw [hmin]
          have hz : (sizeL [(⟨s, l⟩ : Tm)] : Int) = 1 + sizeL l := by simp [sizeL]
          have hle2 : sizeL (l.take k) ≤ sizeL l := sizeL_take_le l k
          have HF := hide (show (most + 1 : Int) = min (sizeL [(⟨s, l⟩ : Tm)] : Int) (most + 1) by omega)
          clear hz
          go_wp2_with fail
          go_ret
          exact ⟨ret_int HF.out, below_box hb⟩
      · have htk : l.take k = l := List.take_of_length_le (by omega)
        rw [htk]
        have hz : (sizeL [(⟨s, l⟩ : Tm)] : Int) = 1 + sizeL l := by simp [sizeL]
        have HZ := hide hz
        clear hz
        go_wp2_with fail
        · go_ret
          exact ⟨ret_int (by have := HZ.out; omega), below_box hb⟩
        · go_ret
          exact ⟨ret_int (by have := HZ.out; omega), below_box hb⟩

end Go.Proofs.Ytdencaekailmcaa

/- Walks: counting knots with a bound; what is wrong with a term. -/
namespace Go.Proofs.Ytdencaekailmcaa
open Go.RowKit
set_option linter.unusedSimpArgs false
set_option linter.unusedVariables false

theorem argsOf_any (s : ByteArray) (a : Option Addr) (n c : Nat) (w : World) :
    Calls Try.prog 53 #[.agg #[.string s, .slice a n c]] w fun e w' => e = .returned (.slice a n c) ∧ w' = w.alloc (.cells #[.string s, .slice a n c] 28) := by
  go_enter Try.func53, Try.ntmps53
  go_wp2_with fail
  go_ret
  exact ⟨rfl, rfl⟩

set_option maxHeartbeats 400000 in
theorem countOn_any (M : Int) (hM0 : 0 ≤ M) (hM1 : M ≤ 1000000) (t : Tm) : ∀ (v : Value) (n : Int) (w : World) (X : Nat → Prop), TV w X v t → 0 ≤ n → n ≤ M →
    Calls Try.prog 60 #[v, .func (.func 53) #[] #[], .int .i64 M, .int .i64 n] w fun e w' => e = .returned (.int .i64 (min (n + sizeL [t]) (M + 1))) ∧ Below w.heap.size w w' := by
  induction t using Tm.ind with
  | h s l ih =>
    intro v n w X hv hn0 hn1
    obtain ⟨a, c, rfl, hs⟩ := hv
    have IH := hide ih
    clear ih
    have hz : Hid ((sizeL [(⟨s, l⟩ : Tm)] : Int) = 1 + sizeL l) := by simp [Hid, sizeL]
    go_enter Try.func60, Try.ntmps60
    go_wp2_with (go_at_call 53; refine (argsOf_any _ _ _ _ _).mono ?_; rintro e w' ⟨rfl, rfl⟩)
    have hB0 : Hid (Below w.heap.size w ((w.alloc (Obj.cells #[Value.string s, Value.slice a l.length c] 28)).alloc (Obj.cells #[Value.string s, Value.slice a l.length c] 28))) := ((Below.refl _ _).alloc (Nat.le_refl _) _).alloc (by simp) _
    have hZ0 : Hid (w.heap.size + 2 ≤ ((w.alloc (Obj.cells #[Value.string s, Value.slice a l.length c] 28)).alloc (Obj.cells #[Value.string s, Value.slice a l.length c] 28)).heap.size) := by simp [Hid]
    generalize ((w.alloc (Obj.cells #[Value.string s, Value.slice a l.length c] 28)).alloc (Obj.cells #[Value.string s, Value.slice a l.length c] 28)) = w0 at *
    go_loopw [9, 18] (fun m i wr => ∃ k : Nat, k ≤ l.length ∧ i = .int .i64 k ∧ m = .int .i64 (min (n + 1 + sizeL (l.take k)) (M + 1)) ∧ Below w.heap.size w wr) (fun m i wr => l.length - (intOf i).toNat)
    case atStart => exact ⟨0, Nat.zero_le _, rfl, by rw [show sizeL (l.take 0) = 0 by simp [sizeL]]; congr 1; omega, hB0.out⟩
    case round =>
      obtain ⟨k, hk, rfl, rfl, hb⟩ := hrel
      have hl := hs.1
      have hsz : w.heap.size ≤ wr.heap.size := hb.size
      by_cases hlt : k < l.length
      · obtain ⟨b, o, a', c', rfl, d0, d1, hx⟩ := hs.get hb (fun _ _ h => h) k hlt
        by_cases hle : n + 1 + (sizeL (l.take k) : Int) ≤ M
        · have hmin : min (n + 1 + (sizeL (l.take k) : Int)) (M + 1) = n + 1 + (sizeL (l.take k) : Int) := by omega
          rw [hmin]
          go_wp2_with fail
          refine (IH.out _ (List.getElem_mem hlt) _ _ _ X (hx.alloc _) (by omega) (by omega)).mono ?_
          rintro e w1 ⟨rfl, hb1⟩
          have Hst := hide (sizeL_take l k hlt)
          go_wp2_with fail
          go_roundw
          case rel => exact ⟨k + 1, by omega, by go_num, by rw [Hst.out]; congr 1; omega, (hb.alloc hsz _).trans (hb1.mono (by simp; omega))⟩
          case measure => simp [intOf]; omega
        · have hmin : min (n + 1 + (sizeL (l.take k) : Int)) (M + 1) = M + 1 := by omega
          rw [hmin]
          have hle2 : sizeL (l.take k) ≤ sizeL l := sizeL_take_le l k
          go_wp2_with fail
          go_ret
          refine ⟨ret_int (by have := hz.out; omega), ?_⟩
          exact hb.alloc (by omega) _
      · have htk : l.take k = l := List.take_of_length_le (by omega)
        rw [htk]
        go_wp2_with fail
        go_ret
        exact ⟨ret_int (by have := hz.out; omega), hb⟩

theorem countT_any (M : Int) (hM0 : 0 ≤ M) (hM1 : M ≤ 1000000) (t : Tm) (v : Value) (w : World) (X : Nat → Prop) (hv : TV w X v t) :
    Calls Try.prog 52 #[v, .func (.func 53) #[] #[], .int .i64 M] w fun e w' => e = .returned (.int .i64 (min (sizeL [t] : Int) (M + 1))) ∧ Below w.heap.size w w' := by
  obtain ⟨a, c, rfl, hs⟩ := hv
  have hv : TV w X (.agg #[.string t.name, .slice a t.args.length c]) t := ⟨a, c, rfl, hs⟩
  go_enter Try.func52, Try.ntmps52
  go_wp2_with fail
  refine (countOn_any M hM0 hM1 t _ _ _ X (hv.alloc _) (by omega) (by omega)).mono ?_
  rintro e w1 ⟨rfl, hb1⟩
  go_wp2_with fail
  go_ret
  exact ⟨ret_int (by omega), ((Below.refl _ _).alloc (Nat.le_refl _) _).trans (hb1.mono (by simp))⟩

theorem count_any (M : Int) (hM0 : 0 ≤ M) (hM1 : M ≤ 1000000) (t : Tm) (v : Value) (w : World) (X : Nat → Prop) (hv : TV w X v t) :
    Calls Try.prog 44 #[v, .int .i64 M] w fun e w' => e = .returned (.int .i64 (min (sizeL [t] : Int) (M + 1))) ∧ Below w.heap.size w w' := by
  obtain ⟨a, c, rfl, hs⟩ := hv
  have hv : TV w X (.agg #[.string t.name, .slice a t.args.length c]) t := ⟨a, c, rfl, hs⟩
  go_enter Try.func44, Try.ntmps44
  go_wp2_with fail
  refine (countT_any M hM0 hM1 t _ _ X (hv.alloc _)).mono ?_
  rintro e w1 ⟨rfl, hb1⟩
  go_wp2_with fail
  go_ret
  exact ⟨ret_int (by omega), ((Below.refl _ _).alloc (Nat.le_refl _) _).trans (hb1.mono (by simp))⟩

/-- What is wrong, knot by knot: 0 nothing, 1 no name, 2 a variable with terms below it. -/
def errL : List Tm → Int
  | [] => 0
  | ⟨s, l⟩ :: r => if nameB s = true then (if (varB s && decide (0 < l.length)) = true then 2 else if errL l = 0 then errL r else errL l) else 1

theorem errL_cons (t : Tm) (r : List Tm) : errL (t :: r) = if errL [t] = 0 then errL r else errL [t] := by
  obtain ⟨s, l⟩ := t
  simp only [errL]
  split
  · split
    · simp
    · split <;> simp_all
  · simp

theorem errL_append (a b : List Tm) : errL (a ++ b) = if errL a = 0 then errL b else errL a := by
  induction a with
  | nil => simp [errL]
  | cons t r ih =>
    rw [List.cons_append, errL_cons, errL_cons t r, ih]
    by_cases h : errL [t] = 0 <;> simp [h]

theorem errL_take (l : List Tm) (k : Nat) (h : k < l.length) : errL (l.take (k + 1)) = if errL (l.take k) = 0 then errL [l[k]] else errL (l.take k) := by
  rw [List.take_succ_eq_append_getElem h, errL_append]

theorem errL_of_take {l : List Tm} {k : Nat} (h : errL (l.take k) ≠ 0) : errL l = errL (l.take k) := by
  have := errL_append (l.take k) (l.drop k)
  rw [List.take_append_drop, if_neg h] at this
  exact this

theorem name_pos {s : ByteArray} (h : nameB s = true) : 0 < s.size := by
  simp [nameB] at h; omega

set_option maxHeartbeats 400000 in
theorem checkKnots_any (t : Tm) : ∀ (v : Value) (w : World) (X : Nat → Prop), TV w X v t →
    Calls Try.prog 45 #[v] w fun e w' => e = .returned (.int .i64 (errL [t])) ∧ Below w.heap.size w w' := by
  induction t using Tm.ind with
  | h s l ih =>
    intro v w X hv
    obtain ⟨a, c, rfl, hs⟩ := hv
    have IH := hide ih
    clear ih
    have hl := hs.1
    cases hn : nameB s with
    | false =>
      have hz : Hid (1 = errL [(⟨s, l⟩ : Tm)]) := by simp [Hid, errL, hn]
      have HN := hide hn
      clear hn
      go_enter Try.func45, Try.ntmps45
      go_wp2_with (go_at_call 51; refine (isName_any _ _).mono ?_; rintro e w' ⟨rfl, rfl⟩; rw [HN.out])
      go_ret
      exact ⟨ret_int hz.out, (Below.refl _ _).alloc (Nat.le_refl _) _⟩
    | true =>
      have HN := hide hn
      have hpos := name_pos hn
      by_cases hvl : varB s = true ∧ 0 < l.length
      · obtain ⟨hv, hlp⟩ := hvl
        have hz : Hid (2 = errL [(⟨s, l⟩ : Tm)]) := by simp [Hid, errL, hn, hv, hlp]
        have HV := hide hv
        clear hn hv
        go_enter Try.func45, Try.ntmps45
        go_wp2_with (first | (go_at_call 51; refine (isName_any _ _).mono ?_; rintro e w' ⟨rfl, rfl⟩; rw [HN.out]) | (go_at_call 46; refine (isVariable_any _ _ hpos).mono ?_; rintro e w' ⟨rfl, rfl⟩; rw [HV.out]))
        go_ret
        exact ⟨ret_int hz.out, (Below.refl _ _).alloc (Nat.le_refl _) _⟩
      · have hz : Hid (errL [(⟨s, l⟩ : Tm)] = errL l) := by
          have : (varB s && decide (0 < l.length)) = false := by
            rw [Bool.eq_false_iff]; intro h; simp at h; exact hvl ⟨h.1, by omega⟩
          simp only [Hid, errL, hn, this]
          by_cases h0 : errL l = 0 <;> simp [h0]
        have hcase : (varB s = true ∧ l.length < 1) ∨ varB s = false := by
          cases hv : varB s with
          | true => exact Or.inl ⟨rfl, by apply Classical.byContradiction; intro h; exact hvl ⟨hv, by omega⟩⟩
          | false => exact Or.inr rfl
        clear hn hvl
        rcases hcase with ⟨hv, hl0⟩ | hv
        · have e0 : l = [] := List.length_eq_zero_iff.1 (by omega)
          subst e0
          have HV := hide hv
          clear hv
          go_enter Try.func45, Try.ntmps45
          go_wp2_with (first | (go_at_call 51; refine (isName_any _ _).mono ?_; rintro e w' ⟨rfl, rfl⟩; rw [HN.out]) | (go_at_call 46; refine (isVariable_any _ _ hpos).mono ?_; rintro e w' ⟨rfl, rfl⟩; rw [HV.out]))
          go_loop [22] (fun i => i = .int .i64 0) (fun i => 0)
          case atStart => rfl
          case round =>
            subst hrel
            have HZ : Hid (0 = errL [(⟨s, []⟩ : Tm)]) := by unfold Hid; rw [hz.out]; simp [errL]
            go_wp2_with fail
            go_ret
            exact ⟨ret_int HZ.out, (Below.refl _ _).alloc (Nat.le_refl _) _⟩
        · have HV := hide hv
          clear hv
          go_enter Try.func45, Try.ntmps45
          go_wp2_with (first | (go_at_call 51; refine (isName_any _ _).mono ?_; rintro e w' ⟨rfl, rfl⟩; rw [HN.out]) | (go_at_call 46; refine (isVariable_any _ _ hpos).mono ?_; rintro e w' ⟨rfl, rfl⟩; rw [HV.out]))
          go_loopw [22] (fun i wr => ∃ k : Nat, k ≤ l.length ∧ i = .int .i64 k ∧ errL (l.take k) = 0 ∧ Below (w.heap.size + 1) (w.alloc (Obj.cells #[Value.string s, Value.slice a l.length c] 28)) wr) (fun i wr => l.length - (intOf i).toNat)
          case atStart => exact ⟨0, Nat.zero_le _, rfl, by simp [errL], Below.refl _ _⟩
          case round =>
            obtain ⟨k, hk, rfl, he, hb⟩ := hrel
            have HE := hide he
            clear he
            have hsz : w.heap.size + 1 ≤ wr.heap.size := by have := hb.size; simpa using this
            by_cases hlt : k < l.length
            · obtain ⟨b, o, a', c', rfl, d0, d1, hx⟩ := hs.get (below_box hb) (fun _ _ h => h) k hlt
              have HT := hide (errL_take l k hlt)
              go_wp2_with fail
              refine (IH.out _ (List.getElem_mem hlt) _ _ X (hx.alloc _)).mono ?_
              rintro e w1 ⟨rfl, hb1⟩
              by_cases hez : errL [l[k]] = 0
              · have HZ := hide hez
                rw [hez]
                clear hez
                go_wp2_with fail
                go_roundw
                case rel => exact ⟨k + 1, by omega, by go_num, by rw [HT.out, HE.out, HZ.out]; rfl, (hb.alloc hsz _).trans (hb1.mono (by simp; omega))⟩
                case measure => simp [intOf]; omega
              · have hez' : (errL [l[k]] == 0) = false := by simpa using hez
                have HZ : Hid (errL [l[k]] = errL [(⟨s, l⟩ : Tm)]) := by
                  have h1 : errL (l.take (k + 1)) = errL [l[k]] := by rw [HT.out, HE.out]; rfl
                  unfold Hid
                  rw [hz.out, errL_of_take (l := l) (k := k + 1) (by rw [h1]; exact hez), h1]
                go_wp2_with fail
                go_ret
                exact ⟨ret_int HZ.out, ((below_box hb).alloc (by omega) _).trans (hb1.mono (by simp; omega))⟩
            · have htk : l.take k = l := List.take_of_length_le (by omega)
              have HZ : Hid (0 = errL [(⟨s, l⟩ : Tm)]) := by unfold Hid; rw [hz.out, ← htk, HE.out]
              go_wp2_with fail
              go_ret
              exact ⟨ret_int HZ.out, below_box hb⟩

/-- What is wrong with a term. -/
def mayE (t : Tm) : Int := if 200 < sizeL [t] then 3 else errL [t]

set_option maxHeartbeats 400000 in
theorem check_any (t : Tm) (v : Value) (w : World) (X : Nat → Prop) (hv : TV w X v t) :
    Calls Try.prog 28 #[v] w fun e w' => e = .returned (.int .i64 (mayE t)) ∧ Below w.heap.size w w' := by
  obtain ⟨a, c, rfl, hs⟩ := hv
  have hv : TV w X (.agg #[.string t.name, .slice a t.args.length c]) t := ⟨a, c, rfl, hs⟩
  go_enter Try.func28, Try.ntmps28
  go_wp2_with fail
  refine (count_any 200 (by omega) (by omega) t _ _ X (hv.alloc _)).mono ?_
  rintro e w1 ⟨rfl, hb1⟩
  have c0 : w1.cell? ⟨w.heap.size, 0, none⟩ = some (.string t.name) := by rw [hb1.cell (p := ⟨_, _, none⟩) (by simp)]; simp
  have c1 : w1.cell? ⟨w.heap.size, 1, none⟩ = some (.slice a t.args.length c) := by rw [hb1.cell (p := ⟨_, _, none⟩) (by simp)]; simp
  have hb2 : Below w.heap.size w w1 := ((Below.refl _ _).alloc (Nat.le_refl _) _).trans (hb1.mono (by simp))
  by_cases h : 200 < sizeL [t]
  · have hm : Hid (3 = mayE t) := by simp [Hid, mayE, h]
    have e : min (sizeL [t] : Int) (200 + 1) = 201 := by omega
    rw [e]
    go_wp2_with fail
    go_ret
    exact ⟨ret_int hm.out, hb2⟩
  · have hm : Hid (errL [t] = mayE t) := by simp [Hid, mayE, h]
    have e : min (sizeL [t] : Int) (200 + 1) = sizeL [t] := by omega
    rw [e]
    go_wp2_with fail
    refine (checkKnots_any t _ _ X (hv.later hb2)).mono ?_
    rintro e w2 ⟨rfl, hb3⟩
    go_wp2_with fail
    go_ret
    exact ⟨ret_int hm.out, hb2.trans (hb3.mono hb2.size)⟩
end Go.Proofs.Ytdencaekailmcaa

/- Walks: all knots of a term. -/
namespace Go.Proofs.Ytdencaekailmcaa
open Go.RowKit
set_option linter.unusedSimpArgs false
set_option linter.unusedVariables false

theorem Try.infoTerm : (Try.prog.info? 28).map (fun i => (i.zero, i.size, i.bytes)) = some (some (.agg #[.string ByteArray.empty, .slice none 0 0]), 2, 40) := by kernel_rfl

end Go.Proofs.Ytdencaekailmcaa


/- Walks: what the document says of a term. -/
namespace Go.Proofs.Ytdencaekailmcaa
open Go.RowKit
set_option linter.unusedSimpArgs false
set_option linter.unusedVariables false

end Go.Proofs.Ytdencaekailmcaa

/- Small facts on blocks, and what a round that appends a term does to a row of terms. -/
namespace Go.Proofs.Ytdencaekailmcaa
open Go.RowKit
set_option linter.unusedSimpArgs false
set_option linter.unusedVariables false

/-- A block of plain cells. -/
def Blk (w : World) (b : Nat) (cs : Array Value) (T : Nat) : Prop := w.heap[b]? = some (.cells cs T (0, 0))

theorem Blk.lt {w : World} {b : Nat} {cs : Array Value} {T : Nat} (h : Blk w b cs T) : b < w.heap.size := by
  apply Classical.byContradiction
  intro hn
  have e : w.heap[b]? = none := Array.getElem?_eq_none (by omega)
  rw [Blk, e] at h; cases h

theorem Blk.cell {w : World} {b : Nat} {cs : Array Value} {T : Nat} (h : Blk w b cs T) (i : Nat) : w.cell? ⟨b, i, none⟩ = cs[i]? := by
  unfold Blk at h; simp [World.cell?, h]

theorem Blk.frozen {w : World} {b : Nat} {cs : Array Value} {T : Nat} (h : Blk w b cs T) (i : Nat) : w.frozen? ⟨b, i, none⟩ = false := by
  unfold Blk at h; simp [World.frozen?, h]

theorem Blk.new (w : World) (cs : Array Value) (T : Nat) : Blk (w.alloc (.cells cs T)) w.heap.size cs T := heap_alloc_new w _

theorem Blk.alloc {w : World} {b : Nat} {cs : Array Value} {T : Nat} (h : Blk w b cs T) (o : Obj) : Blk (w.alloc o) b cs T := by
  unfold Blk at *; rw [Below.heap_alloc w o b (Blk.lt h)]; exact h

theorem Blk.below {w w' : World} {b B : Nat} {cs : Array Value} {T : Nat} (h : Blk w b cs T) (hb : Below B w w') (hB : b < B) : Blk w' b cs T := by
  unfold Blk at *; rw [hb.block b hB]; exact h

theorem Blk.drewN {w : World} {b : Nat} {cs : Array Value} {T : Nat} (h : Blk w b cs T) (n : Nat) : Blk (w.drewN n) b cs T := h

theorem Blk.grown {w w' : World} {b : Nat} {cs : Array Value} {T : Nat} {row : Option Nat} (h : Blk w b cs T) (hg : w.grownBy w' row) (hr : some b ≠ row) : Blk w' b cs T := by
  unfold Blk at *; rw [hg.block b (Blk.lt h) hr]; exact h

theorem Blk.set {w : World} {b : Nat} {cs : Array Value} {T : Nat} (h : Blk w b cs T) (i : Nat) (v : Value) : Blk (w.setCell ⟨b, i, none⟩ v) b (cs.setIfInBounds i v) T := by
  unfold Blk at *
  simp [World.setCell, Array.getElem?_modify, h]

theorem Blk.setOther {w : World} {b b' : Nat} {cs : Array Value} {T : Nat} (h : Blk w b cs T) (i : Nat) (v : Value) (hne : b ≠ b') : Blk (w.setCell ⟨b', i, none⟩ v) b cs T := by
  unfold Blk at *; rw [Below.heap_setCell _ _ _ _ (by simpa using hne)]; exact h

/-- The row so far, apart from what its terms are made of: old memory that Y lets, and new memory. -/
structure Row (w : World) (N : Nat) (T : Nat) (Y : Nat → Prop) (v : Value) (l : List Tm) (xs : List Value) : Prop where
  own : w.ownsRow N T 2 v l.length xs
  row : RowT w (fun b => Y b ∨ (N ≤ b ∧ some b ≠ v.ownBlock)) l xs

theorem Row.start (w : World) (N T : Nat) (Y : Nat → Prop) : Row w N T Y (.slice none 0 0) [] [] := ⟨World.ownsRow_nil w N T 2, rfl⟩

theorem Row.below {w w' : World} {N T : Nat} {Y : Nat → Prop} {v : Value} {l : List Tm} {xs : List Value} (h : Row w N T Y v l xs) (hb : Below w.heap.size w w') : Row w' N T Y v l xs :=
  ⟨h.own.kept (w' := w') (row := none) ⟨hb.os, hb.tape, hb.output, hb.size, fun j hj _ => hb.block j hj⟩ (by rcases Option.eq_none_or_eq_some (Value.ownBlock v) with h | ⟨x, h⟩; exact Or.inl h; exact Or.inr (by rw [h]; simp)),
   h.row.imp fun a l h => h.later hb⟩

theorem Row.ne {w : World} {N T : Nat} {Y : Nat → Prop} {v : Value} {l : List Tm} {xs : List Value} (h : Row w N T Y v l xs) {b : Nat} (hb : b < N) : some b ≠ v.ownBlock := fun e => by
  have := (h.own.lt b e.symm).1; omega

/-- One more: the term's cells have been laid into a block of their own, and appended. -/
theorem Row.push {w w1 w2 w3 : World} {N T : Nat} {Y : Nat → Prop} {v : Value} {l : List Tm} {xs : List Value} (h : Row w N T Y v l xs) (hN : N ≤ w.heap.size) (hY : ∀ b, Y b → b < N) (hb : Below w.heap.size w w1) {s : ByteArray} {a : Option Addr} {n c : Nat} {t : Tm}
    (ht : TV w1 (fun b => Y b ∨ w.heap.size ≤ b) (.agg #[.string s, .slice a n c]) t) (o : Obj) (hw2 : w2 = w1.alloc o) {g cap : Nat}
    (hown : w3.ownsRow N T 2 (.slice (some ⟨g, 0, none⟩) (l.length + 1) cap) (l.length + 1) (xs ++ [.string s, .slice a n c])) (hg : w2.grownBy w3 v.ownBlock) (hg1 : v.ownBlock = some g ∨ g = w2.heap.size) :
    Row w3 N T Y (.slice (some ⟨g, 0, none⟩) (l.length + 1) cap) (l ++ [t]) (xs ++ [.string s, .slice a n c]) := by
  subst hw2
  have hlt := h.own.lt
  refine ⟨by simpa using hown, ?_⟩
  have hsz : w1.heap.size ≤ (w1.alloc o).heap.size := by simp
  have hbs := hb.size
  have hgN : N ≤ g := by
    rcases hg1 with e | e
    · exact (hlt g e).1
    · simp at e; omega
  refine RowT.append (h.row.imp fun a' k' hs => ?_) ?_
  · have h1 : Sl w (fun b => (Y b ∨ (N ≤ b ∧ some b ≠ v.ownBlock)) ∧ b < w.heap.size) a' k' := hs.mono fun b h1 h2 => ⟨h1, h2⟩
    have h2 : Sl w3 (fun b => (Y b ∨ (N ≤ b ∧ some b ≠ v.ownBlock)) ∧ b < w.heap.size) a' k' := h1.kept fun b hx => by
      have hne : some b ≠ v.ownBlock := by
        rcases hx.1 with hy | hy
        · exact h.ne (hY b hy)
        · exact hy.2
      rw [hg.block b (by simp; omega) hne, Below.heap_alloc _ _ _ (by omega), hb.block b hx.2]
    refine h2.mono fun b hx _ => ?_
    rcases hx.1 with hy | hy
    · exact Or.inl hy
    · refine Or.inr ⟨hy.1, fun e => ?_⟩
      simp [Value.ownBlock] at e
      rcases hg1 with e' | e'
      · exact hy.2 (by rw [e', e])
      · simp at e'; omega
  · obtain ⟨a2, c2, e, hs⟩ := ht
    simp at e
    obtain ⟨rfl, rfl, rfl, rfl⟩ := e
    refine ⟨a, c, [], rfl, ?_, rfl⟩
    have h1 : Sl w1 (fun b => (Y b ∨ w.heap.size ≤ b) ∧ b < w1.heap.size) a t.args := hs.mono fun b h1 h2 => ⟨h1, h2⟩
    have h2 : Sl w3 (fun b => (Y b ∨ w.heap.size ≤ b) ∧ b < w1.heap.size) a t.args := h1.kept fun b hx => by
      have hne : some b ≠ v.ownBlock := by
        rcases hx.1 with hy | hy
        · exact h.ne (hY b hy)
        · intro e; have := (hlt b e.symm).2; omega
      rw [hg.block b (by simp; omega) hne, Below.heap_alloc _ _ _ hx.2]
    refine h2.mono fun b hx _ => ?_
    rcases hx.1 with hy | hy
    · exact Or.inl hy
    · refine Or.inr ⟨by omega, fun e => ?_⟩
      simp [Value.ownBlock] at e
      rcases hg1 with e' | e'
      · have := (hlt g e').2; omega
      · simp at e'; omega

/-- A store into a block that is none of the row's. -/
theorem Row.setCell {w : World} {N T : Nat} {Y : Nat → Prop} {v : Value} {l : List Tm} {xs : List Value} (h : Row w N T Y v l xs) {b i : Nat} (hb : b < N) (hY : ¬ Y b) (u : Value) : Row (w.setCell ⟨b, i, none⟩ u) N T Y v l xs :=
  ⟨ownsRow_setCell_below h.own (by simpa using hb) u, h.row.imp fun a k hs => hs.kept fun c hc => Below.heap_setCell _ _ _ _ (by
    simp
    rcases hc with hc | hc
    · intro e; subst e; exact hY hc
    · omega)⟩

theorem Row.sl {w : World} {N T : Nat} {Y : Nat → Prop} {v : Value} {l : List Tm} {xs : List Value} (h : Row w N T Y v l xs) : ∃ a c, v = .slice a l.length c ∧ Sl w (fun b => Y b ∨ N ≤ b) a l := by
  have hml : l.length ≤ 9223372036854775807 := by
    rcases h.own.2 with ⟨_, h0⟩ | ⟨g, cap, cur, _, _, _, h1, h2, _⟩
    · omega
    · unfold maxLen at h2; omega
  by_cases h0 : 0 < l.length
  · obtain ⟨g, cap, rfl, hg, hlt, hc⟩ := owned_val h.own h0
    exact ⟨_, _, rfl, hml, Or.inr ⟨g, 0, rfl, lies_of_rowT g (Or.inr hg) l xs 0 h.row (fun a k hs => hs.mono fun b hb _ => hb.imp id (fun h => h.1)) (fun j u hj => by simpa using hc j u hj)⟩⟩
  · have e : l = [] := List.length_eq_zero_iff.1 (by omega)
    subst e
    rcases h.own.2 with ⟨hv, _⟩ | ⟨g, cap, cur, hv, _⟩
    · exact ⟨none, 0, hv, hml, Or.inl rfl⟩
    · exact ⟨_, _, hv, hml, Or.inl rfl⟩

theorem copy_blk {wr w1 w3 : World} {o1 o2 : Obj} {b T : Nat} {cs : Array Value} {row : Option Nat} (h : Blk wr b cs T) (hb1 : Below (wr.alloc o1).drew.heap.size (wr.alloc o1).drew w1) (hg : (w1.alloc o2).grownBy w3 row) (hr : some b ≠ row) : Blk w3 b cs T :=
  (((((h.alloc o1).drewN 1).below hb1 (by have := h.lt; simp; omega)).alloc o2).grown hg hr)

end Go.Proofs.Ytdencaekailmcaa


/- Walks: the variables of a term, each once. -/
namespace Go.Proofs.Ytdencaekailmcaa
open Go.RowKit
set_option linter.unusedSimpArgs false
set_option linter.unusedVariables false

theorem grown_trans {w w1 w2 : World} {r r1 : Option Nat} (h : w.grownBy w1 r) (h1 : w1.grownBy w2 r1) (hr : ∀ k, r1 = some k → r = some k ∨ w.heap.size ≤ k) : w.grownBy w2 r :=
  ⟨h1.os.trans h.os, h1.tape.trans h.tape, h1.output.trans h.output, Nat.le_trans h.size h1.size, fun k hk hne => (h1.block k (Nat.lt_of_lt_of_le hk h.size) (fun e => by
    rcases hr k e.symm with h2 | h2
    · exact hne h2.symm
    · omega)).trans (h.block k hk hne)⟩

theorem grown_of_below {w w' : World} (hb : Below w.heap.size w w') (r : Option Nat) : w.grownBy w' r := ⟨hb.os, hb.tape, hb.output, hb.size, fun k hk _ => hb.block k hk⟩

theorem TV.grown {w w' : World} {X : Nat → Prop} {v : Value} {t : Tm} {r : Option Nat} (h : TV w X v t) (hg : w.grownBy w' r) (hX : ∀ b, X b → some b ≠ r) : TV w' X v t := by
  have h1 : TV w (fun b => X b ∧ b < w.heap.size) v t := h.mono fun b h1 h2 => ⟨h1, h2⟩
  have h2 : TV w' (fun b => X b ∧ b < w.heap.size) v t := h1.kept fun b hx => hg.block b hx.2 (hX b hx.1)
  exact h2.mono fun b hx _ => hx.1

/-- What stays true of a row of texts while it is added to. -/
def NamesAt (w0 : World) (B : Nat) (q0 : Value) (acc : List ByteArray) (q : Value) (wr : World) : Prop :=
  wr.ownsRow B 9 1 q acc.length (acc.map Value.string) ∧ w0.grownBy wr q0.ownBlock ∧ (∀ k, q.ownBlock = some k → q0.ownBlock = some k ∨ w0.heap.size ≤ k)

theorem NamesAt.below {w0 w1 w2 : World} {B : Nat} {q0 q1 : Value} {acc1 : List ByteArray} (h1 : NamesAt w0 B q0 acc1 q1 w1) (hb : Below w1.heap.size w1 w2) : NamesAt w0 B q0 acc1 q1 w2 :=
  ⟨h1.1.kept (w' := w2) (row := none) ⟨hb.os, hb.tape, hb.output, hb.size, fun j hj _ => hb.block j hj⟩ (by rcases Option.eq_none_or_eq_some (Value.ownBlock q1) with h | ⟨x, h⟩; exact Or.inl h; exact Or.inr (by rw [h]; simp)),
   grown_trans h1.2.1 (grown_of_below hb q1.ownBlock) h1.2.2, h1.2.2⟩
end Go.Proofs.Ytdencaekailmcaa


/- Walks: what stands at a place. -/
namespace Go.Proofs.Ytdencaekailmcaa
open Go.RowKit
set_option linter.unusedSimpArgs false
set_option linter.unusedVariables false

/-- A list of numbers in memory. -/
def PV (w : World) (X : Nat → Prop) (v : Value) (zs : List Int) : Prop :=
  ∃ a c, v = .slice a zs.length c ∧ (zs.length ≤ 9223372036854775807 ∧ zs.length ≤ c) ∧ (zs = [] ∨ ∃ b o, a = some ⟨b, o, none⟩ ∧ X b ∧ ∀ i (h : i < zs.length), w.cell? ⟨b, o + i, none⟩ = some (.int .i64 zs[i]))

theorem PV.kept {w w' : World} {X : Nat → Prop} {v : Value} {zs : List Int} (h : PV w X v zs) (hk : ∀ b, X b → w'.heap[b]? = w.heap[b]?) : PV w' X v zs := by
  obtain ⟨a, c, e, hl, h⟩ := h
  refine ⟨a, c, e, hl, ?_⟩
  rcases h with h | ⟨b, o, e, hx, h⟩
  · exact Or.inl h
  · exact Or.inr ⟨b, o, e, hx, fun i hi => by rw [World.cell?_of_block (hk b hx)]; exact h i hi⟩

theorem PV.mono {w : World} {X Y : Nat → Prop} {v : Value} {zs : List Int} (h : PV w X v zs) (hk : ∀ b, X b → b < w.heap.size → Y b) : PV w Y v zs := by
  obtain ⟨a, c, e, hl, h⟩ := h
  refine ⟨a, c, e, hl, ?_⟩
  rcases h with h | ⟨b, o, e, hx, h⟩
  · exact Or.inl h
  · by_cases h0 : zs = []
    · exact Or.inl h0
    · have hp : 0 < zs.length := List.length_pos_iff.2 h0
      exact Or.inr ⟨b, o, e, hk b hx (World.block_lt_of_cell? w _ (h 0 hp)), h⟩

theorem PV.below {w w' : World} {X : Nat → Prop} {v : Value} {zs : List Int} {B : Nat} (h : PV w X v zs) (hb : Below B w w') (hX : ∀ b, X b → b < w.heap.size → b < B) : PV w' X v zs := by
  have h1 : PV w (fun b => X b ∧ b < B) v zs := h.mono fun b hx hs => ⟨hx, hX b hx hs⟩
  have h2 : PV w' (fun b => X b ∧ b < B) v zs := h1.kept fun b hx => hb.block b hx.2
  exact h2.mono fun b hx _ => hx.1

theorem PV.later {w w' : World} {X : Nat → Prop} {v : Value} {zs : List Int} (h : PV w X v zs) (hb : Below w.heap.size w w') : PV w' X v zs := h.below hb (fun _ _ h => h)
theorem PV.alloc {w : World} {X : Nat → Prop} {v : Value} {zs : List Int} (h : PV w X v zs) (o : Obj) : PV (w.alloc o) X v zs := h.later ((Below.refl _ _).alloc (Nat.le_refl _) o)

theorem below2 {w : World} (o1 o2 : Obj) : Below w.heap.size w ((w.alloc o1).alloc o2) := ((Below.refl _ _).alloc (Nat.le_refl _) _).alloc (by simp) _

end Go.Proofs.Ytdencaekailmcaa

/- The places of a term, and rows of lists of numbers. -/
namespace Go.Proofs.Ytdencaekailmcaa
open Go.RowKit
set_option linter.unusedSimpArgs false
set_option linter.unusedVariables false

/-- These cells are these lists. -/
def RowP (w : World) (Z : Nat → Prop) : List (List Int) → List Value → Prop
  | [], xs => xs = []
  | z :: r, xs => ∃ u xs', xs = u :: xs' ∧ PV w Z u z ∧ RowP w Z r xs'

theorem RowP.len {w : World} {Z : Nat → Prop} : ∀ {l : List (List Int)} {xs : List Value}, RowP w Z l xs → xs.length = l.length
  | [], xs, h => by simp [RowP] at h; simp [h]
  | z :: l, xs, h => by obtain ⟨u, xs', rfl, _, h⟩ := h; simp [RowP.len h]
theorem RowP.append {w : World} {Z : Nat → Prop} : ∀ {l k : List (List Int)} {xs ys : List Value}, RowP w Z l xs → RowP w Z k ys → RowP w Z (l ++ k) (xs ++ ys)
  | [], k, xs, ys, h, h' => by simp [RowP] at h; subst h; simpa using h'
  | z :: l, k, xs, ys, h, h' => by obtain ⟨u, xs', rfl, hp, h⟩ := h; exact ⟨u, xs' ++ ys, rfl, hp, RowP.append h h'⟩
theorem RowP.imp {w w' : World} {Z Z' : Nat → Prop} (hs : ∀ u z, PV w Z u z → PV w' Z' u z) : ∀ {l : List (List Int)} {xs : List Value}, RowP w Z l xs → RowP w' Z' l xs
  | [], xs, h => h
  | z :: l, xs, h => by obtain ⟨u, xs', e, hp, h⟩ := h; exact ⟨u, xs', e, hs _ _ hp, RowP.imp hs h⟩
theorem RowP.get {w : World} {Z : Nat → Prop} : ∀ {l : List (List Int)} {xs : List Value}, RowP w Z l xs → ∀ i (h : i < l.length), ∃ u, xs[i]? = some u ∧ PV w Z u l[i]
  | [], xs, h, i, hi => by simp at hi
  | z :: l, xs, h, i, hi => by
    obtain ⟨u, xs', rfl, hp, h⟩ := h
    cases i with
    | zero => exact ⟨u, rfl, hp⟩
    | succ i => obtain ⟨u', h1, h2⟩ := RowP.get h i (by simpa using hi); exact ⟨u', by simpa using h1, h2⟩
theorem PV.one {w : World} {Z : Nat → Prop} {u : Value} {z : List Int} (h : PV w Z u z) : u.oneCell' = true := by obtain ⟨a, c, rfl, _⟩ := h; rfl

theorem Try.infoInt : (Try.prog.info? 3).map (fun i => (i.zero, i.size, i.bytes)) = some (some (.int .i64 0), 1, 8) := by kernel_rfl
/-- Out of a row that a call owns. -/
theorem pv_of_own {w : World} {N T : Nat} {v : Value} {l : List Int} (h : w.ownsRow N T 1 v l.length (l.map fun z => .int .i64 z)) : PV w (fun b => N ≤ b ∧ v.ownBlock = some b) v l := by
  have h' := h
  obtain ⟨_, h1⟩ := h
  rcases h1 with ⟨rfl, h0⟩ | ⟨g, cap, cur, hv, hg, hh, hnc, hcm, _⟩
  · have e : l = [] := List.length_eq_zero_iff.1 h0
    subst e
    exact ⟨none, 0, rfl, by simp, Or.inl rfl⟩
  · unfold maxLen at hcm
    refine ⟨some ⟨g, 0, none⟩, cap, hv, ⟨by omega, hnc⟩, ?_⟩
    by_cases h0 : l = []
    · exact Or.inl h0
    · have hp : 0 < l.length := List.length_pos_iff.2 h0
      obtain ⟨g2, cap2, hv2, _, _, hc⟩ := owned_val h' hp
      rw [hv] at hv2
      simp at hv2
      obtain ⟨rfl, rfl⟩ := hv2
      exact Or.inr ⟨g, 0, rfl, ⟨hg, by rw [hv]; rfl⟩, fun i hi => by rw [Nat.zero_add]; exact hc i _ (by simp [hi])⟩

end Go.Proofs.Ytdencaekailmcaa

/- But for one block the world is as it was. -/
namespace Go.Proofs.Ytdencaekailmcaa
open Go.RowKit
set_option linter.unusedSimpArgs false
set_option linter.unusedVariables false
set_option maxRecDepth 8000

/-- But for block B the world is as it was. -/
structure Ex (B : Nat) (w w' : World) : Prop where
  os : w'.os = w.os
  tape : w'.tape = w.tape
  output : w'.output = w.output
  size : w.heap.size ≤ w'.heap.size
  block : ∀ k, k < w.heap.size → k ≠ B → w'.heap[k]? = w.heap[k]?
theorem Ex.refl (B : Nat) (w : World) : Ex B w w := ⟨rfl, rfl, rfl, Nat.le_refl _, fun _ _ _ => rfl⟩
theorem Ex.trans {B : Nat} {a b c : World} (h : Ex B a b) (k : Ex B b c) : Ex B a c :=
  ⟨k.os.trans h.os, k.tape.trans h.tape, k.output.trans h.output, Nat.le_trans h.size k.size, fun i hi hn => (k.block i (Nat.lt_of_lt_of_le hi h.size) hn).trans (h.block i hi hn)⟩
theorem Ex.drewN {B : Nat} {a w : World} (h : Ex B a w) (n : Nat) : Ex B a (w.drewN n) := ⟨h.os, h.tape, h.output, h.size, h.block⟩
theorem Ex.drew {B : Nat} {a w : World} (h : Ex B a w) : Ex B a w.drew := ⟨h.os, h.tape, h.output, h.size, h.block⟩
theorem Ex.set {B : Nat} {a w : World} (h : Ex B a w) (i : Nat) (v : Value) : Ex B a (w.setCell ⟨B, i, none⟩ v) :=
  ⟨h.os, h.tape, h.output, by simpa [World.setCell] using h.size, fun k hk hn => (Below.heap_setCell _ _ _ _ (by simpa using hn)).trans (h.block k hk hn)⟩

theorem Ex.alloc {B : Nat} {a w : World} (h : Ex B a w) (o : Obj) : Ex B a (w.alloc o) :=
  ⟨h.os, h.tape, h.output, by have := h.size; simp; omega, fun k hk hn => (Below.heap_alloc _ _ _ (Nat.lt_of_lt_of_le hk h.size)).trans (h.block k hk hn)⟩

theorem Blk.ex {w w' : World} {B b T : Nat} {cs : Array Value} (h : Blk w b cs T) (he : Ex B w w') (hne : b ≠ B) : Blk w' b cs T := by
  unfold Blk at *
  rw [he.block b (Blk.lt h) hne]; exact h
theorem Ex.mid {B : Nat} {w w1 : World} (h : Ex B w w1) : ∃ wm, Below wm.heap.size wm w1 ∧ wm.heap.size = w.heap.size ∧ Ex B w wm := by
  by_cases hB : B < w.heap.size
  · have hB1 : B < w1.heap.size := Nat.lt_of_lt_of_le hB h.size
    refine ⟨{ w with heap := w.heap.setIfInBounds B w1.heap[B] }, ⟨h.os, h.tape, h.output, by simpa using h.size, fun k hk => ?_⟩, by simp, ⟨rfl, rfl, rfl, by simp, fun k hk hn => ?_⟩⟩
    · simp at hk
      by_cases e : k = B
      · subst e
        simp [Array.getElem?_setIfInBounds, hB, hB1]
      · rw [h.block k hk e]
        simp [Array.getElem?_setIfInBounds, Ne.symm e]
    · simp [Array.getElem?_setIfInBounds, Ne.symm hn]
  · exact ⟨w, ⟨h.os, h.tape, h.output, h.size, fun k hk => h.block k hk (by omega)⟩, rfl, Ex.refl _ _⟩

theorem Row.ex {w w' : World} {B N T : Nat} {Y : Nat → Prop} {v : Value} {l : List Tm} {xs : List Value} (h : Row w N T Y v l xs) (he : Ex B w w') (hB : B < N) (hY : ¬ Y B) : Row w' N T Y v l xs :=
  ⟨h.own.kept (w' := w') (row := some B) ⟨he.os, he.tape, he.output, he.size, fun j hj hn => he.block j hj (fun e => hn (by rw [e]))⟩ (Or.inr (fun e => by have := (h.own.lt B e).1; omega)),
   h.row.imp fun a l hs => ((hs.mono (Y := fun b => (Y b ∨ (N ≤ b ∧ some b ≠ v.ownBlock)) ∧ b < w.heap.size) fun b h1 h2 => ⟨h1, h2⟩).kept fun b hb => he.block b hb.2 (fun e => by
     rcases hb.1 with h1 | h1
     · rw [e] at h1; exact hY h1
     · omega)).mono fun b hb _ => hb.1⟩

theorem Ex.grown {B : Nat} {a w w' : World} {row : Option Nat} (h : Ex B a w) (hg : w.grownBy w' row) (hr : ∀ k, row = some k → a.heap.size ≤ k) : Ex B a w' :=
  ⟨hg.os.trans h.os, hg.tape.trans h.tape, hg.output.trans h.output, Nat.le_trans h.size hg.size, fun k hk hn => (hg.block k (Nat.lt_of_lt_of_le hk h.size) (fun e => by have := hr k e.symm; omega)).trans (h.block k hk hn)⟩
end Go.Proofs.Ytdencaekailmcaa

/- Automata in memory. -/
namespace Go.Proofs.Ytdencaekailmcaa
open Go.RowKit
set_option linter.unusedSimpArgs false
set_option linter.unusedVariables false
set_option maxRecDepth 8000

theorem cell_ltA {w : World} {b o : Nat} {v : Value} (h : w.cell? ⟨b, o, none⟩ = some v) : b < w.heap.size := World.block_lt_of_cell? w _ h
/-- A move lies there. -/
def MvAt (w : World) (X : Nat → Prop) (b o : Nat) (m : Mv) : Prop :=
  w.cell? ⟨b, o, none⟩ = some (.string m.name) ∧ (∃ a c, w.cell? ⟨b, o + 1, none⟩ = some (.slice a m.frm.length c) ∧ PV w X (.slice a m.frm.length c) m.frm) ∧ w.cell? ⟨b, o + 2, none⟩ = some (.int .i64 m.to)
def SlV (w : World) (X : Nat → Prop) (a : Option Addr) (l : List Mv) : Prop := l.length ≤ 9223372036854775807 ∧ (l = [] ∨ ∃ b o, a = some ⟨b, o, none⟩ ∧ X b ∧ ∀ i (h : i < l.length), MvAt w X b (o + i * 3) l[i])
def AV (w : World) (X : Nat → Prop) (v : Value) (A : Au) : Prop := ∃ am cm al cl, v = .agg #[.int .i64 A.st, .slice am A.mv.length cm, .slice al A.la.length cl] ∧ SlV w X am A.mv ∧ PV w X (.slice al A.la.length cl) A.la
theorem MvAt.later {w w' : World} {X : Nat → Prop} {b o : Nat} {m : Mv} (h : MvAt w X b o m) (hb : Below w.heap.size w w') : MvAt w' X b o m := by
  obtain ⟨h0, ⟨a, c, h1, h2⟩, h3⟩ := h
  exact ⟨(hb.cell (p := ⟨b, o, none⟩) (cell_ltA h0)).trans h0, ⟨a, c, (hb.cell (p := ⟨b, o + 1, none⟩) (cell_ltA h1)).trans h1, h2.later hb⟩, (hb.cell (p := ⟨b, o + 2, none⟩) (cell_ltA h3)).trans h3⟩
theorem SlV.later {w w' : World} {X : Nat → Prop} {a : Option Addr} {l : List Mv} (h : SlV w X a l) (hb : Below w.heap.size w w') : SlV w' X a l := by
  obtain ⟨hl, h⟩ := h
  refine ⟨hl, ?_⟩
  rcases h with h | ⟨b, o, e, hx, h⟩
  · exact Or.inl h
  · exact Or.inr ⟨b, o, e, hx, fun i hi => (h i hi).later hb⟩
theorem SlV.mono {w : World} {X Y : Nat → Prop} {a : Option Addr} {l : List Mv} (h : SlV w X a l) (hk : ∀ b, X b → b < w.heap.size → Y b) : SlV w Y a l := by
  obtain ⟨hl, h⟩ := h
  refine ⟨hl, ?_⟩
  rcases h with h | ⟨b, o, e, hx, h⟩
  · exact Or.inl h
  · by_cases h0 : l = []
    · exact Or.inl h0
    · refine Or.inr ⟨b, o, e, hk b hx (cell_ltA (h 0 (List.length_pos_iff.2 h0)).1), fun i hi => ?_⟩
      obtain ⟨g0, ⟨a', c', g1, g2⟩, g3⟩ := h i hi
      exact ⟨g0, ⟨a', c', g1, g2.mono hk⟩, g3⟩
theorem AV.later {w w' : World} {X : Nat → Prop} {v : Value} {A : Au} (h : AV w X v A) (hb : Below w.heap.size w w') : AV w' X v A := by
  obtain ⟨am, cm, al, cl, e, h1, h2⟩ := h
  exact ⟨am, cm, al, cl, e, h1.later hb, h2.later hb⟩
theorem SlV.get {w wr : World} {X : Nat → Prop} {a : Option Addr} {l : List Mv} (h : SlV w X a l) (hb : Below w.heap.size w wr) (k : Nat) (hk : k < l.length) :
    ∃ b o af cf, a = some ⟨b, o, none⟩ ∧ b < w.heap.size ∧ wr.cell? ⟨b, o + k * 3, none⟩ = some (.string l[k].name) ∧ wr.cell? ⟨b, o + k * 3 + 1, none⟩ = some (.slice af l[k].frm.length cf) ∧ wr.cell? ⟨b, o + k * 3 + 2, none⟩ = some (.int .i64 l[k].to) ∧ PV wr X (.slice af l[k].frm.length cf) l[k].frm := by
  rcases h.2 with h0 | ⟨b, o, e, hx, h1⟩
  · subst h0; simp at hk
  · have hl := cell_ltA (h1 k hk).1
    obtain ⟨g0, ⟨a', c', g1, g2⟩, g3⟩ := (h1 k hk).later hb
    exact ⟨b, o, a', c', e, hl, g0, g1, g3, g2⟩
theorem PV.at {w wr : World} {X : Nat → Prop} {a : Option Addr} {n c : Nat} {zs : List Int} (h : PV w X (.slice a n c) zs) (hb : Below w.heap.size w wr) (k : Nat) (hk : k < zs.length) : ∃ b o, a = some ⟨b, o, none⟩ ∧ b < w.heap.size ∧ wr.cell? ⟨b, o + k, none⟩ = some (.int .i64 zs[k]) := by
  obtain ⟨a', c', e, _, h⟩ := h
  simp only [Value.slice.injEq] at e
  obtain ⟨rfl, rfl, rfl⟩ := e
  rcases h with h0 | ⟨b, o, e, hx, h1⟩
  · subst h0; simp at hk
  · have hl := cell_ltA (h1 k hk)
    exact ⟨b, o, e, hl, (hb.cell (p := ⟨b, o + k, none⟩) hl).trans (h1 k hk)⟩
theorem PV.len {w : World} {X : Nat → Prop} {a : Option Addr} {n c : Nat} {zs : List Int} (h : PV w X (.slice a n c) zs) : zs.length ≤ 9223372036854775807 ∧ n = zs.length := by
  obtain ⟨a', c', e, hl, h⟩ := h
  simp only [Value.slice.injEq] at e
  exact ⟨hl.1, e.2.1⟩

/-- These cells are these moves. -/
def RowTV (w : World) (X : Nat → Prop) : List Mv → List Value → Prop
  | [], xs => xs = []
  | m :: r, xs => ∃ a c q, xs = .string m.name :: .slice a m.frm.length c :: .int .i64 m.to :: q ∧ PV w X (.slice a m.frm.length c) m.frm ∧ RowTV w X r q
theorem RowTV.append {w : World} {X : Nat → Prop} : ∀ {l k : List Mv} {xs ys : List Value}, RowTV w X l xs → RowTV w X k ys → RowTV w X (l ++ k) (xs ++ ys)
  | [], k, xs, ys, h, h' => by simp [RowTV] at h; subst h; simpa using h'
  | t :: l, k, xs, ys, h, h' => by
    obtain ⟨a, c, r, rfl, hs, h⟩ := h
    exact ⟨a, c, r ++ ys, rfl, hs, RowTV.append h h'⟩
theorem RowTV.imp {w w' : World} {X Y : Nat → Prop} (hs : ∀ v l, PV w X v l → PV w' Y v l) : ∀ {l : List Mv} {xs : List Value}, RowTV w X l xs → RowTV w' Y l xs
  | [], xs, h => h
  | t :: l, xs, h => by
    obtain ⟨a, c, r, e, h1, h⟩ := h
    exact ⟨a, c, r, e, hs _ _ h1, RowTV.imp hs h⟩
theorem RowTV.get {w : World} {X : Nat → Prop} : ∀ {l : List Mv} {xs : List Value}, RowTV w X l xs → ∀ (k : Nat) (h : k < l.length), ∃ a c, xs[k * 3]? = some (.string l[k].name) ∧ xs[k * 3 + 1]? = some (.slice a l[k].frm.length c) ∧ xs[k * 3 + 2]? = some (.int .i64 l[k].to) ∧ PV w X (.slice a l[k].frm.length c) l[k].frm
  | t :: l, xs, h, 0, _ => by
    obtain ⟨a, c, r, rfl, hs, _⟩ := h
    exact ⟨a, c, rfl, rfl, rfl, hs⟩
  | t :: l, xs, h, k + 1, hk => by
    obtain ⟨a, c, r, rfl, _, h⟩ := h
    obtain ⟨a', c', h1, h2, h3, h4⟩ := RowTV.get h k (by simpa using hk)
    refine ⟨a', c', ?_, ?_, ?_, h4⟩
    · rw [show (k + 1) * 3 = k * 3 + 3 by omega]; simpa using h1
    · rw [show (k + 1) * 3 + 1 = k * 3 + 1 + 3 by omega]; simpa using h2
    · rw [show (k + 1) * 3 + 2 = k * 3 + 2 + 3 by omega]; simpa using h3

/-- The automaton that is being made: its box O, the moves' row, the last states' row, apart from what the moves come from. -/
structure OutA (w : World) (N O : Nat) (st : Int) (ms : List Mv) (ls : List Int) (mv lv : Value) (xs : List Value) (X : Nat → Prop) : Prop where
  blk : Blk w O #[.int .i64 st, mv, lv] 25
  own : w.ownsRow N 50 3 mv ms.length xs
  row : RowTV w X ms xs
  las : w.ownsRow N 3 1 lv ls.length (ls.map fun z => .int .i64 z)
  on : O < N
  dis : ∀ g, mv.ownBlock = some g → lv.ownBlock ≠ some g
  nx : ∀ b, X b → N ≤ b ∧ some b ≠ mv.ownBlock ∧ some b ≠ lv.ownBlock
theorem owns_keptA {w w' : World} {N T s n : Nat} {v : Value} {xs : List Value} (h : w.ownsRow N T s v n xs) (hk : ∀ b, v.ownBlock = some b → w'.heap[b]? = w.heap[b]?) : w'.ownsRow N T s v n xs := by
  obtain ⟨hl, h1⟩ := h
  refine ⟨hl, ?_⟩
  rcases h1 with h1 | ⟨g, cap, cur, hv, hg, hh, hr⟩
  · exact Or.inl h1
  · exact Or.inr ⟨g, cap, cur, hv, hg, by rw [hk g (by subst hv; rfl)]; exact hh, hr⟩
theorem OutA.below {w w' : World} {N O : Nat} {st : Int} {ms : List Mv} {ls : List Int} {mv lv : Value} {xs : List Value} {X : Nat → Prop} (h : OutA w N O st ms ls mv lv xs X) (hb : Below w.heap.size w w') : OutA w' N O st ms ls mv lv xs X :=
  ⟨h.blk.below hb h.blk.lt, owns_keptA h.own fun b e => hb.block b (h.own.lt b e).2, h.row.imp fun v l hp => hp.later hb, owns_keptA h.las fun b e => hb.block b (h.las.lt b e).2, h.on, h.dis, h.nx⟩
theorem OutA.start {w : World} {O : Nat} {st : Int} (h : Blk w O #[.int .i64 st, .slice none 0 0, .slice none 0 0] 25) : OutA w w.heap.size O st [] [] (.slice none 0 0) (.slice none 0 0) [] (fun _ => False) :=
  ⟨h, World.ownsRow_nil _ _ _ _, rfl, World.ownsRow_nil _ _ _ _, h.lt, fun g e => by simp [Value.ownBlock] at e, fun b h => h.elim⟩

theorem Try.infoMove : (Try.prog.info? 50).map (fun i => (i.zero, i.size, i.bytes)) = some (some (.agg #[.string ByteArray.empty, .slice none 0 0, .int .i64 0]), 3, 48) := by kernel_rfl
theorem add_at (P j : Nat) : (⟨P, 0, none⟩ : Addr).add j = ⟨P, j, none⟩ := by
  by_cases h0 : j = 0
  · subst h0; simp [Addr.add]
  · simp [Addr.add, h0]
/-- One more move. -/
theorem OutA.push {wN w W : World} {N O P : Nat} {st : Int} {ms : List Mv} {ls : List Int} {mv lv : Value} {xs : List Value} {X : Nat → Prop} {m : Mv} {a : Option Addr} {c : Nat} (h : OutA w N O st ms ls mv lv xs X) (hN : N ≤ w.heap.size) (hb : Below w.heap.size w W) (hE : Ex O wN W) (hNs : wN.heap.size = N)
    (hP : Blk W P #[.string m.name, .slice a m.frm.length c, .int .i64 m.to] 50) (hf : PV W (fun b => w.heap.size ≤ b) (.slice a m.frm.length c) m.frm) (hl : ms.length ≤ 100000) :
    ∃ g cap W1 ys X', (Builtin.append_ #[22, 22] 22 #[mv, .slice (some ⟨P, 0, none⟩) 1 1]).run Try.prog W = .ok (.slice (some ⟨g, 0, none⟩) (ms.length + 1) cap) W1 ∧ Blk W1 O #[.int .i64 st, mv, lv] 25 ∧
      OutA (W1.setCell ⟨O, 1, none⟩ (.slice (some ⟨g, 0, none⟩) (ms.length + 1) cap)) N O st (ms ++ [m]) ls (.slice (some ⟨g, 0, none⟩) (ms.length + 1) cap) lv ys X' ∧ Ex O wN (W1.setCell ⟨O, 1, none⟩ (.slice (some ⟨g, 0, none⟩) (ms.length + 1) cap)) ∧ ∀ b, X b → b < w.heap.size → X' b ∧ (W1.setCell ⟨O, 1, none⟩ (.slice (some ⟨g, 0, none⟩) (ms.length + 1) cap)).heap[b]? = w.heap[b]? := by
  obtain ⟨i0, hi, hz0, hz1, hz2⟩ := info_parts Try.infoMove
  have hbs := hb.size
  have hon := h.on
  have hlt := h.own.lt
  have hll := h.las.lt
  have hk := h.below hb
  obtain ⟨g, cap, W1, hr, ho, hg, hat, hgl⟩ := run_append_lies (P := Try.prog) (w := W) 22 22 N 50 i0 _ 3 48 Try.underlying22 hi hz0 hz1 hz2 rfl (by decide) mv ms.length xs hk.own
    ⟨P, 0, none⟩ 1 1 [.string m.name, .slice a m.frm.length c, .int .i64 m.to] rfl (fun j u hj => by
      rw [add_at, hP.cell j]
      simpa using hj) (fun u hu => by simp at hu; rcases hu with rfl | rfl | rfl <;> rfl) (by decide) (by unfold maxLen; omega) (by omega) (by omega) _ rfl
  have hgN : N ≤ g := (ho.lt g rfl).1
  have hO1 : Blk W1 O #[.int .i64 st, mv, lv] 25 := hk.blk.grown hg (fun e => by have := (hlt O e.symm).1; omega)
  have set : ∀ b, b ≠ O → (W1.setCell ⟨O, 1, none⟩ (.slice (some ⟨g, 0, none⟩) (ms.length + 1) cap)).heap[b]? = W1.heap[b]? := fun b hne => Below.heap_setCell _ _ _ _ (by simpa using hne)
  have old : ∀ b, b < w.heap.size → b ≠ O → some b ≠ mv.ownBlock → (W1.setCell ⟨O, 1, none⟩ (.slice (some ⟨g, 0, none⟩) (ms.length + 1) cap)).heap[b]? = w.heap[b]? := fun b h1 h2 h3 => by
    rw [set b h2, hg.block b (by omega) h3, hb.block b h1]
  have mid : ∀ b, w.heap.size ≤ b → b < W.heap.size → (W1.setCell ⟨O, 1, none⟩ (.slice (some ⟨g, 0, none⟩) (ms.length + 1) cap)).heap[b]? = W.heap[b]? := fun b h1 h2 => by
    rw [set b (by omega), hg.block b h2 (fun e => by have := (hlt b e.symm).2; omega)]
  refine ⟨g, cap, W1, xs ++ [.string m.name, .slice a m.frm.length c, .int .i64 m.to], fun b => (X b ∧ b < w.heap.size) ∨ (w.heap.size ≤ b ∧ b < W.heap.size), hr, hO1, ⟨?_, ?_, ?_, ?_, hon, ?_, ?_⟩, ?_, ?_⟩
  · exact hO1.set 1 _
  · have h1 := owns_keptA ho (w' := W1.setCell ⟨O, 1, none⟩ (.slice (some ⟨g, 0, none⟩) (ms.length + 1) cap)) (fun b e => set b (by simp [Value.ownBlock] at e; omega))
    simpa using h1
  · refine RowTV.append (h.row.imp fun v l hp => ?_) ⟨a, c, [], rfl, ?_, rfl⟩
    · have h1 : PV w (fun b => X b ∧ b < w.heap.size) v l := hp.mono fun b h1 h2 => ⟨h1, h2⟩
      exact (h1.kept fun b hx => old b hx.2 (by have := (h.nx b hx.1).1; omega) (h.nx b hx.1).2.1).mono fun b hx _ => Or.inl hx
    · have h1 : PV W (fun b => w.heap.size ≤ b ∧ b < W.heap.size) (.slice a m.frm.length c) m.frm := hf.mono fun b h1 h2 => ⟨h1, h2⟩
      exact (h1.kept fun b hx => mid b hx.1 hx.2).mono fun b hx _ => Or.inr hx
  · exact owns_keptA h.las fun b e => old b (hll b e).2 (by have := (hll b e).1; omega) (fun e2 => h.dis b e2.symm e)
  · intro g' e e2
    simp [Value.ownBlock] at e
    subst e
    rcases hat with e3 | e3
    · exact h.dis _ e3 e2
    · have := (hll _ e2).2; omega
  · intro b hx
    refine ⟨?_, ?_, ?_⟩
    · rcases hx with hx | hx
      · exact (h.nx b hx.1).1
      · omega
    · intro e
      simp [Value.ownBlock] at e
      subst e
      rcases hat with e3 | e3
      · rcases hx with hx | hx
        · exact (h.nx b hx.1).2.1 e3.symm
        · have := (hlt b e3).2; omega
      · rcases hx with hx | hx <;> omega
    · rcases hx with hx | hx
      · exact (h.nx b hx.1).2.2
      · intro e; have := (hll b e.symm).2; omega
  · exact (hE.grown hg (fun k e => by have := (hlt k e).1; omega)).set 1 _
  · exact fun b h1 h2 => ⟨Or.inl ⟨h1, h2⟩, old b h2 (by have := (h.nx b h1).1; omega) (h.nx b h1).2.1⟩
/-- One more last state. -/
theorem OutA.pushL {wN w W : World} {N O P : Nat} {st : Int} {ms : List Mv} {ls : List Int} {mv lv : Value} {xs : List Value} {X : Nat → Prop} {x : Int} (h : OutA w N O st ms ls mv lv xs X) (hN : N ≤ w.heap.size) (hb : Below w.heap.size w W) (hE : Ex O wN W) (hNs : wN.heap.size = N)
    (hP : Blk W P #[.int .i64 x] 3) (hl : ls.length ≤ 100000) :
    ∃ g cap W1 X', (Builtin.append_ #[23, 23] 23 #[lv, .slice (some ⟨P, 0, none⟩) 1 1]).run Try.prog W = .ok (.slice (some ⟨g, 0, none⟩) (ls.length + 1) cap) W1 ∧ Blk W1 O #[.int .i64 st, mv, lv] 25 ∧
      OutA (W1.setCell ⟨O, 2, none⟩ (.slice (some ⟨g, 0, none⟩) (ls.length + 1) cap)) N O st ms (ls ++ [x]) mv (.slice (some ⟨g, 0, none⟩) (ls.length + 1) cap) xs X' ∧ Ex O wN (W1.setCell ⟨O, 2, none⟩ (.slice (some ⟨g, 0, none⟩) (ls.length + 1) cap)) ∧ ∀ b, X b → b < w.heap.size → X' b ∧ (W1.setCell ⟨O, 2, none⟩ (.slice (some ⟨g, 0, none⟩) (ls.length + 1) cap)).heap[b]? = w.heap[b]? := by
  obtain ⟨i0, hi, hz0, hz1, hz2⟩ := info_parts Try.infoInt
  have hbs := hb.size
  have hon := h.on
  have hlt := h.own.lt
  have hll := h.las.lt
  have hk := h.below hb
  obtain ⟨g, cap, W1, hr, ho, hg, hat, hgl⟩ := run_append_lies (P := Try.prog) (w := W) 23 23 N 3 i0 _ 1 8 Try.underlying23 hi hz0 hz1 hz2 rfl (by decide) lv ls.length _ hk.las
    ⟨P, 0, none⟩ 1 1 [.int .i64 x] rfl (fun j u hj => by
      rw [add_at, hP.cell j]
      simpa using hj) (fun u hu => by simp at hu; subst hu; rfl) (by decide) (by unfold maxLen; omega) (by omega) (by omega) _ rfl
  have hgN : N ≤ g := (ho.lt g rfl).1
  have hO1 : Blk W1 O #[.int .i64 st, mv, lv] 25 := hk.blk.grown hg (fun e => by have := (hll O e.symm).1; omega)
  have set : ∀ b, b ≠ O → (W1.setCell ⟨O, 2, none⟩ (.slice (some ⟨g, 0, none⟩) (ls.length + 1) cap)).heap[b]? = W1.heap[b]? := fun b hne => Below.heap_setCell _ _ _ _ (by simpa using hne)
  have old : ∀ b, b < w.heap.size → b ≠ O → some b ≠ lv.ownBlock → (W1.setCell ⟨O, 2, none⟩ (.slice (some ⟨g, 0, none⟩) (ls.length + 1) cap)).heap[b]? = w.heap[b]? := fun b h1 h2 h3 => by
    rw [set b h2, hg.block b (by omega) h3, hb.block b h1]
  refine ⟨g, cap, W1, fun b => X b ∧ b < w.heap.size, hr, hO1, ⟨?_, ?_, ?_, ?_, hon, ?_, ?_⟩, ?_, ?_⟩
  · exact hO1.set 2 _
  · exact owns_keptA h.own fun b e => old b (hlt b e).2 (by have := (hlt b e).1; omega) (fun e2 => h.dis b e e2.symm)
  · refine h.row.imp fun v l hp => ?_
    have h1 : PV w (fun b => X b ∧ b < w.heap.size) v l := hp.mono fun b h1 h2 => ⟨h1, h2⟩
    exact h1.kept fun b hx => old b hx.2 (by have := (h.nx b hx.1).1; omega) (h.nx b hx.1).2.2
  · have h1 := owns_keptA ho (w' := W1.setCell ⟨O, 2, none⟩ (.slice (some ⟨g, 0, none⟩) (ls.length + 1) cap)) (fun b e => set b (by simp [Value.ownBlock] at e; omega))
    simpa using h1
  · intro g' e e2
    simp [Value.ownBlock] at e2
    subst e2
    rcases hat with e3 | e3
    · exact h.dis _ e e3
    · have := (hlt _ e).2; omega
  · intro b hx
    refine ⟨(h.nx b hx.1).1, (h.nx b hx.1).2.1, ?_⟩
    intro e
    simp [Value.ownBlock] at e
    subst e
    rcases hat with e3 | e3
    · exact (h.nx b hx.1).2.2 e3.symm
    · have := hx.2; omega
  · exact (hE.grown hg (fun k e => by have := (hll k e).1; omega)).set 2 _
  · exact fun b h1 h2 => ⟨⟨h1, h2⟩, old b h2 (by have := (h.nx b h1).1; omega) (h.nx b h1).2.2⟩
/-- Blocks more that are kept. -/
theorem OutA.more {w : World} {N O : Nat} {st : Int} {ms : List Mv} {ls : List Int} {mv lv : Value} {xs : List Value} {X : Nat → Prop} (h : OutA w N O st ms ls mv lv xs X) (Z : Nat → Prop) (hZ : ∀ b, Z b → N ≤ b ∧ some b ≠ mv.ownBlock ∧ some b ≠ lv.ownBlock) : OutA w N O st ms ls mv lv xs (fun b => X b ∨ Z b) :=
  ⟨h.blk, h.own, h.row.imp fun v l hp => hp.mono fun b h _ => Or.inl h, h.las, h.on, h.dis, fun b hb => by
    rcases hb with hb | hb
    · exact h.nx b hb
    · exact hZ b hb⟩
/-- What has been made. -/
theorem OutA.av {w : World} {N O : Nat} {st : Int} {ms : List Mv} {ls : List Int} {mv lv : Value} {xs : List Value} {X : Nat → Prop} (h : OutA w N O st ms ls mv lv xs X) : AV w (fun b => N ≤ b) (.agg #[.int .i64 st, mv, lv]) ⟨st, ms, ls⟩ := by
  have hp := pv_of_own h.las
  have hp2 : PV w (fun b => N ≤ b) lv ls := hp.mono fun _ h _ => h.1
  obtain ⟨al, cl, rfl, _⟩ := hp
  have hml : ms.length ≤ 9223372036854775807 := by
    rcases h.own.2 with ⟨_, h0⟩ | ⟨g, cap, cur, _, _, _, h1, h2, _⟩
    · omega
    · unfold maxLen at h2; omega
  by_cases h0 : 0 < ms.length
  · obtain ⟨g, cap, rfl, hg, hlt, hc⟩ := owned_val h.own h0
    refine ⟨_, _, al, cl, rfl, ⟨hml, Or.inr ⟨g, 0, rfl, hg, fun i hi => ?_⟩⟩, hp2⟩
    obtain ⟨a, c, h1, h2, h3, h4⟩ := h.row.get i hi
    rw [Nat.zero_add]
    exact ⟨hc _ _ h1, ⟨a, c, hc _ _ h2, h4.mono fun b hb _ => (h.nx b hb).1⟩, hc _ _ h3⟩
  · have e : ms = [] := List.length_eq_zero_iff.1 (by omega)
    subst e
    rcases h.own.2 with ⟨hv, _⟩ | ⟨g, cap, cur, hv, _⟩
    · exact ⟨none, 0, al, cl, by subst hv; rfl, ⟨by simp, Or.inl rfl⟩, hp2⟩
    · exact ⟨_, _, al, cl, by subst hv; rfl, ⟨by simp, Or.inl rfl⟩, hp2⟩
end Go.Proofs.Ytdencaekailmcaa

/- Walks: states, sets of them. -/
namespace Go.Proofs.Ytdencaekailmcaa
open Go.RowKit
set_option linter.unusedSimpArgs false
set_option linter.unusedVariables false
set_option maxRecDepth 8000

theorem okSt_take {n : Int} {zs : List Int} {k : Nat} (h : k < zs.length) (hk : okSt n (zs.take k) = true) (h1 : 0 ≤ zs[k] ∧ zs[k] < n) : okSt n (zs.take (k + 1)) = true := by
  rw [List.take_succ_eq_append_getElem h]
  unfold okSt at *
  rw [List.all_append, hk]
  simp
  exact h1
theorem okSt_bad {n : Int} {zs : List Int} {k : Nat} (h : k < zs.length) (h1 : ¬ (0 ≤ zs[k] ∧ zs[k] < n)) : okSt n zs = false := by
  rw [Bool.eq_false_iff]
  intro h2
  exact h1 (okSt_mem h2 _ (List.getElem_mem h))
set_option maxHeartbeats 400000 in
theorem areStates_any (n : Int) (zs : List Int) (v : Value) (w : World) (X : Nat → Prop) (hv : PV w X v zs) :
    Calls Try.prog 38 #[.int .i64 n, v] w fun e w' => e = .returned (.bool (okSt n zs)) ∧ Below w.heap.size w w' := by
  obtain ⟨a, c, rfl, hl, _⟩ := id hv
  have HV := hide hv
  clear hv
  go_enter Try.func38, Try.ntmps38
  go_wp2_with fail
  go_loopw [9] (fun i wr => ∃ k : Nat, k ≤ zs.length ∧ i = .int .i64 (k : Int) ∧ okSt n (zs.take k) = true ∧ wr = w) (fun i wr => zs.length - (intOf i).toNat)
  case atStart => exact ⟨0, Nat.zero_le _, rfl, by simp [okSt], rfl⟩
  case round =>
    obtain ⟨k, hk, rfl, hok, rfl⟩ := hrel
    have HOK := hide hok
    clear hok
    by_cases hlt : k < zs.length
    · have hki : (k : Int) < (zs.length : Int) := by omega
      obtain ⟨b, o, rfl, hb, hc⟩ := HV.out.at (Below.refl wr.heap.size wr) k hlt
      obtain ⟨z, hz⟩ : ∃ z, z = zs[k] := ⟨_, rfl⟩
      have HZ := hide hz
      rw [← hz] at hc
      clear hz
      by_cases h1 : z < 0
      · have HB : Hid (okSt n zs = false) := okSt_bad hlt (by rw [← HZ.out]; omega)
        go_wp2_with fail
        go_ret
        exact ⟨by rw [HB.out]; rfl, Below.refl _ _⟩
      · by_cases h2 : n ≤ z
        · have HB : Hid (okSt n zs = false) := okSt_bad hlt (by rw [← HZ.out]; omega)
          go_wp2_with fail
          go_ret
          exact ⟨by rw [HB.out]; rfl, Below.refl _ _⟩
        · have HB : Hid (okSt n (zs.take (k + 1)) = true) := okSt_take hlt HOK.out (by rw [← HZ.out]; omega)
          go_wp2_with fail
          go_roundw
          case rel => exact ⟨k + 1, by omega, by go_num, HB.out, trivial⟩
          case measure => simp [intOf]; omega
    · have hki : ¬ (k : Int) < (zs.length : Int) := by omega
      have HB : Hid (okSt n zs = true) := by unfold Hid; rw [show zs = zs.take k by rw [List.take_of_length_le (by omega)]]; exact HOK.out
      go_wp2_with fail
      go_ret
      exact ⟨by rw [HB.out]; rfl, Below.refl _ _⟩

theorem bit_and (x s : Nat) (hx : x < 18446744073709551616) : (bits BinOp.and IntKind.u64 ((x : Int) / 2 ^ s) 1 != 0) = x.testBit s := by
  have h1 : ((x : Int) / 2 ^ s) = ((x / 2 ^ s : Nat) : Int) := by simp
  have h2 : x / 2 ^ s < 18446744073709551616 := Nat.lt_of_le_of_lt (Nat.div_le_self _ _) hx
  have h3 : bits BinOp.and IntKind.u64 ((x / 2 ^ s : Nat) : Int) ((1 : Nat) : Int) = ((x / 2 ^ s &&& 1 : Nat) : Int) := u64_and_nat _ _ h2 (by omega)
  rw [h1]
  rw [show (1 : Int) = ((1 : Nat) : Int) from rfl, h3, Nat.testBit, Nat.shiftRight_eq_div_pow, Nat.and_comm]
  cases h : (1 &&& x / 2 ^ s) with
  | zero => simp
  | succ n => simp; omega
set_option maxHeartbeats 400000 in
theorem has_any (x s : Nat) (hs : s < 64) (hx : x < 18446744073709551616) (w : World) :
    Calls Try.prog 50 #[.int .u64 (x : Int), .int .i64 (s : Int)] w fun e w' => e = .returned (.bool (x.testBit s)) ∧ w' = w := by
  have HB := hide (bit_and x s hx)
  go_enter Try.func50, Try.ntmps50
  go_wp2_with fail
  rw [HB.out]
  go_ret
  exact ⟨rfl, rfl⟩

/-- The set of these states. -/
def setN (zs : List Int) : Nat := zs.foldl (fun x z => x ||| 2 ^ z.toNat) 0
theorem setN_snoc (zs : List Int) (z : Int) : setN (zs ++ [z]) = setN zs ||| 2 ^ z.toNat := by simp [setN]
theorem setN_bit (zs : List Int) (h : ∀ z ∈ zs, 0 ≤ z) (s : Nat) : (setN zs).testBit s = decide ((s : Int) ∈ zs) := by
  have key : ∀ (zs : List Int) (x : Nat), (∀ z ∈ zs, 0 ≤ z) → (zs.foldl (fun x z => x ||| 2 ^ z.toNat) x).testBit s = (x.testBit s || decide ((s : Int) ∈ zs)) := by
    intro zs
    induction zs with
    | nil => intro x _; simp
    | cons z r ih =>
      intro x hz
      have hz0 := hz z (by simp)
      rw [List.foldl_cons, ih _ (fun y hy => hz y (List.mem_cons_of_mem _ hy)), Nat.testBit_or, Nat.testBit_two_pow]
      rw [Bool.or_assoc]
      congr 1
      by_cases e : (s : Int) = z
      · have : z.toNat = s := by omega
        simp [e, this]
      · have : z.toNat ≠ s := by omega
        simp [e, this]
  have := key zs 0 h
  simpa [setN] using this
theorem setN_lt (zs : List Int) (h : ∀ z ∈ zs, z < 64) : setN zs < 18446744073709551616 := by
  have key : ∀ (zs : List Int) (x : Nat), x < 2 ^ 64 → (∀ z ∈ zs, z < 64) → zs.foldl (fun x z => x ||| 2 ^ z.toNat) x < 2 ^ 64 := by
    intro zs
    induction zs with
    | nil => intro x hx _; exact hx
    | cons z r ih =>
      intro x hx hz
      refine ih _ (Nat.or_lt_two_pow hx ?_) (fun y hy => hz y (List.mem_cons_of_mem _ hy))
      exact Nat.pow_lt_pow_right (by omega) (by have := hz z (by simp); omega)
  exact key zs 0 (by decide) h
theorem setN_step (x s : Nat) (hx : x < 18446744073709551616) (hs : s < 64) : bits BinOp.or IntKind.u64 (x : Int) (IntKind.u64.wrap (2 ^ s)) = ((x ||| 2 ^ s : Nat) : Int) := by
  have h2 : 2 ^ s < 18446744073709551616 := Nat.pow_lt_pow_right (n := 64) (by omega) hs
  have h1 : IntKind.u64.wrap (2 ^ s) = ((2 ^ s : Nat) : Int) := by
    have h3 : (2 : Int) ^ s = ((2 ^ s : Nat) : Int) := by simp
    rw [h3, IntKind.wrap_u64]
    generalize 2 ^ s = y at *
    omega
  rw [h1]
  exact u64_or_nat _ _ hx h2
set_option maxHeartbeats 400000 in
theorem setOf_any (zs : List Int) (hz : ∀ z ∈ zs, 0 ≤ z ∧ z < 64) (v : Value) (w : World) (X : Nat → Prop) (hv : PV w X v zs) :
    Calls Try.prog 32 #[v] w fun e w' => e = .returned (.int .u64 (setN zs : Int)) ∧ w' = w := by
  obtain ⟨a, c, rfl, hl, _⟩ := id hv
  have HV := hide hv
  have HZ := hide hz
  clear hv hz
  go_enter Try.func32, Try.ntmps32
  go_wp2_with fail
  go_loopw [3, 8] (fun q i wr => ∃ k : Nat, k ≤ zs.length ∧ i = .int .i64 (k : Int) ∧ q = .int .u64 (setN (zs.take k) : Int) ∧ wr = w) (fun q i wr => zs.length - (intOf i).toNat)
  case atStart => exact ⟨0, Nat.zero_le _, rfl, rfl, rfl⟩
  case round =>
    obtain ⟨k, hk, rfl, rfl, rfl⟩ := hrel
    by_cases hlt : k < zs.length
    · have hki : (k : Int) < (zs.length : Int) := by omega
      obtain ⟨b, o, rfl, hb, hc⟩ := HV.out.at (Below.refl wr.heap.size wr) k hlt
      have h9 := HZ.out zs[k] (List.getElem_mem hlt)
      obtain ⟨s, hs⟩ : ∃ s : Nat, zs[k] = (s : Int) := ⟨zs[k].toNat, by omega⟩
      have HN : Hid (setN (zs.take (k + 1)) = setN (zs.take k) ||| 2 ^ s) := by
        unfold Hid
        rw [List.take_succ_eq_append_getElem hlt, setN_snoc, hs]
        simp
      rw [hs] at hc h9
      have HL := hide (setN_lt (zs.take k) (fun z hz => (HZ.out z (List.mem_of_mem_take hz)).2))
      generalize setN (zs.take k) = x at *
      have HST := hide (setN_step x s HL.out (by omega))
      clear hs
      go_wp2_with fail
      rw [HST.out]
      go_roundw
      case rel => exact ⟨k + 1, by omega, by go_num, by rw [HN.out], trivial⟩
      case measure => simp [intOf]; omega
    · have hki : ¬ (k : Int) < (zs.length : Int) := by omega
      have HB : Hid (zs.take k = zs) := List.take_of_length_le (by omega)
      go_wp2_with fail
      go_ret
      exact ⟨by rw [HB.out]; rfl, rfl⟩
end Go.Proofs.Ytdencaekailmcaa

/- Walks: an automaton is asked; its last states. -/
namespace Go.Proofs.Ytdencaekailmcaa
open Go.RowKit
set_option linter.unusedSimpArgs false
set_option linter.unusedVariables false
set_option maxRecDepth 8000

/-- One more number behind a row of one's own. -/
theorem rowZ_push {W : World} {N P : Nat} {v : Value} {l : List Int} {x : Int} (h : W.ownsRow N 3 1 v l.length (l.map fun z => .int .i64 z)) (hN : N ≤ W.heap.size) (hP : Blk W P #[.int .i64 x] 3) (hl : l.length ≤ 100000) :
    ∃ g cap W1, (Builtin.append_ #[23, 23] 23 #[v, .slice (some ⟨P, 0, none⟩) 1 1]).run Try.prog W = .ok (.slice (some ⟨g, 0, none⟩) (l.length + 1) cap) W1 ∧ W1.ownsRow N 3 1 (.slice (some ⟨g, 0, none⟩) (l.length + 1) cap) (l ++ [x]).length ((l ++ [x]).map fun z => .int .i64 z) ∧ W.grownBy W1 v.ownBlock ∧ N ≤ g := by
  obtain ⟨i0, hi, hz0, hz1, hz2⟩ := info_parts Try.infoInt
  obtain ⟨g, cap, W1, hr, ho, hg, hat, hgl⟩ := run_append_lies (P := Try.prog) (w := W) 23 23 N 3 i0 _ 1 8 Try.underlying23 hi hz0 hz1 hz2 rfl (by decide) v l.length _ h
    ⟨P, 0, none⟩ 1 1 [.int .i64 x] rfl (fun j u hj => by
      rw [add_at, hP.cell j]
      simpa using hj) (fun u hu => by simp at hu; subst hu; rfl) (by decide) (by unfold maxLen; omega) (by omega) hN _ rfl
  exact ⟨g, cap, W1, hr, by simpa using ho, hg, (ho.lt g rfl).1⟩

/-- The last states below a number. -/
def lastK (A : Au) (k : Nat) : List Int := ((List.range k).filter fun (s : Nat) => decide ((s : Int) ∈ A.la)).map fun (s : Nat) => (s : Int)
theorem lastK_succ (A : Au) (k : Nat) : lastK A (k + 1) = if (k : Int) ∈ A.la then lastK A k ++ [(k : Int)] else lastK A k := by
  unfold lastK
  rw [List.range_succ, List.filter_append, List.map_append]
  by_cases h : (k : Int) ∈ A.la <;> simp [h]
theorem lastK_len (A : Au) (k : Nat) : (lastK A k).length ≤ k := by
  unfold lastK
  rw [List.length_map]
  exact Nat.le_trans (List.length_filter_le _ _) (by simp)
set_option maxHeartbeats 1000000 in
theorem lastOnce_any (A : Au) {S M : Nat} (hS : S ≤ 64) (hA : OkAu S M A) (v : Value) (w : World) (X : Nat → Prop) (hv : AV w X v A) :
    Calls Try.prog 34 #[v] w fun e w' => ∃ a c, e = .returned (.slice a (lastO A).length c) ∧ PV w' (fun b => w.heap.size ≤ b) (.slice a (lastO A).length c) (lastO A) ∧ Below w.heap.size w w' := by
  obtain ⟨am, cm, al, cl, rfl, hm, hp⟩ := hv
  obtain ⟨n, hn⟩ : ∃ n : Nat, A.st = (n : Int) := ⟨A.st.toNat, by have := hA.pos; omega⟩
  have hn64 : n ≤ 64 := by have := hA.st; omega
  have HLO : Hid (lastO A = lastK A n) := by unfold Hid lastO lastK; rw [hn]; rfl
  have HLA : Hid (∀ z ∈ A.la, 0 ≤ z ∧ z < 64) := fun z hz => by have := hA.la z hz; omega
  have HBT := hide (fun s : Nat => setN_bit A.la (fun z hz => (HLA.out z hz).1) s)
  have HST := hide (setN_lt A.la (fun z hz => (HLA.out z hz).2))
  rw [hn]
  have B1 : Hid (Below w.heap.size w (w.alloc (.cells #[.int .i64 (n : Int), .slice am A.mv.length cm, .slice al A.la.length cl] 25))) := (Below.refl _ _).alloc (Nat.le_refl _) _
  have T1 : Hid (Blk (w.alloc (.cells #[.int .i64 (n : Int), .slice am A.mv.length cm, .slice al A.la.length cl] 25)) w.heap.size #[.int .i64 (n : Int), .slice am A.mv.length cm, .slice al A.la.length cl] 25) := Blk.new w _ _
  have P1 := hide (hp.later B1.out)
  clear hm hp hA
  go_enter Try.func34, Try.ntmps34
  go_upto_region 2 with fail
  generalize (w.alloc (.cells #[.int .i64 (n : Int), .slice am A.mv.length cm, .slice al A.la.length cl] 25)) = w1 at *
  have c0 : w1.cell? ⟨w.heap.size, 0, none⟩ = some (.int .i64 (n : Int)) := T1.out.cell 0
  have c2 : w1.cell? ⟨w.heap.size, 2, none⟩ = some (.slice al A.la.length cl) := T1.out.cell 2
  have hlt1 := T1.out.lt
  go_wp2_with fail
  refine (setOf_any A.la HLA.out _ w1 X P1.out).mono ?_
  rintro e w2 ⟨rfl, rfl⟩
  generalize setN A.la = x at *
  go_wp2_with fail
  go_loopw [3, 11] (fun q i wr => ∃ k : Nat, k ≤ n ∧ i = .int .i64 (k : Int) ∧ wr.ownsRow w2.heap.size 3 1 q (lastK A k).length ((lastK A k).map fun z => .int .i64 z) ∧ Below w2.heap.size w2 wr) (fun q i wr => n - (intOf i).toNat)
  case atStart => exact ⟨0, Nat.zero_le _, rfl, World.ownsRow_nil _ _ _ _, Below.refl _ _⟩
  case round =>
    obtain ⟨k, hk, rfl, hown, hb⟩ := hrel
    obtain ⟨w3, rfl⟩ : ∃ w3, w3 = wr := ⟨_, rfl⟩
    obtain ⟨aq, cq, hq, _⟩ := pv_of_own hown
    subst hq
    have HOWN := hide hown
    have HB := hide hb
    have HLK := hide (lastK_len A k)
    clear hown hb
    by_cases hlt : k < n
    · have hki : (k : Int) < (n : Int) := by omega
      go_wp2_with fail
      refine (has_any x k (by omega) HST.out _).mono ?_
      rintro e w4 ⟨rfl, rfl⟩
      rw [HBT.out k]
      by_cases hin : (k : Int) ∈ A.la
      · have HNX : Hid (lastK A (k + 1) = lastK A k ++ [(k : Int)]) := by unfold Hid; rw [lastK_succ, if_pos hin]
        have hd : decide ((k : Int) ∈ A.la) = true := by simpa using hin
        rw [hd]
        obtain ⟨g, cap, W1, hr, ho, hg, hgN⟩ := rowZ_push (x := (k : Int)) (W := w4.alloc (.cells #[.int .i64 (k : Int)] 3)) (owns_keptA HOWN.out (fun b e => Below.heap_alloc _ _ _ (HOWN.out.lt b e).2)) (by have := HB.out.size; simp; omega) (Blk.new w4 _ _) (by have := HLK.out; omega)
        have HRUN := hide hr
        have HO2 := hide ho
        have HB5 : Hid (Below w2.heap.size w2 W1) := (HB.out.alloc HB.out.size _).grown hg (by have := HB.out.size; simp; omega) (fun q hq => (HOWN.out.lt q hq).1)
        clear hr ho hg hd hin
        go_wp2_with (at_builtin; refine wpList_append_eq rfl _ _ _ _ rfl rfl rfl HRUN.out ?_)
        go_roundw
        case rel => exact ⟨k + 1, by omega, by go_num, by rw [HNX.out, List.length_append]; have h9 := HO2.out; rw [List.length_append] at h9; exact h9, HB5.out⟩
        case measure => simp [intOf]; omega
      · have HNX : Hid (lastK A (k + 1) = lastK A k) := by unfold Hid; rw [lastK_succ, if_neg hin]
        have hd : decide ((k : Int) ∈ A.la) = false := by simpa using hin
        rw [hd]
        clear hd hin
        go_wp2_with fail
        go_roundw
        case rel => exact ⟨k + 1, by omega, by go_num, by rw [HNX.out]; exact HOWN.out, HB.out⟩
        case measure => simp [intOf]; omega
    · have hki : ¬ (k : Int) < (n : Int) := by omega
      have hkn : k = n := by omega
      subst hkn
      go_wp2_with fail
      go_ret
      rw [HLO.out]
      have h9 := pv_of_own HOWN.out
      exact ⟨aq, cq, rfl, h9.mono fun b h1 _ => Nat.le_trans B1.out.size h1.1, B1.out.trans (HB.out.mono B1.out.size)⟩
end Go.Proofs.Ytdencaekailmcaa

/- Walks: may an automaton be? -/
namespace Go.Proofs.Ytdencaekailmcaa
open Go.RowKit
set_option linter.unusedSimpArgs false
set_option linter.unusedVariables false
set_option maxRecDepth 8000

theorem pv_one (w : World) (x : Int) : PV (w.alloc (.cells #[.int .i64 x] 3)) (fun _ => True) (.slice (some ⟨w.heap.size, 0, none⟩) 1 1) [x] :=
  ⟨_, _, rfl, by simp, Or.inr ⟨w.heap.size, 0, rfl, trivial, fun i hi => by simp at hi; subst hi; exact (Blk.new w #[.int .i64 x] 3).cell 0⟩⟩
set_option maxHeartbeats 1000000 in
theorem checkMove_any (n : Int) (m : Mv) (a : Option Addr) (c : Nat) (w : World) (X : Nat → Prop) (hp : PV w X (.slice a m.frm.length c) m.frm) :
    Calls Try.prog 37 #[.int .i64 n, .agg #[.string m.name, .slice a m.frm.length c, .int .i64 m.to]] w fun e w' => e = .returned (.int .i64 (mvE n m)) ∧ Below w.heap.size w w' := by
  have hml := hp.len.1
  have B1 : Hid (Below w.heap.size w (w.alloc (.cells #[.string m.name, .slice a m.frm.length c, .int .i64 m.to] 50))) := (Below.refl _ _).alloc (Nat.le_refl _) _
  have T1 : Hid (Blk (w.alloc (.cells #[.string m.name, .slice a m.frm.length c, .int .i64 m.to] 50)) w.heap.size #[.string m.name, .slice a m.frm.length c, .int .i64 m.to] 50) := Blk.new w _ _
  have P1 := hide (hp.later B1.out)
  clear hp
  generalize hE : mvE n m = E
  unfold mvE at hE
  have HE := hide hE
  clear hE
  go_enter Try.func37, Try.ntmps37
  go_upto_region 1 with fail
  generalize (w.alloc (.cells #[.string m.name, .slice a m.frm.length c, .int .i64 m.to] 50)) = w1 at *
  have c0 : w1.cell? ⟨w.heap.size, 0, none⟩ = some (.string m.name) := T1.out.cell 0
  have c1 : w1.cell? ⟨w.heap.size, 1, none⟩ = some (.slice a m.frm.length c) := T1.out.cell 1
  have c2 : w1.cell? ⟨w.heap.size, 2, none⟩ = some (.int .i64 m.to) := T1.out.cell 2
  have hlt1 := T1.out.lt
  go_wp2_with fail
  refine (isName_any m.name _).mono ?_
  rintro e w2 ⟨rfl, rfl⟩
  cases h1 : nameB m.name with
  | false =>
    have hE : E = 1 := by rw [← HE.out, h1]; rfl
    subst hE
    clear h1
    go_wp2_with fail
    go_ret
    exact ⟨rfl, B1.out⟩
  | true =>
    go_wp2_with fail
    refine (isVariable_all m.name _).mono ?_
    rintro e w3 ⟨rfl, rfl⟩
    cases h2 : varB m.name with
    | true =>
      have hE : E = 1 := by rw [← HE.out, h1, h2]; rfl
      subst hE
      clear h1 h2
      go_wp2_with fail
      go_ret
      exact ⟨rfl, B1.out⟩
    | false =>
      have HE2 : Hid ((if 4 < m.frm.length then 3 else if (okSt n m.frm && okSt n [m.to]) = true then 0 else 10) = E) := by
        unfold Hid; rw [← HE.out, h1, h2]; rfl
      clear h1 h2 HE
      by_cases h3 : 4 < m.frm.length
      · have h3i : (4 : Int) < (m.frm.length : Int) := by omega
        have hE : E = 3 := by rw [← HE2.out, if_pos h3]
        subst hE
        go_wp2_with fail
        go_ret
        exact ⟨rfl, B1.out⟩
      · have h3i : ¬ (4 : Int) < (m.frm.length : Int) := by omega
        have HE3 : Hid ((if (okSt n m.frm && okSt n [m.to]) = true then 0 else 10) = E) := by
          unfold Hid; rw [← HE2.out, if_neg h3]
        clear HE2
        go_wp2_with fail
        refine (areStates_any n m.frm _ _ X (by exact P1.out)).mono ?_
        rintro e w4 ⟨rfl, hb4⟩
        have B4 := hide (B1.out.trans (hb4.mono B1.out.size))
        have T4 := hide (T1.out.below hb4 T1.out.lt)
        clear hb4 c0 c1 c2 hlt1
        cases h5 : okSt n m.frm with
        | false =>
          have hE : E = 10 := by rw [← HE3.out, h5]; rfl
          subst hE
          clear h5
          go_wp2_with fail
          go_ret
          exact ⟨rfl, B4.out⟩
        | true =>
          have HE4 : Hid ((if okSt n [m.to] = true then 0 else 10) = E) := by
            unfold Hid; rw [← HE3.out, h5]; rfl
          clear h5 HE3
          have c2 : w4.cell? ⟨w.heap.size, 2, none⟩ = some (.int .i64 m.to) := T4.out.cell 2
          have hlt1 := T4.out.lt
          go_wp2_with fail
          refine (areStates_any n [m.to] _ _ (fun _ => True) (by exact pv_one _ _)).mono ?_
          rintro e w5 ⟨rfl, hb5⟩
          have B5 := hide ((B4.out.alloc B4.out.size (.cells #[.int .i64 m.to] 3)).trans (hb5.mono (B4.out.alloc B4.out.size (.cells #[.int .i64 m.to] 3)).size))
          clear hb5 c2 hlt1
          cases h6 : okSt n [m.to] with
          | false =>
            have hE : E = 10 := by rw [← HE4.out, h6]; rfl
            subst hE
            clear h6
            go_wp2_with fail
            go_ret
            exact ⟨rfl, B5.out⟩
          | true =>
            have hE : E = 0 := by rw [← HE4.out, h6]; rfl
            subst hE
            clear h6
            go_wp2_with fail
            go_ret
            exact ⟨rfl, B5.out⟩
theorem mvsE_take {n : Int} {l : List Mv} {k : Nat} (h : k < l.length) (hk : mvsE n (l.take k) = 0) (h1 : mvE n l[k] = 0) : mvsE n (l.take (k + 1)) = 0 := by
  rw [List.take_succ_eq_append_getElem h]
  rw [mvsE_zero] at *
  intro m hm
  rcases List.mem_append.1 hm with hm | hm
  · exact hk m hm
  · simp at hm; subst hm; exact mvE_zero.1 h1
theorem mvsE_bad {n : Int} : ∀ {l : List Mv} {k : Nat} (h : k < l.length), mvsE n (l.take k) = 0 → mvE n l[k] ≠ 0 → mvsE n l = mvE n l[k]
  | m :: r, 0, _, _, h1 => by simp only [List.getElem_cons_zero] at *; unfold mvsE; rw [if_neg h1]
  | m :: r, k + 1, h, hk, h1 => by
    rw [List.take_succ_cons] at hk
    unfold mvsE at hk
    by_cases h0 : mvE n m = 0
    · rw [if_pos h0] at hk
      simp only [List.getElem_cons_succ] at *
      conv => lhs; unfold mvsE
      rw [if_pos h0]
      exact mvsE_bad (by simpa using h) hk h1
    · rw [if_neg h0] at hk; exact absurd hk h0
set_option maxHeartbeats 1000000 in
theorem aCheck_any (A : Au) (v : Value) (w : World) (X : Nat → Prop) (hv : AV w X v A) :
    Calls Try.prog 14 #[v] w fun e w' => e = .returned (.int .i64 (auE 8 40 A)) ∧ Below w.heap.size w w' := by
  obtain ⟨am, cm, al, cl, rfl, hm, hp⟩ := hv
  have hml := hm.1
  have B1 : Hid (Below w.heap.size w (w.alloc (.cells #[.int .i64 A.st, .slice am A.mv.length cm, .slice al A.la.length cl] 25))) := (Below.refl _ _).alloc (Nat.le_refl _) _
  have T1 : Hid (Blk (w.alloc (.cells #[.int .i64 A.st, .slice am A.mv.length cm, .slice al A.la.length cl] 25)) w.heap.size #[.int .i64 A.st, .slice am A.mv.length cm, .slice al A.la.length cl] 25) := Blk.new w _ _
  have P1 := hide (hp.later B1.out)
  have M1 := hide (hm.later B1.out)
  clear hp hm
  generalize hE : auE 8 40 A = E
  unfold auE at hE
  have HE := hide hE
  clear hE
  go_enter Try.func14, Try.ntmps14
  go_upto_region 1 with fail
  generalize (w.alloc (.cells #[.int .i64 A.st, .slice am A.mv.length cm, .slice al A.la.length cl] 25)) = w1 at *
  have c0 : w1.cell? ⟨w.heap.size, 0, none⟩ = some (.int .i64 A.st) := T1.out.cell 0
  have c1 : w1.cell? ⟨w.heap.size, 1, none⟩ = some (.slice am A.mv.length cm) := T1.out.cell 1
  have c2 : w1.cell? ⟨w.heap.size, 2, none⟩ = some (.slice al A.la.length cl) := T1.out.cell 2
  have hlt1 := T1.out.lt
  by_cases h1 : A.st < 0
  · have hE : E = 3 := by rw [← HE.out, if_pos (Or.inl h1)]
    subst hE
    go_wp2_with fail
    go_ret
    exact ⟨rfl, B1.out⟩
  by_cases h2 : 8 < A.st
  · have hE : E = 3 := by rw [← HE.out, if_pos (Or.inr (Or.inl (by exact_mod_cast h2)))]
    subst hE
    go_wp2_with fail
    go_ret
    exact ⟨rfl, B1.out⟩
  by_cases h3 : 40 < A.mv.length
  · have hE : E = 3 := by rw [← HE.out, if_pos (Or.inr (Or.inr h3))]
    have h3i : (40 : Int) < (A.mv.length : Int) := by omega
    subst hE
    go_wp2_with fail
    go_ret
    exact ⟨rfl, B1.out⟩
  have h3i : ¬ (40 : Int) < (A.mv.length : Int) := by omega
  have HE2 : Hid ((if mvsE A.st A.mv = 0 then (if okSt A.st A.la = true then 0 else 10) else mvsE A.st A.mv) = E) := by
    unfold Hid
    rw [← HE.out, if_neg (show ¬ (A.st < 0 ∨ ((8 : Nat) : Int) < A.st ∨ 40 < A.mv.length) by omega)]
  clear HE
  go_wp2_with fail
  go_loopw [23] (fun i wr => ∃ k : Nat, k ≤ A.mv.length ∧ i = .int .i64 (k : Int) ∧ mvsE A.st (A.mv.take k) = 0 ∧ Below w1.heap.size w1 wr) (fun i wr => A.mv.length - (intOf i).toNat)
  case atStart => exact ⟨0, Nat.zero_le _, rfl, rfl, Below.refl _ _⟩
  case round =>
    obtain ⟨k, hk, rfl, hok, hb⟩ := hrel
    obtain ⟨w2, rfl⟩ : ∃ w2, w2 = wr := ⟨_, rfl⟩
    have HOK := hide hok
    have HB := hide hb
    have T2 := hide (T1.out.below hb T1.out.lt)
    clear hok c0 c1 c2 hlt1
    have c0 : w2.cell? ⟨w.heap.size, 0, none⟩ = some (.int .i64 A.st) := T2.out.cell 0
    have c2 : w2.cell? ⟨w.heap.size, 2, none⟩ = some (.slice al A.la.length cl) := T2.out.cell 2
    have hlt2 := T2.out.lt
    by_cases hlt : k < A.mv.length
    · have hki : (k : Int) < (A.mv.length : Int) := by omega
      obtain ⟨b, o, af, cf, rfl, hbl, d0, d1, d2, hpf⟩ := M1.out.get hb k hlt
      obtain ⟨m, hm⟩ : ∃ m, m = A.mv[k] := ⟨_, rfl⟩
      have HM := hide hm
      rw [← hm] at d0 d1 d2 hpf
      have hbl2 : b < w2.heap.size := Nat.lt_of_lt_of_le hbl hb.size
      have PF := hide (hpf.later ((Below.refl w2.heap.size w2).alloc (Nat.le_refl _) (.cells #[.string m.name, .slice af m.frm.length cf, .int .i64 m.to] 50)))
      clear hm hpf hb
      go_wp2_with fail
      refine (checkMove_any A.st m af cf _ X (by exact PF.out)).mono ?_
      rintro e w3 ⟨rfl, hb3⟩
      have HB3 := hide ((HB.out.alloc HB.out.size (.cells #[.string m.name, .slice af m.frm.length cf, .int .i64 m.to] 50)).trans (hb3.mono (HB.out.alloc HB.out.size (.cells #[.string m.name, .slice af m.frm.length cf, .int .i64 m.to] 50)).size))
      clear hb3 c0 c2 d0 d1 d2
      by_cases h5 : mvE A.st m = 0
      · have HNX : Hid (mvsE A.st (A.mv.take (k + 1)) = 0) := mvsE_take hlt HOK.out (by rw [← HM.out]; exact h5)
        rw [h5]
        clear h5
        go_wp2_with fail
        go_roundw
        case rel => exact ⟨k + 1, by omega, by go_num, HNX.out, HB3.out⟩
        case measure => simp [intOf]; omega
      · have HNX : Hid (mvE A.st m = E) := by
          unfold Hid
          have h6 := mvsE_bad hlt HOK.out (by rw [← HM.out]; exact h5)
          rw [← HM.out] at h6
          rw [← HE2.out, if_neg (by rw [h6]; exact h5), h6]
        rw [HNX.out]
        rw [HNX.out] at h5
        have hne : (E == 0) = false := by simpa using h5
        have hne2 : (E != 0) = true := by simpa using h5
        clear h5
        go_wp2_with fail
        go_ret
        exact ⟨rfl, B1.out.trans (HB3.out.mono B1.out.size)⟩
    · have hki : ¬ (k : Int) < (A.mv.length : Int) := by omega
      have HE3 : Hid ((if okSt A.st A.la = true then 0 else 10) = E) := by
        unfold Hid
        have h6 := HOK.out
        rw [List.take_of_length_le (by omega)] at h6
        rw [← HE2.out, if_pos h6]
      have P2 := hide (P1.out.later hb)
      clear hb
      go_wp2_with fail
      refine (areStates_any A.st A.la _ _ X (by exact P2.out)).mono ?_
      rintro e w3 ⟨rfl, hb3⟩
      have HB3 := hide (HB.out.trans (hb3.mono HB.out.size))
      clear hb3
      cases h6 : okSt A.st A.la with
      | false =>
        have hE : E = 10 := by rw [← HE3.out, h6]; rfl
        subst hE
        clear h6
        go_wp2_with fail
        go_ret
        exact ⟨rfl, B1.out.trans (HB3.out.mono B1.out.size)⟩
      | true =>
        have hE : E = 0 := by rw [← HE3.out, h6]; rfl
        subst hE
        clear h6
        go_wp2_with fail
        go_ret
        exact ⟨rfl, B1.out.trans (HB3.out.mono B1.out.size)⟩
end Go.Proofs.Ytdencaekailmcaa

/- Walks: may an automaton be, as the document says? -/
namespace Go.Proofs.Ytdencaekailmcaa
open Go.RowKit
set_option linter.unusedSimpArgs false
set_option linter.unusedVariables false
set_option maxRecDepth 8000

end Go.Proofs.Ytdencaekailmcaa


/- Walks: one automaton beside the other. -/
namespace Go.Proofs.Ytdencaekailmcaa
open Go.RowKit
set_option linter.unusedSimpArgs false
set_option linter.unusedVariables false
set_option maxRecDepth 8000

theorem PV.ex {w w' : World} {O : Nat} {X : Nat → Prop} {v : Value} {zs : List Int} (h : PV w X v zs) (he : Ex O w w') (hX : ∀ b, X b → b ≠ O) : PV w' X v zs :=
  ((h.mono (Y := fun b => X b ∧ b < w.heap.size) fun b h1 h2 => ⟨h1, h2⟩).kept fun b hb => he.block b hb.2 (hX b hb.1)).mono fun b hb _ => hb.1
theorem cell_ex {w w' : World} {O b o : Nat} {u : Value} (h : w.cell? ⟨b, o, none⟩ = some u) (he : Ex O w w') (hb : b ≠ O) : w'.cell? ⟨b, o, none⟩ = some u := by
  rw [World.cell?_of_block (he.block b (cell_ltA h) hb)]; exact h
theorem SlV.ex {w w' : World} {O : Nat} {X : Nat → Prop} {a : Option Addr} {l : List Mv} (h : SlV w X a l) (he : Ex O w w') (hX : ∀ b, X b → b ≠ O) : SlV w' X a l := by
  obtain ⟨hl, h⟩ := h
  refine ⟨hl, ?_⟩
  rcases h with h | ⟨b, o, e, hx, h⟩
  · exact Or.inl h
  · refine Or.inr ⟨b, o, e, hx, fun i hi => ?_⟩
    obtain ⟨g0, ⟨a', c', g1, g2⟩, g3⟩ := h i hi
    exact ⟨cell_ex g0 he (hX b hx), ⟨a', c', cell_ex g1 he (hX b hx), g2.ex he hX⟩, cell_ex g3 he (hX b hx)⟩
end Go.Proofs.Ytdencaekailmcaa


/- Walks: Either. -/
namespace Go.Proofs.Ytdencaekailmcaa
open Go.RowKit
set_option linter.unusedSimpArgs false
set_option linter.unusedVariables false
set_option maxRecDepth 8000

theorem AV.mono {w : World} {X Y : Nat → Prop} {v : Value} {A : Au} (h : AV w X v A) (hk : ∀ b, X b → b < w.heap.size → Y b) : AV w Y v A := by
  obtain ⟨am, cm, al, cl, e, h1, h2⟩ := h
  exact ⟨am, cm, al, cl, e, h1.mono hk, h2.mono hk⟩
theorem AV.ex {w w' : World} {O : Nat} {X : Nat → Prop} {v : Value} {A : Au} (h : AV w X v A) (he : Ex O w w') (hX : ∀ b, X b → b ≠ O) : AV w' X v A := by
  obtain ⟨am, cm, al, cl, e, h1, h2⟩ := h
  exact ⟨am, cm, al, cl, e, h1.ex he hX, h2.ex he hX⟩
end Go.Proofs.Ytdencaekailmcaa


/- Walks: Either, and what is asked first. -/
namespace Go.Proofs.Ytdencaekailmcaa
open Go.RowKit
set_option linter.unusedSimpArgs false
set_option linter.unusedVariables false
set_option maxRecDepth 8000

end Go.Proofs.Ytdencaekailmcaa


/- Walks: Either. -/
namespace Go.Proofs.Ytdencaekailmcaa
open Go.RowKit
set_option linter.unusedSimpArgs false
set_option linter.unusedVariables false
set_option maxRecDepth 8000

end Go.Proofs.Ytdencaekailmcaa


/- Both at once: plain, and the closure. -/
namespace Go.Proofs.Ytdencaekailmcaa
open Go.RowKit
set_option linter.unusedSimpArgs false
set_option linter.unusedVariables false
set_option maxRecDepth 8000

theorem SlV.at {w : World} {X : Nat → Prop} {a : Option Addr} {l : List Mv} (h : SlV w X a l) (k : Nat) (hk : k < l.length) :
    ∃ b o af cf, a = some ⟨b, o, none⟩ ∧ X b ∧ w.cell? ⟨b, o + k * 3, none⟩ = some (.string l[k].name) ∧ w.cell? ⟨b, o + k * 3 + 1, none⟩ = some (.slice af l[k].frm.length cf) ∧ w.cell? ⟨b, o + k * 3 + 2, none⟩ = some (.int .i64 l[k].to) ∧ PV w X (.slice af l[k].frm.length cf) l[k].frm := by
  rcases h.2 with h0 | ⟨b, o, e, hx, h1⟩
  · subst h0; simp at hk
  · obtain ⟨g0, ⟨a', c', g1, g2⟩, g3⟩ := h1 k hk
    exact ⟨b, o, a', c', e, hx, g0, g1, g3, g2⟩
end Go.Proofs.Ytdencaekailmcaa

/- The tree that a lambda term is, and how it lies in memory. -/
namespace Go.Proofs.Ytdencaekailmcaa
open Go.RowKit

/-- A lambda term as a tree. -/
structure Lm where
  kind : Int
  idx : Int
  subs : List Lm

theorem Lm.ind {P : Lm → Prop} (h : ∀ k x l, (∀ y ∈ l, P y) → P ⟨k, x, l⟩) (t : Lm) : P t :=
  Lm.rec (motive_1 := P) (motive_2 := fun l => ∀ x ∈ l, P x) (fun k x l ih => h k x l ih) (fun x hx => by cases hx)
    (fun a l ha hl x hx => by
      rcases List.mem_cons.1 hx with e | e
      · subst e; exact ha
      · exact hl x e) t

theorem Lm.indL {P : List Lm → Prop} (h0 : P []) (h : ∀ k x l r, P l → P r → P (⟨k, x, l⟩ :: r)) (l : List Lm) : P l :=
  Lm.rec_1 (motive_1 := fun t => P t.subs) (motive_2 := P) (fun _ _ _ ih => ih) h0 (fun a l ha hl => by obtain ⟨k, x, m⟩ := a; exact h k x m l ha hl) l

/-- A list of lambda terms lies in a row of cells, three a term, in blocks that X lets. -/
def LiesM (w : World) (X : Nat → Prop) : Nat → Nat → List Lm → Prop
  | _, _, [] => True
  | b, o, ⟨k, x, l⟩ :: r => X b ∧ w.cell? ⟨b, o, none⟩ = some (.int .i64 k) ∧ w.cell? ⟨b, o + 1, none⟩ = some (.int .i64 x) ∧
      (∃ a c, w.cell? ⟨b, o + 2, none⟩ = some (.slice a l.length c) ∧ l.length ≤ 9223372036854775807 ∧ (l = [] ∨ ∃ b' o', a = some ⟨b', o', none⟩ ∧ LiesM w X b' o' l)) ∧ LiesM w X b (o + 3) r

/-- What a slice of lambda terms holds. -/
def SlM (w : World) (X : Nat → Prop) (a : Option Addr) (l : List Lm) : Prop := l.length ≤ 9223372036854775807 ∧ (l = [] ∨ ∃ b o, a = some ⟨b, o, none⟩ ∧ LiesM w X b o l)

/-- What a lambda term's value holds. -/
def MV (w : World) (X : Nat → Prop) (v : Value) (t : Lm) : Prop := ∃ a c, v = .agg #[.int .i64 t.kind, .int .i64 t.idx, .slice a t.subs.length c] ∧ SlM w X a t.subs

theorem liesM_kept {w w' : World} {X : Nat → Prop} (h : ∀ b, X b → w'.heap[b]? = w.heap[b]?) (l : List Lm) : ∀ b o, LiesM w X b o l → LiesM w' X b o l := by
  induction l using Lm.indL with
  | h0 => intro b o _; simp [LiesM]
  | h k x l r ihl ihr =>
    intro b o hl
    simp only [LiesM] at hl ⊢
    obtain ⟨hx, h1, h1', ⟨a, c, h2, h2', h3⟩, h4⟩ := hl
    refine ⟨hx, by rw [World.cell?_of_block (h b hx)]; exact h1, by rw [World.cell?_of_block (h b hx)]; exact h1', ⟨a, c, by rw [World.cell?_of_block (h b hx)]; exact h2, h2', ?_⟩, ihr _ _ h4⟩
    rcases h3 with h3 | ⟨b', o', h3, h5⟩
    · exact Or.inl h3
    · exact Or.inr ⟨b', o', h3, ihl _ _ h5⟩

theorem liesM_mono {w : World} {X Y : Nat → Prop} (h : ∀ b, X b → b < w.heap.size → Y b) (l : List Lm) : ∀ b o, LiesM w X b o l → LiesM w Y b o l := by
  induction l using Lm.indL with
  | h0 => intro b o _; simp [LiesM]
  | h k x l r ihl ihr =>
    intro b o hl
    simp only [LiesM] at hl ⊢
    obtain ⟨hx, h1, h1', ⟨a, c, h2, h2', h3⟩, h4⟩ := hl
    have hb : b < w.heap.size := by
      apply Classical.byContradiction
      intro hn
      have e : w.heap[b]? = none := Array.getElem?_eq_none (by omega)
      simp [World.cell?, e] at h1
    refine ⟨h b hx hb, h1, h1', ⟨a, c, h2, h2', ?_⟩, ihr _ _ h4⟩
    rcases h3 with h3 | ⟨b', o', h3, h5⟩
    · exact Or.inl h3
    · exact Or.inr ⟨b', o', h3, ihl _ _ h5⟩
theorem SlM.kept {w w' : World} {X : Nat → Prop} {a : Option Addr} {l : List Lm} (h : SlM w X a l) (hk : ∀ b, X b → w'.heap[b]? = w.heap[b]?) : SlM w' X a l := by
  obtain ⟨hl, h⟩ := h
  refine ⟨hl, ?_⟩
  rcases h with h | ⟨b, o, e, h⟩
  · exact Or.inl h
  · exact Or.inr ⟨b, o, e, liesM_kept hk _ _ _ h⟩

theorem SlM.mono {w : World} {X Y : Nat → Prop} {a : Option Addr} {l : List Lm} (h : SlM w X a l) (hk : ∀ b, X b → b < w.heap.size → Y b) : SlM w Y a l := by
  obtain ⟨hl, h⟩ := h
  refine ⟨hl, ?_⟩
  rcases h with h | ⟨b, o, e, h⟩
  · exact Or.inl h
  · exact Or.inr ⟨b, o, e, liesM_mono hk _ _ _ h⟩

theorem SlM.below {w w' : World} {X : Nat → Prop} {a : Option Addr} {l : List Lm} {B : Nat} (h : SlM w X a l) (hb : Below B w w') (hX : ∀ b, X b → b < w.heap.size → b < B) : SlM w' X a l := by
  have h1 : SlM w (fun b => X b ∧ b < B) a l := h.mono fun b hx hs => ⟨hx, hX b hx hs⟩
  have h2 : SlM w' (fun b => X b ∧ b < B) a l := h1.kept fun b hx => hb.block b hx.2
  exact h2.mono fun b hx _ => hx.1

theorem MV.kept {w w' : World} {X : Nat → Prop} {v : Value} {t : Lm} (h : MV w X v t) (hk : ∀ b, X b → w'.heap[b]? = w.heap[b]?) : MV w' X v t := by
  obtain ⟨a, c, e, h⟩ := h
  exact ⟨a, c, e, h.kept hk⟩

theorem MV.mono {w : World} {X Y : Nat → Prop} {v : Value} {t : Lm} (h : MV w X v t) (hk : ∀ b, X b → b < w.heap.size → Y b) : MV w Y v t := by
  obtain ⟨a, c, e, h⟩ := h
  exact ⟨a, c, e, h.mono hk⟩

theorem MV.below {w w' : World} {X : Nat → Prop} {v : Value} {t : Lm} {B : Nat} (h : MV w X v t) (hb : Below B w w') (hX : ∀ b, X b → b < w.heap.size → b < B) : MV w' X v t := by
  obtain ⟨a, c, e, h⟩ := h
  exact ⟨a, c, e, h.below hb hX⟩

theorem MV.alloc {w : World} {X : Nat → Prop} {v : Value} {t : Lm} (h : MV w X v t) (o : Obj) : MV (w.alloc o) X v t :=
  h.below ((Below.refl _ _).alloc (Nat.le_refl _) o) (fun _ _ h => h)

theorem MV.later {w w' : World} {X : Nat → Prop} {v : Value} {t : Lm} (h : MV w X v t) (hb : Below w.heap.size w w') : MV w' X v t := h.below hb (fun _ _ h => h)

theorem SlM.later {w w' : World} {X : Nat → Prop} {a : Option Addr} {l : List Lm} (h : SlM w X a l) (hb : Below w.heap.size w w') : SlM w' X a l := h.below hb (fun _ _ h => h)

/-- One of a row. -/
theorem liesM_get {w : World} {X : Nat → Prop} : ∀ (l : List Lm) (b o : Nat), LiesM w X b o l → ∀ i (h : i < l.length),
    X b ∧ w.cell? ⟨b, o + i * 3, none⟩ = some (.int .i64 l[i].kind) ∧ w.cell? ⟨b, o + i * 3 + 1, none⟩ = some (.int .i64 l[i].idx) ∧ ∃ a c, w.cell? ⟨b, o + i * 3 + 2, none⟩ = some (.slice a l[i].subs.length c) ∧ SlM w X a l[i].subs := by
  intro l
  induction l with
  | nil => intro b o _ i h; simp at h
  | cons t r ih =>
    intro b o hl i h
    obtain ⟨s, x, k⟩ := t
    simp only [LiesM] at hl
    obtain ⟨hx, h1, h1', ⟨a, c, h2, h3⟩, h4⟩ := hl
    cases i with
    | zero => exact ⟨hx, h1, h1', a, c, h2, h3⟩
    | succ i =>
      have := ih b (o + 3) h4 i (by simpa using h)
      simp only [List.getElem_cons_succ]
      rw [show o + (i + 1) * 3 = o + 3 + i * 3 by omega]
      exact this

/-- One of a slice, in a later world. -/
theorem SlM.get {w wr : World} {X : Nat → Prop} {a : Option Addr} {l : List Lm} {B : Nat} (h : SlM w X a l) (hb : Below B w wr) (hX : ∀ b, X b → b < w.heap.size → b < B) (k : Nat) (hk : k < l.length) :
    ∃ b o a' c', a = some ⟨b, o, none⟩ ∧ wr.cell? ⟨b, o + k * 3, none⟩ = some (.int .i64 l[k].kind) ∧ wr.cell? ⟨b, o + k * 3 + 1, none⟩ = some (.int .i64 l[k].idx) ∧ wr.cell? ⟨b, o + k * 3 + 2, none⟩ = some (.slice a' l[k].subs.length c') ∧ MV wr X (.agg #[.int .i64 l[k].kind, .int .i64 l[k].idx, .slice a' l[k].subs.length c']) l[k] := by
  have h' := h.below hb hX
  obtain ⟨_, h1⟩ := h'
  rcases h1 with h1 | ⟨b, o, e, h1⟩
  · subst h1; simp at hk
  · obtain ⟨_, h2, h2', a', c', h3, h4⟩ := liesM_get _ _ _ h1 k hk
    exact ⟨b, o, a', c', e, h2, h2', h3, a', c', rfl, h4⟩
end Go.Proofs.Ytdencaekailmcaa

/- Rows of lambda terms. -/
namespace Go.Proofs.Ytdencaekailmcaa
open Go.RowKit
set_option linter.unusedSimpArgs false
set_option linter.unusedVariables false

/-- These cells are these lambda terms. -/
def RowTM (w : World) (X : Nat → Prop) : List Lm → List Value → Prop
  | [], xs => xs = []
  | t :: l, xs => ∃ a c r, xs = .int .i64 t.kind :: .int .i64 t.idx :: .slice a t.subs.length c :: r ∧ SlM w X a t.subs ∧ RowTM w X l r
theorem RowTM.len {w : World} {X : Nat → Prop} : ∀ {l : List Lm} {xs : List Value}, RowTM w X l xs → xs.length = l.length * 3
  | [], xs, h => by simp [RowTM] at h; simp [h]
  | t :: l, xs, h => by
    obtain ⟨a, c, r, rfl, _, h⟩ := h
    simp only [List.length_cons]
    rw [RowTM.len h]; omega
theorem RowTM.append {w : World} {X : Nat → Prop} : ∀ {l k : List Lm} {xs ys : List Value}, RowTM w X l xs → RowTM w X k ys → RowTM w X (l ++ k) (xs ++ ys)
  | [], k, xs, ys, h, h' => by simp [RowTM] at h; subst h; simpa using h'
  | t :: l, k, xs, ys, h, h' => by
    obtain ⟨a, c, r, rfl, hs, h⟩ := h
    exact ⟨a, c, r ++ ys, rfl, hs, RowTM.append h h'⟩
theorem RowTM.imp {w w' : World} {X Y : Nat → Prop} (hs : ∀ a l, SlM w X a l → SlM w' Y a l) : ∀ {l : List Lm} {xs : List Value}, RowTM w X l xs → RowTM w' Y l xs
  | [], xs, h => h
  | t :: l, xs, h => by
    obtain ⟨a, c, r, e, h1, h⟩ := h
    exact ⟨a, c, r, e, hs _ _ h1, RowTM.imp hs h⟩
theorem liesM_of_row {w w' : World} {X Y : Nat → Prop} (b : Nat) (hb : Y b) : ∀ (l : List Lm) (xs : List Value) (o : Nat), RowTM w X l xs → (∀ a k, SlM w X a k → SlM w' Y a k) → (∀ j u, xs[j]? = some u → w'.cell? ⟨b, o + j, none⟩ = some u) → LiesM w' Y b o l := by
  intro l
  induction l with
  | nil => intro xs o _ _ _; simp [LiesM]
  | cons t r ih =>
    intro xs o h hs hc
    obtain ⟨s, x, k⟩ := t
    obtain ⟨a, c, r', rfl, h1, h2⟩ := h
    simp only [LiesM]
    obtain ⟨h3, h4⟩ := hs _ _ h1
    refine ⟨hb, hc 0 _ rfl, hc 1 _ rfl, ⟨a, c, hc 2 _ rfl, h3, h4⟩, ih r' (o + 3) h2 hs fun j u hj => ?_⟩
    have := hc (j + 3) u (by simpa using hj)
    rwa [show o + (j + 3) = o + 3 + j by omega] at this

/-- The row so far, apart from what its terms are made of: old memory that Y lets, and new memory. -/
structure RowM (w : World) (N : Nat) (T : Nat) (Y : Nat → Prop) (v : Value) (l : List Lm) (xs : List Value) : Prop where
  own : w.ownsRow N T 3 v l.length xs
  row : RowTM w (fun b => Y b ∨ (N ≤ b ∧ some b ≠ v.ownBlock)) l xs

theorem RowM.start (w : World) (N T : Nat) (Y : Nat → Prop) : RowM w N T Y (.slice none 0 0) [] [] := ⟨World.ownsRow_nil w N T 3, rfl⟩

theorem RowM.below {w w' : World} {N T : Nat} {Y : Nat → Prop} {v : Value} {l : List Lm} {xs : List Value} (h : RowM w N T Y v l xs) (hb : Below w.heap.size w w') : RowM w' N T Y v l xs :=
  ⟨h.own.kept (w' := w') (row := none) ⟨hb.os, hb.tape, hb.output, hb.size, fun j hj _ => hb.block j hj⟩ (by rcases Option.eq_none_or_eq_some (Value.ownBlock v) with h | ⟨x, h⟩; exact Or.inl h; exact Or.inr (by rw [h]; simp)),
   h.row.imp fun a l h => h.later hb⟩

theorem RowM.ne {w : World} {N T : Nat} {Y : Nat → Prop} {v : Value} {l : List Lm} {xs : List Value} (h : RowM w N T Y v l xs) {b : Nat} (hb : b < N) : some b ≠ v.ownBlock := fun e => by
  have := (h.own.lt b e.symm).1; omega

/-- One more: the term's cells have been laid into a block of their own, and appended. -/
theorem RowM.push {w w1 w2 w3 : World} {N T : Nat} {Y : Nat → Prop} {v : Value} {l : List Lm} {xs : List Value} (h : RowM w N T Y v l xs) (hN : N ≤ w.heap.size) (hY : ∀ b, Y b → b < N) (hb : Below w.heap.size w w1) {s s2 : Int} {a : Option Addr} {n c : Nat} {t : Lm}
    (ht : MV w1 (fun b => Y b ∨ w.heap.size ≤ b) (.agg #[.int .i64 s, .int .i64 s2, .slice a n c]) t) (o : Obj) (hw2 : w2 = w1.alloc o) {g cap : Nat}
    (hown : w3.ownsRow N T 3 (.slice (some ⟨g, 0, none⟩) (l.length + 1) cap) (l.length + 1) (xs ++ [.int .i64 s, .int .i64 s2, .slice a n c])) (hg : w2.grownBy w3 v.ownBlock) (hg1 : v.ownBlock = some g ∨ g = w2.heap.size) :
    RowM w3 N T Y (.slice (some ⟨g, 0, none⟩) (l.length + 1) cap) (l ++ [t]) (xs ++ [.int .i64 s, .int .i64 s2, .slice a n c]) := by
  subst hw2
  have hlt := h.own.lt
  refine ⟨by simpa using hown, ?_⟩
  have hsz : w1.heap.size ≤ (w1.alloc o).heap.size := by simp
  have hbs := hb.size
  have hgN : N ≤ g := by
    rcases hg1 with e | e
    · exact (hlt g e).1
    · simp at e; omega
  refine RowTM.append (h.row.imp fun a' k' hs => ?_) ?_
  · have h1 : SlM w (fun b => (Y b ∨ (N ≤ b ∧ some b ≠ v.ownBlock)) ∧ b < w.heap.size) a' k' := hs.mono fun b h1 h2 => ⟨h1, h2⟩
    have h2 : SlM w3 (fun b => (Y b ∨ (N ≤ b ∧ some b ≠ v.ownBlock)) ∧ b < w.heap.size) a' k' := h1.kept fun b hx => by
      have hne : some b ≠ v.ownBlock := by
        rcases hx.1 with hy | hy
        · exact h.ne (hY b hy)
        · exact hy.2
      rw [hg.block b (by simp; omega) hne, Below.heap_alloc _ _ _ (by omega), hb.block b hx.2]
    refine h2.mono fun b hx _ => ?_
    rcases hx.1 with hy | hy
    · exact Or.inl hy
    · refine Or.inr ⟨hy.1, fun e => ?_⟩
      simp [Value.ownBlock] at e
      rcases hg1 with e' | e'
      · exact hy.2 (by rw [e', e])
      · simp at e'; omega
  · obtain ⟨a2, c2, e, hs⟩ := ht
    simp at e
    obtain ⟨rfl, rfl, rfl, rfl, rfl⟩ := e
    refine ⟨a, c, [], rfl, ?_, rfl⟩
    have h1 : SlM w1 (fun b => (Y b ∨ w.heap.size ≤ b) ∧ b < w1.heap.size) a t.subs := hs.mono fun b h1 h2 => ⟨h1, h2⟩
    have h2 : SlM w3 (fun b => (Y b ∨ w.heap.size ≤ b) ∧ b < w1.heap.size) a t.subs := h1.kept fun b hx => by
      have hne : some b ≠ v.ownBlock := by
        rcases hx.1 with hy | hy
        · exact h.ne (hY b hy)
        · intro e; have := (hlt b e.symm).2; omega
      rw [hg.block b (by simp; omega) hne, Below.heap_alloc _ _ _ hx.2]
    refine h2.mono fun b hx _ => ?_
    rcases hx.1 with hy | hy
    · exact Or.inl hy
    · refine Or.inr ⟨by omega, fun e => ?_⟩
      simp [Value.ownBlock] at e
      rcases hg1 with e' | e'
      · have := (hlt g e').2; omega
      · simp at e'; omega

/-- A store into a block that is none of the row's. -/
theorem RowM.setCell {w : World} {N T : Nat} {Y : Nat → Prop} {v : Value} {l : List Lm} {xs : List Value} (h : RowM w N T Y v l xs) {b i : Nat} (hb : b < N) (hY : ¬ Y b) (u : Value) : RowM (w.setCell ⟨b, i, none⟩ u) N T Y v l xs :=
  ⟨ownsRow_setCell_below h.own (by simpa using hb) u, h.row.imp fun a k hs => hs.kept fun c hc => Below.heap_setCell _ _ _ _ (by
    simp
    rcases hc with hc | hc
    · intro e; subst e; exact hY hc
    · omega)⟩

theorem RowM.sl {w : World} {N T : Nat} {Y : Nat → Prop} {v : Value} {l : List Lm} {xs : List Value} (h : RowM w N T Y v l xs) : ∃ a c, v = .slice a l.length c ∧ SlM w (fun b => Y b ∨ N ≤ b) a l := by
  have hml : l.length ≤ 9223372036854775807 := by
    rcases h.own.2 with ⟨_, h0⟩ | ⟨g, cap, cur, _, _, _, h1, h2, _⟩
    · omega
    · unfold maxLen at h2; omega
  by_cases h0 : 0 < l.length
  · obtain ⟨g, cap, rfl, hg, hlt, hc⟩ := owned_val h.own h0
    exact ⟨_, _, rfl, hml, Or.inr ⟨g, 0, rfl, liesM_of_row g (Or.inr hg) l xs 0 h.row (fun a k hs => hs.mono fun b hb _ => hb.imp id (fun h => h.1)) (fun j u hj => by simpa using hc j u hj)⟩⟩
  · have e : l = [] := List.length_eq_zero_iff.1 (by omega)
    subst e
    rcases h.own.2 with ⟨hv, _⟩ | ⟨g, cap, cur, hv, _⟩
    · exact ⟨none, 0, hv, hml, Or.inl rfl⟩
    · exact ⟨_, _, hv, hml, Or.inl rfl⟩

end Go.Proofs.Ytdencaekailmcaa


/- Walks: how many knots a lambda term has. -/
namespace Go.Proofs.Ytdencaekailmcaa
open Go.RowKit
set_option linter.unusedSimpArgs false
set_option linter.unusedVariables false

end Go.Proofs.Ytdencaekailmcaa


/- Walks: may a lambda term be? -/
namespace Go.Proofs.Ytdencaekailmcaa
open Go.RowKit
set_option linter.unusedSimpArgs false
set_option linter.unusedVariables false
set_option maxRecDepth 8000

end Go.Proofs.Ytdencaekailmcaa


/- Walks: may a lambda term be, as the document says. -/
namespace Go.Proofs.Ytdencaekailmcaa
open Go.RowKit
set_option linter.unusedSimpArgs false
set_option linter.unusedVariables false
set_option maxRecDepth 8000

end Go.Proofs.Ytdencaekailmcaa


/- What a round that appends a lambda term does. -/
namespace Go.Proofs.Ytdencaekailmcaa
open Go.RowKit
set_option linter.unusedSimpArgs false
set_option linter.unusedVariables false
set_option maxRecDepth 8000

end Go.Proofs.Ytdencaekailmcaa

/- Lambda terms: what is bound from outside is moved; a term is put in (plain). -/
namespace Go.Proofs.Ytdencaekailmcaa
open Go.RowKit
set_option linter.unusedSimpArgs false
set_option linter.unusedVariables false
set_option maxRecDepth 8000

/-- No number is great. -/
def BndM : List Lm → Prop
  | [] => True
  | ⟨_, x, l⟩ :: r => (0 ≤ x ∧ x ≤ 100000) ∧ BndM l ∧ BndM r
theorem BndM_nil : BndM [] := by simp [BndM]
theorem BndM_cons (k x : Int) (l r : List Lm) : BndM (⟨k, x, l⟩ :: r) ↔ (0 ≤ x ∧ x ≤ 100000) ∧ BndM l ∧ BndM r := by simp [BndM]
theorem BndM.at : ∀ {l : List Lm} (k : Nat) (h : k < l.length), BndM l → BndM [l[k]]
  | [], k, h, _ => by simp at h
  | ⟨s, x, l⟩ :: r, 0, h, hb => by
    rw [BndM_cons] at hb
    exact (BndM_cons s x l []).2 ⟨hb.1, hb.2.1, BndM_nil⟩
  | ⟨s, x, l⟩ :: r, k + 1, h, hb => by
    rw [BndM_cons] at hb
    have := BndM.at (l := r) k (by simpa using h) hb.2.2
    simpa using this
end Go.Proofs.Ytdencaekailmcaa


/- Walks: what is bound from outside is moved, as the document says. -/
namespace Go.Proofs.Ytdencaekailmcaa
open Go.RowKit
set_option linter.unusedSimpArgs false
set_option linter.unusedVariables false
set_option maxRecDepth 8000

theorem step_append_eqM {P : Program} {ops : Array Oper} {o : Oper} {a : Act} {K : Act → World → Prop} {Q : Exit → Act → World → Prop} {E : Prop} {w w' : World} {v u v' : Value} (hgd : o.guard = none) (s x : Operand) (t t' : TypeId)
    (ho : o.op = .call { callee := .builtin .append, args := #[s, x], argTypes := #[t, t'] }) (hs : a.eval s = v) (hx : a.eval x = u)
    (hr : (Builtin.append_ #[t, t'] o.type #[v, u]).run P w = .ok v' w') (h : K (a.put o.dst v') w') : if Region.wanted o (yielded ops a.tmps) = true then Oper.wp P o a w K Q else E := by
  have hw : Region.wanted o (yielded ops a.tmps) = true := by simp [Region.wanted, hgd]
  rw [if_pos hw]
  unfold Oper.wp execOp
  simp only [ho, resolve, invoke, builtin, Sem.run_bind, Sem.run_pure, Result.andThen_ok, List.map_toArray, List.map_cons, List.map_nil, hs, hx, hr]
  exact h

end Go.Proofs.Ytdencaekailmcaa

/- Walks: where a term may end, as the document says. -/
namespace Go.Proofs.Ytdencaekailmcaa
open Go.RowKit
set_option linter.unusedSimpArgs false
set_option linter.unusedVariables false
set_option maxRecDepth 8000

theorem LV.at {α : Type} {f : α → Value} {w wr : World} {X : Nat → Prop} {a : Option Addr} {n c : Nat} {l : List α} (h : LV f w X (.slice a n c) l) (hb : Below w.heap.size w wr) (k : Nat) (hk : k < l.length) : ∃ b o, a = some ⟨b, o, none⟩ ∧ b < w.heap.size ∧ wr.cell? ⟨b, o + k, none⟩ = some (f l[k]) := by
  obtain ⟨a', c', e, _, h⟩ := h
  simp only [Value.slice.injEq] at e
  obtain ⟨rfl, rfl, rfl⟩ := e
  rcases h with h0 | ⟨b, o, e, hx, h1⟩
  · subst h0; simp at hk
  · have hl := cell_ltA (h1 k hk)
    exact ⟨b, o, e, hl, (hb.cell (p := ⟨b, o + k, none⟩) hl).trans (h1 k hk)⟩
/-- Rows of answers in memory. -/
def BLs (w : World) (X : Nat → Prop) (v : Value) (bs : List (List Bool)) : Prop := ∃ a c, v = .slice a bs.length c ∧ bs.length ≤ 9223372036854775807 ∧ (bs = [] ∨ ∃ b o, a = some ⟨b, o, none⟩ ∧ ∀ i (h : i < bs.length), ∃ a' c', w.cell? ⟨b, o + i, none⟩ = some (.slice a' bs[i].length c') ∧ LV Value.bool w X (.slice a' bs[i].length c') bs[i])
theorem BLs.get {w wr : World} {X : Nat → Prop} {a : Option Addr} {n c : Nat} {bs : List (List Bool)} (h : BLs w X (.slice a n c) bs) (hb : Below w.heap.size w wr) (k : Nat) (hk : k < bs.length) : ∃ b o a' c', a = some ⟨b, o, none⟩ ∧ b < w.heap.size ∧ wr.cell? ⟨b, o + k, none⟩ = some (.slice a' bs[k].length c') ∧ LV Value.bool wr X (.slice a' bs[k].length c') bs[k] := by
  obtain ⟨a0, c0, e, _, h⟩ := h
  simp only [Value.slice.injEq] at e
  obtain ⟨rfl, rfl, rfl⟩ := e
  rcases h with h0 | ⟨b, o, e, h1⟩
  · subst h0; simp at hk
  · obtain ⟨a', c', h2, h3⟩ := h1 k hk
    exact ⟨b, o, a', c', e, cell_ltA h2, (hb.cell (p := ⟨b, o + k, none⟩) (cell_ltA h2)).trans h2, h3.later hb⟩
theorem BLs.later {w w' : World} {X : Nat → Prop} {v : Value} {bs : List (List Bool)} (h : BLs w X v bs) (hb : Below w.heap.size w w') : BLs w' X v bs := by
  obtain ⟨a, c, e, hl, h⟩ := h
  refine ⟨a, c, e, hl, ?_⟩
  rcases h with h | ⟨b, o, e, h⟩
  · exact Or.inl h
  · refine Or.inr ⟨b, o, e, fun i hi => ?_⟩
    obtain ⟨a', c', h1, h2⟩ := h i hi
    exact ⟨a', c', (hb.cell (p := ⟨b, o + i, none⟩) (cell_ltA h1)).trans h1, h2.later hb⟩

theorem goB_take {bs : List (List Bool)} {f : List Int} : ∀ {q : Nat} (h1 : q < bs.length) (h2 : q < f.length), goB (bs.take (q + 1)) (f.take (q + 1)) = (goB (bs.take q) (f.take q) && bitAt bs[q] f[q]) := by
  induction bs generalizing f with
  | nil => intro q h1; simp at h1
  | cons b r ih =>
    intro q h1 h2
    match f, h2 with
    | i :: g, h2 =>
      cases q with
      | zero => simp [goB]
      | succ q =>
        simp only [List.take_succ_cons, goB, List.getElem_cons_succ]
        rw [ih (f := g) (q := q) (by simpa using h1) (by simpa using h2), Bool.and_assoc]

end Go.Proofs.Ytdencaekailmcaa

/- Boxes: a term that lies in a block of its own. -/
namespace Go.Proofs.Ytdencaekailmcaa
open Go.RowKit
set_option linter.unusedSimpArgs false
set_option linter.unusedVariables false
set_option maxRecDepth 8000

/-- A term in a box. -/
def BxT (w : World) (A : Nat) (t : Tm) (a : Option Addr) (c : Nat) : Prop := Blk w A #[.string t.name, .slice a t.args.length c] 28 ∧ Sl w (fun _ => True) a t.args
theorem BxT.later {w w' : World} {A : Nat} {t : Tm} {a : Option Addr} {c : Nat} (h : BxT w A t a c) (hb : Below w.heap.size w w') : BxT w' A t a c := ⟨h.1.below hb h.1.lt, h.2.later hb⟩
theorem BxT.new {w : World} {t : Tm} {a : Option Addr} {c : Nat} {X : Nat → Prop} (h : Sl w X a t.args) : BxT (w.alloc (.cells #[.string t.name, .slice a t.args.length c] 28)) w.heap.size t a c :=
  ⟨Blk.new w _ _, (h.mono fun _ _ _ => trivial).later ((Below.refl _ _).alloc (Nat.le_refl _) _)⟩
theorem BxT.cs {w : World} {A : Nat} {t : Tm} {a : Option Addr} {c : Nat} (h : BxT w A t a c) : w.cell? ⟨A, 0, none⟩ = some (.string t.name) ∧ w.cell? ⟨A, 1, none⟩ = some (.slice a t.args.length c) := ⟨h.1.cell 0, h.1.cell 1⟩
theorem one1 (w : World) (o : Obj) : Below w.heap.size w (w.alloc o) := (Below.refl _ _).alloc (Nat.le_refl _) o
end Go.Proofs.Ytdencaekailmcaa

/- Walks: where terms of one symbol may end, by sets of states (auto.mayGo, auto.end). -/
namespace Go.Proofs.Ytdencaekailmcaa
open Go.RowKit
set_option linter.unusedSimpArgs false
set_option linter.unusedVariables false
set_option maxRecDepth 8000

/-- A set of states as a number. -/
def SetIs (x : Nat) (l : List Bool) : Prop := x < 18446744073709551616 ∧ ∀ s : Nat, x.testBit s = bitAt l (s : Int)
def stV (x : Nat) : Value := .int .u64 (x : Int)
theorem goB_all {bs : List (List Bool)} {f : List Int} : goB bs f = true ↔ ∀ (i : Nat) (h1 : i < bs.length) (h2 : i < f.length), bitAt bs[i] f[i] = true := by
  induction bs generalizing f with
  | nil => cases f <;> simp [goB]
  | cons b r ih =>
    cases f with
    | nil => simp [goB]
    | cons x g =>
      rw [goB, Bool.and_eq_true, ih]
      constructor
      · rintro ⟨h1, h2⟩ i hi hj
        cases i with
        | zero => exact h1
        | succ i => exact h2 i (by simpa using hi) (by simpa using hj)
      · intro h
        exact ⟨h 0 (by simp) (by simp), fun i hi hj => h (i + 1) (by simpa using hi) (by simpa using hj)⟩
theorem goB_no {bs : List (List Bool)} {f : List Int} {i : Nat} (h1 : i < bs.length) (h2 : i < f.length) (h : bitAt bs[i] f[i] = false) : goB bs f = false := by
  cases e : goB bs f with
  | false => rfl
  | true => rw [goB_all.1 e i h1 h2] at h; cases h
theorem goB_full {bs : List (List Bool)} {f : List Int} (he : bs.length = f.length) {k : Nat} (hk : f.length ≤ k) (h : goB (bs.take k) (f.take k) = true) : goB bs f = true := by
  rwa [List.take_of_length_le (by omega), List.take_of_length_le hk] at h
/-- What these moves lead to. -/
def endN (ms : List Mv) (bs : List (List Bool)) : Nat := setN ((ms.filter fun m => goB bs m.frm).map (·.to))
theorem endN_yes {ms : List Mv} {bs : List (List Bool)} {k : Nat} (hk : k < ms.length) (h : goB bs ms[k].frm = true) : endN (ms.take (k + 1)) bs = endN (ms.take k) bs ||| 2 ^ (ms[k].to).toNat := by
  unfold endN
  rw [List.take_succ_eq_append_getElem hk, List.filter_append, List.map_append]
  simp only [List.filter_cons, h, List.filter_nil, if_true, List.map_cons, List.map_nil]
  exact setN_snoc _ _
theorem endN_no {ms : List Mv} {bs : List (List Bool)} {k : Nat} (hk : k < ms.length) (h : goB bs ms[k].frm = false) : endN (ms.take (k + 1)) bs = endN (ms.take k) bs := by
  unfold endN
  rw [List.take_succ_eq_append_getElem hk, List.filter_append, List.map_append]
  simp [h]
theorem endN_lt {ms : List Mv} {bs : List (List Bool)} (h : ∀ m ∈ ms, m.to < 64) : endN ms bs < 18446744073709551616 := by
  refine setN_lt _ fun z hz => ?_
  obtain ⟨m, hm, rfl⟩ := List.mem_map.1 hz
  exact h m (List.mem_filter.1 hm).1
/-- Those of one symbol. -/
def grp (ms : List Mv) (s : ByteArray × Nat) : List Mv := ms.filter fun m => decide (m.name = s.1) && decide (m.frm.length = s.2)
theorem end_is {ms : List Mv} {n : Nat} {name : ByteArray} {bs : List (List Bool)} (hn : n ≤ 64) (h : ∀ m ∈ ms, 0 ≤ m.to ∧ m.to < (n : Int)) : SetIs (endN (grp ms (name, bs.length)) bs) (edgT ms n name bs) := by
  refine ⟨endN_lt fun m hm => by have := (h m (List.mem_filter.1 hm).1).2; omega, fun s => ?_⟩
  unfold endN
  rw [setN_bit _ (fun z hz => by
    obtain ⟨m, hm, rfl⟩ := List.mem_map.1 hz
    exact (h m (List.mem_filter.1 (List.mem_filter.1 hm).1).1).1)]
  by_cases hs : s < n
  · rw [bit_edg hs]
    rw [Bool.eq_iff_iff, decide_eq_true_eq, endB_iff]
    constructor
    · intro hm
      obtain ⟨m, hm, e⟩ := List.mem_map.1 hm
      obtain ⟨h1, h2⟩ := List.mem_filter.1 hm
      obtain ⟨h3, h4⟩ := List.mem_filter.1 h1
      exact ⟨m, h3, by unfold mvB; simp only [Bool.and_eq_true] at h4 ⊢; exact ⟨h4, h2⟩, e⟩
    · rintro ⟨m, hm, h1, h2⟩
      unfold mvB at h1
      simp only [Bool.and_eq_true] at h1
      exact List.mem_map.2 ⟨m, List.mem_filter.2 ⟨List.mem_filter.2 ⟨hm, by simp only [Bool.and_eq_true]; exact h1.1⟩, h1.2⟩, h2⟩
  · have e1 : bitAt (edgT ms n name bs) (s : Int) = false := by
      unfold bitAt
      rw [Int.toNat_natCast, List.getElem?_eq_none (by rw [edgT_len]; omega)]
      rfl
    rw [e1, decide_eq_false_iff_not]
    intro hm
    obtain ⟨m, hm, e⟩ := List.mem_map.1 hm
    have := (h m (List.mem_filter.1 (List.mem_filter.1 hm).1).1).2
    omega
set_option maxHeartbeats 1000000 in
theorem mayGo_any (m : Mv) (af : Option Addr) (cf : Nat) (xs : List Nat) (bs : List (List Bool)) (hlen : m.frm.length = bs.length) (hxl : xs.length = bs.length) (hx : ∀ (i : Nat) (h1 : i < xs.length) (h2 : i < bs.length), SetIs xs[i] bs[i]) (hz : ∀ z ∈ m.frm, 0 ≤ z ∧ z < 64) (vb : Value) (w : World) (X : Nat → Prop) (hp : PV w X (.slice af m.frm.length cf) m.frm) (hv : LV stV w X vb xs) :
    Calls Try.prog 56 #[.agg #[.string m.name, .slice af m.frm.length cf, .int .i64 m.to], vb] w fun e w' => e = .returned (.bool (goB bs m.frm)) ∧ Below w.heap.size w w' := by
  obtain ⟨ab, cb, rfl, hbl, _⟩ := id hv
  have hpl := hp.len.1
  have B1 : Hid (Below w.heap.size w (w.alloc (.cells #[.string m.name, .slice af m.frm.length cf, .int .i64 m.to] 50))) := (Below.refl _ _).alloc (Nat.le_refl _) _
  have T1 : Hid (Blk (w.alloc (.cells #[.string m.name, .slice af m.frm.length cf, .int .i64 m.to] 50)) w.heap.size #[.string m.name, .slice af m.frm.length cf, .int .i64 m.to] 50) := Blk.new _ _ _
  have HP := hide (hp.later B1.out)
  have HV := hide (hv.later B1.out)
  have HX := hide hx
  have HZ := hide hz
  have HXL := hide hxl
  have HLEN := hide hlen
  clear hp hv hx hz hxl hlen
  have c1 := T1.out.cell 1
  go_enter Try.func56, Try.ntmps56
  go_wp2_with fail
  generalize (w.alloc (.cells #[.string m.name, .slice af m.frm.length cf, .int .i64 m.to] 50)) = w1 at *
  clear c1 T1
  go_loopw [10] (fun i wr => ∃ k : Nat, k ≤ m.frm.length ∧ i = .int .i64 (k : Int) ∧ goB (bs.take k) (m.frm.take k) = true ∧ wr = w1) (fun i wr => m.frm.length - (intOf i).toNat)
  case atStart => exact ⟨0, Nat.zero_le _, rfl, by simp [goB], rfl⟩
  case round =>
    obtain ⟨k, hk, rfl, hgo, rfl⟩ := hrel
    have HGO := hide hgo
    clear hgo
    by_cases hlt : k < m.frm.length
    · have hki : (k : Int) < (m.frm.length : Int) := by omega
      have hlb : k < bs.length := by have := HLEN.out; omega
      have hlx : k < xs.length := by have := HXL.out; omega
      have hkx : (k : Int) < (xs.length : Int) := by omega
      obtain ⟨b, o, rfl, hb, hc⟩ := HP.out.at (Below.refl wr.heap.size wr) k hlt
      obtain ⟨b2, o2, rfl, hb2, hc2⟩ := HV.out.at (Below.refl wr.heap.size wr) k hlx
      have h9 := HZ.out m.frm[k] (List.getElem_mem hlt)
      obtain ⟨s, hs⟩ : ∃ s : Nat, m.frm[k] = (s : Int) := ⟨m.frm[k].toNat, by omega⟩
      obtain ⟨hxs, hxb⟩ := HX.out k hlx hlb
      have HBT : Hid (xs[k].testBit s = bitAt bs[k] m.frm[k]) := by unfold Hid; rw [hxb s, hs]
      have HTK := hide (goB_take (f := m.frm) hlb hlt)
      have HNO := hide (goB_no (f := m.frm) hlb hlt)
      rw [hs] at hc
      unfold stV at hc2
      have HS : Hid (s < 64) := by unfold Hid; omega
      have HXS := hide hxs
      clear h9 hs hxb hxs
      go_wp2_with fail
      refine (has_any xs[k] s HS.out HXS.out _).mono ?_
      rintro e w' ⟨rfl, rfl⟩
      rw [HBT.out]
      cases hbt : bitAt bs[k] m.frm[k] with
      | true =>
        have HREL : Hid (goB (bs.take (k + 1)) (m.frm.take (k + 1)) = true) := by unfold Hid; rw [HTK.out, HGO.out, hbt]; rfl
        clear hbt
        go_wp2_with fail
        go_roundw
        case rel => exact ⟨k + 1, by omega, by go_num, HREL.out, by trivial⟩
        case measure => simp [intOf]; omega
      | false =>
        have HREL : Hid (goB bs m.frm = false) := HNO.out hbt
        clear hbt
        go_wp2_with fail
        go_ret
        exact ⟨by rw [HREL.out]; rfl, B1.out⟩
    · have hki : ¬ (k : Int) < (m.frm.length : Int) := by omega
      have HREL : Hid (goB bs m.frm = true) := goB_full HLEN.out.symm (by omega) HGO.out
      go_wp2_with fail
      go_ret
      exact ⟨by rw [HREL.out]; rfl, B1.out⟩

set_option maxHeartbeats 1000000 in
theorem aEnd_any (ms : List Mv) (am : Option Addr) (cm : Nat) (xs : List Nat) (bs : List (List Bool)) (hlen : ∀ m ∈ ms, m.frm.length = bs.length) (hto : ∀ m ∈ ms, 0 ≤ m.to ∧ m.to < 64) (hxl : xs.length = bs.length) (hx : ∀ (i : Nat) (h1 : i < xs.length) (h2 : i < bs.length), SetIs xs[i] bs[i]) (hz : ∀ m ∈ ms, ∀ z ∈ m.frm, 0 ≤ z ∧ z < 64) (vb : Value) (w : World) (X : Nat → Prop) (hp : SlV w X am ms) (hv : LV stV w X vb xs) :
    Calls Try.prog 48 #[.slice am ms.length cm, vb] w fun e w' => e = .returned (stV (endN ms bs)) ∧ Below w.heap.size w w' := by
  obtain ⟨ab, cb, rfl, hbl, _⟩ := id hv
  have hpl := hp.1
  have HP := hide hp
  have HV := hide hv
  have HX := hide hx
  have HZ := hide hz
  have HXL := hide hxl
  have HLEN := hide hlen
  have HTO := hide hto
  clear hp hv hx hz hxl hlen hto
  go_enter Try.func48, Try.ntmps48
  go_wp2_with fail
  go_loopw [5, 10] (fun q i wr => ∃ k : Nat, k ≤ ms.length ∧ i = .int .i64 (k : Int) ∧ q = .int .u64 (endN (ms.take k) bs : Int) ∧ Below w.heap.size w wr) (fun q i wr => ms.length - (intOf i).toNat)
  case atStart => exact ⟨0, Nat.zero_le _, rfl, rfl, Below.refl _ _⟩
  case round =>
    obtain ⟨k, hk, rfl, rfl, hbr⟩ := hrel
    have HBR := hide hbr
    clear hbr
    by_cases hlt : k < ms.length
    · have hki : (k : Int) < (ms.length : Int) := by omega
      obtain ⟨b, o, af, cf, rfl, hb, x0, x1, x2, hpv⟩ := HP.out.get HBR.out k hlt
      obtain ⟨hto0, hto1⟩ := HTO.out ms[k] (List.getElem_mem hlt)
      obtain ⟨s, hs⟩ : ∃ s : Nat, ms[k].to = (s : Int) := ⟨ms[k].to.toNat, by omega⟩
      have hs64 : s < 64 := by omega
      have HLK : Hid (endN (ms.take k) bs < 18446744073709551616) := endN_lt fun m hm => (HTO.out m (List.mem_of_mem_take hm)).2
      have B3 := hide (HBR.out.trans ((one1 wr (.cells #[.string ms[k].name, .slice af ms[k].frm.length cf, .int .i64 ms[k].to] 50)).mono HBR.out.size))
      have K3 : Hid (Blk (wr.alloc (.cells #[.string ms[k].name, .slice af ms[k].frm.length cf, .int .i64 ms[k].to] 50)) wr.heap.size #[.string ms[k].name, .slice af ms[k].frm.length cf, .int .i64 ms[k].to] 50) := Blk.new _ _ _
      have P3 := hide (hpv.later (one1 wr (.cells #[.string ms[k].name, .slice af ms[k].frm.length cf, .int .i64 ms[k].to] 50)))
      have HSS := hide hs
      clear hpv hto0 hto1 hs
      go_upto_region 5 with fail
      generalize (wr.alloc (.cells #[.string ms[k].name, .slice af ms[k].frm.length cf, .int .i64 ms[k].to] 50)) = w3 at *
      generalize wr.heap.size = A at *
      clear x0 x1 x2
      have c0 := K3.out.cell 0
      have c1 := K3.out.cell 1
      have c2 := K3.out.cell 2
      go_wp2_with fail
      refine (mayGo_any ms[k] af cf xs bs (HLEN.out _ (List.getElem_mem hlt)) HXL.out HX.out (HZ.out _ (List.getElem_mem hlt)) _ _ X P3.out (HV.out.later B3.out)).mono ?_
      rintro e w4 ⟨rfl, hb4⟩
      have B4 := hide (B3.out.trans (hb4.mono B3.out.size))
      have K4 := hide (K3.out.below hb4 K3.out.lt)
      clear hb4 c0 c1 c2
      cases hgo : goB bs ms[k].frm with
      | true =>
        have HREL := hide (endN_yes hlt hgo)
        have c2 : w4.cell? ⟨A, 2, none⟩ = some (.int .i64 (s : Int)) := by rw [← HSS.out]; exact K4.out.cell 2
        have HST := hide (setN_step _ s HLK.out hs64)
        clear hgo
        go_wp2_with fail
        rw [HST.out]
        go_roundw
        case rel => exact ⟨k + 1, by omega, by go_num, by rw [HREL.out, HSS.out]; rfl, B4.out⟩
        case measure => simp [intOf]; omega
      | false =>
        have HREL := hide (endN_no hlt hgo)
        clear hgo
        go_wp2_with fail
        go_roundw
        case rel => exact ⟨k + 1, by omega, by go_num, by rw [HREL.out], B4.out⟩
        case measure => simp [intOf]; omega
    · have hki : ¬ (k : Int) < (ms.length : Int) := by omega
      have htk : ms.take k = ms := List.take_of_length_le (by omega)
      rw [htk]
      go_wp2_with fail
      go_ret
      exact ⟨rfl, HBR.out⟩
end Go.Proofs.Ytdencaekailmcaa

/- Bindings in memory. -/
namespace Go.Proofs.Ytdencaekailmcaa
open Go.RowKit
set_option linter.unusedSimpArgs false
set_option linter.unusedVariables false

/-- A variable and what stands for it. -/
structure Bd where
  nm : ByteArray
  t : Tm

/-- A list of bindings in memory. -/
def BV (w : World) (X : Nat → Prop) (v : Value) (l : List Bd) : Prop :=
  ∃ a c, v = .slice a l.length c ∧ (l.length ≤ 9223372036854775807 ∧ l.length ≤ c) ∧ (l = [] ∨ ∃ b o, a = some ⟨b, o, none⟩ ∧ X b ∧ ∀ i (h : i < l.length), w.cell? ⟨b, o + i * 3, none⟩ = some (.string l[i].nm) ∧ w.cell? ⟨b, o + i * 3 + 1, none⟩ = some (.string l[i].t.name) ∧ ∃ a' c', w.cell? ⟨b, o + i * 3 + 2, none⟩ = some (.slice a' l[i].t.args.length c') ∧ Sl w X a' l[i].t.args)

theorem BV.kept {w w' : World} {X : Nat → Prop} {v : Value} {l : List Bd} (h : BV w X v l) (hk : ∀ b, X b → w'.heap[b]? = w.heap[b]?) : BV w' X v l := by
  obtain ⟨a, c, e, hl, h⟩ := h
  refine ⟨a, c, e, hl, ?_⟩
  rcases h with h | ⟨b, o, ea, hX, h⟩
  · exact Or.inl h
  · refine Or.inr ⟨b, o, ea, hX, fun i hi => ?_⟩
    obtain ⟨h1, h2, a', c', h3, h4⟩ := h i hi
    have hb := hk b hX
    exact ⟨by simpa [World.cell?, hb] using h1, by simpa [World.cell?, hb] using h2, a', c', by simpa [World.cell?, hb] using h3, h4.kept hk⟩
theorem cell_lt {w : World} {b o : Nat} {v : Value} (h : w.cell? ⟨b, o, none⟩ = some v) : b < w.heap.size := by
  rcases Nat.lt_or_ge b w.heap.size with h' | h'
  · exact h'
  · simp [World.cell?, Array.getElem?_eq_none h'] at h
theorem BV.mono {w : World} {X Y : Nat → Prop} {v : Value} {l : List Bd} (h : BV w X v l) (hk : ∀ b, X b → b < w.heap.size → Y b) : BV w Y v l := by
  obtain ⟨a, c, e, hl, h⟩ := h
  refine ⟨a, c, e, hl, ?_⟩
  rcases h with h | ⟨b, o, ea, hX, h⟩
  · exact Or.inl h
  · by_cases h0 : l = []
    · exact Or.inl h0
    · have hp : 0 < l.length := List.length_pos_iff.2 h0
      refine Or.inr ⟨b, o, ea, hk b hX (cell_lt (h 0 hp).1), fun i hi => ?_⟩
      obtain ⟨h1, h2, a', c', h3, h4⟩ := h i hi
      exact ⟨h1, h2, a', c', h3, h4.mono hk⟩
theorem BV.later {w w' : World} {X : Nat → Prop} {v : Value} {l : List Bd} (h : BV w X v l) (hb : Below w.heap.size w w') : BV w' X v l :=
  ((h.mono (Y := fun b => X b ∧ b < w.heap.size) fun b h1 h2 => ⟨h1, h2⟩).kept fun b hx => hb.block b hx.2).mono fun b hx _ => hx.1
theorem BV.alloc {w : World} {X : Nat → Prop} {v : Value} {l : List Bd} (h : BV w X v l) (o : Obj) : BV (w.alloc o) X v l := h.later ((Below.refl _ _).alloc (Nat.le_refl _) o)
theorem BV.get {w : World} {X : Nat → Prop} {a : Option Addr} {n c : Nat} {l : List Bd} (h : BV w X (.slice a n c) l) (i : Nat) (hi : i < l.length) :
    ∃ b o a' c', a = some ⟨b, o, none⟩ ∧ w.cell? ⟨b, o + i * 3, none⟩ = some (.string l[i].nm) ∧ w.cell? ⟨b, o + i * 3 + 1, none⟩ = some (.string l[i].t.name) ∧ w.cell? ⟨b, o + i * 3 + 2, none⟩ = some (.slice a' l[i].t.args.length c') ∧ Sl w X a' l[i].t.args := by
  obtain ⟨a2, c2, e, hl, h⟩ := h
  simp at e
  obtain ⟨rfl, rfl, rfl⟩ := e
  rcases h with h | ⟨b, o, ea, hX, h⟩
  · subst h; simp at hi
  · obtain ⟨h1, h2, a', c', h3, h4⟩ := h i hi
    exact ⟨b, o, a', c', ea, h1, h2, h3, h4⟩

theorem bytes_inj {a b : ByteArray} (h : a.toList = b.toList) : a = b := by
  rw [ByteArray.toList_eq, ByteArray.toList_eq] at h
  cases a with
  | mk x =>
    cases b with
    | mk y => congr 1; exact Array.toList_inj.1 h
end Go.Proofs.Ytdencaekailmcaa
