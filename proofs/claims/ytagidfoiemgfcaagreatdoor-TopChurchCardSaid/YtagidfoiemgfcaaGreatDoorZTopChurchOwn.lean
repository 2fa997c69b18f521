/- Several texts in one. -/
import Derived.WalkKit
import Derived.WalkSpells
import Derived.WalkLawsBesides
import Derived.Test.YtagidfoiemgfcaaGreatDoorRows
import Derived.Deep.AppendLies
import Derived.BigQuiet
import Derived.Lib.ItoaNum
import Derived.Laws.IdiomStrings
import Derived.Deep.RegionHeld
import Derived.Lib.Builder
import Derived.Lib.AppendStr
import Derived.Deep.AppendSrc
import Derived.Test.YtagidfoiemgfcaaGreatDoorShelf
import Derived.Deep.RegionHeld3
import Derived.Deep.DeepCutAuto
import Derived.Laws.OwnMore
import Derived.Lib.AppendIntMem
import Derived.Lib.AtoiBound
import Derived.Lib.ItoaLen
import Derived.RangeFuncNested
import Derived.RangeFuncBound
import Derived.RangeFuncCalls
import Derived.RangeFuncLeaves
import Derived.RangeFuncWrites
import Derived.Shelf.Abstract
import Derived.Shelf.RegionOpen
import Derived.OwnWalkIn
import Derived.TacticsInMore
import Derived.LoopNIn
import Derived.LoopIn
/- The tree that a term is, and how it lies in memory: plain mathematics of terms, and what stays where it was. -/
namespace Go.Proofs.YtagidfoiemgfcaaGreatDoor
open Go.RowKit

/-- Kept from the walk. -/
theorem hide {p : Prop} (h : p) : Hid p := h

/-- A term as a tree. -/
structure Tm where
  name : ByteArray
  args : List Tm

theorem Tm.ind {P : Tm → Prop} (h : ∀ s l, (∀ x ∈ l, P x) → P ⟨s, l⟩) (t : Tm) : P t :=
  Tm.rec (motive_1 := P) (motive_2 := fun l => ∀ x ∈ l, P x) (fun s l ih => h s l ih) (fun x hx => by cases hx)
    (fun a l ha hl x hx => by
      rcases List.mem_cons.1 hx with e | e
      · subst e; exact ha
      · exact hl x e) t

theorem Tm.indL {P : List Tm → Prop} (h0 : P []) (h : ∀ s l r, P l → P r → P (⟨s, l⟩ :: r)) (l : List Tm) : P l :=
  Tm.rec_1 (motive_1 := fun t => P t.args) (motive_2 := P) (fun _ _ ih => ih) h0 (fun a l ha hl => by obtain ⟨s, k⟩ := a; exact h s k l ha hl) l

/-- A list of terms lies in a row of cells, two a term, in blocks that X lets. -/
def Lies (w : World) (X : Nat → Prop) : Nat → Nat → List Tm → Prop
  | _, _, [] => True
  | b, o, ⟨s, l⟩ :: r => X b ∧ w.cell? ⟨b, o, none⟩ = some (.string s) ∧
      (∃ a c, w.cell? ⟨b, o + 1, none⟩ = some (.slice a l.length c) ∧ l.length ≤ 9223372036854775807 ∧ (l = [] ∨ ∃ b' o', a = some ⟨b', o', none⟩ ∧ Lies w X b' o' l)) ∧ Lies w X b (o + 2) r

/-- What a slice of terms holds. -/
def Sl (w : World) (X : Nat → Prop) (a : Option Addr) (l : List Tm) : Prop := l.length ≤ 9223372036854775807 ∧ (l = [] ∨ ∃ b o, a = some ⟨b, o, none⟩ ∧ Lies w X b o l)

/-- What a term's value holds. -/
def TV (w : World) (X : Nat → Prop) (v : Value) (t : Tm) : Prop := ∃ a c, v = .agg #[.string t.name, .slice a t.args.length c] ∧ Sl w X a t.args

theorem lies_kept {w w' : World} {X : Nat → Prop} (h : ∀ b, X b → w'.heap[b]? = w.heap[b]?) (l : List Tm) : ∀ b o, Lies w X b o l → Lies w' X b o l := by
  induction l using Tm.indL with
  | h0 => intro b o _; simp [Lies]
  | h s l r ihl ihr =>
    intro b o hl
    simp only [Lies] at hl ⊢
    obtain ⟨hx, h1, ⟨a, c, h2, h2', h3⟩, h4⟩ := hl
    refine ⟨hx, by rw [World.cell?_of_block (h b hx)]; exact h1, ⟨a, c, by rw [World.cell?_of_block (h b hx)]; exact h2, h2', ?_⟩, ihr _ _ h4⟩
    rcases h3 with h3 | ⟨b', o', h3, h5⟩
    · exact Or.inl h3
    · exact Or.inr ⟨b', o', h3, ihl _ _ h5⟩

theorem lies_mono {w : World} {X Y : Nat → Prop} (h : ∀ b, X b → b < w.heap.size → Y b) (l : List Tm) : ∀ b o, Lies w X b o l → Lies w Y b o l := by
  induction l using Tm.indL with
  | h0 => intro b o _; simp [Lies]
  | h s l r ihl ihr =>
    intro b o hl
    simp only [Lies] at hl ⊢
    obtain ⟨hx, h1, ⟨a, c, h2, h2', h3⟩, h4⟩ := hl
    have hb : b < w.heap.size := by
      apply Classical.byContradiction
      intro hn
      have e : w.heap[b]? = none := Array.getElem?_eq_none (by omega)
      simp [World.cell?, e] at h1
    refine ⟨h b hx hb, h1, ⟨a, c, h2, h2', ?_⟩, ihr _ _ h4⟩
    rcases h3 with h3 | ⟨b', o', h3, h5⟩
    · exact Or.inl h3
    · exact Or.inr ⟨b', o', h3, ihl _ _ h5⟩

theorem Sl.kept {w w' : World} {X : Nat → Prop} {a : Option Addr} {l : List Tm} (h : Sl w X a l) (hk : ∀ b, X b → w'.heap[b]? = w.heap[b]?) : Sl w' X a l := by
  obtain ⟨hl, h⟩ := h
  refine ⟨hl, ?_⟩
  rcases h with h | ⟨b, o, e, h⟩
  · exact Or.inl h
  · exact Or.inr ⟨b, o, e, lies_kept hk _ _ _ h⟩

theorem Sl.mono {w : World} {X Y : Nat → Prop} {a : Option Addr} {l : List Tm} (h : Sl w X a l) (hk : ∀ b, X b → b < w.heap.size → Y b) : Sl w Y a l := by
  obtain ⟨hl, h⟩ := h
  refine ⟨hl, ?_⟩
  rcases h with h | ⟨b, o, e, h⟩
  · exact Or.inl h
  · exact Or.inr ⟨b, o, e, lies_mono hk _ _ _ h⟩

theorem Sl.below {w w' : World} {X : Nat → Prop} {a : Option Addr} {l : List Tm} {B : Nat} (h : Sl w X a l) (hb : Below B w w') (hX : ∀ b, X b → b < w.heap.size → b < B) : Sl w' X a l := by
  have h1 : Sl w (fun b => X b ∧ b < B) a l := h.mono fun b hx hs => ⟨hx, hX b hx hs⟩
  have h2 : Sl w' (fun b => X b ∧ b < B) a l := h1.kept fun b hx => hb.block b hx.2
  exact h2.mono fun b hx _ => hx.1

theorem TV.kept {w w' : World} {X : Nat → Prop} {v : Value} {t : Tm} (h : TV w X v t) (hk : ∀ b, X b → w'.heap[b]? = w.heap[b]?) : TV w' X v t := by
  obtain ⟨a, c, e, h⟩ := h
  exact ⟨a, c, e, h.kept hk⟩

theorem TV.mono {w : World} {X Y : Nat → Prop} {v : Value} {t : Tm} (h : TV w X v t) (hk : ∀ b, X b → b < w.heap.size → Y b) : TV w Y v t := by
  obtain ⟨a, c, e, h⟩ := h
  exact ⟨a, c, e, h.mono hk⟩

theorem TV.below {w w' : World} {X : Nat → Prop} {v : Value} {t : Tm} {B : Nat} (h : TV w X v t) (hb : Below B w w') (hX : ∀ b, X b → b < w.heap.size → b < B) : TV w' X v t := by
  obtain ⟨a, c, e, h⟩ := h
  exact ⟨a, c, e, h.below hb hX⟩

theorem TV.alloc {w : World} {X : Nat → Prop} {v : Value} {t : Tm} (h : TV w X v t) (o : Obj) : TV (w.alloc o) X v t :=
  h.below ((Below.refl _ _).alloc (Nat.le_refl _) o) (fun _ _ h => h)

theorem TV.later {w w' : World} {X : Nat → Prop} {v : Value} {t : Tm} (h : TV w X v t) (hb : Below w.heap.size w w') : TV w' X v t := h.below hb (fun _ _ h => h)

theorem Sl.later {w w' : World} {X : Nat → Prop} {a : Option Addr} {l : List Tm} (h : Sl w X a l) (hb : Below w.heap.size w w') : Sl w' X a l := h.below hb (fun _ _ h => h)

/-- One of a row. -/
theorem lies_get {w : World} {X : Nat → Prop} : ∀ (l : List Tm) (b o : Nat), Lies w X b o l → ∀ i (h : i < l.length),
    X b ∧ w.cell? ⟨b, o + i * 2, none⟩ = some (.string l[i].name) ∧ ∃ a c, w.cell? ⟨b, o + i * 2 + 1, none⟩ = some (.slice a l[i].args.length c) ∧ Sl w X a l[i].args := by
  intro l
  induction l with
  | nil => intro b o _ i h; simp at h
  | cons t r ih =>
    intro b o hl i h
    obtain ⟨s, k⟩ := t
    simp only [Lies] at hl
    obtain ⟨hx, h1, ⟨a, c, h2, h3⟩, h4⟩ := hl
    cases i with
    | zero => exact ⟨hx, h1, a, c, h2, h3⟩
    | succ i =>
      have := ih b (o + 2) h4 i (by simpa using h)
      simp only [List.getElem_cons_succ]
      rw [show o + (i + 1) * 2 = o + 2 + i * 2 by omega]
      exact this

/-- One of a slice, in a later world. -/
theorem Sl.get {w wr : World} {X : Nat → Prop} {a : Option Addr} {l : List Tm} {B : Nat} (h : Sl w X a l) (hb : Below B w wr) (hX : ∀ b, X b → b < w.heap.size → b < B) (k : Nat) (hk : k < l.length) :
    ∃ b o a' c', a = some ⟨b, o, none⟩ ∧ wr.cell? ⟨b, o + k * 2, none⟩ = some (.string l[k].name) ∧ wr.cell? ⟨b, o + k * 2 + 1, none⟩ = some (.slice a' l[k].args.length c') ∧ TV wr X (.agg #[.string l[k].name, .slice a' l[k].args.length c']) l[k] := by
  have h' := h.below hb hX
  obtain ⟨_, h1⟩ := h'
  rcases h1 with h1 | ⟨b, o, e, h1⟩
  · subst h1; simp at hk
  · obtain ⟨_, h2, a', c', h3, h4⟩ := lies_get _ _ _ h1 k hk
    exact ⟨b, o, a', c', e, h2, h3, a', c', rfl, h4⟩

end Go.Proofs.YtagidfoiemgfcaaGreatDoor


/- Walks: letters, digits, names. -/
namespace Go.Proofs.YtagidfoiemgfcaaGreatDoor
open Go.RowKit
set_option linter.unusedSimpArgs false
set_option linter.unusedVariables false

def digB (n : Int) : Bool := decide (48 ≤ n) && decide (n ≤ 57)
def capB (n : Int) : Bool := decide (65 ≤ n) && decide (n ≤ 90)
def lowB (n : Int) : Bool := decide (97 ≤ n) && decide (n ≤ 122)
def letB (n : Int) : Bool := lowB n || capB n
def alnB (n : Int) : Bool := letB n || digB n

theorem ret_bool {a b : Bool} (h : a = b) : Ending.returned (.bool a) = .returned (.bool b) := by rw [h]

set_option maxHeartbeats 400000 in
theorem isDigit_any (n : Int) (w : World) : Calls Tryz.prog 63 #[.int .u8 n] w fun e w' => e = .returned (.bool (digB n)) ∧ w' = w := by
  go_enter Tryz.func63, Tryz.ntmps63
  go_wp2_with fail
  all_goals (go_ret; refine ⟨ret_bool ?_, rfl⟩; rw [Bool.eq_iff_iff]; simp [alnB, letB, lowB, capB, digB] <;> omega)

set_option maxHeartbeats 400000 in
theorem isCapital_any (n : Int) (w : World) : Calls Tryz.prog 79 #[.int .u8 n] w fun e w' => e = .returned (.bool (capB n)) ∧ w' = w := by
  go_enter Tryz.func79, Tryz.ntmps79
  go_wp2_with fail
  all_goals (go_ret; refine ⟨ret_bool ?_, rfl⟩; rw [Bool.eq_iff_iff]; simp [alnB, letB, lowB, capB, digB] <;> omega)

set_option maxHeartbeats 400000 in
theorem isLetter_any (n : Int) (w : World) : Calls Tryz.prog 64 #[.int .u8 n] w fun e w' => e = .returned (.bool (letB n)) ∧ w' = w := by
  go_enter Tryz.func64, Tryz.ntmps64
  go_wp2_with (go_at_call 79; refine (isCapital_any _ _).mono ?_; rintro e w' ⟨rfl, rfl⟩)
  all_goals (go_ret; refine ⟨ret_bool ?_, rfl⟩; rw [Bool.eq_iff_iff]; simp [alnB, letB, lowB, capB, digB] <;> omega)

end Go.Proofs.YtagidfoiemgfcaaGreatDoor


/- Walks: which texts are names, and which of them are variables'. -/
namespace Go.Proofs.YtagidfoiemgfcaaGreatDoor
open Go.RowKit
set_option linter.unusedSimpArgs false
set_option linter.unusedVariables false

def byteAt (s : ByteArray) (i : Nat) : Int := if h : i < s.size then (s[i].toNat : Int) else 0
theorem byteAt_of {s : ByteArray} {i : Nat} (h : i < s.size) : (s[i].toNat : Int) = byteAt s i := by simp [byteAt, h]
def varB (s : ByteArray) : Bool := capB (byteAt s 0)
def alnTo (s : ByteArray) (k : Nat) : Bool := (List.range k).all fun i => alnB (byteAt s i)
def nameB (s : ByteArray) : Bool := decide (1 ≤ s.size) && decide (s.size ≤ 8) && !digB (byteAt s 0) && alnTo s s.size

theorem isEmpty_pos {s : ByteArray} (h : 0 < s.size) : s.toList.isEmpty = false := by
  rw [ByteArray.toList_eq, List.isEmpty_eq_false_iff, ← List.length_pos_iff]
  simpa using h
theorem isEmpty_zero {s : ByteArray} (h : ¬ 0 < s.size) : s.toList.isEmpty = true := by
  rw [ByteArray.toList_eq, List.isEmpty_iff, ← List.length_eq_zero_iff]
  have : s.size = 0 := by omega
  simpa using this
theorem alnTo_succ (s : ByteArray) (k : Nat) : alnTo s (k + 1) = (alnTo s k && alnB (byteAt s k)) := by
  simp [alnTo, List.range_succ, List.all_append]
theorem alnTo_false {s : ByteArray} {k n : Nat} (h : k ≤ n) (hf : alnTo s k = false) : alnTo s n = false := by
  cases hn : alnTo s n with
  | false => rfl
  | true =>
    rw [← hf]; symm
    unfold alnTo at hn ⊢
    rw [List.all_eq_true] at hn ⊢
    intro x hx; exact hn x (by rw [List.mem_range] at hx ⊢; omega)
theorem byte_bd (s : ByteArray) (k : Nat) : 0 ≤ byteAt s k ∧ byteAt s k ≤ 255 := by
  unfold byteAt
  split
  · have := (s[k]).toNat_lt; omega
  · omega

theorem nameB_no {s : ByteArray} {k : Nat} (hk : k < s.size) (h : alnB (byteAt s k) = false) : nameB s = false := by
  have h1 : alnTo s (k + 1) = false := by rw [alnTo_succ, h]; simp
  have h2 := alnTo_false (n := s.size) (by omega) h1
  simp [nameB, h2]

set_option maxHeartbeats 400000 in
theorem isName_any (s : ByteArray) (w : World) : Calls Tryz.prog 48 #[.string s] w fun e w' => e = .returned (.bool (nameB s)) ∧ w' = w := by
  by_cases h0 : s.size < 1
  · have hn : Hid (false = nameB s) := by simp [Hid, nameB]; omega
    go_enter Tryz.func48, Tryz.ntmps48
    go_wp2_with fail
    go_ret
    exact ⟨ret_bool hn.out, rfl⟩
  · by_cases h8 : 8 < s.size
    · have hn : Hid (false = nameB s) := by simp [Hid, nameB]; omega
      go_enter Tryz.func48, Tryz.ntmps48
      go_wp2_with fail
      all_goals (go_ret; exact ⟨ret_bool hn.out, rfl⟩)
    · have hb := hide (byteAt_of (s := s) (i := 0) (by omega))
      by_cases hd : digB (byteAt s 0) = true
      · have hn : Hid (false = nameB s) := by simp [Hid, nameB, hd]
        have hd' := hide hd
        clear hd
        go_enter Tryz.func48, Tryz.ntmps48
        go_wp2_with (go_at_call 63; refine (isDigit_any _ _).mono ?_; rintro e w' ⟨rfl, rfl⟩; rw [hb.out, hd'.out])
        all_goals (go_ret; exact ⟨ret_bool hn.out, rfl⟩)
      · have hd' : Hid (digB (byteAt s 0) = false) := by simpa [Hid] using hd
        clear hd
        go_enter Tryz.func48, Tryz.ntmps48
        go_wp2_with (go_at_call 63; refine (isDigit_any _ _).mono ?_; rintro e w' ⟨rfl, rfl⟩; rw [hb.out, hd'.out])
        go_loop [19] (fun i => ∃ k : Nat, k ≤ s.size ∧ i = .int .i64 k ∧ alnTo s k = true) (fun i => s.size - (intOf i).toNat)
        case atStart => exact ⟨0, Nat.zero_le _, rfl, rfl⟩
        case round =>
          obtain ⟨k, hk, rfl, ha⟩ := hrel
          have HA := hide ha
          clear ha
          by_cases hlt : k < s.size
          · have hbk := hide (byteAt_of hlt)
            have hsuc := hide (alnTo_succ s k)
            cases hl : letB (byteAt s k) with
            | true =>
              have HL := hide hl
              clear hl
              go_wp2_with (go_at_call 64; refine (isLetter_any _ _).mono ?_; rintro e w' ⟨rfl, rfl⟩; rw [hbk.out, HL.out])
              go_round
              case rel => exact ⟨k + 1, by omega, by go_num, by rw [hsuc.out, HA.out, alnB, HL.out]; rfl⟩
              case measure => simp [intOf]; omega
            | false =>
              have HL := hide hl
              clear hl
              cases hg : digB (byteAt s k) with
              | true =>
                have HG := hide hg
                clear hg
                go_wp2_with (first | (go_at_call 64; refine (isLetter_any _ _).mono ?_; rintro e w' ⟨rfl, rfl⟩; rw [hbk.out, HL.out]) | (go_at_call 63; refine (isDigit_any _ _).mono ?_; rintro e w' ⟨rfl, rfl⟩; rw [hbk.out, HG.out]))
                go_round
                case rel => exact ⟨k + 1, by omega, by go_num, by rw [hsuc.out, HA.out, alnB, HL.out, HG.out]; rfl⟩
                case measure => simp [intOf]; omega
              | false =>
                have HG := hide hg
                clear hg
                go_wp2_with (first | (go_at_call 64; refine (isLetter_any _ _).mono ?_; rintro e w' ⟨rfl, rfl⟩; rw [hbk.out, HL.out]) | (go_at_call 63; refine (isDigit_any _ _).mono ?_; rintro e w' ⟨rfl, rfl⟩; rw [hbk.out, HG.out]))
                go_ret
                exact ⟨ret_bool (nameB_no hlt (by rw [alnB, HL.out, HG.out]; rfl)).symm, rfl⟩
          · have hn : Hid (true = nameB s) := by
              have e : k = s.size := by omega
              have := HA.out
              rw [e] at this
              simp [Hid, nameB, this, hd'.out]; omega
            go_wp2_with fail
            go_ret
            exact ⟨ret_bool hn.out, rfl⟩

end Go.Proofs.YtagidfoiemgfcaaGreatDoor

/- Rows of terms that a call makes. -/
namespace Go.Proofs.YtagidfoiemgfcaaGreatDoor
open Go.RowKit
set_option linter.unusedSimpArgs false
set_option linter.unusedVariables false

/-- These cells are these terms. -/
def RowT (w : World) (X : Nat → Prop) : List Tm → List Value → Prop
  | [], xs => xs = []
  | t :: l, xs => ∃ a c r, xs = .string t.name :: .slice a t.args.length c :: r ∧ Sl w X a t.args ∧ RowT w X l r

theorem RowT.len {w : World} {X : Nat → Prop} : ∀ {l : List Tm} {xs : List Value}, RowT w X l xs → xs.length = l.length * 2
  | [], xs, h => by simp [RowT] at h; simp [h]
  | t :: l, xs, h => by
    obtain ⟨a, c, r, rfl, _, h⟩ := h
    simp only [List.length_cons]
    rw [RowT.len h]; omega

theorem RowT.append {w : World} {X : Nat → Prop} : ∀ {l k : List Tm} {xs ys : List Value}, RowT w X l xs → RowT w X k ys → RowT w X (l ++ k) (xs ++ ys)
  | [], k, xs, ys, h, h' => by simp [RowT] at h; subst h; simpa using h'
  | t :: l, k, xs, ys, h, h' => by
    obtain ⟨a, c, r, rfl, hs, h⟩ := h
    exact ⟨a, c, r ++ ys, rfl, hs, RowT.append h h'⟩

theorem RowT.one {w : World} {X : Nat → Prop} : ∀ {l : List Tm} {xs : List Value}, RowT w X l xs → ∀ u ∈ xs, u.oneCell' = true
  | [], xs, h, u, hu => by simp [RowT] at h; subst h; cases hu
  | t :: l, xs, h, u, hu => by
    obtain ⟨a, c, r, rfl, _, h⟩ := h
    rcases List.mem_cons.1 hu with e | hu
    · subst e; rfl
    · rcases List.mem_cons.1 hu with e | hu
      · subst e; rfl
      · exact RowT.one h u hu

theorem RowT.imp {w w' : World} {X Y : Nat → Prop} (hs : ∀ a l, Sl w X a l → Sl w' Y a l) : ∀ {l : List Tm} {xs : List Value}, RowT w X l xs → RowT w' Y l xs
  | [], xs, h => h
  | t :: l, xs, h => by
    obtain ⟨a, c, r, e, h1, h⟩ := h
    exact ⟨a, c, r, e, hs _ _ h1, RowT.imp hs h⟩

theorem RowT.get {w : World} {X : Nat → Prop} : ∀ {l : List Tm} {xs : List Value}, RowT w X l xs → ∀ i (h : i < l.length),
    xs[i * 2]? = some (.string l[i].name) ∧ ∃ a c, xs[i * 2 + 1]? = some (.slice a l[i].args.length c) ∧ Sl w X a l[i].args
  | [], xs, h, i, hi => by simp at hi
  | t :: l, xs, h, i, hi => by
    obtain ⟨a, c, r, rfl, h1, h⟩ := h
    cases i with
    | zero => exact ⟨rfl, a, c, rfl, h1⟩
    | succ i =>
      have := RowT.get h i (by simpa using hi)
      rw [show (i + 1) * 2 = i * 2 + 2 by omega, show i * 2 + 2 + 1 = (i * 2 + 1) + 2 by omega]
      simpa using this

theorem lies_of_rowT {w w' : World} {X Y : Nat → Prop} (b : Nat) (hb : Y b) : ∀ (l : List Tm) (xs : List Value) (o : Nat), RowT w X l xs → (∀ a k, Sl w X a k → Sl w' Y a k) → (∀ j u, xs[j]? = some u → w'.cell? ⟨b, o + j, none⟩ = some u) → Lies w' Y b o l := by
  intro l
  induction l with
  | nil => intro xs o _ _ _; simp [Lies]
  | cons t r ih =>
    intro xs o h hs hc
    obtain ⟨s, k⟩ := t
    obtain ⟨a, c, r', rfl, h1, h2⟩ := h
    simp only [Lies]
    obtain ⟨h3, h4⟩ := hs _ _ h1
    refine ⟨hb, hc 0 _ rfl, ⟨a, c, hc 1 _ rfl, h3, h4⟩, ih r' (o + 2) h2 hs fun j u hj => ?_⟩
    have := hc (j + 2) u (by simpa using hj)
    rwa [show o + (j + 2) = o + 2 + j by omega] at this

/-- Old memory, told by the world that was. -/
theorem Sl.back {w w' : World} {X : Nat → Prop} {a : Option Addr} {l : List Tm} {B : Nat} (h : Sl w' X a l) (hb : Below B w w') (hX : ∀ b, X b → b < B) : Sl w X a l :=
  h.kept fun b hx => (hb.block b (hX b hx)).symm

/-- What a row that is owned says of the slice. -/
theorem owned_val {w : World} {base e size : Nat} {v : Value} {n : Nat} {xs : List Value} (h : w.ownsRow base e size v n xs) (hn : 0 < n) :
    ∃ g cap, v = .slice (some ⟨g, 0, none⟩) n cap ∧ base ≤ g ∧ g < w.heap.size ∧ ∀ j u, xs[j]? = some u → w.cell? ⟨g, j, none⟩ = some u := by
  have h' := h
  obtain ⟨hl, h1⟩ := h
  rcases h1 with ⟨_, h0⟩ | ⟨g, cap, cur, hv, hg, hh, _⟩
  · omega
  · subst hv
    have hlt := (h'.lt g rfl).2
    refine ⟨g, cap, rfl, hg, hlt, fun j u hj => ?_⟩
    have := h'.cells (g := g) rfl j u hj
    by_cases h0 : j = 0
    · subst h0; simpa [Addr.add] using this
    · simpa [Addr.add, h0] using this

/-- An append whose outcome is known. -/
theorem wpList_append_eq {P : Program} {ops : Array Oper} {rest : List Oper} {o : Oper} {a : Act} {Q : Exit → Act → World → Prop} {w w' : World} {v u v' : Value} (hgd : o.guard = none) (s x : Operand) (t t' : TypeId)
    (ho : o.op = .call { callee := .builtin .append, args := #[s, x], argTypes := #[t, t'] }) (hs : a.eval s = v) (hx : a.eval x = u)
    (hr : (Builtin.append_ #[t, t'] o.type #[v, u]).run P w = .ok v' w') (h : wpList P ops Q rest (a.put o.dst v') w') : wpList P ops Q (o :: rest) a w :=
  wpList_plain hgd fun K hK => by
    unfold Oper.wp execOp
    simp only [ho, resolve, invoke, builtin, Sem.run_bind, Sem.run_pure, Result.andThen_ok, List.map_toArray, List.map_cons, List.map_nil, hs, hx, hr]
    exact hK _ _ h

end Go.Proofs.YtagidfoiemgfcaaGreatDoor

/- Small facts on blocks, and what a round that appends a term does to a row of terms. -/
namespace Go.Proofs.YtagidfoiemgfcaaGreatDoor
open Go.RowKit
set_option linter.unusedSimpArgs false
set_option linter.unusedVariables false

/-- A block of plain cells. -/
def Blk (w : World) (b : Nat) (cs : Array Value) (T : Nat) : Prop := w.heap[b]? = some (.cells cs T (0, 0))

theorem Blk.lt {w : World} {b : Nat} {cs : Array Value} {T : Nat} (h : Blk w b cs T) : b < w.heap.size := by
  apply Classical.byContradiction
  intro hn
  have e : w.heap[b]? = none := Array.getElem?_eq_none (by omega)
  rw [Blk, e] at h; cases h

theorem Blk.cell {w : World} {b : Nat} {cs : Array Value} {T : Nat} (h : Blk w b cs T) (i : Nat) : w.cell? ⟨b, i, none⟩ = cs[i]? := by
  unfold Blk at h; simp [World.cell?, h]

theorem Blk.frozen {w : World} {b : Nat} {cs : Array Value} {T : Nat} (h : Blk w b cs T) (i : Nat) : w.frozen? ⟨b, i, none⟩ = false := by
  unfold Blk at h; simp [World.frozen?, h]

theorem Blk.new (w : World) (cs : Array Value) (T : Nat) : Blk (w.alloc (.cells cs T)) w.heap.size cs T := heap_alloc_new w _

theorem Blk.alloc {w : World} {b : Nat} {cs : Array Value} {T : Nat} (h : Blk w b cs T) (o : Obj) : Blk (w.alloc o) b cs T := by
  unfold Blk at *; rw [Below.heap_alloc w o b (Blk.lt h)]; exact h

theorem Blk.below {w w' : World} {b B : Nat} {cs : Array Value} {T : Nat} (h : Blk w b cs T) (hb : Below B w w') (hB : b < B) : Blk w' b cs T := by
  unfold Blk at *; rw [hb.block b hB]; exact h

theorem Blk.drewN {w : World} {b : Nat} {cs : Array Value} {T : Nat} (h : Blk w b cs T) (n : Nat) : Blk (w.drewN n) b cs T := h

theorem Blk.grown {w w' : World} {b : Nat} {cs : Array Value} {T : Nat} {row : Option Nat} (h : Blk w b cs T) (hg : w.grownBy w' row) (hr : some b ≠ row) : Blk w' b cs T := by
  unfold Blk at *; rw [hg.block b (Blk.lt h) hr]; exact h

theorem Blk.set {w : World} {b : Nat} {cs : Array Value} {T : Nat} (h : Blk w b cs T) (i : Nat) (v : Value) : Blk (w.setCell ⟨b, i, none⟩ v) b (cs.setIfInBounds i v) T := by
  unfold Blk at *
  simp [World.setCell, Array.getElem?_modify, h]

theorem Blk.setOther {w : World} {b b' : Nat} {cs : Array Value} {T : Nat} (h : Blk w b cs T) (i : Nat) (v : Value) (hne : b ≠ b') : Blk (w.setCell ⟨b', i, none⟩ v) b cs T := by
  unfold Blk at *; rw [Below.heap_setCell _ _ _ _ (by simpa using hne)]; exact h

/-- The row so far, apart from what its terms are made of: old memory that Y lets, and new memory. -/
structure Row (w : World) (N : Nat) (T : Nat) (Y : Nat → Prop) (v : Value) (l : List Tm) (xs : List Value) : Prop where
  own : w.ownsRow N T 2 v l.length xs
  row : RowT w (fun b => Y b ∨ (N ≤ b ∧ some b ≠ v.ownBlock)) l xs

theorem Row.start (w : World) (N T : Nat) (Y : Nat → Prop) : Row w N T Y (.slice none 0 0) [] [] := ⟨World.ownsRow_nil w N T 2, rfl⟩

theorem Row.below {w w' : World} {N T : Nat} {Y : Nat → Prop} {v : Value} {l : List Tm} {xs : List Value} (h : Row w N T Y v l xs) (hb : Below w.heap.size w w') : Row w' N T Y v l xs :=
  ⟨h.own.kept (w' := w') (row := none) ⟨hb.os, hb.tape, hb.output, hb.size, fun j hj _ => hb.block j hj⟩ (by rcases Option.eq_none_or_eq_some (Value.ownBlock v) with h | ⟨x, h⟩; exact Or.inl h; exact Or.inr (by rw [h]; simp)),
   h.row.imp fun a l h => h.later hb⟩

theorem Row.ne {w : World} {N T : Nat} {Y : Nat → Prop} {v : Value} {l : List Tm} {xs : List Value} (h : Row w N T Y v l xs) {b : Nat} (hb : b < N) : some b ≠ v.ownBlock := fun e => by
  have := (h.own.lt b e.symm).1; omega

/-- One more: the term's cells have been laid into a block of their own, and appended. -/
theorem Row.push {w w1 w2 w3 : World} {N T : Nat} {Y : Nat → Prop} {v : Value} {l : List Tm} {xs : List Value} (h : Row w N T Y v l xs) (hN : N ≤ w.heap.size) (hY : ∀ b, Y b → b < N) (hb : Below w.heap.size w w1) {s : ByteArray} {a : Option Addr} {n c : Nat} {t : Tm}
    (ht : TV w1 (fun b => Y b ∨ w.heap.size ≤ b) (.agg #[.string s, .slice a n c]) t) (o : Obj) (hw2 : w2 = w1.alloc o) {g cap : Nat}
    (hown : w3.ownsRow N T 2 (.slice (some ⟨g, 0, none⟩) (l.length + 1) cap) (l.length + 1) (xs ++ [.string s, .slice a n c])) (hg : w2.grownBy w3 v.ownBlock) (hg1 : v.ownBlock = some g ∨ g = w2.heap.size) :
    Row w3 N T Y (.slice (some ⟨g, 0, none⟩) (l.length + 1) cap) (l ++ [t]) (xs ++ [.string s, .slice a n c]) := by
  subst hw2
  have hlt := h.own.lt
  refine ⟨by simpa using hown, ?_⟩
  have hsz : w1.heap.size ≤ (w1.alloc o).heap.size := by simp
  have hbs := hb.size
  have hgN : N ≤ g := by
    rcases hg1 with e | e
    · exact (hlt g e).1
    · simp at e; omega
  refine RowT.append (h.row.imp fun a' k' hs => ?_) ?_
  · have h1 : Sl w (fun b => (Y b ∨ (N ≤ b ∧ some b ≠ v.ownBlock)) ∧ b < w.heap.size) a' k' := hs.mono fun b h1 h2 => ⟨h1, h2⟩
    have h2 : Sl w3 (fun b => (Y b ∨ (N ≤ b ∧ some b ≠ v.ownBlock)) ∧ b < w.heap.size) a' k' := h1.kept fun b hx => by
      have hne : some b ≠ v.ownBlock := by
        rcases hx.1 with hy | hy
        · exact h.ne (hY b hy)
        · exact hy.2
      rw [hg.block b (by simp; omega) hne, Below.heap_alloc _ _ _ (by omega), hb.block b hx.2]
    refine h2.mono fun b hx _ => ?_
    rcases hx.1 with hy | hy
    · exact Or.inl hy
    · refine Or.inr ⟨hy.1, fun e => ?_⟩
      simp [Value.ownBlock] at e
      rcases hg1 with e' | e'
      · exact hy.2 (by rw [e', e])
      · simp at e'; omega
  · obtain ⟨a2, c2, e, hs⟩ := ht
    simp at e
    obtain ⟨rfl, rfl, rfl, rfl⟩ := e
    refine ⟨a, c, [], rfl, ?_, rfl⟩
    have h1 : Sl w1 (fun b => (Y b ∨ w.heap.size ≤ b) ∧ b < w1.heap.size) a t.args := hs.mono fun b h1 h2 => ⟨h1, h2⟩
    have h2 : Sl w3 (fun b => (Y b ∨ w.heap.size ≤ b) ∧ b < w1.heap.size) a t.args := h1.kept fun b hx => by
      have hne : some b ≠ v.ownBlock := by
        rcases hx.1 with hy | hy
        · exact h.ne (hY b hy)
        · intro e; have := (hlt b e.symm).2; omega
      rw [hg.block b (by simp; omega) hne, Below.heap_alloc _ _ _ hx.2]
    refine h2.mono fun b hx _ => ?_
    rcases hx.1 with hy | hy
    · exact Or.inl hy
    · refine Or.inr ⟨by omega, fun e => ?_⟩
      simp [Value.ownBlock] at e
      rcases hg1 with e' | e'
      · have := (hlt g e').2; omega
      · simp at e'; omega

/-- A store into a block that is none of the row's. -/
theorem Row.setCell {w : World} {N T : Nat} {Y : Nat → Prop} {v : Value} {l : List Tm} {xs : List Value} (h : Row w N T Y v l xs) {b i : Nat} (hb : b < N) (hY : ¬ Y b) (u : Value) : Row (w.setCell ⟨b, i, none⟩ u) N T Y v l xs :=
  ⟨ownsRow_setCell_below h.own (by simpa using hb) u, h.row.imp fun a k hs => hs.kept fun c hc => Below.heap_setCell _ _ _ _ (by
    simp
    rcases hc with hc | hc
    · intro e; subst e; exact hY hc
    · omega)⟩

theorem Row.sl {w : World} {N T : Nat} {Y : Nat → Prop} {v : Value} {l : List Tm} {xs : List Value} (h : Row w N T Y v l xs) : ∃ a c, v = .slice a l.length c ∧ Sl w (fun b => Y b ∨ N ≤ b) a l := by
  have hml : l.length ≤ 9223372036854775807 := by
    rcases h.own.2 with ⟨_, h0⟩ | ⟨g, cap, cur, _, _, _, h1, h2, _⟩
    · omega
    · unfold maxLen at h2; omega
  by_cases h0 : 0 < l.length
  · obtain ⟨g, cap, rfl, hg, hlt, hc⟩ := owned_val h.own h0
    exact ⟨_, _, rfl, hml, Or.inr ⟨g, 0, rfl, lies_of_rowT g (Or.inr hg) l xs 0 h.row (fun a k hs => hs.mono fun b hb _ => hb.imp id (fun h => h.1)) (fun j u hj => by simpa using hc j u hj)⟩⟩
  · have e : l = [] := List.length_eq_zero_iff.1 (by omega)
    subst e
    rcases h.own.2 with ⟨hv, _⟩ | ⟨g, cap, cur, hv, _⟩
    · exact ⟨none, 0, hv, hml, Or.inl rfl⟩
    · exact ⟨_, _, hv, hml, Or.inl rfl⟩

end Go.Proofs.YtagidfoiemgfcaaGreatDoor

/- Texts read as terms: what both readers do. -/
namespace Go.Proofs.YtagidfoiemgfcaaGreatDoor
open Go.RowKit
set_option linter.unusedSimpArgs false
set_option linter.unusedVariables false

/-- Where the letters and digits from i on end. -/
def stopF (s : ByteArray) : Nat → Nat → Nat
  | 0, i => i
  | f + 1, i => if i < s.size ∧ alnB (byteAt s i) = true then stopF s f (i + 1) else i
def stopAt (s : ByteArray) (i : Nat) : Nat := stopF s (s.size - i) i

theorem stopF_ge (s : ByteArray) : ∀ f i, i ≤ stopF s f i
  | 0, i => Nat.le_refl _
  | f + 1, i => by
    unfold stopF; split
    · have := stopF_ge s f (i + 1); omega
    · exact Nat.le_refl _
theorem stopF_le (s : ByteArray) : ∀ f i, i ≤ s.size → stopF s f i ≤ s.size
  | 0, i, h => h
  | f + 1, i, h => by
    unfold stopF; split
    · rename_i hc; exact stopF_le s f (i + 1) hc.1
    · exact h
theorem stopAt_ge (s : ByteArray) (i : Nat) : i ≤ stopAt s i := stopF_ge s _ i
theorem stopAt_le (s : ByteArray) {i : Nat} (h : i ≤ s.size) : stopAt s i ≤ s.size := stopF_le s _ i h
theorem stopAt_go {s : ByteArray} {i : Nat} (h : i < s.size) (ha : alnB (byteAt s i) = true) : stopAt s i = stopAt s (i + 1) := by
  have e : s.size - i = (s.size - (i + 1)) + 1 := by omega
  unfold stopAt
  rw [e, stopF, if_pos ⟨h, ha⟩]
theorem stopAt_end {s : ByteArray} {i : Nat} (h : ¬ (i < s.size ∧ alnB (byteAt s i) = true)) : stopAt s i = i := by
  unfold stopAt
  cases hf : s.size - i with
  | zero => rfl
  | succ f => rw [stopF, if_neg h]

/-- What reading gives: an error (0: none), a term, where it ended, how many knots there were. -/
structure Rd where
  err : Int
  t : Tm
  pos : Nat
  k : Nat
def noRd (e : Int) : Rd := ⟨e, ⟨⟨#[]⟩, []⟩, 0, 0⟩

/-- A term from i on; or, behind a name and some terms below it, the next one from behind i on. -/
def rd (s : ByteArray) : Nat → Option (ByteArray × List Tm) → Nat → Nat → Rd
  | 0, _, _, _ => noRd 99
  | f + 1, none, i, k =>
    if stopAt s i = i then noRd (if i = s.size then 13 else 12)
    else if nameB (s.extract i (stopAt s i)) = false then noRd 1
    else if 200 < k + 1 then noRd 3
    else if stopAt s i < s.size ∧ byteAt s (stopAt s i) = 40 then
      if varB (s.extract i (stopAt s i)) = true then noRd 2 else rd s f (some (s.extract i (stopAt s i), [])) (stopAt s i) (k + 1)
    else ⟨0, ⟨s.extract i (stopAt s i), []⟩, stopAt s i, k + 1⟩
  | f + 1, some (nm, acc), i, k =>
    if (rd s f none (i + 1) k).err ≠ 0 then noRd (rd s f none (i + 1) k).err
    else if (rd s f none (i + 1) k).pos = s.size then noRd 13
    else if byteAt s (rd s f none (i + 1) k).pos = 41 then ⟨0, ⟨nm, acc ++ [(rd s f none (i + 1) k).t]⟩, (rd s f none (i + 1) k).pos + 1, (rd s f none (i + 1) k).k⟩
    else if byteAt s (rd s f none (i + 1) k).pos = 44 then rd s f (some (nm, acc ++ [(rd s f none (i + 1) k).t])) (rd s f none (i + 1) k).pos (rd s f none (i + 1) k).k
    else noRd 12

end Go.Proofs.YtagidfoiemgfcaaGreatDoor

/- Lists of things of one cell each. -/
namespace Go.Proofs.YtagidfoiemgfcaaGreatDoor
open Go.RowKit
set_option linter.unusedSimpArgs false
set_option linter.unusedVariables false

/-- A list in memory, a cell each. -/
def LV {α : Type} (f : α → Value) (w : World) (X : Nat → Prop) (v : Value) (l : List α) : Prop :=
  ∃ a c, v = .slice a l.length c ∧ (l.length ≤ 9223372036854775807 ∧ l.length ≤ c) ∧ (l = [] ∨ ∃ b o, a = some ⟨b, o, none⟩ ∧ X b ∧ ∀ i (h : i < l.length), w.cell? ⟨b, o + i, none⟩ = some (f l[i]))

theorem LV.kept {α : Type} {f : α → Value} {w w' : World} {X : Nat → Prop} {v : Value} {l : List α} (h : LV f w X v l) (hk : ∀ b, X b → w'.heap[b]? = w.heap[b]?) : LV f w' X v l := by
  obtain ⟨a, c, e, hl, h⟩ := h
  refine ⟨a, c, e, hl, ?_⟩
  rcases h with h | ⟨b, o, e, hx, h⟩
  · exact Or.inl h
  · exact Or.inr ⟨b, o, e, hx, fun i hi => by rw [World.cell?_of_block (hk b hx)]; exact h i hi⟩

theorem LV.mono {α : Type} {f : α → Value} {w : World} {X Y : Nat → Prop} {v : Value} {l : List α} (h : LV f w X v l) (hk : ∀ b, X b → b < w.heap.size → Y b) : LV f w Y v l := by
  obtain ⟨a, c, e, hl, h⟩ := h
  refine ⟨a, c, e, hl, ?_⟩
  rcases h with h | ⟨b, o, e, hx, h⟩
  · exact Or.inl h
  · by_cases h0 : l = []
    · exact Or.inl h0
    · have hp : 0 < l.length := List.length_pos_iff.2 h0
      exact Or.inr ⟨b, o, e, hk b hx (World.block_lt_of_cell? w _ (h 0 hp)), h⟩

theorem LV.below {α : Type} {f : α → Value} {w w' : World} {X : Nat → Prop} {v : Value} {l : List α} {B : Nat} (h : LV f w X v l) (hb : Below B w w') (hX : ∀ b, X b → b < w.heap.size → b < B) : LV f w' X v l := by
  have h1 : LV f w (fun b => X b ∧ b < B) v l := h.mono fun b hx hs => ⟨hx, hX b hx hs⟩
  have h2 : LV f w' (fun b => X b ∧ b < B) v l := h1.kept fun b hx => hb.block b hx.2
  exact h2.mono fun b hx _ => hx.1

theorem LV.later {α : Type} {f : α → Value} {w w' : World} {X : Nat → Prop} {v : Value} {l : List α} (h : LV f w X v l) (hb : Below w.heap.size w w') : LV f w' X v l := h.below hb (fun _ _ h => h)
theorem LV.alloc {α : Type} {f : α → Value} {w : World} {X : Nat → Prop} {v : Value} {l : List α} (h : LV f w X v l) (o : Obj) : LV f (w.alloc o) X v l := h.later ((Below.refl _ _).alloc (Nat.le_refl _) o)

/-- Out of a row that a call owns. -/
theorem LV.of_own {α : Type} {f : α → Value} {w : World} {N T : Nat} {v : Value} {l : List α} (h : w.ownsRow N T 1 v l.length (l.map f)) : LV f w (fun b => N ≤ b) v l := by
  have h' := h
  obtain ⟨_, h1⟩ := h
  rcases h1 with ⟨rfl, h0⟩ | ⟨g, cap, cur, hv, hg, hh, hnc, hcm, _⟩
  · have e : l = [] := List.length_eq_zero_iff.1 h0
    subst e
    exact ⟨none, 0, rfl, by simp, Or.inl rfl⟩
  · unfold maxLen at hcm
    refine ⟨some ⟨g, 0, none⟩, cap, hv, ⟨by omega, hnc⟩, ?_⟩
    by_cases h0 : l = []
    · exact Or.inl h0
    · have hp : 0 < l.length := List.length_pos_iff.2 h0
      obtain ⟨g2, cap2, hv2, _, _, hc⟩ := owned_val h' hp
      rw [hv] at hv2
      simp at hv2
      obtain ⟨rfl, rfl⟩ := hv2
      exact Or.inr ⟨g, 0, rfl, hg, fun i hi => by rw [Nat.zero_add]; exact hc i _ (by simp [hi])⟩
end Go.Proofs.YtagidfoiemgfcaaGreatDoor


/- Walks: lists that are the same; whether a text is in a list. -/
namespace Go.Proofs.YtagidfoiemgfcaaGreatDoor
open Go.RowKit
set_option linter.unusedSimpArgs false
set_option linter.unusedVariables false

/-- Is a text in a list? -/
def inB (x : ByteArray) (l : List ByteArray) : Bool := l.any fun y => y.toList == x.toList
theorem inB_take {x : ByteArray} {l : List ByteArray} {k : Nat} (h : k < l.length) (h0 : inB x (l.take k) = false) (h1 : (l[k].toList == x.toList) = false) : inB x (l.take (k + 1)) = false := by
  unfold inB at *
  rw [List.take_succ_eq_append_getElem h, List.any_append, h0]
  simpa using h1
theorem inB_yes {x : ByteArray} {l : List ByteArray} {k : Nat} (h : k < l.length) (h1 : (l[k].toList == x.toList) = true) : inB x l = true := by
  unfold inB
  rw [List.any_eq_true]
  exact ⟨l[k], List.getElem_mem h, h1⟩

end Go.Proofs.YtagidfoiemgfcaaGreatDoor


/- Walks: how many knots a term has. -/
namespace Go.Proofs.YtagidfoiemgfcaaGreatDoor
open Go.RowKit

/-- Behind a call that makes memory: old cells and marks read as before. -/
theorem bcell {W w1 : World} {B : Nat} (hb : Below B W w1) : (∀ b o, b < B → w1.cell? ⟨b, o, none⟩ = W.cell? ⟨b, o, none⟩) ∧ (∀ b o, b < B → w1.frozen? ⟨b, o, none⟩ = W.frozen? ⟨b, o, none⟩) :=
  ⟨fun b o h => hb.cell (p := ⟨b, o, none⟩) h, fun b o h => hb.frozen (p := ⟨b, o, none⟩) h⟩

theorem ret_int {k : IntKind} {a b : Int} (h : a = b) : Ending.returned (.int k a) = .returned (.int k b) := by rw [h]

/-- Behind a call whose first deed was to lay its parameter down. -/
theorem below_box {w wr : World} {o : Obj} (hb : Below (w.heap.size + 1) (w.alloc o) wr) : Below w.heap.size w wr :=
  ((Below.refl _ _).alloc (Nat.le_refl _) _).trans (hb.mono (Nat.le_succ _))

end Go.Proofs.YtagidfoiemgfcaaGreatDoor


/- Walks: counting knots with a bound; what is wrong with a term. -/
namespace Go.Proofs.YtagidfoiemgfcaaGreatDoor
open Go.RowKit
set_option linter.unusedSimpArgs false
set_option linter.unusedVariables false

end Go.Proofs.YtagidfoiemgfcaaGreatDoor


/- Walks: all knots of a term. -/
namespace Go.Proofs.YtagidfoiemgfcaaGreatDoor
open Go.RowKit
set_option linter.unusedSimpArgs false
set_option linter.unusedVariables false

end Go.Proofs.YtagidfoiemgfcaaGreatDoor


/- Walks: what the document says of a term. -/
namespace Go.Proofs.YtagidfoiemgfcaaGreatDoor
open Go.RowKit
set_option linter.unusedSimpArgs false
set_option linter.unusedVariables false

end Go.Proofs.YtagidfoiemgfcaaGreatDoor


/- Walks: the variables of a term, each once. -/
namespace Go.Proofs.YtagidfoiemgfcaaGreatDoor
open Go.RowKit
set_option linter.unusedSimpArgs false
set_option linter.unusedVariables false

theorem Tryz.infoStr : (Tryz.prog.info? 9).map (fun i => (i.zero, i.size, i.bytes)) = some (some (.string ByteArray.empty), 1, 16) := by kernel_rfl

theorem beq_comm' (a b : ByteArray) : (a.toList == b.toList) = (b.toList == a.toList) := by
  rw [Bool.eq_iff_iff]; simp; exact eq_comm

set_option maxHeartbeats 400000 in
theorem index_any (x : ByteArray) (l : List ByteArray) (v : Value) (w : World) (X : Nat → Prop) (hv : LV Value.string w X v l) :
    Calls Tryz.prog 65 #[v, .string x] w fun e w' => (∃ n : Int, e = .returned (.int .i64 n) ∧ decide (0 ≤ n) = inB x l) ∧ w' = w := by
  obtain ⟨a, c, rfl, ⟨hl, _⟩, h1⟩ := hv
  go_enter Tryz.func65, Tryz.ntmps65
  go_wp2_with fail
  go_loop [8] (fun i => ∃ k : Nat, k ≤ l.length ∧ i = .int .i64 k ∧ inB x (l.take k) = false) (fun i => l.length - (intOf i).toNat)
  case atStart => exact ⟨0, Nat.zero_le _, rfl, by simp [inB]⟩
  case round =>
    obtain ⟨k, hk, rfl, ha⟩ := hrel
    have HA := hide ha
    clear ha
    by_cases hlt : k < l.length
    · obtain ⟨b, o, rfl, _, hc⟩ := h1.resolve_left (fun h => by rw [h] at hlt; simp at hlt)
      have d1 := hc k hlt
      clear hc h1
      cases hq : (x.toList == l[k].toList) with
      | true =>
        have HQ := hide (inB_yes hlt (by rw [beq_comm']; exact hq))
        go_wp2_with fail
        go_ret
        exact ⟨⟨k, rfl, by rw [HQ.out]; simp⟩, rfl⟩
      | false =>
        have HQ := hide (inB_take hlt HA.out (by rw [beq_comm']; exact hq))
        go_wp2_with fail
        go_round
        case rel => exact ⟨k + 1, by omega, by go_num, HQ.out⟩
        case measure => simp [intOf]; omega
    · have htk : l.take k = l := List.take_of_length_le (by omega)
      have HF : Hid (false = inB x l) := by unfold Hid; rw [← HA.out, htk]
      go_wp2_with fail
      go_ret
      exact ⟨⟨-1, rfl, by rw [← HF.out]; decide⟩, rfl⟩

set_option maxHeartbeats 400000 in
theorem contains_any (x : ByteArray) (l : List ByteArray) (v : Value) (w : World) (X : Nat → Prop) (hv : LV Value.string w X v l) :
    Calls Tryz.prog 49 #[v, .string x] w fun e w' => e = .returned (.bool (inB x l)) ∧ w' = w := by
  have HV := hide hv
  clear hv
  go_enter Tryz.func49, Tryz.ntmps49
  go_wp2_with fail
  refine (index_any x l _ _ X HV.out).mono ?_
  rintro e w1 ⟨⟨n, rfl, hn⟩, rfl⟩
  have HN := hide hn
  clear hn
  go_wp2_with fail
  go_ret
  exact ⟨ret_bool HN.out, rfl⟩

theorem grown_trans {w w1 w2 : World} {r r1 : Option Nat} (h : w.grownBy w1 r) (h1 : w1.grownBy w2 r1) (hr : ∀ k, r1 = some k → r = some k ∨ w.heap.size ≤ k) : w.grownBy w2 r :=
  ⟨h1.os.trans h.os, h1.tape.trans h.tape, h1.output.trans h.output, Nat.le_trans h.size h1.size, fun k hk hne => (h1.block k (Nat.lt_of_lt_of_le hk h.size) (fun e => by
    rcases hr k e.symm with h2 | h2
    · exact hne h2.symm
    · omega)).trans (h.block k hk hne)⟩

theorem grown_of_below {w w' : World} (hb : Below w.heap.size w w') (r : Option Nat) : w.grownBy w' r := ⟨hb.os, hb.tape, hb.output, hb.size, fun k hk _ => hb.block k hk⟩

theorem TV.grown {w w' : World} {X : Nat → Prop} {v : Value} {t : Tm} {r : Option Nat} (h : TV w X v t) (hg : w.grownBy w' r) (hX : ∀ b, X b → some b ≠ r) : TV w' X v t := by
  have h1 : TV w (fun b => X b ∧ b < w.heap.size) v t := h.mono fun b h1 h2 => ⟨h1, h2⟩
  have h2 : TV w' (fun b => X b ∧ b < w.heap.size) v t := h1.kept fun b hx => hg.block b hx.2 (hX b hx.1)
  exact h2.mono fun b hx _ => hx.1

/-- What stays true of a row of texts while it is added to. -/
def NamesAt (w0 : World) (B : Nat) (q0 : Value) (acc : List ByteArray) (q : Value) (wr : World) : Prop :=
  wr.ownsRow B 9 1 q acc.length (acc.map Value.string) ∧ w0.grownBy wr q0.ownBlock ∧ (∀ k, q.ownBlock = some k → q0.ownBlock = some k ∨ w0.heap.size ≤ k)

theorem NamesAt.step {w0 w1 w2 : World} {B : Nat} {q0 q1 q2 : Value} {acc1 acc2 : List ByteArray} (h1 : NamesAt w0 B q0 acc1 q1 w1) (h2 : NamesAt w1 B q1 acc2 q2 w2) : NamesAt w0 B q0 acc2 q2 w2 := by
  refine ⟨h2.1, grown_trans h1.2.1 h2.2.1 h1.2.2, fun k hk => ?_⟩
  rcases h2.2.2 k hk with h | h
  · exact h1.2.2 k h
  · exact Or.inr (Nat.le_trans h1.2.1.size h)

theorem NamesAt.below {w0 w1 w2 : World} {B : Nat} {q0 q1 : Value} {acc1 : List ByteArray} (h1 : NamesAt w0 B q0 acc1 q1 w1) (hb : Below w1.heap.size w1 w2) : NamesAt w0 B q0 acc1 q1 w2 :=
  ⟨h1.1.kept (w' := w2) (row := none) ⟨hb.os, hb.tape, hb.output, hb.size, fun j hj _ => hb.block j hj⟩ (by rcases Option.eq_none_or_eq_some (Value.ownBlock q1) with h | ⟨x, h⟩; exact Or.inl h; exact Or.inr (by rw [h]; simp)),
   grown_trans h1.2.1 (grown_of_below hb q1.ownBlock) h1.2.2, h1.2.2⟩
end Go.Proofs.YtagidfoiemgfcaaGreatDoor

/- The tree that a lambda term is, and how it lies in memory. -/
namespace Go.Proofs.YtagidfoiemgfcaaGreatDoor
open Go.RowKit

/-- A lambda term as a tree. -/
structure Lm where
  kind : Int
  idx : Int
  subs : List Lm

theorem Lm.ind {P : Lm → Prop} (h : ∀ k x l, (∀ y ∈ l, P y) → P ⟨k, x, l⟩) (t : Lm) : P t :=
  Lm.rec (motive_1 := P) (motive_2 := fun l => ∀ x ∈ l, P x) (fun k x l ih => h k x l ih) (fun x hx => by cases hx)
    (fun a l ha hl x hx => by
      rcases List.mem_cons.1 hx with e | e
      · subst e; exact ha
      · exact hl x e) t

theorem Lm.indL {P : List Lm → Prop} (h0 : P []) (h : ∀ k x l r, P l → P r → P (⟨k, x, l⟩ :: r)) (l : List Lm) : P l :=
  Lm.rec_1 (motive_1 := fun t => P t.subs) (motive_2 := P) (fun _ _ _ ih => ih) h0 (fun a l ha hl => by obtain ⟨k, x, m⟩ := a; exact h k x m l ha hl) l

/-- The knots of a list of lambda terms. -/
def sizeM : List Lm → Nat
  | [] => 0
  | ⟨_, _, l⟩ :: r => 1 + sizeM l + sizeM r

theorem sizeM_append (a b : List Lm) : sizeM (a ++ b) = sizeM a + sizeM b := by
  induction a with
  | nil => simp [sizeM]
  | cons t r ih => obtain ⟨k, x, l⟩ := t; simp only [List.cons_append, sizeM, ih]; omega
theorem sizeM_take (l : List Lm) (k : Nat) (h : k < l.length) : sizeM (l.take (k + 1)) = sizeM (l.take k) + sizeM [l[k]] := by
  rw [List.take_succ_eq_append_getElem h, sizeM_append]
theorem sizeM_take_le (l : List Lm) (k : Nat) : sizeM (l.take k) ≤ sizeM l := by
  have h := sizeM_append (l.take k) (l.drop k)
  rw [List.take_append_drop] at h
  omega
theorem sizeM_len (l : List Lm) : l.length ≤ sizeM l := by
  induction l with
  | nil => simp
  | cons t r ih => obtain ⟨k, x, m⟩ := t; simp only [List.length_cons, sizeM]; omega

/-- A list of lambda terms lies in a row of cells, three a term, in blocks that X lets. -/
def LiesM (w : World) (X : Nat → Prop) : Nat → Nat → List Lm → Prop
  | _, _, [] => True
  | b, o, ⟨k, x, l⟩ :: r => X b ∧ w.cell? ⟨b, o, none⟩ = some (.int .i64 k) ∧ w.cell? ⟨b, o + 1, none⟩ = some (.int .i64 x) ∧
      (∃ a c, w.cell? ⟨b, o + 2, none⟩ = some (.slice a l.length c) ∧ l.length ≤ 9223372036854775807 ∧ (l = [] ∨ ∃ b' o', a = some ⟨b', o', none⟩ ∧ LiesM w X b' o' l)) ∧ LiesM w X b (o + 3) r

/-- What a slice of lambda terms holds. -/
def SlM (w : World) (X : Nat → Prop) (a : Option Addr) (l : List Lm) : Prop := l.length ≤ 9223372036854775807 ∧ (l = [] ∨ ∃ b o, a = some ⟨b, o, none⟩ ∧ LiesM w X b o l)

/-- What a lambda term's value holds. -/
def MV (w : World) (X : Nat → Prop) (v : Value) (t : Lm) : Prop := ∃ a c, v = .agg #[.int .i64 t.kind, .int .i64 t.idx, .slice a t.subs.length c] ∧ SlM w X a t.subs

theorem liesM_kept {w w' : World} {X : Nat → Prop} (h : ∀ b, X b → w'.heap[b]? = w.heap[b]?) (l : List Lm) : ∀ b o, LiesM w X b o l → LiesM w' X b o l := by
  induction l using Lm.indL with
  | h0 => intro b o _; simp [LiesM]
  | h k x l r ihl ihr =>
    intro b o hl
    simp only [LiesM] at hl ⊢
    obtain ⟨hx, h1, h1', ⟨a, c, h2, h2', h3⟩, h4⟩ := hl
    refine ⟨hx, by rw [World.cell?_of_block (h b hx)]; exact h1, by rw [World.cell?_of_block (h b hx)]; exact h1', ⟨a, c, by rw [World.cell?_of_block (h b hx)]; exact h2, h2', ?_⟩, ihr _ _ h4⟩
    rcases h3 with h3 | ⟨b', o', h3, h5⟩
    · exact Or.inl h3
    · exact Or.inr ⟨b', o', h3, ihl _ _ h5⟩

theorem liesM_mono {w : World} {X Y : Nat → Prop} (h : ∀ b, X b → b < w.heap.size → Y b) (l : List Lm) : ∀ b o, LiesM w X b o l → LiesM w Y b o l := by
  induction l using Lm.indL with
  | h0 => intro b o _; simp [LiesM]
  | h k x l r ihl ihr =>
    intro b o hl
    simp only [LiesM] at hl ⊢
    obtain ⟨hx, h1, h1', ⟨a, c, h2, h2', h3⟩, h4⟩ := hl
    have hb : b < w.heap.size := by
      apply Classical.byContradiction
      intro hn
      have e : w.heap[b]? = none := Array.getElem?_eq_none (by omega)
      simp [World.cell?, e] at h1
    refine ⟨h b hx hb, h1, h1', ⟨a, c, h2, h2', ?_⟩, ihr _ _ h4⟩
    rcases h3 with h3 | ⟨b', o', h3, h5⟩
    · exact Or.inl h3
    · exact Or.inr ⟨b', o', h3, ihl _ _ h5⟩
theorem SlM.kept {w w' : World} {X : Nat → Prop} {a : Option Addr} {l : List Lm} (h : SlM w X a l) (hk : ∀ b, X b → w'.heap[b]? = w.heap[b]?) : SlM w' X a l := by
  obtain ⟨hl, h⟩ := h
  refine ⟨hl, ?_⟩
  rcases h with h | ⟨b, o, e, h⟩
  · exact Or.inl h
  · exact Or.inr ⟨b, o, e, liesM_kept hk _ _ _ h⟩

theorem SlM.mono {w : World} {X Y : Nat → Prop} {a : Option Addr} {l : List Lm} (h : SlM w X a l) (hk : ∀ b, X b → b < w.heap.size → Y b) : SlM w Y a l := by
  obtain ⟨hl, h⟩ := h
  refine ⟨hl, ?_⟩
  rcases h with h | ⟨b, o, e, h⟩
  · exact Or.inl h
  · exact Or.inr ⟨b, o, e, liesM_mono hk _ _ _ h⟩

theorem SlM.below {w w' : World} {X : Nat → Prop} {a : Option Addr} {l : List Lm} {B : Nat} (h : SlM w X a l) (hb : Below B w w') (hX : ∀ b, X b → b < w.heap.size → b < B) : SlM w' X a l := by
  have h1 : SlM w (fun b => X b ∧ b < B) a l := h.mono fun b hx hs => ⟨hx, hX b hx hs⟩
  have h2 : SlM w' (fun b => X b ∧ b < B) a l := h1.kept fun b hx => hb.block b hx.2
  exact h2.mono fun b hx _ => hx.1

theorem MV.kept {w w' : World} {X : Nat → Prop} {v : Value} {t : Lm} (h : MV w X v t) (hk : ∀ b, X b → w'.heap[b]? = w.heap[b]?) : MV w' X v t := by
  obtain ⟨a, c, e, h⟩ := h
  exact ⟨a, c, e, h.kept hk⟩

theorem MV.mono {w : World} {X Y : Nat → Prop} {v : Value} {t : Lm} (h : MV w X v t) (hk : ∀ b, X b → b < w.heap.size → Y b) : MV w Y v t := by
  obtain ⟨a, c, e, h⟩ := h
  exact ⟨a, c, e, h.mono hk⟩

theorem MV.below {w w' : World} {X : Nat → Prop} {v : Value} {t : Lm} {B : Nat} (h : MV w X v t) (hb : Below B w w') (hX : ∀ b, X b → b < w.heap.size → b < B) : MV w' X v t := by
  obtain ⟨a, c, e, h⟩ := h
  exact ⟨a, c, e, h.below hb hX⟩

theorem MV.alloc {w : World} {X : Nat → Prop} {v : Value} {t : Lm} (h : MV w X v t) (o : Obj) : MV (w.alloc o) X v t :=
  h.below ((Below.refl _ _).alloc (Nat.le_refl _) o) (fun _ _ h => h)

theorem MV.later {w w' : World} {X : Nat → Prop} {v : Value} {t : Lm} (h : MV w X v t) (hb : Below w.heap.size w w') : MV w' X v t := h.below hb (fun _ _ h => h)

theorem SlM.later {w w' : World} {X : Nat → Prop} {a : Option Addr} {l : List Lm} (h : SlM w X a l) (hb : Below w.heap.size w w') : SlM w' X a l := h.below hb (fun _ _ h => h)

/-- One of a row. -/
theorem liesM_get {w : World} {X : Nat → Prop} : ∀ (l : List Lm) (b o : Nat), LiesM w X b o l → ∀ i (h : i < l.length),
    X b ∧ w.cell? ⟨b, o + i * 3, none⟩ = some (.int .i64 l[i].kind) ∧ w.cell? ⟨b, o + i * 3 + 1, none⟩ = some (.int .i64 l[i].idx) ∧ ∃ a c, w.cell? ⟨b, o + i * 3 + 2, none⟩ = some (.slice a l[i].subs.length c) ∧ SlM w X a l[i].subs := by
  intro l
  induction l with
  | nil => intro b o _ i h; simp at h
  | cons t r ih =>
    intro b o hl i h
    obtain ⟨s, x, k⟩ := t
    simp only [LiesM] at hl
    obtain ⟨hx, h1, h1', ⟨a, c, h2, h3⟩, h4⟩ := hl
    cases i with
    | zero => exact ⟨hx, h1, h1', a, c, h2, h3⟩
    | succ i =>
      have := ih b (o + 3) h4 i (by simpa using h)
      simp only [List.getElem_cons_succ]
      rw [show o + (i + 1) * 3 = o + 3 + i * 3 by omega]
      exact this

/-- One of a slice, in a later world. -/
theorem SlM.get {w wr : World} {X : Nat → Prop} {a : Option Addr} {l : List Lm} {B : Nat} (h : SlM w X a l) (hb : Below B w wr) (hX : ∀ b, X b → b < w.heap.size → b < B) (k : Nat) (hk : k < l.length) :
    ∃ b o a' c', a = some ⟨b, o, none⟩ ∧ wr.cell? ⟨b, o + k * 3, none⟩ = some (.int .i64 l[k].kind) ∧ wr.cell? ⟨b, o + k * 3 + 1, none⟩ = some (.int .i64 l[k].idx) ∧ wr.cell? ⟨b, o + k * 3 + 2, none⟩ = some (.slice a' l[k].subs.length c') ∧ MV wr X (.agg #[.int .i64 l[k].kind, .int .i64 l[k].idx, .slice a' l[k].subs.length c']) l[k] := by
  have h' := h.below hb hX
  obtain ⟨_, h1⟩ := h'
  rcases h1 with h1 | ⟨b, o, e, h1⟩
  · subst h1; simp at hk
  · obtain ⟨_, h2, h2', a', c', h3, h4⟩ := liesM_get _ _ _ h1 k hk
    exact ⟨b, o, a', c', e, h2, h2', h3, a', c', rfl, h4⟩
end Go.Proofs.YtagidfoiemgfcaaGreatDoor


/- Walks: how many knots a lambda term has. -/
namespace Go.Proofs.YtagidfoiemgfcaaGreatDoor
open Go.RowKit
set_option linter.unusedSimpArgs false
set_option linter.unusedVariables false

set_option maxHeartbeats 400000 in
theorem lamSize_any (t : Lm) : ∀ (v : Value) (most : Int) (w : World) (X : Nat → Prop), MV w X v t → 0 ≤ most → most ≤ 1000000 →
    Calls Tryz.prog 12 #[v, .int .i64 most] w fun e w' => e = .returned (.int .i64 (min (sizeM [t]) (most + 1))) ∧ Below w.heap.size w w' := by
  induction t using Lm.ind with
  | h kd ix l ih =>
    intro v most w X hv hm0 hm1
    obtain ⟨a, c, rfl, hs⟩ := hv
    have IH := hide ih
    clear ih
    go_enter Tryz.func12, Tryz.ntmps12
    go_wp2_with fail
    go_loopw [5, 6] (fun n i wr => ∃ k : Nat, k ≤ l.length ∧ i = .int .i64 k ∧ n = .int .i64 (min (1 + sizeM (l.take k)) (most + 1)) ∧ Below (w.heap.size + 1) (w.alloc (Obj.cells #[Value.int .i64 kd, Value.int .i64 ix, Value.slice a l.length c] 26)) wr) (fun n i wr => l.length - (intOf i).toNat)
    case atStart => exact ⟨0, Nat.zero_le _, rfl, by simp [sizeM]; omega, Below.refl _ _⟩
    case round =>
      obtain ⟨k, hk, rfl, rfl, hb⟩ := hrel
      have hc := bcell hb
      have c0 : wr.cell? ⟨w.heap.size, 0, none⟩ = some (.int .i64 kd) := by rw [hc.1 _ _ (by omega)]; simp
      have c0' : wr.cell? ⟨w.heap.size, 1, none⟩ = some (.int .i64 ix) := by rw [hc.1 _ _ (by omega)]; simp
      have c1 : wr.cell? ⟨w.heap.size, 2, none⟩ = some (.slice a l.length c) := by rw [hc.1 _ _ (by omega)]; simp
      have hl := hs.1
      have hn : 0 ≤ ((1 : Int) + sizeM (l.take k)) := by omega
      by_cases hlt : k < l.length
      · obtain ⟨b, o, a', c', rfl, d0, d0', d1, hx⟩ := hs.get (((Below.refl _ _).alloc (Nat.le_refl _) _).trans (hb.mono (Nat.le_succ _))) (fun _ _ h => h) k hlt
        by_cases hle : 1 + (sizeM (l.take k) : Int) ≤ most
        · have hmin : min (1 + (sizeM (l.take k) : Int)) (most + 1) = 1 + (sizeM (l.take k) : Int) := by omega
          rw [hmin]
          go_wp2_with fail
          refine (IH.out _ (List.getElem_mem hlt) _ _ _ X hx (by omega) (by omega)).mono ?_
          rintro e w1 ⟨rfl, hb1⟩
          have hsz : w.heap.size + 1 ≤ wr.heap.size := by have := hb.size; simpa using this
          have Hst := hide (sizeM_take l k hlt)
          have hm2 : 0 ≤ min ((sizeM [l[k]] : Int)) (most - (1 + (sizeM (l.take k) : Int)) + 1) := by omega
          have hm3 : min ((sizeM [l[k]] : Int)) (most - (1 + (sizeM (l.take k) : Int)) + 1) ≤ 1000001 := by omega
          go_wp2_with fail
          go_roundw
          case rel => exact ⟨k + 1, by omega, by go_num, by rw [Hst.out]; congr 1; omega, hb.trans (hb1.mono hsz)⟩
          case measure => simp [intOf]; omega
        · have hmin : min (1 + (sizeM (l.take k) : Int)) (most + 1) = most + 1 := by omega
          rw [hmin]
          have hz : (sizeM [(⟨kd, ix, l⟩ : Lm)] : Int) = 1 + sizeM l := by simp [sizeM]
          have hle2 : sizeM (l.take k) ≤ sizeM l := sizeM_take_le l k
          have HF := hide (show (most + 1 : Int) = min (sizeM [(⟨kd, ix, l⟩ : Lm)] : Int) (most + 1) by omega)
          clear hz
          go_wp2_with fail
          go_ret
          exact ⟨ret_int HF.out, below_box hb⟩
      · have htk : l.take k = l := List.take_of_length_le (by omega)
        rw [htk]
        have hz : (sizeM [(⟨kd, ix, l⟩ : Lm)] : Int) = 1 + sizeM l := by simp [sizeM]
        have HZ := hide hz
        clear hz
        go_wp2_with fail
        · go_ret
          exact ⟨ret_int (by have := HZ.out; omega), below_box hb⟩
        · go_ret
          exact ⟨ret_int (by have := HZ.out; omega), below_box hb⟩

theorem subsOf_any (kd ix : Int) (a : Option Addr) (n c : Nat) (w : World) :
    Calls Tryz.prog 42 #[.agg #[.int .i64 kd, .int .i64 ix, .slice a n c]] w fun e w' => e = .returned (.slice a n c) ∧ w' = w.alloc (.cells #[.int .i64 kd, .int .i64 ix, .slice a n c] 26) := by
  go_enter Tryz.func42, Tryz.ntmps42
  go_wp2_with fail
  go_ret
  exact ⟨rfl, rfl⟩

set_option maxHeartbeats 400000 in
theorem countOnM_any (M : Int) (hM0 : 0 ≤ M) (hM1 : M ≤ 1000000) (t : Lm) : ∀ (v : Value) (n : Int) (w : World) (X : Nat → Prop), MV w X v t → 0 ≤ n → n ≤ M →
    Calls Tryz.prog 58 #[v, .func (.func 42) #[] #[], .int .i64 M, .int .i64 n] w fun e w' => e = .returned (.int .i64 (min (n + sizeM [t]) (M + 1))) ∧ Below w.heap.size w w' := by
  induction t using Lm.ind with
  | h kd ix l ih =>
    intro v n w X hv hn0 hn1
    obtain ⟨a, c, rfl, hs⟩ := hv
    have IH := hide ih
    clear ih
    have hz : Hid ((sizeM [(⟨kd, ix, l⟩ : Lm)] : Int) = 1 + sizeM l) := by simp [Hid, sizeM]
    go_enter Tryz.func58, Tryz.ntmps58
    go_wp2_with (go_at_call 42; refine (subsOf_any _ _ _ _ _ _).mono ?_; rintro e w' ⟨rfl, rfl⟩)
    have hB0 : Hid (Below w.heap.size w ((w.alloc (Obj.cells #[Value.int .i64 kd, Value.int .i64 ix, Value.slice a l.length c] 26)).alloc (Obj.cells #[Value.int .i64 kd, Value.int .i64 ix, Value.slice a l.length c] 26))) := ((Below.refl _ _).alloc (Nat.le_refl _) _).alloc (by simp) _
    have hZ0 : Hid (w.heap.size + 2 ≤ ((w.alloc (Obj.cells #[Value.int .i64 kd, Value.int .i64 ix, Value.slice a l.length c] 26)).alloc (Obj.cells #[Value.int .i64 kd, Value.int .i64 ix, Value.slice a l.length c] 26)).heap.size) := by simp [Hid]
    generalize ((w.alloc (Obj.cells #[Value.int .i64 kd, Value.int .i64 ix, Value.slice a l.length c] 26)).alloc (Obj.cells #[Value.int .i64 kd, Value.int .i64 ix, Value.slice a l.length c] 26)) = w0 at *
    go_loopw [9, 18] (fun m i wr => ∃ k : Nat, k ≤ l.length ∧ i = .int .i64 k ∧ m = .int .i64 (min (n + 1 + sizeM (l.take k)) (M + 1)) ∧ Below w.heap.size w wr) (fun m i wr => l.length - (intOf i).toNat)
    case atStart => exact ⟨0, Nat.zero_le _, rfl, by rw [show sizeM (l.take 0) = 0 by simp [sizeM]]; congr 1; omega, hB0.out⟩
    case round =>
      obtain ⟨k, hk, rfl, rfl, hb⟩ := hrel
      have hl := hs.1
      have hsz : w.heap.size ≤ wr.heap.size := hb.size
      by_cases hlt : k < l.length
      · obtain ⟨b, o, a', c', rfl, d0, d0', d1, hx⟩ := hs.get hb (fun _ _ h => h) k hlt
        by_cases hle : n + 1 + (sizeM (l.take k) : Int) ≤ M
        · have hmin : min (n + 1 + (sizeM (l.take k) : Int)) (M + 1) = n + 1 + (sizeM (l.take k) : Int) := by omega
          rw [hmin]
          go_wp2_with fail
          refine (IH.out _ (List.getElem_mem hlt) _ _ _ X (hx.alloc _) (by omega) (by omega)).mono ?_
          rintro e w1 ⟨rfl, hb1⟩
          have Hst := hide (sizeM_take l k hlt)
          go_wp2_with fail
          go_roundw
          case rel => exact ⟨k + 1, by omega, by go_num, by rw [Hst.out]; congr 1; omega, (hb.alloc hsz _).trans (hb1.mono (by simp; omega))⟩
          case measure => simp [intOf]; omega
        · have hmin : min (n + 1 + (sizeM (l.take k) : Int)) (M + 1) = M + 1 := by omega
          rw [hmin]
          have hle2 : sizeM (l.take k) ≤ sizeM l := sizeM_take_le l k
          go_wp2_with fail
          go_ret
          refine ⟨ret_int (by have := hz.out; omega), ?_⟩
          exact hb.alloc (by omega) _
      · have htk : l.take k = l := List.take_of_length_le (by omega)
        rw [htk]
        go_wp2_with fail
        go_ret
        exact ⟨ret_int (by have := hz.out; omega), hb⟩

theorem countTM_any (M : Int) (hM0 : 0 ≤ M) (hM1 : M ≤ 1000000) (t : Lm) (v : Value) (w : World) (X : Nat → Prop) (hv : MV w X v t) :
    Calls Tryz.prog 41 #[v, .func (.func 42) #[] #[], .int .i64 M] w fun e w' => e = .returned (.int .i64 (min (sizeM [t] : Int) (M + 1))) ∧ Below w.heap.size w w' := by
  obtain ⟨a, c, rfl, hs⟩ := hv
  have hv : MV w X (.agg #[.int .i64 t.kind, .int .i64 t.idx, .slice a t.subs.length c]) t := ⟨a, c, rfl, hs⟩
  go_enter Tryz.func41, Tryz.ntmps41
  go_wp2_with fail
  refine (countOnM_any M hM0 hM1 t _ _ _ X (hv.alloc _) (by omega) (by omega)).mono ?_
  rintro e w1 ⟨rfl, hb1⟩
  go_wp2_with fail
  go_ret
  exact ⟨ret_int (by omega), ((Below.refl _ _).alloc (Nat.le_refl _) _).trans (hb1.mono (by simp))⟩

theorem countM_any (M : Int) (hM0 : 0 ≤ M) (hM1 : M ≤ 1000000) (t : Lm) (v : Value) (w : World) (X : Nat → Prop) (hv : MV w X v t) :
    Calls Tryz.prog 20 #[v, .int .i64 M] w fun e w' => e = .returned (.int .i64 (min (sizeM [t] : Int) (M + 1))) ∧ Below w.heap.size w w' := by
  obtain ⟨a, c, rfl, hs⟩ := hv
  have hv : MV w X (.agg #[.int .i64 t.kind, .int .i64 t.idx, .slice a t.subs.length c]) t := ⟨a, c, rfl, hs⟩
  go_enter Tryz.func20, Tryz.ntmps20
  go_wp2_with fail
  refine (countTM_any M hM0 hM1 t _ _ X (hv.alloc _)).mono ?_
  rintro e w1 ⟨rfl, hb1⟩
  go_wp2_with fail
  go_ret
  exact ⟨ret_int (by omega), ((Below.refl _ _).alloc (Nat.le_refl _) _).trans (hb1.mono (by simp))⟩

end Go.Proofs.YtagidfoiemgfcaaGreatDoor

/- Walks: may a lambda term be? -/
namespace Go.Proofs.YtagidfoiemgfcaaGreatDoor
open Go.RowKit
set_option linter.unusedSimpArgs false
set_option linter.unusedVariables false
set_option maxRecDepth 8000

/-- How many stand below a knot of a kind. -/
def subsK (k : Int) : Nat := if k = 2 then 1 else if k = 3 then 2 else 0
/-- What its number is below, with u binders around it and m unknowns. -/
def mostK (u m k : Int) : Int := if k = 1 then u else if k = 4 then 40 else if k = 5 then m else 1
/-- The binders around what stands below it. -/
def deepK (u k : Int) : Int := if k = 2 then u + 1 else u
/-- What is wrong with a knot. -/
def knE (u m k x : Int) (n : Nat) : Int := if k < 1 ∨ 5 < k then 2 else if n ≠ subsK k then 2 else if x < 0 ∨ mostK u m k ≤ x then 15 else 0
/-- What is wrong first. -/
def errM : Int → Int → List Lm → Int
  | _, _, [] => 0
  | u, m, ⟨k, x, l⟩ :: r => if knE u m k x l.length = 0 then (if errM (deepK u k) m l = 0 then errM u m r else errM (deepK u k) m l) else knE u m k x l.length
theorem errM_cons (u m : Int) (t : Lm) (r : List Lm) : errM u m (t :: r) = if errM u m [t] = 0 then errM u m r else errM u m [t] := by
  obtain ⟨k, x, l⟩ := t
  simp only [errM]
  split
  · split <;> simp_all
  · simp_all
theorem errM_append (u m : Int) (a b : List Lm) : errM u m (a ++ b) = if errM u m a = 0 then errM u m b else errM u m a := by
  induction a with
  | nil => simp [errM]
  | cons t r ih =>
    rw [List.cons_append, errM_cons, errM_cons u m t r, ih]
    by_cases h : errM u m [t] = 0 <;> simp [h]
theorem errM_take (u m : Int) (l : List Lm) (k : Nat) (h : k < l.length) : errM u m (l.take (k + 1)) = if errM u m (l.take k) = 0 then errM u m [l[k]] else errM u m (l.take k) := by
  rw [List.take_succ_eq_append_getElem h, errM_append]
theorem errM_of_take {u m : Int} {l : List Lm} {k : Nat} (h : errM u m (l.take k) ≠ 0) : errM u m l = errM u m (l.take k) := by
  have := errM_append u m (l.take k) (l.drop k)
  rw [List.take_append_drop, if_neg h] at this
  exact this
theorem errM_good {u m kd ix : Int} {l : List Lm} (h : knE u m kd ix l.length = 0) : errM u m [⟨kd, ix, l⟩] = errM (deepK u kd) m l := by
  simp only [errM, h, if_true]
  by_cases h0 : errM (deepK u kd) m l = 0 <;> simp [h0]
theorem errM_bad {u m kd ix : Int} {l : List Lm} (h : knE u m kd ix l.length ≠ 0) : errM u m [⟨kd, ix, l⟩] = knE u m kd ix l.length := by
  simp [errM, h]
/-- May a lambda term be, under so many binders? -/
def lamE (u m : Int) (t : Lm) : Int := if u < 0 ∨ 40 < u then 10 else if 200 < sizeM [t] then 3 else errM u m [t]

set_option maxHeartbeats 1000000 in
theorem checkKnot_any (kd ix u m : Int) (a : Option Addr) (n c : Nat) (w : World) (hn : n ≤ 9223372036854775807) :
    Calls Tryz.prog 74 #[.agg #[.int .i64 kd, .int .i64 ix, .slice a n c], .int .i64 u, .int .i64 m] w fun e w' => e = .returned (.int .i64 (knE u m kd ix n)) ∧ Below w.heap.size w w' := by
  have HB : Hid (Below w.heap.size w (w.alloc (.cells #[.int .i64 kd, .int .i64 ix, .slice a n c] 26))) := (Below.refl _ _).alloc (Nat.le_refl _) _
  by_cases k1 : kd = 1
  case pos =>
    subst k1
    by_cases hl : n = 0
    case pos =>
      subst hl
      by_cases hi : ix < 0
      · have HE : Hid (knE u m 1 ix 0 = 15) := by unfold Hid knE mostK subsK; simp [hi]
        go_enter Tryz.func74, Tryz.ntmps74
        go_wp2_with fail
        go_ret
        exact ⟨ret_int HE.out.symm, HB.out⟩
      · by_cases hj : (u : Int) ≤ ix
        · have HE : Hid (knE u m 1 ix 0 = 15) := by unfold Hid knE mostK subsK; simp [hi, hj]
          go_enter Tryz.func74, Tryz.ntmps74
          go_wp2_with fail
          go_ret
          exact ⟨ret_int HE.out.symm, HB.out⟩
        · have HE : Hid (knE u m 1 ix 0 = 0) := by unfold Hid knE mostK subsK; simp [hi, hj]
          go_enter Tryz.func74, Tryz.ntmps74
          go_wp2_with fail
          go_ret
          exact ⟨ret_int HE.out.symm, HB.out⟩
    case neg =>
      have HE : Hid (knE u m 1 ix n = 2) := by unfold Hid knE mostK subsK; simp [hl]
      have hl2 : ¬ (n : Int) = 0 := by omega
      have hl3 : ((n : Int) != 0) = true := by simpa using hl2
      clear hl
      go_enter Tryz.func74, Tryz.ntmps74
      go_wp2_with fail
      go_ret
      exact ⟨ret_int HE.out.symm, HB.out⟩
  case neg =>
    by_cases k2 : kd = 2
    case pos =>
      subst k2
      by_cases hl : n = 1
      case pos =>
        subst hl
        by_cases hi : ix < 0
        · have HE : Hid (knE u m 2 ix 1 = 15) := by unfold Hid knE mostK subsK; simp [hi]
          go_enter Tryz.func74, Tryz.ntmps74
          go_wp2_with fail
          go_ret
          exact ⟨ret_int HE.out.symm, HB.out⟩
        · by_cases hj : (1 : Int) ≤ ix
          · have HE : Hid (knE u m 2 ix 1 = 15) := by unfold Hid knE mostK subsK; simp [hi, hj]
            go_enter Tryz.func74, Tryz.ntmps74
            go_wp2_with fail
            go_ret
            exact ⟨ret_int HE.out.symm, HB.out⟩
          · have HE : Hid (knE u m 2 ix 1 = 0) := by unfold Hid knE mostK subsK; simp [hi, hj]
            go_enter Tryz.func74, Tryz.ntmps74
            go_wp2_with fail
            go_ret
            exact ⟨ret_int HE.out.symm, HB.out⟩
      case neg =>
        have HE : Hid (knE u m 2 ix n = 2) := by unfold Hid knE mostK subsK; simp [hl]
        have hl2 : ¬ (n : Int) = 1 := by omega
        have hl3 : ((n : Int) != 1) = true := by simpa using hl2
        clear hl
        go_enter Tryz.func74, Tryz.ntmps74
        go_wp2_with fail
        go_ret
        exact ⟨ret_int HE.out.symm, HB.out⟩
    case neg =>
      by_cases k3 : kd = 3
      case pos =>
        subst k3
        by_cases hl : n = 2
        case pos =>
          subst hl
          by_cases hi : ix < 0
          · have HE : Hid (knE u m 3 ix 2 = 15) := by unfold Hid knE mostK subsK; simp [hi]
            go_enter Tryz.func74, Tryz.ntmps74
            go_wp2_with fail
            go_ret
            exact ⟨ret_int HE.out.symm, HB.out⟩
          · by_cases hj : (1 : Int) ≤ ix
            · have HE : Hid (knE u m 3 ix 2 = 15) := by unfold Hid knE mostK subsK; simp [hi, hj]
              go_enter Tryz.func74, Tryz.ntmps74
              go_wp2_with fail
              go_ret
              exact ⟨ret_int HE.out.symm, HB.out⟩
            · have HE : Hid (knE u m 3 ix 2 = 0) := by unfold Hid knE mostK subsK; simp [hi, hj]
              go_enter Tryz.func74, Tryz.ntmps74
              go_wp2_with fail
              go_ret
              exact ⟨ret_int HE.out.symm, HB.out⟩
        case neg =>
          have HE : Hid (knE u m 3 ix n = 2) := by unfold Hid knE mostK subsK; simp [hl]
          have hl2 : ¬ (n : Int) = 2 := by omega
          have hl3 : ((n : Int) != 2) = true := by simpa using hl2
          clear hl
          go_enter Tryz.func74, Tryz.ntmps74
          go_wp2_with fail
          go_ret
          exact ⟨ret_int HE.out.symm, HB.out⟩
      case neg =>
        by_cases k4 : kd = 4
        case pos =>
          subst k4
          by_cases hl : n = 0
          case pos =>
            subst hl
            by_cases hi : ix < 0
            · have HE : Hid (knE u m 4 ix 0 = 15) := by unfold Hid knE mostK subsK; simp [hi]
              go_enter Tryz.func74, Tryz.ntmps74
              go_wp2_with fail
              go_ret
              exact ⟨ret_int HE.out.symm, HB.out⟩
            · by_cases hj : (40 : Int) ≤ ix
              · have HE : Hid (knE u m 4 ix 0 = 15) := by unfold Hid knE mostK subsK; simp [hi, hj]
                go_enter Tryz.func74, Tryz.ntmps74
                go_wp2_with fail
                go_ret
                exact ⟨ret_int HE.out.symm, HB.out⟩
              · have HE : Hid (knE u m 4 ix 0 = 0) := by unfold Hid knE mostK subsK; simp [hi, hj]
                go_enter Tryz.func74, Tryz.ntmps74
                go_wp2_with fail
                go_ret
                exact ⟨ret_int HE.out.symm, HB.out⟩
          case neg =>
            have HE : Hid (knE u m 4 ix n = 2) := by unfold Hid knE mostK subsK; simp [hl]
            have hl2 : ¬ (n : Int) = 0 := by omega
            have hl3 : ((n : Int) != 0) = true := by simpa using hl2
            clear hl
            go_enter Tryz.func74, Tryz.ntmps74
            go_wp2_with fail
            go_ret
            exact ⟨ret_int HE.out.symm, HB.out⟩
        case neg =>
          by_cases k5 : kd = 5
          case pos =>
            subst k5
            by_cases hl : n = 0
            case pos =>
              subst hl
              by_cases hi : ix < 0
              · have HE : Hid (knE u m 5 ix 0 = 15) := by unfold Hid knE mostK subsK; simp [hi]
                go_enter Tryz.func74, Tryz.ntmps74
                go_wp2_with fail
                go_ret
                exact ⟨ret_int HE.out.symm, HB.out⟩
              · by_cases hj : (m : Int) ≤ ix
                · have HE : Hid (knE u m 5 ix 0 = 15) := by unfold Hid knE mostK subsK; simp [hi, hj]
                  go_enter Tryz.func74, Tryz.ntmps74
                  go_wp2_with fail
                  go_ret
                  exact ⟨ret_int HE.out.symm, HB.out⟩
                · have HE : Hid (knE u m 5 ix 0 = 0) := by unfold Hid knE mostK subsK; simp [hi, hj]
                  go_enter Tryz.func74, Tryz.ntmps74
                  go_wp2_with fail
                  go_ret
                  exact ⟨ret_int HE.out.symm, HB.out⟩
            case neg =>
              have HE : Hid (knE u m 5 ix n = 2) := by unfold Hid knE mostK subsK; simp [hl]
              have hl2 : ¬ (n : Int) = 0 := by omega
              have hl3 : ((n : Int) != 0) = true := by simpa using hl2
              clear hl
              go_enter Tryz.func74, Tryz.ntmps74
              go_wp2_with fail
              go_ret
              exact ⟨ret_int HE.out.symm, HB.out⟩
          case neg =>
            have HE : Hid (knE u m kd ix n = 2) := by unfold Hid knE; rw [if_pos (by omega)]
            have e1 : (kd == 1) = false := by simpa using k1
            have e2 : (kd == 2) = false := by simpa using k2
            have e3 : (kd == 3) = false := by simpa using k3
            have e4 : (kd == 4) = false := by simpa using k4
            have e5 : (kd == 5) = false := by simpa using k5
            go_enter Tryz.func74, Tryz.ntmps74
            go_wp2_with fail
            go_ret
            exact ⟨ret_int HE.out.symm, HB.out⟩

def KnInv2 (u m : Int) (l : List Lm) (w : World) (o : Value) (wr : World) : Prop := ∃ k : Nat, k ≤ l.length ∧ o = .int .i64 (k : Int) ∧ errM u m (l.take k) = 0 ∧ Below w.heap.size w wr

set_option maxHeartbeats 1000000 in
theorem checkKnotsM_any (m : Int) (t : Lm) : ∀ (v : Value) (u : Int) (w : World) (X : Nat → Prop), MV w X v t → 0 ≤ u → u + sizeM [t] ≤ 1000000 →
    Calls Tryz.prog 57 #[v, .int .i64 u, .int .i64 m] w fun e w' => e = .returned (.int .i64 (errM u m [t])) ∧ Below w.heap.size w w' := by
  induction t using Lm.ind with
  | h kd ix l ih =>
    intro v u w X hv hu0 hu1
    obtain ⟨a, c, rfl, hs⟩ := hv
    have IH := hide ih
    clear ih
    have hl := hs.1
    have hz : sizeM [(⟨kd, ix, l⟩ : Lm)] = 1 + sizeM l := by simp [sizeM]
    rw [hz] at hu1
    clear hz
    have HB0 : Hid (Below w.heap.size w (w.alloc (.cells #[.int .i64 kd, .int .i64 ix, .slice a l.length c] 26))) := (Below.refl _ _).alloc (Nat.le_refl _) _
    have hT0 := Blk.new w #[.int .i64 kd, .int .i64 ix, .slice a l.length c] 26
    go_enter Tryz.func57, Tryz.ntmps57
    go_wp2_with fail
    refine (checkKnot_any kd ix u m a l.length c _ hl).mono ?_
    rintro e w1 ⟨rfl, hb1⟩
    have HB1 := hide (HB0.out.trans (hb1.mono (by simp)))
    have T1 := hide (hT0.below hb1 hT0.lt)
    have t0 : w1.cell? ⟨w.heap.size, 0, none⟩ = some (.int .i64 kd) := T1.out.cell 0
    have t1 : w1.cell? ⟨w.heap.size, 1, none⟩ = some (.int .i64 ix) := T1.out.cell 1
    have t2 : w1.cell? ⟨w.heap.size, 2, none⟩ = some (.slice a l.length c) := T1.out.cell 2
    clear hb1 hT0 HB0
    by_cases h0 : knE u m kd ix l.length = 0
    case neg =>
      have HE := hide (errM_bad h0)
      have h1 : (knE u m kd ix l.length == 0) = false := by simpa using h0
      have h2 : (knE u m kd ix l.length != 0) = true := by simpa using h0
      go_wp2_with fail
      go_ret
      exact ⟨ret_int HE.out.symm, HB1.out⟩
    case pos =>
      have HE := hide (errM_good h0)
      rw [h0]
      clear h0
      by_cases k2 : kd = 2
      case pos =>
        subst k2
        have HD : Hid (deepK u 2 = u + 1) := by unfold Hid deepK; rfl
        go_wp2_with fail
        go_loopw [26] (fun o wr => KnInv2 (u + 1) m l w o wr) (fun o wr => l.length - (intOf o).toNat)
        case atStart => exact ⟨0, Nat.zero_le _, rfl, by simp [errM], HB1.out⟩
        case round =>
          obtain ⟨k, hk, rfl, he, hb⟩ := hrel
          have HEK := hide he
          have HBK := hide hb
          clear he
          have hsz : w.heap.size ≤ wr.heap.size := hb.size
          by_cases hlt : k < l.length
          · obtain ⟨b, o, a', c', rfl, d0, d0', d1, hx⟩ := hs.get hb (fun _ _ h => h) k hlt
            have HT := hide (errM_take (u + 1) m l k hlt)
            have hzk : 1 + sizeM [l[k]] ≤ 1 + sizeM l := by
              have h1 := sizeM_take l k hlt
              have h2 := sizeM_take_le l (k + 1)
              omega
            clear hb
            go_wp2_with fail
            refine (IH.out _ (List.getElem_mem hlt) _ _ _ X (hx.alloc _) (by omega) (by omega)).mono ?_
            rintro e w2 ⟨rfl, hb2⟩
            have HB2 : Hid (Below w.heap.size w w2) := (HBK.out.alloc hsz _).trans (hb2.mono (by simp; omega))
            clear hb2
            by_cases hez : errM (u + 1) m [l[k]] = 0
            · have HZ := hide hez
              rw [hez]
              clear hez
              go_wp2_with fail
              go_roundw
              case rel => exact ⟨k + 1, by omega, by go_num, by rw [HT.out, HEK.out, HZ.out]; rfl, HB2.out⟩
              case measure => simp [intOf]; omega
            · have h1 : (errM (u + 1) m [l[k]] == 0) = false := by simpa using hez
              have h2 : (errM (u + 1) m [l[k]] != 0) = true := by simpa using hez
              have HZ : Hid (errM (u + 1) m [l[k]] = errM u m [(⟨2, ix, l⟩ : Lm)]) := by
                have h1 : errM (u + 1) m (l.take (k + 1)) = errM (u + 1) m [l[k]] := by rw [HT.out, HEK.out]; rfl
                unfold Hid
                rw [HE.out, HD.out, errM_of_take (l := l) (k := k + 1) (by rw [h1]; exact hez), h1]
              go_wp2_with fail
              go_ret
              exact ⟨ret_int HZ.out, HB2.out⟩
          · have htk : l.take k = l := List.take_of_length_le (by omega)
            have hge : ¬ ((k : Int) < (l.length : Int)) := by omega
            have HZ : Hid (0 = errM u m [(⟨2, ix, l⟩ : Lm)]) := by unfold Hid; rw [HE.out, HD.out, ← htk, HEK.out]
            go_wp2_with fail
            go_ret
            exact ⟨ret_int HZ.out, HBK.out⟩
      case neg =>
        have HD : Hid (deepK u kd = u) := by unfold Hid deepK; rw [if_neg k2]
        have e2 : (kd == 2) = false := by simpa using k2
        go_wp2_with fail
        go_loopw [26] (fun o wr => KnInv2 (u) m l w o wr) (fun o wr => l.length - (intOf o).toNat)
        case atStart => exact ⟨0, Nat.zero_le _, rfl, by simp [errM], HB1.out⟩
        case round =>
          obtain ⟨k, hk, rfl, he, hb⟩ := hrel
          have HEK := hide he
          have HBK := hide hb
          clear he
          have hsz : w.heap.size ≤ wr.heap.size := hb.size
          by_cases hlt : k < l.length
          · obtain ⟨b, o, a', c', rfl, d0, d0', d1, hx⟩ := hs.get hb (fun _ _ h => h) k hlt
            have HT := hide (errM_take (u) m l k hlt)
            have hzk : 1 + sizeM [l[k]] ≤ 1 + sizeM l := by
              have h1 := sizeM_take l k hlt
              have h2 := sizeM_take_le l (k + 1)
              omega
            clear hb
            go_wp2_with fail
            refine (IH.out _ (List.getElem_mem hlt) _ _ _ X (hx.alloc _) (by omega) (by omega)).mono ?_
            rintro e w2 ⟨rfl, hb2⟩
            have HB2 : Hid (Below w.heap.size w w2) := (HBK.out.alloc hsz _).trans (hb2.mono (by simp; omega))
            clear hb2
            by_cases hez : errM (u) m [l[k]] = 0
            · have HZ := hide hez
              rw [hez]
              clear hez
              go_wp2_with fail
              go_roundw
              case rel => exact ⟨k + 1, by omega, by go_num, by rw [HT.out, HEK.out, HZ.out]; rfl, HB2.out⟩
              case measure => simp [intOf]; omega
            · have h1 : (errM (u) m [l[k]] == 0) = false := by simpa using hez
              have h2 : (errM (u) m [l[k]] != 0) = true := by simpa using hez
              have HZ : Hid (errM (u) m [l[k]] = errM u m [(⟨kd, ix, l⟩ : Lm)]) := by
                have h1 : errM (u) m (l.take (k + 1)) = errM (u) m [l[k]] := by rw [HT.out, HEK.out]; rfl
                unfold Hid
                rw [HE.out, HD.out, errM_of_take (l := l) (k := k + 1) (by rw [h1]; exact hez), h1]
              go_wp2_with fail
              go_ret
              exact ⟨ret_int HZ.out, HB2.out⟩
          · have htk : l.take k = l := List.take_of_length_le (by omega)
            have hge : ¬ ((k : Int) < (l.length : Int)) := by omega
            have HZ : Hid (0 = errM u m [(⟨kd, ix, l⟩ : Lm)]) := by unfold Hid; rw [HE.out, HD.out, ← htk, HEK.out]
            go_wp2_with fail
            go_ret
            exact ⟨ret_int HZ.out, HBK.out⟩

set_option maxHeartbeats 1000000 in
theorem checkM_any (t : Lm) (v : Value) (u m : Int) (w : World) (X : Nat → Prop) (hv : MV w X v t) :
    Calls Tryz.prog 40 #[v, .int .i64 u, .int .i64 m] w fun e w' => e = .returned (.int .i64 (lamE u m t)) ∧ Below w.heap.size w w' := by
  obtain ⟨a, c, rfl, hs⟩ := hv
  have hv : MV w X (.agg #[.int .i64 t.kind, .int .i64 t.idx, .slice a t.subs.length c]) t := ⟨a, c, rfl, hs⟩
  have HB0 : Hid (Below w.heap.size w (w.alloc (.cells #[.int .i64 t.kind, .int .i64 t.idx, .slice a t.subs.length c] 26))) := (Below.refl _ _).alloc (Nat.le_refl _) _
  have hT0 := Blk.new w #[.int .i64 t.kind, .int .i64 t.idx, .slice a t.subs.length c] 26
  go_enter Tryz.func40, Tryz.ntmps40
  by_cases h1 : u < 0
  · have HE : Hid (lamE u m t = 10) := by unfold Hid lamE; rw [if_pos (Or.inl h1)]
    go_wp2_with fail
    go_ret
    exact ⟨ret_int HE.out.symm, HB0.out⟩
  by_cases h2 : 40 < u
  · have HE : Hid (lamE u m t = 10) := by unfold Hid lamE; rw [if_pos (Or.inr h2)]
    go_wp2_with fail
    go_ret
    exact ⟨ret_int HE.out.symm, HB0.out⟩
  go_wp2_with fail
  refine (countM_any 200 (by omega) (by omega) t _ _ X (hv.alloc _)).mono ?_
  rintro e w1 ⟨rfl, hb1⟩
  have HB1 := hide (HB0.out.trans (hb1.mono (by simp)))
  have T1 := hide (hT0.below hb1 hT0.lt)
  have t0 : w1.cell? ⟨w.heap.size, 0, none⟩ = some (.int .i64 t.kind) := T1.out.cell 0
  have t1 : w1.cell? ⟨w.heap.size, 1, none⟩ = some (.int .i64 t.idx) := T1.out.cell 1
  have t2 : w1.cell? ⟨w.heap.size, 2, none⟩ = some (.slice a t.subs.length c) := T1.out.cell 2
  clear hb1 hT0 HB0
  by_cases h3 : 200 < sizeM [t]
  · have HE : Hid (lamE u m t = 3) := by unfold Hid lamE; rw [if_neg (by omega), if_pos h3]
    have e : min (sizeM [t] : Int) (200 + 1) = 201 := by omega
    rw [e]
    go_wp2_with fail
    go_ret
    exact ⟨ret_int HE.out.symm, HB1.out⟩
  · have HE : Hid (lamE u m t = errM u m [t]) := by unfold Hid lamE; rw [if_neg (by omega), if_neg h3]
    have e : min (sizeM [t] : Int) (200 + 1) = sizeM [t] := by omega
    rw [e]
    have hle : ¬ (200 : Int) < (sizeM [t] : Int) := by omega
    go_wp2_with fail
    refine (checkKnotsM_any m t _ u _ X (hv.later HB1.out) (by omega) (by omega)).mono ?_
    rintro e w2 ⟨rfl, hb2⟩
    go_wp2_with fail
    go_ret
    exact ⟨ret_int HE.out.symm, HB1.out.trans (hb2.mono HB1.out.size)⟩
theorem lCheck_any (t : Lm) (v : Value) (u : Int) (w : World) (X : Nat → Prop) (hv : MV w X v t) :
    Calls Tryz.prog 19 #[v, .int .i64 u] w fun e w' => e = .returned (.int .i64 (lamE u 0 t)) ∧ Below w.heap.size w w' := by
  obtain ⟨a, c, rfl, hs⟩ := hv
  have hv : MV w X (.agg #[.int .i64 t.kind, .int .i64 t.idx, .slice a t.subs.length c]) t := ⟨a, c, rfl, hs⟩
  go_enter Tryz.func19, Tryz.ntmps19
  go_wp2_with fail
  refine (checkM_any t _ u 0 _ X (hv.alloc _)).mono ?_
  rintro e w1 ⟨rfl, hb1⟩
  go_wp2_with fail
  go_ret
  exact ⟨rfl, ((Below.refl _ _).alloc (Nat.le_refl _) _).trans (hb1.mono (by simp))⟩
end Go.Proofs.YtagidfoiemgfcaaGreatDoor

/- The text of a lambda term. -/
namespace Go.Proofs.YtagidfoiemgfcaaGreatDoor

/-- The name of what a binder binds, by how many are around that: the program's own for those within, others for those from outside. -/
def nmAt (fr : List ByteArray) (k : Int) : List UInt8 := if k < 0 then (fr[(fr.length + k).toNat]?.getD ⟨#[]⟩).data.toList else 120 :: Lib.decDigits k.toNat

/-- In brackets, or not. -/
def brk (b : Bool) (l : List UInt8) : List UInt8 := if b then 40 :: (l ++ [41]) else l

/-- Of a knot, by the texts of those below it. -/
def ltK (fr : List ByteArray) (d : Nat) (k x : Int) (l : List Lm) (T : List (List UInt8)) : List UInt8 :=
  if k = 1 then nmAt fr (d - 1 - x) else if k = 2 then 92 :: (120 :: Lib.decDigits d ++ 46 :: T[0]?.getD [])
  else if k = 3 then brk ((l[0]?.map (·.kind)).getD 0 == 2) (T[0]?.getD []) ++ 32 :: brk ((l[1]?.map (·.kind)).getD 0 == 2 || (l[1]?.map (·.kind)).getD 0 == 3) (T[1]?.getD [])
  else 99 :: Lib.decDigits x.toNat

/-- The texts of lambda terms, with so many binders around. -/
def ltL (fr : List ByteArray) : Nat → List Lm → List (List UInt8)
  | _, [] => []
  | d, ⟨k, x, l⟩ :: r => ltK fr d k x l (ltL fr (if k = 2 then d + 1 else d) l) :: ltL fr d r

/-- The text of a lambda term. -/
def ltx (fr : List ByteArray) (d : Nat) (t : Lm) : List UInt8 := (ltL fr d [t])[0]?.getD []

theorem ltL_one (fr : List ByteArray) (d : Nat) (t : Lm) : ltL fr d [t] = [ltx fr d t] := by obtain ⟨k, x, l⟩ := t; simp [ltx, ltL]
theorem ltL_cons (fr : List ByteArray) (d : Nat) (t : Lm) (r : List Lm) : ltL fr d (t :: r) = ltx fr d t :: ltL fr d r := by obtain ⟨k, x, l⟩ := t; simp [ltx, ltL]
theorem ltx_bound (fr : List ByteArray) (d : Nat) (x : Int) (l : List Lm) : ltx fr d ⟨1, x, l⟩ = nmAt fr (d - 1 - x) := by simp [ltx, ltL, ltK]
theorem ltx_fun (fr : List ByteArray) (d : Nat) (x : Int) (b : Lm) : ltx fr d ⟨2, x, [b]⟩ = 92 :: (120 :: Lib.decDigits d ++ 46 :: ltx fr (d + 1) b) := by
  have h : ltx fr d ⟨2, x, [b]⟩ = ltK fr d 2 x [b] (ltL fr (d + 1) [b]) := by simp [ltx, ltL]
  rw [h, ltL_one]; simp [ltK]
theorem ltx_app (fr : List ByteArray) (d : Nat) (x : Int) (f a : Lm) : ltx fr d ⟨3, x, [f, a]⟩ = brk (f.kind == 2) (ltx fr d f) ++ 32 :: brk (a.kind == 2 || a.kind == 3) (ltx fr d a) := by
  have h : ltx fr d ⟨3, x, [f, a]⟩ = ltK fr d 3 x [f, a] (ltL fr d [f, a]) := by simp [ltx, ltL]
  rw [h, ltL_cons, ltL_one]; simp [ltK]
theorem ltx_con (fr : List ByteArray) (d : Nat) (x : Int) (l : List Lm) : ltx fr d ⟨4, x, l⟩ = 99 :: Lib.decDigits x.toNat := by simp [ltx, ltL, ltK]

/-- What a lambda term that may be looks like. -/
theorem may_look {u : Int} {t : Lm} (h : errM u 0 [t] = 0) : (∃ x, t = ⟨1, x, []⟩ ∧ 0 ≤ x ∧ x < u) ∨ (∃ b, t = ⟨2, 0, [b]⟩ ∧ errM (u + 1) 0 [b] = 0) ∨ (∃ f a, t = ⟨3, 0, [f, a]⟩ ∧ errM u 0 [f] = 0 ∧ errM u 0 [a] = 0) ∨ (∃ x, t = ⟨4, x, []⟩ ∧ 0 ≤ x ∧ x < 40) := by
  obtain ⟨k, x, l⟩ := t
  have hk : knE u 0 k x l.length = 0 := by
    apply Classical.byContradiction
    intro hn
    rw [errM_bad hn] at h
    exact hn h
  have hg := errM_good hk
  rw [hg] at h
  unfold knE at hk
  by_cases h1 : k < 1 ∨ 5 < k
  · rw [if_pos h1] at hk; cases hk
  rw [if_neg h1] at hk
  by_cases h2 : l.length ≠ subsK k
  · rw [if_pos h2] at hk; cases hk
  rw [if_neg h2] at hk
  by_cases h3 : x < 0 ∨ mostK u 0 k ≤ x
  · rw [if_pos h3] at hk; cases hk
  have hx : 0 ≤ x ∧ x < mostK u 0 k := by omega
  have hl : l.length = subsK k := by simpa using h2
  have hc : k = 1 ∨ k = 2 ∨ k = 3 ∨ k = 4 ∨ k = 5 := by omega
  rcases hc with rfl | rfl | rfl | rfl | rfl
  · left
    simp [mostK] at hx
    simp [subsK] at hl
    subst hl
    exact ⟨x, rfl, hx.1, hx.2⟩
  · right; left
    simp [mostK] at hx
    simp [subsK] at hl
    obtain ⟨b, rfl⟩ := List.length_eq_one_iff.1 hl
    have : x = 0 := by omega
    subst this
    exact ⟨b, rfl, by simpa [deepK] using h⟩
  · right; right; left
    simp [mostK] at hx
    simp [subsK] at hl
    match l, hl with
    | [f, a], _ =>
      have : x = 0 := by omega
      subst this
      rw [errM_cons] at h
      simp only [deepK] at h
      have e2 : (3 : Int) = 2 ↔ False := by simp
      simp only [e2, if_false] at h
      by_cases hf : errM u 0 [f] = 0
      · rw [if_pos hf] at h
        exact ⟨f, a, rfl, hf, h⟩
      · rw [if_neg hf] at h; exact absurd h hf
  · right; right; right
    simp [mostK] at hx
    simp [subsK] at hl
    subst hl
    exact ⟨x, rfl, hx.1, hx.2⟩
  · simp [mostK] at hx
    omega

theorem dec_len (n : Nat) : (Lib.decDigits n).length ≤ n + 1 := by
  induction n using Nat.strongRecOn with
  | ind n ih =>
    rw [Lib.decDigits]
    by_cases h : n < 10
    · rw [dif_pos h]; simp
    · rw [dif_neg h]
      have := ih (n / 10) (by omega)
      simp only [List.length_append, List.length_cons, List.length_nil]
      omega
theorem brk_len (b : Bool) (l : List UInt8) : (brk b l).length ≤ l.length + 2 := by unfold brk; split <;> simp
/-- A text is not long. -/
theorem ltx_len (fr : List ByteArray) (hfr : ∀ s ∈ fr, s.size ≤ 8) (t : Lm) : ∀ (u : Int) (d N : Nat), errM u 0 [t] = 0 → u = fr.length + d → d + sizeM [t] ≤ N → (ltx fr d t).length ≤ (N + 60) * sizeM [t] := by
  induction t using Lm.ind with
  | h k x l ih =>
    intro u d N he hu hN
    rcases may_look he with ⟨y, e, h0, h1⟩ | ⟨b, e, hb⟩ | ⟨f, a, e, hf, ha⟩ | ⟨y, e, h0, h1⟩
    · cases e
      rw [ltx_bound]
      simp only [sizeM] at hN ⊢
      unfold nmAt
      split
      · cases hq : fr[(fr.length + (d - 1 - x)).toNat]? with
        | none => simp
        | some s =>
          have hs := hfr s (List.mem_of_getElem? hq)
          have h4 : s.data.toList.length = s.size := by rw [Array.length_toList]; rfl
          simp only [Option.getD_some, h4]; omega
      · have := dec_len ((d : Int) - 1 - x).toNat
        simp only [List.length_cons]; omega
    · cases e
      have h1 := ih b (by simp) (u + 1) (d + 1) N hb (by omega) (by simp only [sizeM] at hN ⊢; obtain ⟨k, y, m⟩ := b; simp only [sizeM] at hN ⊢; omega)
      rw [ltx_fun]
      have h2 := dec_len d
      have h3 : sizeM [(⟨2, 0, [b]⟩ : Lm)] = 1 + sizeM [b] := by simp [sizeM]
      rw [h3] at hN ⊢
      rw [Nat.mul_add]
      simp only [List.length_cons, List.length_append]
      omega
    · cases e
      have h3 : sizeM [(⟨3, 0, [f, a]⟩ : Lm)] = 1 + (sizeM [f] + sizeM [a]) := by
        obtain ⟨k1, y1, m1⟩ := f; obtain ⟨k2, y2, m2⟩ := a
        simp only [sizeM]; omega
      rw [h3] at hN ⊢
      have h1 := ih f (by simp) u d N hf hu (by omega)
      have h2 := ih a (by simp) u d N ha hu (by omega)
      rw [ltx_app]
      have h4 := brk_len (f.kind == 2) (ltx fr d f)
      have h5 := brk_len (a.kind == 2 || a.kind == 3) (ltx fr d a)
      rw [Nat.mul_add, Nat.mul_add]
      simp only [List.length_cons, List.length_append]
      omega
    · cases e
      rw [ltx_con]
      have := dec_len x.toNat
      simp only [sizeM, List.length_cons]
      omega
end Go.Proofs.YtagidfoiemgfcaaGreatDoor


/- Walks: a number's decimals, as the document writes them. -/
namespace Go.Proofs.YtagidfoiemgfcaaGreatDoor
open Go.RowKit
set_option linter.unusedSimpArgs false
set_option linter.unusedVariables false
set_option maxRecDepth 8000

theorem dec_small {n : Nat} (h : n < 10) : Lib.decDigits n = [UInt8.ofNat (48 + n)] := by rw [Lib.decDigits, dif_pos h]
theorem dec_great {n : Nat} (h : ¬ n < 10) : Lib.decDigits n = Lib.decDigits (n / 10) ++ Lib.decDigits (n % 10) := by
  conv => lhs; rw [Lib.decDigits, dif_neg h]
  rw [dec_small (n := n % 10) (by omega)]

theorem ret_strL {a b : ByteArray} (h : a.data.toList = b.data.toList) : Ending.returned (.string a) = .returned (.string b) := by
  have : a = b := by
    obtain ⟨⟨x⟩⟩ := a; obtain ⟨⟨y⟩⟩ := b; simp at h; rw [h]
  rw [this]

end Go.Proofs.YtagidfoiemgfcaaGreatDoor


/- Walks: names from outside, by the program and by the document. -/
namespace Go.Proofs.YtagidfoiemgfcaaGreatDoor
open Go.RowKit
set_option linter.unusedSimpArgs false
set_option linter.unusedVariables false
set_option maxRecDepth 8000

/-- Begins a text with x or c? -/
def xcB (s : ByteArray) : Bool := decide (byteAt s 0 = 120) || decide (byteAt s 0 = 99)
theorem name_posF {s : ByteArray} (h : nameB s = true) : 0 < s.size := by simp [nameB] at h; omega
def frI (l : List Int) : Int := (l.find? fun z => decide (z ≠ 0)).getD 0
theorem frI_take {l : List Int} {k : Nat} (hk : k < l.length) (h : ∀ z ∈ l.take k, z = 0) (hz : l[k] ≠ 0) : frI l = l[k] := by
  induction l generalizing k with
  | nil => simp at hk
  | cons x l ih =>
    cases k with
    | zero => simp only [List.getElem_cons_zero] at hz ⊢; simp [frI, hz]
    | succ k =>
      have hx : x = 0 := h x (by simp)
      subst hx
      have := ih (k := k) (by simpa using hk) (fun z hz' => h z (by simp [hz'])) (by simpa using hz)
      simp only [List.getElem_cons_succ]
      rw [← this]
      simp [frI]
theorem frI_none {l : List Int} (h : ∀ z ∈ l, z = 0) : frI l = 0 := by
  induction l with
  | nil => rfl
  | cons x l ih =>
    have hx : x = 0 := h x (by simp)
    subst hx
    have h1 := ih fun z hz => h z (by simp [hz])
    unfold frI at h1 ⊢
    rw [List.find?_cons_of_neg (by simp)]
    exact h1
/-- What is wrong with a row at a place. -/
def frAt (row : List ByteArray) (k : Nat) : Int := if nameB (row.getD k ⟨#[]⟩) = false ∨ xcB (row.getD k ⟨#[]⟩) = true then 1 else if inB (row.getD k ⟨#[]⟩) (row.take k) = true then 4 else 0
/-- What is wrong with a row. -/
def freE (row : List ByteArray) : Int := if 40 < row.length then 3 else frI ((List.range row.length).map (frAt row))
theorem frAt_get {row : List ByteArray} {k : Nat} (h : k < row.length) : frAt row k = if nameB row[k] = false ∨ xcB row[k] = true then 1 else if inB row[k] (row.take k) = true then 4 else 0 := by
  have e : row.getD k ⟨#[]⟩ = row[k] := by simp [List.getD, h]
  unfold frAt
  rw [e]
theorem fr_take {row : List ByteArray} {k : Nat} (h : k < row.length) (h0 : ∀ j < k, frAt row j = 0) (hz : frAt row k ≠ 0) : frI ((List.range row.length).map (frAt row)) = frAt row k := by
  have hl : k < ((List.range row.length).map (frAt row)).length := by simpa using h
  have hg : ((List.range row.length).map (frAt row))[k] = frAt row k := by simp
  rw [← hg]
  refine frI_take hl (fun z hz' => ?_) (by rw [hg]; exact hz)
  rw [List.mem_iff_getElem] at hz'
  obtain ⟨j, hj, rfl⟩ := hz'
  simp at hj ⊢
  exact h0 j (by omega)
theorem fr_none {row : List ByteArray} (h0 : ∀ j < row.length, frAt row j = 0) : frI ((List.range row.length).map (frAt row)) = 0 := by
  refine frI_none fun z hz => ?_
  rw [List.mem_map] at hz
  obtain ⟨j, hj, rfl⟩ := hz
  exact h0 j (by simpa using hj)
theorem freE_at {row : List ByteArray} (h : freE row = 0) : row.length ≤ 40 ∧ ∀ k, k < row.length → frAt row k = 0 := by
  unfold freE at h
  split at h
  · cases h
  · refine ⟨by omega, fun j => ?_⟩
    induction j using Nat.strongRecOn with
    | ind j ih =>
      intro hj
      apply Classical.byContradiction
      intro hne
      rw [fr_take hj (fun i hi => ih i hi (by omega)) hne] at h
      exact hne h
theorem freE_name {row : List ByteArray} (h : freE row = 0) {k : Nat} (hk : k < row.length) : nameB row[k] = true ∧ xcB row[k] = false ∧ inB row[k] (row.take k) = false := by
  have h1 := (freE_at h).2 k hk
  rw [frAt_get hk] at h1
  by_cases h2 : nameB row[k] = false ∨ xcB row[k] = true
  · rw [if_pos h2] at h1; cases h1
  · rw [if_neg h2] at h1
    by_cases h3 : inB row[k] (row.take k) = true
    · rw [if_pos h3] at h1; cases h1
    · exact ⟨by cases h4 : nameB row[k] with | true => rfl | false => exact absurd (Or.inl h4) h2, by cases h4 : xcB row[k] with | false => rfl | true => exact absurd (Or.inr h4) h2, by cases h4 : inB row[k] (row.take k) with | false => rfl | true => exact absurd h4 h3⟩
theorem LV.takeF {α : Type} {f : α → Value} {w : World} {X : Nat → Prop} {a : Option Addr} {n c : Nat} {l : List α} (h : LV f w X (.slice a n c) l) (k : Nat) (hk : k ≤ l.length) : LV f w X (.slice a k c) (l.take k) := by
  obtain ⟨a2, c2, e, ⟨h1, h2⟩, h3⟩ := h
  simp at e
  obtain ⟨rfl, rfl, rfl⟩ := e
  have hl : (l.take k).length = k := by simp; omega
  refine ⟨a, c, by rw [hl], ⟨by omega, by omega⟩, ?_⟩
  rcases h3 with h3 | ⟨b, o, e, hx, h3⟩
  · exact Or.inl (by rw [h3]; simp)
  · exact Or.inr ⟨b, o, e, hx, fun i hi => by rw [List.getElem_take]; exact h3 i (by simp at hi; omega)⟩

def FcInv (row : List ByteArray) (w : World) (i : Value) (wr : World) : Prop := ∃ k n : Nat, k ≤ row.length ∧ i = .int .i64 (k : Int) ∧ wr = w.drewN n ∧ ∀ j < k, frAt row j = 0
set_option maxHeartbeats 4000000 in
theorem lNames_any (row : List ByteArray) (u : Value) (w : World) (X : Nat → Prop) (hu : LV Value.string w X u row) :
    Calls Tryz.prog 34 #[u] w fun e w' => e = .returned (.int .i64 (freE row)) ∧ Below w.heap.size w w' := by
  have HU := hide hu
  obtain ⟨a, c, rfl, ⟨hl, hlc⟩, hu⟩ := hu
  by_cases h40 : 40 < row.length
  · have h40i : (40 : Int) < (row.length : Int) := by omega
    have HR : Hid (freE row = 3) := by unfold Hid freE; rw [if_pos h40]
    go_enter Tryz.func34, Tryz.ntmps34
    go_wp2_with fail
    go_ret
    exact ⟨by rw [HR.out]; rfl, Below.refl _ _⟩
  · have h40i : ¬ (40 : Int) < (row.length : Int) := by omega
    have HE : Hid (freE row = frI ((List.range row.length).map (frAt row))) := by unfold Hid freE; rw [if_neg h40]
    go_enter Tryz.func34, Tryz.ntmps34
    go_wp2_with fail
    go_loopw [10] (fun i wr => FcInv row w i wr) (fun i wr => row.length - (intOf i).toNat)
    case atStart => exact ⟨0, 0, Nat.zero_le _, rfl, rfl, fun j h => by omega⟩
    case round =>
      obtain ⟨k, n, hk, rfl, hwr, h0⟩ := hrel
      have H0 := hide h0
      have HWR := hide hwr
      by_cases hlt : k < row.length
      · obtain ⟨b, o, rfl, hX, hc⟩ := hu.resolve_left (fun h => by rw [h] at hlt; simp at hlt)
        have d0 : wr.cell? ⟨b, o + k, none⟩ = some (.string row[k]) := by rw [hwr]; exact hc k hlt
        have hlti : (k : Int) < (row.length : Int) := by omega
        have hkc : (k : Int) ≤ (c : Int) := by omega
        have HRA := hide (frAt_get hlt)
        have HLT := hide (HU.out.takeF k (by omega))
        have HI0 : Hid (LV Value.string wr X (.slice (some ⟨b, o, none⟩) k c) (row.take k)) := by unfold Hid; rw [hwr]; exact HLT.out
        have HIN := hide (fun (n : Nat) => show LV Value.string (wr.drewN n) X (.slice (some ⟨b, o, none⟩) k c) (row.take k) from HI0.out)
        clear h0 hc hwr
        cases hn : nameB row[k] with
        | false =>
          have HR : Hid (freE row = 1) := by unfold Hid; rw [HE.out, fr_take hlt H0.out (by rw [HRA.out, if_pos (Or.inl hn)]; decide), HRA.out, if_pos (Or.inl hn)]
          go_wp2_with (go_at_call 48; refine (isName_any _ _).mono ?_; rintro e w' ⟨rfl, rfl⟩; rw [hn])
          go_ret
          exact ⟨by rw [HR.out]; rfl, by rw [HWR.out]; exact below_drewN (Below.refl _ _) _⟩
        | true =>
          have hp := name_posF hn
          have he := isEmpty_pos hp
          have hbx := hide (byteAt_of hp)
          have hbd := byte_bd row[k] 0
          have hxc : xcB row[k] = (decide (((row[k])[0].toNat : Int) = 120) || decide (((row[k])[0].toNat : Int) = 99)) := by unfold xcB; rw [hbx.out]
          cases hv : xcB row[k] with
          | true =>
            rw [hv] at hxc
            by_cases h120 : ((row[k])[0].toNat : Int) = 120
            · have g1 : (((row[k])[0].toNat : Int) == 120) = true := by simpa using h120
              clear hxc h120
              have HR : Hid (freE row = 1) := by unfold Hid; rw [HE.out, fr_take hlt H0.out (by rw [HRA.out, if_pos (Or.inr hv)]; decide), HRA.out, if_pos (Or.inr hv)]
              go_wp2_with (first | (go_at_call 48; refine (isName_any _ _).mono ?_; rintro e w' ⟨rfl, rfl⟩; rw [hn]) | fail)
              go_ret
              exact ⟨by rw [HR.out]; rfl, by rw [HWR.out]; exact below_drewN (Below.refl _ _) _⟩
            · have g1 : (((row[k])[0].toNat : Int) == 120) = false := by simpa using h120
              have g2 : (((row[k])[0].toNat : Int) == 99) = true := by simpa [h120] using hxc
              clear hxc h120
              have HR : Hid (freE row = 1) := by unfold Hid; rw [HE.out, fr_take hlt H0.out (by rw [HRA.out, if_pos (Or.inr hv)]; decide), HRA.out, if_pos (Or.inr hv)]
              go_wp2_with (first | (go_at_call 48; refine (isName_any _ _).mono ?_; rintro e w' ⟨rfl, rfl⟩; rw [hn]) | fail)
              go_ret
              exact ⟨by rw [HR.out]; rfl, by rw [HWR.out]; exact below_drewN (Below.refl _ _) _⟩
          | false =>
            rw [hv] at hxc
            have g1 : (((row[k])[0].toNat : Int) == 120) = false := by simp at hxc ⊢; exact hxc.1
            have g2 : (((row[k])[0].toNat : Int) == 99) = false := by simp at hxc ⊢; exact hxc.2
            clear hxc
            have hno : ¬ (nameB row[k] = false ∨ xcB row[k] = true) := by rw [hn, hv]; simp
            cases hi : inB row[k] (row.take k) with
            | true =>
              have HR : Hid (freE row = 4) := by unfold Hid; rw [HE.out, fr_take hlt H0.out (by rw [HRA.out, if_neg hno, if_pos hi]; decide), HRA.out, if_neg hno, if_pos hi]
              go_wp2_with (first | (go_at_call 48; refine (isName_any _ _).mono ?_; rintro e w' ⟨rfl, rfl⟩; rw [hn]) | fail | (go_at_call 49; refine (contains_any _ _ _ _ X HI0.out).mono ?_; rintro e w' ⟨rfl, rfl⟩; rw [hi]))
              go_ret
              exact ⟨by rw [HR.out]; rfl, by rw [HWR.out]; exact below_drewN (Below.refl _ _) _⟩
            | false =>
              have HZ : Hid (frAt row k = 0) := by unfold Hid; rw [HRA.out, if_neg hno, if_neg (by rw [hi]; simp)]
              go_wp2_with (first | (go_at_call 48; refine (isName_any _ _).mono ?_; rintro e w' ⟨rfl, rfl⟩; rw [hn]) | fail | (go_at_call 49; refine (contains_any _ _ _ _ X HI0.out).mono ?_; rintro e w' ⟨rfl, rfl⟩; rw [hi]))
              go_roundw
              case rel =>
                refine ⟨k + 1, _, by omega, by go_num, HWR.out, fun j hj => ?_⟩
                by_cases e : j = k
                · subst e; exact HZ.out
                · exact H0.out j (by omega)
              case measure => simp [intOf]; omega
      · have hkk : k = row.length := by omega
        clear hwr
        have HR : Hid (freE row = 0) := by unfold Hid; rw [HE.out]; exact fr_none (by rw [← hkk]; exact H0.out)
        go_wp2_with fail
        go_ret
        exact ⟨by rw [HR.out]; rfl, by rw [HWR.out]; exact below_drewN (Below.refl _ _) _⟩
end Go.Proofs.YtagidfoiemgfcaaGreatDoor

/- Texts read as lambda terms: what both readers do. -/
namespace Go.Proofs.YtagidfoiemgfcaaGreatDoor
open Go.RowKit
set_option linter.unusedSimpArgs false
set_option linter.unusedVariables false

/-- What reading gives: an error (0: none), a lambda term, where it ended, how many knots there were. -/
structure Lrd where
  err : Int
  t : Lm
  pos : Nat
  k : Nat
def noLr (e : Int) : Lrd := ⟨e, ⟨0, 0, []⟩, 0, 0⟩
/-- The number of a constant's name. -/
def conN (n : ByteArray) : Option Nat := (List.range 40).find? fun k => decide (n.data.toList = 99 :: Lib.decDigits k)

/-- The place of the last one of a name. -/
def lastN (n : ByteArray) : List ByteArray → Option Nat
  | [] => none
  | x :: r => match lastN n r with
    | some i => some (i + 1)
    | none => if x = n then some 0 else none

/-- What a name stands for. -/
def namedL (nm : List ByteArray) (n : ByteArray) (p k : Nat) : Lrd := match lastN n nm with
  | some i => ⟨0, ⟨1, (nm.length : Int) - 1 - i, []⟩, p, k⟩
  | none => match conN n with
    | some c => ⟨0, ⟨4, c, []⟩, p, k⟩
    | none => noLr 15

/-- What is read: a term, a piece of it, or what stands behind a term. -/
inductive Lmode where
  | term
  | piece
  | behind (t : Lm)

/-- What a name is, from i on: an error or where it ends. -/
def nameE (s : ByteArray) (i : Nat) : Int := if stopAt s i = i then (if i = s.size then 13 else 12) else if nameB (s.extract i (stopAt s i)) = false then 1 else 0
/-- A sign that must be there. -/
def askE (s : ByteArray) (i : Nat) (c : Int) : Int := if i < s.size ∧ byteAt s i = c then 0 else if i = s.size then 13 else 12

def lrd (s : ByteArray) : Nat → Lmode → List ByteArray → Nat → Nat → Lrd
  | 0, _, _, _, _ => noLr 99
  | f + 1, .term, nm, i, k =>
    if i < s.size ∧ byteAt s i = 92 then
      if 200 < k + 1 then noLr 3
      else if nameE s (i + 1) ≠ 0 then noLr (nameE s (i + 1))
      else if askE s (stopAt s (i + 1)) 46 ≠ 0 then noLr (askE s (stopAt s (i + 1)) 46)
      else
        let r := lrd s f .term (nm ++ [s.extract (i + 1) (stopAt s (i + 1))]) (stopAt s (i + 1) + 1) (k + 1)
        if r.err ≠ 0 then noLr r.err else ⟨0, ⟨2, 0, [r.t]⟩, r.pos, r.k⟩
    else
      let r := lrd s f .piece nm i k
      if r.err ≠ 0 then noLr r.err else lrd s f (.behind r.t) nm r.pos r.k
  | f + 1, .behind t, nm, i, k =>
    if i < s.size ∧ byteAt s i = 32 then
      if 200 < k + 1 then noLr 3
      else
        let r := lrd s f .piece nm (i + 1) (k + 1)
        if r.err ≠ 0 then noLr r.err else lrd s f (.behind ⟨3, 0, [t, r.t]⟩) nm r.pos r.k
    else ⟨0, t, i, k⟩
  | f + 1, .piece, nm, i, k =>
    if i < s.size ∧ byteAt s i = 40 then
      let r := lrd s f .term nm (i + 1) k
      if r.err ≠ 0 then noLr r.err else if askE s r.pos 41 ≠ 0 then noLr (askE s r.pos 41) else ⟨0, r.t, r.pos + 1, r.k⟩
    else if nameE s i ≠ 0 then noLr (nameE s i)
    else if 200 < k + 1 then noLr 3
    else namedL nm (s.extract i (stopAt s i)) (stopAt s i) (k + 1)

theorem nameE_go {s : ByteArray} {i : Nat} (h : nameE s i = 0) : i < stopAt s i ∧ nameB (s.extract i (stopAt s i)) = true := by
  unfold nameE at h
  by_cases h1 : stopAt s i = i
  · rw [if_pos h1] at h; split at h <;> cases h
  · rw [if_neg h1] at h
    have := stopAt_ge s i
    refine ⟨by omega, ?_⟩
    cases h2 : nameB (s.extract i (stopAt s i)) with
    | true => rfl
    | false => rw [if_pos h2] at h; cases h
theorem askE_go {s : ByteArray} {i : Nat} {c : Int} (h : askE s i c = 0) : i < s.size ∧ byteAt s i = c := by
  unfold askE at h
  by_cases h1 : i < s.size ∧ byteAt s i = c
  · exact h1
  · rw [if_neg h1] at h; split at h <;> cases h
theorem lastN_lt {n : ByteArray} : ∀ {l : List ByteArray} {i : Nat}, lastN n l = some i → i < l.length
  | [], i, h => by simp [lastN] at h
  | x :: r, i, h => by
    unfold lastN at h
    cases hr : lastN n r with
    | some j => rw [hr] at h; simp at h; subst h; have := lastN_lt hr; simp; omega
    | none => rw [hr] at h; simp at h; simp [← h.2]
theorem named_ok {nm : List ByteArray} {n : ByteArray} {p k : Nat} (h : (namedL nm n p k).err = 0) : (namedL nm n p k).pos = p ∧ (namedL nm n p k).k = k := by
  unfold namedL at *
  split
  · exact ⟨rfl, rfl⟩
  · rename_i h1
    rw [h1] at h
    split
    · exact ⟨rfl, rfl⟩
    · rename_i h2
      rw [h2] at h
      simp [noLr] at h

/-- Where reading ends, and how many knots there were. -/
theorem lrd_pos (s : ByteArray) : ∀ f m nm i k, (lrd s f m nm i k).err = 0 → i ≤ s.size → k ≤ 200 → i ≤ (lrd s f m nm i k).pos ∧ (lrd s f m nm i k).pos ≤ s.size ∧ (lrd s f m nm i k).k ≤ 200 ∧ ((∀ t, m ≠ .behind t) → i < (lrd s f m nm i k).pos) := by
  intro f
  induction f with
  | zero => intro m nm i k h; simp [lrd, noLr] at h
  | succ f ih =>
    intro m nm i k h hi hk
    cases m with
    | term =>
      unfold lrd at h ⊢
      by_cases h1 : i < s.size ∧ byteAt s i = 92
      · rw [if_pos h1] at h ⊢
        by_cases h2 : 200 < k + 1
        · rw [if_pos h2] at h; simp [noLr] at h
        rw [if_neg h2] at h ⊢
        by_cases h3 : nameE s (i + 1) ≠ 0
        · rw [if_pos h3] at h; exact absurd h h3
        rw [if_neg h3] at h ⊢
        by_cases h4 : askE s (stopAt s (i + 1)) 46 ≠ 0
        · rw [if_pos h4] at h; exact absurd h h4
        rw [if_neg h4] at h ⊢
        simp only at h ⊢
        have h3' := nameE_go (by simpa using h3)
        have h4' := askE_go (by simpa using h4)
        by_cases h5 : (lrd s f .term (nm ++ [s.extract (i + 1) (stopAt s (i + 1))]) (stopAt s (i + 1) + 1) (k + 1)).err ≠ 0
        · rw [if_pos h5] at h; exact absurd h h5
        rw [if_neg h5]
        have := ih .term _ _ _ (by simpa using h5) (by omega) (by omega)
        refine ⟨?_, this.2.1, this.2.2.1, fun _ => ?_⟩
        · have := this.1; simp only; omega
        · have := this.1; simp only; omega
      · rw [if_neg h1] at h ⊢
        simp only at h ⊢
        by_cases h5 : (lrd s f .piece nm i k).err ≠ 0
        · rw [if_pos h5] at h; exact absurd h h5
        rw [if_neg h5] at h ⊢
        have g1 := ih .piece nm i k (by simpa using h5) hi hk
        have g2 := ih (.behind (lrd s f .piece nm i k).t) nm _ _ h g1.2.1 g1.2.2.1
        have g3 := g1.2.2.2 (fun t e => by cases e)
        exact ⟨by omega, g2.2.1, g2.2.2.1, fun _ => by omega⟩
    | behind t =>
      unfold lrd at h ⊢
      by_cases h1 : i < s.size ∧ byteAt s i = 32
      · rw [if_pos h1] at h ⊢
        by_cases h2 : 200 < k + 1
        · rw [if_pos h2] at h; simp [noLr] at h
        rw [if_neg h2] at h ⊢
        simp only at h ⊢
        by_cases h5 : (lrd s f .piece nm (i + 1) (k + 1)).err ≠ 0
        · rw [if_pos h5] at h; exact absurd h h5
        rw [if_neg h5] at h ⊢
        have g1 := ih .piece nm (i + 1) (k + 1) (by simpa using h5) (by omega) (by omega)
        have g2 := ih (.behind ⟨3, 0, [t, (lrd s f .piece nm (i + 1) (k + 1)).t]⟩) nm _ _ h g1.2.1 g1.2.2.1
        exact ⟨by omega, g2.2.1, g2.2.2.1, fun hh => absurd rfl (hh t)⟩
      · rw [if_neg h1]
        exact ⟨Nat.le_refl _, hi, hk, fun hh => absurd rfl (hh t)⟩
    | piece =>
      unfold lrd at h ⊢
      by_cases h1 : i < s.size ∧ byteAt s i = 40
      · rw [if_pos h1] at h ⊢
        simp only at h ⊢
        by_cases h5 : (lrd s f .term nm (i + 1) k).err ≠ 0
        · rw [if_pos h5] at h; exact absurd h h5
        rw [if_neg h5] at h ⊢
        by_cases h6 : askE s (lrd s f .term nm (i + 1) k).pos 41 ≠ 0
        · rw [if_pos h6] at h; exact absurd h h6
        rw [if_neg h6]
        have g1 := ih .term nm (i + 1) k (by simpa using h5) (by omega) hk
        have g2 := askE_go (by simpa using h6)
        exact ⟨by simp only; omega, by simp only; omega, g1.2.2.1, fun _ => by simp only; omega⟩
      · rw [if_neg h1] at h ⊢
        by_cases h3 : nameE s i ≠ 0
        · rw [if_pos h3] at h; exact absurd h h3
        rw [if_neg h3] at h ⊢
        by_cases h2 : 200 < k + 1
        · rw [if_pos h2] at h; simp [noLr] at h
        rw [if_neg h2] at h ⊢
        have h3' := nameE_go (by simpa using h3)
        have h4 := named_ok h
        have h5 := stopAt_le s hi
        rw [h4.1, h4.2]
        exact ⟨by omega, h5, by omega, fun _ => by omega⟩
end Go.Proofs.YtagidfoiemgfcaaGreatDoor

/- Walks: writing into a Builder, with all else as it was. -/
namespace Go.Proofs.YtagidfoiemgfcaaGreatDoor
open Go.RowKit
set_option linter.unusedSimpArgs false
set_option linter.unusedVariables false

theorem Tryz.infoByte : (Tryz.prog.info? 5).map (fun i => (i.zero, i.size, i.bytes)) = some (some (.int .u8 0), 1, 1) := by kernel_rfl
theorem Tryz.sizeBuilder : (Tryz.prog.info? 84).map (·.size) = some 2 := by kernel_rfl
/-- What a write leaves alone. -/
def BFr (w w' : World) (b : Nat) (v v' : Value) : Prop :=
  w'.os = w.os ∧ w'.tape = w.tape ∧ w'.output = w.output ∧ w.heap.size ≤ w'.heap.size ∧ (∀ k, k < w.heap.size → k ≠ b → some k ≠ v.ownBlock → w'.heap[k]? = w.heap[k]?) ∧ (∀ k, v'.ownBlock = some k → v.ownBlock = some k ∨ w.heap.size ≤ k)

theorem BFr.refl (w : World) (b : Nat) (v : Value) : BFr w w b v v := ⟨rfl, rfl, rfl, Nat.le_refl _, fun _ _ _ _ => rfl, fun _ h => Or.inl h⟩
theorem BFr.trans {w w1 w2 : World} {b : Nat} {v v1 v2 : Value} (h : BFr w w1 b v v1) (h1 : BFr w1 w2 b v1 v2) : BFr w w2 b v v2 := by
  obtain ⟨a1, a2, a3, a4, a5, a6⟩ := h
  obtain ⟨c1, c2, c3, c4, c5, c6⟩ := h1
  refine ⟨c1.trans a1, c2.trans a2, c3.trans a3, Nat.le_trans a4 c4, fun k hk hb hv => ?_, fun k hk => ?_⟩
  · refine (c5 k (Nat.lt_of_lt_of_le hk a4) hb (fun e => ?_)).trans (a5 k hk hb hv)
    rcases a6 k e.symm with h | h
    · exact hv h.symm
    · omega
  · rcases c6 k hk with h | h
    · exact a6 k h
    · exact Or.inr (Nat.le_trans a4 h)
theorem BFr.of_below {w w' : World} (hb : Below w.heap.size w w') (b : Nat) (v : Value) : BFr w w' b v v := ⟨hb.os, hb.tape, hb.output, hb.size, fun k hk _ _ => hb.block k hk, fun _ h => Or.inl h⟩

theorem bd_lt {w : World} {b : Nat} {o : Obj} (h : w.heap[b]? = some o) : b < w.heap.size := by
  apply Classical.byContradiction
  intro hn
  rw [Array.getElem?_eq_none (by omega)] at h; cases h

/-- Where the row lies behind an append of a text's bytes. -/
theorem str_at {w w' : World} {B : Nat} {v v' : Value} {n : Nat} {xs : List Value} {s : ByteArray} {ty : TypeId} (hown : w.ownsRow B 5 1 v n xs) (hsm : n + s.size ≤ 2000000000) (hr : (Builtin.append_ #[82, 9] ty #[v, .string s]).run Tryz.prog w = .ok v' w')
    (hnil : v' = .slice none 0 0 ↔ v = .slice none 0 0 ∧ s.size = 0) : ∀ k, v'.ownBlock = some k → v.ownBlock = some k ∨ w.heap.size ≤ k := by
  obtain ⟨i0, hi, hz0, hz1, hz2⟩ := info_parts Tryz.infoByte
  have hsrc : Src Tryz.prog i0.size 9 (.string s) s.size (byteCells s) w := by rw [hz1]; exact Src.ofString w Tryz.underlying9 s
  have hlx := hown.1
  intro k hk
  rcases hown.2 with ⟨rfl, rfl⟩ | ⟨g, cap, cur, rfl, hBg, hh, hnc, hcm, hcs, htk⟩
  · by_cases h0 : s.size = 0
    · have := hnil.2 ⟨rfl, h0⟩
      rw [this] at hk; cases hk
    · have hg := run_append_grow_src (P := Tryz.prog) w 82 9 ty 5 i0 (.int .u8 0) Tryz.underlying82 hi hz0 none 0 0 [] (by simpa using run_firstCells_none w.drew i0.size 0 0 0) (.string s) s.size (byteCells s) hsrc (by omega) (by omega) (by rw [hz2]; have := growslice_fits (need := 0 + s.size) (old := 0) (bytes := 1) (by omega) (by omega); omega)
      rw [hr] at hg
      simp only [Result.ok.injEq] at hg
      rw [hg.1] at hk
      simp [Value.ownBlock] at hk
      right; omega
  · by_cases hroom : n + s.size ≤ cap
    · have hc : ∀ j, j < (byteCells s).length → (w.cell? ⟨g, 0 + n * i0.size + j, none⟩).isSome = true := fun j hj => by
        rw [byteCells_length] at hj
        rw [Lib.cell_of_heap hh, hz1]
        simp; omega
      have hf : ∀ j, j < (byteCells s).length → w.frozen? ⟨g, 0 + n * i0.size + j, none⟩ = false := fun j hj => Lib.frozen_of_heap hh _
      have hg := run_append_room_src (P := Tryz.prog) w 82 9 ty 5 i0 Tryz.underlying82 hi g 0 n cap (.string s) s.size (byteCells s) hsrc hroom hc hf
      rw [hr] at hg
      simp only [Result.ok.injEq] at hg
      rw [hg.1] at hk
      simp [Value.ownBlock] at hk
      left; simp [Value.ownBlock, hk]
    · have hfc := run_firstCells_some (P := Tryz.prog) w.drew i0.size n ⟨g, 0, none⟩ n cap xs (by rw [hz1]; exact hlx) (fun j u hj => by have := hown.cells (g := g) rfl j u hj; simpa using this)
      have hg := run_append_grow_src (P := Tryz.prog) w 82 9 ty 5 i0 (.int .u8 0) Tryz.underlying82 hi hz0 (some ⟨g, 0, none⟩) n cap xs hfc (.string s) s.size (byteCells s) hsrc (by omega) (by omega) (by rw [hz2]; have := growslice_fits (need := n + s.size) (old := cap) (bytes := 1) (by omega) (by omega); omega)
      rw [hr] at hg
      simp only [Result.ok.injEq] at hg
      rw [hg.1] at hk
      simp [Value.ownBlock] at hk
      right; omega

end Go.Proofs.YtagidfoiemgfcaaGreatDoor

/- Walks: writing into a Builder that is part of a writer, with all else as it was. -/
namespace Go.Proofs.YtagidfoiemgfcaaGreatDoor
open Go.RowKit
set_option linter.unusedSimpArgs false
set_option linter.unusedVariables false

theorem Tryz.liesWriter : liesAt Tryz.prog Tryz.prog.depth 86 (3 / Tryz.prog.cellsOf 86) 0 84 1 = true := by kernel_rfl

/-- A writer in block b, its bytes in a row of its own. -/
def Wrt (w : World) (B b : Nat) (fv : Value) (bs : List Value) (v : Value) : Prop :=
  B ≤ b ∧ (∃ p, (p = .pointer none ∨ p = .pointer (some ⟨b, 0, none⟩)) ∧ w.heap[b]? = some (.cells #[p, v, fv] 86 (0, 0))) ∧ w.ownsRow B 5 1 v bs.length bs

theorem wt_ne {w : World} {B b : Nat} {fv : Value} {bs : List Value} {v : Value} (h : Wrt w B b fv bs v) : v.ownBlock ≠ some b := by
  obtain ⟨_, ⟨p, _, hb⟩, hown⟩ := h
  exact Lib.ownBlock_ne hown hb (by decide)

set_option maxHeartbeats 1000000 in
set_option maxRecDepth 100000 in
theorem copyCheckW_any (B b : Nat) (fv : Value) (bs : List Value) (v : Value) (w : World) (h : Wrt w B b fv bs v) :
    Calls Tryz.prog 84 #[.pointer (some ⟨b, 0, none⟩)] w fun e w' => e = .returned (.tuple #[]) ∧ w'.heap[b]? = some (.cells #[.pointer (some ⟨b, 0, none⟩), v, fv] 86 (0, 0)) ∧ w'.ownsRow B 5 1 v bs.length bs ∧ BFr w w' b v v := by
  obtain ⟨j, hj, hjs⟩ := Option.map_eq_some_iff.1 Tryz.sizeBuilder
  have hne := wt_ne h
  obtain ⟨hB, ⟨p, hp, hbk⟩, hown⟩ := h
  have h0 : w.cell? ⟨b, 0, none⟩ = some p := by rw [Lib.cell_of_heap hbk]; rfl
  have hsh : w.shape? b = some (86, 3) := by simp [World.shape?, hbk]
  have hfz : w.frozen? ⟨b, 0, none⟩ = false := Lib.frozen_of_heap hbk 0
  rcases hp with rfl | rfl
  · have HF : Hid ((w.setCell ⟨b, 0, none⟩ (.pointer (some ⟨b, 0, none⟩))).heap[b]? = some (.cells #[.pointer (some ⟨b, 0, none⟩), v, fv] 86 (0, 0)) ∧ (w.setCell ⟨b, 0, none⟩ (.pointer (some ⟨b, 0, none⟩))).ownsRow B 5 1 v bs.length bs ∧ BFr w (w.setCell ⟨b, 0, none⟩ (.pointer (some ⟨b, 0, none⟩))) b v v) := by
      refine ⟨by simp [World.setCell, Array.getElem?_modify, hbk], ?_, rfl, rfl, rfl, by simp [World.setCell], fun k hk hkb _ => Below.heap_setCell _ _ _ _ (by simpa using hkb), fun _ h => Or.inl h⟩
      refine hown.kept (w' := w.setCell ⟨b, 0, none⟩ (.pointer (some ⟨b, 0, none⟩))) (row := some b) ⟨rfl, rfl, rfl, by simp [World.setCell], fun k hk hkb => Below.heap_setCell _ _ _ _ (by simp at hkb; simpa using hkb)⟩ (Or.inr hne)
    have HOWN := hide hown
    clear hown
    go_enter Tryz.func84, Tryz.ntmps84
    go_wp2_with fail
    rw [Lib.run_to_unsafe w ⟨b, 0, none⟩ Tryz.underlying81 Tryz.underlying116 hj (by rw [hjs]; decide) hsh (Nat.zero_lt_succ 2)]
    simp only [Result.andThen]
    rw [Oper.upon_value]
    go_wp2_with fail
    rw [run_callFunc_extern Tryz.func88 (by kernel_rfl) (by kernel_rfl) (by kernel_rfl) (e := Extern.AbiNoEscape.same) (by kernel_rfl)]
    rw [Lib.run_noEscape]
    simp only [Result.andThen]
    rw [Oper.upon_value]
    go_wp2_with fail
    rw [Lib.run_from_unsafe w ⟨b, 0, none⟩ Tryz.underlying116 Tryz.underlying81 hj hsh Tryz.liesWriter]
    simp only [Result.andThen]
    rw [Oper.upon_value]
    go_wp2_with fail
    go_end0
    exact ⟨rfl, HF.out⟩
  · have HOWN := hide hown
    go_enter Tryz.func84, Tryz.ntmps84
    go_wp2_with fail
    rw [Lib.run_neq_ptr_same w _ Tryz.underlying81 hj]
    go_wp2_with fail
    go_end0
    exact ⟨rfl, hbk, HOWN.out, BFr.refl _ _ _⟩

/-- Behind an append and the store of its slice. -/
theorem wt_put {w w2 : World} {B b : Nat} {fv : Value} {bs bs' : List Value} {v v' : Value} (hB : B ≤ b) (hBw : B ≤ w.heap.size) (hbk : w.heap[b]? = some (.cells #[.pointer (some ⟨b, 0, none⟩), v, fv] 86 (0, 0))) (hown : w.ownsRow B 5 1 v bs.length bs) (hown' : w2.ownsRow B 5 1 v' bs'.length bs') (hg : w.grownBy w2 v.ownBlock)
    (hat : ∀ k, v'.ownBlock = some k → v.ownBlock = some k ∨ w.heap.size ≤ k) : Wrt (w2.setCell ⟨b, 1, none⟩ v') B b fv bs' v' ∧ BFr w (w2.setCell ⟨b, 1, none⟩ v') b v v' := by
  have hne : v.ownBlock ≠ some b := Lib.ownBlock_ne hown hbk (by decide)
  have hlt := bd_lt hbk
  have hb2 : w2.heap[b]? = some (.cells #[.pointer (some ⟨b, 0, none⟩), v, fv] 86 (0, 0)) := by rw [hg.block b hlt (fun e => hne e.symm)]; exact hbk
  have hne' : v'.ownBlock ≠ some b := Lib.ownBlock_ne hown' hb2 (by decide)
  refine ⟨⟨hB, ⟨_, Or.inr rfl, by simp [World.setCell, Array.getElem?_modify, hb2]⟩, ?_⟩, hg.os, hg.tape, hg.output, by simp [World.setCell]; exact hg.size, fun k hk hkb hv => ?_, hat⟩
  · exact hown'.kept (w' := w2.setCell ⟨b, 1, none⟩ v') (row := some b) ⟨rfl, rfl, rfl, by simp [World.setCell], fun k hk hkb => Below.heap_setCell _ _ _ _ (by simp at hkb; simpa using hkb)⟩ (Or.inr hne')
  · rw [Below.heap_setCell _ _ _ _ (by simpa using hkb)]; exact hg.block k hk hv

set_option maxHeartbeats 1000000 in
set_option maxRecDepth 100000 in
theorem writeByteW_any (B b : Nat) (fv : Value) (bs : List Value) (v : Value) (c : Int) (w : World) (h : Wrt w B b fv bs v) (hlen : bs.length ≤ 1000000000) (hBw : B ≤ w.heap.size) :
    Calls Tryz.prog 71 #[.pointer (some ⟨b, 0, none⟩), .int .u8 c] w fun e w' => e = .returned .nilIface ∧ ∃ v', Wrt w' B b fv (bs ++ [.int .u8 c]) v' ∧ BFr w w' b v v' := by
  obtain ⟨i0, hi, hz0, hz1, hz2⟩ := info_parts Tryz.infoByte
  have hB := h.1
  have H := hide h
  clear h
  go_enter Tryz.func71, Tryz.ntmps71
  go_wp2_with (go_at_call 84; refine (copyCheckW_any B b fv bs v _ H.out).mono ?_)
  rintro e w1 ⟨rfl, hbk, hown, hfr⟩
  have c0 : w1.cell? ⟨b, 0, none⟩ = some (.pointer (some ⟨b, 0, none⟩)) := by rw [Lib.cell_of_heap hbk]; rfl
  have c1 : w1.cell? ⟨b, 1, none⟩ = some v := by rw [Lib.cell_of_heap hbk]; rfl
  have hlt := bd_lt hbk
  have hne : v.ownBlock ≠ some b := Lib.ownBlock_ne hown hbk (by decide)
  have hBw1 : B ≤ w1.heap.size := Nat.le_trans hBw hfr.2.2.2.1
  obtain ⟨g, cap, w2, hr2, hown2, hg2, hat2, _⟩ := run_append_lies (P := Tryz.prog) (w := w1.alloc (.cells #[.int .u8 c] 5)) 82 82 B 5 i0 _ 1 1 Tryz.underlying82 hi hz0 hz1 hz2 rfl (by decide) v bs.length bs (hown.alloc _)
    ⟨w1.heap.size, 0, none⟩ 1 1 [.int .u8 c] rfl (cell_one_new _ _ _) (fun x hx => by simp at hx; subst hx; rfl) (by decide) (by unfold maxLen; omega) (by omega) (by simp; omega) _ rfl
  have hg3 : w1.grownBy w2 v.ownBlock := grown_trans (grown_of_below ((Below.refl _ _).alloc (Nat.le_refl _) _) v.ownBlock) hg2 (fun k hk => Or.inl hk)
  have HPUT := hide (wt_put (bs' := bs ++ [.int .u8 c]) hB hBw1 hbk hown (by simpa using hown2) hg3 (fun k hk => by
    simp [Value.ownBlock] at hk
    subst hk
    rcases hat2 with e | e
    · exact Or.inl e
    · right; simp at e; omega))
  have hb2 : w2.heap[b]? = some (.cells #[.pointer (some ⟨b, 0, none⟩), v, fv] 86 (0, 0)) := by rw [hg3.block b hlt (fun e => hne e.symm)]; exact hbk
  have d0 : w2.cell? ⟨b, 0, none⟩ = some (.pointer (some ⟨b, 0, none⟩)) := by rw [Lib.cell_of_heap hb2]; rfl
  have d1 : w2.cell? ⟨b, 1, none⟩ = some v := by rw [Lib.cell_of_heap hb2]; rfl
  have f1 : w2.frozen? ⟨b, 1, none⟩ = false := Lib.frozen_of_heap hb2 1
  have HR := hide hr2
  have HFR := hide hfr
  clear hr2 hown hown2 hg2 hg3 hat2 hbk hfr hb2
  go_wp2_with (at_builtin; refine wpList_append_eq rfl _ _ _ _ rfl rfl rfl HR.out ?_)
  go_ret
  exact ⟨rfl, _, HPUT.out.1, HFR.out.trans HPUT.out.2⟩

set_option maxHeartbeats 1000000 in
set_option maxRecDepth 100000 in
theorem writeStringW_any (B b : Nat) (fv : Value) (bs : List Value) (v : Value) (s : ByteArray) (w : World) (h : Wrt w B b fv bs v) (hlen : bs.length + s.size ≤ 1000000000) (hBw : B ≤ w.heap.size) :
    Calls Tryz.prog 69 #[.pointer (some ⟨b, 0, none⟩), .string s] w fun e w' => e = .returned (.tuple #[.int .i64 s.size, .nilIface]) ∧ ∃ v', Wrt w' B b fv (bs ++ Lib.strCells s) v' ∧ BFr w w' b v v' := by
  obtain ⟨i0, hi, hz0, hz1, hz2⟩ := info_parts Tryz.infoByte
  have hB := h.1
  have H := hide h
  clear h
  go_enter Tryz.func69, Tryz.ntmps69
  go_wp2_with (go_at_call 84; refine (copyCheckW_any B b fv bs v _ H.out).mono ?_)
  rintro e w1 ⟨rfl, hbk, hown, hfr⟩
  have c0 : w1.cell? ⟨b, 0, none⟩ = some (.pointer (some ⟨b, 0, none⟩)) := by rw [Lib.cell_of_heap hbk]; rfl
  have c1 : w1.cell? ⟨b, 1, none⟩ = some v := by rw [Lib.cell_of_heap hbk]; rfl
  have hlt := bd_lt hbk
  have hne : v.ownBlock ≠ some b := Lib.ownBlock_ne hown hbk (by decide)
  have hBw1 : B ≤ w1.heap.size := Nat.le_trans hBw hfr.2.2.2.1
  obtain ⟨v2, w2, hr2, hown2, hg2, hnil2⟩ := Lib.run_append_own_string (P := Tryz.prog) w1 B 82 9 82 5 i0 Tryz.underlying82 Tryz.underlying9 hi hz0 hz1 hz2 v bs.length bs hown s (by unfold maxLen; omega) (by omega) hBw1
  have hat := str_at hown (by omega) hr2 hnil2
  have HPUT := hide (wt_put (bs' := bs ++ Lib.strCells s) hB hBw1 hbk hown (by simpa [Lib.strCells_length] using hown2) hg2 hat)
  have hb2 : w2.heap[b]? = some (.cells #[.pointer (some ⟨b, 0, none⟩), v, fv] 86 (0, 0)) := by rw [hg2.block b hlt (fun e => hne e.symm)]; exact hbk
  have d0 : w2.cell? ⟨b, 0, none⟩ = some (.pointer (some ⟨b, 0, none⟩)) := by rw [Lib.cell_of_heap hb2]; rfl
  have d1 : w2.cell? ⟨b, 1, none⟩ = some v := by rw [Lib.cell_of_heap hb2]; rfl
  have f1 : w2.frozen? ⟨b, 1, none⟩ = false := Lib.frozen_of_heap hb2 1
  obtain ⟨ao, n', cap, rfl⟩ : ∃ ao n' cap, v2 = .slice ao n' cap := by
    rcases hown2.2 with ⟨hv, _⟩ | ⟨g, cap, cur, hv, _⟩
    · exact ⟨_, _, _, hv⟩
    · exact ⟨_, _, _, hv⟩
  have HR := hide hr2
  have HFR := hide hfr
  clear hr2 hown hown2 hg2 hat hnil2 hbk hfr hb2
  go_wp2_with (at_builtin; refine wpList_append_eq rfl _ _ _ _ rfl rfl rfl HR.out ?_)
  go_ret2
  exact ⟨rfl, _, HPUT.out.1, HFR.out.trans HPUT.out.2⟩

set_option maxHeartbeats 2000000 in
set_option maxRecDepth 100000 in
/-- What was written, where that is something. -/
theorem stringW_any (B b : Nat) (fv v : Value) (l : List UInt8) (w : World) (h : Wrt w B b fv (Lib.byteCells l) v) (h0 : l ≠ []) :
    Calls Tryz.prog 56 #[.pointer (some ⟨b, 0, none⟩)] w fun e w' => e = .returned (.string ⟨l.toArray⟩) ∧ Below B w w' := by
  obtain ⟨hB, ⟨p, hp, hbk⟩, hown⟩ := h
  have hl0 : l.length ≠ 0 := by simpa using h0
  rw [Lib.byteCells_length] at hown
  obtain ⟨g, cap, cur, rfl, hbg, hg, hnc, hcm, hcs, htake⟩ : ∃ g cap cur, v = .slice (some ⟨g, 0, none⟩) l.length cap ∧ B ≤ g ∧ w.heap[g]? = some (.cells cur 5 (0, 0)) ∧ l.length ≤ cap ∧ cap ≤ maxLen ∧ cur.size = cap * 1 ∧ cur.toList.take (l.length * 1) = Lib.byteCells l := by
    rcases hown.2 with ⟨_, hz⟩ | ⟨g, cap, cur, hv, r⟩
    · exact absurd hz hl0
    · exact ⟨g, cap, cur, hv, r⟩
  have c1 : w.drew.cell? ⟨b, 1, none⟩ = some (.slice (some ⟨g, 0, none⟩) l.length cap) := by
    have : w.drew.heap[b]? = some (.cells #[p, .slice (some ⟨g, 0, none⟩) l.length cap, fv] 86 (0, 0)) := hbk
    rw [Lib.cell_of_heap this]; rfl
  have hSD : (Builtin.unsafeSliceData_ #[82] 106 #[.slice (some ⟨g, 0, none⟩) l.length cap]).run Tryz.prog w.drew = .ok (.pointer (some ⟨g, 0, none⟩)) w.drew :=
    Lib.run_unsafeSliceData_row _ _ _ _ _ _ (by omega)
  have hUS : (Builtin.unsafeString_ #[106, 3] 9 #[.pointer (some ⟨g, 0, none⟩), .int .i64 l.length]).run Tryz.prog w.drew = .ok (.string ⟨l.toArray⟩) (w.drew.freeze ⟨g, 0, none⟩ l.length) := by
    refine Lib.run_unsafeString_row w.drew 106 3 9 5 Tryz.underlying106 (by kernel_rfl) g cur.size (by have hg' : w.drew.heap[g]? = some (.cells cur 5 (0, 0)) := hg; simp [World.shape?, hg']) l h0 (by omega) (by unfold maxLen at hcm; omega) ?_
    intro j x hx
    have := hown.cells (g := g) rfl j (.int .u8 x.toNat) (by simp [Lib.byteCells, hx])
    exact this
  have mixed : Tryz.prog.follows .mixedOrders = true := by kernel_rfl
  clear hown htake hg
  go_enter Tryz.func56, Tryz.ntmps56
  go_wp2
  go_region_o
  all_goals (go_wp2; go_ret; exact ⟨rfl, Lib.below_freeze (Below.drew (Below.refl B w)) (p := ⟨g, 0, none⟩) hbg _⟩)
end Go.Proofs.YtagidfoiemgfcaaGreatDoor

/- Rows of lambda terms. -/
namespace Go.Proofs.YtagidfoiemgfcaaGreatDoor
open Go.RowKit
set_option linter.unusedSimpArgs false
set_option linter.unusedVariables false

/-- These cells are these lambda terms. -/
def RowTM (w : World) (X : Nat → Prop) : List Lm → List Value → Prop
  | [], xs => xs = []
  | t :: l, xs => ∃ a c r, xs = .int .i64 t.kind :: .int .i64 t.idx :: .slice a t.subs.length c :: r ∧ SlM w X a t.subs ∧ RowTM w X l r
theorem RowTM.len {w : World} {X : Nat → Prop} : ∀ {l : List Lm} {xs : List Value}, RowTM w X l xs → xs.length = l.length * 3
  | [], xs, h => by simp [RowTM] at h; simp [h]
  | t :: l, xs, h => by
    obtain ⟨a, c, r, rfl, _, h⟩ := h
    simp only [List.length_cons]
    rw [RowTM.len h]; omega
theorem RowTM.append {w : World} {X : Nat → Prop} : ∀ {l k : List Lm} {xs ys : List Value}, RowTM w X l xs → RowTM w X k ys → RowTM w X (l ++ k) (xs ++ ys)
  | [], k, xs, ys, h, h' => by simp [RowTM] at h; subst h; simpa using h'
  | t :: l, k, xs, ys, h, h' => by
    obtain ⟨a, c, r, rfl, hs, h⟩ := h
    exact ⟨a, c, r ++ ys, rfl, hs, RowTM.append h h'⟩
theorem RowTM.imp {w w' : World} {X Y : Nat → Prop} (hs : ∀ a l, SlM w X a l → SlM w' Y a l) : ∀ {l : List Lm} {xs : List Value}, RowTM w X l xs → RowTM w' Y l xs
  | [], xs, h => h
  | t :: l, xs, h => by
    obtain ⟨a, c, r, e, h1, h⟩ := h
    exact ⟨a, c, r, e, hs _ _ h1, RowTM.imp hs h⟩
theorem liesM_of_row {w w' : World} {X Y : Nat → Prop} (b : Nat) (hb : Y b) : ∀ (l : List Lm) (xs : List Value) (o : Nat), RowTM w X l xs → (∀ a k, SlM w X a k → SlM w' Y a k) → (∀ j u, xs[j]? = some u → w'.cell? ⟨b, o + j, none⟩ = some u) → LiesM w' Y b o l := by
  intro l
  induction l with
  | nil => intro xs o _ _ _; simp [LiesM]
  | cons t r ih =>
    intro xs o h hs hc
    obtain ⟨s, x, k⟩ := t
    obtain ⟨a, c, r', rfl, h1, h2⟩ := h
    simp only [LiesM]
    obtain ⟨h3, h4⟩ := hs _ _ h1
    refine ⟨hb, hc 0 _ rfl, hc 1 _ rfl, ⟨a, c, hc 2 _ rfl, h3, h4⟩, ih r' (o + 3) h2 hs fun j u hj => ?_⟩
    have := hc (j + 3) u (by simpa using hj)
    rwa [show o + (j + 3) = o + 3 + j by omega] at this

/-- The row so far, apart from what its terms are made of: old memory that Y lets, and new memory. -/
structure RowM (w : World) (N : Nat) (T : Nat) (Y : Nat → Prop) (v : Value) (l : List Lm) (xs : List Value) : Prop where
  own : w.ownsRow N T 3 v l.length xs
  row : RowTM w (fun b => Y b ∨ (N ≤ b ∧ some b ≠ v.ownBlock)) l xs

theorem RowM.start (w : World) (N T : Nat) (Y : Nat → Prop) : RowM w N T Y (.slice none 0 0) [] [] := ⟨World.ownsRow_nil w N T 3, rfl⟩

theorem RowM.below {w w' : World} {N T : Nat} {Y : Nat → Prop} {v : Value} {l : List Lm} {xs : List Value} (h : RowM w N T Y v l xs) (hb : Below w.heap.size w w') : RowM w' N T Y v l xs :=
  ⟨h.own.kept (w' := w') (row := none) ⟨hb.os, hb.tape, hb.output, hb.size, fun j hj _ => hb.block j hj⟩ (by rcases Option.eq_none_or_eq_some (Value.ownBlock v) with h | ⟨x, h⟩; exact Or.inl h; exact Or.inr (by rw [h]; simp)),
   h.row.imp fun a l h => h.later hb⟩

theorem RowM.ne {w : World} {N T : Nat} {Y : Nat → Prop} {v : Value} {l : List Lm} {xs : List Value} (h : RowM w N T Y v l xs) {b : Nat} (hb : b < N) : some b ≠ v.ownBlock := fun e => by
  have := (h.own.lt b e.symm).1; omega

/-- One more: the term's cells have been laid into a block of their own, and appended. -/
theorem RowM.push {w w1 w2 w3 : World} {N T : Nat} {Y : Nat → Prop} {v : Value} {l : List Lm} {xs : List Value} (h : RowM w N T Y v l xs) (hN : N ≤ w.heap.size) (hY : ∀ b, Y b → b < N) (hb : Below w.heap.size w w1) {s s2 : Int} {a : Option Addr} {n c : Nat} {t : Lm}
    (ht : MV w1 (fun b => Y b ∨ w.heap.size ≤ b) (.agg #[.int .i64 s, .int .i64 s2, .slice a n c]) t) (o : Obj) (hw2 : w2 = w1.alloc o) {g cap : Nat}
    (hown : w3.ownsRow N T 3 (.slice (some ⟨g, 0, none⟩) (l.length + 1) cap) (l.length + 1) (xs ++ [.int .i64 s, .int .i64 s2, .slice a n c])) (hg : w2.grownBy w3 v.ownBlock) (hg1 : v.ownBlock = some g ∨ g = w2.heap.size) :
    RowM w3 N T Y (.slice (some ⟨g, 0, none⟩) (l.length + 1) cap) (l ++ [t]) (xs ++ [.int .i64 s, .int .i64 s2, .slice a n c]) := by
  subst hw2
  have hlt := h.own.lt
  refine ⟨by simpa using hown, ?_⟩
  have hsz : w1.heap.size ≤ (w1.alloc o).heap.size := by simp
  have hbs := hb.size
  have hgN : N ≤ g := by
    rcases hg1 with e | e
    · exact (hlt g e).1
    · simp at e; omega
  refine RowTM.append (h.row.imp fun a' k' hs => ?_) ?_
  · have h1 : SlM w (fun b => (Y b ∨ (N ≤ b ∧ some b ≠ v.ownBlock)) ∧ b < w.heap.size) a' k' := hs.mono fun b h1 h2 => ⟨h1, h2⟩
    have h2 : SlM w3 (fun b => (Y b ∨ (N ≤ b ∧ some b ≠ v.ownBlock)) ∧ b < w.heap.size) a' k' := h1.kept fun b hx => by
      have hne : some b ≠ v.ownBlock := by
        rcases hx.1 with hy | hy
        · exact h.ne (hY b hy)
        · exact hy.2
      rw [hg.block b (by simp; omega) hne, Below.heap_alloc _ _ _ (by omega), hb.block b hx.2]
    refine h2.mono fun b hx _ => ?_
    rcases hx.1 with hy | hy
    · exact Or.inl hy
    · refine Or.inr ⟨hy.1, fun e => ?_⟩
      simp [Value.ownBlock] at e
      rcases hg1 with e' | e'
      · exact hy.2 (by rw [e', e])
      · simp at e'; omega
  · obtain ⟨a2, c2, e, hs⟩ := ht
    simp at e
    obtain ⟨rfl, rfl, rfl, rfl, rfl⟩ := e
    refine ⟨a, c, [], rfl, ?_, rfl⟩
    have h1 : SlM w1 (fun b => (Y b ∨ w.heap.size ≤ b) ∧ b < w1.heap.size) a t.subs := hs.mono fun b h1 h2 => ⟨h1, h2⟩
    have h2 : SlM w3 (fun b => (Y b ∨ w.heap.size ≤ b) ∧ b < w1.heap.size) a t.subs := h1.kept fun b hx => by
      have hne : some b ≠ v.ownBlock := by
        rcases hx.1 with hy | hy
        · exact h.ne (hY b hy)
        · intro e; have := (hlt b e.symm).2; omega
      rw [hg.block b (by simp; omega) hne, Below.heap_alloc _ _ _ hx.2]
    refine h2.mono fun b hx _ => ?_
    rcases hx.1 with hy | hy
    · exact Or.inl hy
    · refine Or.inr ⟨by omega, fun e => ?_⟩
      simp [Value.ownBlock] at e
      rcases hg1 with e' | e'
      · have := (hlt g e').2; omega
      · simp at e'; omega

/-- A store into a block that is none of the row's. -/
theorem RowM.setCell {w : World} {N T : Nat} {Y : Nat → Prop} {v : Value} {l : List Lm} {xs : List Value} (h : RowM w N T Y v l xs) {b i : Nat} (hb : b < N) (hY : ¬ Y b) (u : Value) : RowM (w.setCell ⟨b, i, none⟩ u) N T Y v l xs :=
  ⟨ownsRow_setCell_below h.own (by simpa using hb) u, h.row.imp fun a k hs => hs.kept fun c hc => Below.heap_setCell _ _ _ _ (by
    simp
    rcases hc with hc | hc
    · intro e; subst e; exact hY hc
    · omega)⟩

theorem RowM.sl {w : World} {N T : Nat} {Y : Nat → Prop} {v : Value} {l : List Lm} {xs : List Value} (h : RowM w N T Y v l xs) : ∃ a c, v = .slice a l.length c ∧ SlM w (fun b => Y b ∨ N ≤ b) a l := by
  have hml : l.length ≤ 9223372036854775807 := by
    rcases h.own.2 with ⟨_, h0⟩ | ⟨g, cap, cur, _, _, _, h1, h2, _⟩
    · omega
    · unfold maxLen at h2; omega
  by_cases h0 : 0 < l.length
  · obtain ⟨g, cap, rfl, hg, hlt, hc⟩ := owned_val h.own h0
    exact ⟨_, _, rfl, hml, Or.inr ⟨g, 0, rfl, liesM_of_row g (Or.inr hg) l xs 0 h.row (fun a k hs => hs.mono fun b hb _ => hb.imp id (fun h => h.1)) (fun j u hj => by simpa using hc j u hj)⟩⟩
  · have e : l = [] := List.length_eq_zero_iff.1 (by omega)
    subst e
    rcases h.own.2 with ⟨hv, _⟩ | ⟨g, cap, cur, hv, _⟩
    · exact ⟨none, 0, hv, hml, Or.inl rfl⟩
    · exact ⟨_, _, hv, hml, Or.inl rfl⟩

end Go.Proofs.YtagidfoiemgfcaaGreatDoor


/- Walks: may a lambda term be, as the document says. -/
namespace Go.Proofs.YtagidfoiemgfcaaGreatDoor
open Go.RowKit
set_option linter.unusedSimpArgs false
set_option linter.unusedVariables false
set_option maxRecDepth 8000

end Go.Proofs.YtagidfoiemgfcaaGreatDoor

/- But for one block the world is as it was. -/
namespace Go.Proofs.YtagidfoiemgfcaaGreatDoor
open Go.RowKit
set_option linter.unusedSimpArgs false
set_option linter.unusedVariables false
set_option maxRecDepth 8000

/-- But for block B the world is as it was. -/
structure Ex (B : Nat) (w w' : World) : Prop where
  os : w'.os = w.os
  tape : w'.tape = w.tape
  output : w'.output = w.output
  size : w.heap.size ≤ w'.heap.size
  block : ∀ k, k < w.heap.size → k ≠ B → w'.heap[k]? = w.heap[k]?
theorem Ex.refl (B : Nat) (w : World) : Ex B w w := ⟨rfl, rfl, rfl, Nat.le_refl _, fun _ _ _ => rfl⟩
theorem Ex.trans {B : Nat} {a b c : World} (h : Ex B a b) (k : Ex B b c) : Ex B a c :=
  ⟨k.os.trans h.os, k.tape.trans h.tape, k.output.trans h.output, Nat.le_trans h.size k.size, fun i hi hn => (k.block i (Nat.lt_of_lt_of_le hi h.size) hn).trans (h.block i hi hn)⟩
theorem Ex.drewN {B : Nat} {a w : World} (h : Ex B a w) (n : Nat) : Ex B a (w.drewN n) := ⟨h.os, h.tape, h.output, h.size, h.block⟩
theorem Ex.drew {B : Nat} {a w : World} (h : Ex B a w) : Ex B a w.drew := ⟨h.os, h.tape, h.output, h.size, h.block⟩
theorem Ex.set {B : Nat} {a w : World} (h : Ex B a w) (i : Nat) (v : Value) : Ex B a (w.setCell ⟨B, i, none⟩ v) :=
  ⟨h.os, h.tape, h.output, by simpa [World.setCell] using h.size, fun k hk hn => (Below.heap_setCell _ _ _ _ (by simpa using hn)).trans (h.block k hk hn)⟩

theorem Ex.alloc {B : Nat} {a w : World} (h : Ex B a w) (o : Obj) : Ex B a (w.alloc o) :=
  ⟨h.os, h.tape, h.output, by have := h.size; simp; omega, fun k hk hn => (Below.heap_alloc _ _ _ (Nat.lt_of_lt_of_le hk h.size)).trans (h.block k hk hn)⟩

theorem Blk.ex {w w' : World} {B b T : Nat} {cs : Array Value} (h : Blk w b cs T) (he : Ex B w w') (hne : b ≠ B) : Blk w' b cs T := by
  unfold Blk at *
  rw [he.block b (Blk.lt h) hne]; exact h
theorem Ex.mid {B : Nat} {w w1 : World} (h : Ex B w w1) : ∃ wm, Below wm.heap.size wm w1 ∧ wm.heap.size = w.heap.size ∧ Ex B w wm := by
  by_cases hB : B < w.heap.size
  · have hB1 : B < w1.heap.size := Nat.lt_of_lt_of_le hB h.size
    refine ⟨{ w with heap := w.heap.setIfInBounds B w1.heap[B] }, ⟨h.os, h.tape, h.output, by simpa using h.size, fun k hk => ?_⟩, by simp, ⟨rfl, rfl, rfl, by simp, fun k hk hn => ?_⟩⟩
    · simp at hk
      by_cases e : k = B
      · subst e
        simp [Array.getElem?_setIfInBounds, hB, hB1]
      · rw [h.block k hk e]
        simp [Array.getElem?_setIfInBounds, Ne.symm e]
    · simp [Array.getElem?_setIfInBounds, Ne.symm hn]
  · exact ⟨w, ⟨h.os, h.tape, h.output, h.size, fun k hk => h.block k hk (by omega)⟩, rfl, Ex.refl _ _⟩

theorem Row.ex {w w' : World} {B N T : Nat} {Y : Nat → Prop} {v : Value} {l : List Tm} {xs : List Value} (h : Row w N T Y v l xs) (he : Ex B w w') (hB : B < N) (hY : ¬ Y B) : Row w' N T Y v l xs :=
  ⟨h.own.kept (w' := w') (row := some B) ⟨he.os, he.tape, he.output, he.size, fun j hj hn => he.block j hj (fun e => hn (by rw [e]))⟩ (Or.inr (fun e => by have := (h.own.lt B e).1; omega)),
   h.row.imp fun a l hs => ((hs.mono (Y := fun b => (Y b ∨ (N ≤ b ∧ some b ≠ v.ownBlock)) ∧ b < w.heap.size) fun b h1 h2 => ⟨h1, h2⟩).kept fun b hb => he.block b hb.2 (fun e => by
     rcases hb.1 with h1 | h1
     · rw [e] at h1; exact hY h1
     · omega)).mono fun b hb _ => hb.1⟩

theorem Ex.grown {B : Nat} {a w w' : World} {row : Option Nat} (h : Ex B a w) (hg : w.grownBy w' row) (hr : ∀ k, row = some k → a.heap.size ≤ k) : Ex B a w' :=
  ⟨hg.os.trans h.os, hg.tape.trans h.tape, hg.output.trans h.output, Nat.le_trans h.size hg.size, fun k hk hn => (hg.block k (Nat.lt_of_lt_of_le hk h.size) (fun e => by have := hr k e.symm; omega)).trans (h.block k hk hn)⟩
theorem Ex.setNew {B : Nat} {a w : World} (h : Ex B a w) {b : Nat} (hb : a.heap.size ≤ b) (i : Nat) (v : Value) : Ex B a (w.setCell ⟨b, i, none⟩ v) :=
  ⟨h.os, h.tape, h.output, by simpa [World.setCell] using h.size, fun k hk hn => (Below.heap_setCell _ _ _ _ (by simp; omega)).trans (h.block k hk hn)⟩

end Go.Proofs.YtagidfoiemgfcaaGreatDoor

/- What a round that appends a lambda term does. -/
namespace Go.Proofs.YtagidfoiemgfcaaGreatDoor
open Go.RowKit
set_option linter.unusedSimpArgs false
set_option linter.unusedVariables false
set_option maxRecDepth 8000

theorem Tryz.infoLam : (Tryz.prog.info? 26).map (fun i => (i.zero, i.size, i.bytes)) = some (some (.agg #[.int .i64 0, .int .i64 0, .slice none 0 0]), 3, 40) := by kernel_rfl
theorem cell_ltM {w : World} {b i : Nat} {v : Value} (h : w.cell? ⟨b, i, none⟩ = some v) : b < w.heap.size := by
  apply Classical.byContradiction
  intro hn
  have e : w.heap[b]? = none := Array.getElem?_eq_none (by omega)
  simp [World.cell?, e] at h
theorem cell_sameM {w w' : World} {b i : Nat} {v : Value} (hb : w'.heap[b]? = w.heap[b]?) (h : w.cell? ⟨b, i, none⟩ = some v) : w'.cell? ⟨b, i, none⟩ = some v := by simpa [World.cell?, hb] using h
theorem cell_lam_new (w : World) (a b c : Value) (T : Nat) : ∀ j u, ([a, b, c] : List Value)[j]? = some u → (w.alloc (.cells #[a, b, c] T)).cell? ((⟨w.heap.size, 0, none⟩ : Addr).add j) = some u := fun j u h => by
  have hb := Blk.new w #[a, b, c] T
  have h1 : (⟨w.heap.size, 0, none⟩ : Addr).add j = ⟨w.heap.size, j, none⟩ := by
    by_cases h0 : j = 0
    · subst h0; simp [Addr.add]
    · simp [Addr.add, h0]
  rw [h1, hb.cell j]
  simpa using h

/-- What is held while a knot's next term is made. -/
def LmS (B b o : Nat) (kd ix : Int) (a : Option Addr) (n c : Nat) (k1 x1 : Int) (v1 : Value) (w' : World) : Prop :=
  Blk w' B #[.int .i64 kd, .int .i64 ix, .slice a n c] 26 ∧ w'.cell? ⟨b, o, none⟩ = some (.int .i64 k1) ∧ w'.cell? ⟨b, o + 1, none⟩ = some (.int .i64 x1) ∧ w'.cell? ⟨b, o + 2, none⟩ = some v1
theorem LmS.kept {B b o n c : Nat} {kd ix k1 x1 : Int} {a : Option Addr} {v1 : Value} {wr w1 : World} (h : LmS B b o kd ix a n c k1 x1 v1 wr) (h1 : w1.heap[B]? = wr.heap[B]?) (h2 : w1.heap[b]? = wr.heap[b]?) : LmS B b o kd ix a n c k1 x1 v1 w1 :=
  ⟨h1.trans h.1, cell_sameM h2 h.2.1, cell_sameM h2 h.2.2.1, cell_sameM h2 h.2.2.2⟩
theorem LmS.below {B b o n c : Nat} {kd ix k1 x1 : Int} {a : Option Addr} {v1 : Value} {wr w1 : World} (h : LmS B b o kd ix a n c k1 x1 v1 wr) (hb : Below wr.heap.size wr w1) : LmS B b o kd ix a n c k1 x1 v1 w1 :=
  h.kept (hb.block _ h.1.lt) (hb.block _ (cell_ltM h.2.1))

/-- What is laid ahead of the rounds. -/
def LmSet (w : World) (Y : Nat → Prop) (O : Nat) (kd ix : Int) (a : Option Addr) (n c : Nat) (u : Value) (L : List Lm) (wr : World) : Prop :=
  ∃ xs, RowM wr (O + 1) 26 Y u L xs ∧ Below w.heap.size w wr ∧ Blk wr w.heap.size #[.int .i64 kd, .int .i64 ix, .slice a n c] 26 ∧ Blk wr (w.heap.size + 1) #[.int .i64 0, .int .i64 0, .slice none 0 0] 26 ∧ Blk wr O #[.int .i64 kd, .int .i64 ix, u] 26 ∧ O < wr.heap.size

/-- One more. -/
theorem lm_round {w wr w1 : World} {Y : Nat → Prop} {O n c : Nat} {u : Value} {L : List Lm} {kd ix : Int} {a a1 : Option Addr} {c1 : Nat} {t : Lm} {b o : Nat} {k1 x1 : Int} {v1 : Value} (hO : w.heap.size + 2 ≤ O) (hY : ∀ b, Y b → b < w.heap.size) (hbw : b < w.heap.size) (hset : LmSet w Y O kd ix a n c u L wr) (hS : LmS w.heap.size b o kd ix a n c k1 x1 v1 wr) (hn : L.length ≤ 1000000)
    (hb : Below wr.heap.size wr w1) (hs : SlM w1 (fun b => Y b ∨ wr.heap.size ≤ b) a1 t.subs) :
    ∃ g cap w3, (Builtin.append_ #[24, 24] 24 #[u, .slice (some ⟨w1.heap.size, 0, none⟩) 1 1]).run Tryz.prog (w1.alloc (.cells #[.int .i64 t.kind, .int .i64 t.idx, .slice a1 t.subs.length c1] 26)) = .ok (.slice (some ⟨g, 0, none⟩) (L.length + 1) cap) w3 ∧
      LmS w.heap.size b o kd ix a n c k1 x1 v1 w1 ∧ LmS w.heap.size b o kd ix a n c k1 x1 v1 (w1.alloc (.cells #[.int .i64 t.kind, .int .i64 t.idx, .slice a1 t.subs.length c1] 26)) ∧ LmS w.heap.size b o kd ix a n c k1 x1 v1 w3 ∧ w3.cell? ⟨O, 2, none⟩ = some u ∧ w3.frozen? ⟨O, 2, none⟩ = false ∧
      LmS w.heap.size b o kd ix a n c k1 x1 v1 (w3.setCell ⟨O, 2, none⟩ (.slice (some ⟨g, 0, none⟩) (L.length + 1) cap)) ∧ LmSet w Y O kd ix a n c (.slice (some ⟨g, 0, none⟩) (L.length + 1) cap) (L ++ [t]) (w3.setCell ⟨O, 2, none⟩ (.slice (some ⟨g, 0, none⟩) (L.length + 1) cap)) := by
  obtain ⟨xs, hrow, hx, hT, hR, hOb, hOl⟩ := hset
  obtain ⟨i0, hi, hz0, hz1, hz2⟩ := info_parts Tryz.infoLam
  have hlt := hrow.own.lt
  have hbs := hb.size
  have hsx := hx.size
  obtain ⟨g, cap, w3, hr, ho, hg, hat, hgl⟩ := run_append_lies (P := Tryz.prog) (w := w1.alloc (.cells #[.int .i64 t.kind, .int .i64 t.idx, .slice a1 t.subs.length c1] 26)) 24 24 (O + 1) 26 i0 _ 3 40 Tryz.underlying24 hi hz0 hz1 hz2 rfl (by decide) u L.length xs ((hrow.below hb).own.alloc _)
    ⟨w1.heap.size, 0, none⟩ 1 1 [.int .i64 t.kind, .int .i64 t.idx, .slice a1 t.subs.length c1] rfl (cell_lam_new _ _ _ _ _) (fun y hy => by simp at hy; rcases hy with rfl | rfl | rfl <;> rfl) (by decide) (by unfold maxLen; omega) (by omega) (by simp; omega) _ rfl
  have hp := hrow.push (w1 := w1) (w3 := w3) (t := t) (by omega) (fun b h => by have := hY b h; omega) hb ⟨a1, c1, rfl, hs⟩ _ rfl ho hg hat
  have hne : ∀ j, j < O + 1 → some j ≠ u.ownBlock := fun j hj e => by have := (hlt j e.symm).1; omega
  have hs3 := hg.size
  simp at hs3
  have hx3 : Below w.heap.size w w3 := ((hx.trans (hb.mono (by omega))).alloc (by omega) _).grown hg (by simp; omega) (fun k hk => by have := (hlt k hk).1; omega)
  have S1 := hS.below hb
  have S2 := S1.below ((Below.refl w1.heap.size w1).alloc (Nat.le_refl _) (.cells #[.int .i64 t.kind, .int .i64 t.idx, .slice a1 t.subs.length c1] 26))
  have S3 : LmS w.heap.size b o kd ix a n c k1 x1 v1 w3 := S2.kept (hg.block _ S2.1.lt (hne _ (by omega))) (hg.block _ (cell_ltM S2.2.1) (hne _ (by omega)))
  have hO3 := ((hOb.below hb (by omega)).alloc (.cells #[.int .i64 t.kind, .int .i64 t.idx, .slice a1 t.subs.length c1] 26)).grown hg (hne _ (by omega))
  refine ⟨g, cap, w3, hr, S1, S2, S3, hO3.cell 2, hO3.frozen 2, S3.kept (Below.heap_setCell _ _ _ _ (by simp; omega)) (Below.heap_setCell _ _ _ _ (by simp; omega)), _, hp.setCell (by omega) (fun h => by have := hY _ h; omega) _, hx3.setCell (p := ⟨O, 2, none⟩) (by simp; omega) _, ?_, ?_, ?_, by simp [World.setCell]; omega⟩
  · exact (((hT.below hb (by omega)).alloc _).grown hg (hne _ (by omega))).setOther _ _ (by omega)
  · exact (((hR.below hb (by omega)).alloc _).grown hg (hne _ (by omega))).setOther _ _ (by omega)
  · exact hO3.set 2 _
end Go.Proofs.YtagidfoiemgfcaaGreatDoor

/- Lambda terms: what is bound from outside is moved; a term is put in (plain). -/
namespace Go.Proofs.YtagidfoiemgfcaaGreatDoor
open Go.RowKit
set_option linter.unusedSimpArgs false
set_option linter.unusedVariables false
set_option maxRecDepth 8000

/-- What is bound from outside is bound by so many further on. -/
def higM (y : Int) : Int → List Lm → List Lm
  | _, [] => []
  | d, ⟨k, x, l⟩ :: r => (if k = 1 then (if x < d then ⟨k, x, l⟩ else ⟨1, x + y, []⟩) else ⟨k, x, higM y (deepK d k) l⟩) :: higM y d r
def higT (y d : Int) (t : Lm) : Lm := if t.kind = 1 then (if t.idx < d then t else ⟨1, t.idx + y, []⟩) else ⟨t.kind, t.idx, higM y (deepK d t.kind) t.subs⟩
theorem higM_map (y : Int) : ∀ (d : Int) (l : List Lm), higM y d l = l.map (higT y d)
  | _, [] => by simp [higM]
  | d, ⟨k, x, l⟩ :: r => by rw [higM, higM_map y d r]; rfl
/-- A term is put for what the nearest binder from outside binds. -/
def insM (z : Lm) : Int → List Lm → List Lm
  | _, [] => []
  | d, ⟨k, x, l⟩ :: r => (if k = 1 then (if x < d then ⟨k, x, l⟩ else if x = d then higT d 0 z else ⟨1, x - 1, []⟩) else ⟨k, x, insM z (deepK d k) l⟩) :: insM z d r
def insT (z : Lm) (d : Int) (t : Lm) : Lm := if t.kind = 1 then (if t.idx < d then t else if t.idx = d then higT d 0 z else ⟨1, t.idx - 1, []⟩) else ⟨t.kind, t.idx, insM z (deepK d t.kind) t.subs⟩
theorem insM_map (z : Lm) : ∀ (d : Int) (l : List Lm), insM z d l = l.map (insT z d)
  | _, [] => by simp [insM]
  | d, ⟨k, x, l⟩ :: r => by rw [insM, insM_map z d r]; rfl
/-- No number is great. -/
def BndM : List Lm → Prop
  | [] => True
  | ⟨_, x, l⟩ :: r => (0 ≤ x ∧ x ≤ 100000) ∧ BndM l ∧ BndM r
theorem BndM_nil : BndM [] := by simp [BndM]
theorem BndM_cons (k x : Int) (l r : List Lm) : BndM (⟨k, x, l⟩ :: r) ↔ (0 ≤ x ∧ x ≤ 100000) ∧ BndM l ∧ BndM r := by simp [BndM]
theorem BndM.at : ∀ {l : List Lm} (k : Nat) (h : k < l.length), BndM l → BndM [l[k]]
  | [], k, h, _ => by simp at h
  | ⟨s, x, l⟩ :: r, 0, h, hb => by
    rw [BndM_cons] at hb
    exact (BndM_cons s x l []).2 ⟨hb.1, hb.2.1, BndM_nil⟩
  | ⟨s, x, l⟩ :: r, k + 1, h, hb => by
    rw [BndM_cons] at hb
    have := BndM.at (l := r) k (by simpa using h) hb.2.2
    simpa using this
theorem bnd_of_err : ∀ (l : List Lm) (u m : Int), 0 ≤ u → u + sizeM l ≤ 50000 → m ≤ 50000 → errM u m l = 0 → BndM l := by
  intro l
  induction l using Lm.indL with
  | h0 => intros; exact BndM_nil
  | h k x l r ihl ihr =>
    intro u m hu hs hm he
    have e : sizeM ((⟨k, x, l⟩ : Lm) :: r) = 1 + sizeM l + sizeM r := by simp [sizeM]
    rw [e] at hs
    rw [errM] at he
    split at he
    · rename_i h1
      split at he
      · rename_i h2
        refine (BndM_cons k x l r).2 ⟨?_, ihl (deepK u k) m ?_ ?_ hm h2, ihr u m hu (by omega) hm he⟩
        · unfold knE at h1
          split at h1
          · cases h1
          · split at h1
            · cases h1
            · split at h1
              · cases h1
              · rename_i h3
                have h4 : mostK u m k ≤ 50001 := by
                  unfold mostK
                  split
                  · omega
                  · split
                    · omega
                    · split <;> omega
                omega
        · unfold deepK; split <;> omega
        · unfold deepK; split <;> omega
      · rename_i h2; exact absurd he h2
    · rename_i h1; exact absurd he h1
end Go.Proofs.YtagidfoiemgfcaaGreatDoor


/- Walks: what is bound from outside is moved, as the document says. -/
namespace Go.Proofs.YtagidfoiemgfcaaGreatDoor
open Go.RowKit
set_option linter.unusedSimpArgs false
set_option linter.unusedVariables false
set_option maxRecDepth 8000

/-- A lambda term that a call answers. -/
def LmPost (w : World) (X : Nat → Prop) (t : Lm) (e : Ending) (w' : World) : Prop :=
  ∃ a c, e = .returned (.agg #[.int .i64 t.kind, .int .i64 t.idx, .slice a t.subs.length c]) ∧ SlM w' (fun b => (X b ∧ b < w.heap.size) ∨ w.heap.size ≤ b) a t.subs ∧ Below w.heap.size w w'
theorem step_append_eqM {P : Program} {ops : Array Oper} {o : Oper} {a : Act} {K : Act → World → Prop} {Q : Exit → Act → World → Prop} {E : Prop} {w w' : World} {v u v' : Value} (hgd : o.guard = none) (s x : Operand) (t t' : TypeId)
    (ho : o.op = .call { callee := .builtin .append, args := #[s, x], argTypes := #[t, t'] }) (hs : a.eval s = v) (hx : a.eval x = u)
    (hr : (Builtin.append_ #[t, t'] o.type #[v, u]).run P w = .ok v' w') (h : K (a.put o.dst v') w') : if Region.wanted o (yielded ops a.tmps) = true then Oper.wp P o a w K Q else E := by
  have hw : Region.wanted o (yielded ops a.tmps) = true := by simp [Region.wanted, hgd]
  rw [if_pos hw]
  unfold Oper.wp execOp
  simp only [ho, resolve, invoke, builtin, Sem.run_bind, Sem.run_pure, Result.andThen_ok, List.map_toArray, List.map_cons, List.map_nil, hs, hx, hr]
  exact h

end Go.Proofs.YtagidfoiemgfcaaGreatDoor


/- Walks: the text of a lambda term, as the document writes it. -/
namespace Go.Proofs.YtagidfoiemgfcaaGreatDoor
open Go.RowKit
set_option linter.unusedSimpArgs false
set_option linter.unusedVariables false
set_option maxRecDepth 8000

theorem cell_is {w w' : World} {p : Addr} {v : Value} (h : w.cell? p = some v) (hb : Below w.heap.size w w') : w'.cell? p = some v := by
  have hlt : p.block < w.heap.size := by
    apply Classical.byContradiction
    intro hn
    have : w.cell? p = none := by
      unfold World.cell?
      rw [Array.getElem?_eq_none (by omega)]
    rw [this] at h; cases h
  rw [hb.cell hlt]; exact h
theorem str_cat (a b : List UInt8) : (⟨a.toArray⟩ : ByteArray) ++ ⟨b.toArray⟩ = ⟨(a ++ b).toArray⟩ := by
  apply ByteArray.ext
  simp

end Go.Proofs.YtagidfoiemgfcaaGreatDoor

/- Walks: the text of a lambda term, as the program writes it. -/
namespace Go.Proofs.YtagidfoiemgfcaaGreatDoor
open Go.RowKit
set_option linter.unusedSimpArgs false
set_option linter.unusedVariables false
set_option maxRecDepth 8000

/-- The library's table of powers, whatever is done from block B on. -/
def Tb (B : Nat) (w : World) : Prop := Lib.TabBelow Tryz.prog B w "internal/strconv.uint64pow10" .u64 Lib.pow10Tab
theorem Tb.on {B : Nat} {w w1 : World} (h : Tb B w) (hb : Below B w w1) : Tb B w1 := Lib.TabBelow.on h hb
theorem Wrt.lt {w : World} {B b : Nat} {fv : Value} {bs : List Value} {v : Value} (h : Wrt w B b fv bs v) : b < w.heap.size := by
  obtain ⟨_, ⟨p, _, hb⟩, _⟩ := h
  exact bd_lt hb
theorem Wrt.later {w w' : World} {B b : Nat} {fv : Value} {bs : List Value} {v : Value} (h : Wrt w B b fv bs v) (hb : Below w.heap.size w w') : Wrt w' B b fv bs v := by
  have hlt := h.lt
  obtain ⟨hB, ⟨p, hp, hbk⟩, hown⟩ := h
  exact ⟨hB, ⟨p, hp, by rw [hb.block b hlt]; exact hbk⟩, hown.kept (row := some w.heap.size) ⟨hb.os, hb.tape, hb.output, hb.size, fun k hk _ => hb.block k hk⟩ (Or.inr fun e => by have := (hown.lt _ e).2; omega)⟩
theorem Wrt.alloc {w : World} {B b : Nat} {fv : Value} {bs : List Value} {v : Value} (h : Wrt w B b fv bs v) (o : Obj) : Wrt (w.alloc o) B b fv bs v := h.later ((Below.refl _ _).alloc (Nat.le_refl _) o)
theorem Wrt.cell {w : World} {B b : Nat} {fv : Value} {bs : List Value} {v : Value} (h : Wrt w B b fv bs v) : w.cell? ⟨b, 2, none⟩ = some fv := by
  obtain ⟨_, ⟨p, _, hb⟩, _⟩ := h
  rw [Lib.cell_of_heap hb]; rfl
theorem Wrt.fr {w w' : World} {B b : Nat} {fv : Value} {bs : List Value} {v v' : Value} (h : Wrt w B b fv bs v) (hf : BFr w w' b v v') (hB : B ≤ w.heap.size) : Below B w w' := by
  obtain ⟨f1, f2, f3, f4, f5, f6⟩ := hf
  refine ⟨f1, f2, f3, f4, fun k hk => f5 k (by omega) (by have := h.1; omega) (fun e => ?_)⟩
  have := (h.2.2.lt _ e.symm).1
  omega
theorem Wrt.box {w : World} {B b : Nat} {fv : Value} {bs : List Value} {v : Value} (h : Wrt w B b fv bs v) : w.heap.size ≠ b ∧ some w.heap.size ≠ v.ownBlock := by
  refine ⟨by have := h.lt; omega, fun e => ?_⟩
  have := (h.2.2.lt _ e.symm).2; omega
/-- A block of one's own, kept where something is written. -/
theorem blk_bfr {w w' : World} {b k T : Nat} {q q' : Value} {cs : Array Value} (h : Blk w k cs T) (hf : BFr w w' b q q') (hk : k ≠ b) (hq : some k ≠ q.ownBlock) : Blk w' k cs T := by
  unfold Blk at *; rw [hf.2.2.2.2.1 k (Blk.lt h) hk hq]; exact h
theorem own_bfr {w w' : World} {b k : Nat} {q q' : Value} (hf : BFr w w' b q q') (hk : k < w.heap.size) (hq : some k ≠ q.ownBlock) : some k ≠ q'.ownBlock := fun e => by
  rcases hf.2.2.2.2.2 _ e.symm with h1 | h1
  · exact hq h1.symm
  · omega
theorem MV.bfr {w w' : World} {X : Nat → Prop} {v : Value} {t : Lm} {B : Nat} (h : MV w X v t) (hb : Below B w w') (hX : ∀ x, X x → x < B) : MV w' X v t := h.below hb (fun b hb _ => hX b hb)
theorem LV.bfr {w w' : World} {Y : Nat → Prop} {v : Value} {l : List ByteArray} {B : Nat} (h : LV Value.string w Y v l) (hb : Below B w w') (hX : ∀ x, Y x → x < B) : LV Value.string w' Y v l := h.below hb (fun b hb _ => hX b hb)
theorem bc_str (pre : List UInt8) (s : ByteArray) : Lib.byteCells pre ++ Lib.strCells s = Lib.byteCells (pre ++ s.data.toList) := by simp [Lib.byteCells, Lib.strCells]
theorem bc_one (pre : List UInt8) (c : UInt8) : Lib.byteCells pre ++ [.int .u8 c.toNat] = Lib.byteCells (pre ++ [c]) := by simp [Lib.byteCells]

theorem itoa_any (n B : Nat) (hn : n ≤ 1000000) (w : World) (hT : Tb B w) : Calls Tryz.prog 73 #[.int .i64 n] w fun e w' => e = .returned (.string ⟨(Lib.decDigits n).toArray⟩) ∧ Below w.heap.size w w' := by
  refine (Tryz.strconv_Itoa n (by omega) (by omega) w hT.here).mono ?_
  rintro e w' ⟨rfl, k, os, rfl⟩
  refine ⟨?_, Lib.below_grow _ _ (Nat.le_refl _) _ _⟩
  have : Lib.itoa (n : Int) = Lib.decDigits n := by simp [Lib.itoa]
  rw [this]

set_option maxHeartbeats 1000000 in
theorem wname_any (fr : List ByteArray) (B b : Nat) (fa : Option Addr) (fc : Nat) (bs : List Value) (v : Value) (k : Int) (w : World) (Y : Nat → Prop) (h : Wrt w B b (.slice fa fr.length fc) bs v) (hf : LV Value.string w Y (.slice fa fr.length fc) fr) (hT : Tb B w) (hk0 : -(fr.length : Int) ≤ k) (hk1 : k ≤ 1000) (hl : fr.length ≤ 1000) :
    Calls Tryz.prog 70 #[.pointer (some ⟨b, 0, none⟩), .int .i64 k] w fun e w' => e = .returned (.string ⟨(nmAt fr k).toArray⟩) ∧ Below w.heap.size w w' := by
  have hc := h.cell
  by_cases hk : k < 0
  · obtain ⟨a2, c2, e2, ⟨_, hc2⟩, h3⟩ := hf
    simp at e2
    obtain ⟨rfl, rfl⟩ := e2
    obtain ⟨m, hm⟩ : ∃ m : Nat, (m : Int) = fr.length + k := ⟨(fr.length + k).toNat, by omega⟩
    have hml : m < fr.length := by omega
    obtain ⟨bn, on, rfl, hY, hcells⟩ := h3.resolve_left (fun h => by rw [h] at hml; simp at hml)
    have hcell := hcells m hml
    have HE : Hid ((fr[m]).data.toList = nmAt fr k) := by
      unfold Hid nmAt
      rw [if_pos hk, show ((fr.length : Int) + k).toNat = m from by omega, List.getElem?_eq_getElem hml]
      rfl
    generalize nmAt fr k = R at HE ⊢
    generalize fr[m] = S at HE hcell
    have hidx : (fr.length : Int) + k = (m : Int) := by omega
    have hidx2 : (m : Int) < (fr.length : Int) := by omega
    have hlI : (fr.length : Int) ≤ 1000 := by omega
    have dc : ∀ n, (w.drewN n).cell? ⟨b, 2, none⟩ = some (.slice (some ⟨bn, on, none⟩) fr.length fc) := fun n => hc
    have dm : ∀ n, (w.drewN n).cell? ⟨bn, on + m, none⟩ = some (.string S) := fun n => hcell
    clear hcells h3 hm hml h hT
    generalize fr.length = L at *
    go_enter Tryz.func70, Tryz.ntmps70
    go_wp2_with fail
    go_quiet (fail)
    go_wp2_with fail
    go_ret
    exact ⟨ret_strL (by rw [HE.out]), below_drewN (Below.refl _ _) _⟩
  · obtain ⟨m, rfl⟩ : ∃ m : Nat, k = (m : Int) := ⟨k.toNat, by omega⟩
    have HE : Hid (120 :: Lib.decDigits m = nmAt fr (m : Int)) := by unfold Hid nmAt; rw [if_neg hk]; simp
    generalize nmAt fr (m : Int) = R at HE ⊢
    have hdl : (Lib.decDigits m).length ≤ 1001 := by have := dec_len m; omega
    have HT := hide hT
    clear h hf hT
    go_enter Tryz.func70, Tryz.ntmps70
    go_wp2_with fail
    refine (itoa_any m B (by omega) _ HT.out).mono ?_
    rintro e w1 ⟨rfl, hb1⟩
    have HB1 := hide hb1
    clear hb1
    go_wp2_with fail
    go_ret
    exact ⟨ret_strL (by rw [← HE.out]; simp), HB1.out⟩

/-- What writing one lambda term does. -/
def WT (fr : List ByteArray) (t : Lm) : Prop := ∀ (d : Nat) (v q0 : Value) (pre : List UInt8) (B b : Nat) (fa : Option Addr) (fc : Nat) (w : World) (X Y : Nat → Prop), errM (fr.length + d) 0 [t] = 0 → d + sizeM [t] ≤ 500 → MV w X v t → (∀ x, X x → x < B) → LV Value.string w Y (.slice fa fr.length fc) fr → (∀ x, Y x → x < B) →
    Wrt w B b (.slice fa fr.length fc) (Lib.byteCells pre) q0 → B ≤ w.heap.size → Tb B w → pre.length + (ltx fr d t).length ≤ 900000000 →
    Calls Tryz.prog 55 #[.pointer (some ⟨b, 0, none⟩), v, .int .i64 d] w fun e w' => e = .returned (.tuple #[]) ∧ ∃ q, Wrt w' B b (.slice fa fr.length fc) (Lib.byteCells (pre ++ ltx fr d t)) q ∧ BFr w w' b q0 q

set_option maxHeartbeats 2000000 in
theorem wpiece_any (fr : List ByteArray) (t : Lm) (hwt : WT fr t) (br : Bool) : ∀ (d : Nat) (v q0 : Value) (pre : List UInt8) (B b : Nat) (fa : Option Addr) (fc : Nat) (w : World) (X Y : Nat → Prop), errM (fr.length + d) 0 [t] = 0 → d + sizeM [t] ≤ 500 → MV w X v t → (∀ x, X x → x < B) → LV Value.string w Y (.slice fa fr.length fc) fr → (∀ x, Y x → x < B) →
    Wrt w B b (.slice fa fr.length fc) (Lib.byteCells pre) q0 → B ≤ w.heap.size → Tb B w → pre.length + (brk br (ltx fr d t)).length ≤ 900000000 →
    Calls Tryz.prog 72 #[.pointer (some ⟨b, 0, none⟩), v, .int .i64 d, .bool br] w fun e w' => e = .returned (.tuple #[]) ∧ ∃ q, Wrt w' B b (.slice fa fr.length fc) (Lib.byteCells (pre ++ brk br (ltx fr d t))) q ∧ BFr w w' b q0 q := by
  intro d v q0 pre B b fa fc w X Y he hd hv hX hn hY hw hB hT hlen
  have HWT := hide hwt
  clear hwt
  obtain ⟨a, c, rfl, hs⟩ := hv
  have hv : MV w X (.agg #[.int .i64 t.kind, .int .i64 t.idx, .slice a t.subs.length c]) t := ⟨a, c, rfl, hs⟩
  have HV := hide hv
  have HN := hide hn
  have HT := hide hT
  have hbox := hw.box
  have K0 := hide (Blk.new w #[.int .i64 t.kind, .int .i64 t.idx, .slice a t.subs.length c] 26)
  have HB0 : Hid (Below w.heap.size w (w.alloc (.cells #[.int .i64 t.kind, .int .i64 t.idx, .slice a t.subs.length c] 26))) := (Below.refl _ _).alloc (Nat.le_refl _) _
  have HW0 := hide (hw.alloc (.cells #[.int .i64 t.kind, .int .i64 t.idx, .slice a t.subs.length c] 26))
  have HF0 := hide (BFr.of_below HB0.out b q0)
  clear hv hs hn hT hw
  have t0 : ∀ (w' : World), Blk w' w.heap.size #[.int .i64 t.kind, .int .i64 t.idx, .slice a t.subs.length c] 26 → w'.cell? ⟨w.heap.size, 0, none⟩ = some (.int .i64 t.kind) ∧ w'.cell? ⟨w.heap.size, 1, none⟩ = some (.int .i64 t.idx) ∧ w'.cell? ⟨w.heap.size, 2, none⟩ = some (.slice a t.subs.length c) := fun w' h => ⟨h.cell 0, h.cell 1, h.cell 2⟩
  have T0 := hide t0
  clear t0
  cases br with
  | false =>
    have HE : Hid (brk false (ltx fr d t) = ltx fr d t) := by unfold Hid brk; simp
    rw [HE.out] at hlen
    generalize brk false (ltx fr d t) = R at HE ⊢
    obtain ⟨k0, k1, k2⟩ := T0.out _ K0.out
    go_enter Tryz.func72, Tryz.ntmps72
    go_wp2_with fail
    refine (HWT.out d _ q0 pre B b fa fc _ X Y he hd (by exact HV.out.later HB0.out) hX (by exact HN.out.later HB0.out) hY (by exact HW0.out) (by simp; omega) (HT.out.on (HB0.out.mono hB)) hlen).mono ?_
    rintro e w1 ⟨rfl, q1, hw1, hf1⟩
    have HW1 := hide hw1
    have HF1 := hide (HF0.out.trans hf1)
    clear hw1 hf1
    go_wp2_with fail
    refine bodyPost_ret (v := .tuple #[]) (by simp [results, Tryz.results72, go_sem]) rfl ?_
    exact ⟨rfl, q1, by rw [HE.out]; exact HW1.out, HF1.out⟩
  | true =>
    have HE : Hid (brk true (ltx fr d t) = 40 :: (ltx fr d t ++ [41])) := by unfold Hid brk; simp
    rw [HE.out] at hlen
    simp only [List.length_cons, List.length_append, List.length_nil] at hlen
    generalize brk true (ltx fr d t) = R at HE ⊢
    go_enter Tryz.func72, Tryz.ntmps72
    go_wp2_with fail
    refine (writeByteW_any B b _ _ q0 40 _ (by exact HW0.out) (by rw [Lib.byteCells_length]; omega) (by simp; omega)).mono ?_
    rintro e w1 ⟨rfl, q1, hw1, hf1⟩
    have HW1 : Hid (Wrt w1 B b (.slice fa fr.length fc) (Lib.byteCells (pre ++ [40])) q1) := by unfold Hid; rw [← bc_one]; exact hw1
    have HB1 := hide ((HB0.out.mono hB).trans (HW0.out.fr hf1 (by simp; omega)))
    have K1 := hide (blk_bfr K0.out hf1 hbox.1 hbox.2)
    have ho1 := own_bfr hf1 K0.out.lt hbox.2
    have HF1 := hide (HF0.out.trans hf1)
    have hs1 := HB1.out.size
    clear hw1 hf1
    obtain ⟨k0, k1, k2⟩ := T0.out _ K1.out
    go_wp2_with fail
    refine (HWT.out d _ q1 (pre ++ [40]) B b fa fc _ X Y he hd (by exact HV.out.bfr HB1.out hX) hX (by exact HN.out.bfr HB1.out hY) hY (by exact HW1.out) (by omega) (HT.out.on HB1.out) (by simp; omega)).mono ?_
    rintro e w2 ⟨rfl, q2, hw2, hf2⟩
    have HW2 := hide hw2
    have HF2 := hide (HF1.out.trans hf2)
    have hs2 := (HW1.out.fr hf2 (by omega)).size
    clear hw2 hf2 k0 k1 k2
    go_wp2_with fail
    refine (writeByteW_any B b _ _ q2 41 _ (by exact HW2.out) (by rw [Lib.byteCells_length]; simp; omega) (by omega)).mono ?_
    rintro e w3 ⟨rfl, q3, hw3, hf3⟩
    have HW3 : Hid (Wrt w3 B b (.slice fa fr.length fc) (Lib.byteCells (pre ++ [40] ++ ltx fr d t ++ [41])) q3) := by unfold Hid; rw [← bc_one]; exact hw3
    have HF3 := hide (HF2.out.trans hf3)
    clear hw3 hf3
    go_wp2_with fail
    go_end0
    exact ⟨rfl, q3, by rw [HE.out]; simpa using HW3.out, HF3.out⟩
end Go.Proofs.YtagidfoiemgfcaaGreatDoor

/- A stub. -/

/- Walks: which names are constants'. -/
namespace Go.Proofs.YtagidfoiemgfcaaGreatDoor
open Go.RowKit
set_option linter.unusedSimpArgs false
set_option linter.unusedVariables false
set_option maxRecDepth 8000

def dec2 (k : Nat) : List UInt8 := if k < 10 then [UInt8.ofNat (48 + k)] else [UInt8.ofNat (48 + k / 10), UInt8.ofNat (48 + k % 10)]
theorem dec2_is {k : Nat} (h : k < 100) : Lib.decDigits k = dec2 k := by
  unfold dec2
  by_cases h1 : k < 10
  · rw [if_pos h1, dec_small h1]
  · rw [if_neg h1, dec_great h1, dec_small (n := k / 10) (by omega), dec_small (n := k % 10) (by omega)]
    rfl
theorem atoi_dec2 : ∀ k, k < 40 → Lib.atoi (dec2 k) = some (k : Int) := by decide
theorem dec2_inj : ∀ k, k < 40 → ∀ j, j < 40 → dec2 k = dec2 j → k = j := by decide

theorem conN_some {n : ByteArray} {k : Nat} (h : conN n = some k) : k < 40 ∧ n.data.toList = 99 :: Lib.decDigits k := by
  unfold conN at h
  have h1 := List.find?_some h
  have h2 := List.mem_of_find?_eq_some h
  exact ⟨by simpa using h2, by simpa using h1⟩
theorem conN_is {n : ByteArray} {k : Nat} (hk : k < 40) (h : n.data.toList = 99 :: Lib.decDigits k) : conN n = some k := by
  cases hc : conN n with
  | none =>
    unfold conN at hc
    rw [List.find?_eq_none] at hc
    exact absurd h (by simpa using hc k (by simpa using hk))
  | some j =>
    obtain ⟨h1, h2⟩ := conN_some hc
    rw [h2] at h
    simp only [List.cons.injEq, true_and] at h
    rw [dec2_is (by omega), dec2_is (by omega)] at h
    rw [dec2_inj j h1 k hk h]

/-- What the library tells of a name that is no number behind its first sign: an error that is there. -/
def Tse (B : Nat) (w : World) : Prop := ∃ tp p, ∀ w', Below B w w' → w'.var? Tryz.prog "strconv.ErrSyntax" = some #[.iface tp p]
theorem Tse.on {B : Nat} {w w1 : World} (h : Tse B w) (hb : Below B w w1) : Tse B w1 := by
  obtain ⟨tp, p, h⟩ := h
  exact ⟨tp, p, fun w' h' => h w' (hb.trans h')⟩
theorem Tse.raise {B B' : Nat} {w w' : World} (h : Tse B w) (hb : Below B w w') (hle : B ≤ B') : Tse B' w' := by
  obtain ⟨tp, p, h⟩ := h
  exact ⟨tp, p, fun w'' h2 => h w'' (hb.trans (h2.mono hle))⟩

theorem name_sz {s : ByteArray} (h : nameB s = true) : 1 ≤ s.size ∧ s.size ≤ 8 := by
  simp [nameB] at h
  omega
theorem tail_list (s : ByteArray) (h : 1 ≤ s.size) : ∃ c, s.data.toList = c :: (s.extract 1 s.size).data.toList := by
  have h1 : (s.extract 1 s.size).data.toList = s.data.toList.drop 1 := by
    rw [ByteArray.data_extract, Array.toList_extract]
    simp [List.extract]
    have : s.data.size = s.size := rfl
    rw [List.take_of_length_le (by simp)]
  rw [h1]
  cases hl : s.data.toList with
  | nil =>
    have : s.data.toList.length = s.size := by rw [Array.length_toList]; rfl
    rw [hl] at this; simp at this; omega
  | cons c r => exact ⟨c, by simp⟩

theorem con_tail {s : ByteArray} {c0 : UInt8} {k : Nat} (hc0 : s.data.toList = c0 :: (s.extract 1 s.size).data.toList) (h : conN s = some k) : Lib.atoi (s.extract 1 s.size).data.toList = some (k : Int) := by
  obtain ⟨h1, h2⟩ := conN_some h
  rw [hc0] at h2
  simp only [List.cons.injEq] at h2
  rw [h2.2, dec2_is (by omega)]
  exact atoi_dec2 k h1
theorem neg_name {s : ByteArray} (hn : nameB s = true) {r : List UInt8} (h : s.data.toList = 99 :: 45 :: r) : False := by
  have hz := name_sz hn
  have hl : s.size = s.data.toList.length := by rw [Array.length_toList]; rfl
  rw [h] at hl
  simp at hl
  have h1 : byteAt s 1 = 45 := by
    unfold byteAt
    rw [dif_pos (by omega)]
    have h2 : s[1]'(by omega) = 45 := by
      have h3 : s.data.toList[1]? = some 45 := by rw [h]; rfl
      rw [Array.getElem?_toList] at h3
      exact (Array.getElem?_eq_some_iff.1 h3).2
    rw [h2]; rfl
  simp [nameB] at hn
  have h4 := hn.2
  unfold alnTo at h4
  rw [List.all_eq_true] at h4
  have h5 := h4 1 (by simp; omega)
  rw [h1] at h5
  revert h5
  decide

set_option maxHeartbeats 1000000 in
theorem constant_any (s : ByteArray) (hn : nameB s = true) (B : Nat) (w : World) (hT : Tb B w) (hS : Tse B w) (hB : B ≤ w.heap.size) :
    Calls Tryz.prog 83 #[.string s] w fun e w' => (∃ n : Int, e = .returned (.tuple #[.int .i64 n, .bool (conN s).isSome]) ∧ ∀ k, conN s = some k → n = k) ∧ Below w.heap.size w w' := by
  have hz := name_sz hn
  obtain ⟨c0, hc0⟩ := tail_list s hz.1
  have hez : (s.extract 1 s.size).size ≤ 18 := by rw [ByteArray.size_extract]; omega
  have HT := hide hT
  have HS := hide hS
  have hsz : (1 : Int) ≤ (s.size : Int) := by omega
  go_enter Tryz.func83, Tryz.ntmps83
  go_wp2_with fail
  cases ha : Lib.atoi (s.extract 1 s.size).data.toList with
  | none =>
    have HC : Hid (conN s = none) := by
      cases hc : conN s with
      | none => rfl
      | some k => rw [con_tail hc0 hc] at ha; cases ha
    obtain ⟨tp, p, hvar⟩ := HS.out
    refine (Tryz.strconv_Atoi_err_var _ hez ha tp p _ (hvar _ (Below.refl _ _))).mono ?_
    rintro e w1 ⟨N, rfl, hN, hNb, hb1⟩
    have HB1 := hide hb1
    clear hb1 hNb hvar
    go_wp2_with fail
    go_ret2
    exact ⟨⟨0, by rw [HC.out]; rfl, fun k hk => by rw [HC.out] at hk; cases hk⟩, HB1.out⟩
  | some n =>
    have hbd := Lib.atoi_bound ha (by have : (s.extract 1 s.size).data.toList.length = (s.extract 1 s.size).size := by rw [Array.length_toList]; rfl
                                      omega)
    refine (Tryz.strconv_Atoi _ n hez ha _).mono ?_
    rintro e w1 ⟨rfl, t, hw1⟩
    have HB1 : Hid (Below w.heap.size w w1) := by unfold Hid; rw [hw1]; exact Lib.bytesWorld_below _ _ _
    clear hw1
    have HA := hide ha
    clear ha
    by_cases h40 : n < 40
    · have hit : (Lib.itoa n).length ≤ 1000 := by
        have := Lib.itoa_length_le n (by omega) (by omega)
        omega
      go_wp2_with fail
      refine (Tryz.strconv_Itoa n (by omega) (by omega) _ (HT.out.on (HB1.out.mono hB)).here).mono ?_
      rintro e w2 ⟨rfl, k2, os2, hw2⟩
      have HB2 : Hid (Below w.heap.size w w2) := by unfold Hid; rw [hw2]; exact HB1.out.trans (Lib.below_grow _ _ HB1.out.size _ _)
      clear hw2
      have hcat : (⟨#[99]⟩ : ByteArray) ++ ⟨(Lib.itoa n).toArray⟩ = ⟨(99 :: Lib.itoa n).toArray⟩ := str_cat [99] (Lib.itoa n)
      have HCE : Hid ((s.toList == 99 :: Lib.itoa n) = (conN s).isSome ∧ ∀ k, conN s = some k → n = k) := by
        refine ⟨?_, fun k hk => ?_⟩
        · rw [Bool.eq_iff_iff]
          constructor
          · intro h
            have h1 : s.toList = 99 :: Lib.itoa n := by simpa using h
            have h2 : s.data.toList = 99 :: Lib.itoa n := by rw [← ByteArray.toList_eq]; exact h1
            by_cases hneg : n < 0
            · rw [Lib.itoa, if_pos hneg] at h2
              exact (neg_name hn h2).elim
            · rw [Lib.itoa, if_neg hneg] at h2
              rw [conN_is (k := n.toNat) (by omega) h2]; rfl
          · intro h
            obtain ⟨k, hk⟩ := Option.isSome_iff_exists.1 h
            have h1 := con_tail hc0 hk
            rw [HA.out] at h1
            obtain ⟨h2, h3⟩ := conN_some hk
            have h4 : n = (k : Int) := Option.some.inj h1
            have h5 : s.toList = 99 :: Lib.itoa n := by rw [ByteArray.toList_eq, h3, h4]; simp [Lib.itoa]
            simpa using h5
        · have h1 := con_tail hc0 hk
          rw [HA.out] at h1
          exact Option.some.inj h1
      clear hc0
      go_wp2_with fail
      go_ret2
      exact ⟨⟨n, by rw [← HCE.out.1]; rfl, HCE.out.2⟩, HB2.out⟩
    · have HC : Hid (conN s = none) := by
        cases hc : conN s with
        | none => rfl
        | some k =>
          have h1 := con_tail hc0 hc
          rw [HA.out] at h1
          have h4 : n = (k : Int) := Option.some.inj h1
          have := (conN_some hc).1
          omega
      go_wp2_with fail
      go_ret2
      exact ⟨⟨n, by rw [HC.out]; rfl, fun k hk => by rw [HC.out] at hk; cases hk⟩, HB1.out⟩
end Go.Proofs.YtagidfoiemgfcaaGreatDoor


/- Walks: what stands at a place. -/
namespace Go.Proofs.YtagidfoiemgfcaaGreatDoor
open Go.RowKit
set_option linter.unusedSimpArgs false
set_option linter.unusedVariables false

/-- A list of numbers in memory. -/
def PV (w : World) (X : Nat → Prop) (v : Value) (zs : List Int) : Prop :=
  ∃ a c, v = .slice a zs.length c ∧ (zs.length ≤ 9223372036854775807 ∧ zs.length ≤ c) ∧ (zs = [] ∨ ∃ b o, a = some ⟨b, o, none⟩ ∧ X b ∧ ∀ i (h : i < zs.length), w.cell? ⟨b, o + i, none⟩ = some (.int .i64 zs[i]))

theorem PV.kept {w w' : World} {X : Nat → Prop} {v : Value} {zs : List Int} (h : PV w X v zs) (hk : ∀ b, X b → w'.heap[b]? = w.heap[b]?) : PV w' X v zs := by
  obtain ⟨a, c, e, hl, h⟩ := h
  refine ⟨a, c, e, hl, ?_⟩
  rcases h with h | ⟨b, o, e, hx, h⟩
  · exact Or.inl h
  · exact Or.inr ⟨b, o, e, hx, fun i hi => by rw [World.cell?_of_block (hk b hx)]; exact h i hi⟩

theorem PV.mono {w : World} {X Y : Nat → Prop} {v : Value} {zs : List Int} (h : PV w X v zs) (hk : ∀ b, X b → b < w.heap.size → Y b) : PV w Y v zs := by
  obtain ⟨a, c, e, hl, h⟩ := h
  refine ⟨a, c, e, hl, ?_⟩
  rcases h with h | ⟨b, o, e, hx, h⟩
  · exact Or.inl h
  · by_cases h0 : zs = []
    · exact Or.inl h0
    · have hp : 0 < zs.length := List.length_pos_iff.2 h0
      exact Or.inr ⟨b, o, e, hk b hx (World.block_lt_of_cell? w _ (h 0 hp)), h⟩

theorem PV.below {w w' : World} {X : Nat → Prop} {v : Value} {zs : List Int} {B : Nat} (h : PV w X v zs) (hb : Below B w w') (hX : ∀ b, X b → b < w.heap.size → b < B) : PV w' X v zs := by
  have h1 : PV w (fun b => X b ∧ b < B) v zs := h.mono fun b hx hs => ⟨hx, hX b hx hs⟩
  have h2 : PV w' (fun b => X b ∧ b < B) v zs := h1.kept fun b hx => hb.block b hx.2
  exact h2.mono fun b hx _ => hx.1

theorem PV.later {w w' : World} {X : Nat → Prop} {v : Value} {zs : List Int} (h : PV w X v zs) (hb : Below w.heap.size w w') : PV w' X v zs := h.below hb (fun _ _ h => h)
theorem PV.alloc {w : World} {X : Nat → Prop} {v : Value} {zs : List Int} (h : PV w X v zs) (o : Obj) : PV (w.alloc o) X v zs := h.later ((Below.refl _ _).alloc (Nat.le_refl _) o)

end Go.Proofs.YtagidfoiemgfcaaGreatDoor

/- The places of a term, and rows of lists of numbers. -/
namespace Go.Proofs.YtagidfoiemgfcaaGreatDoor
open Go.RowKit
set_option linter.unusedSimpArgs false
set_option linter.unusedVariables false

/-- These cells are these lists. -/
def RowP (w : World) (Z : Nat → Prop) : List (List Int) → List Value → Prop
  | [], xs => xs = []
  | z :: r, xs => ∃ u xs', xs = u :: xs' ∧ PV w Z u z ∧ RowP w Z r xs'

theorem RowP.len {w : World} {Z : Nat → Prop} : ∀ {l : List (List Int)} {xs : List Value}, RowP w Z l xs → xs.length = l.length
  | [], xs, h => by simp [RowP] at h; simp [h]
  | z :: l, xs, h => by obtain ⟨u, xs', rfl, _, h⟩ := h; simp [RowP.len h]
theorem RowP.append {w : World} {Z : Nat → Prop} : ∀ {l k : List (List Int)} {xs ys : List Value}, RowP w Z l xs → RowP w Z k ys → RowP w Z (l ++ k) (xs ++ ys)
  | [], k, xs, ys, h, h' => by simp [RowP] at h; subst h; simpa using h'
  | z :: l, k, xs, ys, h, h' => by obtain ⟨u, xs', rfl, hp, h⟩ := h; exact ⟨u, xs' ++ ys, rfl, hp, RowP.append h h'⟩
theorem RowP.imp {w w' : World} {Z Z' : Nat → Prop} (hs : ∀ u z, PV w Z u z → PV w' Z' u z) : ∀ {l : List (List Int)} {xs : List Value}, RowP w Z l xs → RowP w' Z' l xs
  | [], xs, h => h
  | z :: l, xs, h => by obtain ⟨u, xs', e, hp, h⟩ := h; exact ⟨u, xs', e, hs _ _ hp, RowP.imp hs h⟩
theorem RowP.get {w : World} {Z : Nat → Prop} : ∀ {l : List (List Int)} {xs : List Value}, RowP w Z l xs → ∀ i (h : i < l.length), ∃ u, xs[i]? = some u ∧ PV w Z u l[i]
  | [], xs, h, i, hi => by simp at hi
  | z :: l, xs, h, i, hi => by
    obtain ⟨u, xs', rfl, hp, h⟩ := h
    cases i with
    | zero => exact ⟨u, rfl, hp⟩
    | succ i => obtain ⟨u', h1, h2⟩ := RowP.get h i (by simpa using hi); exact ⟨u', by simpa using h1, h2⟩
theorem PV.one {w : World} {Z : Nat → Prop} {u : Value} {z : List Int} (h : PV w Z u z) : u.oneCell' = true := by obtain ⟨a, c, rfl, _⟩ := h; rfl

end Go.Proofs.YtagidfoiemgfcaaGreatDoor


/- Walks: the places of a term, as the document says. -/
namespace Go.Proofs.YtagidfoiemgfcaaGreatDoor
open Go.RowKit
set_option linter.unusedSimpArgs false
set_option linter.unusedVariables false

/-- A row of lists that is added to, and what stays where it was. -/
def OutAt (w0 : World) (N : Nat) (q0 : Value) (ps : List (List Int)) (q : Value) (xs : List Value) (wr : World) : Prop :=
  wr.ownsRow N 22 1 q ps.length xs ∧ RowP wr (fun b => N ≤ b ∧ some b ≠ q.ownBlock) ps xs ∧ w0.grownBy wr q0.ownBlock ∧ (∀ k, q.ownBlock = some k → q0.ownBlock = some k ∨ w0.heap.size ≤ k)

theorem PV.grownBy {w w' : World} {Z : Nat → Prop} {u : Value} {z : List Int} {r : Option Nat} (h : PV w Z u z) (hg : w.grownBy w' r) (hZ : ∀ b, Z b → some b ≠ r) : PV w' Z u z := by
  have h1 : PV w (fun b => Z b ∧ b < w.heap.size) u z := h.mono fun b h1 h2 => ⟨h1, h2⟩
  have h2 : PV w' (fun b => Z b ∧ b < w.heap.size) u z := h1.kept fun b hx => hg.block b hx.2 (hZ b hx.1)
  exact h2.mono fun b hx _ => hx.1

theorem OutAt.mono {w0 w1 wr : World} {N : Nat} {q0 q1 q : Value} {ps ps1 : List (List Int)} {xs xs1 : List Value} (h : OutAt w0 N q0 ps1 q1 xs1 w1) (h1 : OutAt w1 N q1 ps q xs wr) : OutAt w0 N q0 ps q xs wr := by
  refine ⟨h1.1, h1.2.1, grown_trans h.2.2.1 h1.2.2.1 h.2.2.2, fun k hk => ?_⟩
  rcases h1.2.2.2 k hk with e | e
  · exact h.2.2.2 k e
  · exact Or.inr (Nat.le_trans h.2.2.1.size e)

theorem OutAt.later {w0 w1 w2 : World} {N : Nat} {q0 q : Value} {ps : List (List Int)} {xs : List Value} (h : OutAt w0 N q0 ps q xs w1) (hb : Below w1.heap.size w1 w2) : OutAt w0 N q0 ps q xs w2 :=
  ⟨h.1.kept (w' := w2) (row := none) ⟨hb.os, hb.tape, hb.output, hb.size, fun j hj _ => hb.block j hj⟩ (by rcases Option.eq_none_or_eq_some (Value.ownBlock q) with h | ⟨x, h⟩; exact Or.inl h; exact Or.inr (by rw [h]; simp)),
   h.2.1.imp fun u z hp => hp.later hb, grown_trans h.2.2.1 (grown_of_below hb q.ownBlock) h.2.2.2, h.2.2.2⟩

theorem OutAt.here {w1 : World} {N : Nat} {q0 q : Value} {ps : List (List Int)} {xs : List Value} {w0 : World} (h : OutAt w0 N q0 ps q xs w1) : OutAt w1 N q ps q xs w1 := ⟨h.1, h.2.1, grown_of_below (Below.refl _ _) _, fun _ h => Or.inl h⟩

end Go.Proofs.YtagidfoiemgfcaaGreatDoor

/- A range over a function whose rounds all go on: own laws. -/
namespace Go.Proofs.YtagidfoiemgfcaaGreatDoor
open Go.RowKit Go.Shelf
set_option linter.unusedSimpArgs false
set_option linter.unusedVariables false
set_option maxRecDepth 8000

end Go.Proofs.YtagidfoiemgfcaaGreatDoor

/- Bindings in memory. -/
namespace Go.Proofs.YtagidfoiemgfcaaGreatDoor
open Go.RowKit
set_option linter.unusedSimpArgs false
set_option linter.unusedVariables false

/-- A variable and what stands for it. -/
structure Bd where
  nm : ByteArray
  t : Tm

/-- A list of bindings in memory. -/
def BV (w : World) (X : Nat → Prop) (v : Value) (l : List Bd) : Prop :=
  ∃ a c, v = .slice a l.length c ∧ (l.length ≤ 9223372036854775807 ∧ l.length ≤ c) ∧ (l = [] ∨ ∃ b o, a = some ⟨b, o, none⟩ ∧ X b ∧ ∀ i (h : i < l.length), w.cell? ⟨b, o + i * 3, none⟩ = some (.string l[i].nm) ∧ w.cell? ⟨b, o + i * 3 + 1, none⟩ = some (.string l[i].t.name) ∧ ∃ a' c', w.cell? ⟨b, o + i * 3 + 2, none⟩ = some (.slice a' l[i].t.args.length c') ∧ Sl w X a' l[i].t.args)

theorem BV.kept {w w' : World} {X : Nat → Prop} {v : Value} {l : List Bd} (h : BV w X v l) (hk : ∀ b, X b → w'.heap[b]? = w.heap[b]?) : BV w' X v l := by
  obtain ⟨a, c, e, hl, h⟩ := h
  refine ⟨a, c, e, hl, ?_⟩
  rcases h with h | ⟨b, o, ea, hX, h⟩
  · exact Or.inl h
  · refine Or.inr ⟨b, o, ea, hX, fun i hi => ?_⟩
    obtain ⟨h1, h2, a', c', h3, h4⟩ := h i hi
    have hb := hk b hX
    exact ⟨by simpa [World.cell?, hb] using h1, by simpa [World.cell?, hb] using h2, a', c', by simpa [World.cell?, hb] using h3, h4.kept hk⟩
theorem cell_lt {w : World} {b o : Nat} {v : Value} (h : w.cell? ⟨b, o, none⟩ = some v) : b < w.heap.size := by
  rcases Nat.lt_or_ge b w.heap.size with h' | h'
  · exact h'
  · simp [World.cell?, Array.getElem?_eq_none h'] at h
theorem BV.mono {w : World} {X Y : Nat → Prop} {v : Value} {l : List Bd} (h : BV w X v l) (hk : ∀ b, X b → b < w.heap.size → Y b) : BV w Y v l := by
  obtain ⟨a, c, e, hl, h⟩ := h
  refine ⟨a, c, e, hl, ?_⟩
  rcases h with h | ⟨b, o, ea, hX, h⟩
  · exact Or.inl h
  · by_cases h0 : l = []
    · exact Or.inl h0
    · have hp : 0 < l.length := List.length_pos_iff.2 h0
      refine Or.inr ⟨b, o, ea, hk b hX (cell_lt (h 0 hp).1), fun i hi => ?_⟩
      obtain ⟨h1, h2, a', c', h3, h4⟩ := h i hi
      exact ⟨h1, h2, a', c', h3, h4.mono hk⟩
theorem BV.later {w w' : World} {X : Nat → Prop} {v : Value} {l : List Bd} (h : BV w X v l) (hb : Below w.heap.size w w') : BV w' X v l :=
  ((h.mono (Y := fun b => X b ∧ b < w.heap.size) fun b h1 h2 => ⟨h1, h2⟩).kept fun b hx => hb.block b hx.2).mono fun b hx _ => hx.1
theorem BV.alloc {w : World} {X : Nat → Prop} {v : Value} {l : List Bd} (h : BV w X v l) (o : Obj) : BV (w.alloc o) X v l := h.later ((Below.refl _ _).alloc (Nat.le_refl _) o)
theorem BV.get {w : World} {X : Nat → Prop} {a : Option Addr} {n c : Nat} {l : List Bd} (h : BV w X (.slice a n c) l) (i : Nat) (hi : i < l.length) :
    ∃ b o a' c', a = some ⟨b, o, none⟩ ∧ w.cell? ⟨b, o + i * 3, none⟩ = some (.string l[i].nm) ∧ w.cell? ⟨b, o + i * 3 + 1, none⟩ = some (.string l[i].t.name) ∧ w.cell? ⟨b, o + i * 3 + 2, none⟩ = some (.slice a' l[i].t.args.length c') ∧ Sl w X a' l[i].t.args := by
  obtain ⟨a2, c2, e, hl, h⟩ := h
  simp at e
  obtain ⟨rfl, rfl, rfl⟩ := e
  rcases h with h | ⟨b, o, ea, hX, h⟩
  · subst h; simp at hi
  · obtain ⟨h1, h2, a', c', h3, h4⟩ := h i hi
    exact ⟨b, o, a', c', ea, h1, h2, h3, h4⟩

end Go.Proofs.YtagidfoiemgfcaaGreatDoor


/- Rows of bindings that a call makes. -/
namespace Go.Proofs.YtagidfoiemgfcaaGreatDoor
open Go.RowKit
set_option linter.unusedSimpArgs false
set_option linter.unusedVariables false

/-- A binding, and where those below its term's first knot lie. -/
abbrev Bc := Bd × Option Addr × Nat
instance : Inhabited Bc := ⟨(⟨⟨#[]⟩, ⟨⟨#[]⟩, []⟩⟩, none, 0)⟩
end Go.Proofs.YtagidfoiemgfcaaGreatDoor


/- But for some blocks the world is as it was. -/
namespace Go.Proofs.YtagidfoiemgfcaaGreatDoor
open Go.RowKit
set_option linter.unusedSimpArgs false
set_option linter.unusedVariables false
set_option maxRecDepth 8000

/-- But for the blocks that Q names the world is as it was. -/
structure ExQ (Q : Nat → Prop) (w w' : World) : Prop where
  os : w'.os = w.os
  tape : w'.tape = w.tape
  output : w'.output = w.output
  size : w.heap.size ≤ w'.heap.size
  block : ∀ k, k < w.heap.size → ¬ Q k → w'.heap[k]? = w.heap[k]?
theorem ExQ.refl (Q : Nat → Prop) (w : World) : ExQ Q w w := ⟨rfl, rfl, rfl, Nat.le_refl _, fun _ _ _ => rfl⟩
theorem ExQ.trans {Q : Nat → Prop} {a b c : World} (h : ExQ Q a b) (k : ExQ Q b c) : ExQ Q a c :=
  ⟨k.os.trans h.os, k.tape.trans h.tape, k.output.trans h.output, Nat.le_trans h.size k.size, fun i hi hn => (k.block i (Nat.lt_of_lt_of_le hi h.size) hn).trans (h.block i hi hn)⟩
/-- One behind the other, the second naming blocks that the first world had not. -/
theorem ExQ.transN {Q R : Nat → Prop} {a b c : World} (h : ExQ Q a b) (k : ExQ R b c) (hR : ∀ i, R i → i < a.heap.size → Q i) : ExQ Q a c :=
  ⟨k.os.trans h.os, k.tape.trans h.tape, k.output.trans h.output, Nat.le_trans h.size k.size, fun i hi hn => (k.block i (Nat.lt_of_lt_of_le hi h.size) (fun hr => hn (hR i hr hi))).trans (h.block i hi hn)⟩
theorem ExQ.mono {Q R : Nat → Prop} {a b : World} (h : ExQ Q a b) (hR : ∀ i, Q i → i < a.heap.size → R i) : ExQ R a b := ⟨h.os, h.tape, h.output, h.size, fun i hi hn => h.block i hi (fun hq => hn (hR i hq hi))⟩
theorem ExQ.drewN {Q : Nat → Prop} {a w : World} (h : ExQ Q a w) (n : Nat) : ExQ Q a (w.drewN n) := ⟨h.os, h.tape, h.output, h.size, h.block⟩
theorem ExQ.drew {Q : Nat → Prop} {a w : World} (h : ExQ Q a w) : ExQ Q a w.drew := ⟨h.os, h.tape, h.output, h.size, h.block⟩
theorem ExQ.set {Q : Nat → Prop} {a w : World} (h : ExQ Q a w) {B : Nat} (hB : Q B) (i : Nat) (v : Value) : ExQ Q a (w.setCell ⟨B, i, none⟩ v) :=
  ⟨h.os, h.tape, h.output, by simpa [World.setCell] using h.size, fun k hk hn => (Below.heap_setCell _ _ _ _ (by simp; intro e; subst e; exact hn hB)).trans (h.block k hk hn)⟩
theorem ExQ.alloc {Q : Nat → Prop} {a w : World} (h : ExQ Q a w) (o : Obj) : ExQ Q a (w.alloc o) :=
  ⟨h.os, h.tape, h.output, by have := h.size; simp; omega, fun k hk hn => (Below.heap_alloc _ _ _ (Nat.lt_of_lt_of_le hk h.size)).trans (h.block k hk hn)⟩
theorem ExQ.grown {Q : Nat → Prop} {a w w' : World} {row : Option Nat} (h : ExQ Q a w) (hg : w.grownBy w' row) (hr : ∀ k, row = some k → a.heap.size ≤ k ∨ Q k) : ExQ Q a w' :=
  ⟨hg.os.trans h.os, hg.tape.trans h.tape, hg.output.trans h.output, Nat.le_trans h.size hg.size, fun k hk hn => (hg.block k (Nat.lt_of_lt_of_le hk h.size) (fun e => by rcases hr k e.symm with h1 | h1; omega; exact hn h1)).trans (h.block k hk hn)⟩
theorem ExQ.setNew {Q : Nat → Prop} {a w : World} (h : ExQ Q a w) {b : Nat} (hb : a.heap.size ≤ b) (i : Nat) (v : Value) : ExQ Q a (w.setCell ⟨b, i, none⟩ v) :=
  ⟨h.os, h.tape, h.output, by simpa [World.setCell] using h.size, fun k hk hn => (Below.heap_setCell _ _ _ _ (by simp; omega)).trans (h.block k hk hn)⟩
theorem ExQ.ofBelow {Q : Nat → Prop} {w w' : World} (h : Below w.heap.size w w') : ExQ Q w w' := ⟨h.os, h.tape, h.output, h.size, fun k hk _ => h.block k hk⟩
theorem ExQ.below {Q : Nat → Prop} {w w' : World} {B : Nat} (h : ExQ Q w w') (hB : B ≤ w.heap.size) (hQ : ∀ b, Q b → B ≤ b) : Below B w w' :=
  ⟨h.os, h.tape, h.output, h.size, fun k hk => h.block k (by omega) (fun hq => by have := hQ k hq; omega)⟩
theorem Blk.exq {w w' : World} {Q : Nat → Prop} {b T : Nat} {cs : Array Value} (h : Blk w b cs T) (he : ExQ Q w w') (hne : ¬ Q b) : Blk w' b cs T := by
  unfold Blk at *
  rw [he.block b (Blk.lt h) hne]; exact h
theorem Sl.exq {w w' : World} {Q X : Nat → Prop} {a : Option Addr} {l : List Tm} (h : Sl w X a l) (he : ExQ Q w w') (hX : ∀ b, X b → ¬ Q b) : Sl w' X a l :=
  ((h.mono (Y := fun b => X b ∧ b < w.heap.size) fun b h1 h2 => ⟨h1, h2⟩).kept fun b hb => he.block b hb.2 (hX b hb.1)).mono fun b hb _ => hb.1
theorem ExQ.mid {Q : Nat → Prop} {w w1 : World} (h : ExQ Q w w1) : ∃ wm, Below wm.heap.size wm w1 ∧ wm.heap.size = w.heap.size ∧ ExQ Q w wm := by
  have hs := h.size
  have hz : (w1.heap.extract 0 w.heap.size).size = w.heap.size := by simp; omega
  refine ⟨{ w1 with heap := w1.heap.extract 0 w.heap.size }, ⟨rfl, rfl, rfl, by simp; omega, fun k hk => ?_⟩, hz, ⟨h.os, h.tape, h.output, by simp [hz], fun k hk hn => ?_⟩⟩
  · have hk2 : k < w.heap.size := by simp at hk; omega
    simp [Array.getElem?_extract, hk2]
    omega
  · rw [← h.block k hk hn]
    simp [Array.getElem?_extract, hk]
    omega
theorem ownsRow_at {w w' : World} {base e size n : Nat} {v : Value} {xs : List Value} (h : w.ownsRow base e size v n xs) (hk : ∀ g, v.ownBlock = some g → w'.heap[g]? = w.heap[g]?) : w'.ownsRow base e size v n xs := by
  obtain ⟨hl, h1⟩ := h
  refine ⟨hl, ?_⟩
  rcases h1 with h1 | ⟨g, cap, cur, hv, hg, hh, hr⟩
  · exact Or.inl h1
  · refine Or.inr ⟨g, cap, cur, hv, hg, ?_, hr⟩
    rw [hk g (by rw [hv]; rfl)]
    exact hh
theorem Row.exq {w w' : World} {Q : Nat → Prop} {N T : Nat} {Y : Nat → Prop} {v : Value} {l : List Tm} {xs : List Value} (h : Row w N T Y v l xs) (he : ExQ Q w w') (hQ : ∀ b, Q b → b < N) (hY : ∀ b, Q b → ¬ Y b) : Row w' N T Y v l xs :=
  ⟨ownsRow_at h.own fun g hg => he.block g (h.own.lt g hg).2 (fun hq => by have := hQ g hq; have := (h.own.lt g hg).1; omega),
   h.row.imp fun a l hs => hs.exq he fun b hb hq => by
     rcases hb with h1 | h1
     · exact hY b hq h1
     · have := hQ b hq; omega⟩
end Go.Proofs.YtagidfoiemgfcaaGreatDoor

/- A range over a function whose rounds go on or leave by a return: own laws; what takes, and what it is told. -/
namespace Go.Proofs.YtagidfoiemgfcaaGreatDoor
open Go.RowKit Go.Shelf
set_option linter.unusedSimpArgs false
set_option linter.unusedVariables false
set_option maxRecDepth 8000

/-- How a round is left: it goes on, or it returns. -/
def rndPost (l : Nat) (r rb rd : Loop) (Post : Bool → World → Prop) : Exit → Act → World → Prop
  | .normal, _, w3 => w3.heap[l]? = some (.loop rb) ∧ Post true (w3.putObj l (.loop r))
  | .ret, _, w3 => w3.heap[l]? = some (.loop rb) ∧ Post false (w3.putObj l (.loop rd))
  | _, _, _ => False

theorem yield_two {P : Program} {n l : Nat} {r : Loop} {args : Array Value} {W : World} {Post : Bool → World → Prop} {assign body : Code} {ps : Array Tmp} {tmps : Array Value} {rb rd : Loop} (hrbz : rb = { r with state := .busy }) (hrdz : rd = { r with state := .done, pending := some .ret }) (hra : r.assign = assign) (hrb : r.body = body) (hrp : r.params = ps) (hrt : r.tmps = tmps) (hl : W.heap[l]? = some (.loop r)) (hr : r.state = .ready) (hp0 : r.pending = none) (hps : args.size = ps.size)
    (h : assign.wpIn (Fence.wide.inRound l) n P (Exit.then (fun a₁ w₁ => w₁.heap[l]? = some (.loop r) ∧ body.wpIn (Fence.wide.inRound l) n P (rndPost l r rb rd Post) a₁ (w₁.putObj l (.loop rb))) (fun _ _ _ => False)) { tmps := (ps.zip args).foldl (fun t (p, v) => t.setIfInBounds p v) tmps, defers := [] } W) :
    YieldAt Fence.wide n P l args W fun e W' => ∃ s, e = .returned (.bool s) ∧ Post s W' := by
  subst hrbz; subst hrdz; subst hra; subst hrb; subst hrp; subst hrt
  refine ⟨r.fn, _, r.assign, r.body, run_yield hl hps, roundIn_of_wpIn trivial (wpIn_mono h ?_)⟩
  rintro e a w1 hp
  cases e with
  | normal =>
    obtain ⟨h1, h2⟩ := hp
    refine ⟨_, run_beginRound h1 hr, wpIn_mono h2 ?_⟩
    rintro e3 a3 w3 h3
    cases e3 with
    | normal =>
      obtain ⟨h3, h4⟩ := h3
      refine ⟨_, _, run_endRound none h3, true, rfl, ?_⟩
      have e4 : ({ r with state := .ready, pending := none } : Loop) = r := by
        obtain ⟨_, _, _, _, _, _, _, _⟩ := r
        simp at hr hp0
        subst hr; subst hp0
        rfl
      have e5 : ({ ({ r with state := .busy } : Loop) with state := if (none : Option Code).isNone then .ready else .done, pending := none } : Loop) = r := by rw [← e4]; rfl
      rw [e5]
      exact h4
    | ret =>
      obtain ⟨h3, h4⟩ := h3
      exact ⟨_, _, run_endRound (some .ret) h3, false, rfl, h4⟩
    | exit id => exact h3.elim
    | goto t => exact h3.elim
    | panic c => exact h3.elim
    | outgrown => exact h3.elim
  | ret => exact hp.elim
  | exit id => exact hp.elim
  | goto t => exact hp.elim
  | panic c => exact hp.elim
  | outgrown => exact hp.elim

/-- The range itself, outermost. -/
theorem wp_range2 {P : Program} {n : Nat} {g : Operand} {ps : Array Tmp} {assign body : Code} {Q : Exit → Act → World → Prop} {a : Act} {w : World} {gf : Nat} {lb : Array Value} (hg : a.eval g = .func (.func gf) #[] lb) (eg : ∀ args w, (callFunc gf args).run P w = .ok (.enter gf args) w)
    (h : ∀ (r : Loop), r.state = .ready → r.pending = none → r.tmps = a.tmps → r.params = ps → r.assign = assign → r.body = body → 
      Calls P gf (#[.func (.yield (w.heap.size + 1)) #[] #[]] ++ lb) ((w.alloc (.deferred (some []))).alloc (.loop r)) fun e W => (∃ v, e = .returned v) ∧ ((W.heap[w.heap.size + 1]? = some (.loop r) ∧ Q .normal { a with defers := { target := .collected w.heap.size, args := #[] } :: a.defers } (W.putObj (w.heap.size + 1) (.loop { r with state := .exhausted }))) ∨
        (W.heap[w.heap.size + 1]? = some (.loop { r with state := .done, pending := some .ret }) ∧ Q .ret { a with defers := { target := .collected w.heap.size, args := #[] } :: a.defers } (W.putObj (w.heap.size + 1) (.loop { r with state := .exhausted, pending := some .ret }))))) :
    (Code.rangeFunc g ps assign body).wpIn Fence.wide n P Q a w := by
  refine wpIn_rangeFunc ?_
  intro fn hfn
  obtain ⟨r, hr⟩ : ∃ r : Loop, r = { state := .ready, pending := none, fn, tmps := a.tmps, params := ps, assign, body, defers := w.heap.size } := ⟨_, rfl⟩
  refine ⟨w.heap.size + 1, [{ target := .collected w.heap.size, args := #[] }], (w.alloc (.deferred (some []))).alloc (.loop r), { target := .fn (.func gf) lb, args := #[.func (.yield (w.heap.size + 1)) #[] #[]] }, (w.alloc (.deferred (some []))).alloc (.loop r), gf, #[.func (.yield (w.heap.size + 1)) #[] #[]] ++ lb, (w.alloc (.deferred (some []))).alloc (.loop r), ?_, ?_, ?_, ?_, ?_, ?_⟩
  · rw [hr]; exact run_enterLoop_outer _ _ _ _ _
  · simp only [resolve, hg]
    simp [go_sem]
  · intro f' hf'; trivial
  · simp [invoke, go_sem, eg]
  · intro h; simp [Fence.wide] at h
  · refine (callsIn_wide.2 (h r (by rw [hr]) (by rw [hr]) (by rw [hr]) (by rw [hr]) (by rw [hr]) (by rw [hr]))).mono ?_
    rintro e W ⟨⟨v, rfl⟩, hc⟩
    rcases hc with ⟨hl, hq⟩ | ⟨hl, hq⟩
    · have e1 := run_endLoop (P := P) hl (by rw [hr]; simp)
      have e2 : r.pending = none := by rw [hr]
      exact ⟨none, _, e1.trans (by rw [e2]), hq⟩
    · have e1 := run_endLoop (P := P) hl (by simp)
      exact ⟨some .ret, _, e1, wpIn_ret hq⟩

/-- What one who takes keeps: what has come, whether more is wanted, the blocks that are his own (f); what he reads besides, and nobody writes (K). -/
abbrev Tk (α : Type) := List α → Bool → (Nat → Prop) → World → Prop
structure TkOk {α : Type} (J : Tk α) (K : Nat → Prop) : Prop where
  inside : ∀ {pre s f W}, J pre s f W → ∀ b, f b ∨ K b → b < W.heap.size
  apart : ∀ {pre s f W}, J pre s f W → ∀ b, K b → ¬ f b
  abide : ∀ {pre s f W W'}, J pre s f W → W.heap.size ≤ W'.heap.size → (∀ b, f b ∨ K b → W'.heap[b]? = W.heap[b]?) → J pre s f W'
theorem TkOk.exq {α : Type} {J : Tk α} {K : Nat → Prop} (h : TkOk J K) {pre : List α} {s : Bool} {f g : Nat → Prop} {W W' : World} (hj : J pre s f W) (he : ExQ g W W') (hg : ∀ b, f b ∨ K b → ¬ g b) : J pre s f W' :=
  h.abide hj he.size fun b hb => he.block b (h.inside hj b hb) (hg b hb)
/-- It holds still when loops end. -/
def StopOk (S : World → Prop) : Prop := ∀ (W W' : World), S W → W.heap.size ≤ W'.heap.size → (∀ b, b < W.heap.size → W'.heap[b]? = W.heap[b]? ∨ (∃ r, W.heap[b]? = some (.loop r)) ∨ ∃ d, W.heap[b]? = some (.deferred d)) → S W'
theorem StopOk.put {S : World → Prop} (h : StopOk S) {W : World} (hs : S W) {l : Nat} {r : Loop} (hl : W.heap[l]? = some (.loop r)) (o : Obj) : S (W.putObj l o) :=
  h _ _ hs (by simp) fun b hb => by
    by_cases e : b = l
    · subst e; exact Or.inr (Or.inl ⟨r, hl⟩)
    · exact Or.inl (World.putObj_heap_other e)
/-- All of a list, or as much of it as was wanted, has been handed over. -/
def Went {α : Type} (J : Tk α) (all pre : List α) (f g : Nat → Prop) (W : World) (s : Bool) (W' : World) : Prop :=
  ∃ (m : Nat) (f' : Nat → Prop), m ≤ all.length ∧ (s = true → m = all.length) ∧ J (pre ++ all.take m) s f' W' ∧ ExQ (fun b => f b ∨ g b) W W' ∧ ∀ b, f' b → f b ∨ W.heap.size ≤ b

theorem Went.nil {α : Type} {J : Tk α} {pre : List α} {f g : Nat → Prop} {W : World} (h : J pre true f W) : Went J [] pre f g W true W :=
  ⟨0, f, Nat.le_refl _, fun _ => rfl, by simpa using h, ExQ.refl _ _, fun b hb => Or.inl hb⟩
theorem Went.one {α : Type} {J : Tk α} {pre : List α} {x : α} {f f' g : Nat → Prop} {W W' : World} {s : Bool} (h : J (pre ++ [x]) s f' W') (he : ExQ f W W') (hf : ∀ b, f' b → f b ∨ W.heap.size ≤ b) : Went J [x] pre f g W s W' :=
  ⟨1, f', by simp, fun _ => rfl, by simpa using h, he.mono fun b hb _ => Or.inl hb, hf⟩
theorem Went.end_true {α : Type} {J : Tk α} {all pre : List α} {f g : Nat → Prop} {W W' : World} (h : Went J all pre f g W true W') : ∃ f', J (pre ++ all) true f' W' ∧ ExQ (fun b => f b ∨ g b) W W' ∧ ∀ b, f' b → f b ∨ W.heap.size ≤ b := by
  obtain ⟨m, f', hm, hs, hj, he, hf⟩ := h
  obtain rfl := hs rfl
  exact ⟨f', by simpa using hj, he, hf⟩
/-- One behind the other. -/
theorem Went.trans {α : Type} {J : Tk α} {a1 a2 pre : List α} {f f1 g g2 : Nat → Prop} {W W1 W2 : World} {s : Bool} (hj : J (pre ++ a1) true f1 W1) (he : ExQ (fun b => f b ∨ g b) W W1) (hf : ∀ b, f1 b → f b ∨ W.heap.size ≤ b) (h : Went J a2 (pre ++ a1) f1 g2 W1 s W2) (hg : ∀ b, g2 b → g b ∨ W.heap.size ≤ b) : Went J (a1 ++ a2) pre f g W s W2 := by
  obtain ⟨m, f', hm, hs, hj2, he2, hf2⟩ := h
  refine ⟨a1.length + m, f', by simp; omega, fun h => by simp [hs h], ?_, he.transN he2 ?_, ?_⟩
  · rw [List.take_append, List.take_of_length_le (by omega)]
    simpa [List.append_assoc] using hj2
  · rintro i hi hl
    rcases hi with hi | hi
    · rcases hf i hi with h | h
      · exact Or.inl h
      · omega
    · rcases hg i hi with h | h
      · exact Or.inr h
      · omega
  · intro b hb
    have := he.size
    rcases hf2 b hb with h | h
    · exact hf b h
    · right; omega
/-- What was not wanted any more is not handed over. -/
theorem Went.stop {α : Type} {J : Tk α} {a1 a2 pre : List α} {f g : Nat → Prop} {W W' : World} (h : Went J a1 pre f g W false W') : Went J (a1 ++ a2) pre f g W false W' := by
  obtain ⟨m, f', hm, hs, hj, he, hf⟩ := h
  exact ⟨m, f', by simp; omega, by simp, by rw [List.take_append_of_le_length hm]; exact hj, he, hf⟩
theorem Went.mono {α : Type} {J : Tk α} {a pre : List α} {f g g' : Nat → Prop} {W W' : World} {s : Bool} (h : Went J a pre f g W s W') (hg : ∀ b, g b → b < W.heap.size → g' b) : Went J a pre f g' W s W' := by
  obtain ⟨m, f', hm, hs, hj, he, hf⟩ := h
  exact ⟨m, f', hm, hs, hj, he.mono fun b hb hl => hb.imp id (fun h => hg b h hl), hf⟩
theorem Went.exq {α : Type} {J : Tk α} {a pre : List α} {f g : Nat → Prop} {W W' : World} {s : Bool} (h : Went J a pre f g W s W') : ExQ (fun b => f b ∨ g b) W W' := by
  obtain ⟨_, _, _, _, _, he, _⟩ := h
  exact he
/-- From a little earlier on. -/
theorem Went.from {α : Type} {J : Tk α} {a pre : List α} {f g g' : Nat → Prop} {W0 W W' : World} {s : Bool} (h : Went J a pre f g W s W') (he : ExQ g' W0 W) (hg : ∀ b, g b → g' b ∨ W0.heap.size ≤ b) : Went J a pre f g' W0 s W' := by
  obtain ⟨m, f', hm, hs, hj, he2, hf⟩ := h
  refine ⟨m, f', hm, hs, hj, (he.mono (R := fun b => f b ∨ g' b) fun b hb _ => Or.inr hb).transN he2 ?_, fun b hb => ?_⟩
  · rintro i hi hl
    rcases hi with hi | hi
    · exact Or.inl hi
    · rcases hg i hi with h | h
      · exact Or.inr h
      · omega
  · have := he.size
    rcases hf b hb with h | h
    · exact Or.inl h
    · right; omega
end Go.Proofs.YtagidfoiemgfcaaGreatDoor

/- Walks: names gone through from the last on. -/
namespace Go.Proofs.YtagidfoiemgfcaaGreatDoor
open Go.RowKit Go.Shelf
attribute [local go_sem] Oper.semAt_some
set_option linter.unusedSimpArgs false
set_option linter.unusedVariables false
set_option maxRecDepth 8000

set_option maxHeartbeats 1000000 in
theorem backN_any (v : Value) (w : World) (hv : ∃ a k c, v = .slice a k c) :
    Calls Tryz.prog 82 #[v] w fun e w' => e = .returned (.func (.func 86) #[] #[.pointer (some ⟨w.heap.size, 0, none⟩)]) ∧ w' = w.alloc (.cells #[v] 58) := by
  obtain ⟨a, k, c, rfl⟩ := hv
  go_enter Tryz.func82, Tryz.ntmps82
  go_wp2_with fail
  go_ret
  exact ⟨rfl, rfl⟩

set_option maxHeartbeats 1000000 in
theorem back1N_any (nm : List ByteArray) (l Bn b o c : Nat) (a : Option Addr) (ha : nm = [] ∨ a = some ⟨b, o, none⟩) (hl : nm.length ≤ 1000000) (J : Nat → World → Prop) (Jx : World → Prop)
    (hJ : ∀ k W, J k W → W.cell? ⟨Bn, 0, none⟩ = some (.slice a nm.length c) ∧ ∀ i (h : i < nm.length), W.cell? ⟨b, o + i, none⟩ = some (.string nm[i]))
    (hY : ∀ n k (hk : k < nm.length) W, J (k + 1) W → YieldAt Fence.wide n Tryz.prog l #[.int .i64 (k : Int), .string nm[k]] W fun e W' => ∃ s, e = .returned (.bool s) ∧ ((s = true ∧ J k W') ∨ (s = false ∧ Jx W')))
    (W : World) (h0 : J nm.length W) :
    Calls Tryz.prog 86 #[.func (.yield l) #[] #[], .pointer (some ⟨Bn, 0, none⟩)] W fun e W' => (∃ v, e = .returned v) ∧ (J 0 W' ∨ Jx W') := by
  have HJ := hide hJ
  have HY := hide hY
  clear hJ hY
  have c0 := (HJ.out _ _ h0).1
  refine (callsIn_wide (n := 3)).1 ?_
  refine callsIn_of_wp Tryz.func86 rfl trivial ?_ rfl
  simp only [Tryz.ntmps86, List.size_toArray, List.length_cons, List.length_nil, Nat.reduceAdd, Nat.reduceSub, Array.replicate_succ, Array.replicate_zero, List.push_toArray, List.append_toArray, List.nil_append, List.cons_append]
  gi_wp2
  gi_loopw [3] (fun i wr => ∃ k : Nat, k ≤ nm.length ∧ i = .int .i64 ((k : Int) - 1) ∧ J k wr) (fun i wr => (intOf i + 1).toNat)
  case atStart => exact ⟨nm.length, Nat.le_refl _, by go_num, h0⟩
  case round =>
    obtain ⟨k, hk, rfl, hJk⟩ := hrel
    cases k with
    | zero =>
      gi_wp2
      go_end0
      exact ⟨⟨_, rfl⟩, .inl hJk⟩
    | succ k =>
      have hkk : ((k + 1 : Nat) : Int) - 1 = k := by omega
      rw [hkk]
      obtain rfl : a = some ⟨b, o, none⟩ := ha.resolve_left (fun e => by rw [e] at hk; simp at hk)
      obtain ⟨d0, d1⟩ := HJ.out _ _ hJk
      have d2 := d1 k (by omega)
      have hkl : (k : Int) < (nm.length : Int) := by omega
      obtain ⟨fn, tmps, assign, body, hy, hR⟩ := HY.out 2 k (by omega) wr hJk
      obtain ⟨x, hx⟩ : ∃ x, nm[k] = x := ⟨_, rfl⟩
      simp only [hx] at d2 hy
      clear d1 hx
      gi_wp2
      refine hR.mono ?_
      rintro e W3 ⟨s3, rfl, (⟨rfl, hJ3⟩ | ⟨rfl, hJx3⟩)⟩
      · gi_wp2
        go_roundw
        case rel => exact ⟨k, by omega, by go_num, hJ3⟩
        case measure => simp [intOf]
      · gi_wp2
        refine bodyPost_ret (results_none rfl _ _ _) rfl ?_
        exact ⟨⟨_, rfl⟩, .inr hJx3⟩
end Go.Proofs.YtagidfoiemgfcaaGreatDoor

/- Walks: the reader's small functions. -/
namespace Go.Proofs.YtagidfoiemgfcaaGreatDoor
open Go.RowKit
set_option linter.unusedSimpArgs false
set_option linter.unusedVariables false
variable {nv : Value}
set_option maxRecDepth 8000

theorem isSign_anyL (n : Int) (w : World) : Calls Tryz.prog 80 #[.int .u8 n] w fun e w' => e = .returned (.bool (alnB n)) ∧ w' = w := by
  go_enter Tryz.func80, Tryz.ntmps80
  go_wp2_with (first | (go_at_call 64; refine (isLetter_any _ _).mono ?_; rintro e w' ⟨rfl, rfl⟩) | (go_at_call 63; refine (isDigit_any _ _).mono ?_; rintro e w' ⟨rfl, rfl⟩))
  all_goals (go_ret; exact ⟨ret_bool (by simp_all [alnB]), rfl⟩)

/-- The reader's box. -/
def Bl (nv : Value) (w : World) (B : Nat) (s : ByteArray) (i k : Nat) : Prop := Blk w B #[.string s, .int .i64 (i : Int), .int .i64 (k : Int), nv] 65
theorem Bl.c0 {w : World} {B i k : Nat} {s : ByteArray} (h : Bl nv w B s i k) : w.cell? ⟨B, 0, none⟩ = some (.string s) := Blk.cell h 0
theorem Bl.c1 {w : World} {B i k : Nat} {s : ByteArray} (h : Bl nv w B s i k) : w.cell? ⟨B, 1, none⟩ = some (.int .i64 (i : Int)) := Blk.cell h 1
theorem Bl.c2 {w : World} {B i k : Nat} {s : ByteArray} (h : Bl nv w B s i k) : w.cell? ⟨B, 2, none⟩ = some (.int .i64 (k : Int)) := Blk.cell h 2
theorem Bl.lt {w : World} {B i k : Nat} {s : ByteArray} (h : Bl nv w B s i k) : B < w.heap.size := Blk.lt h
theorem Bl.drewN {w : World} {B i k : Nat} {s : ByteArray} (h : Bl nv w B s i k) (n : Nat) : Bl nv (w.drewN n) B s i k := h
theorem Bl.next {w : World} {B i k : Nat} {s : ByteArray} (h : Bl nv w B s i k) : Bl nv (w.setCell ⟨B, 1, none⟩ (.int .i64 ((i : Int) + 1))) B s (i + 1) k := Blk.set h 1 _
theorem Bl.more {w : World} {B i k : Nat} {s : ByteArray} (h : Bl nv w B s i k) : Bl nv (w.setCell ⟨B, 2, none⟩ (.int .i64 ((k : Int) + 1))) B s i (k + 1) := Blk.set h 2 _

theorem atEnd_anyL (B i k : Nat) (s : ByteArray) (w : World) (h : Bl nv w B s i k) :
    Calls Tryz.prog 54 #[.pointer (some ⟨B, 0, none⟩)] w fun e w' => e = .returned (.bool (decide (i = s.size))) ∧ w' = w.drew := by
  have c0 := h.c0
  have c1 := h.c1
  clear h
  go_enter Tryz.func54, Tryz.ntmps54
  go_wp2_with fail
  go_region_held3 (fun w' => w'.cell? ⟨B, 0, none⟩ = some (.string s) ∧ w'.cell? ⟨B, 1, none⟩ = some (.int .i64 (i : Int))) (go_keep) (fail)
  go_wp2_with fail
  go_ret
  refine ⟨ret_bool ?_, rfl⟩
  rw [Bool.eq_iff_iff]; simp <;> omega

/-- What is thrownL. -/
def thrownL (r : Int) : Ending := .panicked [{ v := .iface 28 (.int .i64 r), recovered := false }]
theorem rdRefuse_anyL (B i k : Nat) (s : ByteArray) (w : World) (h : Bl nv w B s i k) :
    Calls Tryz.prog 81 #[.pointer (some ⟨B, 0, none⟩)] w fun e w' => e = thrownL (if i = s.size then 13 else 12) ∧ w' = w.drew := by
  unfold thrownL
  by_cases he : i = s.size
  · rw [if_pos he]
    have HE := hide he
    go_enter Tryz.func81, Tryz.ntmps81
    go_wp2_with fail
    refine (atEnd_anyL (nv := nv) B i k s _ h).mono ?_
    rintro e w' ⟨rfl, rfl⟩
    rw [show decide (i = s.size) = true by simpa using HE.out]
    clear he
    go_wp2_with fail
    exact ⟨rfl, rfl, rfl⟩
  · rw [if_neg he]
    have HE := hide he
    go_enter Tryz.func81, Tryz.ntmps81
    go_wp2_with fail
    refine (atEnd_anyL (nv := nv) B i k s _ h).mono ?_
    rintro e w' ⟨rfl, rfl⟩
    rw [show decide (i = s.size) = false by simpa using HE.out]
    clear he
    go_wp2_with fail
    exact ⟨rfl, rfl, rfl⟩

theorem atEnd_yesL (B i k : Nat) (s : ByteArray) (he : i = s.size) (w : World) (h : Bl nv w B s i k) :
    Calls Tryz.prog 54 #[.pointer (some ⟨B, 0, none⟩)] w fun e w' => e = .returned (.bool true) ∧ ∃ m, w' = w.drewN m := by
  have h1 := atEnd_anyL (nv := nv) B i k s w h
  rw [show decide (i = s.size) = true by simpa using he] at h1
  exact h1.mono fun e w' h => ⟨h.1, 1, h.2⟩
theorem atEnd_noL (B i k : Nat) (s : ByteArray) (he : ¬ i = s.size) (w : World) (h : Bl nv w B s i k) :
    Calls Tryz.prog 54 #[.pointer (some ⟨B, 0, none⟩)] w fun e w' => e = .returned (.bool false) ∧ ∃ m, w' = w.drewN m := by
  have h1 := atEnd_anyL (nv := nv) B i k s w h
  rw [show decide (i = s.size) = false by simpa using he] at h1
  exact h1.mono fun e w' h => ⟨h.1, 1, h.2⟩

/-- What taking a sign does. -/
def TookPostL (nv : Value) (w : World) (B i k : Nat) (s : ByteArray) (c : Int) (e : Ending) (w' : World) : Prop :=
  if i < s.size ∧ byteAt s i = c then e = .returned (.bool true) ∧ Bl nv w' B s (i + 1) k ∧ Ex B w w' ∧ w'.heap.size = w.heap.size else e = .returned (.bool false) ∧ ∃ n, w' = w.drewN n

set_option maxHeartbeats 1000000 in
theorem take_anyL (B i k : Nat) (s : ByteArray) (c : Int) (hi : i ≤ s.size) (hs : s.size ≤ 4000) (w : World) (h : Bl nv w B s i k) :
    Calls Tryz.prog 50 #[.pointer (some ⟨B, 0, none⟩), .int .u8 c] w fun e w' => TookPostL nv w B i k s c e w' := by
  have H := hide h
  have c0 := h.c0
  have c1 := h.c1
  have cf := Blk.frozen h
  clear h
  by_cases he : i = s.size
  · have HP : Hid (∀ w', (∃ n, w' = w.drewN n) → TookPostL nv w B i k s c (.returned (.bool false)) w') := fun w' hw => by
      unfold TookPostL; rw [if_neg (by omega)]; exact ⟨rfl, hw⟩
    have HE := hide he
    clear he hi
    go_enter Tryz.func50, Tryz.ntmps50
    go_wp2_with fail
    go_quiet ((go_at_call 54; refine Calls.quiet_of (atEnd_yesL (nv := nv) B i k s HE.out _ ?_); exact H.out.drewN _))
    go_wp2_with fail
    go_ret
    exact HP.out _ ⟨_, rfl⟩
  · have hlt : i < s.size := by omega
    have hb := hide (byteAt_of hlt)
    have HE := hide he
    clear he
    by_cases hc : byteAt s i = c
    · have hc2 : ((s[i].toNat : Int) != c) = false := by rw [hb.out, hc]; simp
      have HC := hide hc
      clear hc
      go_enter Tryz.func50, Tryz.ntmps50
      go_wp2_with fail
      go_quiet ((go_at_call 54; refine Calls.quiet_of (atEnd_noL (nv := nv) B i k s HE.out _ ?_); exact H.out.drewN _))
      go_wp2_with fail
      go_ret
      unfold TookPostL
      rw [if_pos ⟨hlt, HC.out⟩]
      exact ⟨rfl, (H.out.drewN _).next, ((Ex.refl _ _).drewN _).set _ _, by simp [World.setCell]⟩
    · have hc2 : ((s[i].toNat : Int) != c) = true := by rw [hb.out]; simpa using hc
      have HC := hide hc
      clear hc
      go_enter Tryz.func50, Tryz.ntmps50
      go_wp2_with fail
      go_quiet ((go_at_call 54; refine Calls.quiet_of (atEnd_noL (nv := nv) B i k s HE.out _ ?_); exact H.out.drewN _))
      go_wp2_with fail
      go_ret
      unfold TookPostL
      rw [if_neg (fun h => HC.out h.2)]
      exact ⟨rfl, _, rfl⟩
/-- What asking for a sign does. -/
def RdAskPostL (nv : Value) (w : World) (B i k : Nat) (s : ByteArray) (c : Int) (e : Ending) (w' : World) : Prop :=
  if i < s.size ∧ byteAt s i = c then (∃ v, e = .returned v) ∧ Bl nv w' B s (i + 1) k ∧ Ex B w w' ∧ w'.heap.size = w.heap.size else e = thrownL (if i = s.size then 13 else 12) ∧ ∃ n, w' = w.drewN n
set_option maxHeartbeats 1000000 in
theorem rdAsk_anyL (B i k : Nat) (s : ByteArray) (c : Int) (hi : i ≤ s.size) (hs : s.size ≤ 4000) (w : World) (h : Bl nv w B s i k) :
    Calls Tryz.prog 67 #[.pointer (some ⟨B, 0, none⟩), .int .u8 c] w fun e w' => RdAskPostL nv w B i k s c e w' := by
  have H := hide h
  clear h
  have HT := hide (take_anyL (nv := nv) B i k s c hi hs w H.out)
  go_enter Tryz.func67, Tryz.ntmps67
  go_wp2_with fail
  refine HT.out.mono ?_
  intro e w' hp
  unfold TookPostL at hp
  by_cases hc : i < s.size ∧ byteAt s i = c
  · rw [if_pos hc] at hp
    obtain ⟨rfl, h1, h2, h3⟩ := hp
    have HB := hide h1
    have HX := hide h2
    have HZ := hide h3
    have HC := hide hc
    clear h1 h2 h3 hc
    go_wp2_with fail
    refine bodyPost_ret (v := .tuple #[]) (by simp [results, Tryz.results67, go_sem]) rfl ?_
    show RdAskPostL nv w B i k s c _ _
    unfold RdAskPostL
    rw [if_pos HC.out]
    exact ⟨⟨_, rfl⟩, HB.out, HX.out, HZ.out⟩
  · rw [if_neg hc] at hp
    obtain ⟨rfl, n, rfl⟩ := hp
    have HC := hide hc
    clear hc
    go_wp2_with fail
    refine (rdRefuse_anyL (nv := nv) B i k s _ (H.out.drewN n)).mono ?_
    rintro e w' ⟨he, rfl⟩
    unfold thrownL at he
    subst he
    generalize hr : (if i = s.size then (13 : Int) else 12) = r
    have HR := hide hr
    clear hr
    go_wp2_with fail
    refine ⟨rfl, ?_⟩
    show RdAskPostL nv w B i k s c _ _
    unfold RdAskPostL
    rw [if_neg HC.out, HR.out]
    exact ⟨rfl, n + 1, rfl⟩

/-- What counting a knot does. -/
def RdKnotPostL (nv : Value) (w : World) (B i k : Nat) (s : ByteArray) (e : Ending) (w' : World) : Prop :=
  if 200 < k + 1 then e = thrownL 3 ∧ Ex B w w' else (∃ v, e = .returned v) ∧ Bl nv w' B s i (k + 1) ∧ Ex B w w' ∧ w'.heap.size = w.heap.size
set_option maxHeartbeats 1000000 in
theorem rdKnot_anyL (B i k : Nat) (s : ByteArray) (hk : k ≤ 4000) (w : World) (h : Bl nv w B s i k) :
    Calls Tryz.prog 53 #[.pointer (some ⟨B, 0, none⟩)] w fun e w' => RdKnotPostL nv w B i k s e w' := by
  have H := hide h
  have c2 := h.c2
  have cf := Blk.frozen h
  have hl := h.lt
  have hw1 : IntKind.i64.wrap ((k : Int) + 1) = (k : Int) + 1 := by rw [IntKind.wrap_i64]; omega
  clear h
  by_cases hc : 200 < k + 1
  · have hc2 : (200 : Int) < (k : Int) + 1 := by omega
    have HC := hide hc
    clear hc
    go_enter Tryz.func53, Tryz.ntmps53
    go_wp2_with fail
    refine ⟨rfl, ?_⟩
    show RdKnotPostL nv w B i k s _ _
    unfold RdKnotPostL
    rw [if_pos HC.out]
    exact ⟨rfl, (Ex.refl _ _).set _ _⟩
  · have hc2 : ¬ (200 : Int) < (k : Int) + 1 := by omega
    have HC := hide hc
    clear hc
    go_enter Tryz.func53, Tryz.ntmps53
    go_wp2_with fail
    refine bodyPost_ret (v := .tuple #[]) (by simp [results, Tryz.results53, go_sem]) rfl ?_
    show RdKnotPostL nv w B i k s _ _
    unfold RdKnotPostL
    rw [if_neg HC.out]
    exact ⟨⟨_, rfl⟩, H.out.more, (Ex.refl _ _).set _ _, by simp [World.setCell]⟩
end Go.Proofs.YtagidfoiemgfcaaGreatDoor

/- Walks: the reader's names. -/
namespace Go.Proofs.YtagidfoiemgfcaaGreatDoor
open Go.RowKit
set_option linter.unusedSimpArgs false
set_option linter.unusedVariables false
variable {nv : Value}
set_option maxRecDepth 8000

/-- How far the reader is. -/
def rdAtL (w : World) (B : Nat) : Nat := match w.cell? ⟨B, 1, none⟩ with
  | some (.int _ n) => n.toNat
  | _ => 0
theorem Bl.at {w : World} {B i k : Nat} {s : ByteArray} (h : Bl nv w B s i k) : rdAtL w B = i := by unfold rdAtL; rw [h.c1]; simp

/-- What reading a name does: the name, or what is thrownL. -/
def NamePostL (nv : Value) (w : World) (B i k : Nat) (s : ByteArray) (e : Ending) (w' : World) : Prop :=
  if stopAt s i = i then e = .panicked [{ v := .iface 28 (.int .i64 (if i = s.size then 13 else 12)), recovered := false }] ∧ Ex B w w'
  else if nameB (s.extract i (stopAt s i)) = false then e = .panicked [{ v := .iface 28 (.int .i64 1), recovered := false }] ∧ Ex B w w'
  else e = .returned (.string (s.extract i (stopAt s i))) ∧ Bl nv w' B s (stopAt s i) k ∧ Ex B w w' ∧ w'.heap.size = w.heap.size

theorem ext_sizeL (s : ByteArray) {i j : Nat} (hj : j ≤ s.size) : (s.extract i j).size = j - i := by
  rw [ByteArray.size_extract]; omega
theorem ext_emptyL {s : ByteArray} {i j : Nat} (hj : j ≤ s.size) (h : j ≤ i) : (s.extract i j).toList.isEmpty = true := isEmpty_zero (by rw [ext_sizeL s hj]; omega)
theorem ext_someL {s : ByteArray} {i j : Nat} (hj : j ≤ s.size) (h : i < j) : (s.extract i j).toList.isEmpty = false := isEmpty_pos (by rw [ext_sizeL s hj]; omega)

theorem name_okL {w wr : World} {B i j k n : Nat} {s : ByteArray} (hst : stopAt s i = j) (hji : ¬ j = i) (hn : nameB (s.extract i j) = true) (hx : Bl nv wr B s j k) (he : Ex B w wr) (hz : wr.heap.size = w.heap.size) : NamePostL nv w B i k s (.returned (.string (s.extract i j))) (wr.drewN n) := by
  unfold NamePostL
  rw [hst, if_neg hji, if_neg (by rw [hn]; simp)]
  exact ⟨rfl, hx, he.drewN n, hz⟩

theorem name_badL {w wr : World} {B i j k n : Nat} {s : ByteArray} (hst : stopAt s i = j) (hji : ¬ j = i) (hn : nameB (s.extract i j) = false) (he : Ex B w wr) : NamePostL nv w B i k s (.panicked [{ v := .iface 28 (.int .i64 1), recovered := false }]) (wr.drewN n) := by
  unfold NamePostL
  rw [hst, if_neg hji, if_pos hn]
  exact ⟨rfl, he.drewN n⟩
theorem name_noneL {w wr : World} {B i j k n : Nat} {s : ByteArray} {r : Int} (hst : stopAt s i = j) (hji : j = i) (hr : (if j = s.size then (13 : Int) else 12) = r) (he : Ex B w wr) : NamePostL nv w B i k s (.panicked [{ v := .iface 28 (.int .i64 r), recovered := false }]) (wr.drewN n) := by
  unfold NamePostL
  rw [hst, if_pos hji, ← hji, hr]
  exact ⟨rfl, he.drewN n⟩

def NmInvL (nv : Value) (w : World) (B i k : Nat) (s : ByteArray) (wr : World) : Prop := ∃ j, i ≤ j ∧ j ≤ s.size ∧ stopAt s i = stopAt s j ∧ Bl nv wr B s j k ∧ Ex B w wr ∧ wr.heap.size = w.heap.size

set_option maxHeartbeats 1000000 in
theorem name_anyL (B i k : Nat) (s : ByteArray) (hi : i ≤ s.size) (hs : s.size ≤ 4000) (w : World) (h : Bl nv w B s i k) :
    Calls Tryz.prog 66 #[.pointer (some ⟨B, 0, none⟩)] w fun e w' => NamePostL nv w B i k s e w' := by
  have H := hide h
  have c0 := h.c0
  have c1 := h.c1
  clear h
  go_enter Tryz.func66, Tryz.ntmps66
  go_wp2_with fail
  go_loopw [] (fun wr => NmInvL nv w B i k s wr) (fun wr => (s.size - rdAtL wr B))
  case atStart => exact ⟨i, Nat.le_refl _, hi, rfl, H.out, Ex.refl _ _, rfl⟩
  case round =>
    obtain ⟨j, hij, hj, hst, hbx, hex, hsz⟩ := hrel
    have HX := hide hbx
    have HE := hide hex
    have HS := hide hst
    have HZ := hide hsz
    have c0 := hbx.c0
    have c1 := hbx.c1
    have cf := Blk.frozen hbx
    clear hbx hex hst hsz
    by_cases he : j = s.size
    · have HEQ := hide he
      have HST : Hid (stopAt s i = j) := HS.out.trans (stopAt_end (fun h => by omega))
      clear he
      go_wp2_with fail
      go_quiet (first | (go_at_call 54; refine Calls.quiet_of (atEnd_yesL (nv := nv) B j k s HEQ.out _ ?_); exact HX.out.drewN _))
      go_wp2_with fail
      have hij2 : (i : Int) ≤ (j : Int) := by omega
      have hj2 : (j : Int) ≤ (s.size : Int) := by omega
      go_quiet (fail)
      by_cases hji : j = i
      · have hem := ext_emptyL (s := s) hj (Nat.le_of_eq hji)
        have HJI := hide hji
        clear hji
        go_wp2_with fail
        refine (rdRefuse_anyL (nv := nv) B j k s _ (by exact HX.out)).mono ?_
        rintro e w' ⟨he, rfl⟩
        unfold thrownL at he
        subst he
        generalize hr : (if j = s.size then (13 : Int) else 12) = r
        have HR := hide hr
        clear hr
        go_wp2_with fail
        exact ⟨rfl, name_noneL HST.out HJI.out HR.out HE.out⟩
      · have hem := ext_someL (s := s) hj (show i < j by omega)
        have HJI := hide hji
        clear hji
        cases hn : nameB (s.extract i j) with
        | true =>
          have HN := hide hn
          clear hn
          go_wp2_with fail
          refine (isName_any _ _).mono ?_
          rintro e w' ⟨rfl, rfl⟩
          rw [HN.out]
          go_wp2_with fail
          go_ret
          exact name_okL HST.out HJI.out HN.out HX.out HE.out HZ.out
        | false =>
          have HN := hide hn
          clear hn
          go_wp2_with fail
          refine (isName_any _ _).mono ?_
          rintro e w' ⟨rfl, rfl⟩
          rw [HN.out]
          go_wp2_with fail
          exact ⟨rfl, name_badL HST.out HJI.out HN.out HE.out⟩
    · have hlt : j < s.size := by omega
      have HEQ := hide he
      clear he
      have hb := hide (byteAt_of hlt)
      cases ha : alnB (byteAt s j) with
      | true =>
        have HA := hide ha
        have HAW : Hid (∀ w, Calls Tryz.prog 80 #[.int .u8 (s[j].toNat : Int)] w fun e w' => e = .returned (.bool true) ∧ w' = w) := fun w => by
          have := isSign_anyL (s[j].toNat : Int) w
          rw [hb.out, HA.out] at this
          rw [hb.out]
          exact this
        clear ha
        go_wp2_with fail
        go_quiet (first | (go_at_call 54; refine Calls.quiet_of (atEnd_noL (nv := nv) B j k s HEQ.out _ ?_); exact HX.out.drewN _) | (go_at_call 80; refine Calls.quiet_of_same (HAW.out _)))
        go_wp2_with fail
        go_roundw
        case rel => exact ⟨j + 1, by omega, by omega, by rw [HS.out, stopAt_go hlt HA.out], (HX.out.drewN _).next, (HE.out.drewN _).set _ _, by have := HZ.out; simpa [World.setCell] using this⟩
        case measure =>
          have e1 := HX.out.at
          have e2 := ((HX.out.drewN nq).next).at
          rw [e1, e2]; omega
      | false =>
        have HA := hide ha
        have HAW : Hid (∀ w, Calls Tryz.prog 80 #[.int .u8 (s[j].toNat : Int)] w fun e w' => e = .returned (.bool false) ∧ w' = w) := fun w => by
          have := isSign_anyL (s[j].toNat : Int) w
          rw [hb.out, HA.out] at this
          rw [hb.out]
          exact this
        have HST : Hid (stopAt s i = j) := HS.out.trans (stopAt_end (fun h => by have h1 := h.2; rw [HA.out] at h1; cases h1))
        clear ha
        go_wp2_with fail
        go_quiet (first | (go_at_call 54; refine Calls.quiet_of (atEnd_noL (nv := nv) B j k s HEQ.out _ ?_); exact HX.out.drewN _) | (go_at_call 80; refine Calls.quiet_of_same (HAW.out _)))
        go_wp2_with fail
        have hij2 : (i : Int) ≤ (j : Int) := by omega
        have hj2 : (j : Int) ≤ (s.size : Int) := by omega
        go_quiet (fail)
        by_cases hji : j = i
        · have hem := ext_emptyL (s := s) hj (Nat.le_of_eq hji)
          have HJI := hide hji
          clear hji
          go_wp2_with fail
          refine (rdRefuse_anyL (nv := nv) B j k s _ (by exact HX.out)).mono ?_
          rintro e w' ⟨he, rfl⟩
          unfold thrownL at he
          subst he
          generalize hr : (if j = s.size then (13 : Int) else 12) = r
          have HR := hide hr
          clear hr
          go_wp2_with fail
          exact ⟨rfl, name_noneL HST.out HJI.out HR.out HE.out⟩
        · have hem := ext_someL (s := s) hj (show i < j by omega)
          have HJI := hide hji
          clear hji
          cases hn : nameB (s.extract i j) with
          | true =>
            have HN := hide hn
            clear hn
            go_wp2_with fail
            refine (isName_any _ _).mono ?_
            rintro e w' ⟨rfl, rfl⟩
            rw [HN.out]
            go_wp2_with fail
            go_ret
            exact name_okL HST.out HJI.out HN.out HX.out HE.out HZ.out
          | false =>
            have HN := hide hn
            clear hn
            go_wp2_with fail
            refine (isName_any _ _).mono ?_
            rintro e w' ⟨rfl, rfl⟩
            rw [HN.out]
            go_wp2_with fail
            exact ⟨rfl, name_badL HST.out HJI.out HN.out HE.out⟩
end Go.Proofs.YtagidfoiemgfcaaGreatDoor
