/- Several texts in one. -/
import Derived.WalkKit
import Derived.WalkSpells
import Derived.WalkLawsBesides
import Derived.Test.YteojdfmdhgnmfaaGreatRows
import Derived.BigQuiet
import Derived.Deep.RegionHeld
import Derived.Deep.RegionHeld3
import Derived.Deep.AppendLies
import Derived.WideMake
import Derived.Deep.RegionLaw
import Derived.Sort.Grow
/- The tree that a term is, and how it lies in memory: plain mathematics of terms, and what stays where it was. -/
namespace Go.Proofs.YteojdfmdhgnmfaaGreat
open Go.RowKit

/-- Kept from the walk. -/
theorem hide {p : Prop} (h : p) : Hid p := h

/-- A term as a tree. -/
structure Tm where
  name : ByteArray
  args : List Tm

theorem Tm.ind {P : Tm → Prop} (h : ∀ s l, (∀ x ∈ l, P x) → P ⟨s, l⟩) (t : Tm) : P t :=
  Tm.rec (motive_1 := P) (motive_2 := fun l => ∀ x ∈ l, P x) (fun s l ih => h s l ih) (fun x hx => by cases hx)
    (fun a l ha hl x hx => by
      rcases List.mem_cons.1 hx with e | e
      · subst e; exact ha
      · exact hl x e) t

theorem Tm.indL {P : List Tm → Prop} (h0 : P []) (h : ∀ s l r, P l → P r → P (⟨s, l⟩ :: r)) (l : List Tm) : P l :=
  Tm.rec_1 (motive_1 := fun t => P t.args) (motive_2 := P) (fun _ _ ih => ih) h0 (fun a l ha hl => by obtain ⟨s, k⟩ := a; exact h s k l ha hl) l

/-- The knots of a list of terms. -/
def sizeL : List Tm → Nat
  | [] => 0
  | ⟨_, l⟩ :: r => 1 + sizeL l + sizeL r

theorem sizeL_append (a b : List Tm) : sizeL (a ++ b) = sizeL a + sizeL b := by
  induction a with
  | nil => simp [sizeL]
  | cons t r ih => obtain ⟨s, l⟩ := t; simp only [List.cons_append, sizeL, ih]; omega

/-- A list of terms lies in a row of cells, two a term, in blocks that X lets. -/
def Lies (w : World) (X : Nat → Prop) : Nat → Nat → List Tm → Prop
  | _, _, [] => True
  | b, o, ⟨s, l⟩ :: r => X b ∧ w.cell? ⟨b, o, none⟩ = some (.string s) ∧
      (∃ a c, w.cell? ⟨b, o + 1, none⟩ = some (.slice a l.length c) ∧ l.length ≤ 9223372036854775807 ∧ (l = [] ∨ ∃ b' o', a = some ⟨b', o', none⟩ ∧ Lies w X b' o' l)) ∧ Lies w X b (o + 2) r

/-- What a slice of terms holds. -/
def Sl (w : World) (X : Nat → Prop) (a : Option Addr) (l : List Tm) : Prop := l.length ≤ 9223372036854775807 ∧ (l = [] ∨ ∃ b o, a = some ⟨b, o, none⟩ ∧ Lies w X b o l)

/-- What a term's value holds. -/
def TV (w : World) (X : Nat → Prop) (v : Value) (t : Tm) : Prop := ∃ a c, v = .agg #[.string t.name, .slice a t.args.length c] ∧ Sl w X a t.args

theorem lies_kept {w w' : World} {X : Nat → Prop} (h : ∀ b, X b → w'.heap[b]? = w.heap[b]?) (l : List Tm) : ∀ b o, Lies w X b o l → Lies w' X b o l := by
  induction l using Tm.indL with
  | h0 => intro b o _; simp [Lies]
  | h s l r ihl ihr =>
    intro b o hl
    simp only [Lies] at hl ⊢
    obtain ⟨hx, h1, ⟨a, c, h2, h2', h3⟩, h4⟩ := hl
    refine ⟨hx, by rw [World.cell?_of_block (h b hx)]; exact h1, ⟨a, c, by rw [World.cell?_of_block (h b hx)]; exact h2, h2', ?_⟩, ihr _ _ h4⟩
    rcases h3 with h3 | ⟨b', o', h3, h5⟩
    · exact Or.inl h3
    · exact Or.inr ⟨b', o', h3, ihl _ _ h5⟩

theorem lies_mono {w : World} {X Y : Nat → Prop} (h : ∀ b, X b → b < w.heap.size → Y b) (l : List Tm) : ∀ b o, Lies w X b o l → Lies w Y b o l := by
  induction l using Tm.indL with
  | h0 => intro b o _; simp [Lies]
  | h s l r ihl ihr =>
    intro b o hl
    simp only [Lies] at hl ⊢
    obtain ⟨hx, h1, ⟨a, c, h2, h2', h3⟩, h4⟩ := hl
    have hb : b < w.heap.size := by
      apply Classical.byContradiction
      intro hn
      have e : w.heap[b]? = none := Array.getElem?_eq_none (by omega)
      simp [World.cell?, e] at h1
    refine ⟨h b hx hb, h1, ⟨a, c, h2, h2', ?_⟩, ihr _ _ h4⟩
    rcases h3 with h3 | ⟨b', o', h3, h5⟩
    · exact Or.inl h3
    · exact Or.inr ⟨b', o', h3, ihl _ _ h5⟩

theorem Sl.kept {w w' : World} {X : Nat → Prop} {a : Option Addr} {l : List Tm} (h : Sl w X a l) (hk : ∀ b, X b → w'.heap[b]? = w.heap[b]?) : Sl w' X a l := by
  obtain ⟨hl, h⟩ := h
  refine ⟨hl, ?_⟩
  rcases h with h | ⟨b, o, e, h⟩
  · exact Or.inl h
  · exact Or.inr ⟨b, o, e, lies_kept hk _ _ _ h⟩

theorem Sl.mono {w : World} {X Y : Nat → Prop} {a : Option Addr} {l : List Tm} (h : Sl w X a l) (hk : ∀ b, X b → b < w.heap.size → Y b) : Sl w Y a l := by
  obtain ⟨hl, h⟩ := h
  refine ⟨hl, ?_⟩
  rcases h with h | ⟨b, o, e, h⟩
  · exact Or.inl h
  · exact Or.inr ⟨b, o, e, lies_mono hk _ _ _ h⟩

theorem Sl.below {w w' : World} {X : Nat → Prop} {a : Option Addr} {l : List Tm} {B : Nat} (h : Sl w X a l) (hb : Below B w w') (hX : ∀ b, X b → b < w.heap.size → b < B) : Sl w' X a l := by
  have h1 : Sl w (fun b => X b ∧ b < B) a l := h.mono fun b hx hs => ⟨hx, hX b hx hs⟩
  have h2 : Sl w' (fun b => X b ∧ b < B) a l := h1.kept fun b hx => hb.block b hx.2
  exact h2.mono fun b hx _ => hx.1

theorem TV.kept {w w' : World} {X : Nat → Prop} {v : Value} {t : Tm} (h : TV w X v t) (hk : ∀ b, X b → w'.heap[b]? = w.heap[b]?) : TV w' X v t := by
  obtain ⟨a, c, e, h⟩ := h
  exact ⟨a, c, e, h.kept hk⟩

theorem TV.mono {w : World} {X Y : Nat → Prop} {v : Value} {t : Tm} (h : TV w X v t) (hk : ∀ b, X b → b < w.heap.size → Y b) : TV w Y v t := by
  obtain ⟨a, c, e, h⟩ := h
  exact ⟨a, c, e, h.mono hk⟩

theorem TV.below {w w' : World} {X : Nat → Prop} {v : Value} {t : Tm} {B : Nat} (h : TV w X v t) (hb : Below B w w') (hX : ∀ b, X b → b < w.heap.size → b < B) : TV w' X v t := by
  obtain ⟨a, c, e, h⟩ := h
  exact ⟨a, c, e, h.below hb hX⟩

theorem TV.alloc {w : World} {X : Nat → Prop} {v : Value} {t : Tm} (h : TV w X v t) (o : Obj) : TV (w.alloc o) X v t :=
  h.below ((Below.refl _ _).alloc (Nat.le_refl _) o) (fun _ _ h => h)

theorem TV.later {w w' : World} {X : Nat → Prop} {v : Value} {t : Tm} (h : TV w X v t) (hb : Below w.heap.size w w') : TV w' X v t := h.below hb (fun _ _ h => h)

theorem Sl.later {w w' : World} {X : Nat → Prop} {a : Option Addr} {l : List Tm} (h : Sl w X a l) (hb : Below w.heap.size w w') : Sl w' X a l := h.below hb (fun _ _ h => h)

/-- One of a row. -/
theorem lies_get {w : World} {X : Nat → Prop} : ∀ (l : List Tm) (b o : Nat), Lies w X b o l → ∀ i (h : i < l.length),
    X b ∧ w.cell? ⟨b, o + i * 2, none⟩ = some (.string l[i].name) ∧ ∃ a c, w.cell? ⟨b, o + i * 2 + 1, none⟩ = some (.slice a l[i].args.length c) ∧ Sl w X a l[i].args := by
  intro l
  induction l with
  | nil => intro b o _ i h; simp at h
  | cons t r ih =>
    intro b o hl i h
    obtain ⟨s, k⟩ := t
    simp only [Lies] at hl
    obtain ⟨hx, h1, ⟨a, c, h2, h3⟩, h4⟩ := hl
    cases i with
    | zero => exact ⟨hx, h1, a, c, h2, h3⟩
    | succ i =>
      have := ih b (o + 2) h4 i (by simpa using h)
      simp only [List.getElem_cons_succ]
      rw [show o + (i + 1) * 2 = o + 2 + i * 2 by omega]
      exact this

theorem lies_mk {w : World} {X : Nat → Prop} : ∀ (l : List Tm) (b o : Nat), (∀ i (h : i < l.length),
    X b ∧ w.cell? ⟨b, o + i * 2, none⟩ = some (.string l[i].name) ∧ ∃ a c, w.cell? ⟨b, o + i * 2 + 1, none⟩ = some (.slice a l[i].args.length c) ∧ Sl w X a l[i].args) → Lies w X b o l := by
  intro l
  induction l with
  | nil => intro b o _; simp [Lies]
  | cons t r ih =>
    intro b o hl
    obtain ⟨s, k⟩ := t
    simp only [Lies]
    obtain ⟨hx, h1, a, c, h2, h3⟩ := hl 0 (by simp)
    refine ⟨hx, h1, ⟨a, c, h2, h3⟩, ih b (o + 2) fun i h => ?_⟩
    have := hl (i + 1) (by simpa using h)
    simp only [List.getElem_cons_succ] at this
    rw [show o + (i + 1) * 2 = o + 2 + i * 2 by omega] at this
    exact this

/-- One of a slice, in a later world. -/
theorem Sl.get {w wr : World} {X : Nat → Prop} {a : Option Addr} {l : List Tm} {B : Nat} (h : Sl w X a l) (hb : Below B w wr) (hX : ∀ b, X b → b < w.heap.size → b < B) (k : Nat) (hk : k < l.length) :
    ∃ b o a' c', a = some ⟨b, o, none⟩ ∧ wr.cell? ⟨b, o + k * 2, none⟩ = some (.string l[k].name) ∧ wr.cell? ⟨b, o + k * 2 + 1, none⟩ = some (.slice a' l[k].args.length c') ∧ TV wr X (.agg #[.string l[k].name, .slice a' l[k].args.length c']) l[k] := by
  have h' := h.below hb hX
  obtain ⟨_, h1⟩ := h'
  rcases h1 with h1 | ⟨b, o, e, h1⟩
  · subst h1; simp at hk
  · obtain ⟨_, h2, a', c', h3, h4⟩ := lies_get _ _ _ h1 k hk
    exact ⟨b, o, a', c', e, h2, h3, a', c', rfl, h4⟩

#print axioms lies_mk
end Go.Proofs.YteojdfmdhgnmfaaGreat


/- Walks: how many knots a term has. -/
namespace Go.Proofs.YteojdfmdhgnmfaaGreat
open Go.RowKit

/-- Behind a call that makes memory: old cells and marks read as before. -/
theorem bcell {W w1 : World} {B : Nat} (hb : Below B W w1) : (∀ b o, b < B → w1.cell? ⟨b, o, none⟩ = W.cell? ⟨b, o, none⟩) ∧ (∀ b o, b < B → w1.frozen? ⟨b, o, none⟩ = W.frozen? ⟨b, o, none⟩) :=
  ⟨fun b o h => hb.cell (p := ⟨b, o, none⟩) h, fun b o h => hb.frozen (p := ⟨b, o, none⟩) h⟩

theorem sizeL_take (l : List Tm) (k : Nat) (h : k < l.length) : sizeL (l.take (k + 1)) = sizeL (l.take k) + sizeL [l[k]] := by
  rw [List.take_succ_eq_append_getElem h, sizeL_append]

theorem sizeL_take_le (l : List Tm) (k : Nat) : sizeL (l.take k) ≤ sizeL l := by
  have := sizeL_append (l.take k) (l.drop k)
  rw [List.take_append_drop] at this
  omega

theorem ret_int {k : IntKind} {a b : Int} (h : a = b) : Ending.returned (.int k a) = .returned (.int k b) := by rw [h]

/-- Behind a call whose first deed was to lay its parameter down. -/
theorem below_box {w wr : World} {o : Obj} (hb : Below (w.heap.size + 1) (w.alloc o) wr) : Below w.heap.size w wr :=
  ((Below.refl _ _).alloc (Nat.le_refl _) _).trans (hb.mono (Nat.le_succ _))

end Go.Proofs.YteojdfmdhgnmfaaGreat


/- Walks: letters, digits, names. -/
namespace Go.Proofs.YteojdfmdhgnmfaaGreat
open Go.RowKit
set_option linter.unusedSimpArgs false
set_option linter.unusedVariables false

def digB (n : Int) : Bool := decide (48 ≤ n) && decide (n ≤ 57)
def capB (n : Int) : Bool := decide (65 ≤ n) && decide (n ≤ 90)
def lowB (n : Int) : Bool := decide (97 ≤ n) && decide (n ≤ 122)
def letB (n : Int) : Bool := lowB n || capB n
def alnB (n : Int) : Bool := letB n || digB n

theorem ret_bool {a b : Bool} (h : a = b) : Ending.returned (.bool a) = .returned (.bool b) := by rw [h]

set_option maxHeartbeats 400000 in
theorem isDigit_any (n : Int) (w : World) : Calls Tryz.prog 51 #[.int .u8 n] w fun e w' => e = .returned (.bool (digB n)) ∧ w' = w := by
  go_enter Tryz.func51, Tryz.ntmps51
  go_wp2_with fail
  all_goals (go_ret; refine ⟨ret_bool ?_, rfl⟩; rw [Bool.eq_iff_iff]; simp [alnB, letB, lowB, capB, digB] <;> omega)

set_option maxHeartbeats 400000 in
theorem isCapital_any (n : Int) (w : World) : Calls Tryz.prog 53 #[.int .u8 n] w fun e w' => e = .returned (.bool (capB n)) ∧ w' = w := by
  go_enter Tryz.func53, Tryz.ntmps53
  go_wp2_with fail
  all_goals (go_ret; refine ⟨ret_bool ?_, rfl⟩; rw [Bool.eq_iff_iff]; simp [alnB, letB, lowB, capB, digB] <;> omega)

set_option maxHeartbeats 400000 in
theorem isLetter_any (n : Int) (w : World) : Calls Tryz.prog 52 #[.int .u8 n] w fun e w' => e = .returned (.bool (letB n)) ∧ w' = w := by
  go_enter Tryz.func52, Tryz.ntmps52
  go_wp2_with (go_at_call 53; refine (isCapital_any _ _).mono ?_; rintro e w' ⟨rfl, rfl⟩)
  all_goals (go_ret; refine ⟨ret_bool ?_, rfl⟩; rw [Bool.eq_iff_iff]; simp [alnB, letB, lowB, capB, digB] <;> omega)

end Go.Proofs.YteojdfmdhgnmfaaGreat


/- Walks: which texts are names, and which of them are variables'. -/
namespace Go.Proofs.YteojdfmdhgnmfaaGreat
open Go.RowKit
set_option linter.unusedSimpArgs false
set_option linter.unusedVariables false

def byteAt (s : ByteArray) (i : Nat) : Int := if h : i < s.size then (s[i].toNat : Int) else 0
theorem byteAt_of {s : ByteArray} {i : Nat} (h : i < s.size) : (s[i].toNat : Int) = byteAt s i := by simp [byteAt, h]
def varB (s : ByteArray) : Bool := capB (byteAt s 0)
def alnTo (s : ByteArray) (k : Nat) : Bool := (List.range k).all fun i => alnB (byteAt s i)
def nameB (s : ByteArray) : Bool := decide (1 ≤ s.size) && decide (s.size ≤ 8) && !digB (byteAt s 0) && alnTo s s.size

theorem isEmpty_pos {s : ByteArray} (h : 0 < s.size) : s.toList.isEmpty = false := by
  rw [ByteArray.toList_eq, List.isEmpty_eq_false_iff, ← List.length_pos_iff]
  simpa using h
theorem isEmpty_zero {s : ByteArray} (h : ¬ 0 < s.size) : s.toList.isEmpty = true := by
  rw [ByteArray.toList_eq, List.isEmpty_iff, ← List.length_eq_zero_iff]
  have : s.size = 0 := by omega
  simpa using this
theorem alnTo_succ (s : ByteArray) (k : Nat) : alnTo s (k + 1) = (alnTo s k && alnB (byteAt s k)) := by
  simp [alnTo, List.range_succ, List.all_append]
theorem alnTo_false {s : ByteArray} {k n : Nat} (h : k ≤ n) (hf : alnTo s k = false) : alnTo s n = false := by
  cases hn : alnTo s n with
  | false => rfl
  | true =>
    rw [← hf]; symm
    unfold alnTo at hn ⊢
    rw [List.all_eq_true] at hn ⊢
    intro x hx; exact hn x (by rw [List.mem_range] at hx ⊢; omega)
theorem byte_bd (s : ByteArray) (k : Nat) : 0 ≤ byteAt s k ∧ byteAt s k ≤ 255 := by
  unfold byteAt
  split
  · have := (s[k]).toNat_lt; omega
  · omega

set_option maxHeartbeats 400000 in
theorem isVariable_all (s : ByteArray) (w : World) : Calls Tryz.prog 39 #[.string s] w fun e w' => e = .returned (.bool (varB s)) ∧ w' = w := by
  by_cases h : 0 < s.size
  · have hb := hide (byteAt_of h)
    have he := isEmpty_pos h
    go_enter Tryz.func39, Tryz.ntmps39
    go_wp2_with (go_at_call 53; refine (isCapital_any _ _).mono ?_; rintro e w' ⟨rfl, rfl⟩)
    go_ret
    refine ⟨ret_bool ?_, rfl⟩
    rw [hb.out]; rfl
  · have he := isEmpty_zero h
    have hv : Hid (false = varB s) := by simp [Hid, varB, byteAt, h, capB]
    go_enter Tryz.func39, Tryz.ntmps39
    go_wp2_with fail
    go_ret
    exact ⟨ret_bool hv.out, rfl⟩
theorem isVariable_any (s : ByteArray) (w : World) (h : 0 < s.size) : Calls Tryz.prog 39 #[.string s] w fun e w' => e = .returned (.bool (varB s)) ∧ w' = w := isVariable_all s w

theorem nameB_no {s : ByteArray} {k : Nat} (hk : k < s.size) (h : alnB (byteAt s k) = false) : nameB s = false := by
  have h1 : alnTo s (k + 1) = false := by rw [alnTo_succ, h]; simp
  have h2 := alnTo_false (n := s.size) (by omega) h1
  simp [nameB, h2]

set_option maxHeartbeats 400000 in
theorem isName_any (s : ByteArray) (w : World) : Calls Tryz.prog 38 #[.string s] w fun e w' => e = .returned (.bool (nameB s)) ∧ w' = w := by
  by_cases h0 : s.size < 1
  · have hn : Hid (false = nameB s) := by simp [Hid, nameB]; omega
    go_enter Tryz.func38, Tryz.ntmps38
    go_wp2_with fail
    go_ret
    exact ⟨ret_bool hn.out, rfl⟩
  · by_cases h8 : 8 < s.size
    · have hn : Hid (false = nameB s) := by simp [Hid, nameB]; omega
      go_enter Tryz.func38, Tryz.ntmps38
      go_wp2_with fail
      all_goals (go_ret; exact ⟨ret_bool hn.out, rfl⟩)
    · have hb := hide (byteAt_of (s := s) (i := 0) (by omega))
      by_cases hd : digB (byteAt s 0) = true
      · have hn : Hid (false = nameB s) := by simp [Hid, nameB, hd]
        have hd' := hide hd
        clear hd
        go_enter Tryz.func38, Tryz.ntmps38
        go_wp2_with (go_at_call 51; refine (isDigit_any _ _).mono ?_; rintro e w' ⟨rfl, rfl⟩; rw [hb.out, hd'.out])
        all_goals (go_ret; exact ⟨ret_bool hn.out, rfl⟩)
      · have hd' : Hid (digB (byteAt s 0) = false) := by simpa [Hid] using hd
        clear hd
        go_enter Tryz.func38, Tryz.ntmps38
        go_wp2_with (go_at_call 51; refine (isDigit_any _ _).mono ?_; rintro e w' ⟨rfl, rfl⟩; rw [hb.out, hd'.out])
        go_loop [19] (fun i => ∃ k : Nat, k ≤ s.size ∧ i = .int .i64 k ∧ alnTo s k = true) (fun i => s.size - (intOf i).toNat)
        case atStart => exact ⟨0, Nat.zero_le _, rfl, rfl⟩
        case round =>
          obtain ⟨k, hk, rfl, ha⟩ := hrel
          have HA := hide ha
          clear ha
          by_cases hlt : k < s.size
          · have hbk := hide (byteAt_of hlt)
            have hsuc := hide (alnTo_succ s k)
            cases hl : letB (byteAt s k) with
            | true =>
              have HL := hide hl
              clear hl
              go_wp2_with (go_at_call 52; refine (isLetter_any _ _).mono ?_; rintro e w' ⟨rfl, rfl⟩; rw [hbk.out, HL.out])
              go_round
              case rel => exact ⟨k + 1, by omega, by go_num, by rw [hsuc.out, HA.out, alnB, HL.out]; rfl⟩
              case measure => simp [intOf]; omega
            | false =>
              have HL := hide hl
              clear hl
              cases hg : digB (byteAt s k) with
              | true =>
                have HG := hide hg
                clear hg
                go_wp2_with (first | (go_at_call 52; refine (isLetter_any _ _).mono ?_; rintro e w' ⟨rfl, rfl⟩; rw [hbk.out, HL.out]) | (go_at_call 51; refine (isDigit_any _ _).mono ?_; rintro e w' ⟨rfl, rfl⟩; rw [hbk.out, HG.out]))
                go_round
                case rel => exact ⟨k + 1, by omega, by go_num, by rw [hsuc.out, HA.out, alnB, HL.out, HG.out]; rfl⟩
                case measure => simp [intOf]; omega
              | false =>
                have HG := hide hg
                clear hg
                go_wp2_with (first | (go_at_call 52; refine (isLetter_any _ _).mono ?_; rintro e w' ⟨rfl, rfl⟩; rw [hbk.out, HL.out]) | (go_at_call 51; refine (isDigit_any _ _).mono ?_; rintro e w' ⟨rfl, rfl⟩; rw [hbk.out, HG.out]))
                go_ret
                exact ⟨ret_bool (nameB_no hlt (by rw [alnB, HL.out, HG.out]; rfl)).symm, rfl⟩
          · have hn : Hid (true = nameB s) := by
              have e : k = s.size := by omega
              have := HA.out
              rw [e] at this
              simp [Hid, nameB, this, hd'.out]; omega
            go_wp2_with fail
            go_ret
            exact ⟨ret_bool hn.out, rfl⟩

#print axioms isName_any
end Go.Proofs.YteojdfmdhgnmfaaGreat

/- Walks: counting knots with a bound; what is wrong with a term. -/
namespace Go.Proofs.YteojdfmdhgnmfaaGreat
open Go.RowKit
set_option linter.unusedSimpArgs false
set_option linter.unusedVariables false

theorem argsOf_any (s : ByteArray) (a : Option Addr) (n c : Nat) (w : World) :
    Calls Tryz.prog 37 #[.agg #[.string s, .slice a n c]] w fun e w' => e = .returned (.slice a n c) ∧ w' = w.alloc (.cells #[.string s, .slice a n c] 25) := by
  go_enter Tryz.func37, Tryz.ntmps37
  go_wp2_with fail
  go_ret
  exact ⟨rfl, rfl⟩

set_option maxHeartbeats 400000 in
theorem countOn_any (M : Int) (hM0 : 0 ≤ M) (hM1 : M ≤ 1000000) (t : Tm) : ∀ (v : Value) (n : Int) (w : World) (X : Nat → Prop), TV w X v t → 0 ≤ n → n ≤ M →
    Calls Tryz.prog 50 #[v, .func (.func 37) #[] #[], .int .i64 M, .int .i64 n] w fun e w' => e = .returned (.int .i64 (min (n + sizeL [t]) (M + 1))) ∧ Below w.heap.size w w' := by
  induction t using Tm.ind with
  | h s l ih =>
    intro v n w X hv hn0 hn1
    obtain ⟨a, c, rfl, hs⟩ := hv
    have IH := hide ih
    clear ih
    have hz : Hid ((sizeL [(⟨s, l⟩ : Tm)] : Int) = 1 + sizeL l) := by simp [Hid, sizeL]
    go_enter Tryz.func50, Tryz.ntmps50
    go_wp2_with (go_at_call 37; refine (argsOf_any _ _ _ _ _).mono ?_; rintro e w' ⟨rfl, rfl⟩)
    have hB0 : Hid (Below w.heap.size w ((w.alloc (Obj.cells #[Value.string s, Value.slice a l.length c] 25)).alloc (Obj.cells #[Value.string s, Value.slice a l.length c] 25))) := ((Below.refl _ _).alloc (Nat.le_refl _) _).alloc (by simp) _
    have hZ0 : Hid (w.heap.size + 2 ≤ ((w.alloc (Obj.cells #[Value.string s, Value.slice a l.length c] 25)).alloc (Obj.cells #[Value.string s, Value.slice a l.length c] 25)).heap.size) := by simp [Hid]
    generalize ((w.alloc (Obj.cells #[Value.string s, Value.slice a l.length c] 25)).alloc (Obj.cells #[Value.string s, Value.slice a l.length c] 25)) = w0 at *
    go_loopw [9, 18] (fun m i wr => ∃ k : Nat, k ≤ l.length ∧ i = .int .i64 k ∧ m = .int .i64 (min (n + 1 + sizeL (l.take k)) (M + 1)) ∧ Below w.heap.size w wr) (fun m i wr => l.length - (intOf i).toNat)
    case atStart => exact ⟨0, Nat.zero_le _, rfl, by rw [show sizeL (l.take 0) = 0 by simp [sizeL]]; congr 1; omega, hB0.out⟩
    case round =>
      obtain ⟨k, hk, rfl, rfl, hb⟩ := hrel
      have hl := hs.1
      have hsz : w.heap.size ≤ wr.heap.size := hb.size
      by_cases hlt : k < l.length
      · obtain ⟨b, o, a', c', rfl, d0, d1, hx⟩ := hs.get hb (fun _ _ h => h) k hlt
        by_cases hle : n + 1 + (sizeL (l.take k) : Int) ≤ M
        · have hmin : min (n + 1 + (sizeL (l.take k) : Int)) (M + 1) = n + 1 + (sizeL (l.take k) : Int) := by omega
          rw [hmin]
          go_wp2_with fail
          refine (IH.out _ (List.getElem_mem hlt) _ _ _ X (hx.alloc _) (by omega) (by omega)).mono ?_
          rintro e w1 ⟨rfl, hb1⟩
          have Hst := hide (sizeL_take l k hlt)
          go_wp2_with fail
          go_roundw
          case rel => exact ⟨k + 1, by omega, by go_num, by rw [Hst.out]; congr 1; omega, (hb.alloc hsz _).trans (hb1.mono (by simp; omega))⟩
          case measure => simp [intOf]; omega
        · have hmin : min (n + 1 + (sizeL (l.take k) : Int)) (M + 1) = M + 1 := by omega
          rw [hmin]
          have hle2 : sizeL (l.take k) ≤ sizeL l := sizeL_take_le l k
          go_wp2_with fail
          go_ret
          refine ⟨ret_int (by have := hz.out; omega), ?_⟩
          exact hb.alloc (by omega) _
      · have htk : l.take k = l := List.take_of_length_le (by omega)
        rw [htk]
        go_wp2_with fail
        go_ret
        exact ⟨ret_int (by have := hz.out; omega), hb⟩

theorem countT_any (M : Int) (hM0 : 0 ≤ M) (hM1 : M ≤ 1000000) (t : Tm) (v : Value) (w : World) (X : Nat → Prop) (hv : TV w X v t) :
    Calls Tryz.prog 36 #[v, .func (.func 37) #[] #[], .int .i64 M] w fun e w' => e = .returned (.int .i64 (min (sizeL [t] : Int) (M + 1))) ∧ Below w.heap.size w w' := by
  obtain ⟨a, c, rfl, hs⟩ := hv
  have hv : TV w X (.agg #[.string t.name, .slice a t.args.length c]) t := ⟨a, c, rfl, hs⟩
  go_enter Tryz.func36, Tryz.ntmps36
  go_wp2_with fail
  refine (countOn_any M hM0 hM1 t _ _ _ X (hv.alloc _) (by omega) (by omega)).mono ?_
  rintro e w1 ⟨rfl, hb1⟩
  go_wp2_with fail
  go_ret
  exact ⟨ret_int (by omega), ((Below.refl _ _).alloc (Nat.le_refl _) _).trans (hb1.mono (by simp))⟩

theorem count_any (M : Int) (hM0 : 0 ≤ M) (hM1 : M ≤ 1000000) (t : Tm) (v : Value) (w : World) (X : Nat → Prop) (hv : TV w X v t) :
    Calls Tryz.prog 23 #[v, .int .i64 M] w fun e w' => e = .returned (.int .i64 (min (sizeL [t] : Int) (M + 1))) ∧ Below w.heap.size w w' := by
  obtain ⟨a, c, rfl, hs⟩ := hv
  have hv : TV w X (.agg #[.string t.name, .slice a t.args.length c]) t := ⟨a, c, rfl, hs⟩
  go_enter Tryz.func23, Tryz.ntmps23
  go_wp2_with fail
  refine (countT_any M hM0 hM1 t _ _ X (hv.alloc _)).mono ?_
  rintro e w1 ⟨rfl, hb1⟩
  go_wp2_with fail
  go_ret
  exact ⟨ret_int (by omega), ((Below.refl _ _).alloc (Nat.le_refl _) _).trans (hb1.mono (by simp))⟩

/-- What is wrong, knot by knot: 0 nothing, 1 no name, 2 a variable with terms below it. -/
def errL : List Tm → Int
  | [] => 0
  | ⟨s, l⟩ :: r => if nameB s = true then (if (varB s && decide (0 < l.length)) = true then 2 else if errL l = 0 then errL r else errL l) else 1

theorem errL_cons (t : Tm) (r : List Tm) : errL (t :: r) = if errL [t] = 0 then errL r else errL [t] := by
  obtain ⟨s, l⟩ := t
  simp only [errL]
  split
  · split
    · simp
    · split <;> simp_all
  · simp

theorem errL_append (a b : List Tm) : errL (a ++ b) = if errL a = 0 then errL b else errL a := by
  induction a with
  | nil => simp [errL]
  | cons t r ih =>
    rw [List.cons_append, errL_cons, errL_cons t r, ih]
    by_cases h : errL [t] = 0 <;> simp [h]

theorem errL_take (l : List Tm) (k : Nat) (h : k < l.length) : errL (l.take (k + 1)) = if errL (l.take k) = 0 then errL [l[k]] else errL (l.take k) := by
  rw [List.take_succ_eq_append_getElem h, errL_append]

theorem errL_of_take {l : List Tm} {k : Nat} (h : errL (l.take k) ≠ 0) : errL l = errL (l.take k) := by
  have := errL_append (l.take k) (l.drop k)
  rw [List.take_append_drop, if_neg h] at this
  exact this

theorem name_pos {s : ByteArray} (h : nameB s = true) : 0 < s.size := by
  simp [nameB] at h; omega

set_option maxHeartbeats 400000 in
theorem checkKnots_any (t : Tm) : ∀ (v : Value) (w : World) (X : Nat → Prop), TV w X v t →
    Calls Tryz.prog 24 #[v] w fun e w' => e = .returned (.int .i64 (errL [t])) ∧ Below w.heap.size w w' := by
  induction t using Tm.ind with
  | h s l ih =>
    intro v w X hv
    obtain ⟨a, c, rfl, hs⟩ := hv
    have IH := hide ih
    clear ih
    have hl := hs.1
    cases hn : nameB s with
    | false =>
      have hz : Hid (1 = errL [(⟨s, l⟩ : Tm)]) := by simp [Hid, errL, hn]
      have HN := hide hn
      clear hn
      go_enter Tryz.func24, Tryz.ntmps24
      go_wp2_with (go_at_call 38; refine (isName_any _ _).mono ?_; rintro e w' ⟨rfl, rfl⟩; rw [HN.out])
      go_ret
      exact ⟨ret_int hz.out, (Below.refl _ _).alloc (Nat.le_refl _) _⟩
    | true =>
      have HN := hide hn
      have hpos := name_pos hn
      by_cases hvl : varB s = true ∧ 0 < l.length
      · obtain ⟨hv, hlp⟩ := hvl
        have hz : Hid (2 = errL [(⟨s, l⟩ : Tm)]) := by simp [Hid, errL, hn, hv, hlp]
        have HV := hide hv
        clear hn hv
        go_enter Tryz.func24, Tryz.ntmps24
        go_wp2_with (first | (go_at_call 38; refine (isName_any _ _).mono ?_; rintro e w' ⟨rfl, rfl⟩; rw [HN.out]) | (go_at_call 39; refine (isVariable_any _ _ hpos).mono ?_; rintro e w' ⟨rfl, rfl⟩; rw [HV.out]))
        go_ret
        exact ⟨ret_int hz.out, (Below.refl _ _).alloc (Nat.le_refl _) _⟩
      · have hz : Hid (errL [(⟨s, l⟩ : Tm)] = errL l) := by
          have : (varB s && decide (0 < l.length)) = false := by
            rw [Bool.eq_false_iff]; intro h; simp at h; exact hvl ⟨h.1, by omega⟩
          simp only [Hid, errL, hn, this]
          by_cases h0 : errL l = 0 <;> simp [h0]
        have hcase : (varB s = true ∧ l.length < 1) ∨ varB s = false := by
          cases hv : varB s with
          | true => exact Or.inl ⟨rfl, by apply Classical.byContradiction; intro h; exact hvl ⟨hv, by omega⟩⟩
          | false => exact Or.inr rfl
        clear hn hvl
        rcases hcase with ⟨hv, hl0⟩ | hv
        · have e0 : l = [] := List.length_eq_zero_iff.1 (by omega)
          subst e0
          have HV := hide hv
          clear hv
          go_enter Tryz.func24, Tryz.ntmps24
          go_wp2_with (first | (go_at_call 38; refine (isName_any _ _).mono ?_; rintro e w' ⟨rfl, rfl⟩; rw [HN.out]) | (go_at_call 39; refine (isVariable_any _ _ hpos).mono ?_; rintro e w' ⟨rfl, rfl⟩; rw [HV.out]))
          go_loop [22] (fun i => i = .int .i64 0) (fun i => 0)
          case atStart => rfl
          case round =>
            subst hrel
            have HZ : Hid (0 = errL [(⟨s, []⟩ : Tm)]) := by unfold Hid; rw [hz.out]; simp [errL]
            go_wp2_with fail
            go_ret
            exact ⟨ret_int HZ.out, (Below.refl _ _).alloc (Nat.le_refl _) _⟩
        · have HV := hide hv
          clear hv
          go_enter Tryz.func24, Tryz.ntmps24
          go_wp2_with (first | (go_at_call 38; refine (isName_any _ _).mono ?_; rintro e w' ⟨rfl, rfl⟩; rw [HN.out]) | (go_at_call 39; refine (isVariable_any _ _ hpos).mono ?_; rintro e w' ⟨rfl, rfl⟩; rw [HV.out]))
          go_loopw [22] (fun i wr => ∃ k : Nat, k ≤ l.length ∧ i = .int .i64 k ∧ errL (l.take k) = 0 ∧ Below (w.heap.size + 1) (w.alloc (Obj.cells #[Value.string s, Value.slice a l.length c] 25)) wr) (fun i wr => l.length - (intOf i).toNat)
          case atStart => exact ⟨0, Nat.zero_le _, rfl, by simp [errL], Below.refl _ _⟩
          case round =>
            obtain ⟨k, hk, rfl, he, hb⟩ := hrel
            have HE := hide he
            clear he
            have hsz : w.heap.size + 1 ≤ wr.heap.size := by have := hb.size; simpa using this
            by_cases hlt : k < l.length
            · obtain ⟨b, o, a', c', rfl, d0, d1, hx⟩ := hs.get (below_box hb) (fun _ _ h => h) k hlt
              have HT := hide (errL_take l k hlt)
              go_wp2_with fail
              refine (IH.out _ (List.getElem_mem hlt) _ _ X (hx.alloc _)).mono ?_
              rintro e w1 ⟨rfl, hb1⟩
              by_cases hez : errL [l[k]] = 0
              · have HZ := hide hez
                rw [hez]
                clear hez
                go_wp2_with fail
                go_roundw
                case rel => exact ⟨k + 1, by omega, by go_num, by rw [HT.out, HE.out, HZ.out]; rfl, (hb.alloc hsz _).trans (hb1.mono (by simp; omega))⟩
                case measure => simp [intOf]; omega
              · have hez' : (errL [l[k]] == 0) = false := by simpa using hez
                have HZ : Hid (errL [l[k]] = errL [(⟨s, l⟩ : Tm)]) := by
                  have h1 : errL (l.take (k + 1)) = errL [l[k]] := by rw [HT.out, HE.out]; rfl
                  unfold Hid
                  rw [hz.out, errL_of_take (l := l) (k := k + 1) (by rw [h1]; exact hez), h1]
                go_wp2_with fail
                go_ret
                exact ⟨ret_int HZ.out, ((below_box hb).alloc (by omega) _).trans (hb1.mono (by simp; omega))⟩
            · have htk : l.take k = l := List.take_of_length_le (by omega)
              have HZ : Hid (0 = errL [(⟨s, l⟩ : Tm)]) := by unfold Hid; rw [hz.out, ← htk, HE.out]
              go_wp2_with fail
              go_ret
              exact ⟨ret_int HZ.out, below_box hb⟩

/-- What is wrong with a term. -/
def mayE (t : Tm) : Int := if 200 < sizeL [t] then 3 else errL [t]

set_option maxHeartbeats 400000 in
theorem check_any (t : Tm) (v : Value) (w : World) (X : Nat → Prop) (hv : TV w X v t) :
    Calls Tryz.prog 13 #[v] w fun e w' => e = .returned (.int .i64 (mayE t)) ∧ Below w.heap.size w w' := by
  obtain ⟨a, c, rfl, hs⟩ := hv
  have hv : TV w X (.agg #[.string t.name, .slice a t.args.length c]) t := ⟨a, c, rfl, hs⟩
  go_enter Tryz.func13, Tryz.ntmps13
  go_wp2_with fail
  refine (count_any 200 (by omega) (by omega) t _ _ X (hv.alloc _)).mono ?_
  rintro e w1 ⟨rfl, hb1⟩
  have c0 : w1.cell? ⟨w.heap.size, 0, none⟩ = some (.string t.name) := by rw [hb1.cell (p := ⟨_, _, none⟩) (by simp)]; simp
  have c1 : w1.cell? ⟨w.heap.size, 1, none⟩ = some (.slice a t.args.length c) := by rw [hb1.cell (p := ⟨_, _, none⟩) (by simp)]; simp
  have hb2 : Below w.heap.size w w1 := ((Below.refl _ _).alloc (Nat.le_refl _) _).trans (hb1.mono (by simp))
  by_cases h : 200 < sizeL [t]
  · have hm : Hid (3 = mayE t) := by simp [Hid, mayE, h]
    have e : min (sizeL [t] : Int) (200 + 1) = 201 := by omega
    rw [e]
    go_wp2_with fail
    go_ret
    exact ⟨ret_int hm.out, hb2⟩
  · have hm : Hid (errL [t] = mayE t) := by simp [Hid, mayE, h]
    have e : min (sizeL [t] : Int) (200 + 1) = sizeL [t] := by omega
    rw [e]
    go_wp2_with fail
    refine (checkKnots_any t _ _ X (hv.later hb2)).mono ?_
    rintro e w2 ⟨rfl, hb3⟩
    go_wp2_with fail
    go_ret
    exact ⟨ret_int hm.out, hb2.trans (hb3.mono hb2.size)⟩
#print axioms check_any
end Go.Proofs.YteojdfmdhgnmfaaGreat

/- Rows of terms that a call makes. -/
namespace Go.Proofs.YteojdfmdhgnmfaaGreat
open Go.RowKit
set_option linter.unusedSimpArgs false
set_option linter.unusedVariables false

/-- These cells are these terms. -/
def RowT (w : World) (X : Nat → Prop) : List Tm → List Value → Prop
  | [], xs => xs = []
  | t :: l, xs => ∃ a c r, xs = .string t.name :: .slice a t.args.length c :: r ∧ Sl w X a t.args ∧ RowT w X l r

theorem RowT.len {w : World} {X : Nat → Prop} : ∀ {l : List Tm} {xs : List Value}, RowT w X l xs → xs.length = l.length * 2
  | [], xs, h => by simp [RowT] at h; simp [h]
  | t :: l, xs, h => by
    obtain ⟨a, c, r, rfl, _, h⟩ := h
    simp only [List.length_cons]
    rw [RowT.len h]; omega

theorem RowT.append {w : World} {X : Nat → Prop} : ∀ {l k : List Tm} {xs ys : List Value}, RowT w X l xs → RowT w X k ys → RowT w X (l ++ k) (xs ++ ys)
  | [], k, xs, ys, h, h' => by simp [RowT] at h; subst h; simpa using h'
  | t :: l, k, xs, ys, h, h' => by
    obtain ⟨a, c, r, rfl, hs, h⟩ := h
    exact ⟨a, c, r ++ ys, rfl, hs, RowT.append h h'⟩

theorem RowT.one {w : World} {X : Nat → Prop} : ∀ {l : List Tm} {xs : List Value}, RowT w X l xs → ∀ u ∈ xs, u.oneCell' = true
  | [], xs, h, u, hu => by simp [RowT] at h; subst h; cases hu
  | t :: l, xs, h, u, hu => by
    obtain ⟨a, c, r, rfl, _, h⟩ := h
    rcases List.mem_cons.1 hu with e | hu
    · subst e; rfl
    · rcases List.mem_cons.1 hu with e | hu
      · subst e; rfl
      · exact RowT.one h u hu

theorem RowT.imp {w w' : World} {X Y : Nat → Prop} (hs : ∀ a l, Sl w X a l → Sl w' Y a l) : ∀ {l : List Tm} {xs : List Value}, RowT w X l xs → RowT w' Y l xs
  | [], xs, h => h
  | t :: l, xs, h => by
    obtain ⟨a, c, r, e, h1, h⟩ := h
    exact ⟨a, c, r, e, hs _ _ h1, RowT.imp hs h⟩

theorem RowT.get {w : World} {X : Nat → Prop} : ∀ {l : List Tm} {xs : List Value}, RowT w X l xs → ∀ i (h : i < l.length),
    xs[i * 2]? = some (.string l[i].name) ∧ ∃ a c, xs[i * 2 + 1]? = some (.slice a l[i].args.length c) ∧ Sl w X a l[i].args
  | [], xs, h, i, hi => by simp at hi
  | t :: l, xs, h, i, hi => by
    obtain ⟨a, c, r, rfl, h1, h⟩ := h
    cases i with
    | zero => exact ⟨rfl, a, c, rfl, h1⟩
    | succ i =>
      have := RowT.get h i (by simpa using hi)
      rw [show (i + 1) * 2 = i * 2 + 2 by omega, show i * 2 + 2 + 1 = (i * 2 + 1) + 2 by omega]
      simpa using this

theorem sizeL_len (l : List Tm) : l.length ≤ sizeL l := by
  induction l with
  | nil => simp
  | cons t r ih => obtain ⟨s, k⟩ := t; simp only [List.length_cons, sizeL]; omega

/-- A row out of what lies. -/
theorem rowT_of_lies {w : World} {X : Nat → Prop} : ∀ (l : List Tm) (b o : Nat), Lies w X b o l → ∃ xs, RowT w X l xs ∧ ∀ j u, xs[j]? = some u → w.cell? ⟨b, o + j, none⟩ = some u := by
  intro l
  induction l with
  | nil => intro b o _; exact ⟨[], rfl, by simp⟩
  | cons t r ih =>
    intro b o h
    obtain ⟨s, k⟩ := t
    simp only [Lies] at h
    obtain ⟨hx, h1, ⟨a, c, h2, h3, h4⟩, h5⟩ := h
    obtain ⟨xs, hr, hc⟩ := ih b (o + 2) h5
    refine ⟨.string s :: .slice a k.length c :: xs, ⟨a, c, xs, rfl, ⟨h3, h4⟩, hr⟩, fun j u hj => ?_⟩
    match j, hj with
    | 0, hj => simp at hj; subst hj; exact h1
    | 1, hj => simp at hj; subst hj; exact h2
    | j + 2, hj => rw [show o + (j + 2) = o + 2 + j by omega]; exact hc j u (by simpa using hj)

theorem lies_of_rowT {w w' : World} {X Y : Nat → Prop} (b : Nat) (hb : Y b) : ∀ (l : List Tm) (xs : List Value) (o : Nat), RowT w X l xs → (∀ a k, Sl w X a k → Sl w' Y a k) → (∀ j u, xs[j]? = some u → w'.cell? ⟨b, o + j, none⟩ = some u) → Lies w' Y b o l := by
  intro l
  induction l with
  | nil => intro xs o _ _ _; simp [Lies]
  | cons t r ih =>
    intro xs o h hs hc
    obtain ⟨s, k⟩ := t
    obtain ⟨a, c, r', rfl, h1, h2⟩ := h
    simp only [Lies]
    obtain ⟨h3, h4⟩ := hs _ _ h1
    refine ⟨hb, hc 0 _ rfl, ⟨a, c, hc 1 _ rfl, h3, h4⟩, ih r' (o + 2) h2 hs fun j u hj => ?_⟩
    have := hc (j + 2) u (by simpa using hj)
    rwa [show o + (j + 2) = o + 2 + j by omega] at this

/-- The knots, each ahead of those below it. -/
def preL : List Tm → List Tm
  | [] => []
  | ⟨s, l⟩ :: r => ⟨s, l⟩ :: (preL l ++ preL r)

theorem preL_append (a b : List Tm) : preL (a ++ b) = preL a ++ preL b := by
  induction a with
  | nil => simp [preL]
  | cons t r ih => obtain ⟨s, l⟩ := t; simp [preL, ih]

theorem preL_take (l : List Tm) (k : Nat) (h : k < l.length) : preL (l.take (k + 1)) = preL (l.take k) ++ preL [l[k]] := by
  rw [List.take_succ_eq_append_getElem h, preL_append]

theorem preL_length (l : List Tm) : (preL l).length = sizeL l := by
  induction l using Tm.indL with
  | h0 => simp [preL, sizeL]
  | h s l r ihl ihr => simp [preL, sizeL, ihl, ihr]; omega

/-- Old memory, told by the world that was. -/
theorem Sl.back {w w' : World} {X : Nat → Prop} {a : Option Addr} {l : List Tm} {B : Nat} (h : Sl w' X a l) (hb : Below B w w') (hX : ∀ b, X b → b < B) : Sl w X a l :=
  h.kept fun b hx => (hb.block b (hX b hx)).symm

/-- What a row that is owned says of the slice. -/
theorem owned_val {w : World} {base e size : Nat} {v : Value} {n : Nat} {xs : List Value} (h : w.ownsRow base e size v n xs) (hn : 0 < n) :
    ∃ g cap, v = .slice (some ⟨g, 0, none⟩) n cap ∧ base ≤ g ∧ g < w.heap.size ∧ ∀ j u, xs[j]? = some u → w.cell? ⟨g, j, none⟩ = some u := by
  have h' := h
  obtain ⟨hl, h1⟩ := h
  rcases h1 with ⟨_, h0⟩ | ⟨g, cap, cur, hv, hg, hh, _⟩
  · omega
  · subst hv
    have hlt := (h'.lt g rfl).2
    refine ⟨g, cap, rfl, hg, hlt, fun j u hj => ?_⟩
    have := h'.cells (g := g) rfl j u hj
    by_cases h0 : j = 0
    · subst h0; simpa [Addr.add] using this
    · simpa [Addr.add, h0] using this

/-- An append whose outcome is known. -/
theorem wpList_append_eq {P : Program} {ops : Array Oper} {rest : List Oper} {o : Oper} {a : Act} {Q : Exit → Act → World → Prop} {w w' : World} {v u v' : Value} (hgd : o.guard = none) (s x : Operand) (t t' : TypeId)
    (ho : o.op = .call { callee := .builtin .append, args := #[s, x], argTypes := #[t, t'] }) (hs : a.eval s = v) (hx : a.eval x = u)
    (hr : (Builtin.append_ #[t, t'] o.type #[v, u]).run P w = .ok v' w') (h : wpList P ops Q rest (a.put o.dst v') w') : wpList P ops Q (o :: rest) a w :=
  wpList_plain hgd fun K hK => by
    unfold Oper.wp execOp
    simp only [ho, resolve, invoke, builtin, Sem.run_bind, Sem.run_pure, Result.andThen_ok, List.map_toArray, List.map_cons, List.map_nil, hs, hx, hr]
    exact hK _ _ h

#print axioms lies_of_rowT
end Go.Proofs.YteojdfmdhgnmfaaGreat


/- Walks: all knots of a term. -/
namespace Go.Proofs.YteojdfmdhgnmfaaGreat
open Go.RowKit
set_option linter.unusedSimpArgs false
set_option linter.unusedVariables false

theorem Tryz.infoTerm : (Tryz.prog.info? 25).map (fun i => (i.zero, i.size, i.bytes)) = some (some (.agg #[.string ByteArray.empty, .slice none 0 0]), 2, 40) := by kernel_rfl

theorem ownsRow_base {w : World} {base base' e size : Nat} {v : Value} {n : Nat} {xs : List Value} (h : w.ownsRow base e size v n xs) (hb : base' ≤ base) : w.ownsRow base' e size v n xs := by
  obtain ⟨h0, h1⟩ := h
  refine ⟨h0, ?_⟩
  rcases h1 with h1 | ⟨g, cap, cur, hv, hg, r⟩
  · exact Or.inl h1
  · exact Or.inr ⟨g, cap, cur, hv, Nat.le_trans hb hg, r⟩

end Go.Proofs.YteojdfmdhgnmfaaGreat


/- Walks: what the document says of a term. -/
namespace Go.Proofs.YteojdfmdhgnmfaaGreat
open Go.RowKit
set_option linter.unusedSimpArgs false
set_option linter.unusedVariables false

def kErr (t : Tm) : Int := if nameB t.name = true then (if (varB t.name && decide (0 < t.args.length)) = true then 2 else 0) else 1
def errP : List Tm → Int
  | [] => 0
  | t :: r => if kErr t = 0 then errP r else kErr t
theorem errP_append (a b : List Tm) : errP (a ++ b) = if errP a = 0 then errP b else errP a := by
  induction a with
  | nil => simp [errP]
  | cons t r ih => simp only [List.cons_append, errP, ih]; by_cases h : kErr t = 0 <;> simp [h]
theorem errL_preL (l : List Tm) : errL l = errP (preL l) := by
  induction l using Tm.indL with
  | h0 => simp [errL, preL, errP]
  | h s l r ihl ihr =>
    simp only [errL, preL, errP, errP_append, ← ihl, ← ihr, kErr]
    by_cases h1 : nameB s = true
    · by_cases h2 : (varB s && decide (0 < l.length)) = true
      · simp only [h1, h2, if_true]; simp
      · simp only [h1, if_true]; rw [if_neg h2, if_neg h2]; simp
    · rw [if_neg h1, if_neg h1]; simp
theorem errP_take (l : List Tm) (k : Nat) (h : k < l.length) : errP (l.take (k + 1)) = if errP (l.take k) = 0 then kErr l[k] else errP (l.take k) := by
  rw [List.take_succ_eq_append_getElem h, errP_append]
  congr 1
  simp only [errP]
  by_cases h : kErr l[k] = 0 <;> simp [h]
theorem errP_of_take {l : List Tm} {k : Nat} (h : errP (l.take k) ≠ 0) : errP l = errP (l.take k) := by
  have := errP_append (l.take k) (l.drop k)
  rw [List.take_append_drop, if_neg h] at this
  exact this
theorem errP_at {l : List Tm} {k : Nat} (h : k < l.length) (h0 : errP (l.take k) = 0) (h1 : kErr l[k] ≠ 0) : errP l = kErr l[k] := by
  have e := errP_take l k h
  rw [if_pos h0] at e
  rw [← e]
  exact errP_of_take (by rw [e]; exact h1)

/-- What is wrong with the first, else with the second. -/
def twoE (t x : Tm) : Int := if mayE t = 0 then mayE x else mayE t

end Go.Proofs.YteojdfmdhgnmfaaGreat

/- Walks: what stands at a place. -/
namespace Go.Proofs.YteojdfmdhgnmfaaGreat
open Go.RowKit
set_option linter.unusedSimpArgs false
set_option linter.unusedVariables false

/-- What stands at a place. -/
def atT : Tm → List Int → Option Tm
  | t, [] => some t
  | t, i :: r => if h : 0 ≤ i ∧ i.toNat < t.args.length then atT (t.args[i.toNat]'h.2) r else none

/-- A list of numbers in memory. -/
def PV (w : World) (X : Nat → Prop) (v : Value) (zs : List Int) : Prop :=
  ∃ a c, v = .slice a zs.length c ∧ (zs.length ≤ 9223372036854775807 ∧ zs.length ≤ c) ∧ (zs = [] ∨ ∃ b o, a = some ⟨b, o, none⟩ ∧ X b ∧ ∀ i (h : i < zs.length), w.cell? ⟨b, o + i, none⟩ = some (.int .i64 zs[i]))

theorem PV.kept {w w' : World} {X : Nat → Prop} {v : Value} {zs : List Int} (h : PV w X v zs) (hk : ∀ b, X b → w'.heap[b]? = w.heap[b]?) : PV w' X v zs := by
  obtain ⟨a, c, e, hl, h⟩ := h
  refine ⟨a, c, e, hl, ?_⟩
  rcases h with h | ⟨b, o, e, hx, h⟩
  · exact Or.inl h
  · exact Or.inr ⟨b, o, e, hx, fun i hi => by rw [World.cell?_of_block (hk b hx)]; exact h i hi⟩

theorem PV.mono {w : World} {X Y : Nat → Prop} {v : Value} {zs : List Int} (h : PV w X v zs) (hk : ∀ b, X b → b < w.heap.size → Y b) : PV w Y v zs := by
  obtain ⟨a, c, e, hl, h⟩ := h
  refine ⟨a, c, e, hl, ?_⟩
  rcases h with h | ⟨b, o, e, hx, h⟩
  · exact Or.inl h
  · by_cases h0 : zs = []
    · exact Or.inl h0
    · have hp : 0 < zs.length := List.length_pos_iff.2 h0
      exact Or.inr ⟨b, o, e, hk b hx (World.block_lt_of_cell? w _ (h 0 hp)), h⟩

theorem PV.below {w w' : World} {X : Nat → Prop} {v : Value} {zs : List Int} {B : Nat} (h : PV w X v zs) (hb : Below B w w') (hX : ∀ b, X b → b < w.heap.size → b < B) : PV w' X v zs := by
  have h1 : PV w (fun b => X b ∧ b < B) v zs := h.mono fun b hx hs => ⟨hx, hX b hx hs⟩
  have h2 : PV w' (fun b => X b ∧ b < B) v zs := h1.kept fun b hx => hb.block b hx.2
  exact h2.mono fun b hx _ => hx.1

theorem PV.later {w w' : World} {X : Nat → Prop} {v : Value} {zs : List Int} (h : PV w X v zs) (hb : Below w.heap.size w w') : PV w' X v zs := h.below hb (fun _ _ h => h)
theorem PV.alloc {w : World} {X : Nat → Prop} {v : Value} {zs : List Int} (h : PV w X v zs) (o : Obj) : PV (w.alloc o) X v zs := h.later ((Below.refl _ _).alloc (Nat.le_refl _) o)

/-- The empty term's value. -/
def zeroT : Value := .agg #[.string ⟨#[]⟩, .slice none 0 0]

theorem below2 {w : World} (o1 o2 : Obj) : Below w.heap.size w ((w.alloc o1).alloc o2) := ((Below.refl _ _).alloc (Nat.le_refl _) _).alloc (by simp) _

set_option maxHeartbeats 400000 in
theorem find_any (t : Tm) (zs : List Int) (v p : Value) (w : World) (X : Nat → Prop) (hv : TV w X v t) (hp : PV w X p zs) :
    Calls Tryz.prog 14 #[v, p] w fun e w' => ∃ v', e = .returned (.tuple #[v', .bool (atT t zs).isSome]) ∧ (∀ x, atT t zs = some x → TV w X v' x) ∧ (atT t zs = none → v' = zeroT) ∧ Below w.heap.size w w' := by
  obtain ⟨a, c, rfl, hs⟩ := hv
  obtain ⟨pa, pc, rfl, hzl, hz⟩ := hp
  go_enter Tryz.func14, Tryz.ntmps14
  go_wp2_with fail
  go_loopw [10, 7] (fun i j wr => ∃ (k : Nat) (tk : Tm) (a : Option Addr) (c : Nat), k ≤ zs.length ∧ i = .int .i64 k ∧ Sl w X a tk.args ∧ atT t zs = atT tk (zs.drop k) ∧ wr = (w.alloc (.cells #[.string tk.name, .slice a tk.args.length c] 25)).alloc (.cells #[.string ⟨#[]⟩, .slice none 0 0] 25)) (fun i j wr => zs.length - (intOf i).toNat)
  case atStart => exact ⟨0, t, a, c, Nat.zero_le _, rfl, hs, rfl, rfl⟩
  case round =>
    obtain ⟨k, tk, a1, c1, hk, rfl, hs1, hat, rfl⟩ := hrel
    have HAT := hide hat
    clear hat
    by_cases hlt : k < zs.length
    · obtain ⟨b, o, rfl, hx, hcell⟩ := hz.resolve_left (fun h => by rw [h] at hlt; simp at hlt)
      have hcx := (below2 (w := w) (.cells #[.string tk.name, .slice a1 tk.args.length c1] 25) (.cells #[.string ⟨#[]⟩, .slice none 0 0] 25)).cell (p := ⟨b, o + k, none⟩) (World.block_lt_of_cell? w _ (hcell k hlt))
      rw [hcell k hlt] at hcx
      have HD := hide (List.drop_eq_getElem_cons hlt)
      have htl := hs1.1
      by_cases hin : 0 ≤ zs[k] ∧ zs[k].toNat < tk.args.length
      · obtain ⟨hi0, hi1⟩ := hin
        obtain ⟨b1, o1, a2, c2, rfl, e0, e1, hx2⟩ := hs1.get (Below.refl w.heap.size w) (fun _ _ h => h) _ hi1
        have d0 := cell_later (below2 (w := w) (.cells #[.string tk.name, .slice (some ⟨b1, o1, none⟩) tk.args.length c1] 25) (.cells #[.string ⟨#[]⟩, .slice none 0 0] 25)) e0
        have d1 := cell_later (below2 (w := w) (.cells #[.string tk.name, .slice (some ⟨b1, o1, none⟩) tk.args.length c1] 25) (.cells #[.string ⟨#[]⟩, .slice none 0 0] 25)) e1
        clear e0 e1
        have HX2 : Hid (Sl w X a2 tk.args[zs[k].toNat].args) := by
          obtain ⟨a3, c3, h3, h4⟩ := hx2
          simp at h3
          rw [h3.1]
          exact h4
        have HAT2 : Hid (atT t zs = atT (tk.args[zs[k].toNat]) (zs.drop (k + 1))) := by
          unfold Hid; rw [HAT.out, HD.out]; simp only [atT]; rw [dif_pos ⟨hi0, hi1⟩]
        have hz0 : ¬ zs[k] < 0 := by omega
        have hz1 : zs[k] < (tk.args.length : Int) := by omega
        go_wp2_with fail
        go_roundw
        case rel => exact ⟨k + 1, tk.args[zs[k].toNat], a2, c2, by omega, by go_num, HX2.out, HAT2.out, rfl⟩
        case measure => simp [intOf]; omega
      · have HN : Hid (atT t zs = none) := by
          unfold Hid; rw [HAT.out, HD.out]; simp only [atT]; rw [dif_neg hin]
        have hcase : zs[k] < 0 ∨ (¬ zs[k] < 0 ∧ (tk.args.length : Int) ≤ zs[k]) := by omega
        rcases hcase with h0 | ⟨h0, h1⟩
        all_goals
          go_wp2_with fail
          refine bodyPost_ret (v := .tuple #[zeroT, .bool false]) (by simp [results, Tryz.results14, go_sem, zeroT]) rfl ⟨_, by rw [HN.out]; rfl, ?_, fun _ => rfl, below2 _ _⟩
          intro x hx
          rw [HN.out] at hx
          cases hx
    · have HS : Hid (atT t zs = some tk) := by
        unfold Hid; rw [HAT.out, List.drop_eq_nil_of_le (by omega)]; simp only [atT]
      go_wp2_with fail
      refine bodyPost_ret (v := .tuple #[.agg #[.string tk.name, .slice a1 tk.args.length c1], .bool true]) (by simp [results, Tryz.results14, go_sem]) rfl ⟨_, by rw [HS.out]; rfl, ?_, ?_, below2 _ _⟩
      · intro x hx
        rw [HS.out] at hx
        obtain rfl := Option.some.inj hx
        exact ⟨a1, c1, rfl, hs1⟩
      · intro h; rw [HS.out] at h; cases h
#print axioms find_any
end Go.Proofs.YteojdfmdhgnmfaaGreat


/- Walks: what stands at a place, as the document says. -/
namespace Go.Proofs.YteojdfmdhgnmfaaGreat
open Go.RowKit
set_option linter.unusedSimpArgs false
set_option linter.unusedVariables false

theorem isome_none {α : Type} {o : Option α} (h : o = none) : o.isSome = false := by rw [h]; rfl
theorem isome_some {α : Type} {o : Option α} {x : α} (h : o = some x) : o.isSome = true := by rw [h]; rfl

theorem PV.tail {w : World} {X : Nat → Prop} {b o c : Nat} {z : Int} {zs : List Int} (hl : zs.length + 1 ≤ 9223372036854775807 ∧ zs.length + 1 ≤ c) (hx : X b) (h : ∀ i (h : i < (z :: zs).length), w.cell? ⟨b, o + i, none⟩ = some (.int .i64 (z :: zs)[i])) :
    PV w X (.slice (some ⟨b, o + 1, none⟩) zs.length (c - 1)) zs := by
  refine ⟨_, _, rfl, by omega, Or.inr ⟨b, o + 1, rfl, hx, fun i hi => ?_⟩⟩
  have := h (i + 1) (by simpa using hi)
  rw [show o + 1 + i = o + (i + 1) by omega]
  simpa using this

theorem TV.back {w w' : World} {X : Nat → Prop} {v : Value} {t : Tm} {B : Nat} (h : TV w' X v t) (hb : Below B w w') (hX : ∀ b, X b → b < B) : TV w X v t := by
  obtain ⟨a, c, e, h⟩ := h
  exact ⟨a, c, e, h.back hb hX⟩

theorem tvform {w : World} {X : Nat → Prop} {v' : Value} {o : Option Tm} (h1 : ∀ x, o = some x → TV w X v' x) (h2 : o = none → v' = zeroT) : ∃ s a n c, v' = .agg #[.string s, .slice a n c] := by
  cases o with
  | none => exact ⟨_, _, _, _, h2 rfl⟩
  | some x => obtain ⟨a, c, e, _⟩ := h1 x rfl; exact ⟨_, _, _, _, e⟩

theorem below_tv {w w' : World} {X : Nat → Prop} {v : Value} {t : Tm} (hb : Below w.heap.size w w') (h : TV w X v t) : TV w' X v t := h.later hb

theorem res_cell0 {w w1 : World} {o1 : Obj} {x0 x1 : Value} {T n : Nat} (hb : Below (((w.alloc o1).alloc (.cells #[x0, x1] T)).drewN n).heap.size (((w.alloc o1).alloc (.cells #[x0, x1] T)).drewN n) w1) : w1.cell? ⟨w.heap.size + 1, 0, none⟩ = some x0 := by rw [hb.cell (p := ⟨_, _, none⟩) (by simp)]; simp
theorem res_cell1 {w w1 : World} {o1 : Obj} {x0 x1 : Value} {T n : Nat} (hb : Below (((w.alloc o1).alloc (.cells #[x0, x1] T)).drewN n).heap.size (((w.alloc o1).alloc (.cells #[x0, x1] T)).drewN n) w1) : w1.cell? ⟨w.heap.size + 1, 1, none⟩ = some x1 := by rw [hb.cell (p := ⟨_, _, none⟩) (by simp)]; simp
theorem res_frozen {w w1 : World} {o1 : Obj} {x0 x1 : Value} {T n : Nat} (hb : Below (((w.alloc o1).alloc (.cells #[x0, x1] T)).drewN n).heap.size (((w.alloc o1).alloc (.cells #[x0, x1] T)).drewN n) w1) : ∀ i, w1.frozen? ⟨w.heap.size + 1, i, none⟩ = false := by intro i; rw [hb.frozen (p := ⟨_, _, none⟩) (by simp)]; simp

theorem res_box1 {w w1 : World} {y0 y1 : Value} {o2 : Obj} {T n : Nat} (hb : Below (((w.alloc (.cells #[y0, y1] T)).alloc o2).drewN n).heap.size (((w.alloc (.cells #[y0, y1] T)).alloc o2).drewN n) w1) : w1.cell? ⟨w.heap.size, 1, none⟩ = some y1 := by rw [hb.cell (p := ⟨_, _, none⟩) (by simp; omega)]; simp
theorem res_old {w w1 : World} {o1 o2 : Obj} {n : Nat} {p : Addr} {v : Value} (hb : Below (((w.alloc o1).alloc o2).drewN n).heap.size (((w.alloc o1).alloc o2).drewN n) w1) (h : w.cell? p = some v) : w1.cell? p = some v :=
  cell_later ((below_drewN (below2 o1 o2) n).trans (hb.mono (by simp; omega))) h
theorem set2_keep {w : World} {K i j : Nat} {u u' v : Value} {p : Addr} (h : w.cell? p = some v) (hp : p.block ≠ K) : ((w.setCell ⟨K, i, none⟩ u).setCell ⟨K, j, none⟩ u').cell? p = some v := by
  rw [World.cell?_of_block (Below.heap_setCell _ _ _ _ (by simpa using hp)), World.cell?_of_block (Below.heap_setCell _ _ _ _ (by simpa using hp)), h]
theorem held4 {w : World} {K i j : Nat} {u u' v1 v2 v3 v4 : Value} {p1 p2 p3 p4 : Addr} (h : w.cell? p1 = some v1 ∧ w.cell? p2 = some v2 ∧ w.cell? p3 = some v3 ∧ w.cell? p4 = some v4) (h1 : p1.block ≠ K) (h2 : p2.block ≠ K) (h3 : p3.block ≠ K) (h4 : p4.block ≠ K) :
    ((w.setCell ⟨K, i, none⟩ u).setCell ⟨K, j, none⟩ u').cell? p1 = some v1 ∧ ((w.setCell ⟨K, i, none⟩ u).setCell ⟨K, j, none⟩ u').cell? p2 = some v2 ∧ ((w.setCell ⟨K, i, none⟩ u).setCell ⟨K, j, none⟩ u').cell? p3 = some v3 ∧ ((w.setCell ⟨K, i, none⟩ u).setCell ⟨K, j, none⟩ u').cell? p4 = some v4 :=
  ⟨set2_keep h.1 h1, set2_keep h.2.1 h2, set2_keep h.2.2.1 h3, set2_keep h.2.2.2 h4⟩

end Go.Proofs.YteojdfmdhgnmfaaGreat


/- Walks: two terms that are the same. -/
namespace Go.Proofs.YteojdfmdhgnmfaaGreat
open Go.RowKit
set_option linter.unusedSimpArgs false
set_option linter.unusedVariables false

theorem same_cells {w w1 : World} {n : Nat} {p1 p2 p3 p4 p5 p6 : Addr} {v1 v2 v3 v4 v5 v6 : Value} (hb : Below (w.drewN n).heap.size (w.drewN n) w1)
    (h : w.cell? p1 = some v1 ∧ w.cell? p2 = some v2 ∧ w.cell? p3 = some v3 ∧ w.cell? p4 = some v4 ∧ w.cell? p5 = some v5 ∧ w.cell? p6 = some v6) :
    w1.cell? p1 = some v1 ∧ w1.cell? p2 = some v2 ∧ w1.cell? p3 = some v3 ∧ w1.cell? p4 = some v4 ∧ w1.cell? p5 = some v5 ∧ w1.cell? p6 = some v6 := by
  have hb' : Below w.heap.size w w1 := (below_drewN (Below.refl _ _) n).trans (hb.mono (by simp))
  exact ⟨cell_later hb' h.1, cell_later hb' h.2.1, cell_later hb' h.2.2.1, cell_later hb' h.2.2.2.1, cell_later hb' h.2.2.2.2.1, cell_later hb' h.2.2.2.2.2⟩

end Go.Proofs.YteojdfmdhgnmfaaGreat

/- Bindings in memory. -/
namespace Go.Proofs.YteojdfmdhgnmfaaGreat
open Go.RowKit
set_option linter.unusedSimpArgs false
set_option linter.unusedVariables false

/-- A variable and what stands for it. -/
structure Bd where
  nm : ByteArray
  t : Tm

/-- A list of bindings in memory. -/
def BV (w : World) (X : Nat → Prop) (v : Value) (l : List Bd) : Prop :=
  ∃ a c, v = .slice a l.length c ∧ (l.length ≤ 9223372036854775807 ∧ l.length ≤ c) ∧ (l = [] ∨ ∃ b o, a = some ⟨b, o, none⟩ ∧ X b ∧ ∀ i (h : i < l.length), w.cell? ⟨b, o + i * 3, none⟩ = some (.string l[i].nm) ∧ w.cell? ⟨b, o + i * 3 + 1, none⟩ = some (.string l[i].t.name) ∧ ∃ a' c', w.cell? ⟨b, o + i * 3 + 2, none⟩ = some (.slice a' l[i].t.args.length c') ∧ Sl w X a' l[i].t.args)

theorem BV.kept {w w' : World} {X : Nat → Prop} {v : Value} {l : List Bd} (h : BV w X v l) (hk : ∀ b, X b → w'.heap[b]? = w.heap[b]?) : BV w' X v l := by
  obtain ⟨a, c, e, hl, h⟩ := h
  refine ⟨a, c, e, hl, ?_⟩
  rcases h with h | ⟨b, o, ea, hX, h⟩
  · exact Or.inl h
  · refine Or.inr ⟨b, o, ea, hX, fun i hi => ?_⟩
    obtain ⟨h1, h2, a', c', h3, h4⟩ := h i hi
    have hb := hk b hX
    exact ⟨by simpa [World.cell?, hb] using h1, by simpa [World.cell?, hb] using h2, a', c', by simpa [World.cell?, hb] using h3, h4.kept hk⟩
theorem cell_lt {w : World} {b o : Nat} {v : Value} (h : w.cell? ⟨b, o, none⟩ = some v) : b < w.heap.size := by
  rcases Nat.lt_or_ge b w.heap.size with h' | h'
  · exact h'
  · simp [World.cell?, Array.getElem?_eq_none h'] at h
theorem BV.mono {w : World} {X Y : Nat → Prop} {v : Value} {l : List Bd} (h : BV w X v l) (hk : ∀ b, X b → b < w.heap.size → Y b) : BV w Y v l := by
  obtain ⟨a, c, e, hl, h⟩ := h
  refine ⟨a, c, e, hl, ?_⟩
  rcases h with h | ⟨b, o, ea, hX, h⟩
  · exact Or.inl h
  · by_cases h0 : l = []
    · exact Or.inl h0
    · have hp : 0 < l.length := List.length_pos_iff.2 h0
      refine Or.inr ⟨b, o, ea, hk b hX (cell_lt (h 0 hp).1), fun i hi => ?_⟩
      obtain ⟨h1, h2, a', c', h3, h4⟩ := h i hi
      exact ⟨h1, h2, a', c', h3, h4.mono hk⟩
theorem BV.later {w w' : World} {X : Nat → Prop} {v : Value} {l : List Bd} (h : BV w X v l) (hb : Below w.heap.size w w') : BV w' X v l :=
  ((h.mono (Y := fun b => X b ∧ b < w.heap.size) fun b h1 h2 => ⟨h1, h2⟩).kept fun b hx => hb.block b hx.2).mono fun b hx _ => hx.1
theorem BV.alloc {w : World} {X : Nat → Prop} {v : Value} {l : List Bd} (h : BV w X v l) (o : Obj) : BV (w.alloc o) X v l := h.later ((Below.refl _ _).alloc (Nat.le_refl _) o)
theorem BV.get {w : World} {X : Nat → Prop} {a : Option Addr} {n c : Nat} {l : List Bd} (h : BV w X (.slice a n c) l) (i : Nat) (hi : i < l.length) :
    ∃ b o a' c', a = some ⟨b, o, none⟩ ∧ w.cell? ⟨b, o + i * 3, none⟩ = some (.string l[i].nm) ∧ w.cell? ⟨b, o + i * 3 + 1, none⟩ = some (.string l[i].t.name) ∧ w.cell? ⟨b, o + i * 3 + 2, none⟩ = some (.slice a' l[i].t.args.length c') ∧ Sl w X a' l[i].t.args := by
  obtain ⟨a2, c2, e, hl, h⟩ := h
  simp at e
  obtain ⟨rfl, rfl, rfl⟩ := e
  rcases h with h | ⟨b, o, ea, hX, h⟩
  · subst h; simp at hi
  · obtain ⟨h1, h2, a', c', h3, h4⟩ := h i hi
    exact ⟨b, o, a', c', ea, h1, h2, h3, h4⟩

theorem bytes_inj {a b : ByteArray} (h : a.toList = b.toList) : a = b := by
  rw [ByteArray.toList_eq, ByteArray.toList_eq] at h
  cases a with
  | mk x =>
    cases b with
    | mk y => congr 1; exact Array.toList_inj.1 h
theorem bytes_yes {a b : ByteArray} (h : a = b) : (a.toList == b.toList) = true := by rw [h]; simp
theorem bytes_no {a b : ByteArray} (h : a ≠ b) : (a.toList == b.toList) = false := beq_eq_false_iff_ne.2 fun e => h (bytes_inj e)

/-- What stands for a variable. -/
def forT : List Bd → ByteArray → Option Tm
  | [], _ => none
  | d :: r, n => if d.nm = n then some d.t else forT r n
theorem forT_take {l : List Bd} {n : ByteArray} {k : Nat} (hk : k < l.length) (h : forT (l.take k) n = none) : (l[k].nm = n → forT l n = some l[k].t) ∧ (l[k].nm ≠ n → forT (l.take (k + 1)) n = none) := by
  induction l generalizing k with
  | nil => simp at hk
  | cons d r ih =>
    cases k with
    | zero =>
      refine ⟨fun e => ?_, fun e => ?_⟩
      · simp only [List.getElem_cons_zero] at e; simp [forT, e]
      · simp only [List.getElem_cons_zero] at e; simp [forT, e]
    | succ k =>
      simp only [List.take_succ_cons, forT] at h
      by_cases hd : d.nm = n
      · rw [if_pos hd] at h; cases h
      · rw [if_neg hd] at h
        obtain ⟨h1, h2⟩ := ih (by simpa using hk) h
        refine ⟨fun e => ?_, fun e => ?_⟩
        · rw [forT, if_neg hd]; exact h1 (by simpa using e)
        · rw [List.take_succ_cons, forT, if_neg hd]; exact h2 (by simpa using e)
end Go.Proofs.YteojdfmdhgnmfaaGreat


/- Walks: whether two terms are the same. -/
namespace Go.Proofs.YteojdfmdhgnmfaaGreat
open Go.RowKit
set_option linter.unusedSimpArgs false
set_option linter.unusedVariables false
set_option maxRecDepth 8000

def eqL : List Tm → List Tm → Bool
  | [], [] => true
  | ⟨s, a⟩ :: r, t :: ts => ((s.toList == t.name.toList) && ((a.length == t.args.length) && eqL a t.args)) && eqL r ts
  | _, _ => false
/-- Two terms are the same. -/
def sameB (a b : Tm) : Bool := (a.name.toList == b.name.toList) && ((a.args.length == b.args.length) && eqL a.args b.args)
theorem eqL_cons (x t : Tm) (r ts : List Tm) : eqL (x :: r) (t :: ts) = (sameB x t && eqL r ts) := by obtain ⟨s, a⟩ := x; simp only [eqL, sameB]
theorem eqL_append : ∀ (a b c d : List Tm), a.length = b.length → eqL (a ++ c) (b ++ d) = (eqL a b && eqL c d)
  | [], [], c, d, _ => by simp [eqL]
  | [], _ :: _, _, _, h => by simp at h
  | _ :: _, [], _, _, h => by simp at h
  | x :: r, t :: ts, c, d, h => by rw [List.cons_append, List.cons_append, eqL_cons, eqL_cons, eqL_append r ts c d (by simpa using h), Bool.and_assoc]
theorem eqL_take {l m : List Tm} {k : Nat} (h : k < l.length) (h2 : k < m.length) : eqL (l.take (k + 1)) (m.take (k + 1)) = (eqL (l.take k) (m.take k) && sameB l[k] m[k]) := by
  rw [List.take_succ_eq_append_getElem h, List.take_succ_eq_append_getElem h2, eqL_append _ _ _ _ (by simp; omega), eqL_cons]
  simp [eqL]
theorem eqL_no {l m : List Tm} {k : Nat} (h : k < l.length) (hlm : l.length = m.length) (h0 : sameB l[k] (m[k]'(by omega)) = false) : eqL l m = false := by
  have e1 : l = l.take (k + 1) ++ l.drop (k + 1) := (List.take_append_drop _ _).symm
  have e2 : m = m.take (k + 1) ++ m.drop (k + 1) := (List.take_append_drop _ _).symm
  rw [e1, e2, eqL_append _ _ _ _ (by simp; omega), eqL_take h (by omega), h0]
  simp

def SaInv (w : World) (l m : List Tm) (a a2 : Option Addr) (c c2 : Nat) (i : Value) (wr : World) : Prop :=
  ∃ (k : Nat), k ≤ l.length ∧ i = .int .i64 k ∧ eqL (l.take k) (m.take k) = true ∧ Below w.heap.size w wr ∧ wr.cell? ⟨w.heap.size, 1, none⟩ = some (.slice a l.length c) ∧ wr.cell? ⟨w.heap.size + 1, 1, none⟩ = some (.slice a2 l.length c2) ∧ w.heap.size + 2 ≤ wr.heap.size

end Go.Proofs.YteojdfmdhgnmfaaGreat

/- Small facts on blocks, and what a round that appends a term does to a row of terms. -/
namespace Go.Proofs.YteojdfmdhgnmfaaGreat
open Go.RowKit
set_option linter.unusedSimpArgs false
set_option linter.unusedVariables false

/-- A block of plain cells. -/
def Blk (w : World) (b : Nat) (cs : Array Value) (T : Nat) : Prop := w.heap[b]? = some (.cells cs T (0, 0))

theorem Blk.lt {w : World} {b : Nat} {cs : Array Value} {T : Nat} (h : Blk w b cs T) : b < w.heap.size := by
  apply Classical.byContradiction
  intro hn
  have e : w.heap[b]? = none := Array.getElem?_eq_none (by omega)
  rw [Blk, e] at h; cases h

theorem Blk.cell {w : World} {b : Nat} {cs : Array Value} {T : Nat} (h : Blk w b cs T) (i : Nat) : w.cell? ⟨b, i, none⟩ = cs[i]? := by
  unfold Blk at h; simp [World.cell?, h]

theorem Blk.frozen {w : World} {b : Nat} {cs : Array Value} {T : Nat} (h : Blk w b cs T) (i : Nat) : w.frozen? ⟨b, i, none⟩ = false := by
  unfold Blk at h; simp [World.frozen?, h]

theorem Blk.new (w : World) (cs : Array Value) (T : Nat) : Blk (w.alloc (.cells cs T)) w.heap.size cs T := heap_alloc_new w _

theorem Blk.alloc {w : World} {b : Nat} {cs : Array Value} {T : Nat} (h : Blk w b cs T) (o : Obj) : Blk (w.alloc o) b cs T := by
  unfold Blk at *; rw [Below.heap_alloc w o b (Blk.lt h)]; exact h

theorem Blk.below {w w' : World} {b B : Nat} {cs : Array Value} {T : Nat} (h : Blk w b cs T) (hb : Below B w w') (hB : b < B) : Blk w' b cs T := by
  unfold Blk at *; rw [hb.block b hB]; exact h

theorem Blk.drewN {w : World} {b : Nat} {cs : Array Value} {T : Nat} (h : Blk w b cs T) (n : Nat) : Blk (w.drewN n) b cs T := h

theorem Blk.grown {w w' : World} {b : Nat} {cs : Array Value} {T : Nat} {row : Option Nat} (h : Blk w b cs T) (hg : w.grownBy w' row) (hr : some b ≠ row) : Blk w' b cs T := by
  unfold Blk at *; rw [hg.block b (Blk.lt h) hr]; exact h

theorem Blk.set {w : World} {b : Nat} {cs : Array Value} {T : Nat} (h : Blk w b cs T) (i : Nat) (v : Value) : Blk (w.setCell ⟨b, i, none⟩ v) b (cs.setIfInBounds i v) T := by
  unfold Blk at *
  simp [World.setCell, Array.getElem?_modify, h]

theorem Blk.setOther {w : World} {b b' : Nat} {cs : Array Value} {T : Nat} (h : Blk w b cs T) (i : Nat) (v : Value) (hne : b ≠ b') : Blk (w.setCell ⟨b', i, none⟩ v) b cs T := by
  unfold Blk at *; rw [Below.heap_setCell _ _ _ _ (by simpa using hne)]; exact h

/-- The row so far, apart from what its terms are made of: old memory that Y lets, and new memory. -/
structure Row (w : World) (N : Nat) (T : Nat) (Y : Nat → Prop) (v : Value) (l : List Tm) (xs : List Value) : Prop where
  own : w.ownsRow N T 2 v l.length xs
  row : RowT w (fun b => Y b ∨ (N ≤ b ∧ some b ≠ v.ownBlock)) l xs

theorem Row.start (w : World) (N T : Nat) (Y : Nat → Prop) : Row w N T Y (.slice none 0 0) [] [] := ⟨World.ownsRow_nil w N T 2, rfl⟩

theorem Row.below {w w' : World} {N T : Nat} {Y : Nat → Prop} {v : Value} {l : List Tm} {xs : List Value} (h : Row w N T Y v l xs) (hb : Below w.heap.size w w') : Row w' N T Y v l xs :=
  ⟨h.own.kept (w' := w') (row := none) ⟨hb.os, hb.tape, hb.output, hb.size, fun j hj _ => hb.block j hj⟩ (by rcases Option.eq_none_or_eq_some (Value.ownBlock v) with h | ⟨x, h⟩; exact Or.inl h; exact Or.inr (by rw [h]; simp)),
   h.row.imp fun a l h => h.later hb⟩

theorem Row.ne {w : World} {N T : Nat} {Y : Nat → Prop} {v : Value} {l : List Tm} {xs : List Value} (h : Row w N T Y v l xs) {b : Nat} (hb : b < N) : some b ≠ v.ownBlock := fun e => by
  have := (h.own.lt b e.symm).1; omega

/-- One more: the term's cells have been laid into a block of their own, and appended. -/
theorem Row.push {w w1 w2 w3 : World} {N T : Nat} {Y : Nat → Prop} {v : Value} {l : List Tm} {xs : List Value} (h : Row w N T Y v l xs) (hN : N ≤ w.heap.size) (hY : ∀ b, Y b → b < N) (hb : Below w.heap.size w w1) {s : ByteArray} {a : Option Addr} {n c : Nat} {t : Tm}
    (ht : TV w1 (fun b => Y b ∨ w.heap.size ≤ b) (.agg #[.string s, .slice a n c]) t) (o : Obj) (hw2 : w2 = w1.alloc o) {g cap : Nat}
    (hown : w3.ownsRow N T 2 (.slice (some ⟨g, 0, none⟩) (l.length + 1) cap) (l.length + 1) (xs ++ [.string s, .slice a n c])) (hg : w2.grownBy w3 v.ownBlock) (hg1 : v.ownBlock = some g ∨ g = w2.heap.size) :
    Row w3 N T Y (.slice (some ⟨g, 0, none⟩) (l.length + 1) cap) (l ++ [t]) (xs ++ [.string s, .slice a n c]) := by
  subst hw2
  have hlt := h.own.lt
  refine ⟨by simpa using hown, ?_⟩
  have hsz : w1.heap.size ≤ (w1.alloc o).heap.size := by simp
  have hbs := hb.size
  have hgN : N ≤ g := by
    rcases hg1 with e | e
    · exact (hlt g e).1
    · simp at e; omega
  refine RowT.append (h.row.imp fun a' k' hs => ?_) ?_
  · have h1 : Sl w (fun b => (Y b ∨ (N ≤ b ∧ some b ≠ v.ownBlock)) ∧ b < w.heap.size) a' k' := hs.mono fun b h1 h2 => ⟨h1, h2⟩
    have h2 : Sl w3 (fun b => (Y b ∨ (N ≤ b ∧ some b ≠ v.ownBlock)) ∧ b < w.heap.size) a' k' := h1.kept fun b hx => by
      have hne : some b ≠ v.ownBlock := by
        rcases hx.1 with hy | hy
        · exact h.ne (hY b hy)
        · exact hy.2
      rw [hg.block b (by simp; omega) hne, Below.heap_alloc _ _ _ (by omega), hb.block b hx.2]
    refine h2.mono fun b hx _ => ?_
    rcases hx.1 with hy | hy
    · exact Or.inl hy
    · refine Or.inr ⟨hy.1, fun e => ?_⟩
      simp [Value.ownBlock] at e
      rcases hg1 with e' | e'
      · exact hy.2 (by rw [e', e])
      · simp at e'; omega
  · obtain ⟨a2, c2, e, hs⟩ := ht
    simp at e
    obtain ⟨rfl, rfl, rfl, rfl⟩ := e
    refine ⟨a, c, [], rfl, ?_, rfl⟩
    have h1 : Sl w1 (fun b => (Y b ∨ w.heap.size ≤ b) ∧ b < w1.heap.size) a t.args := hs.mono fun b h1 h2 => ⟨h1, h2⟩
    have h2 : Sl w3 (fun b => (Y b ∨ w.heap.size ≤ b) ∧ b < w1.heap.size) a t.args := h1.kept fun b hx => by
      have hne : some b ≠ v.ownBlock := by
        rcases hx.1 with hy | hy
        · exact h.ne (hY b hy)
        · intro e; have := (hlt b e.symm).2; omega
      rw [hg.block b (by simp; omega) hne, Below.heap_alloc _ _ _ hx.2]
    refine h2.mono fun b hx _ => ?_
    rcases hx.1 with hy | hy
    · exact Or.inl hy
    · refine Or.inr ⟨by omega, fun e => ?_⟩
      simp [Value.ownBlock] at e
      rcases hg1 with e' | e'
      · have := (hlt g e').2; omega
      · simp at e'; omega

/-- A store into a block that is none of the row's. -/
theorem Row.setCell {w : World} {N T : Nat} {Y : Nat → Prop} {v : Value} {l : List Tm} {xs : List Value} (h : Row w N T Y v l xs) {b i : Nat} (hb : b < N) (hY : ¬ Y b) (u : Value) : Row (w.setCell ⟨b, i, none⟩ u) N T Y v l xs :=
  ⟨ownsRow_setCell_below h.own (by simpa using hb) u, h.row.imp fun a k hs => hs.kept fun c hc => Below.heap_setCell _ _ _ _ (by
    simp
    rcases hc with hc | hc
    · intro e; subst e; exact hY hc
    · omega)⟩

theorem Row.sl {w : World} {N T : Nat} {Y : Nat → Prop} {v : Value} {l : List Tm} {xs : List Value} (h : Row w N T Y v l xs) : ∃ a c, v = .slice a l.length c ∧ Sl w (fun b => Y b ∨ N ≤ b) a l := by
  have hml : l.length ≤ 9223372036854775807 := by
    rcases h.own.2 with ⟨_, h0⟩ | ⟨g, cap, cur, _, _, _, h1, h2, _⟩
    · omega
    · unfold maxLen at h2; omega
  by_cases h0 : 0 < l.length
  · obtain ⟨g, cap, rfl, hg, hlt, hc⟩ := owned_val h.own h0
    exact ⟨_, _, rfl, hml, Or.inr ⟨g, 0, rfl, lies_of_rowT g (Or.inr hg) l xs 0 h.row (fun a k hs => hs.mono fun b hb _ => hb.imp id (fun h => h.1)) (fun j u hj => by simpa using hc j u hj)⟩⟩
  · have e : l = [] := List.length_eq_zero_iff.1 (by omega)
    subst e
    rcases h.own.2 with ⟨hv, _⟩ | ⟨g, cap, cur, hv, _⟩
    · exact ⟨none, 0, hv, hml, Or.inl rfl⟩
    · exact ⟨_, _, hv, hml, Or.inl rfl⟩

theorem copy_blk {wr w1 w3 : World} {o1 o2 : Obj} {b T : Nat} {cs : Array Value} {row : Option Nat} (h : Blk wr b cs T) (hb1 : Below (wr.alloc o1).drew.heap.size (wr.alloc o1).drew w1) (hg : (w1.alloc o2).grownBy w3 row) (hr : some b ≠ row) : Blk w3 b cs T :=
  (((((h.alloc o1).drewN 1).below hb1 (by have := h.lt; simp; omega)).alloc o2).grown hg hr)

#print axioms Row.push
#print axioms Row.sl
end Go.Proofs.YteojdfmdhgnmfaaGreat

/- Rows of bindings that a call makes. -/
namespace Go.Proofs.YteojdfmdhgnmfaaGreat
open Go.RowKit
set_option linter.unusedSimpArgs false
set_option linter.unusedVariables false

/-- A binding, and where those below its term's first knot lie. -/
abbrev Bc := Bd × Option Addr × Nat
instance : Inhabited Bc := ⟨(⟨⟨#[]⟩, ⟨⟨#[]⟩, []⟩⟩, none, 0)⟩
def enc3 (x : Bc) : List Value := [.string x.1.nm, .string x.1.t.name, .slice x.2.1 x.1.t.args.length x.2.2]
def flat3 : List Bc → List Value
  | [] => []
  | x :: r => enc3 x ++ flat3 r
theorem flat3_append (b : List Bc) : ∀ a, flat3 (a ++ b) = flat3 a ++ flat3 b
  | [] => rfl
  | x :: r => by rw [List.cons_append, flat3, flat3, flat3_append b r, List.append_assoc]
theorem flat3_length : ∀ a : List Bc, (flat3 a).length = a.length * 3
  | [] => rfl
  | x :: r => by rw [flat3, List.length_append, flat3_length r]; simp [enc3]; omega
theorem flat3_get : ∀ (a : List Bc) (i : Nat) (h : i < a.length) (j : Nat), j < 3 → (flat3 a)[i * 3 + j]? = (enc3 a[i])[j]?
  | [], i, h, j, hj => by simp at h
  | x :: r, 0, h, j, hj => by
    rw [flat3, List.getElem?_append_left (by simp [enc3]; omega)]; simp
  | x :: r, i + 1, h, j, hj => by
    rw [flat3, List.getElem?_append_right (by simp [enc3]; omega)]
    have e : (i + 1) * 3 + j - (enc3 x).length = i * 3 + j := by simp [enc3]; omega
    rw [e, flat3_get r i (by simpa using h) j hj]
    simp

/-- The row so far, apart from what its terms are made of: old memory that Y lets, and new memory. -/
structure BRow (w : World) (N : Nat) (Y : Nat → Prop) (v : Value) (cs : List Bc) : Prop where
  own : w.ownsRow N 54 3 v cs.length (flat3 cs)
  row : ∀ x ∈ cs, Sl w (fun b => Y b ∨ (N ≤ b ∧ some b ≠ v.ownBlock)) x.2.1 x.1.t.args

theorem BRow.start (w : World) (N : Nat) (Y : Nat → Prop) : BRow w N Y (.slice none 0 0) [] := ⟨World.ownsRow_nil w N _ 3, by simp⟩

theorem BRow.below {w w' : World} {N : Nat} {Y : Nat → Prop} {v : Value} {cs : List Bc} (h : BRow w N Y v cs) (hb : Below w.heap.size w w') : BRow w' N Y v cs :=
  ⟨h.own.kept (w' := w') (row := none) ⟨hb.os, hb.tape, hb.output, hb.size, fun j hj _ => hb.block j hj⟩ (by rcases Option.eq_none_or_eq_some (Value.ownBlock v) with h | ⟨x, h⟩; exact Or.inl h; exact Or.inr (by rw [h]; simp)),
   fun x hx => (h.row x hx).later hb⟩

theorem BRow.ne {w : World} {N : Nat} {Y : Nat → Prop} {v : Value} {cs : List Bc} (h : BRow w N Y v cs) {b : Nat} (hb : b < N) : some b ≠ v.ownBlock := fun e => by
  have := (h.own.lt b e.symm).1; omega

/-- Other blocks may turn: those that are none of the row's, nor of what its terms are made of. -/
theorem BRow.kept {w w' : World} {N : Nat} {Y : Nat → Prop} {v : Value} {cs : List Bc} {r : Nat} (h : BRow w N Y v cs) (hr : r < N) (hY : ¬ Y r) (ho : w'.os = w.os) (ht : w'.tape = w.tape) (hu : w'.output = w.output) (hz : w.heap.size ≤ w'.heap.size) (hk : ∀ j, j ≠ r → j < w.heap.size → w'.heap[j]? = w.heap[j]?) : BRow w' N Y v cs :=
  ⟨h.own.kept (w' := w') (row := some r) ⟨ho, ht, hu, hz, fun j hj hne => hk j (fun e => hne (by rw [e])) hj⟩ (Or.inr (fun e => h.ne hr e.symm)),
   fun x hx => by
    have h1 := (h.row x hx).mono (Y := fun b => (Y b ∨ (N ≤ b ∧ some b ≠ v.ownBlock)) ∧ b < w.heap.size) fun b h1 h2 => ⟨h1, h2⟩
    refine (h1.kept fun b hb => hk b (fun e => ?_) hb.2).mono fun b hb _ => hb.1
    rcases hb.1 with h2 | h2
    · exact hY (e ▸ h2)
    · omega⟩

/-- One more: the binding's cells have been laid into a block of their own, and appended. -/
theorem BRow.push {w w1 w2 w3 : World} {N : Nat} {Y : Nat → Prop} {v : Value} {cs : List Bc} (h : BRow w N Y v cs) (hN : N ≤ w.heap.size) (hY : ∀ b, Y b → b < N) (hb : Below w.heap.size w w1) {x : Bc}
    (ht : Sl w1 (fun b => Y b ∨ w.heap.size ≤ b) x.2.1 x.1.t.args) (o : Obj) (hw2 : w2 = w1.alloc o) {g cap : Nat}
    (hown : w3.ownsRow N 54 3 (.slice (some ⟨g, 0, none⟩) (cs.length + 1) cap) (cs.length + 1) (flat3 cs ++ enc3 x)) (hg : w2.grownBy w3 v.ownBlock) (hg1 : v.ownBlock = some g ∨ g = w2.heap.size) :
    BRow w3 N Y (.slice (some ⟨g, 0, none⟩) (cs.length + 1) cap) (cs ++ [x]) := by
  subst hw2
  have hlt := h.own.lt
  refine ⟨by rw [flat3_append]; simpa [flat3] using hown, fun y hy => ?_⟩
  have hsz : w1.heap.size ≤ (w1.alloc o).heap.size := by simp
  have hbs := hb.size
  have hgN : N ≤ g := by
    rcases hg1 with e | e
    · exact (hlt g e).1
    · simp at e; omega
  rcases List.mem_append.1 hy with hy | hy
  · have h1 : Sl w (fun b => (Y b ∨ (N ≤ b ∧ some b ≠ v.ownBlock)) ∧ b < w.heap.size) y.2.1 y.1.t.args := (h.row y hy).mono fun b h1 h2 => ⟨h1, h2⟩
    have h2 : Sl w3 (fun b => (Y b ∨ (N ≤ b ∧ some b ≠ v.ownBlock)) ∧ b < w.heap.size) y.2.1 y.1.t.args := h1.kept fun b hx => by
      have hne : some b ≠ v.ownBlock := by
        rcases hx.1 with hy | hy
        · exact h.ne (hY b hy)
        · exact hy.2
      rw [hg.block b (by simp; omega) hne, Below.heap_alloc _ _ _ (by omega), hb.block b hx.2]
    refine h2.mono fun b hx _ => ?_
    rcases hx.1 with hy | hy
    · exact Or.inl hy
    · refine Or.inr ⟨hy.1, fun e => ?_⟩
      simp [Value.ownBlock] at e
      rcases hg1 with e' | e'
      · exact hy.2 (by rw [e', e])
      · simp at e'; omega
  · have e : y = x := by simpa using hy
    subst e
    have h1 : Sl w1 (fun b => (Y b ∨ w.heap.size ≤ b) ∧ b < w1.heap.size) y.2.1 y.1.t.args := ht.mono fun b h1 h2 => ⟨h1, h2⟩
    have h2 : Sl w3 (fun b => (Y b ∨ w.heap.size ≤ b) ∧ b < w1.heap.size) y.2.1 y.1.t.args := h1.kept fun b hx => by
      have hne : some b ≠ v.ownBlock := by
        rcases hx.1 with hy | hy
        · exact h.ne (hY b hy)
        · intro e; have := (hlt b e.symm).2; omega
      rw [hg.block b (by simp; omega) hne, Below.heap_alloc _ _ _ hx.2]
    refine h2.mono fun b hx _ => ?_
    rcases hx.1 with hy | hy
    · exact Or.inl hy
    · refine Or.inr ⟨by omega, fun e => ?_⟩
      simp [Value.ownBlock] at e
      rcases hg1 with e' | e'
      · have := (hlt g e').2; omega
      · simp at e'; omega

/-- As a list of bindings. -/
theorem BRow.bv {w : World} {N : Nat} {Y : Nat → Prop} {v : Value} {cs : List Bc} (h : BRow w N Y v cs) : BV w (fun b => Y b ∨ N ≤ b) v (cs.map (·.1)) := by
  have hml : cs.length ≤ 9223372036854775807 := by
    rcases h.own.2 with ⟨_, h0⟩ | ⟨g, cap, cur, _, _, _, h1, h2, _⟩
    · omega
    · unfold maxLen at h2; omega
  by_cases h0 : 0 < cs.length
  · obtain ⟨g, cap, rfl, hg, hlt, hc⟩ := owned_val h.own h0
    have hcap : cs.length ≤ cap := by
      rcases h.own.2 with ⟨e, _⟩ | ⟨g', cap', cur, e, _, _, h1, _⟩
      · cases e
      · simp at e; omega
    refine ⟨_, cap, by simp, ⟨by simpa using hml, by simpa using hcap⟩, Or.inr ⟨g, 0, rfl, Or.inr hg, fun i hi => ?_⟩⟩
    have hi' : i < cs.length := by simpa using hi
    have g0 := hc (i * 3 + 0) (.string cs[i].1.nm) (by rw [flat3_get cs i hi' 0 (by decide)]; rfl)
    have g1 := hc (i * 3 + 1) (.string cs[i].1.t.name) (by rw [flat3_get cs i hi' 1 (by decide)]; rfl)
    have g2 := hc (i * 3 + 2) (.slice cs[i].2.1 cs[i].1.t.args.length cs[i].2.2) (by rw [flat3_get cs i hi' 2 (by decide)]; rfl)
    simp only [List.getElem_map, Nat.zero_add]
    exact ⟨g0, g1, _, _, g2, (h.row cs[i] (List.getElem_mem hi')).mono fun b hb _ => hb.imp id (fun h => h.1)⟩
  · have e : cs = [] := List.length_eq_zero_iff.1 (by omega)
    subst e
    rcases h.own.2 with ⟨hv, _⟩ | ⟨g, cap, cur, hv, _⟩
    · exact ⟨none, 0, hv, by simp, Or.inl rfl⟩
    · exact ⟨_, _, hv, by simp, Or.inl rfl⟩
#print axioms BRow.push
#print axioms BRow.bv
end Go.Proofs.YteojdfmdhgnmfaaGreat

/- Bindings in the order of their names: plain. -/
namespace Go.Proofs.YteojdfmdhgnmfaaGreat
open Go.RowKit
set_option linter.unusedSimpArgs false
set_option linter.unusedVariables false

/-- One text is ahead of another one. -/
def ltB (a b : ByteArray) : Bool := Op.bytesLess a.toList b.toList
theorem bl_irrefl : ∀ a : List UInt8, Op.bytesLess a a = false
  | [] => rfl
  | x :: r => by simp [Op.bytesLess, bl_irrefl r]
theorem bl_trans : ∀ a b c : List UInt8, Op.bytesLess a b = true → Op.bytesLess b c = true → Op.bytesLess a c = true
  | _, [], _, h, _ => by simp [Op.bytesLess] at h
  | _, _ :: _, [], _, h => by simp [Op.bytesLess] at h
  | [], _ :: _, _ :: _, _, _ => by simp [Op.bytesLess]
  | x :: a, y :: b, z :: c, h1, h2 => by
    simp only [Op.bytesLess, Bool.or_eq_true, Bool.and_eq_true, decide_eq_true_eq, beq_iff_eq] at h1 h2 ⊢
    rw [UInt8.lt_iff_toNat_lt] at h1 h2 ⊢
    rcases h1 with h1 | ⟨rfl, h1⟩ <;> rcases h2 with h2 | ⟨rfl, h2⟩
    · left; omega
    · left; exact h1
    · left; exact h2
    · right; exact ⟨rfl, bl_trans a b c h1 h2⟩
theorem bl_conn : ∀ a b : List UInt8, Op.bytesLess a b = false → Op.bytesLess b a = false → a = b
  | [], [], _, _ => rfl
  | [], _ :: _, h, _ => by simp [Op.bytesLess] at h
  | _ :: _, [], _, h => by simp [Op.bytesLess] at h
  | x :: a, y :: b, h1, h2 => by
    simp only [Op.bytesLess, Bool.or_eq_false_iff, decide_eq_false_iff_not] at h1 h2
    obtain ⟨h1, h3⟩ := h1
    obtain ⟨h2, h4⟩ := h2
    rw [UInt8.lt_iff_toNat_lt] at h1 h2
    have e : x = y := UInt8.toNat_inj.mp (by omega)
    subst e
    simp only [BEq.rfl, Bool.true_and] at h3 h4
    rw [bl_conn a b h3 h4]
theorem ltB_irrefl (a : ByteArray) : ltB a a = false := bl_irrefl _
theorem ltB_trans {a b c : ByteArray} (h1 : ltB a b = true) (h2 : ltB b c = true) : ltB a c = true := bl_trans _ _ _ h1 h2
theorem ltB_conn {a b : ByteArray} (h1 : ltB a b = false) (h2 : ltB b a = false) : a = b := bytes_inj (bl_conn _ _ h1 h2)
theorem ltB_asymm {a b : ByteArray} (h : ltB a b = true) : ltB b a = false := by
  cases hb : ltB b a with
  | false => rfl
  | true => have := ltB_trans h hb; rw [ltB_irrefl] at this; cases this
theorem ltB_ntrans {a b c : ByteArray} (h1 : ltB a b = false) (h2 : ltB b c = false) : ltB a c = false := by
  cases h : ltB a c with
  | false => rfl
  | true =>
    cases h3 : ltB b a with
    | true => rw [ltB_trans h3 h] at h2; cases h2
    | false =>
      have e := ltB_conn h1 h3
      subst e
      rw [h] at h2; cases h2

/-- No name twice, and each ahead of the next. -/
def SortedB (l : List Bd) : Prop := l.Pairwise fun a b => ltB a.nm b.nm = true
/-- No name twice. -/
def ApartB (l : List Bd) : Prop := l.Pairwise fun a b => a.nm ≠ b.nm
theorem SortedB.apart {l : List Bd} (h : SortedB l) : ApartB l := h.imp fun {a b} h e => by rw [e, ltB_irrefl] at h; cases h
theorem ApartB.perm {l k : List Bd} (h : ApartB l) (hp : k.Perm l) : ApartB k := (hp.pairwise_iff (fun {_ _} hne => Ne.symm hne)).2 h
theorem sortedB_unique {l k : List Bd} (hp : l.Perm k) (h1 : SortedB l) (h2 : SortedB k) : l = k :=
  List.Perm.eq_of_pairwise (le := fun a b : Bd => ltB a.nm b.nm = true) (fun a b _ _ h3 h4 => by rw [ltB_asymm h3] at h4; cases h4) h1 h2 hp
/-- Sorted, if none is behind one that it is ahead of. -/
theorem sortedB_of {l : List Bd} (ha : ApartB l) (h : l.Pairwise fun a b => ltB b.nm a.nm = false) : SortedB l := by
  unfold SortedB ApartB at *
  refine (List.pairwise_and_iff.2 ⟨ha, h⟩).imp fun {a b} ⟨h1, h2⟩ => ?_
  cases h3 : ltB a.nm b.nm with
  | true => rfl
  | false => exact absurd (ltB_conn h3 h2) h1

/-- A binding as the map holds it. -/
def toP (x : Bc) : ByteArray × Value := (x.1.nm, .agg #[.string x.1.t.name, .slice x.2.1 x.1.t.args.length x.2.2])
theorem perm_lift {α β : Type} (f : α → β) {l m : List β} (h : l.Perm m) : ∀ zs : List α, zs.map f = m → ∃ zs' : List α, zs'.Perm zs ∧ zs'.map f = l := by
  induction h with
  | nil => intro zs h; exact ⟨zs, List.Perm.refl _, h⟩
  | cons x h ih =>
    intro zs hz
    match zs, hz with
    | z :: zs, hz =>
      simp only [List.map_cons, List.cons.injEq] at hz
      obtain ⟨zs', h1, h2⟩ := ih zs hz.2
      exact ⟨z :: zs', h1.cons z, by simp [h2, hz.1]⟩
  | swap x y l =>
    intro zs hz
    match zs, hz with
    | a :: b :: zs, hz =>
      simp only [List.map_cons, List.cons.injEq] at hz
      exact ⟨b :: a :: zs, List.Perm.swap a b zs, by simp [hz.1, hz.2.1, hz.2.2]⟩
  | trans h1 h2 ih1 ih2 =>
    intro zs hz
    obtain ⟨zs', h3, h4⟩ := ih2 zs hz
    obtain ⟨zs'', h5, h6⟩ := ih1 zs' h4
    exact ⟨zs'', h5.trans h3, h6⟩
/-- The next of those that are still to come. -/
theorem next_lift {Zr : List Bc} {p : ByteArray × Value} {rem : List (ByteArray × Value)} (h : (Zr.map toP).Perm (p :: rem)) : ∃ x Z', Zr.Perm (x :: Z') ∧ p = toP x ∧ rem = Z'.map toP := by
  obtain ⟨zs, h1, h2⟩ := perm_lift toP h.symm Zr rfl
  match zs, h2 with
  | x :: Z', h2 =>
    simp only [List.map_cons, List.cons.injEq] at h2
    exact ⟨x, Z', h1.symm, h2.1.symm, h2.2.symm⟩
#print axioms sortedB_unique
end Go.Proofs.YteojdfmdhgnmfaaGreat

/- Which term is above another one, by paths and by weights: plain. -/
namespace Go.Proofs.YteojdfmdhgnmfaaGreat
open Go.RowKit
set_option linter.unusedSimpArgs false
set_option linter.unusedVariables false

/-- Where a name stands in a row, from 1 on; 0: nowhere. -/
def rankN (s : ByteArray) : List ByteArray → Nat
  | [] => 0
  | x :: r => if x = s then 1 else match rankN s r with
    | 0 => 0
    | k + 1 => k + 2
/-- Is a's symbol the greater one? -/
def gtS (row : List ByteArray) (a b : Tm) : Bool :=
  if rankN a.name row ≠ rankN b.name row then decide (rankN b.name row < rankN a.name row)
  else if a.name ≠ b.name then ltB b.name a.name
  else decide (b.args.length < a.args.length)
/-- The first ones that are unlike. -/
def unl : List Tm → List Tm → Option (Tm × Tm)
  | x :: r, y :: q => if sameB x y = true then unl r q else some (x, y)
  | _, _ => none
theorem unl_mem : ∀ {a b : List Tm} {x y : Tm}, unl a b = some (x, y) → x ∈ a ∧ y ∈ b
  | [], _, x, y, h => by simp [unl] at h
  | _ :: _, [], x, y, h => by simp [unl] at h
  | t :: a, u :: b, x, y, h => by
    rw [unl] at h
    split at h
    · obtain ⟨h1, h2⟩ := unl_mem h
      exact ⟨by simp [h1], by simp [h2]⟩
    · cases h
      exact ⟨by simp, by simp⟩
/-- By paths, in so many steps. -/
def pathF (row : List ByteArray) : Nat → Tm → Tm → Bool
  | 0, _, _ => false
  | n + 1, a, b =>
    if varB a.name = true then false
    else if (a.args.any fun x => sameB x b || pathF row n x b) = true then true
    else if varB b.name = true then false
    else if gtS row b a = true then false
    else if (b.args.all fun y => pathF row n a y) = false then false
    else if gtS row a b = true then true
    else match unl a.args b.args with
      | none => false
      | some (x, y) => pathF row n x y
theorem size_arg {t : Tm} {x : Tm} (h : x ∈ t.args) : sizeL [x] < sizeL [t] := by
  obtain ⟨s, l⟩ := t
  have : sizeL [x] ≤ sizeL l := by
    replace h : x ∈ l := h
    induction l with
    | nil => cases h
    | cons a r ih =>
      have hc : sizeL (a :: r) = sizeL [a] + sizeL r := sizeL_append [a] r
      rcases List.mem_cons.1 h with rfl | h
      · omega
      · have := ih h; omega
  have e : sizeL [(⟨s, l⟩ : Tm)] = 1 + sizeL l := by simp [sizeL]
  omega
theorem any_congr {α : Type} {l : List α} {f g : α → Bool} (h : ∀ x ∈ l, f x = g x) : l.any f = l.any g := by
  induction l with
  | nil => rfl
  | cons a r ih => rw [List.any_cons, List.any_cons, h a (by simp), ih fun x hx => h x (by simp [hx])]
theorem all_congr {α : Type} {l : List α} {f g : α → Bool} (h : ∀ x ∈ l, f x = g x) : l.all f = l.all g := by
  induction l with
  | nil => rfl
  | cons a r ih => rw [List.all_cons, List.all_cons, h a (by simp), ih fun x hx => h x (by simp [hx])]
/-- More steps than there are knots make no difference. -/
theorem pathF_steps (row : List ByteArray) : ∀ (n m : Nat) (a b : Tm), sizeL [a] + sizeL [b] ≤ n → sizeL [a] + sizeL [b] ≤ m → pathF row n a b = pathF row m a b
  | 0, m, a, b, h, _ => by
    obtain ⟨s, l⟩ := a
    simp [sizeL] at h
  | n + 1, 0, a, b, _, h => by
    obtain ⟨s, l⟩ := a
    simp [sizeL] at h
  | n + 1, m + 1, a, b, h1, h2 => by
    rw [pathF, pathF]
    have e1 : (a.args.any fun x => sameB x b || pathF row n x b) = a.args.any fun x => sameB x b || pathF row m x b := any_congr fun x hx => by
      have := size_arg hx
      rw [pathF_steps row n m x b (by omega) (by omega)]
    have e2 : (b.args.all fun y => pathF row n a y) = b.args.all fun y => pathF row m a y := all_congr fun y hy => by
      have := size_arg hy
      rw [pathF_steps row n m a y (by omega) (by omega)]
    rw [e1, e2]
    cases hu : unl a.args b.args with
    | none => rfl
    | some p =>
      obtain ⟨x, y⟩ := p
      obtain ⟨m1, m2⟩ := unl_mem hu
      have := size_arg m1
      have := size_arg m2
      show (if _ then _ else _) = _
      simp only []
      rw [pathF_steps row n m x y (by omega) (by omega)]
/-- By paths. -/
def pathB (row : List ByteArray) (a b : Tm) : Bool := pathF row (sizeL [a] + sizeL [b]) a b
theorem pathF_eq {row : List ByteArray} {n : Nat} {a b : Tm} (h : sizeL [a] + sizeL [b] ≤ n) : pathF row n a b = pathB row a b := pathF_steps row _ _ a b h (Nat.le_refl _)
theorem pathB_eq (row : List ByteArray) (a b : Tm) : pathB row a b =
    if varB a.name = true then false
    else if (a.args.any fun x => sameB x b || pathB row x b) = true then true
    else if varB b.name = true then false
    else if gtS row b a = true then false
    else if (b.args.all fun y => pathB row a y) = false then false
    else if gtS row a b = true then true
    else match unl a.args b.args with
      | none => false
      | some (x, y) => pathB row x y := by
  rw [← pathF_eq (n := sizeL [a] + sizeL [b] + 1) (by omega), pathF]
  have e1 : (a.args.any fun x => sameB x b || pathF row (sizeL [a] + sizeL [b]) x b) = a.args.any fun x => sameB x b || pathB row x b := any_congr fun x hx => by
    have := size_arg hx
    rw [pathF_eq (by omega)]
  have e2 : (b.args.all fun y => pathF row (sizeL [a] + sizeL [b]) a y) = b.args.all fun y => pathB row a y := all_congr fun y hy => by
    have := size_arg hy
    rw [pathF_eq (by omega)]
  rw [e1, e2]
  cases hu : unl a.args b.args with
  | none => rfl
  | some p =>
    obtain ⟨x, y⟩ := p
    obtain ⟨m1, m2⟩ := unl_mem hu
    have := size_arg m1
    have := size_arg m2
    simp only []
    rw [pathF_eq (by omega)]
#print axioms pathB_eq
end Go.Proofs.YteojdfmdhgnmfaaGreat

/- Which term is above another one by weights: plain. -/
namespace Go.Proofs.YteojdfmdhgnmfaaGreat
open Go.RowKit
set_option linter.unusedSimpArgs false
set_option linter.unusedVariables false

/-- How often a name stands. -/
def oftL (v : ByteArray) (l : List Tm) : Nat := ((preL l).filter fun k => decide (k.name = v)).length
/-- Each variable stands in a at least as often as in b. -/
def hasAll (a b : Tm) : Bool := (preL [b]).all fun k => !varB k.name || decide (oftL k.name [b] ≤ oftL k.name [a])
theorem oft_none {v : ByteArray} {l : List Tm} (h : ∀ k ∈ preL l, k.name ≠ v) : oftL v l = 0 := by
  unfold oftL
  rw [List.length_eq_zero_iff, List.filter_eq_nil_iff]
  intro k hk
  simpa using h k hk
/-- So it is for every variable, wherever it stands. -/
theorem hasAll_iff (a b : Tm) : hasAll a b = true ↔ ∀ v, varB v = true → oftL v [b] ≤ oftL v [a] := by
  unfold hasAll
  rw [List.all_eq_true]
  constructor
  · intro h v hv
    by_cases hk : ∃ k ∈ preL [b], k.name = v
    · obtain ⟨k, hk, rfl⟩ := hk
      have := h k hk
      rw [hv] at this
      simpa using this
    · rw [oft_none fun k h1 h2 => hk ⟨k, h1, h2⟩]
      exact Nat.zero_le _
  · intro h k hk
    cases hv : varB k.name with
    | false => rfl
    | true => simpa using h k.name hv
/-- By weights, in so many steps. -/
def weightF (row : List ByteArray) : Nat → Tm → Tm → Bool
  | 0, _, _ => false
  | n + 1, a, b =>
    if hasAll a b = false then false
    else if sizeL [a] ≠ sizeL [b] then decide (sizeL [b] < sizeL [a])
    else if varB a.name = true then false
    else if varB b.name = true then false
    else if gtS row a b = true then true
    else if gtS row b a = true then false
    else match unl a.args b.args with
      | none => false
      | some (x, y) => weightF row n x y
theorem weightF_steps (row : List ByteArray) : ∀ (n m : Nat) (a b : Tm), sizeL [a] ≤ n → sizeL [a] ≤ m → weightF row n a b = weightF row m a b
  | 0, m, a, b, h, _ => by
    obtain ⟨s, l⟩ := a
    simp [sizeL] at h
  | n + 1, 0, a, b, _, h => by
    obtain ⟨s, l⟩ := a
    simp [sizeL] at h
  | n + 1, m + 1, a, b, h1, h2 => by
    rw [weightF, weightF]
    cases hu : unl a.args b.args with
    | none => rfl
    | some p =>
      obtain ⟨x, y⟩ := p
      have := size_arg (unl_mem hu).1
      simp only []
      rw [weightF_steps row n m x y (by omega) (by omega)]
/-- By weights. -/
def weightB (row : List ByteArray) (a b : Tm) : Bool := weightF row (sizeL [a]) a b
theorem weightB_eq (row : List ByteArray) (a b : Tm) : weightB row a b =
    if hasAll a b = false then false
    else if sizeL [a] ≠ sizeL [b] then decide (sizeL [b] < sizeL [a])
    else if varB a.name = true then false
    else if varB b.name = true then false
    else if gtS row a b = true then true
    else if gtS row b a = true then false
    else match unl a.args b.args with
      | none => false
      | some (x, y) => weightB row x y := by
  unfold weightB
  rw [weightF_steps row _ (sizeL [a] + 1) a b (Nat.le_refl _) (by omega), weightF]
  cases hu : unl a.args b.args with
  | none => rfl
  | some p =>
    obtain ⟨x, y⟩ := p
    have := size_arg (unl_mem hu).1
    simp only []
    rw [weightF_steps row _ (sizeL [x]) x y (by omega) (Nat.le_refl _)]
/-- The three ways that two symbols compare: less, the same, greater. -/
theorem gtS_asymm {row : List ByteArray} {a b : Tm} (h : gtS row a b = true) : gtS row b a = false := by
  unfold gtS at *
  by_cases h1 : rankN a.name row = rankN b.name row
  · rw [if_neg (by simpa using h1)] at h
    rw [if_neg (by simpa using h1.symm)]
    by_cases h2 : a.name = b.name
    · rw [if_neg (by simpa using h2)] at h
      rw [if_neg (by simpa using h2.symm)]
      simp at h ⊢
      omega
    · rw [if_pos h2] at h
      rw [if_pos fun e => h2 e.symm]
      exact ltB_asymm h
  · rw [if_pos h1] at h
    rw [if_pos fun e => h1 e.symm]
    simp at h ⊢
    omega
#print axioms weightB_eq
#print axioms hasAll_iff
#print axioms gtS_asymm
end Go.Proofs.YteojdfmdhgnmfaaGreat

/- Where those below a knot stand among all knots: plain. -/
namespace Go.Proofs.YteojdfmdhgnmfaaGreat
open Go.RowKit
set_option linter.unusedSimpArgs false
set_option linter.unusedVariables false

theorem preL_app : ∀ (a b : List Tm), preL (a ++ b) = preL a ++ preL b
  | [], b => by simp [preL]
  | ⟨s, l⟩ :: r, b => by
    have := preL_app r b
    simp [preL, this]
theorem preL_len0 : ∀ l : List Tm, (preL l).length = sizeL l := by
  intro l
  induction l using Tm.indL with
  | h0 => simp [preL, sizeL]
  | h s a r iha ihr => simp [preL, sizeL, iha, ihr]; omega
theorem head_at (l : List Tm) (j : Nat) (hj : j < l.length) : (preL l)[sizeL (l.take j)]? = some l[j] := by
  have e : l = l.take j ++ l.drop j := (List.take_append_drop j l).symm
  have e2 : l.drop j = l[j] :: l.drop (j + 1) := List.drop_eq_getElem_cons hj
  have h : preL l = preL (l.take j) ++ preL (l[j] :: l.drop (j + 1)) := by
    rw [← e2, ← preL_app, ← e]
  rw [h, List.getElem?_append_right (by rw [preL_len0]; omega), preL_len0, Nat.sub_self]
  obtain ⟨s, k⟩ : Tm := l[j]
  simp [preL]
/-- The j-th below the i-th. -/
theorem kid_at : ∀ (l : List Tm) (i : Nat) (t : Tm), (preL l)[i]? = some t → ∀ j (hj : j < t.args.length), (preL l)[i + 1 + sizeL (t.args.take j)]? = some t.args[j] := by
  intro l
  induction l using Tm.indL with
  | h0 => intro i t h; simp [preL] at h
  | h s a r iha ihr =>
    intro i t h j hj
    have e : preL (⟨s, a⟩ :: r) = ⟨s, a⟩ :: (preL a ++ preL r) := by simp [preL]
    rw [e] at h ⊢
    have hget : ∀ {q : Nat} {x : Tm}, (preL a)[q]? = some x → (preL a ++ preL r)[q]? = some x := fun {q x} hq => by
      have hlt : q < (preL a).length := by
        rcases Nat.lt_or_ge q (preL a).length with h | h
        · exact h
        · rw [List.getElem?_eq_none h] at hq; cases hq
      rw [List.getElem?_append_left hlt]
      exact hq
    cases i with
    | zero =>
      simp only [List.getElem?_cons_zero, Option.some.injEq] at h
      subst h
      rw [show 0 + 1 + sizeL (List.take j a) = sizeL (List.take j a) + 1 by omega, List.getElem?_cons_succ]
      exact hget (head_at a j hj)
    | succ i =>
      rw [List.getElem?_cons_succ] at h
      rw [show i + 1 + 1 + sizeL (t.args.take j) = (i + 1 + sizeL (t.args.take j)) + 1 by omega, List.getElem?_cons_succ]
      by_cases hi : i < (preL a).length
      · rw [List.getElem?_append_left hi] at h
        exact hget (iha i t h j hj)
      · rw [List.getElem?_append_right (by omega)] at h
        have h2 := ihr _ t h j hj
        rw [List.getElem?_append_right (by omega)]
        rw [← h2]
        congr 1
        omega
/-- All below the i-th end where it ends. -/
theorem kid_end : ∀ (l : List Tm) (i : Nat) (t : Tm), (preL l)[i]? = some t → i + sizeL [t] ≤ sizeL l := by
  intro l
  induction l using Tm.indL with
  | h0 => intro i t h; simp [preL] at h
  | h s a r iha ihr =>
    intro i t h
    have e : preL (⟨s, a⟩ :: r) = ⟨s, a⟩ :: (preL a ++ preL r) := by simp [preL]
    have e2 : sizeL (⟨s, a⟩ :: r) = 1 + sizeL a + sizeL r := by simp [sizeL]
    rw [e] at h
    rw [e2]
    have la := preL_len0 a
    cases i with
    | zero =>
      simp only [List.getElem?_cons_zero, Option.some.injEq] at h
      subst h
      have : sizeL [(⟨s, a⟩ : Tm)] = 1 + sizeL a := by simp [sizeL]
      omega
    | succ i =>
      rw [List.getElem?_cons_succ] at h
      by_cases hi : i < (preL a).length
      · rw [List.getElem?_append_left hi] at h
        have := iha i t h
        omega
      · rw [List.getElem?_append_right (by omega)] at h
        have := ihr _ t h
        omega
#print axioms kid_at
#print axioms kid_end
end Go.Proofs.YteojdfmdhgnmfaaGreat

/- Terms that are told by numbers: plain. -/
namespace Go.Proofs.YteojdfmdhgnmfaaGreat
open Go.RowKit
set_option linter.unusedSimpArgs false
set_option linter.unusedVariables false

theorem eqL_all : ∀ l k : List Tm, l.length = k.length → eqL l k = true → l = k := by
  intro l
  induction l using Tm.indL with
  | h0 => intro k h _; cases k with
    | nil => rfl
    | cons _ _ => simp at h
  | h s a r iha ihr =>
    intro k h he
    cases k with
    | nil => simp at h
    | cons u q =>
      obtain ⟨s', b⟩ := u
      rw [eqL_cons] at he
      simp only [Bool.and_eq_true] at he
      obtain ⟨h1, h2⟩ := he
      unfold sameB at h1
      simp only [Bool.and_eq_true, beq_iff_eq] at h1
      obtain ⟨h3, h4, h5⟩ := h1
      rw [ihr q (by simpa using h) h2, iha b h4 h5, bytes_inj h3]
theorem eqL_self : ∀ l : List Tm, eqL l l = true := by
  intro l
  induction l using Tm.indL with
  | h0 => simp [eqL]
  | h s a r iha ihr =>
    rw [eqL_cons, ihr]
    simp [sameB, iha]
theorem sameB_iff {a b : Tm} : sameB a b = true ↔ a = b := by
  constructor
  · intro h
    obtain ⟨s, l⟩ := a
    obtain ⟨s', k⟩ := b
    unfold sameB at h
    simp only [Bool.and_eq_true, beq_iff_eq] at h
    rw [bytes_inj h.1, eqL_all l k h.2.1 h.2.2]
  · rintro rfl
    unfold sameB
    simp [eqL_self]
/-- At which place a term stands; behind all: nowhere. -/
def numT (t : Tm) : List Tm → Nat
  | [] => 0
  | x :: r => if sameB x t = true then 0 else numT t r + 1
theorem numT_le (t : Tm) : ∀ S, numT t S ≤ S.length
  | [] => by simp [numT]
  | x :: r => by
    have := numT_le t r
    rw [numT]
    split
    · omega
    · simp only [List.length_cons]; omega
theorem numT_lt {t : Tm} : ∀ {S : List Tm}, numT t S < S.length ↔ t ∈ S
  | [] => by simp [numT]
  | x :: r => by
    rw [numT, List.mem_cons]
    by_cases h : sameB x t = true
    · rw [if_pos h]
      simp only [List.length_cons]
      exact ⟨fun _ => Or.inl (sameB_iff.1 h).symm, fun _ => by omega⟩
    · rw [if_neg h]
      have ih := numT_lt (t := t) (S := r)
      simp only [List.length_cons]
      constructor
      · intro h1
        exact Or.inr (ih.1 (by omega))
      · rintro (h1 | h1)
        · exact absurd (sameB_iff.2 h1.symm) h
        · have := ih.2 h1; omega
theorem numT_at {t : Tm} : ∀ {S : List Tm}, t ∈ S → S[numT t S]? = some t
  | [], h => by cases h
  | x :: r, h => by
    rw [numT]
    by_cases h1 : sameB x t = true
    · rw [if_pos h1, sameB_iff.1 h1]
      rfl
    · rw [if_neg h1, List.getElem?_cons_succ]
      rcases List.mem_cons.1 h with h2 | h2
      · exact absurd (sameB_iff.2 h2.symm) h1
      · exact numT_at h2
/-- The same number, the same term. -/
theorem numT_inj {S : List Tm} {t u : Tm} (ht : t ∈ S) (hu : u ∈ S) (h : numT t S = numT u S) : t = u := by
  have h1 := numT_at ht
  rw [h, numT_at hu] at h1
  cases h1
  rfl
/-- More behind makes no difference. -/
theorem numT_more {t : Tm} : ∀ {S : List Tm} (R : List Tm), t ∈ S → numT t (S ++ R) = numT t S
  | [], R, h => by cases h
  | x :: r, R, h => by
    rw [List.cons_append, numT, numT]
    by_cases h1 : sameB x t = true
    · rw [if_pos h1, if_pos h1]
    · rw [if_neg h1, if_neg h1]
      rcases List.mem_cons.1 h with h2 | h2
      · exact absurd (sameB_iff.2 h2.symm) h1
      · rw [numT_more R h2]
/-- One more, if it is new. -/
def seeT (S : List Tm) (t : Tm) : List Tm := if numT t S < S.length then S else S ++ [t]
theorem see_mem (S : List Tm) (t : Tm) : t ∈ seeT S t := by
  unfold seeT
  split
  · rename_i h; exact numT_lt.1 h
  · simp
theorem see_grows (S : List Tm) (t : Tm) : ∃ R, seeT S t = S ++ R := by
  unfold seeT
  split
  · exact ⟨[], by simp⟩
  · exact ⟨[t], rfl⟩
theorem see_num (S : List Tm) (t : Tm) : numT t (seeT S t) = numT t S := by
  unfold seeT
  split
  · rfl
  · rename_i h
    have key : ∀ S : List Tm, t ∉ S → numT t (S ++ [t]) = S.length ∧ numT t S = S.length := by
      intro S
      induction S with
      | nil => intro _; simp [numT, sameB_iff.2 (rfl : t = t)]
      | cons x r ih =>
        intro hn
        have h1 : ¬ sameB x t = true := fun e => hn (by rw [sameB_iff.1 e]; simp)
        obtain ⟨i1, i2⟩ := ih fun h => hn (by simp [h])
        rw [List.cons_append, numT, numT, if_neg h1, if_neg h1, i1, i2]
        simp
    have := key S fun hm => h (numT_lt.2 hm)
    omega
/-- All of a list, one behind the other. -/
def seeL (S : List Tm) (l : List Tm) : List Tm := l.foldl seeT S
theorem seeL_grows : ∀ (l S : List Tm), ∃ R, seeL S l = S ++ R
  | [], S => ⟨[], by simp [seeL]⟩
  | t :: l, S => by
    obtain ⟨R1, h1⟩ := see_grows S t
    obtain ⟨R2, h2⟩ := seeL_grows l (seeT S t)
    exact ⟨R1 ++ R2, by rw [seeL, List.foldl_cons, ← seeL, h2, h1, List.append_assoc]⟩
theorem seeL_mem : ∀ (l S : List Tm) {t : Tm}, t ∈ l → t ∈ seeL S l
  | u :: l, S, t, h => by
    rw [seeL, List.foldl_cons, ← seeL]
    rcases List.mem_cons.1 h with rfl | h
    · obtain ⟨R, e⟩ := seeL_grows l (seeT S t)
      rw [e]
      exact List.mem_append_left _ (see_mem S t)
    · exact seeL_mem l _ h
#print axioms numT_inj
#print axioms seeL_mem
end Go.Proofs.YteojdfmdhgnmfaaGreat

/- The order by paths is a strict order, with all below below, kept by bindings and by what is around, and total without variables: plain. -/
namespace Go.Proofs.YteojdfmdhgnmfaaGreat
open Go.RowKit
set_option linter.unusedSimpArgs false
set_option linter.unusedVariables false

/-- What it is to be above. -/
theorem path_iff (row : List ByteArray) (a b : Tm) : pathB row a b = true ↔ varB a.name = false ∧ ((∃ x ∈ a.args, x = b ∨ pathB row x b = true) ∨
    (varB b.name = false ∧ gtS row b a = false ∧ (∀ y ∈ b.args, pathB row a y = true) ∧ (gtS row a b = true ∨ ∃ x y, unl a.args b.args = some (x, y) ∧ pathB row x y = true))) := by
  have h1 : ((a.args.any fun x => sameB x b || pathB row x b) = true) ↔ ∃ x ∈ a.args, x = b ∨ pathB row x b = true := by
    rw [List.any_eq_true]
    constructor
    · rintro ⟨x, hx, h⟩
      rw [Bool.or_eq_true, sameB_iff] at h
      exact ⟨x, hx, h⟩
    · rintro ⟨x, hx, h⟩
      exact ⟨x, hx, by rw [Bool.or_eq_true, sameB_iff]; exact h⟩
  have h2 : ((b.args.all fun y => pathB row a y) = true) ↔ ∀ y ∈ b.args, pathB row a y = true := by rw [List.all_eq_true]
  rw [pathB_eq]
  by_cases va : varB a.name = true
  · simp [va]
  · rw [if_neg va]
    have va' : varB a.name = false := by simpa using va
    by_cases hs : (a.args.any fun x => sameB x b || pathB row x b) = true
    · rw [if_pos hs]
      exact ⟨fun _ => ⟨va', Or.inl (h1.1 hs)⟩, fun _ => rfl⟩
    · rw [if_neg hs]
      have hs' : ¬ ∃ x ∈ a.args, x = b ∨ pathB row x b = true := fun h => hs (h1.2 h)
      by_cases vb : varB b.name = true
      · rw [if_pos vb]
        constructor
        · intro h; cases h
        · rintro ⟨_, h | h⟩
          · exact absurd h hs'
          · rw [vb] at h; cases h.1
      · rw [if_neg vb]
        have vb' : varB b.name = false := by simpa using vb
        by_cases gb : gtS row b a = true
        · rw [if_pos gb]
          constructor
          · intro h; cases h
          · rintro ⟨_, h | h⟩
            · exact absurd h hs'
            · rw [gb] at h; cases h.2.1
        · rw [if_neg gb]
          have gb' : gtS row b a = false := by simpa using gb
          by_cases hal : (b.args.all fun y => pathB row a y) = false
          · rw [if_pos hal]
            constructor
            · intro h; cases h
            · rintro ⟨_, h | h⟩
              · exact absurd h hs'
              · rw [h2.2 h.2.2.1] at hal; cases hal
          · rw [if_neg hal]
            have hal' : ∀ y ∈ b.args, pathB row a y = true := h2.1 (by simpa using hal)
            by_cases ga : gtS row a b = true
            · rw [if_pos ga]
              exact ⟨fun _ => ⟨va', Or.inr ⟨vb', gb', hal', Or.inl ga⟩⟩, fun _ => rfl⟩
            · rw [if_neg ga]
              cases hu : unl a.args b.args with
              | none =>
                constructor
                · intro h; cases h
                · rintro ⟨_, h | ⟨_, _, _, h | ⟨x, y, h, _⟩⟩⟩
                  · exact absurd h hs'
                  · exact absurd h ga
                  · cases h
              | some p =>
                obtain ⟨x, y⟩ := p
                constructor
                · intro h
                  exact ⟨va', Or.inr ⟨vb', gb', hal', Or.inr ⟨x, y, rfl, h⟩⟩⟩
                · rintro ⟨_, h | ⟨_, _, _, h | ⟨x', y', h, h'⟩⟩⟩
                  · exact absurd h hs'
                  · exact absurd h ga
                  · cases h; exact h'

theorem path_sub {row : List ByteArray} {a x : Tm} (ha : varB a.name = false) (hx : x ∈ a.args) : pathB row a x = true := (path_iff row a x).2 ⟨ha, Or.inl ⟨x, hx, Or.inl rfl⟩⟩

/-- How two symbols compare, by three numbers. -/
theorem gtS_iff {row : List ByteArray} {a b : Tm} : gtS row a b = true ↔ rankN b.name row < rankN a.name row ∨ (rankN b.name row = rankN a.name row ∧ (ltB b.name a.name = true ∨ (b.name = a.name ∧ b.args.length < a.args.length))) := by
  unfold gtS
  by_cases h1 : rankN a.name row = rankN b.name row
  · rw [if_neg (by simpa using h1)]
    by_cases h2 : a.name = b.name
    · rw [if_neg (by simpa using h2)]
      have h3 : ltB b.name a.name = false := by rw [h2]; exact ltB_irrefl _
      simp [h1, h2, h3, ltB_irrefl]
    · rw [if_pos h2]
      have h3 : b.name ≠ a.name := fun e => h2 e.symm
      simp [h1, h3]
  · rw [if_pos h1]
    have h3 : rankN b.name row ≠ rankN a.name row := fun e => h1 e.symm
    simp [h3]
theorem gtS_irrefl {row : List ByteArray} {a b : Tm} (hn : a.name = b.name) (hl : a.args.length = b.args.length) : gtS row a b = false := by
  cases h : gtS row a b with
  | false => rfl
  | true =>
    rw [gtS_iff, hn, hl] at h
    rcases h with h | ⟨_, h | ⟨_, h⟩⟩
    · omega
    · rw [ltB_irrefl] at h; cases h
    · omega
theorem gtS_trans {row : List ByteArray} {a b c : Tm} (h1 : gtS row a b = true) (h2 : gtS row b c = true) : gtS row a c = true := by
  rw [gtS_iff] at *
  rcases h1 with h1 | ⟨h1, h1'⟩
  · rcases h2 with h2 | ⟨h2, _⟩
    · exact Or.inl (by omega)
    · exact Or.inl (by omega)
  · rcases h2 with h2 | ⟨h2, h2'⟩
    · exact Or.inl (by omega)
    · refine Or.inr ⟨by omega, ?_⟩
      rcases h1' with h1' | ⟨e1, l1⟩
      · rcases h2' with h2' | ⟨e2, l2⟩
        · exact Or.inl (ltB_trans h2' h1')
        · rw [e2]; exact Or.inl h1'
      · rcases h2' with h2' | ⟨e2, l2⟩
        · rw [← e1]; exact Or.inl h2'
        · exact Or.inr ⟨e2.trans e1, by omega⟩

theorem ltB_total {a b : ByteArray} (h : a ≠ b) : ltB a b = true ∨ ltB b a = true := by
  cases h1 : ltB a b with
  | true => exact Or.inl rfl
  | false =>
    cases h2 : ltB b a with
    | true => exact Or.inr rfl
    | false => exact absurd (ltB_conn h1 h2) h
theorem gtS_same {row : List ByteArray} {a b : Tm} (h1 : gtS row a b = false) (h2 : gtS row b a = false) : a.name = b.name ∧ a.args.length = b.args.length := by
  have n1 : ¬ gtS row a b = true := by rw [h1]; simp
  have n2 : ¬ gtS row b a = true := by rw [h2]; simp
  rw [gtS_iff] at n1 n2
  have hr : rankN b.name row = rankN a.name row := by
    rcases Nat.lt_trichotomy (rankN b.name row) (rankN a.name row) with h | h | h
    · exact absurd (Or.inl h) n1
    · exact h
    · exact absurd (Or.inl h) n2
  have hn : a.name = b.name := by
    apply Classical.byContradiction
    intro hne
    rcases ltB_total hne with h | h
    · exact n2 (Or.inr ⟨hr.symm, Or.inl h⟩)
    · exact n1 (Or.inr ⟨hr, Or.inl h⟩)
  refine ⟨hn, ?_⟩
  rcases Nat.lt_trichotomy a.args.length b.args.length with h | h | h
  · exact absurd (Or.inr ⟨hr.symm, Or.inr ⟨hn, h⟩⟩) n2
  · exact h
  · exact absurd (Or.inr ⟨hr, Or.inr ⟨hn.symm, h⟩⟩) n1
/-- At most the same, and greater: greater; but for one symbol. -/
theorem gtS_cases {row : List ByteArray} {a b : Tm} (h : gtS row b a = false) : gtS row a b = true ∨ (a.name = b.name ∧ a.args.length = b.args.length) := by
  cases h1 : gtS row a b with
  | true => exact Or.inl rfl
  | false => exact Or.inr (gtS_same h1 h)
theorem gtS_congr {row : List ByteArray} {a b a' b' : Tm} (h1 : a.name = a'.name) (h2 : a.args.length = a'.args.length) (h3 : b.name = b'.name) (h4 : b.args.length = b'.args.length) : gtS row a b = gtS row a' b' := by
  unfold gtS
  rw [h1, h2, h3, h4]

theorem unl_self : ∀ l : List Tm, unl l l = none
  | [] => rfl
  | t :: l => by rw [unl, if_pos (sameB_iff.2 rfl), unl_self l]
theorem unl_ne : ∀ {a b : List Tm} {x y : Tm}, unl a b = some (x, y) → x ≠ y
  | [], _, x, y, h => by simp [unl] at h
  | _ :: _, [], x, y, h => by simp [unl] at h
  | t :: a, u :: b, x, y, h => by
    rw [unl] at h
    split at h
    · exact unl_ne h
    · rename_i hs
      cases h
      exact fun e => hs (sameB_iff.2 e)
theorem unl_none : ∀ {a b : List Tm}, a.length = b.length → unl a b = none → a = b
  | [], [], _, _ => rfl
  | [], _ :: _, h, _ => by simp at h
  | _ :: _, [], h, _ => by simp at h
  | t :: a, u :: b, h, hu => by
    rw [unl] at hu
    split at hu
    · rename_i hs
      rw [sameB_iff.1 hs, unl_none (by simpa using h) hu]
    · cases hu
theorem unl_swap : ∀ {a b : List Tm} {x y : Tm}, unl a b = some (x, y) → unl b a = some (y, x)
  | [], _, x, y, h => by simp [unl] at h
  | _ :: _, [], x, y, h => by simp [unl] at h
  | t :: a, u :: b, x, y, h => by
    rw [unl] at h
    by_cases e : sameB t u = true
    · rw [if_pos e] at h
      rw [unl, if_pos (sameB_iff.2 (sameB_iff.1 e).symm)]
      exact unl_swap h
    · rw [if_neg e] at h
      cases h
      rw [unl, if_neg fun e' => e (sameB_iff.2 (sameB_iff.1 e').symm)]
/-- Two lists that are first unlike somewhere, and two more: what the outer ones are. -/
theorem unl_two {R : Tm → Tm → Prop} : ∀ {a b c : List Tm} {x y y' z : Tm}, (∀ x ∈ a, ∀ y ∈ b, ∀ z ∈ c, R x y → R y z → R x z ∧ x ≠ z) → a.length = b.length → b.length = c.length → unl a b = some (x, y) → unl b c = some (y', z) → R x y → R y' z → ∃ p q, unl a c = some (p, q) ∧ R p q
  | [], _, _, x, y, y', z, _, _, _, h, _, _, _ => by simp [unl] at h
  | _ :: _, [], _, x, y, y', z, _, _, _, h, _, _, _ => by simp [unl] at h
  | _ :: _, _ :: _, [], x, y, y', z, _, _, _, _, h, _, _ => by simp [unl] at h
  | t :: a, u :: b, v :: c, x, y, y', z, hR, h1, h2, hu, hv, r1, r2 => by
    rw [unl] at hu hv
    by_cases e1 : sameB t u = true
    · rw [if_pos e1] at hu
      rw [sameB_iff] at e1
      subst e1
      by_cases e2 : sameB t v = true
      · rw [if_pos e2] at hv
        rw [unl, if_pos e2]
        exact unl_two (fun x hx y hy z hz => hR x (by simp [hx]) y (by simp [hy]) z (by simp [hz])) (by simpa using h1) (by simpa using h2) hu hv r1 r2
      · rw [if_neg e2] at hv
        cases hv
        rw [unl, if_neg e2]
        exact ⟨_, _, rfl, r2⟩
    · rw [if_neg e1] at hu
      cases hu
      by_cases e2 : sameB u v = true
      · rw [sameB_iff] at e2
        subst e2
        rw [unl, if_neg e1]
        exact ⟨_, _, rfl, r1⟩
      · rw [if_neg e2] at hv
        cases hv
        obtain ⟨h3, h4⟩ := hR _ (by simp) _ (by simp) _ (by simp) r1 r2
        have e3 : ¬ sameB t v = true := fun e => h4 (sameB_iff.1 e)
        rw [unl, if_neg e3]
        exact ⟨_, _, rfl, h3⟩

theorem size_pos (t : Tm) : 0 < sizeL [t] := by
  obtain ⟨s, l⟩ := t
  simp [sizeL]; omega
theorem size_one {s : ByteArray} {l : List Tm} : sizeL [(⟨s, l⟩ : Tm)] = 1 + sizeL l := by simp [sizeL]

/-- The heart: transitive, and none above itself. -/
theorem path_heart (row : List ByteArray) : ∀ n : Nat, (∀ a b c : Tm, sizeL [a] + sizeL [b] + sizeL [c] ≤ n → pathB row a b = true → pathB row b c = true → pathB row a c = true) ∧ (∀ a : Tm, 3 * sizeL [a] ≤ n → pathB row a a = false)
  | 0 => ⟨fun a b c h => by have := size_pos a; omega, fun a h => by have := size_pos a; omega⟩
  | n + 1 => by
    obtain ⟨IT, IR⟩ := path_heart row n
    refine ⟨fun a b c hn hab hbc => ?_, fun a hn => ?_⟩
    · have hab' := (path_iff row a b).1 hab
      have hbc' := (path_iff row b c).1 hbc
      obtain ⟨va, hab'⟩ := hab'
      obtain ⟨vb, hbc'⟩ := hbc'
      rcases hab' with ⟨x, hx, h⟩ | ⟨_, gab, allb, hsym⟩
      · have := size_arg hx
        rcases h with rfl | h
        · exact (path_iff row a c).2 ⟨va, Or.inl ⟨x, hx, Or.inr hbc⟩⟩
        · exact (path_iff row a c).2 ⟨va, Or.inl ⟨x, hx, Or.inr (IT x b c (by omega) h hbc)⟩⟩
      · rcases hbc' with ⟨y, hy, h⟩ | ⟨vc, gbc, allc, hsym'⟩
        · have := size_arg hy
          rcases h with rfl | h
          · exact allb y hy
          · exact IT a y c (by omega) (allb y hy) h
        · have hall : ∀ z ∈ c.args, pathB row a z = true := fun z hz => by
            have := size_arg hz
            exact IT a b z (by omega) hab (allc z hz)
          rcases gtS_cases gab with g1 | ⟨n1, l1⟩
          · have gac : gtS row a c = true := by
              rcases gtS_cases gbc with g2 | ⟨n2, l2⟩
              · exact gtS_trans g1 g2
              · rw [← gtS_congr (a := a) (b := b) rfl rfl n2 l2]; exact g1
            exact (path_iff row a c).2 ⟨va, Or.inr ⟨vc, gtS_asymm gac, hall, Or.inl gac⟩⟩
          · rcases gtS_cases gbc with g2 | ⟨n2, l2⟩
            · have gac : gtS row a c = true := by rw [gtS_congr (a' := b) (b' := c) n1 l1 rfl rfl]; exact g2
              exact (path_iff row a c).2 ⟨va, Or.inr ⟨vc, gtS_asymm gac, hall, Or.inl gac⟩⟩
            · have gca : gtS row c a = false := gtS_irrefl (n2.symm.trans n1.symm) (by omega)
              rcases hsym with h | ⟨x, y, hu, hxy⟩
              · rw [gtS_irrefl n1 l1] at h; cases h
              · rcases hsym' with h | ⟨y', z, hu', hyz⟩
                · rw [gtS_irrefl n2 l2] at h; cases h
                · have key : ∀ x ∈ a.args, ∀ y ∈ b.args, ∀ z ∈ c.args, pathB row x y = true → pathB row y z = true → pathB row x z = true ∧ x ≠ z := by
                    intro x mx y my z mz h1 h2
                    have sx := size_arg mx
                    have sy := size_arg my
                    have sz := size_arg mz
                    have h3 := IT x y z (by omega) h1 h2
                    refine ⟨h3, ?_⟩
                    rintro rfl
                    rcases Nat.le_total (sizeL [x]) (sizeL [y]) with hle | hle
                    · rw [IR x (by omega)] at h3; cases h3
                    · have h4 := IT y x y (by omega) h2 h1
                      rw [IR y (by omega)] at h4; cases h4
                  obtain ⟨p, q, hpq, hR⟩ := unl_two (R := fun u v => pathB row u v = true) key l1 l2 hu hu' hxy hyz
                  exact (path_iff row a c).2 ⟨va, Or.inr ⟨vc, gca, hall, Or.inr ⟨p, q, hpq, hR⟩⟩⟩
    · cases h : pathB row a a with
      | false => rfl
      | true =>
        obtain ⟨va, h⟩ := (path_iff row a a).1 h
        rcases h with ⟨x, hx, h⟩ | ⟨_, _, _, h | ⟨x, y, hu, _⟩⟩
        · have := size_arg hx
          rcases h with rfl | h
          · omega
          · have h1 := IT x a x (by omega) h (path_sub va hx)
            rw [IR x (by omega)] at h1
            exact h1.symm
        · rw [gtS_irrefl rfl rfl] at h; exact h.symm
        · rw [unl_self] at hu; cases hu
theorem path_trans {row : List ByteArray} {a b c : Tm} (h1 : pathB row a b = true) (h2 : pathB row b c = true) : pathB row a c = true := (path_heart row _).1 a b c (Nat.le_refl _) h1 h2
theorem path_irrefl (row : List ByteArray) (a : Tm) : pathB row a a = false := (path_heart row _).2 a (Nat.le_refl _)
theorem path_asymm {row : List ByteArray} {a b : Tm} (h : pathB row a b = true) : pathB row b a = false := by
  cases h1 : pathB row b a with
  | false => rfl
  | true => have := path_trans h h1; rw [path_irrefl] at this; exact this.symm
theorem unl_at : ∀ (p q : List Tm) {a b : Tm}, a ≠ b → unl (p ++ a :: q) (p ++ b :: q) = some (a, b)
  | [], q, a, b, h => by rw [List.nil_append, List.nil_append, unl, if_neg fun e => h (sameB_iff.1 e)]
  | t :: p, q, a, b, h => by rw [List.cons_append, List.cons_append, unl, if_pos (sameB_iff.2 rfl)]; exact unl_at p q h
/-- Kept by what is around. -/
theorem path_ctx {row : List ByteArray} {s : ByteArray} (hs : varB s = false) (p q : List Tm) {a b : Tm} (h : pathB row a b = true) : pathB row ⟨s, p ++ a :: q⟩ ⟨s, p ++ b :: q⟩ = true := by
  have hne : a ≠ b := fun e => by rw [e, path_irrefl] at h; cases h
  refine (path_iff row _ _).2 ⟨hs, Or.inr ⟨hs, gtS_irrefl rfl (by simp), fun y hy => ?_, Or.inr ⟨a, b, unl_at p q hne, h⟩⟩⟩
  have hy' : y ∈ p ++ b :: q := hy
  rw [List.mem_append, List.mem_cons] at hy'
  rcases hy' with hy' | rfl | hy'
  · exact path_sub hs (show y ∈ p ++ a :: q by simp [hy'])
  · exact (path_iff row _ _).2 ⟨hs, Or.inl ⟨a, (show a ∈ p ++ a :: q by simp), Or.inr h⟩⟩
  · exact path_sub hs (show y ∈ p ++ a :: q by simp [hy'])
/-- No variable anywhere. -/
def grd (t : Tm) : Prop := ∀ k ∈ preL [t], varB k.name = false
theorem grd_name {t : Tm} (h : grd t) : varB t.name = false := h t (by obtain ⟨s, l⟩ := t; simp [preL])
theorem pre_arg {t x : Tm} (hx : x ∈ t.args) : ∀ k ∈ preL [x], k ∈ preL [t] := by
  obtain ⟨s, l⟩ := t
  intro k hk
  have e : preL [(⟨s, l⟩ : Tm)] = ⟨s, l⟩ :: (preL l ++ preL []) := by simp [preL]
  obtain ⟨p, q, hpq⟩ := List.append_of_mem (show x ∈ l from hx)
  rw [e, hpq, show p ++ x :: q = p ++ ([x] ++ q) by simp, preL_app, preL_app]
  simp [hk]
theorem grd_arg {t x : Tm} (h : grd t) (hx : x ∈ t.args) : grd x := fun k hk => h k (pre_arg hx k hk)
/-- Of two that are unlike, without variables, one is above the other. -/
theorem path_total (row : List ByteArray) : ∀ (n : Nat) (a b : Tm), sizeL [a] + sizeL [b] ≤ n → grd a → grd b → a = b ∨ pathB row a b = true ∨ pathB row b a = true
  | 0, a, b, h, _, _ => by have := size_pos a; omega
  | n + 1, a, b, h, ga, gb => by
    by_cases h1 : ∃ x ∈ a.args, x = b ∨ pathB row x b = true
    · exact Or.inr (Or.inl ((path_iff row a b).2 ⟨grd_name ga, Or.inl h1⟩))
    by_cases h2 : ∃ y ∈ b.args, y = a ∨ pathB row y a = true
    · exact Or.inr (Or.inr ((path_iff row b a).2 ⟨grd_name gb, Or.inl h2⟩))
    have hb : ∀ x ∈ a.args, pathB row b x = true := fun x hx => by
      have := size_arg hx
      rcases path_total row n x b (by omega) (grd_arg ga hx) gb with e | e | e
      · exact absurd ⟨x, hx, Or.inl e⟩ h1
      · exact absurd ⟨x, hx, Or.inr e⟩ h1
      · exact e
    have ha : ∀ y ∈ b.args, pathB row a y = true := fun y hy => by
      have := size_arg hy
      rcases path_total row n a y (by omega) ga (grd_arg gb hy) with e | e | e
      · exact absurd ⟨y, hy, Or.inl e.symm⟩ h2
      · exact e
      · exact absurd ⟨y, hy, Or.inr e⟩ h2
    cases g1 : gtS row a b with
    | true => exact Or.inr (Or.inl ((path_iff row a b).2 ⟨grd_name ga, Or.inr ⟨grd_name gb, gtS_asymm g1, ha, Or.inl g1⟩⟩))
    | false =>
      cases g2 : gtS row b a with
      | true => exact Or.inr (Or.inr ((path_iff row b a).2 ⟨grd_name gb, Or.inr ⟨grd_name ga, g1, hb, Or.inl g2⟩⟩))
      | false =>
        obtain ⟨hn, hl⟩ := gtS_same g1 g2
        cases hu : unl a.args b.args with
        | none =>
          have := unl_none hl hu
          obtain ⟨s, l⟩ := a
          obtain ⟨s', l'⟩ := b
          simp only at hn this
          exact Or.inl (by rw [hn, this])
        | some p =>
          obtain ⟨x, y⟩ := p
          obtain ⟨mx, my⟩ := unl_mem hu
          have := size_arg mx
          have := size_arg my
          have hne := unl_ne hu
          rcases path_total row n x y (by omega) (grd_arg ga mx) (grd_arg gb my) with e | e | e
          · exact absurd e hne
          · exact Or.inr (Or.inl ((path_iff row a b).2 ⟨grd_name ga, Or.inr ⟨grd_name gb, g2, ha, Or.inr ⟨x, y, hu, e⟩⟩⟩))
          · exact Or.inr (Or.inr ((path_iff row b a).2 ⟨grd_name gb, Or.inr ⟨grd_name ga, g1, hb, Or.inr ⟨y, x, unl_swap hu, e⟩⟩⟩))
#print axioms path_trans
#print axioms path_ctx
#print axioms path_total
end Go.Proofs.YteojdfmdhgnmfaaGreat

/- A term with what stands for its variables, as the document says. -/
namespace Go.Proofs.YteojdfmdhgnmfaaGreat
set_option linter.unusedSimpArgs false
set_option linter.unusedVariables false

/-- A knot with what stands for it, or above what has been made of those below. -/
def onN (l : List Bd) (s : ByteArray) (es0 bs : List Tm) : Tm :=
  match forT l s with
  | some x => if es0.isEmpty = true then x else ⟨s, bs⟩
  | none => ⟨s, bs⟩
def onL (l : List Bd) : List Tm → List Tm
  | [] => []
  | ⟨s, es0⟩ :: r => onN l s es0 (onL l es0) :: onL l r
def onT (l : List Bd) (t : Tm) : Tm := onN l t.name t.args (onL l t.args)

theorem onL_cons (l : List Bd) (t : Tm) (r : List Tm) : onL l (t :: r) = onT l t :: onL l r := by
  obtain ⟨s, es0⟩ := t
  simp only [onL, onT]
theorem onL_length (l : List Bd) : ∀ es0, (onL l es0).length = es0.length
  | [] => by simp [onL]
  | t :: r => by rw [onL_cons]; simp [onL_length l r]
theorem onL_append (l : List Bd) (b : List Tm) : ∀ a, onL l (a ++ b) = onL l a ++ onL l b
  | [] => by simp [onL]
  | t :: r => by rw [List.cons_append, onL_cons, onL_cons, onL_append l b r]; rfl
theorem onL_take (l : List Bd) (es0 : List Tm) (k : Nat) (h : k < es0.length) : onL l (es0.take (k + 1)) = onL l (es0.take k) ++ [onT l es0[k]] := by
  rw [List.take_succ_eq_append_getElem h, onL_append, onL_cons]
  simp [onL]
theorem onT_some {l : List Bd} {s : ByteArray} {x : Tm} (h : forT l s = some x) : onT l ⟨s, []⟩ = x := by simp [onT, onN, h]
theorem onT_deep {l : List Bd} {s : ByteArray} {es0 : List Tm} (h : es0 ≠ [] ∨ forT l s = none) : onT l ⟨s, es0⟩ = ⟨s, onL l es0⟩ := by
  unfold onT onN
  rcases h with h | h
  · cases forT l s with
    | none => rfl
    | some x => simp [h]
  · rw [h]
theorem onL_size_take (l : List Bd) (es0 : List Tm) (k : Nat) (h : k < es0.length) : sizeL (onL l (es0.take (k + 1))) = sizeL (onL l (es0.take k)) + sizeL [onT l es0[k]] := by rw [onL_take l es0 k h, sizeL_append]
theorem onL_size_le (l : List Bd) (es0 : List Tm) (k : Nat) : sizeL (onL l (es0.take k)) ≤ sizeL (onL l es0) := by
  have := sizeL_append (onL l (es0.take k)) (onL l (es0.drop k))
  rw [← onL_append, List.take_append_drop] at this
  omega
end Go.Proofs.YteojdfmdhgnmfaaGreat

/- The order by paths is kept by bindings; the order by weights is a strict order, kept by bindings and by what is around, total without variables: plain. -/
namespace Go.Proofs.YteojdfmdhgnmfaaGreat
open Go.RowKit
set_option linter.unusedSimpArgs false
set_option linter.unusedVariables false

theorem onL_map (s : List Bd) : ∀ l : List Tm, onL s l = l.map (onT s)
  | [] => by simp [onL]
  | t :: l => by rw [onL_cons, onL_map s l]; rfl
/-- Just variables are bound. -/
def VarsB (s : List Bd) : Prop := ∀ n x, forT s n = some x → varB n = true
theorem on_sym {s : List Bd} (hs : VarsB s) {t : Tm} (h : varB t.name = false) : onT s t = ⟨t.name, t.args.map (onT s)⟩ := by
  obtain ⟨n, l⟩ := t
  have hn : forT s n = none := by
    cases hf : forT s n with
    | none => rfl
    | some x =>
      have := hs n x hf
      rw [show varB n = false from h] at this
      cases this
  rw [onT_deep (Or.inr hn), onL_map]
theorem unl_map {f : Tm → Tm} : ∀ {a b : List Tm} {x y : Tm}, unl a b = some (x, y) → f x ≠ f y → unl (a.map f) (b.map f) = some (f x, f y)
  | [], _, x, y, h, _ => by simp [unl] at h
  | _ :: _, [], x, y, h, _ => by simp [unl] at h
  | t :: a, u :: b, x, y, h, hne => by
    rw [unl] at h
    by_cases e : sameB t u = true
    · rw [if_pos e] at h
      rw [sameB_iff] at e
      subst e
      rw [List.map_cons, List.map_cons, unl, if_pos (sameB_iff.2 rfl)]
      exact unl_map h hne
    · rw [if_neg e] at h
      cases h
      rw [List.map_cons, List.map_cons, unl, if_neg fun e' => hne (sameB_iff.1 e')]
/-- Kept by bindings. -/
theorem path_on {row : List ByteArray} {s : List Bd} (hs : VarsB s) : ∀ (n : Nat) (a b : Tm), sizeL [a] + sizeL [b] ≤ n → pathB row a b = true → pathB row (onT s a) (onT s b) = true
  | 0, a, b, h, _ => by have := size_pos a; omega
  | n + 1, a, b, hn, h => by
    obtain ⟨va, h⟩ := (path_iff row a b).1 h
    rw [on_sym hs va]
    rcases h with ⟨x, hx, h⟩ | ⟨vb, gb, all, h⟩
    · refine (path_iff row _ _).2 ⟨va, Or.inl ⟨onT s x, List.mem_map.2 ⟨x, hx, rfl⟩, ?_⟩⟩
      have := size_arg hx
      rcases h with rfl | h
      · exact Or.inl rfl
      · exact Or.inr (path_on hs n x b (by omega) h)
    · rw [on_sym hs vb]
      refine (path_iff row _ _).2 ⟨va, Or.inr ⟨vb, ?_, fun y hy => ?_, ?_⟩⟩
      · rw [← gb]
        exact gtS_congr rfl (by simp) rfl (by simp)
      · obtain ⟨y0, hy0, rfl⟩ := List.mem_map.1 (show y ∈ b.args.map (onT s) from hy)
        have := size_arg hy0
        have h1 := path_on hs n a y0 (by omega) (all y0 hy0)
        rw [on_sym hs va] at h1
        exact h1
      · rcases h with h | ⟨x, y, hu, h⟩
        · refine Or.inl ?_
          rw [← h]
          exact gtS_congr rfl (by simp) rfl (by simp)
        · obtain ⟨mx, my⟩ := unl_mem hu
          have := size_arg mx
          have := size_arg my
          have h1 := path_on hs n x y (by omega) h
          have hne : onT s x ≠ onT s y := fun e => by rw [e, path_irrefl] at h1; cases h1
          exact Or.inr ⟨_, _, unl_map hu hne, h1⟩

/-- What it is to be above, by weights. -/
theorem weight_iff (row : List ByteArray) (a b : Tm) : weightB row a b = true ↔ hasAll a b = true ∧ (sizeL [b] < sizeL [a] ∨ (sizeL [a] = sizeL [b] ∧ varB a.name = false ∧ varB b.name = false ∧
    (gtS row a b = true ∨ (gtS row b a = false ∧ ∃ x y, unl a.args b.args = some (x, y) ∧ weightB row x y = true)))) := by
  rw [weightB_eq]
  by_cases ha : hasAll a b = false
  · simp [ha]
  · have ha' : hasAll a b = true := by simpa using ha
    rw [if_neg ha]
    by_cases hz : sizeL [a] = sizeL [b]
    · rw [if_neg (by simpa using hz)]
      by_cases va : varB a.name = true
      · simp [va, hz]
      · rw [if_neg va]
        have va' : varB a.name = false := by simpa using va
        by_cases vb : varB b.name = true
        · simp [vb, hz]
        · rw [if_neg vb]
          have vb' : varB b.name = false := by simpa using vb
          by_cases ga : gtS row a b = true
          · simp [ga, ha', hz, va', vb']
          · rw [if_neg ga]
            by_cases gb : gtS row b a = true
            · simp [ga, gb, ha', hz, va', vb']
            · rw [if_neg gb]
              have gb' : gtS row b a = false := by simpa using gb
              cases hu : unl a.args b.args with
              | none => simp [ga, gb', ha', hz, va', vb']
              | some p =>
                obtain ⟨x, y⟩ := p
                constructor
                · intro h
                  exact ⟨ha', Or.inr ⟨hz, va', vb', Or.inr ⟨gb', x, y, rfl, h⟩⟩⟩
                · rintro ⟨_, h | ⟨_, _, _, h | ⟨_, x', y', h, h'⟩⟩⟩
                  · omega
                  · exact absurd h ga
                  · cases h; exact h'
    · rw [if_pos hz]
      simp [ha', hz]
theorem weight_irrefl (row : List ByteArray) (a : Tm) : weightB row a a = false := by
  cases h : weightB row a a with
  | false => rfl
  | true =>
    obtain ⟨_, h | ⟨_, _, _, h | ⟨_, x, y, h, _⟩⟩⟩ := (weight_iff row a a).1 h
    · omega
    · rw [gtS_irrefl rfl rfl] at h; exact h.symm
    · rw [unl_self] at h; cases h
theorem hasAll_trans {a b c : Tm} (h1 : hasAll a b = true) (h2 : hasAll b c = true) : hasAll a c = true := by
  rw [hasAll_iff] at *
  exact fun v hv => Nat.le_trans (h2 v hv) (h1 v hv)
theorem weight_trans0 (row : List ByteArray) : ∀ (n : Nat) (a b c : Tm), sizeL [a] ≤ n → weightB row a b = true → weightB row b c = true → weightB row a c = true
  | 0, a, b, c, h, _, _ => by have := size_pos a; omega
  | n + 1, a, b, c, hn, h1, h2 => by
    obtain ⟨p1, h1⟩ := (weight_iff row a b).1 h1
    obtain ⟨p2, h2⟩ := (weight_iff row b c).1 h2
    refine (weight_iff row a c).2 ⟨hasAll_trans p1 p2, ?_⟩
    rcases h1 with h1 | ⟨z1, va, vb, h1⟩
    · rcases h2 with h2 | ⟨z2, _⟩
      · exact Or.inl (by omega)
      · exact Or.inl (by omega)
    · rcases h2 with h2 | ⟨z2, _, vc, h2⟩
      · exact Or.inl (by omega)
      · refine Or.inr ⟨by omega, va, vc, ?_⟩
        have g1 : gtS row a b = true ∨ (a.name = b.name ∧ a.args.length = b.args.length) := by
          rcases h1 with h | ⟨h, _⟩
          · exact Or.inl h
          · exact gtS_cases h
        have g2 : gtS row b c = true ∨ (b.name = c.name ∧ b.args.length = c.args.length) := by
          rcases h2 with h | ⟨h, _⟩
          · exact Or.inl h
          · exact gtS_cases h
        rcases g1 with g1 | ⟨n1, l1⟩
        · rcases g2 with g2 | ⟨n2, l2⟩
          · exact Or.inl (gtS_trans g1 g2)
          · exact Or.inl (by rw [← gtS_congr (a := a) (b := b) rfl rfl n2 l2]; exact g1)
        · rcases g2 with g2 | ⟨n2, l2⟩
          · exact Or.inl (by rw [gtS_congr (a' := b) (b' := c) n1 l1 rfl rfl]; exact g2)
          · rcases h1 with h | ⟨_, x, y, hu, hxy⟩
            · rw [gtS_irrefl n1 l1] at h; cases h
            · rcases h2 with h | ⟨_, y', z, hu', hyz⟩
              · rw [gtS_irrefl n2 l2] at h; cases h
              · obtain ⟨p, q, hpq, hR⟩ := unl_two (R := fun u v => weightB row u v = true) (fun x mx y my z mz h1 h2 => by
                  have := size_arg mx
                  have h3 := weight_trans0 row n x y z (by omega) h1 h2
                  exact ⟨h3, by rintro rfl; rw [weight_irrefl] at h3; cases h3⟩) l1 l2 hu hu' hxy hyz
                exact Or.inr ⟨gtS_irrefl (n2.symm.trans n1.symm) (by omega), p, q, hpq, hR⟩
theorem weight_trans {row : List ByteArray} {a b c : Tm} (h1 : weightB row a b = true) (h2 : weightB row b c = true) : weightB row a c = true := weight_trans0 row _ a b c (Nat.le_refl _) h1 h2
theorem weight_asymm {row : List ByteArray} {a b : Tm} (h : weightB row a b = true) : weightB row b a = false := by
  cases h1 : weightB row b a with
  | false => rfl
  | true => have := weight_trans h h1; rw [weight_irrefl] at this; exact this.symm
theorem oft_app (v : ByteArray) (a b : List Tm) : oftL v (a ++ b) = oftL v a + oftL v b := by
  unfold oftL
  rw [preL_app, List.filter_append, List.length_append]
theorem oft_one (v s : ByteArray) (l : List Tm) : oftL v [(⟨s, l⟩ : Tm)] = (if s = v then 1 else 0) + oftL v l := by
  unfold oftL
  have e : preL [(⟨s, l⟩ : Tm)] = ⟨s, l⟩ :: preL l := by simp [preL]
  rw [e, List.filter_cons]
  by_cases h : s = v
  · simp [h]; omega
  · simp [h]
theorem oft_mid (v s : ByteArray) (p q : List Tm) (a : Tm) : oftL v [(⟨s, p ++ a :: q⟩ : Tm)] = (if s = v then 1 else 0) + oftL v p + oftL v [a] + oftL v q := by
  rw [oft_one, show p ++ a :: q = p ++ ([a] ++ q) by simp, oft_app, oft_app]; omega
theorem size_mid (s : ByteArray) (p q : List Tm) (a : Tm) : sizeL [(⟨s, p ++ a :: q⟩ : Tm)] = 1 + sizeL p + sizeL [a] + sizeL q := by
  rw [size_one, show p ++ a :: q = p ++ ([a] ++ q) by simp, sizeL_append, sizeL_append]; omega
/-- Kept by what is around. -/
theorem weight_ctx {row : List ByteArray} {s : ByteArray} (hs : varB s = false) (p q : List Tm) {a b : Tm} (h : weightB row a b = true) : weightB row ⟨s, p ++ a :: q⟩ ⟨s, p ++ b :: q⟩ = true := by
  have hne : a ≠ b := fun e => by rw [e, weight_irrefl] at h; cases h
  have h' := (weight_iff row a b).1 h
  obtain ⟨p1, h1⟩ := h'
  refine (weight_iff row _ _).2 ⟨(hasAll_iff _ _).2 fun v hv => ?_, ?_⟩
  · have := (hasAll_iff a b).1 p1 v hv
    rw [oft_mid, oft_mid]; omega
  · rw [size_mid, size_mid]
    rcases h1 with h1 | ⟨z, _⟩
    · exact Or.inl (by omega)
    · exact Or.inr ⟨by omega, hs, hs, Or.inr ⟨gtS_irrefl rfl (by simp), a, b, unl_at p q hne, h⟩⟩
theorem weight_sub {row : List ByteArray} {s : ByteArray} (p q : List Tm) (a : Tm) : weightB row ⟨s, p ++ a :: q⟩ a = true := by
  refine (weight_iff row _ _).2 ⟨(hasAll_iff _ _).2 fun v hv => ?_, Or.inl ?_⟩
  · rw [oft_mid]; omega
  · rw [size_mid]; omega
theorem grd_oft {t : Tm} (h : grd t) {v : ByteArray} (hv : varB v = true) : oftL v [t] = 0 := oft_none fun k hk e => by
  have := h k hk
  rw [e, hv] at this; cases this
theorem grd_all {a b : Tm} (hb : grd b) : hasAll a b = true := (hasAll_iff a b).2 fun v hv => by rw [grd_oft hb hv]; exact Nat.zero_le _
theorem weight_total (row : List ByteArray) : ∀ (n : Nat) (a b : Tm), sizeL [a] ≤ n → grd a → grd b → a = b ∨ weightB row a b = true ∨ weightB row b a = true
  | 0, a, b, h, _, _ => by have := size_pos a; omega
  | n + 1, a, b, h, ga, gb => by
    rcases Nat.lt_trichotomy (sizeL [a]) (sizeL [b]) with z | z | z
    · exact Or.inr (Or.inr ((weight_iff row b a).2 ⟨grd_all ga, Or.inl z⟩))
    · cases g1 : gtS row a b with
      | true => exact Or.inr (Or.inl ((weight_iff row a b).2 ⟨grd_all gb, Or.inr ⟨z, grd_name ga, grd_name gb, Or.inl g1⟩⟩))
      | false =>
        cases g2 : gtS row b a with
        | true => exact Or.inr (Or.inr ((weight_iff row b a).2 ⟨grd_all ga, Or.inr ⟨z.symm, grd_name gb, grd_name ga, Or.inl g2⟩⟩))
        | false =>
          obtain ⟨hn, hl⟩ := gtS_same g1 g2
          cases hu : unl a.args b.args with
          | none =>
            have := unl_none hl hu
            obtain ⟨s, l⟩ := a
            obtain ⟨s', l'⟩ := b
            simp only at hn this
            exact Or.inl (by rw [hn, this])
          | some p =>
            obtain ⟨x, y⟩ := p
            obtain ⟨mx, my⟩ := unl_mem hu
            have := size_arg mx
            have hne := unl_ne hu
            rcases weight_total row n x y (by omega) (grd_arg ga mx) (grd_arg gb my) with e | e | e
            · exact absurd e hne
            · exact Or.inr (Or.inl ((weight_iff row a b).2 ⟨grd_all gb, Or.inr ⟨z, grd_name ga, grd_name gb, Or.inr ⟨g2, x, y, hu, e⟩⟩⟩))
            · exact Or.inr (Or.inr ((weight_iff row b a).2 ⟨grd_all ga, Or.inr ⟨z.symm, grd_name gb, grd_name ga, Or.inr ⟨g1, y, x, unl_swap hu, e⟩⟩⟩))
    · exact Or.inr (Or.inl ((weight_iff row a b).2 ⟨grd_all gb, Or.inl z⟩))

/-- How often a name stands in a list. -/
def cnB (v : ByteArray) (L : List ByteArray) : Nat := (L.filter fun u => decide (u = v)).length
theorem cnB_cons (v u : ByteArray) (L : List ByteArray) : cnB v (u :: L) = (if u = v then 1 else 0) + cnB v L := by
  unfold cnB
  rw [List.filter_cons]
  by_cases h : u = v
  · simp [h]; omega
  · simp [h]
theorem cnB_app (v : ByteArray) (L K : List ByteArray) : cnB v (L ++ K) = cnB v L + cnB v K := by
  unfold cnB
  rw [List.filter_append, List.length_append]
theorem cnB_mem {v : ByteArray} {L : List ByteArray} (h : 0 < cnB v L) : v ∈ L := by
  unfold cnB at h
  obtain ⟨x, hx⟩ := List.exists_mem_of_length_pos h
  rw [List.mem_filter] at hx
  have : x = v := by simpa using hx.2
  rw [← this]; exact hx.1
theorem sum_le_of {f : ByteArray → Nat} : ∀ (B A : List ByteArray), (∀ v, cnB v B ≤ cnB v A) → (B.map f).sum ≤ (A.map f).sum
  | [], A, _ => by simp
  | u :: B, A, h => by
    have h1 := h u
    rw [cnB_cons, if_pos rfl] at h1
    obtain ⟨p, q, e⟩ := List.append_of_mem (cnB_mem (v := u) (L := A) (by omega))
    have h2 := sum_le_of (f := f) B (p ++ q) fun v => by
      have h3 := h v
      rw [e, cnB_cons, cnB_app, cnB_cons] at h3
      rw [cnB_app]; omega
    rw [e]
    simp only [List.map_cons, List.sum_cons, List.map_append, List.sum_append] at h2 ⊢
    omega
/-- The variables, as often as they stand. -/
def vlL (l : List Tm) : List ByteArray := ((preL l).map (·.name)).filter varB
theorem vlL_app (a b : List Tm) : vlL (a ++ b) = vlL a ++ vlL b := by
  unfold vlL
  rw [preL_app, List.map_append, List.filter_append]
theorem vlL_one (s : ByteArray) (l : List Tm) : vlL [(⟨s, l⟩ : Tm)] = if varB s = true then s :: vlL l else vlL l := by
  unfold vlL
  have e : preL [(⟨s, l⟩ : Tm)] = ⟨s, l⟩ :: preL l := by simp [preL]
  rw [e, List.map_cons, List.filter_cons]
theorem oft_vl {v : ByteArray} (hv : varB v = true) (l : List Tm) : oftL v l = cnB v (vlL l) := by
  unfold oftL cnB vlL
  rw [List.filter_filter]
  generalize preL l = k
  induction k with
  | nil => rfl
  | cons t k ih =>
    rw [List.filter_cons, List.map_cons, List.filter_cons]
    by_cases h : t.name = v
    · simp [h, hv, ih]
    · simp [h, ih]
theorem all_vl {a b : Tm} (h : hasAll a b = true) (v : ByteArray) : cnB v (vlL [b]) ≤ cnB v (vlL [a]) := by
  by_cases hv : varB v = true
  · rw [← oft_vl hv, ← oft_vl hv]
    exact (hasAll_iff a b).1 h v hv
  · have : cnB v (vlL [b]) = 0 := by
      cases hc : cnB v (vlL [b]) with
      | zero => rfl
      | succ n =>
        have := cnB_mem (v := v) (L := vlL [b]) (by omega)
        unfold vlL at this
        rw [List.mem_filter] at this
        exact absurd this.2 hv
    omega
/-- Variables have none below them. -/
def Flat (l : List Tm) : Prop := ∀ k ∈ preL l, varB k.name = true → k.args = []
theorem Flat.cons {t : Tm} {r : List Tm} (h : Flat (t :: r)) : Flat [t] ∧ Flat r := by
  have e : preL (t :: r) = preL [t] ++ preL r := preL_app [t] r
  exact ⟨fun k hk => h k (by rw [e]; simp [hk]), fun k hk => h k (by rw [e]; simp [hk])⟩
theorem Flat.kids {s : ByteArray} {l : List Tm} (h : Flat [(⟨s, l⟩ : Tm)]) : Flat l := fun k hk => h k (by simp [preL, hk])
/-- How often a variable stands once bindings are put in, and how many knots there are. -/
theorem on_sums {s : List Bd} (hs : VarsB s) {v : ByteArray} (hv : varB v = true) : ∀ l : List Tm, Flat l → oftL v (onL s l) = ((vlL l).map fun u => oftL v [onT s ⟨u, []⟩]).sum ∧ sizeL (onL s l) = sizeL l + ((vlL l).map fun u => sizeL [onT s ⟨u, []⟩] - 1).sum := by
  intro l
  induction l using Tm.indL with
  | h0 => intro _; simp [onL, vlL, preL, oftL, sizeL]
  | h n a r iha ihr =>
    intro hf
    obtain ⟨f1, f2⟩ := hf.cons
    obtain ⟨a1, a2⟩ := iha f1.kids
    obtain ⟨r1, r2⟩ := ihr f2
    have e1 : vlL (⟨n, a⟩ :: r) = vlL [(⟨n, a⟩ : Tm)] ++ vlL r := vlL_app [_] r
    have e2 : sizeL ((⟨n, a⟩ : Tm) :: r) = sizeL [(⟨n, a⟩ : Tm)] + sizeL r := sizeL_append [_] r
    rw [onL_cons, show onT s ⟨n, a⟩ :: onL s r = [onT s ⟨n, a⟩] ++ onL s r from rfl, oft_app, sizeL_append, e1, e2, List.map_append, List.map_append, List.sum_append, List.sum_append, r1, r2]
    by_cases vn : varB n = true
    · have ha : a = [] := f1 ⟨n, a⟩ (by simp [preL]) vn
      subst ha
      have e3 : vlL [(⟨n, []⟩ : Tm)] = [n] := by rw [vlL_one, if_pos vn]; simp [vlL, preL]
      rw [e3]
      have := size_pos (onT s ⟨n, []⟩)
      have e4 : sizeL [(⟨n, []⟩ : Tm)] = 1 := by simp [sizeL]
      simp only [List.map_cons, List.map_nil, List.sum_cons, List.sum_nil]
      omega
    · have vn' : varB n = false := by simpa using vn
      have hne : n ≠ v := fun e => vn (by rw [e]; exact hv)
      have e3 : onT s ⟨n, a⟩ = ⟨n, onL s a⟩ := by rw [on_sym hs (t := ⟨n, a⟩) vn', onL_map]
      rw [e3, oft_one, if_neg hne, vlL_one, if_neg vn, size_one, size_one, a1, a2]
      omega
theorem flat_arg {t x : Tm} (h : Flat [t]) (hx : x ∈ t.args) : Flat [x] := fun k hk => h k (pre_arg hx k hk)
theorem weight_on {row : List ByteArray} {s : List Bd} (hs : VarsB s) : ∀ (n : Nat) (a b : Tm), sizeL [a] ≤ n → Flat [a] → Flat [b] → weightB row a b = true → weightB row (onT s a) (onT s b) = true
  | 0, a, b, h, _, _, _ => by have := size_pos a; omega
  | n + 1, a, b, hn, fa, fb, h => by
    obtain ⟨p, h⟩ := (weight_iff row a b).1 h
    have hc := all_vl p
    have one : ∀ t : Tm, onL s [t] = [onT s t] := fun t => by rw [onL_cons]; simp [onL]
    have hall : hasAll (onT s a) (onT s b) = true := (hasAll_iff _ _).2 fun v hv => by
      have h1 := (on_sums hs hv [a] fa).1
      have h2 := (on_sums hs hv [b] fb).1
      rw [one] at h1 h2
      rw [h1, h2]
      exact sum_le_of _ _ hc
    obtain ⟨v0, hv0⟩ : ∃ v : ByteArray, varB v = true := ⟨⟨#[65]⟩, by decide⟩
    have z1 := (on_sums hs hv0 [a] fa).2
    have z2 := (on_sums hs hv0 [b] fb).2
    rw [one] at z1 z2
    have zz := sum_le_of (f := fun u => sizeL [onT s ⟨u, []⟩] - 1) _ _ hc
    refine (weight_iff row _ _).2 ⟨hall, ?_⟩
    rcases h with h | ⟨z, va, vb, h⟩
    · exact Or.inl (by omega)
    · by_cases hz : sizeL [onT s b] < sizeL [onT s a]
      · exact Or.inl hz
      · refine Or.inr ⟨by omega, ?_⟩
        rw [on_sym hs va, on_sym hs vb]
        refine ⟨va, vb, ?_⟩
        have e1 : ∀ a b : Tm, gtS row ⟨a.name, a.args.map (onT s)⟩ ⟨b.name, b.args.map (onT s)⟩ = gtS row a b := fun a b => gtS_congr rfl (by simp) rfl (by simp)
        rw [e1, e1]
        rcases h with h | ⟨g, x, y, hu, h⟩
        · exact Or.inl h
        · obtain ⟨mx, my⟩ := unl_mem hu
          have := size_arg mx
          have h1 := weight_on hs n x y (by omega) (flat_arg fa mx) (flat_arg fb my) h
          have hne : onT s x ≠ onT s y := fun e => by rw [e, weight_irrefl] at h1; cases h1
          exact Or.inr ⟨g, _, _, unl_map hu hne, h1⟩
#print axioms path_on
#print axioms weight_on
#print axioms weight_ctx
#print axioms weight_total
end Go.Proofs.YteojdfmdhgnmfaaGreat

/- Texts read as terms: what both readers do. -/
namespace Go.Proofs.YteojdfmdhgnmfaaGreat
open Go.RowKit
set_option linter.unusedSimpArgs false
set_option linter.unusedVariables false

/-- Where the letters and digits from i on end. -/
def stopF (s : ByteArray) : Nat → Nat → Nat
  | 0, i => i
  | f + 1, i => if i < s.size ∧ alnB (byteAt s i) = true then stopF s f (i + 1) else i
def stopAt (s : ByteArray) (i : Nat) : Nat := stopF s (s.size - i) i

theorem stopF_ge (s : ByteArray) : ∀ f i, i ≤ stopF s f i
  | 0, i => Nat.le_refl _
  | f + 1, i => by
    unfold stopF; split
    · have := stopF_ge s f (i + 1); omega
    · exact Nat.le_refl _
theorem stopF_le (s : ByteArray) : ∀ f i, i ≤ s.size → stopF s f i ≤ s.size
  | 0, i, h => h
  | f + 1, i, h => by
    unfold stopF; split
    · rename_i hc; exact stopF_le s f (i + 1) hc.1
    · exact h
theorem stopAt_ge (s : ByteArray) (i : Nat) : i ≤ stopAt s i := stopF_ge s _ i
theorem stopAt_le (s : ByteArray) {i : Nat} (h : i ≤ s.size) : stopAt s i ≤ s.size := stopF_le s _ i h
theorem stopAt_go {s : ByteArray} {i : Nat} (h : i < s.size) (ha : alnB (byteAt s i) = true) : stopAt s i = stopAt s (i + 1) := by
  have e : s.size - i = (s.size - (i + 1)) + 1 := by omega
  unfold stopAt
  rw [e, stopF, if_pos ⟨h, ha⟩]
theorem stopAt_end {s : ByteArray} {i : Nat} (h : ¬ (i < s.size ∧ alnB (byteAt s i) = true)) : stopAt s i = i := by
  unfold stopAt
  cases hf : s.size - i with
  | zero => rfl
  | succ f => rw [stopF, if_neg h]

/-- What reading gives: an error (0: none), a term, where it ended, how many knots there were. -/
structure Rd where
  err : Int
  t : Tm
  pos : Nat
  k : Nat
def noRd (e : Int) : Rd := ⟨e, ⟨⟨#[]⟩, []⟩, 0, 0⟩

/-- A term from i on; or, behind a name and some terms below it, the next one from behind i on. -/
def rd (s : ByteArray) : Nat → Option (ByteArray × List Tm) → Nat → Nat → Rd
  | 0, _, _, _ => noRd 99
  | f + 1, none, i, k =>
    if stopAt s i = i then noRd (if i = s.size then 13 else 12)
    else if nameB (s.extract i (stopAt s i)) = false then noRd 1
    else if 200 < k + 1 then noRd 3
    else if stopAt s i < s.size ∧ byteAt s (stopAt s i) = 40 then
      if varB (s.extract i (stopAt s i)) = true then noRd 2 else rd s f (some (s.extract i (stopAt s i), [])) (stopAt s i) (k + 1)
    else ⟨0, ⟨s.extract i (stopAt s i), []⟩, stopAt s i, k + 1⟩
  | f + 1, some (nm, acc), i, k =>
    if (rd s f none (i + 1) k).err ≠ 0 then noRd (rd s f none (i + 1) k).err
    else if (rd s f none (i + 1) k).pos = s.size then noRd 13
    else if byteAt s (rd s f none (i + 1) k).pos = 41 then ⟨0, ⟨nm, acc ++ [(rd s f none (i + 1) k).t]⟩, (rd s f none (i + 1) k).pos + 1, (rd s f none (i + 1) k).k⟩
    else if byteAt s (rd s f none (i + 1) k).pos = 44 then rd s f (some (nm, acc ++ [(rd s f none (i + 1) k).t])) (rd s f none (i + 1) k).pos (rd s f none (i + 1) k).k
    else noRd 12

theorem noRd_err (e : Int) (h : e ≠ 0) : (noRd e).err ≠ 0 := h

/-- Where it ends lies behind where it began, and within the text. -/
theorem rd_pos (s : ByteArray) : ∀ f m i k, (rd s f m i k).err = 0 → i ≤ s.size → (m.isSome = true → i < s.size) → i < (rd s f m i k).pos ∧ (rd s f m i k).pos ≤ s.size := by
  intro f
  induction f with
  | zero => intro m i k h; simp [rd, noRd] at h
  | succ f ih =>
    intro m i k h hi hm
    match m with
    | none =>
      have h1 := stopAt_ge s i
      have h2 := stopAt_le s (i := i) (by omega)
      unfold rd at h ⊢
      split at h
      · exfalso; revert h; simp only [noRd]; split <;> omega
      · rename_i hne
        rw [if_neg hne]
        split at h
        · exfalso; revert h; simp [noRd]
        · rename_i h3
          rw [if_neg h3]
          split at h
          · exfalso; revert h; simp [noRd]
          · rename_i h4
            rw [if_neg h4]
            split at h
            · rename_i h5
              rw [if_pos h5]
              split at h
              · exfalso; revert h; simp [noRd]
              · rename_i h6
                rw [if_neg h6]
                have := ih _ _ _ h (by omega) (fun _ => h5.1)
                omega
            · rename_i h5
              rw [if_neg h5]
              exact ⟨by show i < stopAt s i; omega, h2⟩
    | some (nm, acc) =>
      unfold rd at h ⊢
      split at h
      · rename_i h1
        exact absurd h h1
      · rename_i h1
        rw [if_neg h1]
        simp only [ne_eq, Decidable.not_not] at h1
        split at h
        · exfalso; revert h; simp [noRd]
        · rename_i h2
          rw [if_neg h2]
          have hi2 : i < s.size := hm rfl
          · have h3 := ih none (i + 1) k h1 (by omega) (fun h => by cases h)
            split at h
            · rename_i h4
              rw [if_pos h4]
              exact ⟨by show i < (rd s f none (i + 1) k).pos + 1; omega, by show (rd s f none (i + 1) k).pos + 1 ≤ s.size; omega⟩
            · rename_i h4
              rw [if_neg h4]
              split at h
              · rename_i h5
                rw [if_pos h5]
                have := ih _ _ _ h (by omega) (fun _ => by omega)
                omega
              · exfalso; revert h; simp [noRd]
end Go.Proofs.YteojdfmdhgnmfaaGreat

/- The text of a term. -/
namespace Go.Proofs.YteojdfmdhgnmfaaGreat

/-- The texts of a list of terms, commas between. -/
def txtL : List Tm → List UInt8
  | [] => []
  | ⟨s, l⟩ :: r => s.data.toList ++ (if l.isEmpty = true then [] else 40 :: (txtL l ++ [41])) ++ (if r.isEmpty = true then [] else 44 :: txtL r)

/-- A name, and the first k below it, without the last bracket. -/
def txtTo (s : ByteArray) (l : List Tm) (k : Nat) : List UInt8 := if k = 0 then s.data.toList else s.data.toList ++ 40 :: txtL (l.take k)

theorem txtL_one (s : ByteArray) (l : List Tm) : txtL [(⟨s, l⟩ : Tm)] = s.data.toList ++ (if l.isEmpty = true then [] else 40 :: (txtL l ++ [41])) := by simp [txtL]

theorem txtL_cons (t : Tm) (r : List Tm) (h : r ≠ []) : txtL (t :: r) = txtL [t] ++ 44 :: txtL r := by
  obtain ⟨s, l⟩ := t
  rw [txtL_one]
  have hr : (r.isEmpty = true) = False := by simpa using h
  simp only [txtL, hr, if_false]

theorem txtL_append (a b : List Tm) (ha : a ≠ []) (hb : b ≠ []) : txtL (a ++ b) = txtL a ++ 44 :: txtL b := by
  induction a with
  | nil => exact absurd rfl ha
  | cons t r ih =>
    by_cases hr : r = []
    · subst hr; simpa using txtL_cons t b hb
    · rw [List.cons_append, txtL_cons t (r ++ b) (by simp [hr]), ih hr, txtL_cons t r hr]
      simp

theorem txtTo_zero (s : ByteArray) (l : List Tm) (h : 0 < l.length) : txtTo s l (0 + 1) = txtTo s l 0 ++ ([40] : List UInt8) ++ txtL [l[0]'h] := by
  have h1 : l.take (0 + 1) = l.take 0 ++ [l[0]] := List.take_succ_eq_append_getElem h
  have h2 : l.take 1 = [l[0]] := by simpa using h1
  unfold txtTo
  rw [if_neg (by decide), if_pos rfl, h2]
  simp

theorem txtTo_succ (s : ByteArray) (l : List Tm) (k : Nat) (hk : 0 < k) (h : k < l.length) : txtTo s l (k + 1) = txtTo s l k ++ [44] ++ txtL [l[k]] := by
  have h1 : l.take k ≠ [] := by
    intro e
    have h3 := congrArg List.length e
    rw [List.length_take] at h3
    simp only [List.length_nil] at h3
    omega
  unfold txtTo
  rw [if_neg (by omega), if_neg (by omega), List.take_succ_eq_append_getElem h, txtL_append _ _ h1 (by simp)]
  simp

theorem txtTo_end (s : ByteArray) (l : List Tm) (h : l ≠ []) : txtL [(⟨s, l⟩ : Tm)] = txtTo s l l.length ++ [41] := by
  have hl : l.length ≠ 0 := by intro e; exact h (List.length_eq_zero_iff.1 e)
  rw [txtL_one, if_neg (by simpa using h)]
  simp [txtTo, hl]

theorem txt_nil (s : ByteArray) : txtL [(⟨s, []⟩ : Tm)] = s.data.toList := by simp [txtL]

theorem txtTo_len (s : ByteArray) (l : List Tm) (k : Nat) (hk : k ≤ l.length) : (txtTo s l k).length ≤ (txtL [(⟨s, l⟩ : Tm)]).length := by
  rw [txtL_one]
  unfold txtTo
  by_cases h0 : k = 0
  · rw [if_pos h0]; simp
  · rw [if_neg h0]
    have hl : l ≠ [] := by intro e; subst e; simp at hk; omega
    rw [if_neg (by simpa using hl)]
    by_cases hd : l.drop k = []
    · have : l.take k = l := by have h2 := List.take_append_drop k l; rw [hd] at h2; simpa using h2
      rw [this]; simp
    · have ht : l.take k ≠ [] := by
        intro e
        have h3 := congrArg List.length e
        rw [List.length_take] at h3
        simp only [List.length_nil] at h3
        have hlp := List.length_pos_iff.2 hl
        omega
      have h2 := txtL_append (l.take k) (l.drop k) ht hd
      rw [List.take_append_drop] at h2
      rw [h2]; simp only [List.length_append, List.length_cons]; omega
#print axioms txtTo_len
end Go.Proofs.YteojdfmdhgnmfaaGreat

/- What was written is read again. -/
namespace Go.Proofs.YteojdfmdhgnmfaaGreat
open Go.RowKit
set_option linter.unusedSimpArgs false
set_option linter.unusedVariables false

theorem byteAt_list (s : ByteArray) (j : Nat) (c : UInt8) (h : s.data.toList[j]? = some c) : byteAt s j = (c.toNat : Int) := by
  have hj : j < s.data.toList.length := by
    rcases Nat.lt_or_ge j s.data.toList.length with h' | h'
    · exact h'
    · rw [List.getElem?_eq_none h'] at h; cases h
  have hs : j < s.size := by simpa using hj
  unfold byteAt
  rw [dif_pos hs]
  have : s.data.toList[j]? = some s[j] := by
    rw [List.getElem?_eq_getElem hj]; rfl
  rw [this] at h
  cases h
  rfl

theorem size_list (s : ByteArray) : s.size = s.data.toList.length := by simp

/-- The letters of a name are letters or digits. -/
theorem name_aln {nm : ByteArray} (h : nameB nm = true) : ∀ c ∈ nm.data.toList, alnB (c.toNat : Int) = true := by
  intro c hc
  obtain ⟨j, hj, hjc⟩ := List.getElem_of_mem hc
  have h2 : alnTo nm nm.size = true := by
    unfold nameB at h
    simp only [Bool.and_eq_true] at h
    exact h.2
  unfold alnTo at h2
  rw [List.all_eq_true] at h2
  have h3 := h2 j (by rw [List.mem_range, size_list]; exact hj)
  rw [byteAt_list nm j c (by rw [List.getElem?_eq_getElem hj, hjc])] at h3
  exact h3
theorem name_size {nm : ByteArray} (h : nameB nm = true) : 1 ≤ nm.size := by
  unfold nameB at h
  simp only [Bool.and_eq_true, decide_eq_true_eq] at h
  exact h.1.1.1

/-- A name ends where no letter or digit stands. -/
theorem stop_list (s : ByteArray) (rest : List UInt8) (hr : rest = [] ∨ ∃ c r, rest = c :: r ∧ alnB (c.toNat : Int) = false) : ∀ (nm pre : List UInt8), s.data.toList = pre ++ nm ++ rest → (∀ c ∈ nm, alnB (c.toNat : Int) = true) → stopAt s pre.length = pre.length + nm.length
  | [], pre, hL, _ => by
    have hsz : s.size = pre.length + rest.length := by rw [size_list, hL]; simp
    refine stopAt_end fun h => ?_
    rcases hr with rfl | ⟨c, r, rfl, hc⟩
    · simp at hsz; omega
    · have hb := byteAt_list s pre.length c (by rw [hL]; simp)
      rw [hb, hc] at h
      exact absurd h.2 (by simp)
  | a :: nm, pre, hL, ha => by
    have hsz : s.size = pre.length + (a :: nm).length + rest.length := by rw [size_list, hL]; simp; omega
    have hb := byteAt_list s pre.length a (by rw [hL]; simp)
    rw [stopAt_go (by simp at hsz; omega) (by rw [hb]; exact ha a (by simp))]
    have := stop_list s rest hr nm (pre ++ [a]) (by rw [hL]; simp) (fun c hc => ha c (by simp [hc]))
    simp at this
    rw [this]
    simp; omega

theorem ext_list (s nm : ByteArray) (pre rest : List UInt8) (h : s.data.toList = pre ++ nm.data.toList ++ rest) : s.extract pre.length (pre.length + nm.size) = nm := by
  have h1 : (s.extract pre.length (pre.length + nm.size)).data.toList = nm.data.toList := by
    have e : nm.size = nm.data.toList.length := size_list nm
    rw [ByteArray.data_extract, Array.toList_extract, h, e]
    simp [List.extract]
  cases hx : s.extract pre.length (pre.length + nm.size) with
  | mk d =>
    rw [hx] at h1
    cases nm with
    | mk e =>
      congr 1
      exact Array.toList_inj.1 h1

/-- What may stand behind a term. -/
def Behind (post : List UInt8) : Prop := post = [] ∨ ∃ c r, post = c :: r ∧ (c = 41 ∨ c = 44)

theorem rd_txt (s : ByteArray) : ∀ (t : Tm) (F k : Nat) (pre post : List UInt8), errL [t] = 0 → s.data.toList = pre ++ txtL [t] ++ post → Behind post → k + sizeL [t] ≤ 200 → 2 * (s.size - pre.length) + 1 ≤ F →
    rd s F none pre.length k = ⟨0, t, pre.length + (txtL [t]).length, k + sizeL [t]⟩ := by
  intro t
  induction t using Tm.ind with
  | h nm l ih =>
    intro F k pre post he hL hpost hk hF
    obtain ⟨f, rfl⟩ : ∃ f, F = f + 1 := ⟨F - 1, by omega⟩
    have hn : nameB nm = true := by
      cases h : nameB nm with
      | true => rfl
      | false => simp [errL, h] at he
    have hsz : sizeL [(⟨nm, l⟩ : Tm)] = 1 + sizeL l := by simp [sizeL]
    have hn1 := name_size hn
    have haln := name_aln hn
    rw [txtL_one] at hL ⊢
    have hnl : nm.data.toList.length = nm.size := (size_list nm).symm
    by_cases hl : l = []
    · subst hl
      simp only [List.isEmpty_nil, if_true, List.append_nil] at hL ⊢
      have hst : stopAt s pre.length = pre.length + nm.size := by
        rw [← hnl]
        refine stop_list s post ?_ nm.data.toList pre hL haln
        rcases hpost with h | ⟨c, r, h, hc⟩
        · exact Or.inl h
        · exact Or.inr ⟨c, r, h, by rcases hc with rfl | rfl <;> decide⟩
      have hx := ext_list s nm pre post hL
      rw [rd, hst, hx, if_neg (by omega), if_neg (by rw [hn]; simp), if_neg (by omega), if_neg, hnl]
      · simp [sizeL]
      · intro h
        rcases hpost with rfl | ⟨c, r, rfl, hc⟩
        · have : s.size = pre.length + nm.size := by rw [size_list, hL]; simp
          omega
        · have hb := byteAt_list s (pre.length + nm.size) c (by rw [hL, ← hnl]; simp)
          rw [hb] at h
          rcases hc with rfl | rfl
          · exact absurd h.2 (by decide)
          · exact absurd h.2 (by decide)
    · have hle : l.isEmpty = false := by simpa using hl
      rw [hle] at hL ⊢
      simp only [Bool.false_eq_true, if_false] at hL ⊢
      have hlp : 0 < l.length := List.length_pos_iff.2 hl
      have hv : varB nm = false := by
        cases h : varB nm with
        | false => rfl
        | true => simp [errL, hn, h, hlp] at he
      have hel : errL l = 0 := by
        simp only [errL, hn, hv] at he
        by_cases h0 : errL l = 0
        · exact h0
        · simp [h0] at he
      have hL2 : s.data.toList = pre ++ nm.data.toList ++ 40 :: (txtL l ++ 41 :: post) := by rw [hL]; simp
      have hst : stopAt s pre.length = pre.length + nm.size := by
        rw [← hnl]
        exact stop_list s _ (Or.inr ⟨40, _, rfl, by decide⟩) nm.data.toList pre hL2 haln
      have hx := ext_list s nm pre _ hL2
      have hb := byteAt_list s (pre.length + nm.size) 40 (by rw [hL2, ← hnl]; simp)
      have hss : s.size = pre.length + nm.size + 1 + (txtL l).length + 1 + post.length := by rw [size_list, hL2]; simp; omega
      have key : ∀ (r acc : List Tm) (f k : Nat) (pre' : List UInt8) (c : UInt8), r ≠ [] → (∀ t ∈ r, t ∈ l) → errL r = 0 → s.data.toList = pre' ++ c :: (txtL r ++ 41 :: post) → k + sizeL r ≤ 200 → 2 * (s.size - pre'.length) + 2 ≤ f →
          rd s f (some (nm, acc)) pre'.length k = ⟨0, ⟨nm, acc ++ r⟩, pre'.length + 1 + (txtL r).length + 1, k + sizeL r⟩ := by
        intro r
        induction r with
        | nil => intro acc f k pre' c h; exact absurd rfl h
        | cons t r ihr =>
          intro acc f k pre' c _ hmem her hLr hkr hfr
          obtain ⟨f0, rfl⟩ : ∃ f0, f = f0 + 1 := ⟨f - 1, by omega⟩
          have he1 : errL [t] = 0 := by
            rw [errL_cons] at her
            by_cases h0 : errL [t] = 0
            · exact h0
            · rw [if_neg h0] at her; exact absurd her h0
          have he2 : errL r = 0 := by rw [errL_cons, if_pos he1] at her; exact her
          have hsr : sizeL (t :: r) = sizeL [t] + sizeL r := sizeL_append [t] r
          have hlen : (pre' ++ [c]).length = pre'.length + 1 := by simp
          by_cases hr : r = []
          · subst hr
            have hq := ih t (hmem t (by simp)) f0 k (pre' ++ [c]) (41 :: post) he1 (by rw [hLr]; simp) (Or.inr ⟨41, post, rfl, Or.inl rfl⟩) (by omega) (by rw [hlen]; omega)
            rw [hlen] at hq
            have hs2 : s.size = pre'.length + 1 + (txtL [t]).length + 1 + post.length := by rw [size_list, hLr]; simp; omega
            have hb2 := byteAt_list s (pre'.length + 1 + (txtL [t]).length) 41 (by rw [hLr]; rw [show pre'.length + 1 + (txtL [t]).length = pre'.length + (1 + (txtL [t]).length) by omega]; simp [List.getElem?_append_right, Nat.add_comm 1])
            rw [rd, hq]
            simp only [ne_eq, not_true_eq_false, if_false]
            rw [if_neg (by omega), if_pos (by rw [hb2]; rfl)]
          · have htx : txtL (t :: r) = txtL [t] ++ 44 :: txtL r := txtL_cons t r hr
            have hq := ih t (hmem t (by simp)) f0 k (pre' ++ [c]) (44 :: (txtL r ++ 41 :: post)) he1 (by rw [hLr, htx]; simp) (Or.inr ⟨44, _, rfl, Or.inr rfl⟩) (by omega) (by rw [hlen]; omega)
            rw [hlen] at hq
            have hLp : s.data.toList = (pre' ++ c :: txtL [t]) ++ 44 :: (txtL r ++ 41 :: post) := by rw [hLr, htx]; simp
            have hlen2 : (pre' ++ c :: txtL [t]).length = pre'.length + 1 + (txtL [t]).length := by simp; omega
            have hs2 : s.size = pre'.length + 1 + (txtL [t]).length + 1 + (txtL r).length + 1 + post.length := by rw [size_list, hLp]; simp; omega
            have hb2 := byteAt_list s (pre' ++ c :: txtL [t]).length 44 (by rw [hLp]; simp)
            rw [hlen2] at hb2
            have hrec := ihr (acc ++ [t]) f0 (k + sizeL [t]) (pre' ++ c :: txtL [t]) 44 hr (fun x hx => hmem x (by simp [hx])) he2 hLp (by omega) (by rw [hlen2]; omega)
            rw [hlen2] at hrec
            rw [rd, hq]
            simp only [ne_eq, not_true_eq_false, if_false]
            rw [if_neg (by omega), if_neg (by rw [hb2]; decide), if_pos (by rw [hb2]; rfl), hrec, hsr, htx]
            simp
            omega
      have hfin := key l [] f (k + 1) (pre ++ nm.data.toList) 40 hl (fun _ h => h) hel hL2 (by omega) (by simp [hnl]; omega)
      have hplen : (pre ++ nm.data.toList).length = pre.length + nm.size := by simp
      rw [hplen] at hfin
      rw [rd, hst, hx, if_neg (by omega), if_neg (by rw [hn]; simp), if_neg (by omega), if_pos ⟨by omega, by rw [hb]; rfl⟩, if_neg (by rw [hv]; simp), hfin, hsz]
      simp [hnl]
      omega

/-- The whole text. -/
theorem rd_whole (t : Tm) (he : errL [t] = 0) (hk : sizeL [t] ≤ 200) : rd ⟨(txtL [t]).toArray⟩ (2 * (⟨(txtL [t]).toArray⟩ : ByteArray).size + 1) none 0 0 = ⟨0, t, (⟨(txtL [t]).toArray⟩ : ByteArray).size, sizeL [t]⟩ := by
  have hsz : (⟨(txtL [t]).toArray⟩ : ByteArray).size = (txtL [t]).length := by rw [size_list]
  have h := rd_txt ⟨(txtL [t]).toArray⟩ t (2 * (⟨(txtL [t]).toArray⟩ : ByteArray).size + 1) 0 [] [] he (by simp) (Or.inl rfl) (by omega) (by simp)
  simp only [List.length_nil, Nat.zero_add] at h
  rw [h, hsz]
#print axioms rd_whole
end Go.Proofs.YteojdfmdhgnmfaaGreat

/- No two terms have one text, nor two pairs of terms, with a sign between them: plain. -/
namespace Go.Proofs.YteojdfmdhgnmfaaGreat
open Go.RowKit
set_option linter.unusedSimpArgs false
set_option linter.unusedVariables false

/-- What may stand behind a term. -/
def Beh (x : List UInt8) : Prop := x = [] ∨ ∃ c r, x = c :: r ∧ (c = 41 ∨ c = 44 ∨ c = 61)
/-- What ends a name. -/
def Ends (x : List UInt8) : Prop := x = [] ∨ ∃ c r, x = c :: r ∧ alnB (c.toNat : Int) = false
theorem Beh.ends {x : List UInt8} (h : Beh x) : Ends x := by
  rcases h with h | ⟨c, r, e, h⟩
  · exact Or.inl h
  · refine Or.inr ⟨c, r, e, ?_⟩
    rcases h with rfl | rfl | rfl <;> decide
theorem name_split : ∀ (n m : List UInt8) {x y : List UInt8}, (∀ c ∈ n, alnB (c.toNat : Int) = true) → (∀ c ∈ m, alnB (c.toNat : Int) = true) → Ends x → Ends y → n ++ x = m ++ y → n = m ∧ x = y
  | [], [], x, y, _, _, _, _, h => ⟨rfl, by simpa using h⟩
  | [], c :: m, x, y, _, hm, hx, _, h => by
    exfalso
    have h : x = c :: (m ++ y) := by simpa using h
    have h1 := hm c (by simp)
    rcases hx with hx | ⟨d, r, e, h2⟩
    · rw [hx] at h; cases h
    · rw [e] at h
      injection h with h3 h4
      rw [← h3, h2] at h1
      cases h1
  | c :: n, [], x, y, hn, _, _, hy, h => by
    exfalso
    have h : c :: (n ++ x) = y := by simpa using h
    have h1 := hn c (by simp)
    rcases hy with hy | ⟨d, r, e, h2⟩
    · rw [hy] at h; cases h
    · rw [e] at h
      injection h with h3 h4
      rw [h3, h2] at h1
      cases h1
  | c :: n, d :: m, x, y, hn, hm, hx, hy, h => by
    have h : c :: (n ++ x) = d :: (m ++ y) := by simpa using h
    injection h with h1 h2
    obtain ⟨e1, e2⟩ := name_split n m (fun z hz => hn z (by simp [hz])) (fun z hz => hm z (by simp [hz])) hx hy h2
    exact ⟨by rw [h1, e1], e2⟩
theorem errL_parts0 {s : ByteArray} {l : List Tm} (h : errL [(⟨s, l⟩ : Tm)] = 0) : errL l = 0 := by
  simp only [errL] at h
  repeat' split at h
  all_goals first | (cases h; done) | assumption | simp_all
theorem errL_name0 {s : ByteArray} {l : List Tm} (h : errL [(⟨s, l⟩ : Tm)] = 0) : nameB s = true := by
  simp only [errL] at h
  repeat' split at h
  all_goals first | (cases h; done) | assumption | simp_all
def OneT (t : Tm) : Prop := ∀ (u : Tm) (x y : List UInt8), errL [t] = 0 → errL [u] = 0 → Beh x → Beh y → txtL [t] ++ x = txtL [u] ++ y → t = u ∧ x = y
theorem oneL : ∀ (l : List Tm), (∀ t ∈ l, OneT t) → ∀ (k : List Tm) (x y : List UInt8), l ≠ [] → k ≠ [] → errL l = 0 → errL k = 0 → txtL l ++ 41 :: x = txtL k ++ 41 :: y → l = k ∧ x = y
  | [], _, k, x, y, h, _, _, _, _ => absurd rfl h
  | t :: r, hT, [], x, y, _, h, _, _, _ => absurd rfl h
  | t :: r, hT, u :: q, x, y, _, _, he, hf, hh => by
    have e1 : errL [t] = 0 ∧ errL r = 0 := by
      rw [errL_cons] at he
      split at he
      · rename_i h; exact ⟨h, he⟩
      · rename_i h; exact absurd he h
    have e2 : errL [u] = 0 ∧ errL q = 0 := by
      rw [errL_cons] at hf
      split at hf
      · rename_i h; exact ⟨h, hf⟩
      · rename_i h; exact absurd hf h
    have T := hT t (by simp)
    by_cases hr : r = []
    · subst hr
      by_cases hq : q = []
      · subst hq
        obtain ⟨h1, h2⟩ := T u _ _ e1.1 e2.1 (Or.inr ⟨41, x, rfl, by simp⟩) (Or.inr ⟨41, y, rfl, by simp⟩) hh
        injection h2 with _ h2
        exact ⟨by rw [h1], h2⟩
      · rw [txtL_cons u q hq, List.append_assoc, List.cons_append] at hh
        obtain ⟨_, h2⟩ := T u _ _ e1.1 e2.1 (Or.inr ⟨41, x, rfl, by simp⟩) (Or.inr ⟨44, _, rfl, by simp⟩) hh
        injection h2 with h2 _
        cases h2
    · rw [txtL_cons t r hr, List.append_assoc, List.cons_append] at hh
      by_cases hq : q = []
      · subst hq
        obtain ⟨_, h2⟩ := T u _ _ e1.1 e2.1 (Or.inr ⟨44, _, rfl, by simp⟩) (Or.inr ⟨41, y, rfl, by simp⟩) hh
        injection h2 with h2 _
        cases h2
      · rw [txtL_cons u q hq, List.append_assoc, List.cons_append] at hh
        obtain ⟨h1, h2⟩ := T u _ _ e1.1 e2.1 (Or.inr ⟨44, _, rfl, by simp⟩) (Or.inr ⟨44, _, rfl, by simp⟩) hh
        injection h2 with _ h2
        obtain ⟨h3, h4⟩ := oneL r (fun t ht => hT t (by simp [ht])) q x y hr hq e1.2 e2.2 h2
        exact ⟨by rw [h1, h3], h4⟩
/-- No two terms have one text. -/
theorem oneT (t : Tm) : OneT t := by
  induction t using Tm.ind with
  | h s l ih =>
    rintro ⟨s', k⟩ x y he hf hx hy hh
    have nm : nameB s = true := errL_name0 he
    have nm' : nameB s' = true := errL_name0 hf
    rw [txtL_one, txtL_one, List.append_assoc, List.append_assoc] at hh
    have ends : ∀ (l : List Tm) (x : List UInt8), Beh x → Ends ((if l.isEmpty = true then [] else 40 :: (txtL l ++ [41])) ++ x) := fun l x hx => by
      by_cases hl : l.isEmpty = true
      · rw [if_pos hl]; exact hx.ends
      · rw [if_neg hl]; exact Or.inr ⟨40, _, rfl, by decide⟩
    obtain ⟨h1, h2⟩ := name_split _ _ (name_aln nm) (name_aln nm') (ends l x hx) (ends k y hy) hh
    have hs : s = s' := by
      obtain ⟨⟨a⟩⟩ := s
      obtain ⟨⟨b⟩⟩ := s'
      have : a = b := h1
      rw [this]
    have no40 : ∀ {x z : List UInt8}, Beh x → x ≠ 40 :: z := fun {x z} hx h => by
      rcases hx with hx | ⟨c, r, e, hc⟩
      · rw [hx] at h; cases h
      · rw [e] at h
        injection h with h _
        rw [h] at hc
        revert hc
        decide
    have e1 : errL l = 0 := (errL_parts0 he)
    have e2 : errL k = 0 := (errL_parts0 hf)
    cases l with
    | nil =>
      cases k with
      | nil => exact ⟨by rw [hs], by simpa using h2⟩
      | cons u k => exact absurd (by simpa using h2) (no40 (z := txtL (u :: k) ++ 41 :: y) hx)
    | cons t l =>
      cases k with
      | nil => exact absurd (by simpa using h2.symm) (no40 (z := txtL (t :: l) ++ 41 :: x) hy)
      | cons u k =>
        have h3 : txtL (t :: l) ++ 41 :: x = txtL (u :: k) ++ 41 :: y := by simpa using h2
        obtain ⟨h4, h5⟩ := oneL (t :: l) ih (u :: k) x y (by simp) (by simp) e1 e2 h3
        exact ⟨by rw [hs, h4], h5⟩
theorem txt_inj {t u : Tm} (ht : errL [t] = 0) (hu : errL [u] = 0) (h : txtL [t] = txtL [u]) : t = u := (oneT t u [] [] ht hu (Or.inl rfl) (Or.inl rfl) (by rw [h])).1
/-- Nor two pairs of terms. -/
theorem key_inj {a b c d : Tm} (ha : errL [a] = 0) (hb : errL [b] = 0) (hc : errL [c] = 0) (hd : errL [d] = 0) (h : txtL [a] ++ 61 :: txtL [b] = txtL [c] ++ 61 :: txtL [d]) : a = c ∧ b = d := by
  obtain ⟨h1, h2⟩ := oneT a c _ _ ha hc (Or.inr ⟨61, _, rfl, by simp⟩) (Or.inr ⟨61, _, rfl, by simp⟩) h
  injection h2 with _ h2
  exact ⟨h1, txt_inj hb hd h2⟩
#print axioms key_inj
end Go.Proofs.YteojdfmdhgnmfaaGreat

/- Maps by texts, as they lie in memory. -/
namespace Go.Proofs.YteojdfmdhgnmfaaGreat
open Go.RowKit
set_option linter.unusedSimpArgs false
set_option linter.unusedVariables false

def mapGet : List (ByteArray × Value) → ByteArray → Option Value
  | [], _ => none
  | p :: r, n => if p.1 = n then some p.2 else mapGet r n

/-- The entries' stamps: each below the clock, none twice. -/
def Stamps (es : Array MapEntry) (clk : Nat) : Prop := (∀ x ∈ es.toList, x.born < clk) ∧ (es.toList.map (·.born)).Nodup
/-- The map at r has these keys, in the order in which they came, and what stands for them. -/
def MapAt (w : World) (r : Nat) (L : List (ByteArray × Value)) : Prop :=
  ∃ es clk, w.heap[r]? = some (.map es clk) ∧ es.toList.map (fun e => (e.key, e.val)) = L.map (fun p => (Value.string p.1, p.2)) ∧ Stamps es clk
theorem Stamps.push {es : Array MapEntry} {clk : Nat} (h : Stamps es clk) (k v : Value) : Stamps (es.push { key := k, val := v, born := clk }) (clk + 1) := by
  obtain ⟨h1, h2⟩ := h
  refine ⟨fun x hx => ?_, ?_⟩
  · rw [Array.toList_push, List.mem_append] at hx
    rcases hx with hx | hx
    · have := h1 x hx; omega
    · have e : x = { key := k, val := v, born := clk } := by simpa using hx
      subst e; exact Nat.lt_succ_self _
  · rw [Array.toList_push, List.map_append, List.nodup_append]
    refine ⟨h2, by simp, fun a ha b hb => ?_⟩
    obtain ⟨x, hx, rfl⟩ := List.mem_map.1 ha
    have := h1 x hx
    have e : b = clk := by simpa using hb
    omega
theorem map_born_modify (j : Nat) (k v : Value) : ∀ l : List MapEntry, (l.modify j fun e => { e with key := k, val := v }).map (·.born) = l.map (·.born) := by
  induction j with
  | zero => intro l; cases l <;> simp
  | succ j ih => intro l; cases l with
    | nil => simp
    | cons a r => simp [List.modify_succ_cons, ih r]
theorem Stamps.modify {es : Array MapEntry} {clk : Nat} (h : Stamps es clk) (j : Nat) (k v : Value) : Stamps (es.modify j fun e => { e with key := k, val := v }) clk := by
  obtain ⟨h1, h2⟩ := h
  have e := map_born_modify j k v es.toList
  refine ⟨fun x hx => ?_, by rw [Array.toList_modify, e]; exact h2⟩
  rw [Array.toList_modify] at hx
  have : x.born ∈ es.toList.map (·.born) := by rw [← e]; exact List.mem_map.2 ⟨x, hx, rfl⟩
  obtain ⟨y, hy, hb⟩ := List.mem_map.1 this
  rw [← hb]; exact h1 y hy

theorem MapAt.new (w : World) : MapAt (w.alloc (.map #[] 0)) w.heap.size [] := ⟨#[], 0, heap_alloc_new w _, rfl, by simp [Stamps]⟩
theorem MapAt.lt {w : World} {r : Nat} {L : List (ByteArray × Value)} (h : MapAt w r L) : r < w.heap.size := by
  obtain ⟨es, clk, h, _⟩ := h
  exact (Array.getElem?_eq_some_iff.1 h).1
theorem MapAt.kept {w w' : World} {r : Nat} {L : List (ByteArray × Value)} (h : MapAt w r L) (hk : w'.heap[r]? = w.heap[r]?) : MapAt w' r L := by
  obtain ⟨es, clk, h1, h2⟩ := h
  exact ⟨es, clk, hk.trans h1, h2⟩
theorem MapAt.below {w w' : World} {r B : Nat} {L : List (ByteArray × Value)} (h : MapAt w r L) (hb : Below B w w') (hB : r < B) : MapAt w' r L := h.kept (hb.block r hB)

theorem findNow_map (n : ByteArray) : ∀ (l : List MapEntry) (L : List (ByteArray × Value)) (i : Nat), l.map (fun e => (e.key, e.val)) = L.map (fun p => (Value.string p.1, p.2)) →
    (mapGet L n = none → Instr.findNow .string (.string n) l i = some none) ∧ (∀ v, mapGet L n = some v → ∃ j, Instr.findNow .string (.string n) l i = some (some (j, v)))
  | [], [], i, h => ⟨fun _ => rfl, fun v h => by simp [mapGet] at h⟩
  | [], p :: L, i, h => by simp at h
  | e :: l, [], i, h => by simp at h
  | e :: l, p :: L, i, h => by
    simp only [List.map_cons, List.cons.injEq, Prod.mk.injEq] at h
    obtain ⟨⟨hk, hv⟩, ht⟩ := h
    obtain ⟨ih1, ih2⟩ := findNow_map n l L (i + 1) ht
    by_cases hn : p.1 = n
    · have hs : Instr.sameNow .string (.string n) e.key = some true := by
        rw [hk, hn]
        show some (n == n) = some true
        rw [show (n == n) = true from (MapKept.bytes_beq _ _).2 rfl]
      refine ⟨fun h => by simp [mapGet, hn] at h, fun v h => ⟨i, ?_⟩⟩
      simp only [mapGet, hn, if_true, Option.some.injEq] at h
      simp [Instr.findNow, hs, hv, h]
    · have hs : Instr.sameNow .string (.string n) e.key = some false := by
        rw [hk]
        show some (n == p.1) = some false
        have hb : (n == p.1) = false := by
          cases hh : (n == p.1) with
          | false => rfl
          | true => exact absurd ((MapKept.bytes_beq _ _).1 hh).symm hn
        rw [hb]
      refine ⟨fun h => ?_, fun v h => ?_⟩
      · rw [mapGet, if_neg hn] at h
        simp [Instr.findNow, hs, ih1 h]
      · rw [mapGet, if_neg hn] at h
        obtain ⟨j, hj⟩ := ih2 v h
        exact ⟨j, by simp [Instr.findNow, hs, hj]⟩

theorem run_look {P : Program} {w : World} {T kt et : TypeId} {r : Nat} {L : List (ByteArray × Value)} {z : Value} (hm : P.underlying T = some (.map kt et)) (hk : P.underlying kt = some .string) (hz : (zeroValue et).run P w = .ok z w) (h : MapAt w r L) (n : ByteArray) :
    (Instr.lookup T (.map (some r)) (.string n) true).run P w = .ok (.tuple #[(mapGet L n).getD z, .bool (mapGet L n).isSome]) w := by
  obtain ⟨es, clk, hb, he, hst⟩ := h
  obtain ⟨h1, h2⟩ := findNow_map n es.toList L 0 he
  have hc : ∀ b, (Instr.checkKey b 10000 kt (.string n)).run P w = .ok () w := fun b => MapKept.run_checkKey (k := .string n) hk (by simp [MapKept.IsKey]) b 9999
  cases hg : mapGet L n with
  | none => simp [Instr.lookup, run_underlying hm, MapKept.run_getObj_map hb, hc, MapKept.run_findKey hk (h1 hg), Result.andThen, hz]
  | some v =>
    obtain ⟨j, hj⟩ := h2 v hg
    simp [Instr.lookup, run_underlying hm, MapKept.run_getObj_map hb, hc, MapKept.run_findKey hk hj, Result.andThen]

theorem run_put {P : Program} {w : World} {T kt et : TypeId} {r : Nat} {L : List (ByteArray × Value)} (hm : P.underlying T = some (.map kt et)) (hk : P.underlying kt = some .string) (h : MapAt w r L) (n : ByteArray) (v : Value) (hn : mapGet L n = none) :
    ∃ w', (Instr.mapUpdate T (.map (some r)) (.string n) v).run P w = .ok () w' ∧ MapAt w' r (L ++ [(n, v)]) ∧ w'.heap.size = w.heap.size ∧ w'.os = w.os ∧ w'.tape = w.tape ∧ w'.output = w.output ∧ (∀ b, b ≠ r → w'.heap[b]? = w.heap[b]?) := by
  obtain ⟨es, clk, hb, he, hst⟩ := h
  obtain ⟨h1, h2⟩ := findNow_map n es.toList L 0 he
  have hc : (Instr.checkKey false 10000 kt (.string n)).run P w = .ok () w := MapKept.run_checkKey (k := .string n) hk (by simp [MapKept.IsKey]) false 9999
  have hlt : r < w.heap.size := (Array.getElem?_eq_some_iff.1 hb).1
  refine ⟨{ w with heap := w.heap.setIfInBounds r (.map (es.push { key := .string n, val := v, born := clk }) (clk + 1)) }, ?_, ⟨_, _, (MapKept.heap_set hb).1, by simp [he], hst.push _ _⟩, by simp, rfl, rfl, rfl, fun b hne => (MapKept.heap_set hb).2 b hne⟩
  simp [Instr.mapUpdate, run_underlying hm, MapKept.run_getObj_map hb, hc, MapKept.run_findKey hk (h1 hn), MapKept.run_setObj_map _ hb, Result.andThen]
end Go.Proofs.YteojdfmdhgnmfaaGreat

/- Walks: a copy of a term. -/
namespace Go.Proofs.YteojdfmdhgnmfaaGreat
open Go.RowKit
set_option linter.unusedSimpArgs false
set_option linter.unusedVariables false

theorem below3 {w : World} (o1 o2 o3 : Obj) : Below w.heap.size w (((w.alloc o1).alloc o2).alloc o3) := (below2 o1 o2).alloc (by simp; omega) o3

theorem below4 {w : World} (o1 o2 o3 o4 : Obj) : Below w.heap.size w ((((w.alloc o1).alloc o2).alloc o3).alloc o4) := (below3 o1 o2 o3).alloc (by simp; omega) o4

theorem copy_step {w wr w1 w3 : World} {T k : Nat} {u : Value} {l : List Tm} {xs : List Value} {o1 o2 : Obj} {s s' : ByteArray} {a1 : Option Addr} {n1 c1 g cap : Nat} {c0 : Array Value} (hrow : Row wr (w.heap.size + 3) T (fun _ => False) u (l.take k) xs) (hb : Below w.heap.size w wr)
    (h1 : Blk wr (w.heap.size + 1) c0 T) (h2 : Blk wr (w.heap.size + 1 + 1) #[.string s, u] T) (hsz : w.heap.size + 3 ≤ wr.heap.size) (hlt : k < l.length)
    (hb1 : Below (wr.alloc o1).drew.heap.size (wr.alloc o1).drew w1) (ht : TV w1 (fun b => (wr.alloc o1).drew.heap.size ≤ b) (.agg #[.string s', .slice a1 n1 c1]) l[k])
    (hown : w3.ownsRow (w.heap.size + 3) T 2 (.slice (some ⟨g, 0, none⟩) ((l.take k).length + 1) cap) ((l.take k).length + 1) (xs ++ [.string s', .slice a1 n1 c1])) (hg : (w1.alloc o2).grownBy w3 u.ownBlock) (hat : u.ownBlock = some g ∨ g = (w1.alloc o2).heap.size) :
    let w4 := w3.setCell ⟨w.heap.size + 1 + 1, 1, none⟩ (.slice (some ⟨g, 0, none⟩) ((l.take k).length + 1) cap)
    Row w4 (w.heap.size + 3) T (fun _ => False) (.slice (some ⟨g, 0, none⟩) ((l.take k).length + 1) cap) (l.take (k + 1)) (xs ++ [.string s', .slice a1 n1 c1]) ∧ Below w.heap.size w w4 ∧ Blk w4 (w.heap.size + 1) c0 T ∧ Blk w4 (w.heap.size + 1 + 1) #[.string s, .slice (some ⟨g, 0, none⟩) ((l.take k).length + 1) cap] T ∧ w.heap.size + 3 ≤ w4.heap.size := by
  intro w4
  have hbb : Below wr.heap.size wr (wr.alloc o1).drew := ((Below.refl _ _).alloc (Nat.le_refl _) o1).drew
  have hr1 := hrow.below hbb
  have hlt' := hrow.own.lt
  have hs1 := hb1.size
  have hsg := hg.size
  simp at hs1 hsg
  have hp := hr1.push (w1 := w1) (w2 := w1.alloc o2) (w3 := w3) (by simp; omega) (fun _ h => h.elim) hb1 (ht.mono fun b h _ => Or.inr h) o2 rfl hown hg hat
  have hw3 : Below w.heap.size w w3 := (((hb.trans (hbb.mono (by omega))).trans (hb1.mono (by simp; omega))).alloc (by omega) o2).grown hg (by simp; omega) (fun j hj => by have := (hlt' j hj).1; omega)
  have hA : Below w.heap.size w w4 := hw3.setCell (p := ⟨w.heap.size + 1 + 1, 1, none⟩) (by simp; omega) _
  refine ⟨?_, hA, (copy_blk h1 hb1 hg (fun e => by have := (hlt' _ e.symm).1; omega)).setOther _ _ (by omega), ?_, by simp [w4, World.setCell]; omega⟩
  · rw [List.take_succ_eq_append_getElem hlt]
    exact hp.setCell (by omega) (fun h => h) _
  · exact (copy_blk h2 hb1 hg (fun e => by have := (hlt' _ e.symm).1; omega)).set 1 _

set_option maxHeartbeats 1000000 in
theorem copyOf_any (t : Tm) : ∀ (v : Value) (w : World) (X : Nat → Prop), TV w X v t → sizeL [t] ≤ 1000000 →
    Calls Tryz.prog 15 #[v] w fun e w' => ∃ v', e = .returned v' ∧ TV w' (fun b => w.heap.size ≤ b) v' t ∧ Below w.heap.size w w' := by
  induction t using Tm.ind with
  | h s l ih =>
    intro v w X hv hsm
    have IH := hide ih
    clear ih
    obtain ⟨a, c, rfl, hs⟩ := hv
    have hl := hs.1
    have hz : sizeL [(⟨s, l⟩ : Tm)] = 1 + sizeL l := by simp [sizeL]
    rw [hz] at hsm
    clear hz
    have hlen := sizeL_len l
    obtain ⟨i0, hi, hz0, hz1, hz2⟩ := info_parts Tryz.infoTerm
    go_enter Tryz.func15, Tryz.ntmps15
    go_wp2_with fail
    go_loopw [12] (fun i wr => ∃ (k : Nat) (u : Value) (xs : List Value), k ≤ l.length ∧ i = .int .i64 k ∧ Row wr (w.heap.size + 3) 25 (fun _ => False) u (l.take k) xs ∧ Below w.heap.size w wr ∧ Blk wr (w.heap.size + 1) #[.string ⟨#[]⟩, .slice none 0 0] 25 ∧ Blk wr (w.heap.size + 1 + 1) #[.string s, u] 25 ∧ w.heap.size + 3 ≤ wr.heap.size) (fun i wr => l.length - (intOf i).toNat)
    case atStart =>
      refine ⟨0, .slice none 0 0, [], Nat.zero_le _, rfl, Row.start _ _ _ _, below3 _ _ _, ?_, ?_, by simp⟩
      · have := ((Blk.new (w.alloc (.cells #[.string s, .slice a l.length c] 25)) #[.string ⟨#[]⟩, .slice none 0 0] 25)).alloc (.cells #[.string s, .slice none 0 0] 25)
        simpa using this
      · have := Blk.new ((w.alloc (.cells #[.string s, .slice a l.length c] 25)).alloc (.cells #[.string ⟨#[]⟩, .slice none 0 0] 25)) #[.string s, .slice none 0 0] 25
        simpa using this
    case round =>
      obtain ⟨k, u, xs, hk, rfl, hrow, hb, hbl1, hbl2, hsz⟩ := hrel
      have HROW := hide hrow
      have HBL1 := hide hbl1
      have HBL2 := hide hbl2
      have HB := hide hb
      clear hrow hbl1
      by_cases hlt : k < l.length
      · obtain ⟨b, o, a', c', rfl, d0, d1, hx⟩ := hs.get hb (fun _ _ h => h) k hlt
        have hc2 : ∀ o, (wr.alloc o).cell? ⟨w.heap.size + 1 + 1, 1, none⟩ = some u := fun o => (hbl2.alloc o).cell 1
        have HX := hide hx
        have hszk : sizeL [l[k]] ≤ 1000000 := by
          have := sizeL_take l k hlt; have := sizeL_take_le l (k + 1); omega
        clear hbl2 hb hx
        go_wp2_with fail
        go_region_law (first
          | (go_simp; go_at_call 15; refine (IH.out _ (List.getElem_mem hlt) _ _ X (by exact (HX.out.alloc _).later (below_drewN (Below.refl _ _) 1)) hszk).mono ?_; rintro e w1 ⟨v1, rfl, ht1, hb1⟩; obtain ⟨a1, c1, rfl, hs1⟩ := ht1; have hc3 : ∀ o, (w1.alloc o).cell? ⟨w.heap.size + 1 + 1, 1, none⟩ = some u := fun o => ((((HBL2.out.alloc _).drewN 1).below hb1 (by simp; omega)).alloc o).cell 1; have hc4 : w1.cell? ⟨w.heap.size + 1 + 1, 1, none⟩ = some u := (((HBL2.out.alloc _).drewN 1).below hb1 (by simp; omega)).cell 1)
          | (refine step_append_lies _ rfl _ _ 23 rfl (w.heap.size + 3) 25 i0 _ 2 40 Tryz.underlying23 hi hz0 hz1 hz2 rfl (by decide) u (l.take k).length xs rfl (by exact (((HROW.out.below ((Below.refl _ _).alloc (Nat.le_refl _) _)).below (below_drewN (Below.refl _ _) 1)).below hb1).own.alloc _) ⟨w1.heap.size, 0, none⟩ 1 1 [.string l[k].name, .slice a1 l[k].args.length c1] rfl rfl (cell_two_new _ _ _ _) (fun x hx => by simp at hx; rcases hx with rfl | rfl <;> rfl) (by decide) (by unfold maxLen; simp; omega) (by simp; omega) (by have := hb1.size; simp at this ⊢; omega) _ rfl ?_; intro g cap w3 hown3 hgrow3 hat3 hlt3; have hB3 := hide (copy_blk HBL2.out hb1 hgrow3 (HROW.out.ne (Nat.lt_succ_self _))); have hc5 : w3.cell? ⟨w.heap.size + 1 + 1, 1, none⟩ = some u := hB3.out.cell 1; have hf5 := hB3.out.frozen 1))
        all_goals
          have HFIN := hide (copy_step HROW.out HB.out HBL1.out HBL2.out hsz hlt hb1 ⟨a1, c1, rfl, hs1⟩ hown3 hgrow3 hat3)
          clear hown3 hgrow3 hat3 hc2 hc3 hc4
          go_wp2_with fail
          go_roundw
          case rel =>
            have hkl : (l.take k).length = k := by simp; omega
            obtain ⟨r1, r2, r3, r4, r5⟩ := HFIN.out
            simp only [hkl] at r1 r2 r3 r4 r5
            exact ⟨k + 1, _, _, by omega, by go_num, r1, r2, r3, r4, r5⟩
          case measure => simp [intOf]; omega
      · have htk : l.take k = l := List.take_of_length_le (by omega)
        have hc0 := hbl2.cell 0
        have hc1 := hbl2.cell 1
        have hr0 := HBL1.out.cell 0
        have hr1 := HBL1.out.cell 1
        have hrf := HBL1.out.frozen
        obtain ⟨a9, c9, hu9, hsl9⟩ := HROW.out.sl
        rw [htk] at hu9 hsl9
        have HSL := hide hsl9
        subst hu9
        clear hsl9 htk hbl2
        go_wp2_with fail
        refine bodyPost_ret (v := .agg #[.string s, .slice a9 l.length c9]) (by simp [results, Tryz.results15, go_sem, hr0, hr1, World.cell?_setCell_same, World.cell?_setCell_other]) rfl ⟨_, rfl, ?_, ?_⟩
        · refine ⟨a9, c9, rfl, ?_⟩
          have hk9 : Sl wr (fun b => w.heap.size + 3 ≤ b) a9 l := HSL.out.mono fun b h _ => h.elim False.elim id
          exact ((hk9.kept fun b hb => by rw [Below.heap_setCell _ _ _ _ (by simp; omega), Below.heap_setCell _ _ _ _ (by simp; omega)]).mono fun b hb _ => by omega)
        · exact (HB.out.setCell (by simp) _).setCell (by simp) _
#print axioms copyOf_any
end Go.Proofs.YteojdfmdhgnmfaaGreat


/- Walks: two bindings by their names. -/
namespace Go.Proofs.YteojdfmdhgnmfaaGreat
open Go.RowKit
set_option linter.unusedSimpArgs false
set_option linter.unusedVariables false
set_option maxRecDepth 8000

/-- How two texts stand to each other. -/
def cmpN (a b : ByteArray) : Int := if ltB a b = true then -1 else if ltB b a = true then 1 else 0
theorem isNaN_any (a : ByteArray) (w : World) : Calls Tryz.prog 93 #[.string a] w fun e w' => e = .returned (.bool false) ∧ w' = w := by
  go_enter Tryz.func93, Tryz.ntmps93
  go_wp2_with fail
  go_ret
  exact ⟨by simp, rfl⟩
theorem compare_any (a b : ByteArray) (w : World) : Calls Tryz.prog 82 #[.string a, .string b] w fun e w' => e = .returned (.int .i64 (cmpN a b)) ∧ w' = w := by
  cases h1 : Op.bytesLess a.toList b.toList with
  | true =>
    have HN : Hid (cmpN a b = -1) := by unfold Hid cmpN ltB; rw [h1]; rfl
    go_enter Tryz.func82, Tryz.ntmps82
    go_wp2_with (go_at_call 93; refine (isNaN_any _ _).mono ?_; rintro e w' ⟨rfl, rfl⟩)
    go_ret
    exact ⟨by rw [HN.out]; rfl, rfl⟩
  | false =>
    by_cases he : a = b
    · have HN : Hid (cmpN a b = 0) := by unfold Hid cmpN ltB; rw [h1, he, bl_irrefl]; rfl
      have h2 : (a.toList == b.toList) = true := bytes_yes he
      clear he
      go_enter Tryz.func82, Tryz.ntmps82
      go_wp2_with (go_at_call 93; refine (isNaN_any _ _).mono ?_; rintro e w' ⟨rfl, rfl⟩)
      go_ret
      exact ⟨by rw [HN.out]; rfl, rfl⟩
    · have HN : Hid (cmpN a b = 1) := by
        unfold Hid cmpN
        have h3 : ltB b a = true := by
          cases h : ltB b a with
          | true => rfl
          | false => exact absurd (ltB_conn h1 h) he
        rw [if_neg (by unfold ltB; rw [h1]; simp), if_pos h3]
      have h2 : (a.toList == b.toList) = false := bytes_no he
      clear he
      go_enter Tryz.func82, Tryz.ntmps82
      go_wp2_with (go_at_call 93; refine (isNaN_any _ _).mono ?_; rintro e w' ⟨rfl, rfl⟩)
      go_ret
      exact ⟨by rw [HN.out]; rfl, rfl⟩
#print axioms compare_any
end Go.Proofs.YteojdfmdhgnmfaaGreat

/- Maps of numbers and of ranks, and how two symbols compare: plain. -/
namespace Go.Proofs.YteojdfmdhgnmfaaGreat
open Go.RowKit
set_option linter.unusedSimpArgs false
set_option linter.unusedVariables false

def txtB (t : Tm) : ByteArray := ⟨(txtL [t]).toArray⟩
theorem txtB_inj {t u : Tm} (ht : errL [t] = 0) (hu : errL [u] = 0) (h : txtB t = txtB u) : t = u := by
  refine txt_inj ht hu ?_
  unfold txtB at h
  have h1 : (txtL [t]).toArray = (txtL [u]).toArray := by injection h
  simpa using congrArg Array.toList h1
/-- The map from texts to numbers. -/
def numL : Nat → List Tm → List (ByteArray × Value)
  | _, [] => []
  | i, t :: S => (txtB t, .int .i64 i) :: numL (i + 1) S
theorem numL_len : ∀ (S : List Tm) (i : Nat), (numL i S).length = S.length
  | [], i => rfl
  | t :: S, i => by simp [numL, numL_len S]
theorem numL_push : ∀ (S : List Tm) (t : Tm) (i : Nat), numL i (S ++ [t]) = numL i S ++ [(txtB t, .int .i64 (i + S.length))]
  | [], t, i => by simp [numL]
  | x :: S, t, i => by
    rw [List.cons_append, numL, numL, numL_push S t (i + 1), List.cons_append]
    simp only [List.length_cons]
    rw [show (((i + 1 : Nat) : Int) + (S.length : Int)) = (i : Int) + ((S.length + 1 : Nat) : Int) by omega]
theorem numL_get {t : Tm} (ht : errL [t] = 0) : ∀ (S : List Tm) (i : Nat), (∀ x ∈ S, errL [x] = 0) → mapGet (numL i S) (txtB t) = if numT t S < S.length then some (.int .i64 (i + numT t S)) else none
  | [], i, _ => by simp [numL, mapGet, numT]
  | x :: S, i, h => by
    rw [numL, mapGet, numT]
    by_cases hs : sameB x t = true
    · have e := sameB_iff.1 hs
      subst e
      simp [hs]
    · have hne : txtB x ≠ txtB t := fun e => hs (sameB_iff.2 (txtB_inj (h x (by simp)) ht e))
      rw [if_neg hne, if_neg hs, numL_get ht S (i + 1) fun y hy => h y (by simp [hy])]
      simp only [List.length_cons]
      by_cases hl : numT t S < S.length
      · rw [if_pos hl, if_pos (by omega)]
        congr 2
        omega
      · rw [if_neg hl, if_neg (by omega)]
/-- The map from names to ranks. -/
def rkL : Nat → List ByteArray → List (ByteArray × Value)
  | _, [] => []
  | i, n :: r => (n, .int .i64 (i + 1)) :: rkL (i + 1) r
theorem rkL_push : ∀ (r : List ByteArray) (n : ByteArray) (i : Nat), rkL i (r ++ [n]) = rkL i r ++ [(n, .int .i64 (i + r.length + 1))]
  | [], n, i => by simp [rkL]
  | x :: r, n, i => by
    rw [List.cons_append, rkL, rkL, rkL_push r n (i + 1), List.cons_append]
    simp only [List.length_cons]
    rw [show (((i + 1 : Nat) : Int) + (r.length : Int) + 1) = (i : Int) + ((r.length + 1 : Nat) : Int) + 1 by omega]
theorem rkL_get (n : ByteArray) : ∀ (r : List ByteArray) (i : Nat), mapGet (rkL i r) n = if rankN n r = 0 then none else some (.int .i64 (i + rankN n r))
  | [], i => by simp [rkL, mapGet, rankN]
  | x :: r, i => by
    rw [rkL, mapGet, rankN]
    by_cases h : x = n
    · simp [h]
    · rw [if_neg h, if_neg h, rkL_get n r (i + 1)]
      cases rankN n r with
      | zero => simp
      | succ k =>
        simp only [Nat.add_eq_zero_iff]
        rw [if_neg (by omega), if_neg (by omega)]
        congr 2
        omega
theorem rank_none {n : ByteArray} : ∀ {r : List ByteArray}, n ∉ r → rankN n r = 0
  | [], _ => rfl
  | x :: r, h => by
    rw [List.mem_cons, not_or] at h
    rw [rankN, if_neg fun e => h.1 e.symm, rank_none h.2]
theorem rank_le (n : ByteArray) : ∀ r : List ByteArray, rankN n r ≤ r.length
  | [] => by simp [rankN]
  | x :: r => by
    rw [rankN]
    have := rank_le n r
    split
    · simp
    · split
      · simp
      · rename_i k hk
        rw [hk] at this
        simp; omega
theorem rkL_at (n : ByteArray) (r : List ByteArray) : (mapGet (rkL 0 r) n).getD (.int .i64 0) = .int .i64 (rankN n r) := by
  rw [rkL_get]
  by_cases h : rankN n r = 0
  · rw [if_pos h, h]; rfl
  · rw [if_neg h]; simp
/-- How two numbers stand to each other. -/
def cmpI (a b : Int) : Int := if a < b then -1 else if b < a then 1 else 0
/-- How two symbols do. -/
def cmpS (row : List ByteArray) (a b : Tm) : Int :=
  if cmpI (rankN a.name row) (rankN b.name row) ≠ 0 then cmpI (rankN a.name row) (rankN b.name row)
  else if cmpN a.name b.name ≠ 0 then cmpN a.name b.name
  else cmpI a.args.length b.args.length
theorem cmpN_zero {a b : ByteArray} : cmpN a b = 0 ↔ a = b := by
  unfold cmpN
  constructor
  · intro h
    cases h1 : ltB a b with
    | true => rw [h1] at h; simp at h
    | false =>
      cases h2 : ltB b a with
      | true => rw [h1, h2] at h; simp at h
      | false => exact ltB_conn h1 h2
  · rintro rfl
    simp [ltB_irrefl]
/-- Greater, less, or the same. -/
theorem cmpS_cases (row : List ByteArray) (a b : Tm) : (gtS row a b = true ∧ cmpS row a b = 1) ∨ (gtS row b a = true ∧ cmpS row a b = -1) ∨ (gtS row a b = false ∧ gtS row b a = false ∧ cmpS row a b = 0) := by
  unfold cmpS
  by_cases h1 : rankN a.name row = rankN b.name row
  · have c1 : cmpI (rankN a.name row) (rankN b.name row) = 0 := by unfold cmpI; rw [h1]; simp
    rw [if_neg (by simp [c1])]
    by_cases h2 : a.name = b.name
    · have c2 : cmpN a.name b.name = 0 := cmpN_zero.2 h2
      rw [if_neg (by simp [c2])]
      have g : ∀ x y : Tm, rankN x.name row = rankN y.name row → x.name = y.name → gtS row x y = decide (y.args.length < x.args.length) := fun x y hr hn => by
        unfold gtS
        rw [if_neg (by simpa using hr), if_neg (by simpa using hn)]
      rw [g a b h1 h2, g b a h1.symm h2.symm]
      unfold cmpI
      rcases Nat.lt_trichotomy a.args.length b.args.length with h | h | h
      · refine Or.inr (Or.inl ⟨by simpa using h, ?_⟩)
        rw [if_pos (by omega)]
      · refine Or.inr (Or.inr ⟨by simp; omega, by simp; omega, ?_⟩)
        rw [if_neg (by omega), if_neg (by omega)]
      · refine Or.inl ⟨by simpa using h, ?_⟩
        rw [if_neg (by omega), if_pos (by omega)]
    · have c2 : cmpN a.name b.name ≠ 0 := fun e => h2 (cmpN_zero.1 e)
      rw [if_pos c2]
      have g : ∀ x y : Tm, rankN x.name row = rankN y.name row → x.name ≠ y.name → gtS row x y = ltB y.name x.name := fun x y hr hn => by
        unfold gtS
        rw [if_neg (by simpa using hr), if_pos hn]
      rw [g a b h1 h2, g b a h1.symm (fun e => h2 e.symm)]
      unfold cmpN
      cases l1 : ltB a.name b.name with
      | true => exact Or.inr (Or.inl ⟨rfl, by simp⟩)
      | false =>
        cases l2 : ltB b.name a.name with
        | true => exact Or.inl ⟨rfl, by simp⟩
        | false => exact absurd (ltB_conn l1 l2) h2
  · have g : ∀ x y : Tm, rankN x.name row ≠ rankN y.name row → gtS row x y = decide (rankN y.name row < rankN x.name row) := fun x y hr => by
      unfold gtS
      rw [if_pos hr]
    rw [g a b h1, g b a (fun e => h1 e.symm)]
    unfold cmpI
    rcases Nat.lt_trichotomy (rankN a.name row) (rankN b.name row) with h | h | h
    · refine Or.inr (Or.inl ⟨by simpa using h, ?_⟩)
      have e : ((rankN a.name row : Nat) : Int) < ((rankN b.name row : Nat) : Int) := by omega
      simp only [if_pos e]
      simp
    · exact absurd h h1
    · refine Or.inl ⟨by simpa using h, ?_⟩
      have e1 : ¬ ((rankN a.name row : Nat) : Int) < ((rankN b.name row : Nat) : Int) := by omega
      have e2 : ((rankN b.name row : Nat) : Int) < ((rankN a.name row : Nat) : Int) := by omega
      simp only [if_neg e1, if_pos e2]
      simp
#print axioms numL_get
#print axioms cmpS_cases
end Go.Proofs.YteojdfmdhgnmfaaGreat

/- Terms that are told by numbers, as they lie in memory: four cells each. -/
namespace Go.Proofs.YteojdfmdhgnmfaaGreat
open Go.RowKit
set_option linter.unusedSimpArgs false
set_option linter.unusedVariables false

/-- A list of numbered terms lies in a row of cells, four each, in blocks that X lets. -/
def ILies (w : World) (X : Nat → Prop) (S : List Tm) : Nat → Nat → List Tm → Prop
  | _, _, [] => True
  | b, o, ⟨s, l⟩ :: r => X b ∧ (⟨s, l⟩ : Tm) ∈ S ∧ w.cell? ⟨b, o, none⟩ = some (.string s) ∧
      (∃ a c, w.cell? ⟨b, o + 1, none⟩ = some (.slice a l.length c) ∧ l.length ≤ 9223372036854775807 ∧ (l = [] ∨ ∃ b' o', a = some ⟨b', o', none⟩ ∧ ILies w X S b' o' l)) ∧
      w.cell? ⟨b, o + 2, none⟩ = some (.int .i64 (numT ⟨s, l⟩ S)) ∧ w.cell? ⟨b, o + 3, none⟩ = some (.int .i64 (sizeL [⟨s, l⟩])) ∧ ILies w X S b (o + 4) r

/-- What a slice of numbered terms holds. -/
def ISl (w : World) (X : Nat → Prop) (S : List Tm) (a : Option Addr) (l : List Tm) : Prop := l.length ≤ 9223372036854775807 ∧ (l = [] ∨ ∃ b o, a = some ⟨b, o, none⟩ ∧ ILies w X S b o l)

/-- What a numbered term's value holds. -/
def IV (w : World) (X : Nat → Prop) (S : List Tm) (v : Value) (t : Tm) : Prop := t ∈ S ∧ ∃ a c, v = .agg #[.string t.name, .slice a t.args.length c, .int .i64 (numT t S), .int .i64 (sizeL [t])] ∧ ISl w X S a t.args

theorem ilies_kept {w w' : World} {X : Nat → Prop} {S : List Tm} (h : ∀ b, X b → w'.heap[b]? = w.heap[b]?) (l : List Tm) : ∀ b o, ILies w X S b o l → ILies w' X S b o l := by
  induction l using Tm.indL with
  | h0 => intro b o _; simp [ILies]
  | h s l r ihl ihr =>
    intro b o hl
    simp only [ILies] at hl ⊢
    obtain ⟨hx, hm, h1, ⟨a, c, h2, h2', h3⟩, h5, h6, h4⟩ := hl
    have e := fun o => World.cell?_of_block (w := w) (w' := w') (a := ⟨b, o, none⟩) (h b hx)
    refine ⟨hx, hm, by rw [e]; exact h1, ⟨a, c, by rw [e]; exact h2, h2', ?_⟩, by rw [e]; exact h5, by rw [e]; exact h6, ihr _ _ h4⟩
    rcases h3 with h3 | ⟨b', o', h3, h5⟩
    · exact Or.inl h3
    · exact Or.inr ⟨b', o', h3, ihl _ _ h5⟩

theorem ilies_mono {w : World} {X Y : Nat → Prop} {S : List Tm} (h : ∀ b, X b → b < w.heap.size → Y b) (l : List Tm) : ∀ b o, ILies w X S b o l → ILies w Y S b o l := by
  induction l using Tm.indL with
  | h0 => intro b o _; simp [ILies]
  | h s l r ihl ihr =>
    intro b o hl
    simp only [ILies] at hl ⊢
    obtain ⟨hx, hm, h1, ⟨a, c, h2, h2', h3⟩, h5, h6, h4⟩ := hl
    have hb : b < w.heap.size := by
      apply Classical.byContradiction
      intro hn
      have e : w.heap[b]? = none := Array.getElem?_eq_none (by omega)
      simp [World.cell?, e] at h1
    refine ⟨h b hx hb, hm, h1, ⟨a, c, h2, h2', ?_⟩, h5, h6, ihr _ _ h4⟩
    rcases h3 with h3 | ⟨b', o', h3, h5⟩
    · exact Or.inl h3
    · exact Or.inr ⟨b', o', h3, ihl _ _ h5⟩

theorem ilies_more {w : World} {X : Nat → Prop} {S : List Tm} (R : List Tm) (l : List Tm) : ∀ b o, ILies w X S b o l → ILies w X (S ++ R) b o l := by
  induction l using Tm.indL with
  | h0 => intro b o _; simp [ILies]
  | h s l r ihl ihr =>
    intro b o hl
    simp only [ILies] at hl ⊢
    obtain ⟨hx, hm, h1, ⟨a, c, h2, h2', h3⟩, h5, h6, h4⟩ := hl
    refine ⟨hx, List.mem_append_left _ hm, h1, ⟨a, c, h2, h2', ?_⟩, by rw [numT_more R hm]; exact h5, h6, ihr _ _ h4⟩
    rcases h3 with h3 | ⟨b', o', h3, h5⟩
    · exact Or.inl h3
    · exact Or.inr ⟨b', o', h3, ihl _ _ h5⟩

theorem ISl.kept {w w' : World} {X : Nat → Prop} {S : List Tm} {a : Option Addr} {l : List Tm} (h : ISl w X S a l) (hk : ∀ b, X b → w'.heap[b]? = w.heap[b]?) : ISl w' X S a l := by
  obtain ⟨hl, h⟩ := h
  refine ⟨hl, ?_⟩
  rcases h with h | ⟨b, o, e, h⟩
  · exact Or.inl h
  · exact Or.inr ⟨b, o, e, ilies_kept hk _ _ _ h⟩
theorem ISl.mono {w : World} {X Y : Nat → Prop} {S : List Tm} {a : Option Addr} {l : List Tm} (h : ISl w X S a l) (hk : ∀ b, X b → b < w.heap.size → Y b) : ISl w Y S a l := by
  obtain ⟨hl, h⟩ := h
  refine ⟨hl, ?_⟩
  rcases h with h | ⟨b, o, e, h⟩
  · exact Or.inl h
  · exact Or.inr ⟨b, o, e, ilies_mono hk _ _ _ h⟩
theorem ISl.more {w : World} {X : Nat → Prop} {S : List Tm} {a : Option Addr} {l : List Tm} (h : ISl w X S a l) (R : List Tm) : ISl w X (S ++ R) a l := by
  obtain ⟨hl, h⟩ := h
  refine ⟨hl, ?_⟩
  rcases h with h | ⟨b, o, e, h⟩
  · exact Or.inl h
  · exact Or.inr ⟨b, o, e, ilies_more R _ _ _ h⟩
theorem ISl.below {w w' : World} {X : Nat → Prop} {S : List Tm} {a : Option Addr} {l : List Tm} {B : Nat} (h : ISl w X S a l) (hb : Below B w w') (hX : ∀ b, X b → b < w.heap.size → b < B) : ISl w' X S a l := by
  have h1 : ISl w (fun b => X b ∧ b < B) S a l := h.mono fun b hx hs => ⟨hx, hX b hx hs⟩
  have h2 : ISl w' (fun b => X b ∧ b < B) S a l := h1.kept fun b hx => hb.block b hx.2
  exact h2.mono fun b hx _ => hx.1
theorem ISl.later {w w' : World} {X : Nat → Prop} {S : List Tm} {a : Option Addr} {l : List Tm} (h : ISl w X S a l) (hb : Below w.heap.size w w') : ISl w' X S a l := h.below hb (fun _ _ h => h)
theorem IV.kept {w w' : World} {X : Nat → Prop} {S : List Tm} {v : Value} {t : Tm} (h : IV w X S v t) (hk : ∀ b, X b → w'.heap[b]? = w.heap[b]?) : IV w' X S v t := by
  obtain ⟨hm, a, c, e, h⟩ := h
  exact ⟨hm, a, c, e, h.kept hk⟩
theorem IV.mono {w : World} {X Y : Nat → Prop} {S : List Tm} {v : Value} {t : Tm} (h : IV w X S v t) (hk : ∀ b, X b → b < w.heap.size → Y b) : IV w Y S v t := by
  obtain ⟨hm, a, c, e, h⟩ := h
  exact ⟨hm, a, c, e, h.mono hk⟩
theorem IV.more {w : World} {X : Nat → Prop} {S : List Tm} {v : Value} {t : Tm} (h : IV w X S v t) (R : List Tm) : IV w X (S ++ R) v t := by
  obtain ⟨hm, a, c, e, h⟩ := h
  exact ⟨List.mem_append_left _ hm, a, c, by rw [numT_more R hm]; exact e, h.more R⟩
theorem IV.later {w w' : World} {X : Nat → Prop} {S : List Tm} {v : Value} {t : Tm} (h : IV w X S v t) (hb : Below w.heap.size w w') : IV w' X S v t := by
  obtain ⟨hm, a, c, e, h⟩ := h
  exact ⟨hm, a, c, e, h.later hb⟩
theorem IV.alloc {w : World} {X : Nat → Prop} {S : List Tm} {v : Value} {t : Tm} (h : IV w X S v t) (o : Obj) : IV (w.alloc o) X S v t := h.later ((Below.refl _ _).alloc (Nat.le_refl _) o)

/-- One of a row. -/
theorem ilies_get {w : World} {X : Nat → Prop} {S : List Tm} : ∀ (l : List Tm) (b o : Nat), ILies w X S b o l → ∀ i (h : i < l.length),
    X b ∧ l[i] ∈ S ∧ w.cell? ⟨b, o + i * 4, none⟩ = some (.string l[i].name) ∧ w.cell? ⟨b, o + i * 4 + 2, none⟩ = some (.int .i64 (numT l[i] S)) ∧ w.cell? ⟨b, o + i * 4 + 3, none⟩ = some (.int .i64 (sizeL [l[i]])) ∧
      ∃ a c, w.cell? ⟨b, o + i * 4 + 1, none⟩ = some (.slice a l[i].args.length c) ∧ ISl w X S a l[i].args := by
  intro l
  induction l with
  | nil => intro b o _ i h; simp at h
  | cons t r ih =>
    intro b o hl i h
    obtain ⟨s, k⟩ := t
    simp only [ILies] at hl
    obtain ⟨hx, hm, h1, ⟨a, c, h2, h3⟩, h5, h6, h4⟩ := hl
    cases i with
    | zero => exact ⟨hx, hm, h1, h5, h6, a, c, h2, h3⟩
    | succ i =>
      have := ih b (o + 4) h4 i (by simpa using h)
      simp only [List.getElem_cons_succ]
      rw [show o + (i + 1) * 4 = o + 4 + i * 4 by omega]
      exact this

/-- One of a slice, in a later world. -/
theorem ISl.get {w wr : World} {X : Nat → Prop} {S : List Tm} {a : Option Addr} {l : List Tm} {B : Nat} (h : ISl w X S a l) (hb : Below B w wr) (hX : ∀ b, X b → b < w.heap.size → b < B) (k : Nat) (hk : k < l.length) :
    ∃ b o a' c', a = some ⟨b, o, none⟩ ∧ wr.cell? ⟨b, o + k * 4, none⟩ = some (.string l[k].name) ∧ wr.cell? ⟨b, o + k * 4 + 1, none⟩ = some (.slice a' l[k].args.length c') ∧ wr.cell? ⟨b, o + k * 4 + 2, none⟩ = some (.int .i64 (numT l[k] S)) ∧ wr.cell? ⟨b, o + k * 4 + 3, none⟩ = some (.int .i64 (sizeL [l[k]])) ∧
      IV wr X S (.agg #[.string l[k].name, .slice a' l[k].args.length c', .int .i64 (numT l[k] S), .int .i64 (sizeL [l[k]])]) l[k] := by
  have h' := h.below hb hX
  obtain ⟨_, h1⟩ := h'
  rcases h1 with h1 | ⟨b, o, e, h1⟩
  · subst h1; simp at hk
  · obtain ⟨_, hm, h2, h5, h6, a', c', h3, h4⟩ := ilies_get _ _ _ h1 k hk
    exact ⟨b, o, a', c', e, h2, h3, h5, h6, hm, a', c', rfl, h4⟩

/-- These cells are these numbered terms. -/
def RowI (w : World) (X : Nat → Prop) (S : List Tm) : List Tm → List Value → Prop
  | [], xs => xs = []
  | t :: l, xs => t ∈ S ∧ ∃ a c r, xs = .string t.name :: .slice a t.args.length c :: .int .i64 (numT t S) :: .int .i64 (sizeL [t]) :: r ∧ ISl w X S a t.args ∧ RowI w X S l r

theorem RowI.append {w : World} {X : Nat → Prop} {S : List Tm} : ∀ {l k : List Tm} {xs ys : List Value}, RowI w X S l xs → RowI w X S k ys → RowI w X S (l ++ k) (xs ++ ys)
  | [], k, xs, ys, h, h' => by simp [RowI] at h; subst h; simpa using h'
  | t :: l, k, xs, ys, h, h' => by
    obtain ⟨hm, a, c, r, rfl, hs, h⟩ := h
    exact ⟨hm, a, c, r ++ ys, rfl, hs, RowI.append h h'⟩
theorem RowI.imp {w w' : World} {X Y : Nat → Prop} {S : List Tm} (hs : ∀ a l, ISl w X S a l → ISl w' Y S a l) : ∀ {l : List Tm} {xs : List Value}, RowI w X S l xs → RowI w' Y S l xs
  | [], xs, h => h
  | t :: l, xs, h => by
    obtain ⟨hm, a, c, r, e, h1, h⟩ := h
    exact ⟨hm, a, c, r, e, hs _ _ h1, RowI.imp hs h⟩
theorem RowI.more {w : World} {X : Nat → Prop} {S : List Tm} (R : List Tm) : ∀ {l : List Tm} {xs : List Value}, RowI w X S l xs → RowI w X (S ++ R) l xs
  | [], xs, h => h
  | t :: l, xs, h => by
    obtain ⟨hm, a, c, r, e, h1, h⟩ := h
    exact ⟨List.mem_append_left _ hm, a, c, r, by rw [numT_more R hm]; exact e, h1.more R, RowI.more R h⟩

theorem ilies_of_row {w w' : World} {X Y : Nat → Prop} {S : List Tm} (b : Nat) (hb : Y b) : ∀ (l : List Tm) (xs : List Value) (o : Nat), RowI w X S l xs → (∀ a k, ISl w X S a k → ISl w' Y S a k) → (∀ j u, xs[j]? = some u → w'.cell? ⟨b, o + j, none⟩ = some u) → ILies w' Y S b o l := by
  intro l
  induction l with
  | nil => intro xs o _ _ _; simp [ILies]
  | cons t r ih =>
    intro xs o h hs hc
    obtain ⟨s, k⟩ := t
    obtain ⟨hm, a, c, r', rfl, h1, h2⟩ := h
    simp only [ILies]
    obtain ⟨h3, h4⟩ := hs _ _ h1
    refine ⟨hb, hm, hc 0 _ rfl, ⟨a, c, hc 1 _ rfl, h3, h4⟩, hc 2 _ rfl, hc 3 _ rfl, ih r' (o + 4) h2 hs fun j u hj => ?_⟩
    have := hc (j + 4) u (by simpa using hj)
    rwa [show o + (j + 4) = o + 4 + j by omega] at this

/-- The row so far. -/
structure IRow (w : World) (N : Nat) (T : Nat) (S : List Tm) (v : Value) (l : List Tm) (xs : List Value) : Prop where
  own : w.ownsRow N T 4 v l.length xs
  row : RowI w (fun b => N ≤ b ∧ some b ≠ v.ownBlock) S l xs

theorem IRow.start (w : World) (N T : Nat) (S : List Tm) : IRow w N T S (.slice none 0 0) [] [] := ⟨World.ownsRow_nil w N T 4, rfl⟩
theorem IRow.more {w : World} {N T : Nat} {S : List Tm} {v : Value} {l : List Tm} {xs : List Value} (h : IRow w N T S v l xs) (R : List Tm) : IRow w N T (S ++ R) v l xs := ⟨h.own, h.row.more R⟩
theorem IRow.ne {w : World} {N T : Nat} {S : List Tm} {v : Value} {l : List Tm} {xs : List Value} (h : IRow w N T S v l xs) {b : Nat} (hb : b < N) : some b ≠ v.ownBlock := fun e => by
  have := (h.own.lt b e.symm).1; omega
/-- What changes no block from N on leaves the row. -/
theorem IRow.kept {w w' : World} {N T : Nat} {S : List Tm} {v : Value} {l : List Tm} {xs : List Value} (h : IRow w N T S v l xs) (hk : ∀ b, N ≤ b → b < w.heap.size → w'.heap[b]? = w.heap[b]?) (hs : w.heap.size ≤ w'.heap.size) (ho : w'.os = w.os) (ht : w'.tape = w.tape) (hp : w'.output = w.output) : IRow w' N T S v l xs := by
  obtain ⟨hown, hrow⟩ := h
  have hlt := hown.lt
  refine ⟨?_, ?_⟩
  · obtain ⟨h0, h1⟩ := hown
    refine ⟨h0, ?_⟩
    rcases h1 with h1 | ⟨g, cap, cur, hv, hg, hh, hr⟩
    · exact Or.inl h1
    · subst hv
      have := (hlt g rfl).2
      exact Or.inr ⟨g, cap, cur, rfl, hg, (hk g hg this).trans hh, hr⟩
  · refine hrow.imp fun a k hs' => ?_
    have h1 : ISl w (fun b => (N ≤ b ∧ some b ≠ v.ownBlock) ∧ b < w.heap.size) S a k := hs'.mono fun b h1 h2 => ⟨h1, h2⟩
    exact (h1.kept fun b hb => hk b hb.1.1 hb.2).mono fun b hb _ => hb.1
theorem IRow.sl {w : World} {N T : Nat} {S : List Tm} {v : Value} {l : List Tm} {xs : List Value} (h : IRow w N T S v l xs) : ∃ a c, v = .slice a l.length c ∧ ISl w (fun b => N ≤ b) S a l := by
  have hml : l.length ≤ 9223372036854775807 := by
    rcases h.own.2 with ⟨_, h0⟩ | ⟨g, cap, cur, _, _, _, h1, h2, _⟩
    · omega
    · unfold maxLen at h2; omega
  by_cases h0 : 0 < l.length
  · obtain ⟨g, cap, rfl, hg, hlt, hc⟩ := owned_val h.own h0
    exact ⟨_, _, rfl, hml, Or.inr ⟨g, 0, rfl, ilies_of_row g hg l xs 0 h.row (fun a k hs => hs.mono fun b hb _ => hb.1) (fun j u hj => by simpa using hc j u hj)⟩⟩
  · have e : l = [] := List.length_eq_zero_iff.1 (by omega)
    subst e
    rcases h.own.2 with ⟨hv, _⟩ | ⟨g, cap, cur, hv, _⟩
    · exact ⟨none, 0, hv, hml, Or.inl rfl⟩
    · exact ⟨_, _, hv, hml, Or.inl rfl⟩
/-- One more: its cells have been laid into a block of their own, and appended. -/
theorem IRow.push {w1 w2 w3 : World} {N T : Nat} {S : List Tm} {v : Value} {l : List Tm} {xs : List Value} (h : IRow w1 N T S v l xs) {M : Nat} (hN : N ≤ M) {t : Tm} {a : Option Addr} {c : Nat}
    (hM : ∀ b, some b = v.ownBlock → b < M)
    (ht : IV w1 (fun b => M ≤ b) S (.agg #[.string t.name, .slice a t.args.length c, .int .i64 (numT t S), .int .i64 (sizeL [t])]) t) (o : Obj) (hw2 : w2 = w1.alloc o) {g cap : Nat}
    (hown : w3.ownsRow N T 4 (.slice (some ⟨g, 0, none⟩) (l.length + 1) cap) (l.length + 1) (xs ++ [.string t.name, .slice a t.args.length c, .int .i64 (numT t S), .int .i64 (sizeL [t])])) (hg : w2.grownBy w3 v.ownBlock) (hg1 : v.ownBlock = some g ∨ g = w2.heap.size) :
    IRow w3 N T S (.slice (some ⟨g, 0, none⟩) (l.length + 1) cap) (l ++ [t]) (xs ++ [.string t.name, .slice a t.args.length c, .int .i64 (numT t S), .int .i64 (sizeL [t])]) := by
  subst hw2
  have hlt := h.own.lt
  refine ⟨by simpa using hown, ?_⟩
  have hgN : N ≤ g ∨ True := Or.inr trivial
  have hsz : (w1.alloc o).heap.size = w1.heap.size + 1 := by simp
  refine RowI.append (h.row.imp fun a' k' hs => ?_) ?_
  · have h1 : ISl w1 (fun b => (N ≤ b ∧ some b ≠ v.ownBlock) ∧ b < w1.heap.size) S a' k' := hs.mono fun b h1 h2 => ⟨h1, h2⟩
    have h2 : ISl w3 (fun b => (N ≤ b ∧ some b ≠ v.ownBlock) ∧ b < w1.heap.size) S a' k' := h1.kept fun b hx => by
      rw [hg.block b (by omega) hx.1.2, Below.heap_alloc _ _ _ hx.2]
    refine h2.mono fun b hx _ => ⟨hx.1.1, fun e => ?_⟩
    simp [Value.ownBlock] at e
    rcases hg1 with e' | e'
    · exact hx.1.2 (by rw [e', e])
    · omega
  · obtain ⟨hm, a2, c2, e, hs⟩ := ht
    simp at e
    obtain ⟨rfl, rfl⟩ := e
    refine ⟨hm, a, c, [], rfl, ?_, rfl⟩
    have h1 : ISl w1 (fun b => M ≤ b ∧ b < w1.heap.size) S a t.args := hs.mono fun b h1 h2 => ⟨h1, h2⟩
    have h2 : ISl w3 (fun b => M ≤ b ∧ b < w1.heap.size) S a t.args := h1.kept fun b hx => by
      have hne : some b ≠ v.ownBlock := fun e => by have := hM b e; omega
      rw [hg.block b (by omega) hne, Below.heap_alloc _ _ _ hx.2]
    refine h2.mono fun b hx _ => ⟨by omega, fun e => ?_⟩
    simp [Value.ownBlock] at e
    rcases hg1 with e' | e'
    · have := hM g e'.symm; omega
    · omega
/-- A store into a block ahead of the row's. -/
theorem IRow.setCell {w : World} {N T : Nat} {S : List Tm} {v : Value} {l : List Tm} {xs : List Value} (h : IRow w N T S v l xs) {b i : Nat} (hb : b < N) (u : Value) : IRow (w.setCell ⟨b, i, none⟩ u) N T S v l xs :=
  ⟨ownsRow_setCell_below h.own (by simpa using hb) u, h.row.imp fun a k hs => hs.kept fun c hc => Below.heap_setCell _ _ _ _ (by simp; omega)⟩
#print axioms IRow.push
#print axioms IRow.sl
end Go.Proofs.YteojdfmdhgnmfaaGreat

/- Maps by texts: looked into, and set where the key is there. -/
namespace Go.Proofs.YteojdfmdhgnmfaaGreat
open Go.RowKit
set_option linter.unusedSimpArgs false
set_option linter.unusedVariables false

/-- What stands for a key is another. -/
def setAt : List (ByteArray × Value) → ByteArray → Value → List (ByteArray × Value)
  | [], _, _ => []
  | p :: r, n, v => if p.1 = n then (p.1, v) :: r else p :: setAt r n v
theorem mapGet_setAt (n : ByteArray) (v : Value) : ∀ L : List (ByteArray × Value), mapGet (setAt L n v) n = (mapGet L n).map fun _ => v
  | [] => rfl
  | p :: r => by
    by_cases h : p.1 = n
    · simp [setAt, mapGet, h]
    · simp [setAt, mapGet, h, mapGet_setAt n v r]
theorem mapGet_append (n : ByteArray) (q : ByteArray × Value) : ∀ L : List (ByteArray × Value), mapGet L n = none → mapGet (L ++ [q]) n = if q.1 = n then some q.2 else none
  | [], _ => by simp [mapGet]
  | p :: r, h => by
    by_cases hp : p.1 = n
    · simp [mapGet, hp] at h
    · rw [mapGet, if_neg hp] at h
      rw [List.cons_append, mapGet, if_neg hp]
      exact mapGet_append n q r h

theorem findNow_set (n : ByteArray) (x : Value) : ∀ (l : List MapEntry) (L : List (ByteArray × Value)) (i : Nat) (v : Value), l.map (fun e => (e.key, e.val)) = L.map (fun p => (Value.string p.1, p.2)) → mapGet L n = some v →
    ∃ j e, Instr.findNow .string (.string n) l i = some (some (i + j, v)) ∧ l[j]? = some e ∧ e.key = .string n ∧ (l.modify j fun e => { e with key := .string n, val := x }).map (fun e => (e.key, e.val)) = (setAt L n x).map (fun p => (Value.string p.1, p.2))
  | [], [], i, v, h, hv => by simp [mapGet] at hv
  | [], p :: L, i, v, h, hv => by simp at h
  | e :: l, [], i, v, h, hv => by simp at h
  | e :: l, p :: L, i, v, h, hv => by
    simp only [List.map_cons, List.cons.injEq, Prod.mk.injEq] at h
    obtain ⟨⟨hk, he⟩, ht⟩ := h
    by_cases hn : p.1 = n
    · have hs : Instr.sameNow .string (.string n) e.key = some true := by
        rw [hk, hn]
        show some (n == n) = some true
        rw [show (n == n) = true from (MapKept.bytes_beq _ _).2 rfl]
      simp only [mapGet, hn, if_true, Option.some.injEq] at hv
      refine ⟨0, e, by simp [Instr.findNow, hs, he, hv], rfl, by rw [hk, hn], ?_⟩
      simp [setAt, hn, ht]
    · have hs : Instr.sameNow .string (.string n) e.key = some false := by
        rw [hk]
        show some (n == p.1) = some false
        have hb : (n == p.1) = false := by
          cases hh : (n == p.1) with
          | false => rfl
          | true => exact absurd ((MapKept.bytes_beq _ _).1 hh).symm hn
        rw [hb]
      rw [mapGet, if_neg hn] at hv
      obtain ⟨j, e', h1, h2, h3, h4⟩ := findNow_set n x l L (i + 1) v ht hv
      refine ⟨j + 1, e', by simp [Instr.findNow, hs, h1]; omega, by simpa using h2, h3, ?_⟩
      rw [setAt, if_neg hn]
      simp [List.modify_succ_cons, h4, hk, he]

theorem run_look1 {P : Program} {w : World} {T kt et : TypeId} {r : Nat} {L : List (ByteArray × Value)} {z : Value} (hm : P.underlying T = some (.map kt et)) (hk : P.underlying kt = some .string) (hz : (zeroValue et).run P w = .ok z w) (h : MapAt w r L) (n : ByteArray) :
    (Instr.lookup T (.map (some r)) (.string n) false).run P w = .ok ((mapGet L n).getD z) w := by
  obtain ⟨es, clk, hb, he, hstm⟩ := h
  obtain ⟨h1, h2⟩ := findNow_map n es.toList L 0 he
  have hc : ∀ b, (Instr.checkKey b 10000 kt (.string n)).run P w = .ok () w := fun b => MapKept.run_checkKey (k := .string n) hk (by simp [MapKept.IsKey]) b 9999
  cases hg : mapGet L n with
  | none => simp [Instr.lookup, run_underlying hm, MapKept.run_getObj_map hb, hc, MapKept.run_findKey hk (h1 hg), Result.andThen, hz]
  | some v =>
    obtain ⟨j, hj⟩ := h2 v hg
    simp [Instr.lookup, run_underlying hm, MapKept.run_getObj_map hb, hc, MapKept.run_findKey hk hj, Result.andThen]

theorem run_set {P : Program} {w : World} {T kt et : TypeId} {r : Nat} {L : List (ByteArray × Value)} (hm : P.underlying T = some (.map kt et)) (hk : P.underlying kt = some .string) (h : MapAt w r L) (n : ByteArray) (v old : Value) (hn : mapGet L n = some old) :
    ∃ w', (Instr.mapUpdate T (.map (some r)) (.string n) v).run P w = .ok () w' ∧ MapAt w' r (setAt L n v) ∧ w'.heap.size = w.heap.size ∧ w'.os = w.os ∧ w'.tape = w.tape ∧ w'.output = w.output ∧ (∀ b, b ≠ r → w'.heap[b]? = w.heap[b]?) := by
  obtain ⟨es, clk, hb, he, hstm⟩ := h
  obtain ⟨j, e0, h1, h2, h3, h4⟩ := findNow_set n v es.toList L 0 old he hn
  have hc : (Instr.checkKey false 10000 kt (.string n)).run P w = .ok () w := MapKept.run_checkKey (k := .string n) hk (by simp [MapKept.IsKey]) false 9999
  have hj : es[j]? = some e0 := by simpa using h2
  rw [Nat.zero_add] at h1
  have hst : (Instr.keyThatStays (.string n) (.string n)).run P w = .ok (.string n) w := MapKept.run_keyThatStays (d := .string) (by simp [MapKept.IsKey])
  refine ⟨{ w with heap := w.heap.setIfInBounds r (.map (es.modify j fun e => { e with key := .string n, val := v }) clk) }, ?_, ⟨_, _, (MapKept.heap_set hb).1, by rw [Array.toList_modify]; exact h4, hstm.modify _ _ _⟩, by simp, rfl, rfl, rfl, fun b hne => (MapKept.heap_set hb).2 b hne⟩
  simp [Instr.mapUpdate, run_underlying hm, MapKept.run_getObj_map hb, hc, MapKept.run_findKey hk h1, hj, h3, hst, MapKept.run_setObj_map _ hb, Result.andThen]
end Go.Proofs.YteojdfmdhgnmfaaGreat

/- Lists of things of one cell each. -/
namespace Go.Proofs.YteojdfmdhgnmfaaGreat
open Go.RowKit
set_option linter.unusedSimpArgs false
set_option linter.unusedVariables false

/-- A list in memory, a cell each. -/
def LV {α : Type} (f : α → Value) (w : World) (X : Nat → Prop) (v : Value) (l : List α) : Prop :=
  ∃ a c, v = .slice a l.length c ∧ (l.length ≤ 9223372036854775807 ∧ l.length ≤ c) ∧ (l = [] ∨ ∃ b o, a = some ⟨b, o, none⟩ ∧ X b ∧ ∀ i (h : i < l.length), w.cell? ⟨b, o + i, none⟩ = some (f l[i]))

theorem LV.kept {α : Type} {f : α → Value} {w w' : World} {X : Nat → Prop} {v : Value} {l : List α} (h : LV f w X v l) (hk : ∀ b, X b → w'.heap[b]? = w.heap[b]?) : LV f w' X v l := by
  obtain ⟨a, c, e, hl, h⟩ := h
  refine ⟨a, c, e, hl, ?_⟩
  rcases h with h | ⟨b, o, e, hx, h⟩
  · exact Or.inl h
  · exact Or.inr ⟨b, o, e, hx, fun i hi => by rw [World.cell?_of_block (hk b hx)]; exact h i hi⟩

theorem LV.mono {α : Type} {f : α → Value} {w : World} {X Y : Nat → Prop} {v : Value} {l : List α} (h : LV f w X v l) (hk : ∀ b, X b → b < w.heap.size → Y b) : LV f w Y v l := by
  obtain ⟨a, c, e, hl, h⟩ := h
  refine ⟨a, c, e, hl, ?_⟩
  rcases h with h | ⟨b, o, e, hx, h⟩
  · exact Or.inl h
  · by_cases h0 : l = []
    · exact Or.inl h0
    · have hp : 0 < l.length := List.length_pos_iff.2 h0
      exact Or.inr ⟨b, o, e, hk b hx (World.block_lt_of_cell? w _ (h 0 hp)), h⟩

theorem LV.below {α : Type} {f : α → Value} {w w' : World} {X : Nat → Prop} {v : Value} {l : List α} {B : Nat} (h : LV f w X v l) (hb : Below B w w') (hX : ∀ b, X b → b < w.heap.size → b < B) : LV f w' X v l := by
  have h1 : LV f w (fun b => X b ∧ b < B) v l := h.mono fun b hx hs => ⟨hx, hX b hx hs⟩
  have h2 : LV f w' (fun b => X b ∧ b < B) v l := h1.kept fun b hx => hb.block b hx.2
  exact h2.mono fun b hx _ => hx.1

theorem LV.later {α : Type} {f : α → Value} {w w' : World} {X : Nat → Prop} {v : Value} {l : List α} (h : LV f w X v l) (hb : Below w.heap.size w w') : LV f w' X v l := h.below hb (fun _ _ h => h)
theorem LV.alloc {α : Type} {f : α → Value} {w : World} {X : Nat → Prop} {v : Value} {l : List α} (h : LV f w X v l) (o : Obj) : LV f (w.alloc o) X v l := h.later ((Below.refl _ _).alloc (Nat.le_refl _) o)

/-- Out of a row that a call owns. -/
theorem LV.of_own {α : Type} {f : α → Value} {w : World} {N T : Nat} {v : Value} {l : List α} (h : w.ownsRow N T 1 v l.length (l.map f)) : LV f w (fun b => N ≤ b) v l := by
  have h' := h
  obtain ⟨_, h1⟩ := h
  rcases h1 with ⟨rfl, h0⟩ | ⟨g, cap, cur, hv, hg, hh, hnc, hcm, _⟩
  · have e : l = [] := List.length_eq_zero_iff.1 h0
    subst e
    exact ⟨none, 0, rfl, by simp, Or.inl rfl⟩
  · unfold maxLen at hcm
    refine ⟨some ⟨g, 0, none⟩, cap, hv, ⟨by omega, hnc⟩, ?_⟩
    by_cases h0 : l = []
    · exact Or.inl h0
    · have hp : 0 < l.length := List.length_pos_iff.2 h0
      obtain ⟨g2, cap2, hv2, _, _, hc⟩ := owned_val h' hp
      rw [hv] at hv2
      simp at hv2
      obtain ⟨rfl, rfl⟩ := hv2
      exact Or.inr ⟨g, 0, rfl, hg, fun i hi => by rw [Nat.zero_add]; exact hc i _ (by simp [hi])⟩
#print axioms LV.of_own
end Go.Proofs.YteojdfmdhgnmfaaGreat


/- Walks: lists that are the same; whether a text is in a list. -/
namespace Go.Proofs.YteojdfmdhgnmfaaGreat
open Go.RowKit
set_option linter.unusedSimpArgs false
set_option linter.unusedVariables false

/-- Is a text in a list? -/
def inB (x : ByteArray) (l : List ByteArray) : Bool := l.any fun y => y.toList == x.toList
theorem inB_take {x : ByteArray} {l : List ByteArray} {k : Nat} (h : k < l.length) (h0 : inB x (l.take k) = false) (h1 : (l[k].toList == x.toList) = false) : inB x (l.take (k + 1)) = false := by
  unfold inB at *
  rw [List.take_succ_eq_append_getElem h, List.any_append, h0]
  simpa using h1
theorem inB_yes {x : ByteArray} {l : List ByteArray} {k : Nat} (h : k < l.length) (h1 : (l[k].toList == x.toList) = true) : inB x l = true := by
  unfold inB
  rw [List.any_eq_true]
  exact ⟨l[k], List.getElem_mem h, h1⟩

end Go.Proofs.YteojdfmdhgnmfaaGreat


/- Walks: the variables of a term, each once. -/
namespace Go.Proofs.YteojdfmdhgnmfaaGreat
open Go.RowKit
set_option linter.unusedSimpArgs false
set_option linter.unusedVariables false

theorem Tryz.infoStr : (Tryz.prog.info? 9).map (fun i => (i.zero, i.size, i.bytes)) = some (some (.string ByteArray.empty), 1, 16) := by kernel_rfl

theorem beq_comm' (a b : ByteArray) : (a.toList == b.toList) = (b.toList == a.toList) := by
  rw [Bool.eq_iff_iff]; simp; exact eq_comm

set_option maxHeartbeats 400000 in
theorem index_any (x : ByteArray) (l : List ByteArray) (v : Value) (w : World) (X : Nat → Prop) (hv : LV Value.string w X v l) :
    Calls Tryz.prog 61 #[v, .string x] w fun e w' => (∃ n : Int, e = .returned (.int .i64 n) ∧ decide (0 ≤ n) = inB x l) ∧ w' = w := by
  obtain ⟨a, c, rfl, ⟨hl, _⟩, h1⟩ := hv
  go_enter Tryz.func61, Tryz.ntmps61
  go_wp2_with fail
  go_loop [8] (fun i => ∃ k : Nat, k ≤ l.length ∧ i = .int .i64 k ∧ inB x (l.take k) = false) (fun i => l.length - (intOf i).toNat)
  case atStart => exact ⟨0, Nat.zero_le _, rfl, by simp [inB]⟩
  case round =>
    obtain ⟨k, hk, rfl, ha⟩ := hrel
    have HA := hide ha
    clear ha
    by_cases hlt : k < l.length
    · obtain ⟨b, o, rfl, _, hc⟩ := h1.resolve_left (fun h => by rw [h] at hlt; simp at hlt)
      have d1 := hc k hlt
      clear hc h1
      cases hq : (x.toList == l[k].toList) with
      | true =>
        have HQ := hide (inB_yes hlt (by rw [beq_comm']; exact hq))
        go_wp2_with fail
        go_ret
        exact ⟨⟨k, rfl, by rw [HQ.out]; simp⟩, rfl⟩
      | false =>
        have HQ := hide (inB_take hlt HA.out (by rw [beq_comm']; exact hq))
        go_wp2_with fail
        go_round
        case rel => exact ⟨k + 1, by omega, by go_num, HQ.out⟩
        case measure => simp [intOf]; omega
    · have htk : l.take k = l := List.take_of_length_le (by omega)
      have HF : Hid (false = inB x l) := by unfold Hid; rw [← HA.out, htk]
      go_wp2_with fail
      go_ret
      exact ⟨⟨-1, rfl, by rw [← HF.out]; decide⟩, rfl⟩

set_option maxHeartbeats 400000 in
theorem contains_any (x : ByteArray) (l : List ByteArray) (v : Value) (w : World) (X : Nat → Prop) (hv : LV Value.string w X v l) :
    Calls Tryz.prog 47 #[v, .string x] w fun e w' => e = .returned (.bool (inB x l)) ∧ w' = w := by
  have HV := hide hv
  clear hv
  go_enter Tryz.func47, Tryz.ntmps47
  go_wp2_with fail
  refine (index_any x l _ _ X HV.out).mono ?_
  rintro e w1 ⟨⟨n, rfl, hn⟩, rfl⟩
  have HN := hide hn
  clear hn
  go_wp2_with fail
  go_ret
  exact ⟨ret_bool HN.out, rfl⟩

/-- A variable more. -/
def addV (acc : List ByteArray) (s : ByteArray) : List ByteArray := if (varB s && !inB s acc) = true then acc ++ [s] else acc
/-- The variables of knots, as they come. -/
def varsP (acc : List ByteArray) (ks : List Tm) : List ByteArray := ks.foldl (fun acc k => addV acc k.name) acc

theorem addV_yes {acc : List ByteArray} {s : ByteArray} (h : varB s = true) (h2 : inB s acc = false) : addV acc s = acc ++ [s] := by simp [addV, h, h2]
theorem addV_in {acc : List ByteArray} {s : ByteArray} (h : varB s = true) (h2 : inB s acc = true) : addV acc s = acc := by simp [addV, h, h2]
theorem addV_no {acc : List ByteArray} {s : ByteArray} (h : varB s = false) : addV acc s = acc := by simp [addV, h]
theorem addV_len (acc : List ByteArray) (s : ByteArray) : (addV acc s).length ≤ acc.length + 1 := by
  unfold addV; split <;> simp
theorem varsP_append (acc : List ByteArray) (a b : List Tm) : varsP acc (a ++ b) = varsP (varsP acc a) b := by simp [varsP, List.foldl_append]
theorem varsP_len (ks : List Tm) : ∀ acc, (varsP acc ks).length ≤ acc.length + ks.length := by
  induction ks with
  | nil => intro acc; simp [varsP]
  | cons k r ih => intro acc; have := ih (addV acc k.name); have h2 := addV_len acc k.name; simp only [varsP, List.foldl_cons, List.length_cons] at *; omega
theorem varsP_take (acc : List ByteArray) (ks : List Tm) (k : Nat) (h : k < ks.length) : varsP acc (ks.take (k + 1)) = addV (varsP acc (ks.take k)) ks[k].name := by
  rw [List.take_succ_eq_append_getElem h, varsP_append]; rfl

theorem grown_trans {w w1 w2 : World} {r r1 : Option Nat} (h : w.grownBy w1 r) (h1 : w1.grownBy w2 r1) (hr : ∀ k, r1 = some k → r = some k ∨ w.heap.size ≤ k) : w.grownBy w2 r :=
  ⟨h1.os.trans h.os, h1.tape.trans h.tape, h1.output.trans h.output, Nat.le_trans h.size h1.size, fun k hk hne => (h1.block k (Nat.lt_of_lt_of_le hk h.size) (fun e => by
    rcases hr k e.symm with h2 | h2
    · exact hne h2.symm
    · omega)).trans (h.block k hk hne)⟩

theorem grown_of_below {w w' : World} (hb : Below w.heap.size w w') (r : Option Nat) : w.grownBy w' r := ⟨hb.os, hb.tape, hb.output, hb.size, fun k hk _ => hb.block k hk⟩

theorem TV.grown {w w' : World} {X : Nat → Prop} {v : Value} {t : Tm} {r : Option Nat} (h : TV w X v t) (hg : w.grownBy w' r) (hX : ∀ b, X b → some b ≠ r) : TV w' X v t := by
  have h1 : TV w (fun b => X b ∧ b < w.heap.size) v t := h.mono fun b h1 h2 => ⟨h1, h2⟩
  have h2 : TV w' (fun b => X b ∧ b < w.heap.size) v t := h1.kept fun b hx => hg.block b hx.2 (hX b hx.1)
  exact h2.mono fun b hx _ => hx.1

/-- What stays true of a row of texts while it is added to. -/
def NamesAt (w0 : World) (B : Nat) (q0 : Value) (acc : List ByteArray) (q : Value) (wr : World) : Prop :=
  wr.ownsRow B 9 1 q acc.length (acc.map Value.string) ∧ w0.grownBy wr q0.ownBlock ∧ (∀ k, q.ownBlock = some k → q0.ownBlock = some k ∨ w0.heap.size ≤ k)

theorem NamesAt.step {w0 w1 w2 : World} {B : Nat} {q0 q1 q2 : Value} {acc1 acc2 : List ByteArray} (h1 : NamesAt w0 B q0 acc1 q1 w1) (h2 : NamesAt w1 B q1 acc2 q2 w2) : NamesAt w0 B q0 acc2 q2 w2 := by
  refine ⟨h2.1, grown_trans h1.2.1 h2.2.1 h1.2.2, fun k hk => ?_⟩
  rcases h2.2.2 k hk with h | h
  · exact h1.2.2 k h
  · exact Or.inr (Nat.le_trans h1.2.1.size h)

theorem NamesAt.below {w0 w1 w2 : World} {B : Nat} {q0 q1 : Value} {acc1 : List ByteArray} (h1 : NamesAt w0 B q0 acc1 q1 w1) (hb : Below w1.heap.size w1 w2) : NamesAt w0 B q0 acc1 q1 w2 :=
  ⟨h1.1.kept (w' := w2) (row := none) ⟨hb.os, hb.tape, hb.output, hb.size, fun j hj _ => hb.block j hj⟩ (by rcases Option.eq_none_or_eq_some (Value.ownBlock q1) with h | ⟨x, h⟩; exact Or.inl h; exact Or.inr (by rw [h]; simp)),
   grown_trans h1.2.1 (grown_of_below hb q1.ownBlock) h1.2.2, h1.2.2⟩
#print axioms NamesAt.step
end Go.Proofs.YteojdfmdhgnmfaaGreat

/- But for one block the world is as it was. -/
namespace Go.Proofs.YteojdfmdhgnmfaaGreat
open Go.RowKit
set_option linter.unusedSimpArgs false
set_option linter.unusedVariables false
set_option maxRecDepth 8000

/-- But for block B the world is as it was. -/
structure Ex (B : Nat) (w w' : World) : Prop where
  os : w'.os = w.os
  tape : w'.tape = w.tape
  output : w'.output = w.output
  size : w.heap.size ≤ w'.heap.size
  block : ∀ k, k < w.heap.size → k ≠ B → w'.heap[k]? = w.heap[k]?
theorem Ex.refl (B : Nat) (w : World) : Ex B w w := ⟨rfl, rfl, rfl, Nat.le_refl _, fun _ _ _ => rfl⟩
theorem Ex.trans {B : Nat} {a b c : World} (h : Ex B a b) (k : Ex B b c) : Ex B a c :=
  ⟨k.os.trans h.os, k.tape.trans h.tape, k.output.trans h.output, Nat.le_trans h.size k.size, fun i hi hn => (k.block i (Nat.lt_of_lt_of_le hi h.size) hn).trans (h.block i hi hn)⟩
theorem Ex.drewN {B : Nat} {a w : World} (h : Ex B a w) (n : Nat) : Ex B a (w.drewN n) := ⟨h.os, h.tape, h.output, h.size, h.block⟩
theorem Ex.drew {B : Nat} {a w : World} (h : Ex B a w) : Ex B a w.drew := ⟨h.os, h.tape, h.output, h.size, h.block⟩
theorem Ex.set {B : Nat} {a w : World} (h : Ex B a w) (i : Nat) (v : Value) : Ex B a (w.setCell ⟨B, i, none⟩ v) :=
  ⟨h.os, h.tape, h.output, by simpa [World.setCell] using h.size, fun k hk hn => (Below.heap_setCell _ _ _ _ (by simpa using hn)).trans (h.block k hk hn)⟩

theorem Ex.alloc {B : Nat} {a w : World} (h : Ex B a w) (o : Obj) : Ex B a (w.alloc o) :=
  ⟨h.os, h.tape, h.output, by have := h.size; simp; omega, fun k hk hn => (Below.heap_alloc _ _ _ (Nat.lt_of_lt_of_le hk h.size)).trans (h.block k hk hn)⟩

theorem Blk.ex {w w' : World} {B b T : Nat} {cs : Array Value} (h : Blk w b cs T) (he : Ex B w w') (hne : b ≠ B) : Blk w' b cs T := by
  unfold Blk at *
  rw [he.block b (Blk.lt h) hne]; exact h
theorem Ex.mid {B : Nat} {w w1 : World} (h : Ex B w w1) : ∃ wm, Below wm.heap.size wm w1 ∧ wm.heap.size = w.heap.size ∧ Ex B w wm := by
  by_cases hB : B < w.heap.size
  · have hB1 : B < w1.heap.size := Nat.lt_of_lt_of_le hB h.size
    refine ⟨{ w with heap := w.heap.setIfInBounds B w1.heap[B] }, ⟨h.os, h.tape, h.output, by simpa using h.size, fun k hk => ?_⟩, by simp, ⟨rfl, rfl, rfl, by simp, fun k hk hn => ?_⟩⟩
    · simp at hk
      by_cases e : k = B
      · subst e
        simp [Array.getElem?_setIfInBounds, hB, hB1]
      · rw [h.block k hk e]
        simp [Array.getElem?_setIfInBounds, Ne.symm e]
    · simp [Array.getElem?_setIfInBounds, Ne.symm hn]
  · exact ⟨w, ⟨h.os, h.tape, h.output, h.size, fun k hk => h.block k hk (by omega)⟩, rfl, Ex.refl _ _⟩

theorem Row.ex {w w' : World} {B N T : Nat} {Y : Nat → Prop} {v : Value} {l : List Tm} {xs : List Value} (h : Row w N T Y v l xs) (he : Ex B w w') (hB : B < N) (hY : ¬ Y B) : Row w' N T Y v l xs :=
  ⟨h.own.kept (w' := w') (row := some B) ⟨he.os, he.tape, he.output, he.size, fun j hj hn => he.block j hj (fun e => hn (by rw [e]))⟩ (Or.inr (fun e => by have := (h.own.lt B e).1; omega)),
   h.row.imp fun a l hs => ((hs.mono (Y := fun b => (Y b ∨ (N ≤ b ∧ some b ≠ v.ownBlock)) ∧ b < w.heap.size) fun b h1 h2 => ⟨h1, h2⟩).kept fun b hb => he.block b hb.2 (fun e => by
     rcases hb.1 with h1 | h1
     · rw [e] at h1; exact hY h1
     · omega)).mono fun b hb _ => hb.1⟩

theorem Ex.grown {B : Nat} {a w w' : World} {row : Option Nat} (h : Ex B a w) (hg : w.grownBy w' row) (hr : ∀ k, row = some k → a.heap.size ≤ k) : Ex B a w' :=
  ⟨hg.os.trans h.os, hg.tape.trans h.tape, hg.output.trans h.output, Nat.le_trans h.size hg.size, fun k hk hn => (hg.block k (Nat.lt_of_lt_of_le hk h.size) (fun e => by have := hr k e.symm; omega)).trans (h.block k hk hn)⟩
theorem Ex.setNew {B : Nat} {a w : World} (h : Ex B a w) {b : Nat} (hb : a.heap.size ≤ b) (i : Nat) (v : Value) : Ex B a (w.setCell ⟨b, i, none⟩ v) :=
  ⟨h.os, h.tape, h.output, by simpa [World.setCell] using h.size, fun k hk hn => (Below.heap_setCell _ _ _ _ (by simp; omega)).trans (h.block k hk hn)⟩

end Go.Proofs.YteojdfmdhgnmfaaGreat

/- But for some blocks the world is as it was. -/
namespace Go.Proofs.YteojdfmdhgnmfaaGreat
open Go.RowKit
set_option linter.unusedSimpArgs false
set_option linter.unusedVariables false
set_option maxRecDepth 8000

/-- But for the blocks that Q names the world is as it was. -/
structure ExQ (Q : Nat → Prop) (w w' : World) : Prop where
  os : w'.os = w.os
  tape : w'.tape = w.tape
  output : w'.output = w.output
  size : w.heap.size ≤ w'.heap.size
  block : ∀ k, k < w.heap.size → ¬ Q k → w'.heap[k]? = w.heap[k]?
theorem ExQ.refl (Q : Nat → Prop) (w : World) : ExQ Q w w := ⟨rfl, rfl, rfl, Nat.le_refl _, fun _ _ _ => rfl⟩
theorem ExQ.trans {Q : Nat → Prop} {a b c : World} (h : ExQ Q a b) (k : ExQ Q b c) : ExQ Q a c :=
  ⟨k.os.trans h.os, k.tape.trans h.tape, k.output.trans h.output, Nat.le_trans h.size k.size, fun i hi hn => (k.block i (Nat.lt_of_lt_of_le hi h.size) hn).trans (h.block i hi hn)⟩
/-- One behind the other, the second naming blocks that the first world had not. -/
theorem ExQ.transN {Q R : Nat → Prop} {a b c : World} (h : ExQ Q a b) (k : ExQ R b c) (hR : ∀ i, R i → i < a.heap.size → Q i) : ExQ Q a c :=
  ⟨k.os.trans h.os, k.tape.trans h.tape, k.output.trans h.output, Nat.le_trans h.size k.size, fun i hi hn => (k.block i (Nat.lt_of_lt_of_le hi h.size) (fun hr => hn (hR i hr hi))).trans (h.block i hi hn)⟩
theorem ExQ.mono {Q R : Nat → Prop} {a b : World} (h : ExQ Q a b) (hR : ∀ i, Q i → i < a.heap.size → R i) : ExQ R a b := ⟨h.os, h.tape, h.output, h.size, fun i hi hn => h.block i hi (fun hq => hn (hR i hq hi))⟩
theorem ExQ.drewN {Q : Nat → Prop} {a w : World} (h : ExQ Q a w) (n : Nat) : ExQ Q a (w.drewN n) := ⟨h.os, h.tape, h.output, h.size, h.block⟩
theorem ExQ.drew {Q : Nat → Prop} {a w : World} (h : ExQ Q a w) : ExQ Q a w.drew := ⟨h.os, h.tape, h.output, h.size, h.block⟩
theorem ExQ.set {Q : Nat → Prop} {a w : World} (h : ExQ Q a w) {B : Nat} (hB : Q B) (i : Nat) (v : Value) : ExQ Q a (w.setCell ⟨B, i, none⟩ v) :=
  ⟨h.os, h.tape, h.output, by simpa [World.setCell] using h.size, fun k hk hn => (Below.heap_setCell _ _ _ _ (by simp; intro e; subst e; exact hn hB)).trans (h.block k hk hn)⟩
theorem ExQ.alloc {Q : Nat → Prop} {a w : World} (h : ExQ Q a w) (o : Obj) : ExQ Q a (w.alloc o) :=
  ⟨h.os, h.tape, h.output, by have := h.size; simp; omega, fun k hk hn => (Below.heap_alloc _ _ _ (Nat.lt_of_lt_of_le hk h.size)).trans (h.block k hk hn)⟩
theorem ExQ.grown {Q : Nat → Prop} {a w w' : World} {row : Option Nat} (h : ExQ Q a w) (hg : w.grownBy w' row) (hr : ∀ k, row = some k → a.heap.size ≤ k ∨ Q k) : ExQ Q a w' :=
  ⟨hg.os.trans h.os, hg.tape.trans h.tape, hg.output.trans h.output, Nat.le_trans h.size hg.size, fun k hk hn => (hg.block k (Nat.lt_of_lt_of_le hk h.size) (fun e => by rcases hr k e.symm with h1 | h1; omega; exact hn h1)).trans (h.block k hk hn)⟩
theorem ExQ.setNew {Q : Nat → Prop} {a w : World} (h : ExQ Q a w) {b : Nat} (hb : a.heap.size ≤ b) (i : Nat) (v : Value) : ExQ Q a (w.setCell ⟨b, i, none⟩ v) :=
  ⟨h.os, h.tape, h.output, by simpa [World.setCell] using h.size, fun k hk hn => (Below.heap_setCell _ _ _ _ (by simp; omega)).trans (h.block k hk hn)⟩
theorem ExQ.ofBelow {Q : Nat → Prop} {w w' : World} (h : Below w.heap.size w w') : ExQ Q w w' := ⟨h.os, h.tape, h.output, h.size, fun k hk _ => h.block k hk⟩
theorem ExQ.ofEx {Q : Nat → Prop} {B : Nat} {w w' : World} (h : Ex B w w') (hB : Q B) : ExQ Q w w' := ⟨h.os, h.tape, h.output, h.size, fun k hk hn => h.block k hk (fun e => hn (by rw [e]; exact hB))⟩
theorem ExQ.below {Q : Nat → Prop} {w w' : World} {B : Nat} (h : ExQ Q w w') (hB : B ≤ w.heap.size) (hQ : ∀ b, Q b → B ≤ b) : Below B w w' :=
  ⟨h.os, h.tape, h.output, h.size, fun k hk => h.block k (by omega) (fun hq => by have := hQ k hq; omega)⟩
theorem Blk.exq {w w' : World} {Q : Nat → Prop} {b T : Nat} {cs : Array Value} (h : Blk w b cs T) (he : ExQ Q w w') (hne : ¬ Q b) : Blk w' b cs T := by
  unfold Blk at *
  rw [he.block b (Blk.lt h) hne]; exact h
theorem Sl.exq {w w' : World} {Q X : Nat → Prop} {a : Option Addr} {l : List Tm} (h : Sl w X a l) (he : ExQ Q w w') (hX : ∀ b, X b → ¬ Q b) : Sl w' X a l :=
  ((h.mono (Y := fun b => X b ∧ b < w.heap.size) fun b h1 h2 => ⟨h1, h2⟩).kept fun b hb => he.block b hb.2 (hX b hb.1)).mono fun b hb _ => hb.1
theorem ExQ.mid {Q : Nat → Prop} {w w1 : World} (h : ExQ Q w w1) : ∃ wm, Below wm.heap.size wm w1 ∧ wm.heap.size = w.heap.size ∧ ExQ Q w wm := by
  have hs := h.size
  have hz : (w1.heap.extract 0 w.heap.size).size = w.heap.size := by simp; omega
  refine ⟨{ w1 with heap := w1.heap.extract 0 w.heap.size }, ⟨rfl, rfl, rfl, by simp; omega, fun k hk => ?_⟩, hz, ⟨h.os, h.tape, h.output, by simp [hz], fun k hk hn => ?_⟩⟩
  · have hk2 : k < w.heap.size := by simp at hk; omega
    simp [Array.getElem?_extract, hk2]
    omega
  · rw [← h.block k hk hn]
    simp [Array.getElem?_extract, hk]
    omega
theorem ownsRow_at {w w' : World} {base e size n : Nat} {v : Value} {xs : List Value} (h : w.ownsRow base e size v n xs) (hk : ∀ g, v.ownBlock = some g → w'.heap[g]? = w.heap[g]?) : w'.ownsRow base e size v n xs := by
  obtain ⟨hl, h1⟩ := h
  refine ⟨hl, ?_⟩
  rcases h1 with h1 | ⟨g, cap, cur, hv, hg, hh, hr⟩
  · exact Or.inl h1
  · refine Or.inr ⟨g, cap, cur, hv, hg, ?_, hr⟩
    rw [hk g (by rw [hv]; rfl)]
    exact hh
theorem Row.exq {w w' : World} {Q : Nat → Prop} {N T : Nat} {Y : Nat → Prop} {v : Value} {l : List Tm} {xs : List Value} (h : Row w N T Y v l xs) (he : ExQ Q w w') (hQ : ∀ b, Q b → b < N) (hY : ∀ b, Q b → ¬ Y b) : Row w' N T Y v l xs :=
  ⟨ownsRow_at h.own fun g hg => he.block g (h.own.lt g hg).2 (fun hq => by have := hQ g hq; have := (h.own.lt g hg).1; omega),
   h.row.imp fun a l hs => hs.exq he fun b hb hq => by
     rcases hb with h1 | h1
     · exact hY b hq h1
     · have := hQ b hq; omega⟩
theorem BRow.exq {w w' : World} {Q : Nat → Prop} {N : Nat} {Y : Nat → Prop} {v : Value} {cs : List Bc} (h : BRow w N Y v cs) (he : ExQ Q w w') (hQ : ∀ b, Q b → b < N) (hY : ∀ b, Q b → ¬ Y b) : BRow w' N Y v cs :=
  ⟨ownsRow_at h.own fun g hg => he.block g (h.own.lt g hg).2 (fun hq => by have := hQ g hq; have := (h.own.lt g hg).1; omega),
   fun x hx => (h.row x hx).exq he fun b hb hq => by
     rcases hb with h1 | h1
     · exact hY b hq h1
     · have := hQ b hq; omega⟩
#print axioms Row.exq
#print axioms BRow.exq
end Go.Proofs.YteojdfmdhgnmfaaGreat

/- Walks: ranks in a map; how two symbols compare. -/
namespace Go.Proofs.YteojdfmdhgnmfaaGreat
open Go.RowKit
set_option linter.unusedSimpArgs false
set_option linter.unusedVariables false
set_option maxRecDepth 8000

/-- No name twice. -/
def OnceN (row : List ByteArray) : Prop := ∀ k (h : k < row.length), row[k] ∉ row.take k
def RkInv (w : World) (row : List ByteArray) (v : Value) (wr : World) : Prop := ∃ k : Nat, v = .int .i64 (k : Int) ∧ k ≤ row.length ∧ MapAt wr w.heap.size (rkL 0 (row.take k)) ∧ Below w.heap.size w wr

set_option maxHeartbeats 1000000 in
theorem ranksOf_any (row : List ByteArray) (ho : OnceN row) (u : Value) (w : World) (X : Nat → Prop) (hu : LV Value.string w X u row) :
    Calls Tryz.prog 33 #[u] w fun e w' => e = .returned (.map (some w.heap.size)) ∧ MapAt w' w.heap.size (rkL 0 row) ∧ Below w.heap.size w w' := by
  obtain ⟨a, c, rfl, ⟨hl, _⟩, hu⟩ := hu
  have hmm := @run_makeMap Tryz.prog
  go_enter Tryz.func33, Tryz.ntmps33
  go_wp2_with fail
  go_loopw [9] (fun v wr => RkInv w row v wr) (fun v wr => row.length - (intOf v).toNat)
  case atStart => exact ⟨0, rfl, Nat.zero_le _, MapAt.new w, (Below.refl _ _).alloc (Nat.le_refl _) _⟩
  case round =>
    obtain ⟨k, rfl, hk, hM, hb⟩ := hrel
    by_cases hlt : k < row.length
    · obtain ⟨b, o, rfl, hX, hc⟩ := hu.resolve_left (fun h => by rw [h] at hlt; simp at hlt)
      have hlt2 : (k : Int) < (row.length : Int) := by omega
      have d0 : wr.cell? ⟨b, o + k, none⟩ = some (.string row[k]) := by
        have h1 := hc k hlt
        have h2 := cell_lt h1
        rw [← h1]; exact hb.cell (p := ⟨b, o + k, none⟩) h2
      have hno : mapGet (rkL 0 (row.take k)) row[k] = none := by rw [rkL_get, rank_none (ho k hlt)]; rfl
      have htk : rkL 0 (row.take (k + 1)) = rkL 0 (row.take k) ++ [(row[k], .int .i64 ((k : Int) + 1))] := by
        rw [List.take_succ_eq_append_getElem hlt, rkL_push]
        simp [List.length_take, Nat.min_eq_left (Nat.le_of_lt hlt)]
      have HTK := hide htk
      clear htk hc
      generalize row[k] = d at *
      obtain ⟨w2, hrun, hM2, hz2, ho2, ht2, hu2, hk2⟩ := run_put (P := Tryz.prog) Tryz.underlying72 Tryz.underlying9 hM d (.int .i64 ((k : Int) + 1)) hno
      have HM2 := hide hM2
      have HB2 : Hid (Below w.heap.size w w2) := ⟨ho2.trans hb.os, ht2.trans hb.tape, hu2.trans hb.output, by rw [hz2]; exact hb.size, fun j hj => (hk2 j (by omega)).trans (hb.block j hj)⟩
      clear hM2 hz2 ho2 ht2 hu2 hk2 hno hM hb
      go_wp2_with fail
      go_roundw
      case rel => exact ⟨k + 1, by go_num, by omega, by rw [HTK.out]; exact HM2.out, HB2.out⟩
      case measure => simp [intOf]; omega
    · have htk : row.take k = row := List.take_of_length_le (by omega)
      rw [htk] at hM
      go_wp2_with fail
      go_ret
      exact ⟨rfl, hM, hb⟩

theorem isNaNI_any (a : Int) (w : World) : Calls Tryz.prog 92 #[.int .i64 a] w fun e w' => e = .returned (.bool false) ∧ w' = w := by
  go_enter Tryz.func92, Tryz.ntmps92
  go_wp2_with fail
  go_ret
  exact ⟨by simp, rfl⟩
theorem compareI_any (a b : Int) (w : World) : Calls Tryz.prog 81 #[.int .i64 a, .int .i64 b] w fun e w' => e = .returned (.int .i64 (cmpI a b)) ∧ w' = w := by
  by_cases h1 : a < b
  · have HN : Hid (cmpI a b = -1) := by unfold Hid cmpI; rw [if_pos h1]
    go_enter Tryz.func81, Tryz.ntmps81
    go_wp2_with (go_at_call 92; refine (isNaNI_any _ _).mono ?_; rintro e w' ⟨rfl, rfl⟩)
    go_ret
    exact ⟨by rw [HN.out]; rfl, rfl⟩
  · by_cases h2 : b < a
    · have HN : Hid (cmpI a b = 1) := by unfold Hid cmpI; rw [if_neg h1, if_pos h2]
      go_enter Tryz.func81, Tryz.ntmps81
      go_wp2_with (go_at_call 92; refine (isNaNI_any _ _).mono ?_; rintro e w' ⟨rfl, rfl⟩)
      go_ret
      exact ⟨by rw [HN.out]; rfl, rfl⟩
    · have HN : Hid (cmpI a b = 0) := by unfold Hid cmpI; rw [if_neg h1, if_neg h2]
      go_enter Tryz.func81, Tryz.ntmps81
      go_wp2_with (go_at_call 92; refine (isNaNI_any _ _).mono ?_; rintro e w' ⟨rfl, rfl⟩)
      go_ret
      exact ⟨by rw [HN.out]; rfl, rfl⟩

/-- The first that isn't 0. -/
def orI (l : List Int) : Int := (l.find? fun z => decide (z ≠ 0)).getD 0
theorem orI_take {l : List Int} {k : Nat} (hk : k < l.length) (h : ∀ z ∈ l.take k, z = 0) (hz : l[k] ≠ 0) : orI l = l[k] := by
  induction l generalizing k with
  | nil => simp at hk
  | cons x l ih =>
    cases k with
    | zero => simp only [List.getElem_cons_zero] at hz ⊢; simp [orI, hz]
    | succ k =>
      have hx : x = 0 := h x (by simp)
      subst hx
      have := ih (k := k) (by simpa using hk) (fun z hz' => h z (by simp [hz'])) (by simpa using hz)
      simp only [List.getElem_cons_succ]
      rw [← this]
      simp [orI]
theorem orI_none {l : List Int} (h : ∀ z ∈ l, z = 0) : orI l = 0 := by
  induction l with
  | nil => rfl
  | cons x l ih =>
    have hx : x = 0 := h x (by simp)
    subst hx
    have h1 := ih fun z hz => h z (by simp [hz])
    unfold orI at h1 ⊢
    rw [List.find?_cons_of_neg (by simp)]
    exact h1
set_option maxHeartbeats 1000000 in
theorem or_any (l : List Int) (v : Value) (w : World) (X : Nat → Prop) (hv : LV (fun z => .int .i64 z) w X v l) :
    Calls Tryz.prog 80 #[v] w fun e w' => e = .returned (.int .i64 (orI l)) ∧ Below w.heap.size w w' := by
  obtain ⟨a, c, rfl, ⟨hl, _⟩, hu⟩ := hv
  go_enter Tryz.func80, Tryz.ntmps80
  go_wp2_with fail
  go_loopw [8] (fun i wr => ∃ k n : Nat, k ≤ l.length ∧ i = .int .i64 k ∧ wr = w.drewN n ∧ ∀ z ∈ l.take k, z = 0) (fun i wr => l.length - (intOf i).toNat)
  case atStart => exact ⟨0, 0, Nat.zero_le _, rfl, rfl, by simp⟩
  case round =>
    obtain ⟨k, n, hk, rfl, rfl, hz⟩ := hrel
    by_cases hlt : k < l.length
    · obtain ⟨b, o, rfl, hX, hc⟩ := hu.resolve_left (fun h => by rw [h] at hlt; simp at hlt)
      have d0 : (w.drewN n).cell? ⟨b, o + k, none⟩ = some (.int .i64 l[k]) := hc k hlt
      have hlt2 : (k : Int) < (l.length : Int) := by omega
      by_cases h0 : l[k] = 0
      · have htk : ∀ z ∈ l.take (k + 1), z = 0 := by
          rw [List.take_succ_eq_append_getElem hlt, h0]
          intro z hz'
          rw [List.mem_append] at hz'
          rcases hz' with h | h
          · exact hz z h
          · simpa using h
        have HTK := hide htk
        clear htk hc
        rw [h0] at d0
        go_wp2_with fail
        go_roundw
        case rel => exact ⟨k + 1, _, by omega, by go_num, rfl, HTK.out⟩
        case measure => simp [intOf]; omega
      · have HO := hide (orI_take hlt hz h0)
        have h0' : (l[k] == 0) = false := by simpa using h0
        clear hc
        go_wp2_with fail
        go_ret
        exact ⟨by rw [HO.out]; rfl, below_drewN (Below.refl _ _) _⟩
    · have htk : l.take k = l := List.take_of_length_le (by omega)
      rw [htk] at hz
      have HO := hide (orI_none hz)
      go_wp2_with fail
      go_ret
      exact ⟨by rw [HO.out]; rfl, below_drewN (Below.refl _ _) _⟩
#print axioms ranksOf_any
#print axioms compareI_any
#print axioms or_any
end Go.Proofs.YteojdfmdhgnmfaaGreat
