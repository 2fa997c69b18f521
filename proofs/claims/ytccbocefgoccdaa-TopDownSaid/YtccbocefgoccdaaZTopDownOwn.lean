/- Several texts in one. -/
import Derived.WalkKit
import Derived.WalkSpells
import Derived.WalkLawsBesides
import Derived.Test.YtccbocefgoccdaaRows
import Derived.BigQuiet
import Derived.Deep.RegionHeld
import Derived.Deep.RegionHeld3
import Derived.Deep.AppendLies
import Derived.Deep.AppendSrc
import Derived.Deep.RegionLaw
import Derived.Sort.Grow
import Derived.WideMake
import Derived.Maps.RangeRun
import Derived.Lib.Builder
/- The tree that a term is, and how it lies in memory: plain mathematics of terms, and what stays where it was. -/
namespace Go.Proofs.Ytccbocefgoccdaa
open Go.RowKit

/-- Kept from the walk. -/
theorem hide {p : Prop} (h : p) : Hid p := h

/-- A term as a tree. -/
structure Tm where
  name : ByteArray
  args : List Tm

theorem Tm.ind {P : Tm → Prop} (h : ∀ s l, (∀ x ∈ l, P x) → P ⟨s, l⟩) (t : Tm) : P t :=
  Tm.rec (motive_1 := P) (motive_2 := fun l => ∀ x ∈ l, P x) (fun s l ih => h s l ih) (fun x hx => by cases hx)
    (fun a l ha hl x hx => by
      rcases List.mem_cons.1 hx with e | e
      · subst e; exact ha
      · exact hl x e) t

theorem Tm.indL {P : List Tm → Prop} (h0 : P []) (h : ∀ s l r, P l → P r → P (⟨s, l⟩ :: r)) (l : List Tm) : P l :=
  Tm.rec_1 (motive_1 := fun t => P t.args) (motive_2 := P) (fun _ _ ih => ih) h0 (fun a l ha hl => by obtain ⟨s, k⟩ := a; exact h s k l ha hl) l

/-- The knots of a list of terms. -/
def sizeL : List Tm → Nat
  | [] => 0
  | ⟨_, l⟩ :: r => 1 + sizeL l + sizeL r

theorem sizeL_append (a b : List Tm) : sizeL (a ++ b) = sizeL a + sizeL b := by
  induction a with
  | nil => simp [sizeL]
  | cons t r ih => obtain ⟨s, l⟩ := t; simp only [List.cons_append, sizeL, ih]; omega

/-- A list of terms lies in a row of cells, two a term, in blocks that X lets. -/
def Lies (w : World) (X : Nat → Prop) : Nat → Nat → List Tm → Prop
  | _, _, [] => True
  | b, o, ⟨s, l⟩ :: r => X b ∧ w.cell? ⟨b, o, none⟩ = some (.string s) ∧
      (∃ a c, w.cell? ⟨b, o + 1, none⟩ = some (.slice a l.length c) ∧ l.length ≤ 9223372036854775807 ∧ (l = [] ∨ ∃ b' o', a = some ⟨b', o', none⟩ ∧ Lies w X b' o' l)) ∧ Lies w X b (o + 2) r

/-- What a slice of terms holds. -/
def Sl (w : World) (X : Nat → Prop) (a : Option Addr) (l : List Tm) : Prop := l.length ≤ 9223372036854775807 ∧ (l = [] ∨ ∃ b o, a = some ⟨b, o, none⟩ ∧ Lies w X b o l)

/-- What a term's value holds. -/
def TV (w : World) (X : Nat → Prop) (v : Value) (t : Tm) : Prop := ∃ a c, v = .agg #[.string t.name, .slice a t.args.length c] ∧ Sl w X a t.args

theorem lies_kept {w w' : World} {X : Nat → Prop} (h : ∀ b, X b → w'.heap[b]? = w.heap[b]?) (l : List Tm) : ∀ b o, Lies w X b o l → Lies w' X b o l := by
  induction l using Tm.indL with
  | h0 => intro b o _; simp [Lies]
  | h s l r ihl ihr =>
    intro b o hl
    simp only [Lies] at hl ⊢
    obtain ⟨hx, h1, ⟨a, c, h2, h2', h3⟩, h4⟩ := hl
    refine ⟨hx, by rw [World.cell?_of_block (h b hx)]; exact h1, ⟨a, c, by rw [World.cell?_of_block (h b hx)]; exact h2, h2', ?_⟩, ihr _ _ h4⟩
    rcases h3 with h3 | ⟨b', o', h3, h5⟩
    · exact Or.inl h3
    · exact Or.inr ⟨b', o', h3, ihl _ _ h5⟩

theorem lies_mono {w : World} {X Y : Nat → Prop} (h : ∀ b, X b → b < w.heap.size → Y b) (l : List Tm) : ∀ b o, Lies w X b o l → Lies w Y b o l := by
  induction l using Tm.indL with
  | h0 => intro b o _; simp [Lies]
  | h s l r ihl ihr =>
    intro b o hl
    simp only [Lies] at hl ⊢
    obtain ⟨hx, h1, ⟨a, c, h2, h2', h3⟩, h4⟩ := hl
    have hb : b < w.heap.size := by
      apply Classical.byContradiction
      intro hn
      have e : w.heap[b]? = none := Array.getElem?_eq_none (by omega)
      simp [World.cell?, e] at h1
    refine ⟨h b hx hb, h1, ⟨a, c, h2, h2', ?_⟩, ihr _ _ h4⟩
    rcases h3 with h3 | ⟨b', o', h3, h5⟩
    · exact Or.inl h3
    · exact Or.inr ⟨b', o', h3, ihl _ _ h5⟩

theorem Sl.kept {w w' : World} {X : Nat → Prop} {a : Option Addr} {l : List Tm} (h : Sl w X a l) (hk : ∀ b, X b → w'.heap[b]? = w.heap[b]?) : Sl w' X a l := by
  obtain ⟨hl, h⟩ := h
  refine ⟨hl, ?_⟩
  rcases h with h | ⟨b, o, e, h⟩
  · exact Or.inl h
  · exact Or.inr ⟨b, o, e, lies_kept hk _ _ _ h⟩

theorem Sl.mono {w : World} {X Y : Nat → Prop} {a : Option Addr} {l : List Tm} (h : Sl w X a l) (hk : ∀ b, X b → b < w.heap.size → Y b) : Sl w Y a l := by
  obtain ⟨hl, h⟩ := h
  refine ⟨hl, ?_⟩
  rcases h with h | ⟨b, o, e, h⟩
  · exact Or.inl h
  · exact Or.inr ⟨b, o, e, lies_mono hk _ _ _ h⟩

theorem Sl.below {w w' : World} {X : Nat → Prop} {a : Option Addr} {l : List Tm} {B : Nat} (h : Sl w X a l) (hb : Below B w w') (hX : ∀ b, X b → b < w.heap.size → b < B) : Sl w' X a l := by
  have h1 : Sl w (fun b => X b ∧ b < B) a l := h.mono fun b hx hs => ⟨hx, hX b hx hs⟩
  have h2 : Sl w' (fun b => X b ∧ b < B) a l := h1.kept fun b hx => hb.block b hx.2
  exact h2.mono fun b hx _ => hx.1

theorem TV.kept {w w' : World} {X : Nat → Prop} {v : Value} {t : Tm} (h : TV w X v t) (hk : ∀ b, X b → w'.heap[b]? = w.heap[b]?) : TV w' X v t := by
  obtain ⟨a, c, e, h⟩ := h
  exact ⟨a, c, e, h.kept hk⟩

theorem TV.mono {w : World} {X Y : Nat → Prop} {v : Value} {t : Tm} (h : TV w X v t) (hk : ∀ b, X b → b < w.heap.size → Y b) : TV w Y v t := by
  obtain ⟨a, c, e, h⟩ := h
  exact ⟨a, c, e, h.mono hk⟩

theorem TV.below {w w' : World} {X : Nat → Prop} {v : Value} {t : Tm} {B : Nat} (h : TV w X v t) (hb : Below B w w') (hX : ∀ b, X b → b < w.heap.size → b < B) : TV w' X v t := by
  obtain ⟨a, c, e, h⟩ := h
  exact ⟨a, c, e, h.below hb hX⟩

theorem TV.alloc {w : World} {X : Nat → Prop} {v : Value} {t : Tm} (h : TV w X v t) (o : Obj) : TV (w.alloc o) X v t :=
  h.below ((Below.refl _ _).alloc (Nat.le_refl _) o) (fun _ _ h => h)

theorem TV.later {w w' : World} {X : Nat → Prop} {v : Value} {t : Tm} (h : TV w X v t) (hb : Below w.heap.size w w') : TV w' X v t := h.below hb (fun _ _ h => h)

theorem Sl.later {w w' : World} {X : Nat → Prop} {a : Option Addr} {l : List Tm} (h : Sl w X a l) (hb : Below w.heap.size w w') : Sl w' X a l := h.below hb (fun _ _ h => h)

/-- One of a row. -/
theorem lies_get {w : World} {X : Nat → Prop} : ∀ (l : List Tm) (b o : Nat), Lies w X b o l → ∀ i (h : i < l.length),
    X b ∧ w.cell? ⟨b, o + i * 2, none⟩ = some (.string l[i].name) ∧ ∃ a c, w.cell? ⟨b, o + i * 2 + 1, none⟩ = some (.slice a l[i].args.length c) ∧ Sl w X a l[i].args := by
  intro l
  induction l with
  | nil => intro b o _ i h; simp at h
  | cons t r ih =>
    intro b o hl i h
    obtain ⟨s, k⟩ := t
    simp only [Lies] at hl
    obtain ⟨hx, h1, ⟨a, c, h2, h3⟩, h4⟩ := hl
    cases i with
    | zero => exact ⟨hx, h1, a, c, h2, h3⟩
    | succ i =>
      have := ih b (o + 2) h4 i (by simpa using h)
      simp only [List.getElem_cons_succ]
      rw [show o + (i + 1) * 2 = o + 2 + i * 2 by omega]
      exact this

theorem lies_mk {w : World} {X : Nat → Prop} : ∀ (l : List Tm) (b o : Nat), (∀ i (h : i < l.length),
    X b ∧ w.cell? ⟨b, o + i * 2, none⟩ = some (.string l[i].name) ∧ ∃ a c, w.cell? ⟨b, o + i * 2 + 1, none⟩ = some (.slice a l[i].args.length c) ∧ Sl w X a l[i].args) → Lies w X b o l := by
  intro l
  induction l with
  | nil => intro b o _; simp [Lies]
  | cons t r ih =>
    intro b o hl
    obtain ⟨s, k⟩ := t
    simp only [Lies]
    obtain ⟨hx, h1, a, c, h2, h3⟩ := hl 0 (by simp)
    refine ⟨hx, h1, ⟨a, c, h2, h3⟩, ih b (o + 2) fun i h => ?_⟩
    have := hl (i + 1) (by simpa using h)
    simp only [List.getElem_cons_succ] at this
    rw [show o + (i + 1) * 2 = o + 2 + i * 2 by omega] at this
    exact this

/-- One of a slice, in a later world. -/
theorem Sl.get {w wr : World} {X : Nat → Prop} {a : Option Addr} {l : List Tm} {B : Nat} (h : Sl w X a l) (hb : Below B w wr) (hX : ∀ b, X b → b < w.heap.size → b < B) (k : Nat) (hk : k < l.length) :
    ∃ b o a' c', a = some ⟨b, o, none⟩ ∧ wr.cell? ⟨b, o + k * 2, none⟩ = some (.string l[k].name) ∧ wr.cell? ⟨b, o + k * 2 + 1, none⟩ = some (.slice a' l[k].args.length c') ∧ TV wr X (.agg #[.string l[k].name, .slice a' l[k].args.length c']) l[k] := by
  have h' := h.below hb hX
  obtain ⟨_, h1⟩ := h'
  rcases h1 with h1 | ⟨b, o, e, h1⟩
  · subst h1; simp at hk
  · obtain ⟨_, h2, a', c', h3, h4⟩ := lies_get _ _ _ h1 k hk
    exact ⟨b, o, a', c', e, h2, h3, a', c', rfl, h4⟩

#print axioms lies_mk
end Go.Proofs.Ytccbocefgoccdaa

/- Walks: how many knots a term has. -/
namespace Go.Proofs.Ytccbocefgoccdaa
open Go.RowKit

/-- Behind a call that makes memory: old cells and marks read as before. -/
theorem bcell {W w1 : World} {B : Nat} (hb : Below B W w1) : (∀ b o, b < B → w1.cell? ⟨b, o, none⟩ = W.cell? ⟨b, o, none⟩) ∧ (∀ b o, b < B → w1.frozen? ⟨b, o, none⟩ = W.frozen? ⟨b, o, none⟩) :=
  ⟨fun b o h => hb.cell (p := ⟨b, o, none⟩) h, fun b o h => hb.frozen (p := ⟨b, o, none⟩) h⟩

theorem sizeL_take (l : List Tm) (k : Nat) (h : k < l.length) : sizeL (l.take (k + 1)) = sizeL (l.take k) + sizeL [l[k]] := by
  rw [List.take_succ_eq_append_getElem h, sizeL_append]

theorem sizeL_take_le (l : List Tm) (k : Nat) : sizeL (l.take k) ≤ sizeL l := by
  have := sizeL_append (l.take k) (l.drop k)
  rw [List.take_append_drop] at this
  omega

theorem ret_int {k : IntKind} {a b : Int} (h : a = b) : Ending.returned (.int k a) = .returned (.int k b) := by rw [h]

/-- Behind a call whose first deed was to lay its parameter down. -/
theorem below_box {w wr : World} {o : Obj} (hb : Below (w.heap.size + 1) (w.alloc o) wr) : Below w.heap.size w wr :=
  ((Below.refl _ _).alloc (Nat.le_refl _) _).trans (hb.mono (Nat.le_succ _))

set_option maxHeartbeats 400000 in
theorem size_any (t : Tm) : ∀ (v : Value) (most : Int) (w : World) (X : Nat → Prop), TV w X v t → 0 ≤ most → most ≤ 1000000 →
    Calls Try.prog 14 #[v, .int .i64 most] w fun e w' => e = .returned (.int .i64 (min (sizeL [t]) (most + 1))) ∧ Below w.heap.size w w' := by
  induction t using Tm.ind with
  | h s l ih =>
    intro v most w X hv hm0 hm1
    obtain ⟨a, c, rfl, hs⟩ := hv
    have IH := hide ih
    clear ih
    go_enter Try.func14, Try.ntmps14
    go_wp2_with fail
    go_loopw [5, 6] (fun n i wr => ∃ k : Nat, k ≤ l.length ∧ i = .int .i64 k ∧ n = .int .i64 (min (1 + sizeL (l.take k)) (most + 1)) ∧ Below (w.heap.size + 1) (w.alloc (Obj.cells #[Value.string s, Value.slice a l.length c] 27)) wr) (fun n i wr => l.length - (intOf i).toNat)
    case atStart => exact ⟨0, Nat.zero_le _, rfl, by simp [sizeL]; omega, Below.refl _ _⟩
    case round =>
      obtain ⟨k, hk, rfl, rfl, hb⟩ := hrel
      have hc := bcell hb
      have c0 : wr.cell? ⟨w.heap.size, 0, none⟩ = some (.string s) := by rw [hc.1 _ _ (by omega)]; simp
      have c1 : wr.cell? ⟨w.heap.size, 1, none⟩ = some (.slice a l.length c) := by rw [hc.1 _ _ (by omega)]; simp
      have hl := hs.1
      have hn : 0 ≤ ((1 : Int) + sizeL (l.take k)) := by omega
      by_cases hlt : k < l.length
      · obtain ⟨b, o, a', c', rfl, d0, d1, hx⟩ := hs.get (((Below.refl _ _).alloc (Nat.le_refl _) _).trans (hb.mono (Nat.le_succ _))) (fun _ _ h => h) k hlt
        by_cases hle : 1 + (sizeL (l.take k) : Int) ≤ most
        · have hmin : min (1 + (sizeL (l.take k) : Int)) (most + 1) = 1 + (sizeL (l.take k) : Int) := by omega
          rw [hmin]
          go_wp2_with fail
          refine (IH.out _ (List.getElem_mem hlt) _ _ _ X hx (by omega) (by omega)).mono ?_
          rintro e w1 ⟨rfl, hb1⟩
          have hsz : w.heap.size + 1 ≤ wr.heap.size := by have := hb.size; simpa using this
          have Hst := hide (sizeL_take l k hlt)
          have hm2 : 0 ≤ min ((sizeL [l[k]] : Int)) (most - (1 + (sizeL (l.take k) : Int)) + 1) := by omega
          have hm3 : min ((sizeL [l[k]] : Int)) (most - (1 + (sizeL (l.take k) : Int)) + 1) ≤ 1000001 := by omega
          go_wp2_with fail
          go_roundw
          case rel => exact ⟨k + 1, by omega, by go_num, by rw [Hst.out]; congr 1; omega, hb.trans (hb1.mono hsz)⟩
          case measure => simp [intOf]; omega
        · have hmin : min (1 + (sizeL (l.take k) : Int)) (most + 1) = most + 1 := by omega
          rw [hmin]
          have hz : (sizeL [(⟨s, l⟩ : Tm)] : Int) = 1 + sizeL l := by simp [sizeL]
          have hle2 : sizeL (l.take k) ≤ sizeL l := sizeL_take_le l k
          have HF := hide (show (most + 1 : Int) = min (sizeL [(⟨s, l⟩ : Tm)] : Int) (most + 1) by omega)
          clear hz
          go_wp2_with fail
          go_ret
          exact ⟨ret_int HF.out, below_box hb⟩
      · have htk : l.take k = l := List.take_of_length_le (by omega)
        rw [htk]
        have hz : (sizeL [(⟨s, l⟩ : Tm)] : Int) = 1 + sizeL l := by simp [sizeL]
        have HZ := hide hz
        clear hz
        go_wp2_with fail
        · go_ret
          exact ⟨ret_int (by have := HZ.out; omega), below_box hb⟩
        · go_ret
          exact ⟨ret_int (by have := HZ.out; omega), below_box hb⟩

#print axioms size_any
end Go.Proofs.Ytccbocefgoccdaa

/- Walks: letters, digits, names. -/
namespace Go.Proofs.Ytccbocefgoccdaa
open Go.RowKit
set_option linter.unusedSimpArgs false
set_option linter.unusedVariables false

def digB (n : Int) : Bool := decide (48 ≤ n) && decide (n ≤ 57)
def capB (n : Int) : Bool := decide (65 ≤ n) && decide (n ≤ 90)
def lowB (n : Int) : Bool := decide (97 ≤ n) && decide (n ≤ 122)
def letB (n : Int) : Bool := lowB n || capB n
def alnB (n : Int) : Bool := letB n || digB n

theorem ret_bool {a b : Bool} (h : a = b) : Ending.returned (.bool a) = .returned (.bool b) := by rw [h]

set_option maxHeartbeats 400000 in
theorem isDigit_any (n : Int) (w : World) : Calls Try.prog 67 #[.int .u8 n] w fun e w' => e = .returned (.bool (digB n)) ∧ w' = w := by
  go_enter Try.func67, Try.ntmps67
  go_wp2_with fail
  all_goals (go_ret; refine ⟨ret_bool ?_, rfl⟩; rw [Bool.eq_iff_iff]; simp [alnB, letB, lowB, capB, digB] <;> omega)

set_option maxHeartbeats 400000 in
theorem isCapital_any (n : Int) (w : World) : Calls Try.prog 69 #[.int .u8 n] w fun e w' => e = .returned (.bool (capB n)) ∧ w' = w := by
  go_enter Try.func69, Try.ntmps69
  go_wp2_with fail
  all_goals (go_ret; refine ⟨ret_bool ?_, rfl⟩; rw [Bool.eq_iff_iff]; simp [alnB, letB, lowB, capB, digB] <;> omega)

set_option maxHeartbeats 400000 in
theorem isLetter_any (n : Int) (w : World) : Calls Try.prog 68 #[.int .u8 n] w fun e w' => e = .returned (.bool (letB n)) ∧ w' = w := by
  go_enter Try.func68, Try.ntmps68
  go_wp2_with (go_at_call 69; refine (isCapital_any _ _).mono ?_; rintro e w' ⟨rfl, rfl⟩)
  all_goals (go_ret; refine ⟨ret_bool ?_, rfl⟩; rw [Bool.eq_iff_iff]; simp [alnB, letB, lowB, capB, digB] <;> omega)

set_option maxHeartbeats 400000 in
theorem isLetterR_any (n : Int) (w : World) : Calls Try.prog 38 #[.int .u8 n] w fun e w' => e = .returned (.bool (alnB n)) ∧ w' = w := by
  go_enter Try.func38, Try.ntmps38
  go_wp2_with fail
  all_goals (go_ret; refine ⟨ret_bool ?_, rfl⟩; rw [Bool.eq_iff_iff]; simp [alnB, letB, lowB, capB, digB] <;> omega)
end Go.Proofs.Ytccbocefgoccdaa

/- Walks: which texts are names, and which of them are variables'. -/
namespace Go.Proofs.Ytccbocefgoccdaa
open Go.RowKit
set_option linter.unusedSimpArgs false
set_option linter.unusedVariables false

def byteAt (s : ByteArray) (i : Nat) : Int := if h : i < s.size then (s[i].toNat : Int) else 0
theorem byteAt_of {s : ByteArray} {i : Nat} (h : i < s.size) : (s[i].toNat : Int) = byteAt s i := by simp [byteAt, h]
def varB (s : ByteArray) : Bool := capB (byteAt s 0)
def alnTo (s : ByteArray) (k : Nat) : Bool := (List.range k).all fun i => alnB (byteAt s i)
def nameB (s : ByteArray) : Bool := decide (1 ≤ s.size) && decide (s.size ≤ 8) && !digB (byteAt s 0) && alnTo s s.size

theorem isEmpty_pos {s : ByteArray} (h : 0 < s.size) : s.toList.isEmpty = false := by
  rw [ByteArray.toList_eq, List.isEmpty_eq_false_iff, ← List.length_pos_iff]
  simpa using h
theorem isEmpty_zero {s : ByteArray} (h : ¬ 0 < s.size) : s.toList.isEmpty = true := by
  rw [ByteArray.toList_eq, List.isEmpty_iff, ← List.length_eq_zero_iff]
  have : s.size = 0 := by omega
  simpa using this
theorem alnTo_succ (s : ByteArray) (k : Nat) : alnTo s (k + 1) = (alnTo s k && alnB (byteAt s k)) := by
  simp [alnTo, List.range_succ, List.all_append]
theorem alnTo_false {s : ByteArray} {k n : Nat} (h : k ≤ n) (hf : alnTo s k = false) : alnTo s n = false := by
  cases hn : alnTo s n with
  | false => rfl
  | true =>
    rw [← hf]; symm
    unfold alnTo at hn ⊢
    rw [List.all_eq_true] at hn ⊢
    intro x hx; exact hn x (by rw [List.mem_range] at hx ⊢; omega)
theorem byte_bd (s : ByteArray) (k : Nat) : 0 ≤ byteAt s k ∧ byteAt s k ≤ 255 := by
  unfold byteAt
  split
  · have := (s[k]).toNat_lt; omega
  · omega

set_option maxHeartbeats 400000 in
theorem isVarR_any (s : ByteArray) (w : World) : Calls Try.prog 40 #[.string s] w fun e w' => e = .returned (.bool (varB s)) ∧ w' = w := by
  by_cases h : 0 < s.size
  · have hb := hide (byteAt_of h)
    have he := isEmpty_pos h
    go_enter Try.func40, Try.ntmps40
    go_wp2_with fail
    all_goals (go_ret; refine ⟨ret_bool ?_, rfl⟩; have hb' := hb.out; rw [Bool.eq_iff_iff]; simp [varB, capB] <;> omega)
  · have he := isEmpty_zero h
    have hv : Hid (false = varB s) := by simp [Hid, varB, byteAt, h, capB]
    go_enter Try.func40, Try.ntmps40
    go_wp2_with fail
    go_ret
    exact ⟨ret_bool hv.out, rfl⟩

set_option maxHeartbeats 400000 in
theorem isVariable_all (s : ByteArray) (w : World) : Calls Try.prog 50 #[.string s] w fun e w' => e = .returned (.bool (varB s)) ∧ w' = w := by
  by_cases h : 0 < s.size
  · have hb := hide (byteAt_of h)
    have he := isEmpty_pos h
    go_enter Try.func50, Try.ntmps50
    go_wp2_with (go_at_call 69; refine (isCapital_any _ _).mono ?_; rintro e w' ⟨rfl, rfl⟩)
    go_ret
    refine ⟨ret_bool ?_, rfl⟩
    rw [hb.out]; rfl
  · have he := isEmpty_zero h
    have hv : Hid (false = varB s) := by simp [Hid, varB, byteAt, h, capB]
    go_enter Try.func50, Try.ntmps50
    go_wp2_with fail
    go_ret
    exact ⟨ret_bool hv.out, rfl⟩
theorem isVariable_any (s : ByteArray) (w : World) (h : 0 < s.size) : Calls Try.prog 50 #[.string s] w fun e w' => e = .returned (.bool (varB s)) ∧ w' = w := isVariable_all s w

theorem nameB_no {s : ByteArray} {k : Nat} (hk : k < s.size) (h : alnB (byteAt s k) = false) : nameB s = false := by
  have h1 : alnTo s (k + 1) = false := by rw [alnTo_succ, h]; simp
  have h2 := alnTo_false (n := s.size) (by omega) h1
  simp [nameB, h2]

set_option maxHeartbeats 400000 in
theorem isName_any (s : ByteArray) (w : World) : Calls Try.prog 49 #[.string s] w fun e w' => e = .returned (.bool (nameB s)) ∧ w' = w := by
  by_cases h0 : s.size < 1
  · have hn : Hid (false = nameB s) := by simp [Hid, nameB]; omega
    go_enter Try.func49, Try.ntmps49
    go_wp2_with fail
    go_ret
    exact ⟨ret_bool hn.out, rfl⟩
  · by_cases h8 : 8 < s.size
    · have hn : Hid (false = nameB s) := by simp [Hid, nameB]; omega
      go_enter Try.func49, Try.ntmps49
      go_wp2_with fail
      all_goals (go_ret; exact ⟨ret_bool hn.out, rfl⟩)
    · have hb := hide (byteAt_of (s := s) (i := 0) (by omega))
      by_cases hd : digB (byteAt s 0) = true
      · have hn : Hid (false = nameB s) := by simp [Hid, nameB, hd]
        have hd' := hide hd
        clear hd
        go_enter Try.func49, Try.ntmps49
        go_wp2_with (go_at_call 67; refine (isDigit_any _ _).mono ?_; rintro e w' ⟨rfl, rfl⟩; rw [hb.out, hd'.out])
        all_goals (go_ret; exact ⟨ret_bool hn.out, rfl⟩)
      · have hd' : Hid (digB (byteAt s 0) = false) := by simpa [Hid] using hd
        clear hd
        go_enter Try.func49, Try.ntmps49
        go_wp2_with (go_at_call 67; refine (isDigit_any _ _).mono ?_; rintro e w' ⟨rfl, rfl⟩; rw [hb.out, hd'.out])
        go_loop [19] (fun i => ∃ k : Nat, k ≤ s.size ∧ i = .int .i64 k ∧ alnTo s k = true) (fun i => s.size - (intOf i).toNat)
        case atStart => exact ⟨0, Nat.zero_le _, rfl, rfl⟩
        case round =>
          obtain ⟨k, hk, rfl, ha⟩ := hrel
          have HA := hide ha
          clear ha
          by_cases hlt : k < s.size
          · have hbk := hide (byteAt_of hlt)
            have hsuc := hide (alnTo_succ s k)
            cases hl : letB (byteAt s k) with
            | true =>
              have HL := hide hl
              clear hl
              go_wp2_with (go_at_call 68; refine (isLetter_any _ _).mono ?_; rintro e w' ⟨rfl, rfl⟩; rw [hbk.out, HL.out])
              go_round
              case rel => exact ⟨k + 1, by omega, by go_num, by rw [hsuc.out, HA.out, alnB, HL.out]; rfl⟩
              case measure => simp [intOf]; omega
            | false =>
              have HL := hide hl
              clear hl
              cases hg : digB (byteAt s k) with
              | true =>
                have HG := hide hg
                clear hg
                go_wp2_with (first | (go_at_call 68; refine (isLetter_any _ _).mono ?_; rintro e w' ⟨rfl, rfl⟩; rw [hbk.out, HL.out]) | (go_at_call 67; refine (isDigit_any _ _).mono ?_; rintro e w' ⟨rfl, rfl⟩; rw [hbk.out, HG.out]))
                go_round
                case rel => exact ⟨k + 1, by omega, by go_num, by rw [hsuc.out, HA.out, alnB, HL.out, HG.out]; rfl⟩
                case measure => simp [intOf]; omega
              | false =>
                have HG := hide hg
                clear hg
                go_wp2_with (first | (go_at_call 68; refine (isLetter_any _ _).mono ?_; rintro e w' ⟨rfl, rfl⟩; rw [hbk.out, HL.out]) | (go_at_call 67; refine (isDigit_any _ _).mono ?_; rintro e w' ⟨rfl, rfl⟩; rw [hbk.out, HG.out]))
                go_ret
                exact ⟨ret_bool (nameB_no hlt (by rw [alnB, HL.out, HG.out]; rfl)).symm, rfl⟩
          · have hn : Hid (true = nameB s) := by
              have e : k = s.size := by omega
              have := HA.out
              rw [e] at this
              simp [Hid, nameB, this, hd'.out]; omega
            go_wp2_with fail
            go_ret
            exact ⟨ret_bool hn.out, rfl⟩

set_option maxHeartbeats 400000 in
theorem isNameR_any (s : ByteArray) (w : World) : Calls Try.prog 39 #[.string s] w fun e w' => e = .returned (.bool (nameB s)) ∧ w' = w := by
  by_cases h0 : 0 < s.size
  · have he := isEmpty_pos h0
    have hb := hide (byteAt_of h0)
    by_cases h8 : 8 < s.size
    · have hn : Hid (false = nameB s) := by simp [Hid, nameB]; omega
      go_enter Try.func39, Try.ntmps39
      go_wp2_with fail
      all_goals (go_ret; exact ⟨ret_bool hn.out, rfl⟩)
    · cases hd : digB (byteAt s 0) with
      | true =>
        have hn : Hid (false = nameB s) := by simp [Hid, nameB, hd]
        have hd1 : 48 ≤ (s[0].toNat : Int) := by rw [hb.out]; simp [digB] at hd; exact hd.1
        have hd2 : (s[0].toNat : Int) ≤ 57 := by rw [hb.out]; simp [digB] at hd; exact hd.2
        clear hd
        go_enter Try.func39, Try.ntmps39
        go_wp2_with fail
        all_goals (go_ret; exact ⟨ret_bool hn.out, rfl⟩)
      | false =>
        have HD := hide hd
        clear hd
        have hor : (s[0].toNat : Int) < 48 ∨ (48 ≤ (s[0].toNat : Int) ∧ 57 < (s[0].toNat : Int)) := by
          have := HD.out; rw [hb.out]; simp [digB] at this; omega
        rcases hor with h1 | ⟨h1, h2⟩
        all_goals
          go_enter Try.func39, Try.ntmps39
          go_wp2_with fail
          go_loop [3] (fun i => ∃ k : Nat, k ≤ s.size ∧ i = .int .i64 k ∧ alnTo s k = true) (fun i => s.size - (intOf i).toNat)
          case atStart => exact ⟨0, Nat.zero_le _, rfl, rfl⟩
          case round =>
            obtain ⟨k, hk, rfl, ha⟩ := hrel
            have HA := hide ha
            clear ha
            by_cases hlt : k < s.size
            · have hbk := hide (byteAt_of hlt)
              have hsuc := hide (alnTo_succ s k)
              cases hl : alnB (byteAt s k) with
              | true =>
                have HL := hide hl
                clear hl
                go_wp2_with (go_at_call 38; refine (isLetterR_any _ _).mono ?_; rintro e w' ⟨rfl, rfl⟩; rw [hbk.out, HL.out])
                go_round
                case rel => exact ⟨k + 1, by omega, by go_num, by rw [hsuc.out, HA.out, HL.out]; rfl⟩
                case measure => simp [intOf]; omega
              | false =>
                have HL := hide hl
                clear hl
                go_wp2_with (go_at_call 38; refine (isLetterR_any _ _).mono ?_; rintro e w' ⟨rfl, rfl⟩; rw [hbk.out, HL.out])
                go_ret
                exact ⟨ret_bool (nameB_no hlt HL.out).symm, rfl⟩
            · have hn : Hid (true = nameB s) := by
                have e : k = s.size := by omega
                have := HA.out
                rw [e] at this
                simp [Hid, nameB, this, HD.out]; omega
              go_wp2_with fail
              go_ret
              exact ⟨ret_bool hn.out, rfl⟩
  · have he := isEmpty_zero h0
    have hn : Hid (false = nameB s) := by simp [Hid, nameB]; omega
    go_enter Try.func39, Try.ntmps39
    go_wp2_with fail
    all_goals (go_ret; exact ⟨ret_bool hn.out, rfl⟩)
#print axioms isName_any
#print axioms isNameR_any
end Go.Proofs.Ytccbocefgoccdaa

/- Walks: counting knots with a bound; what is wrong with a term. -/
namespace Go.Proofs.Ytccbocefgoccdaa
open Go.RowKit
set_option linter.unusedSimpArgs false
set_option linter.unusedVariables false

theorem argsOf_any (s : ByteArray) (a : Option Addr) (n c : Nat) (w : World) :
    Calls Try.prog 56 #[.agg #[.string s, .slice a n c]] w fun e w' => e = .returned (.slice a n c) ∧ w' = w.alloc (.cells #[.string s, .slice a n c] 27) := by
  go_enter Try.func56, Try.ntmps56
  go_wp2_with fail
  go_ret
  exact ⟨rfl, rfl⟩

set_option maxHeartbeats 400000 in
theorem countOn_any (M : Int) (hM0 : 0 ≤ M) (hM1 : M ≤ 1000000) (t : Tm) : ∀ (v : Value) (n : Int) (w : World) (X : Nat → Prop), TV w X v t → 0 ≤ n → n ≤ M →
    Calls Try.prog 77 #[v, .func (.func 56) #[] #[], .int .i64 M, .int .i64 n] w fun e w' => e = .returned (.int .i64 (min (n + sizeL [t]) (M + 1))) ∧ Below w.heap.size w w' := by
  induction t using Tm.ind with
  | h s l ih =>
    intro v n w X hv hn0 hn1
    obtain ⟨a, c, rfl, hs⟩ := hv
    have IH := hide ih
    clear ih
    have hz : Hid ((sizeL [(⟨s, l⟩ : Tm)] : Int) = 1 + sizeL l) := by simp [Hid, sizeL]
    go_enter Try.func77, Try.ntmps77
    go_wp2_with (go_at_call 56; refine (argsOf_any _ _ _ _ _).mono ?_; rintro e w' ⟨rfl, rfl⟩)
    have hB0 : Hid (Below w.heap.size w ((w.alloc (Obj.cells #[Value.string s, Value.slice a l.length c] 27)).alloc (Obj.cells #[Value.string s, Value.slice a l.length c] 27))) := ((Below.refl _ _).alloc (Nat.le_refl _) _).alloc (by simp) _
    have hZ0 : Hid (w.heap.size + 2 ≤ ((w.alloc (Obj.cells #[Value.string s, Value.slice a l.length c] 27)).alloc (Obj.cells #[Value.string s, Value.slice a l.length c] 27)).heap.size) := by simp [Hid]
    generalize ((w.alloc (Obj.cells #[Value.string s, Value.slice a l.length c] 27)).alloc (Obj.cells #[Value.string s, Value.slice a l.length c] 27)) = w0 at *
    go_loopw [9, 18] (fun m i wr => ∃ k : Nat, k ≤ l.length ∧ i = .int .i64 k ∧ m = .int .i64 (min (n + 1 + sizeL (l.take k)) (M + 1)) ∧ Below w.heap.size w wr) (fun m i wr => l.length - (intOf i).toNat)
    case atStart => exact ⟨0, Nat.zero_le _, rfl, by rw [show sizeL (l.take 0) = 0 by simp [sizeL]]; congr 1; omega, hB0.out⟩
    case round =>
      obtain ⟨k, hk, rfl, rfl, hb⟩ := hrel
      have hl := hs.1
      have hsz : w.heap.size ≤ wr.heap.size := hb.size
      by_cases hlt : k < l.length
      · obtain ⟨b, o, a', c', rfl, d0, d1, hx⟩ := hs.get hb (fun _ _ h => h) k hlt
        by_cases hle : n + 1 + (sizeL (l.take k) : Int) ≤ M
        · have hmin : min (n + 1 + (sizeL (l.take k) : Int)) (M + 1) = n + 1 + (sizeL (l.take k) : Int) := by omega
          rw [hmin]
          go_wp2_with fail
          refine (IH.out _ (List.getElem_mem hlt) _ _ _ X (hx.alloc _) (by omega) (by omega)).mono ?_
          rintro e w1 ⟨rfl, hb1⟩
          have Hst := hide (sizeL_take l k hlt)
          go_wp2_with fail
          go_roundw
          case rel => exact ⟨k + 1, by omega, by go_num, by rw [Hst.out]; congr 1; omega, (hb.alloc hsz _).trans (hb1.mono (by simp; omega))⟩
          case measure => simp [intOf]; omega
        · have hmin : min (n + 1 + (sizeL (l.take k) : Int)) (M + 1) = M + 1 := by omega
          rw [hmin]
          have hle2 : sizeL (l.take k) ≤ sizeL l := sizeL_take_le l k
          go_wp2_with fail
          go_ret
          refine ⟨ret_int (by have := hz.out; omega), ?_⟩
          exact hb.alloc (by omega) _
      · have htk : l.take k = l := List.take_of_length_le (by omega)
        rw [htk]
        go_wp2_with fail
        go_ret
        exact ⟨ret_int (by have := hz.out; omega), hb⟩

theorem countT_any (M : Int) (hM0 : 0 ≤ M) (hM1 : M ≤ 1000000) (t : Tm) (v : Value) (w : World) (X : Nat → Prop) (hv : TV w X v t) :
    Calls Try.prog 55 #[v, .func (.func 56) #[] #[], .int .i64 M] w fun e w' => e = .returned (.int .i64 (min (sizeL [t] : Int) (M + 1))) ∧ Below w.heap.size w w' := by
  obtain ⟨a, c, rfl, hs⟩ := hv
  have hv : TV w X (.agg #[.string t.name, .slice a t.args.length c]) t := ⟨a, c, rfl, hs⟩
  go_enter Try.func55, Try.ntmps55
  go_wp2_with fail
  refine (countOn_any M hM0 hM1 t _ _ _ X (hv.alloc _) (by omega) (by omega)).mono ?_
  rintro e w1 ⟨rfl, hb1⟩
  go_wp2_with fail
  go_ret
  exact ⟨ret_int (by omega), ((Below.refl _ _).alloc (Nat.le_refl _) _).trans (hb1.mono (by simp))⟩

theorem count_any (M : Int) (hM0 : 0 ≤ M) (hM1 : M ≤ 1000000) (t : Tm) (v : Value) (w : World) (X : Nat → Prop) (hv : TV w X v t) :
    Calls Try.prog 36 #[v, .int .i64 M] w fun e w' => e = .returned (.int .i64 (min (sizeL [t] : Int) (M + 1))) ∧ Below w.heap.size w w' := by
  obtain ⟨a, c, rfl, hs⟩ := hv
  have hv : TV w X (.agg #[.string t.name, .slice a t.args.length c]) t := ⟨a, c, rfl, hs⟩
  go_enter Try.func36, Try.ntmps36
  go_wp2_with fail
  refine (countT_any M hM0 hM1 t _ _ X (hv.alloc _)).mono ?_
  rintro e w1 ⟨rfl, hb1⟩
  go_wp2_with fail
  go_ret
  exact ⟨ret_int (by omega), ((Below.refl _ _).alloc (Nat.le_refl _) _).trans (hb1.mono (by simp))⟩

/-- What is wrong, knot by knot: 0 nothing, 1 no name, 2 a variable with terms below it. -/
def errL : List Tm → Int
  | [] => 0
  | ⟨s, l⟩ :: r => if nameB s = true then (if (varB s && decide (0 < l.length)) = true then 2 else if errL l = 0 then errL r else errL l) else 1

theorem errL_cons (t : Tm) (r : List Tm) : errL (t :: r) = if errL [t] = 0 then errL r else errL [t] := by
  obtain ⟨s, l⟩ := t
  simp only [errL]
  split
  · split
    · simp
    · split <;> simp_all
  · simp

theorem errL_append (a b : List Tm) : errL (a ++ b) = if errL a = 0 then errL b else errL a := by
  induction a with
  | nil => simp [errL]
  | cons t r ih =>
    rw [List.cons_append, errL_cons, errL_cons t r, ih]
    by_cases h : errL [t] = 0 <;> simp [h]

theorem errL_take (l : List Tm) (k : Nat) (h : k < l.length) : errL (l.take (k + 1)) = if errL (l.take k) = 0 then errL [l[k]] else errL (l.take k) := by
  rw [List.take_succ_eq_append_getElem h, errL_append]

theorem errL_of_take {l : List Tm} {k : Nat} (h : errL (l.take k) ≠ 0) : errL l = errL (l.take k) := by
  have := errL_append (l.take k) (l.drop k)
  rw [List.take_append_drop, if_neg h] at this
  exact this

theorem name_pos {s : ByteArray} (h : nameB s = true) : 0 < s.size := by
  simp [nameB] at h; omega

set_option maxHeartbeats 400000 in
theorem checkKnots_any (t : Tm) : ∀ (v : Value) (w : World) (X : Nat → Prop), TV w X v t →
    Calls Try.prog 52 #[v] w fun e w' => e = .returned (.int .i64 (errL [t])) ∧ Below w.heap.size w w' := by
  induction t using Tm.ind with
  | h s l ih =>
    intro v w X hv
    obtain ⟨a, c, rfl, hs⟩ := hv
    have IH := hide ih
    clear ih
    have hl := hs.1
    cases hn : nameB s with
    | false =>
      have hz : Hid (1 = errL [(⟨s, l⟩ : Tm)]) := by simp [Hid, errL, hn]
      have HN := hide hn
      clear hn
      go_enter Try.func52, Try.ntmps52
      go_wp2_with (go_at_call 49; refine (isName_any _ _).mono ?_; rintro e w' ⟨rfl, rfl⟩; rw [HN.out])
      go_ret
      exact ⟨ret_int hz.out, (Below.refl _ _).alloc (Nat.le_refl _) _⟩
    | true =>
      have HN := hide hn
      have hpos := name_pos hn
      by_cases hvl : varB s = true ∧ 0 < l.length
      · obtain ⟨hv, hlp⟩ := hvl
        have hz : Hid (2 = errL [(⟨s, l⟩ : Tm)]) := by simp [Hid, errL, hn, hv, hlp]
        have HV := hide hv
        clear hn hv
        go_enter Try.func52, Try.ntmps52
        go_wp2_with (first | (go_at_call 49; refine (isName_any _ _).mono ?_; rintro e w' ⟨rfl, rfl⟩; rw [HN.out]) | (go_at_call 50; refine (isVariable_any _ _ hpos).mono ?_; rintro e w' ⟨rfl, rfl⟩; rw [HV.out]))
        go_ret
        exact ⟨ret_int hz.out, (Below.refl _ _).alloc (Nat.le_refl _) _⟩
      · have hz : Hid (errL [(⟨s, l⟩ : Tm)] = errL l) := by
          have : (varB s && decide (0 < l.length)) = false := by
            rw [Bool.eq_false_iff]; intro h; simp at h; exact hvl ⟨h.1, by omega⟩
          simp only [Hid, errL, hn, this]
          by_cases h0 : errL l = 0 <;> simp [h0]
        have hcase : (varB s = true ∧ l.length < 1) ∨ varB s = false := by
          cases hv : varB s with
          | true => exact Or.inl ⟨rfl, by apply Classical.byContradiction; intro h; exact hvl ⟨hv, by omega⟩⟩
          | false => exact Or.inr rfl
        clear hn hvl
        rcases hcase with ⟨hv, hl0⟩ | hv
        · have e0 : l = [] := List.length_eq_zero_iff.1 (by omega)
          subst e0
          have HV := hide hv
          clear hv
          go_enter Try.func52, Try.ntmps52
          go_wp2_with (first | (go_at_call 49; refine (isName_any _ _).mono ?_; rintro e w' ⟨rfl, rfl⟩; rw [HN.out]) | (go_at_call 50; refine (isVariable_any _ _ hpos).mono ?_; rintro e w' ⟨rfl, rfl⟩; rw [HV.out]))
          go_loop [22] (fun i => i = .int .i64 0) (fun i => 0)
          case atStart => rfl
          case round =>
            subst hrel
            have HZ : Hid (0 = errL [(⟨s, []⟩ : Tm)]) := by unfold Hid; rw [hz.out]; simp [errL]
            go_wp2_with fail
            go_ret
            exact ⟨ret_int HZ.out, (Below.refl _ _).alloc (Nat.le_refl _) _⟩
        · have HV := hide hv
          clear hv
          go_enter Try.func52, Try.ntmps52
          go_wp2_with (first | (go_at_call 49; refine (isName_any _ _).mono ?_; rintro e w' ⟨rfl, rfl⟩; rw [HN.out]) | (go_at_call 50; refine (isVariable_any _ _ hpos).mono ?_; rintro e w' ⟨rfl, rfl⟩; rw [HV.out]))
          go_loopw [22] (fun i wr => ∃ k : Nat, k ≤ l.length ∧ i = .int .i64 k ∧ errL (l.take k) = 0 ∧ Below (w.heap.size + 1) (w.alloc (Obj.cells #[Value.string s, Value.slice a l.length c] 27)) wr) (fun i wr => l.length - (intOf i).toNat)
          case atStart => exact ⟨0, Nat.zero_le _, rfl, by simp [errL], Below.refl _ _⟩
          case round =>
            obtain ⟨k, hk, rfl, he, hb⟩ := hrel
            have HE := hide he
            clear he
            have hsz : w.heap.size + 1 ≤ wr.heap.size := by have := hb.size; simpa using this
            by_cases hlt : k < l.length
            · obtain ⟨b, o, a', c', rfl, d0, d1, hx⟩ := hs.get (below_box hb) (fun _ _ h => h) k hlt
              have HT := hide (errL_take l k hlt)
              go_wp2_with fail
              refine (IH.out _ (List.getElem_mem hlt) _ _ X (hx.alloc _)).mono ?_
              rintro e w1 ⟨rfl, hb1⟩
              by_cases hez : errL [l[k]] = 0
              · have HZ := hide hez
                rw [hez]
                clear hez
                go_wp2_with fail
                go_roundw
                case rel => exact ⟨k + 1, by omega, by go_num, by rw [HT.out, HE.out, HZ.out]; rfl, (hb.alloc hsz _).trans (hb1.mono (by simp; omega))⟩
                case measure => simp [intOf]; omega
              · have hez' : (errL [l[k]] == 0) = false := by simpa using hez
                have HZ : Hid (errL [l[k]] = errL [(⟨s, l⟩ : Tm)]) := by
                  have h1 : errL (l.take (k + 1)) = errL [l[k]] := by rw [HT.out, HE.out]; rfl
                  unfold Hid
                  rw [hz.out, errL_of_take (l := l) (k := k + 1) (by rw [h1]; exact hez), h1]
                go_wp2_with fail
                go_ret
                exact ⟨ret_int HZ.out, ((below_box hb).alloc (by omega) _).trans (hb1.mono (by simp; omega))⟩
            · have htk : l.take k = l := List.take_of_length_le (by omega)
              have HZ : Hid (0 = errL [(⟨s, l⟩ : Tm)]) := by unfold Hid; rw [hz.out, ← htk, HE.out]
              go_wp2_with fail
              go_ret
              exact ⟨ret_int HZ.out, below_box hb⟩

/-- What is wrong with a term. -/
def mayE (t : Tm) : Int := if 200 < sizeL [t] then 3 else errL [t]

set_option maxHeartbeats 400000 in
theorem check_any (t : Tm) (v : Value) (w : World) (X : Nat → Prop) (hv : TV w X v t) :
    Calls Try.prog 32 #[v] w fun e w' => e = .returned (.int .i64 (mayE t)) ∧ Below w.heap.size w w' := by
  obtain ⟨a, c, rfl, hs⟩ := hv
  have hv : TV w X (.agg #[.string t.name, .slice a t.args.length c]) t := ⟨a, c, rfl, hs⟩
  go_enter Try.func32, Try.ntmps32
  go_wp2_with fail
  refine (count_any 200 (by omega) (by omega) t _ _ X (hv.alloc _)).mono ?_
  rintro e w1 ⟨rfl, hb1⟩
  have c0 : w1.cell? ⟨w.heap.size, 0, none⟩ = some (.string t.name) := by rw [hb1.cell (p := ⟨_, _, none⟩) (by simp)]; simp
  have c1 : w1.cell? ⟨w.heap.size, 1, none⟩ = some (.slice a t.args.length c) := by rw [hb1.cell (p := ⟨_, _, none⟩) (by simp)]; simp
  have hb2 : Below w.heap.size w w1 := ((Below.refl _ _).alloc (Nat.le_refl _) _).trans (hb1.mono (by simp))
  by_cases h : 200 < sizeL [t]
  · have hm : Hid (3 = mayE t) := by simp [Hid, mayE, h]
    have e : min (sizeL [t] : Int) (200 + 1) = 201 := by omega
    rw [e]
    go_wp2_with fail
    go_ret
    exact ⟨ret_int hm.out, hb2⟩
  · have hm : Hid (errL [t] = mayE t) := by simp [Hid, mayE, h]
    have e : min (sizeL [t] : Int) (200 + 1) = sizeL [t] := by omega
    rw [e]
    go_wp2_with fail
    refine (checkKnots_any t _ _ X (hv.later hb2)).mono ?_
    rintro e w2 ⟨rfl, hb3⟩
    go_wp2_with fail
    go_ret
    exact ⟨ret_int hm.out, hb2.trans (hb3.mono hb2.size)⟩
#print axioms check_any
end Go.Proofs.Ytccbocefgoccdaa

/- Rows of terms that a call makes. -/
namespace Go.Proofs.Ytccbocefgoccdaa
open Go.RowKit
set_option linter.unusedSimpArgs false
set_option linter.unusedVariables false

/-- These cells are these terms. -/
def RowT (w : World) (X : Nat → Prop) : List Tm → List Value → Prop
  | [], xs => xs = []
  | t :: l, xs => ∃ a c r, xs = .string t.name :: .slice a t.args.length c :: r ∧ Sl w X a t.args ∧ RowT w X l r

theorem RowT.len {w : World} {X : Nat → Prop} : ∀ {l : List Tm} {xs : List Value}, RowT w X l xs → xs.length = l.length * 2
  | [], xs, h => by simp [RowT] at h; simp [h]
  | t :: l, xs, h => by
    obtain ⟨a, c, r, rfl, _, h⟩ := h
    simp only [List.length_cons]
    rw [RowT.len h]; omega

theorem RowT.append {w : World} {X : Nat → Prop} : ∀ {l k : List Tm} {xs ys : List Value}, RowT w X l xs → RowT w X k ys → RowT w X (l ++ k) (xs ++ ys)
  | [], k, xs, ys, h, h' => by simp [RowT] at h; subst h; simpa using h'
  | t :: l, k, xs, ys, h, h' => by
    obtain ⟨a, c, r, rfl, hs, h⟩ := h
    exact ⟨a, c, r ++ ys, rfl, hs, RowT.append h h'⟩

theorem RowT.one {w : World} {X : Nat → Prop} : ∀ {l : List Tm} {xs : List Value}, RowT w X l xs → ∀ u ∈ xs, u.oneCell' = true
  | [], xs, h, u, hu => by simp [RowT] at h; subst h; cases hu
  | t :: l, xs, h, u, hu => by
    obtain ⟨a, c, r, rfl, _, h⟩ := h
    rcases List.mem_cons.1 hu with e | hu
    · subst e; rfl
    · rcases List.mem_cons.1 hu with e | hu
      · subst e; rfl
      · exact RowT.one h u hu

theorem RowT.imp {w w' : World} {X Y : Nat → Prop} (hs : ∀ a l, Sl w X a l → Sl w' Y a l) : ∀ {l : List Tm} {xs : List Value}, RowT w X l xs → RowT w' Y l xs
  | [], xs, h => h
  | t :: l, xs, h => by
    obtain ⟨a, c, r, e, h1, h⟩ := h
    exact ⟨a, c, r, e, hs _ _ h1, RowT.imp hs h⟩

theorem RowT.get {w : World} {X : Nat → Prop} : ∀ {l : List Tm} {xs : List Value}, RowT w X l xs → ∀ i (h : i < l.length),
    xs[i * 2]? = some (.string l[i].name) ∧ ∃ a c, xs[i * 2 + 1]? = some (.slice a l[i].args.length c) ∧ Sl w X a l[i].args
  | [], xs, h, i, hi => by simp at hi
  | t :: l, xs, h, i, hi => by
    obtain ⟨a, c, r, rfl, h1, h⟩ := h
    cases i with
    | zero => exact ⟨rfl, a, c, rfl, h1⟩
    | succ i =>
      have := RowT.get h i (by simpa using hi)
      rw [show (i + 1) * 2 = i * 2 + 2 by omega, show i * 2 + 2 + 1 = (i * 2 + 1) + 2 by omega]
      simpa using this

theorem sizeL_len (l : List Tm) : l.length ≤ sizeL l := by
  induction l with
  | nil => simp
  | cons t r ih => obtain ⟨s, k⟩ := t; simp only [List.length_cons, sizeL]; omega

/-- A row out of what lies. -/
theorem rowT_of_lies {w : World} {X : Nat → Prop} : ∀ (l : List Tm) (b o : Nat), Lies w X b o l → ∃ xs, RowT w X l xs ∧ ∀ j u, xs[j]? = some u → w.cell? ⟨b, o + j, none⟩ = some u := by
  intro l
  induction l with
  | nil => intro b o _; exact ⟨[], rfl, by simp⟩
  | cons t r ih =>
    intro b o h
    obtain ⟨s, k⟩ := t
    simp only [Lies] at h
    obtain ⟨hx, h1, ⟨a, c, h2, h3, h4⟩, h5⟩ := h
    obtain ⟨xs, hr, hc⟩ := ih b (o + 2) h5
    refine ⟨.string s :: .slice a k.length c :: xs, ⟨a, c, xs, rfl, ⟨h3, h4⟩, hr⟩, fun j u hj => ?_⟩
    match j, hj with
    | 0, hj => simp at hj; subst hj; exact h1
    | 1, hj => simp at hj; subst hj; exact h2
    | j + 2, hj => rw [show o + (j + 2) = o + 2 + j by omega]; exact hc j u (by simpa using hj)

theorem lies_of_rowT {w w' : World} {X Y : Nat → Prop} (b : Nat) (hb : Y b) : ∀ (l : List Tm) (xs : List Value) (o : Nat), RowT w X l xs → (∀ a k, Sl w X a k → Sl w' Y a k) → (∀ j u, xs[j]? = some u → w'.cell? ⟨b, o + j, none⟩ = some u) → Lies w' Y b o l := by
  intro l
  induction l with
  | nil => intro xs o _ _ _; simp [Lies]
  | cons t r ih =>
    intro xs o h hs hc
    obtain ⟨s, k⟩ := t
    obtain ⟨a, c, r', rfl, h1, h2⟩ := h
    simp only [Lies]
    obtain ⟨h3, h4⟩ := hs _ _ h1
    refine ⟨hb, hc 0 _ rfl, ⟨a, c, hc 1 _ rfl, h3, h4⟩, ih r' (o + 2) h2 hs fun j u hj => ?_⟩
    have := hc (j + 2) u (by simpa using hj)
    rwa [show o + (j + 2) = o + 2 + j by omega] at this

/-- The knots, each ahead of those below it. -/
def preL : List Tm → List Tm
  | [] => []
  | ⟨s, l⟩ :: r => ⟨s, l⟩ :: (preL l ++ preL r)

theorem preL_append (a b : List Tm) : preL (a ++ b) = preL a ++ preL b := by
  induction a with
  | nil => simp [preL]
  | cons t r ih => obtain ⟨s, l⟩ := t; simp [preL, ih]

theorem preL_take (l : List Tm) (k : Nat) (h : k < l.length) : preL (l.take (k + 1)) = preL (l.take k) ++ preL [l[k]] := by
  rw [List.take_succ_eq_append_getElem h, preL_append]

theorem preL_length (l : List Tm) : (preL l).length = sizeL l := by
  induction l using Tm.indL with
  | h0 => simp [preL, sizeL]
  | h s l r ihl ihr => simp [preL, sizeL, ihl, ihr]; omega

/-- Old memory, told by the world that was. -/
theorem Sl.back {w w' : World} {X : Nat → Prop} {a : Option Addr} {l : List Tm} {B : Nat} (h : Sl w' X a l) (hb : Below B w w') (hX : ∀ b, X b → b < B) : Sl w X a l :=
  h.kept fun b hx => (hb.block b (hX b hx)).symm

/-- What a row that is owned says of the slice. -/
theorem owned_val {w : World} {base e size : Nat} {v : Value} {n : Nat} {xs : List Value} (h : w.ownsRow base e size v n xs) (hn : 0 < n) :
    ∃ g cap, v = .slice (some ⟨g, 0, none⟩) n cap ∧ base ≤ g ∧ g < w.heap.size ∧ ∀ j u, xs[j]? = some u → w.cell? ⟨g, j, none⟩ = some u := by
  have h' := h
  obtain ⟨hl, h1⟩ := h
  rcases h1 with ⟨_, h0⟩ | ⟨g, cap, cur, hv, hg, hh, _⟩
  · omega
  · subst hv
    have hlt := (h'.lt g rfl).2
    refine ⟨g, cap, rfl, hg, hlt, fun j u hj => ?_⟩
    have := h'.cells (g := g) rfl j u hj
    by_cases h0 : j = 0
    · subst h0; simpa [Addr.add] using this
    · simpa [Addr.add, h0] using this

/-- An append whose outcome is known. -/
theorem wpList_append_eq {P : Program} {ops : Array Oper} {rest : List Oper} {o : Oper} {a : Act} {Q : Exit → Act → World → Prop} {w w' : World} {v u v' : Value} (hgd : o.guard = none) (s x : Operand) (t t' : TypeId)
    (ho : o.op = .call { callee := .builtin .append, args := #[s, x], argTypes := #[t, t'] }) (hs : a.eval s = v) (hx : a.eval x = u)
    (hr : (Builtin.append_ #[t, t'] o.type #[v, u]).run P w = .ok v' w') (h : wpList P ops Q rest (a.put o.dst v') w') : wpList P ops Q (o :: rest) a w :=
  wpList_plain hgd fun K hK => by
    unfold Oper.wp execOp
    simp only [ho, resolve, invoke, builtin, Sem.run_bind, Sem.run_pure, Result.andThen_ok, List.map_toArray, List.map_cons, List.map_nil, hs, hx, hr]
    exact hK _ _ h

#print axioms lies_of_rowT
end Go.Proofs.Ytccbocefgoccdaa


/- Walks: all knots of a term. -/
namespace Go.Proofs.Ytccbocefgoccdaa
open Go.RowKit
set_option linter.unusedSimpArgs false
set_option linter.unusedVariables false

theorem Try.infoTerm : (Try.prog.info? 27).map (fun i => (i.zero, i.size, i.bytes)) = some (some (.agg #[.string ByteArray.empty, .slice none 0 0]), 2, 40) := by kernel_rfl

theorem ownsRow_base {w : World} {base base' e size : Nat} {v : Value} {n : Nat} {xs : List Value} (h : w.ownsRow base e size v n xs) (hb : base' ≤ base) : w.ownsRow base' e size v n xs := by
  obtain ⟨h0, h1⟩ := h
  refine ⟨h0, ?_⟩
  rcases h1 with h1 | ⟨g, cap, cur, hv, hg, r⟩
  · exact Or.inl h1
  · exact Or.inr ⟨g, cap, cur, hv, Nat.le_trans hb hg, r⟩

end Go.Proofs.Ytccbocefgoccdaa


/- Walks: what the document says of a term. -/
namespace Go.Proofs.Ytccbocefgoccdaa
open Go.RowKit
set_option linter.unusedSimpArgs false
set_option linter.unusedVariables false

def kErr (t : Tm) : Int := if nameB t.name = true then (if (varB t.name && decide (0 < t.args.length)) = true then 2 else 0) else 1
def errP : List Tm → Int
  | [] => 0
  | t :: r => if kErr t = 0 then errP r else kErr t
theorem errP_append (a b : List Tm) : errP (a ++ b) = if errP a = 0 then errP b else errP a := by
  induction a with
  | nil => simp [errP]
  | cons t r ih => simp only [List.cons_append, errP, ih]; by_cases h : kErr t = 0 <;> simp [h]
theorem errL_preL (l : List Tm) : errL l = errP (preL l) := by
  induction l using Tm.indL with
  | h0 => simp [errL, preL, errP]
  | h s l r ihl ihr =>
    simp only [errL, preL, errP, errP_append, ← ihl, ← ihr, kErr]
    by_cases h1 : nameB s = true
    · by_cases h2 : (varB s && decide (0 < l.length)) = true
      · simp only [h1, h2, if_true]; simp
      · simp only [h1, if_true]; rw [if_neg h2, if_neg h2]; simp
    · rw [if_neg h1, if_neg h1]; simp
theorem errP_take (l : List Tm) (k : Nat) (h : k < l.length) : errP (l.take (k + 1)) = if errP (l.take k) = 0 then kErr l[k] else errP (l.take k) := by
  rw [List.take_succ_eq_append_getElem h, errP_append]
  congr 1
  simp only [errP]
  by_cases h : kErr l[k] = 0 <;> simp [h]
theorem errP_of_take {l : List Tm} {k : Nat} (h : errP (l.take k) ≠ 0) : errP l = errP (l.take k) := by
  have := errP_append (l.take k) (l.drop k)
  rw [List.take_append_drop, if_neg h] at this
  exact this
theorem errP_at {l : List Tm} {k : Nat} (h : k < l.length) (h0 : errP (l.take k) = 0) (h1 : kErr l[k] ≠ 0) : errP l = kErr l[k] := by
  have e := errP_take l k h
  rw [if_pos h0] at e
  rw [← e]
  exact errP_of_take (by rw [e]; exact h1)

/-- What is wrong with the first, else with the second. -/
def twoE (t x : Tm) : Int := if mayE t = 0 then mayE x else mayE t

end Go.Proofs.Ytccbocefgoccdaa


/- Walks: what stands at a place. -/
namespace Go.Proofs.Ytccbocefgoccdaa
open Go.RowKit
set_option linter.unusedSimpArgs false
set_option linter.unusedVariables false

/-- What stands at a place. -/
def atT : Tm → List Int → Option Tm
  | t, [] => some t
  | t, i :: r => if h : 0 ≤ i ∧ i.toNat < t.args.length then atT (t.args[i.toNat]'h.2) r else none

/-- A list of numbers in memory. -/
def PV (w : World) (X : Nat → Prop) (v : Value) (zs : List Int) : Prop :=
  ∃ a c, v = .slice a zs.length c ∧ (zs.length ≤ 9223372036854775807 ∧ zs.length ≤ c) ∧ (zs = [] ∨ ∃ b o, a = some ⟨b, o, none⟩ ∧ X b ∧ ∀ i (h : i < zs.length), w.cell? ⟨b, o + i, none⟩ = some (.int .i64 zs[i]))

theorem PV.kept {w w' : World} {X : Nat → Prop} {v : Value} {zs : List Int} (h : PV w X v zs) (hk : ∀ b, X b → w'.heap[b]? = w.heap[b]?) : PV w' X v zs := by
  obtain ⟨a, c, e, hl, h⟩ := h
  refine ⟨a, c, e, hl, ?_⟩
  rcases h with h | ⟨b, o, e, hx, h⟩
  · exact Or.inl h
  · exact Or.inr ⟨b, o, e, hx, fun i hi => by rw [World.cell?_of_block (hk b hx)]; exact h i hi⟩

theorem PV.mono {w : World} {X Y : Nat → Prop} {v : Value} {zs : List Int} (h : PV w X v zs) (hk : ∀ b, X b → b < w.heap.size → Y b) : PV w Y v zs := by
  obtain ⟨a, c, e, hl, h⟩ := h
  refine ⟨a, c, e, hl, ?_⟩
  rcases h with h | ⟨b, o, e, hx, h⟩
  · exact Or.inl h
  · by_cases h0 : zs = []
    · exact Or.inl h0
    · have hp : 0 < zs.length := List.length_pos_iff.2 h0
      exact Or.inr ⟨b, o, e, hk b hx (World.block_lt_of_cell? w _ (h 0 hp)), h⟩

theorem PV.below {w w' : World} {X : Nat → Prop} {v : Value} {zs : List Int} {B : Nat} (h : PV w X v zs) (hb : Below B w w') (hX : ∀ b, X b → b < w.heap.size → b < B) : PV w' X v zs := by
  have h1 : PV w (fun b => X b ∧ b < B) v zs := h.mono fun b hx hs => ⟨hx, hX b hx hs⟩
  have h2 : PV w' (fun b => X b ∧ b < B) v zs := h1.kept fun b hx => hb.block b hx.2
  exact h2.mono fun b hx _ => hx.1

theorem PV.later {w w' : World} {X : Nat → Prop} {v : Value} {zs : List Int} (h : PV w X v zs) (hb : Below w.heap.size w w') : PV w' X v zs := h.below hb (fun _ _ h => h)
theorem PV.alloc {w : World} {X : Nat → Prop} {v : Value} {zs : List Int} (h : PV w X v zs) (o : Obj) : PV (w.alloc o) X v zs := h.later ((Below.refl _ _).alloc (Nat.le_refl _) o)

/-- The empty term's value. -/
def zeroT : Value := .agg #[.string ⟨#[]⟩, .slice none 0 0]

theorem below2 {w : World} (o1 o2 : Obj) : Below w.heap.size w ((w.alloc o1).alloc o2) := ((Below.refl _ _).alloc (Nat.le_refl _) _).alloc (by simp) _

end Go.Proofs.Ytccbocefgoccdaa


/- Walks: what stands at a place, as the document says. -/
namespace Go.Proofs.Ytccbocefgoccdaa
open Go.RowKit
set_option linter.unusedSimpArgs false
set_option linter.unusedVariables false

theorem isome_none {α : Type} {o : Option α} (h : o = none) : o.isSome = false := by rw [h]; rfl
theorem isome_some {α : Type} {o : Option α} {x : α} (h : o = some x) : o.isSome = true := by rw [h]; rfl

theorem PV.tail {w : World} {X : Nat → Prop} {b o c : Nat} {z : Int} {zs : List Int} (hl : zs.length + 1 ≤ 9223372036854775807 ∧ zs.length + 1 ≤ c) (hx : X b) (h : ∀ i (h : i < (z :: zs).length), w.cell? ⟨b, o + i, none⟩ = some (.int .i64 (z :: zs)[i])) :
    PV w X (.slice (some ⟨b, o + 1, none⟩) zs.length (c - 1)) zs := by
  refine ⟨_, _, rfl, by omega, Or.inr ⟨b, o + 1, rfl, hx, fun i hi => ?_⟩⟩
  have := h (i + 1) (by simpa using hi)
  rw [show o + 1 + i = o + (i + 1) by omega]
  simpa using this

theorem TV.back {w w' : World} {X : Nat → Prop} {v : Value} {t : Tm} {B : Nat} (h : TV w' X v t) (hb : Below B w w') (hX : ∀ b, X b → b < B) : TV w X v t := by
  obtain ⟨a, c, e, h⟩ := h
  exact ⟨a, c, e, h.back hb hX⟩

theorem tvform {w : World} {X : Nat → Prop} {v' : Value} {o : Option Tm} (h1 : ∀ x, o = some x → TV w X v' x) (h2 : o = none → v' = zeroT) : ∃ s a n c, v' = .agg #[.string s, .slice a n c] := by
  cases o with
  | none => exact ⟨_, _, _, _, h2 rfl⟩
  | some x => obtain ⟨a, c, e, _⟩ := h1 x rfl; exact ⟨_, _, _, _, e⟩

theorem below_tv {w w' : World} {X : Nat → Prop} {v : Value} {t : Tm} (hb : Below w.heap.size w w') (h : TV w X v t) : TV w' X v t := h.later hb

theorem res_cell0 {w w1 : World} {o1 : Obj} {x0 x1 : Value} {T n : Nat} (hb : Below (((w.alloc o1).alloc (.cells #[x0, x1] T)).drewN n).heap.size (((w.alloc o1).alloc (.cells #[x0, x1] T)).drewN n) w1) : w1.cell? ⟨w.heap.size + 1, 0, none⟩ = some x0 := by rw [hb.cell (p := ⟨_, _, none⟩) (by simp)]; simp
theorem res_cell1 {w w1 : World} {o1 : Obj} {x0 x1 : Value} {T n : Nat} (hb : Below (((w.alloc o1).alloc (.cells #[x0, x1] T)).drewN n).heap.size (((w.alloc o1).alloc (.cells #[x0, x1] T)).drewN n) w1) : w1.cell? ⟨w.heap.size + 1, 1, none⟩ = some x1 := by rw [hb.cell (p := ⟨_, _, none⟩) (by simp)]; simp
theorem res_frozen {w w1 : World} {o1 : Obj} {x0 x1 : Value} {T n : Nat} (hb : Below (((w.alloc o1).alloc (.cells #[x0, x1] T)).drewN n).heap.size (((w.alloc o1).alloc (.cells #[x0, x1] T)).drewN n) w1) : ∀ i, w1.frozen? ⟨w.heap.size + 1, i, none⟩ = false := by intro i; rw [hb.frozen (p := ⟨_, _, none⟩) (by simp)]; simp

theorem res_box1 {w w1 : World} {y0 y1 : Value} {o2 : Obj} {T n : Nat} (hb : Below (((w.alloc (.cells #[y0, y1] T)).alloc o2).drewN n).heap.size (((w.alloc (.cells #[y0, y1] T)).alloc o2).drewN n) w1) : w1.cell? ⟨w.heap.size, 1, none⟩ = some y1 := by rw [hb.cell (p := ⟨_, _, none⟩) (by simp; omega)]; simp
theorem res_old {w w1 : World} {o1 o2 : Obj} {n : Nat} {p : Addr} {v : Value} (hb : Below (((w.alloc o1).alloc o2).drewN n).heap.size (((w.alloc o1).alloc o2).drewN n) w1) (h : w.cell? p = some v) : w1.cell? p = some v :=
  cell_later ((below_drewN (below2 o1 o2) n).trans (hb.mono (by simp; omega))) h
theorem set2_keep {w : World} {K i j : Nat} {u u' v : Value} {p : Addr} (h : w.cell? p = some v) (hp : p.block ≠ K) : ((w.setCell ⟨K, i, none⟩ u).setCell ⟨K, j, none⟩ u').cell? p = some v := by
  rw [World.cell?_of_block (Below.heap_setCell _ _ _ _ (by simpa using hp)), World.cell?_of_block (Below.heap_setCell _ _ _ _ (by simpa using hp)), h]
theorem held4 {w : World} {K i j : Nat} {u u' v1 v2 v3 v4 : Value} {p1 p2 p3 p4 : Addr} (h : w.cell? p1 = some v1 ∧ w.cell? p2 = some v2 ∧ w.cell? p3 = some v3 ∧ w.cell? p4 = some v4) (h1 : p1.block ≠ K) (h2 : p2.block ≠ K) (h3 : p3.block ≠ K) (h4 : p4.block ≠ K) :
    ((w.setCell ⟨K, i, none⟩ u).setCell ⟨K, j, none⟩ u').cell? p1 = some v1 ∧ ((w.setCell ⟨K, i, none⟩ u).setCell ⟨K, j, none⟩ u').cell? p2 = some v2 ∧ ((w.setCell ⟨K, i, none⟩ u).setCell ⟨K, j, none⟩ u').cell? p3 = some v3 ∧ ((w.setCell ⟨K, i, none⟩ u).setCell ⟨K, j, none⟩ u').cell? p4 = some v4 :=
  ⟨set2_keep h.1 h1, set2_keep h.2.1 h2, set2_keep h.2.2.1 h3, set2_keep h.2.2.2 h4⟩

end Go.Proofs.Ytccbocefgoccdaa


/- Walks: two terms that are the same. -/
namespace Go.Proofs.Ytccbocefgoccdaa
open Go.RowKit
set_option linter.unusedSimpArgs false
set_option linter.unusedVariables false

theorem same_cells {w w1 : World} {n : Nat} {p1 p2 p3 p4 p5 p6 : Addr} {v1 v2 v3 v4 v5 v6 : Value} (hb : Below (w.drewN n).heap.size (w.drewN n) w1)
    (h : w.cell? p1 = some v1 ∧ w.cell? p2 = some v2 ∧ w.cell? p3 = some v3 ∧ w.cell? p4 = some v4 ∧ w.cell? p5 = some v5 ∧ w.cell? p6 = some v6) :
    w1.cell? p1 = some v1 ∧ w1.cell? p2 = some v2 ∧ w1.cell? p3 = some v3 ∧ w1.cell? p4 = some v4 ∧ w1.cell? p5 = some v5 ∧ w1.cell? p6 = some v6 := by
  have hb' : Below w.heap.size w w1 := (below_drewN (Below.refl _ _) n).trans (hb.mono (by simp))
  exact ⟨cell_later hb' h.1, cell_later hb' h.2.1, cell_later hb' h.2.2.1, cell_later hb' h.2.2.2.1, cell_later hb' h.2.2.2.2.1, cell_later hb' h.2.2.2.2.2⟩

end Go.Proofs.Ytccbocefgoccdaa

/- Bindings in memory. -/
namespace Go.Proofs.Ytccbocefgoccdaa
open Go.RowKit
set_option linter.unusedSimpArgs false
set_option linter.unusedVariables false

/-- A variable and what stands for it. -/
structure Bd where
  nm : ByteArray
  t : Tm

/-- A list of bindings in memory. -/
def BV (w : World) (X : Nat → Prop) (v : Value) (l : List Bd) : Prop :=
  ∃ a c, v = .slice a l.length c ∧ (l.length ≤ 9223372036854775807 ∧ l.length ≤ c) ∧ (l = [] ∨ ∃ b o, a = some ⟨b, o, none⟩ ∧ X b ∧ ∀ i (h : i < l.length), w.cell? ⟨b, o + i * 3, none⟩ = some (.string l[i].nm) ∧ w.cell? ⟨b, o + i * 3 + 1, none⟩ = some (.string l[i].t.name) ∧ ∃ a' c', w.cell? ⟨b, o + i * 3 + 2, none⟩ = some (.slice a' l[i].t.args.length c') ∧ Sl w X a' l[i].t.args)

theorem BV.kept {w w' : World} {X : Nat → Prop} {v : Value} {l : List Bd} (h : BV w X v l) (hk : ∀ b, X b → w'.heap[b]? = w.heap[b]?) : BV w' X v l := by
  obtain ⟨a, c, e, hl, h⟩ := h
  refine ⟨a, c, e, hl, ?_⟩
  rcases h with h | ⟨b, o, ea, hX, h⟩
  · exact Or.inl h
  · refine Or.inr ⟨b, o, ea, hX, fun i hi => ?_⟩
    obtain ⟨h1, h2, a', c', h3, h4⟩ := h i hi
    have hb := hk b hX
    exact ⟨by simpa [World.cell?, hb] using h1, by simpa [World.cell?, hb] using h2, a', c', by simpa [World.cell?, hb] using h3, h4.kept hk⟩
theorem cell_lt {w : World} {b o : Nat} {v : Value} (h : w.cell? ⟨b, o, none⟩ = some v) : b < w.heap.size := by
  rcases Nat.lt_or_ge b w.heap.size with h' | h'
  · exact h'
  · simp [World.cell?, Array.getElem?_eq_none h'] at h
theorem BV.mono {w : World} {X Y : Nat → Prop} {v : Value} {l : List Bd} (h : BV w X v l) (hk : ∀ b, X b → b < w.heap.size → Y b) : BV w Y v l := by
  obtain ⟨a, c, e, hl, h⟩ := h
  refine ⟨a, c, e, hl, ?_⟩
  rcases h with h | ⟨b, o, ea, hX, h⟩
  · exact Or.inl h
  · by_cases h0 : l = []
    · exact Or.inl h0
    · have hp : 0 < l.length := List.length_pos_iff.2 h0
      refine Or.inr ⟨b, o, ea, hk b hX (cell_lt (h 0 hp).1), fun i hi => ?_⟩
      obtain ⟨h1, h2, a', c', h3, h4⟩ := h i hi
      exact ⟨h1, h2, a', c', h3, h4.mono hk⟩
theorem BV.later {w w' : World} {X : Nat → Prop} {v : Value} {l : List Bd} (h : BV w X v l) (hb : Below w.heap.size w w') : BV w' X v l :=
  ((h.mono (Y := fun b => X b ∧ b < w.heap.size) fun b h1 h2 => ⟨h1, h2⟩).kept fun b hx => hb.block b hx.2).mono fun b hx _ => hx.1
theorem BV.alloc {w : World} {X : Nat → Prop} {v : Value} {l : List Bd} (h : BV w X v l) (o : Obj) : BV (w.alloc o) X v l := h.later ((Below.refl _ _).alloc (Nat.le_refl _) o)
theorem BV.get {w : World} {X : Nat → Prop} {a : Option Addr} {n c : Nat} {l : List Bd} (h : BV w X (.slice a n c) l) (i : Nat) (hi : i < l.length) :
    ∃ b o a' c', a = some ⟨b, o, none⟩ ∧ w.cell? ⟨b, o + i * 3, none⟩ = some (.string l[i].nm) ∧ w.cell? ⟨b, o + i * 3 + 1, none⟩ = some (.string l[i].t.name) ∧ w.cell? ⟨b, o + i * 3 + 2, none⟩ = some (.slice a' l[i].t.args.length c') ∧ Sl w X a' l[i].t.args := by
  obtain ⟨a2, c2, e, hl, h⟩ := h
  simp at e
  obtain ⟨rfl, rfl, rfl⟩ := e
  rcases h with h | ⟨b, o, ea, hX, h⟩
  · subst h; simp at hi
  · obtain ⟨h1, h2, a', c', h3, h4⟩ := h i hi
    exact ⟨b, o, a', c', ea, h1, h2, h3, h4⟩

theorem bytes_inj {a b : ByteArray} (h : a.toList = b.toList) : a = b := by
  rw [ByteArray.toList_eq, ByteArray.toList_eq] at h
  cases a with
  | mk x =>
    cases b with
    | mk y => congr 1; exact Array.toList_inj.1 h
theorem bytes_yes {a b : ByteArray} (h : a = b) : (a.toList == b.toList) = true := by rw [h]; simp
theorem bytes_no {a b : ByteArray} (h : a ≠ b) : (a.toList == b.toList) = false := beq_eq_false_iff_ne.2 fun e => h (bytes_inj e)

/-- What stands for a variable. -/
def forT : List Bd → ByteArray → Option Tm
  | [], _ => none
  | d :: r, n => if d.nm = n then some d.t else forT r n
theorem forT_take {l : List Bd} {n : ByteArray} {k : Nat} (hk : k < l.length) (h : forT (l.take k) n = none) : (l[k].nm = n → forT l n = some l[k].t) ∧ (l[k].nm ≠ n → forT (l.take (k + 1)) n = none) := by
  induction l generalizing k with
  | nil => simp at hk
  | cons d r ih =>
    cases k with
    | zero =>
      refine ⟨fun e => ?_, fun e => ?_⟩
      · simp only [List.getElem_cons_zero] at e; simp [forT, e]
      · simp only [List.getElem_cons_zero] at e; simp [forT, e]
    | succ k =>
      simp only [List.take_succ_cons, forT] at h
      by_cases hd : d.nm = n
      · rw [if_pos hd] at h; cases h
      · rw [if_neg hd] at h
        obtain ⟨h1, h2⟩ := ih (by simpa using hk) h
        refine ⟨fun e => ?_, fun e => ?_⟩
        · rw [forT, if_neg hd]; exact h1 (by simpa using e)
        · rw [List.take_succ_cons, forT, if_neg hd]; exact h2 (by simpa using e)
end Go.Proofs.Ytccbocefgoccdaa


/- Walks: whether two terms are the same. -/
namespace Go.Proofs.Ytccbocefgoccdaa
open Go.RowKit
set_option linter.unusedSimpArgs false
set_option linter.unusedVariables false
set_option maxRecDepth 8000

def eqL : List Tm → List Tm → Bool
  | [], [] => true
  | ⟨s, a⟩ :: r, t :: ts => ((s.toList == t.name.toList) && ((a.length == t.args.length) && eqL a t.args)) && eqL r ts
  | _, _ => false
/-- Two terms are the same. -/
def sameB (a b : Tm) : Bool := (a.name.toList == b.name.toList) && ((a.args.length == b.args.length) && eqL a.args b.args)
theorem eqL_cons (x t : Tm) (r ts : List Tm) : eqL (x :: r) (t :: ts) = (sameB x t && eqL r ts) := by obtain ⟨s, a⟩ := x; simp only [eqL, sameB]
theorem eqL_append : ∀ (a b c d : List Tm), a.length = b.length → eqL (a ++ c) (b ++ d) = (eqL a b && eqL c d)
  | [], [], c, d, _ => by simp [eqL]
  | [], _ :: _, _, _, h => by simp at h
  | _ :: _, [], _, _, h => by simp at h
  | x :: r, t :: ts, c, d, h => by rw [List.cons_append, List.cons_append, eqL_cons, eqL_cons, eqL_append r ts c d (by simpa using h), Bool.and_assoc]
theorem eqL_take {l m : List Tm} {k : Nat} (h : k < l.length) (h2 : k < m.length) : eqL (l.take (k + 1)) (m.take (k + 1)) = (eqL (l.take k) (m.take k) && sameB l[k] m[k]) := by
  rw [List.take_succ_eq_append_getElem h, List.take_succ_eq_append_getElem h2, eqL_append _ _ _ _ (by simp; omega), eqL_cons]
  simp [eqL]
theorem eqL_no {l m : List Tm} {k : Nat} (h : k < l.length) (hlm : l.length = m.length) (h0 : sameB l[k] (m[k]'(by omega)) = false) : eqL l m = false := by
  have e1 : l = l.take (k + 1) ++ l.drop (k + 1) := (List.take_append_drop _ _).symm
  have e2 : m = m.take (k + 1) ++ m.drop (k + 1) := (List.take_append_drop _ _).symm
  rw [e1, e2, eqL_append _ _ _ _ (by simp; omega), eqL_take h (by omega), h0]
  simp

def SaInv (w : World) (l m : List Tm) (a a2 : Option Addr) (c c2 : Nat) (i : Value) (wr : World) : Prop :=
  ∃ (k : Nat), k ≤ l.length ∧ i = .int .i64 k ∧ eqL (l.take k) (m.take k) = true ∧ Below w.heap.size w wr ∧ wr.cell? ⟨w.heap.size, 1, none⟩ = some (.slice a l.length c) ∧ wr.cell? ⟨w.heap.size + 1, 1, none⟩ = some (.slice a2 l.length c2) ∧ w.heap.size + 2 ≤ wr.heap.size

end Go.Proofs.Ytccbocefgoccdaa

/- Small facts on blocks, and what a round that appends a term does to a row of terms. -/
namespace Go.Proofs.Ytccbocefgoccdaa
open Go.RowKit
set_option linter.unusedSimpArgs false
set_option linter.unusedVariables false

/-- A block of plain cells. -/
def Blk (w : World) (b : Nat) (cs : Array Value) (T : Nat) : Prop := w.heap[b]? = some (.cells cs T (0, 0))

theorem Blk.lt {w : World} {b : Nat} {cs : Array Value} {T : Nat} (h : Blk w b cs T) : b < w.heap.size := by
  apply Classical.byContradiction
  intro hn
  have e : w.heap[b]? = none := Array.getElem?_eq_none (by omega)
  rw [Blk, e] at h; cases h

theorem Blk.cell {w : World} {b : Nat} {cs : Array Value} {T : Nat} (h : Blk w b cs T) (i : Nat) : w.cell? ⟨b, i, none⟩ = cs[i]? := by
  unfold Blk at h; simp [World.cell?, h]

theorem Blk.frozen {w : World} {b : Nat} {cs : Array Value} {T : Nat} (h : Blk w b cs T) (i : Nat) : w.frozen? ⟨b, i, none⟩ = false := by
  unfold Blk at h; simp [World.frozen?, h]

theorem Blk.new (w : World) (cs : Array Value) (T : Nat) : Blk (w.alloc (.cells cs T)) w.heap.size cs T := heap_alloc_new w _

theorem Blk.alloc {w : World} {b : Nat} {cs : Array Value} {T : Nat} (h : Blk w b cs T) (o : Obj) : Blk (w.alloc o) b cs T := by
  unfold Blk at *; rw [Below.heap_alloc w o b (Blk.lt h)]; exact h

theorem Blk.below {w w' : World} {b B : Nat} {cs : Array Value} {T : Nat} (h : Blk w b cs T) (hb : Below B w w') (hB : b < B) : Blk w' b cs T := by
  unfold Blk at *; rw [hb.block b hB]; exact h

theorem Blk.drewN {w : World} {b : Nat} {cs : Array Value} {T : Nat} (h : Blk w b cs T) (n : Nat) : Blk (w.drewN n) b cs T := h

theorem Blk.grown {w w' : World} {b : Nat} {cs : Array Value} {T : Nat} {row : Option Nat} (h : Blk w b cs T) (hg : w.grownBy w' row) (hr : some b ≠ row) : Blk w' b cs T := by
  unfold Blk at *; rw [hg.block b (Blk.lt h) hr]; exact h

theorem Blk.set {w : World} {b : Nat} {cs : Array Value} {T : Nat} (h : Blk w b cs T) (i : Nat) (v : Value) : Blk (w.setCell ⟨b, i, none⟩ v) b (cs.setIfInBounds i v) T := by
  unfold Blk at *
  simp [World.setCell, Array.getElem?_modify, h]

theorem Blk.setOther {w : World} {b b' : Nat} {cs : Array Value} {T : Nat} (h : Blk w b cs T) (i : Nat) (v : Value) (hne : b ≠ b') : Blk (w.setCell ⟨b', i, none⟩ v) b cs T := by
  unfold Blk at *; rw [Below.heap_setCell _ _ _ _ (by simpa using hne)]; exact h

/-- The row so far, apart from what its terms are made of: old memory that Y lets, and new memory. -/
structure Row (w : World) (N : Nat) (T : Nat) (Y : Nat → Prop) (v : Value) (l : List Tm) (xs : List Value) : Prop where
  own : w.ownsRow N T 2 v l.length xs
  row : RowT w (fun b => Y b ∨ (N ≤ b ∧ some b ≠ v.ownBlock)) l xs

theorem Row.start (w : World) (N T : Nat) (Y : Nat → Prop) : Row w N T Y (.slice none 0 0) [] [] := ⟨World.ownsRow_nil w N T 2, rfl⟩

theorem Row.below {w w' : World} {N T : Nat} {Y : Nat → Prop} {v : Value} {l : List Tm} {xs : List Value} (h : Row w N T Y v l xs) (hb : Below w.heap.size w w') : Row w' N T Y v l xs :=
  ⟨h.own.kept (w' := w') (row := none) ⟨hb.os, hb.tape, hb.output, hb.size, fun j hj _ => hb.block j hj⟩ (by rcases Option.eq_none_or_eq_some (Value.ownBlock v) with h | ⟨x, h⟩; exact Or.inl h; exact Or.inr (by rw [h]; simp)),
   h.row.imp fun a l h => h.later hb⟩

theorem Row.ne {w : World} {N T : Nat} {Y : Nat → Prop} {v : Value} {l : List Tm} {xs : List Value} (h : Row w N T Y v l xs) {b : Nat} (hb : b < N) : some b ≠ v.ownBlock := fun e => by
  have := (h.own.lt b e.symm).1; omega

/-- One more: the term's cells have been laid into a block of their own, and appended. -/
theorem Row.push {w w1 w2 w3 : World} {N T : Nat} {Y : Nat → Prop} {v : Value} {l : List Tm} {xs : List Value} (h : Row w N T Y v l xs) (hN : N ≤ w.heap.size) (hY : ∀ b, Y b → b < N) (hb : Below w.heap.size w w1) {s : ByteArray} {a : Option Addr} {n c : Nat} {t : Tm}
    (ht : TV w1 (fun b => Y b ∨ w.heap.size ≤ b) (.agg #[.string s, .slice a n c]) t) (o : Obj) (hw2 : w2 = w1.alloc o) {g cap : Nat}
    (hown : w3.ownsRow N T 2 (.slice (some ⟨g, 0, none⟩) (l.length + 1) cap) (l.length + 1) (xs ++ [.string s, .slice a n c])) (hg : w2.grownBy w3 v.ownBlock) (hg1 : v.ownBlock = some g ∨ g = w2.heap.size) :
    Row w3 N T Y (.slice (some ⟨g, 0, none⟩) (l.length + 1) cap) (l ++ [t]) (xs ++ [.string s, .slice a n c]) := by
  subst hw2
  have hlt := h.own.lt
  refine ⟨by simpa using hown, ?_⟩
  have hsz : w1.heap.size ≤ (w1.alloc o).heap.size := by simp
  have hbs := hb.size
  have hgN : N ≤ g := by
    rcases hg1 with e | e
    · exact (hlt g e).1
    · simp at e; omega
  refine RowT.append (h.row.imp fun a' k' hs => ?_) ?_
  · have h1 : Sl w (fun b => (Y b ∨ (N ≤ b ∧ some b ≠ v.ownBlock)) ∧ b < w.heap.size) a' k' := hs.mono fun b h1 h2 => ⟨h1, h2⟩
    have h2 : Sl w3 (fun b => (Y b ∨ (N ≤ b ∧ some b ≠ v.ownBlock)) ∧ b < w.heap.size) a' k' := h1.kept fun b hx => by
      have hne : some b ≠ v.ownBlock := by
        rcases hx.1 with hy | hy
        · exact h.ne (hY b hy)
        · exact hy.2
      rw [hg.block b (by simp; omega) hne, Below.heap_alloc _ _ _ (by omega), hb.block b hx.2]
    refine h2.mono fun b hx _ => ?_
    rcases hx.1 with hy | hy
    · exact Or.inl hy
    · refine Or.inr ⟨hy.1, fun e => ?_⟩
      simp [Value.ownBlock] at e
      rcases hg1 with e' | e'
      · exact hy.2 (by rw [e', e])
      · simp at e'; omega
  · obtain ⟨a2, c2, e, hs⟩ := ht
    simp at e
    obtain ⟨rfl, rfl, rfl, rfl⟩ := e
    refine ⟨a, c, [], rfl, ?_, rfl⟩
    have h1 : Sl w1 (fun b => (Y b ∨ w.heap.size ≤ b) ∧ b < w1.heap.size) a t.args := hs.mono fun b h1 h2 => ⟨h1, h2⟩
    have h2 : Sl w3 (fun b => (Y b ∨ w.heap.size ≤ b) ∧ b < w1.heap.size) a t.args := h1.kept fun b hx => by
      have hne : some b ≠ v.ownBlock := by
        rcases hx.1 with hy | hy
        · exact h.ne (hY b hy)
        · intro e; have := (hlt b e.symm).2; omega
      rw [hg.block b (by simp; omega) hne, Below.heap_alloc _ _ _ hx.2]
    refine h2.mono fun b hx _ => ?_
    rcases hx.1 with hy | hy
    · exact Or.inl hy
    · refine Or.inr ⟨by omega, fun e => ?_⟩
      simp [Value.ownBlock] at e
      rcases hg1 with e' | e'
      · have := (hlt g e').2; omega
      · simp at e'; omega

/-- A store into a block that is none of the row's. -/
theorem Row.setCell {w : World} {N T : Nat} {Y : Nat → Prop} {v : Value} {l : List Tm} {xs : List Value} (h : Row w N T Y v l xs) {b i : Nat} (hb : b < N) (hY : ¬ Y b) (u : Value) : Row (w.setCell ⟨b, i, none⟩ u) N T Y v l xs :=
  ⟨ownsRow_setCell_below h.own (by simpa using hb) u, h.row.imp fun a k hs => hs.kept fun c hc => Below.heap_setCell _ _ _ _ (by
    simp
    rcases hc with hc | hc
    · intro e; subst e; exact hY hc
    · omega)⟩

theorem Row.sl {w : World} {N T : Nat} {Y : Nat → Prop} {v : Value} {l : List Tm} {xs : List Value} (h : Row w N T Y v l xs) : ∃ a c, v = .slice a l.length c ∧ Sl w (fun b => Y b ∨ N ≤ b) a l := by
  have hml : l.length ≤ 9223372036854775807 := by
    rcases h.own.2 with ⟨_, h0⟩ | ⟨g, cap, cur, _, _, _, h1, h2, _⟩
    · omega
    · unfold maxLen at h2; omega
  by_cases h0 : 0 < l.length
  · obtain ⟨g, cap, rfl, hg, hlt, hc⟩ := owned_val h.own h0
    exact ⟨_, _, rfl, hml, Or.inr ⟨g, 0, rfl, lies_of_rowT g (Or.inr hg) l xs 0 h.row (fun a k hs => hs.mono fun b hb _ => hb.imp id (fun h => h.1)) (fun j u hj => by simpa using hc j u hj)⟩⟩
  · have e : l = [] := List.length_eq_zero_iff.1 (by omega)
    subst e
    rcases h.own.2 with ⟨hv, _⟩ | ⟨g, cap, cur, hv, _⟩
    · exact ⟨none, 0, hv, hml, Or.inl rfl⟩
    · exact ⟨_, _, hv, hml, Or.inl rfl⟩

theorem copy_blk {wr w1 w3 : World} {o1 o2 : Obj} {b T : Nat} {cs : Array Value} {row : Option Nat} (h : Blk wr b cs T) (hb1 : Below (wr.alloc o1).drew.heap.size (wr.alloc o1).drew w1) (hg : (w1.alloc o2).grownBy w3 row) (hr : some b ≠ row) : Blk w3 b cs T :=
  (((((h.alloc o1).drewN 1).below hb1 (by have := h.lt; simp; omega)).alloc o2).grown hg hr)

#print axioms Row.push
#print axioms Row.sl
end Go.Proofs.Ytccbocefgoccdaa


/- Rows of bindings that a call makes. -/
namespace Go.Proofs.Ytccbocefgoccdaa
open Go.RowKit
set_option linter.unusedSimpArgs false
set_option linter.unusedVariables false

/-- A binding, and where those below its term's first knot lie. -/
abbrev Bc := Bd × Option Addr × Nat
instance : Inhabited Bc := ⟨(⟨⟨#[]⟩, ⟨⟨#[]⟩, []⟩⟩, none, 0)⟩
def enc3 (x : Bc) : List Value := [.string x.1.nm, .string x.1.t.name, .slice x.2.1 x.1.t.args.length x.2.2]
def flat3 : List Bc → List Value
  | [] => []
  | x :: r => enc3 x ++ flat3 r
theorem flat3_append (b : List Bc) : ∀ a, flat3 (a ++ b) = flat3 a ++ flat3 b
  | [] => rfl
  | x :: r => by rw [List.cons_append, flat3, flat3, flat3_append b r, List.append_assoc]
theorem flat3_length : ∀ a : List Bc, (flat3 a).length = a.length * 3
  | [] => rfl
  | x :: r => by rw [flat3, List.length_append, flat3_length r]; simp [enc3]; omega
theorem flat3_get : ∀ (a : List Bc) (i : Nat) (h : i < a.length) (j : Nat), j < 3 → (flat3 a)[i * 3 + j]? = (enc3 a[i])[j]?
  | [], i, h, j, hj => by simp at h
  | x :: r, 0, h, j, hj => by
    rw [flat3, List.getElem?_append_left (by simp [enc3]; omega)]; simp
  | x :: r, i + 1, h, j, hj => by
    rw [flat3, List.getElem?_append_right (by simp [enc3]; omega)]
    have e : (i + 1) * 3 + j - (enc3 x).length = i * 3 + j := by simp [enc3]; omega
    rw [e, flat3_get r i (by simpa using h) j hj]
    simp

end Go.Proofs.Ytccbocefgoccdaa

/- Bindings in the order of their names: plain. -/
namespace Go.Proofs.Ytccbocefgoccdaa
open Go.RowKit
set_option linter.unusedSimpArgs false
set_option linter.unusedVariables false

/-- One text is ahead of another one. -/
def ltB (a b : ByteArray) : Bool := Op.bytesLess a.toList b.toList
theorem bl_irrefl : ∀ a : List UInt8, Op.bytesLess a a = false
  | [] => rfl
  | x :: r => by simp [Op.bytesLess, bl_irrefl r]
theorem bl_trans : ∀ a b c : List UInt8, Op.bytesLess a b = true → Op.bytesLess b c = true → Op.bytesLess a c = true
  | _, [], _, h, _ => by simp [Op.bytesLess] at h
  | _, _ :: _, [], _, h => by simp [Op.bytesLess] at h
  | [], _ :: _, _ :: _, _, _ => by simp [Op.bytesLess]
  | x :: a, y :: b, z :: c, h1, h2 => by
    simp only [Op.bytesLess, Bool.or_eq_true, Bool.and_eq_true, decide_eq_true_eq, beq_iff_eq] at h1 h2 ⊢
    rw [UInt8.lt_iff_toNat_lt] at h1 h2 ⊢
    rcases h1 with h1 | ⟨rfl, h1⟩ <;> rcases h2 with h2 | ⟨rfl, h2⟩
    · left; omega
    · left; exact h1
    · left; exact h2
    · right; exact ⟨rfl, bl_trans a b c h1 h2⟩
theorem bl_conn : ∀ a b : List UInt8, Op.bytesLess a b = false → Op.bytesLess b a = false → a = b
  | [], [], _, _ => rfl
  | [], _ :: _, h, _ => by simp [Op.bytesLess] at h
  | _ :: _, [], _, h => by simp [Op.bytesLess] at h
  | x :: a, y :: b, h1, h2 => by
    simp only [Op.bytesLess, Bool.or_eq_false_iff, decide_eq_false_iff_not] at h1 h2
    obtain ⟨h1, h3⟩ := h1
    obtain ⟨h2, h4⟩ := h2
    rw [UInt8.lt_iff_toNat_lt] at h1 h2
    have e : x = y := UInt8.toNat_inj.mp (by omega)
    subst e
    simp only [BEq.rfl, Bool.true_and] at h3 h4
    rw [bl_conn a b h3 h4]
theorem ltB_irrefl (a : ByteArray) : ltB a a = false := bl_irrefl _
theorem ltB_trans {a b c : ByteArray} (h1 : ltB a b = true) (h2 : ltB b c = true) : ltB a c = true := bl_trans _ _ _ h1 h2
theorem ltB_conn {a b : ByteArray} (h1 : ltB a b = false) (h2 : ltB b a = false) : a = b := bytes_inj (bl_conn _ _ h1 h2)
theorem ltB_asymm {a b : ByteArray} (h : ltB a b = true) : ltB b a = false := by
  cases hb : ltB b a with
  | false => rfl
  | true => have := ltB_trans h hb; rw [ltB_irrefl] at this; cases this
theorem ltB_ntrans {a b c : ByteArray} (h1 : ltB a b = false) (h2 : ltB b c = false) : ltB a c = false := by
  cases h : ltB a c with
  | false => rfl
  | true =>
    cases h3 : ltB b a with
    | true => rw [ltB_trans h3 h] at h2; cases h2
    | false =>
      have e := ltB_conn h1 h3
      subst e
      rw [h] at h2; cases h2

/-- No name twice, and each ahead of the next. -/
def SortedB (l : List Bd) : Prop := l.Pairwise fun a b => ltB a.nm b.nm = true
/-- No name twice. -/
def ApartB (l : List Bd) : Prop := l.Pairwise fun a b => a.nm ≠ b.nm
theorem SortedB.apart {l : List Bd} (h : SortedB l) : ApartB l := h.imp fun {a b} h e => by rw [e, ltB_irrefl] at h; cases h
theorem ApartB.perm {l k : List Bd} (h : ApartB l) (hp : k.Perm l) : ApartB k := (hp.pairwise_iff (fun {_ _} hne => Ne.symm hne)).2 h
theorem sortedB_unique {l k : List Bd} (hp : l.Perm k) (h1 : SortedB l) (h2 : SortedB k) : l = k :=
  List.Perm.eq_of_pairwise (le := fun a b : Bd => ltB a.nm b.nm = true) (fun a b _ _ h3 h4 => by rw [ltB_asymm h3] at h4; cases h4) h1 h2 hp
/-- Sorted, if none is behind one that it is ahead of. -/
theorem sortedB_of {l : List Bd} (ha : ApartB l) (h : l.Pairwise fun a b => ltB b.nm a.nm = false) : SortedB l := by
  unfold SortedB ApartB at *
  refine (List.pairwise_and_iff.2 ⟨ha, h⟩).imp fun {a b} ⟨h1, h2⟩ => ?_
  cases h3 : ltB a.nm b.nm with
  | true => rfl
  | false => exact absurd (ltB_conn h3 h2) h1

/-- A binding as the map holds it. -/
def toP (x : Bc) : ByteArray × Value := (x.1.nm, .agg #[.string x.1.t.name, .slice x.2.1 x.1.t.args.length x.2.2])
theorem perm_lift {α β : Type} (f : α → β) {l m : List β} (h : l.Perm m) : ∀ zs : List α, zs.map f = m → ∃ zs' : List α, zs'.Perm zs ∧ zs'.map f = l := by
  induction h with
  | nil => intro zs h; exact ⟨zs, List.Perm.refl _, h⟩
  | cons x h ih =>
    intro zs hz
    match zs, hz with
    | z :: zs, hz =>
      simp only [List.map_cons, List.cons.injEq] at hz
      obtain ⟨zs', h1, h2⟩ := ih zs hz.2
      exact ⟨z :: zs', h1.cons z, by simp [h2, hz.1]⟩
  | swap x y l =>
    intro zs hz
    match zs, hz with
    | a :: b :: zs, hz =>
      simp only [List.map_cons, List.cons.injEq] at hz
      exact ⟨b :: a :: zs, List.Perm.swap a b zs, by simp [hz.1, hz.2.1, hz.2.2]⟩
  | trans h1 h2 ih1 ih2 =>
    intro zs hz
    obtain ⟨zs', h3, h4⟩ := ih2 zs hz
    obtain ⟨zs'', h5, h6⟩ := ih1 zs' h4
    exact ⟨zs'', h5.trans h3, h6⟩
/-- The next of those that are still to come. -/
theorem next_lift {Zr : List Bc} {p : ByteArray × Value} {rem : List (ByteArray × Value)} (h : (Zr.map toP).Perm (p :: rem)) : ∃ x Z', Zr.Perm (x :: Z') ∧ p = toP x ∧ rem = Z'.map toP := by
  obtain ⟨zs, h1, h2⟩ := perm_lift toP h.symm Zr rfl
  match zs, h2 with
  | x :: Z', h2 =>
    simp only [List.map_cons, List.cons.injEq] at h2
    exact ⟨x, Z', h1.symm, h2.1.symm, h2.2.symm⟩
#print axioms sortedB_unique
end Go.Proofs.Ytccbocefgoccdaa

/- Which term is above another one, by paths and by weights: plain. -/
namespace Go.Proofs.Ytccbocefgoccdaa
open Go.RowKit
set_option linter.unusedSimpArgs false
set_option linter.unusedVariables false

/-- Where a name stands in a row, from 1 on; 0: nowhere. -/
def rankN (s : ByteArray) : List ByteArray → Nat
  | [] => 0
  | x :: r => if x = s then 1 else match rankN s r with
    | 0 => 0
    | k + 1 => k + 2
/-- Is a's symbol the greater one? -/
def gtS (row : List ByteArray) (a b : Tm) : Bool :=
  if rankN a.name row ≠ rankN b.name row then decide (rankN b.name row < rankN a.name row)
  else if a.name ≠ b.name then ltB b.name a.name
  else decide (b.args.length < a.args.length)
/-- The first ones that are unlike. -/
def unl : List Tm → List Tm → Option (Tm × Tm)
  | x :: r, y :: q => if sameB x y = true then unl r q else some (x, y)
  | _, _ => none
theorem unl_mem : ∀ {a b : List Tm} {x y : Tm}, unl a b = some (x, y) → x ∈ a ∧ y ∈ b
  | [], _, x, y, h => by simp [unl] at h
  | _ :: _, [], x, y, h => by simp [unl] at h
  | t :: a, u :: b, x, y, h => by
    rw [unl] at h
    split at h
    · obtain ⟨h1, h2⟩ := unl_mem h
      exact ⟨by simp [h1], by simp [h2]⟩
    · cases h
      exact ⟨by simp, by simp⟩
/-- By paths, in so many steps. -/
def pathF (row : List ByteArray) : Nat → Tm → Tm → Bool
  | 0, _, _ => false
  | n + 1, a, b =>
    if varB a.name = true then false
    else if (a.args.any fun x => sameB x b || pathF row n x b) = true then true
    else if varB b.name = true then false
    else if gtS row b a = true then false
    else if (b.args.all fun y => pathF row n a y) = false then false
    else if gtS row a b = true then true
    else match unl a.args b.args with
      | none => false
      | some (x, y) => pathF row n x y
theorem size_arg {t : Tm} {x : Tm} (h : x ∈ t.args) : sizeL [x] < sizeL [t] := by
  obtain ⟨s, l⟩ := t
  have : sizeL [x] ≤ sizeL l := by
    replace h : x ∈ l := h
    induction l with
    | nil => cases h
    | cons a r ih =>
      have hc : sizeL (a :: r) = sizeL [a] + sizeL r := sizeL_append [a] r
      rcases List.mem_cons.1 h with rfl | h
      · omega
      · have := ih h; omega
  have e : sizeL [(⟨s, l⟩ : Tm)] = 1 + sizeL l := by simp [sizeL]
  omega
theorem any_congr {α : Type} {l : List α} {f g : α → Bool} (h : ∀ x ∈ l, f x = g x) : l.any f = l.any g := by
  induction l with
  | nil => rfl
  | cons a r ih => rw [List.any_cons, List.any_cons, h a (by simp), ih fun x hx => h x (by simp [hx])]
theorem all_congr {α : Type} {l : List α} {f g : α → Bool} (h : ∀ x ∈ l, f x = g x) : l.all f = l.all g := by
  induction l with
  | nil => rfl
  | cons a r ih => rw [List.all_cons, List.all_cons, h a (by simp), ih fun x hx => h x (by simp [hx])]
/-- More steps than there are knots make no difference. -/
theorem pathF_steps (row : List ByteArray) : ∀ (n m : Nat) (a b : Tm), sizeL [a] + sizeL [b] ≤ n → sizeL [a] + sizeL [b] ≤ m → pathF row n a b = pathF row m a b
  | 0, m, a, b, h, _ => by
    obtain ⟨s, l⟩ := a
    simp [sizeL] at h
  | n + 1, 0, a, b, _, h => by
    obtain ⟨s, l⟩ := a
    simp [sizeL] at h
  | n + 1, m + 1, a, b, h1, h2 => by
    rw [pathF, pathF]
    have e1 : (a.args.any fun x => sameB x b || pathF row n x b) = a.args.any fun x => sameB x b || pathF row m x b := any_congr fun x hx => by
      have := size_arg hx
      rw [pathF_steps row n m x b (by omega) (by omega)]
    have e2 : (b.args.all fun y => pathF row n a y) = b.args.all fun y => pathF row m a y := all_congr fun y hy => by
      have := size_arg hy
      rw [pathF_steps row n m a y (by omega) (by omega)]
    rw [e1, e2]
    cases hu : unl a.args b.args with
    | none => rfl
    | some p =>
      obtain ⟨x, y⟩ := p
      obtain ⟨m1, m2⟩ := unl_mem hu
      have := size_arg m1
      have := size_arg m2
      show (if _ then _ else _) = _
      simp only []
      rw [pathF_steps row n m x y (by omega) (by omega)]
/-- By paths. -/
def pathB (row : List ByteArray) (a b : Tm) : Bool := pathF row (sizeL [a] + sizeL [b]) a b
theorem pathF_eq {row : List ByteArray} {n : Nat} {a b : Tm} (h : sizeL [a] + sizeL [b] ≤ n) : pathF row n a b = pathB row a b := pathF_steps row _ _ a b h (Nat.le_refl _)
theorem pathB_eq (row : List ByteArray) (a b : Tm) : pathB row a b =
    if varB a.name = true then false
    else if (a.args.any fun x => sameB x b || pathB row x b) = true then true
    else if varB b.name = true then false
    else if gtS row b a = true then false
    else if (b.args.all fun y => pathB row a y) = false then false
    else if gtS row a b = true then true
    else match unl a.args b.args with
      | none => false
      | some (x, y) => pathB row x y := by
  rw [← pathF_eq (n := sizeL [a] + sizeL [b] + 1) (by omega), pathF]
  have e1 : (a.args.any fun x => sameB x b || pathF row (sizeL [a] + sizeL [b]) x b) = a.args.any fun x => sameB x b || pathB row x b := any_congr fun x hx => by
    have := size_arg hx
    rw [pathF_eq (by omega)]
  have e2 : (b.args.all fun y => pathF row (sizeL [a] + sizeL [b]) a y) = b.args.all fun y => pathB row a y := all_congr fun y hy => by
    have := size_arg hy
    rw [pathF_eq (by omega)]
  rw [e1, e2]
  cases hu : unl a.args b.args with
  | none => rfl
  | some p =>
    obtain ⟨x, y⟩ := p
    obtain ⟨m1, m2⟩ := unl_mem hu
    have := size_arg m1
    have := size_arg m2
    simp only []
    rw [pathF_eq (by omega)]
#print axioms pathB_eq
end Go.Proofs.Ytccbocefgoccdaa

/- Which term is above another one by weights: plain. -/
namespace Go.Proofs.Ytccbocefgoccdaa
open Go.RowKit
set_option linter.unusedSimpArgs false
set_option linter.unusedVariables false

/-- How often a name stands. -/
def oftL (v : ByteArray) (l : List Tm) : Nat := ((preL l).filter fun k => decide (k.name = v)).length
/-- Each variable stands in a at least as often as in b. -/
def hasAll (a b : Tm) : Bool := (preL [b]).all fun k => !varB k.name || decide (oftL k.name [b] ≤ oftL k.name [a])
theorem oft_none {v : ByteArray} {l : List Tm} (h : ∀ k ∈ preL l, k.name ≠ v) : oftL v l = 0 := by
  unfold oftL
  rw [List.length_eq_zero_iff, List.filter_eq_nil_iff]
  intro k hk
  simpa using h k hk
/-- So it is for every variable, wherever it stands. -/
theorem hasAll_iff (a b : Tm) : hasAll a b = true ↔ ∀ v, varB v = true → oftL v [b] ≤ oftL v [a] := by
  unfold hasAll
  rw [List.all_eq_true]
  constructor
  · intro h v hv
    by_cases hk : ∃ k ∈ preL [b], k.name = v
    · obtain ⟨k, hk, rfl⟩ := hk
      have := h k hk
      rw [hv] at this
      simpa using this
    · rw [oft_none fun k h1 h2 => hk ⟨k, h1, h2⟩]
      exact Nat.zero_le _
  · intro h k hk
    cases hv : varB k.name with
    | false => rfl
    | true => simpa using h k.name hv
/-- By weights, in so many steps. -/
def weightF (row : List ByteArray) : Nat → Tm → Tm → Bool
  | 0, _, _ => false
  | n + 1, a, b =>
    if hasAll a b = false then false
    else if sizeL [a] ≠ sizeL [b] then decide (sizeL [b] < sizeL [a])
    else if varB a.name = true then false
    else if varB b.name = true then false
    else if gtS row a b = true then true
    else if gtS row b a = true then false
    else match unl a.args b.args with
      | none => false
      | some (x, y) => weightF row n x y
theorem weightF_steps (row : List ByteArray) : ∀ (n m : Nat) (a b : Tm), sizeL [a] ≤ n → sizeL [a] ≤ m → weightF row n a b = weightF row m a b
  | 0, m, a, b, h, _ => by
    obtain ⟨s, l⟩ := a
    simp [sizeL] at h
  | n + 1, 0, a, b, _, h => by
    obtain ⟨s, l⟩ := a
    simp [sizeL] at h
  | n + 1, m + 1, a, b, h1, h2 => by
    rw [weightF, weightF]
    cases hu : unl a.args b.args with
    | none => rfl
    | some p =>
      obtain ⟨x, y⟩ := p
      have := size_arg (unl_mem hu).1
      simp only []
      rw [weightF_steps row n m x y (by omega) (by omega)]
/-- By weights. -/
def weightB (row : List ByteArray) (a b : Tm) : Bool := weightF row (sizeL [a]) a b
theorem weightB_eq (row : List ByteArray) (a b : Tm) : weightB row a b =
    if hasAll a b = false then false
    else if sizeL [a] ≠ sizeL [b] then decide (sizeL [b] < sizeL [a])
    else if varB a.name = true then false
    else if varB b.name = true then false
    else if gtS row a b = true then true
    else if gtS row b a = true then false
    else match unl a.args b.args with
      | none => false
      | some (x, y) => weightB row x y := by
  unfold weightB
  rw [weightF_steps row _ (sizeL [a] + 1) a b (Nat.le_refl _) (by omega), weightF]
  cases hu : unl a.args b.args with
  | none => rfl
  | some p =>
    obtain ⟨x, y⟩ := p
    have := size_arg (unl_mem hu).1
    simp only []
    rw [weightF_steps row _ (sizeL [x]) x y (by omega) (Nat.le_refl _)]
/-- The three ways that two symbols compare: less, the same, greater. -/
theorem gtS_asymm {row : List ByteArray} {a b : Tm} (h : gtS row a b = true) : gtS row b a = false := by
  unfold gtS at *
  by_cases h1 : rankN a.name row = rankN b.name row
  · rw [if_neg (by simpa using h1)] at h
    rw [if_neg (by simpa using h1.symm)]
    by_cases h2 : a.name = b.name
    · rw [if_neg (by simpa using h2)] at h
      rw [if_neg (by simpa using h2.symm)]
      simp at h ⊢
      omega
    · rw [if_pos h2] at h
      rw [if_pos fun e => h2 e.symm]
      exact ltB_asymm h
  · rw [if_pos h1] at h
    rw [if_pos fun e => h1 e.symm]
    simp at h ⊢
    omega
#print axioms weightB_eq
#print axioms hasAll_iff
#print axioms gtS_asymm
end Go.Proofs.Ytccbocefgoccdaa

/- Where those below a knot stand among all knots: plain. -/
namespace Go.Proofs.Ytccbocefgoccdaa
open Go.RowKit
set_option linter.unusedSimpArgs false
set_option linter.unusedVariables false

theorem preL_app : ∀ (a b : List Tm), preL (a ++ b) = preL a ++ preL b
  | [], b => by simp [preL]
  | ⟨s, l⟩ :: r, b => by
    have := preL_app r b
    simp [preL, this]
theorem preL_len0 : ∀ l : List Tm, (preL l).length = sizeL l := by
  intro l
  induction l using Tm.indL with
  | h0 => simp [preL, sizeL]
  | h s a r iha ihr => simp [preL, sizeL, iha, ihr]; omega
theorem head_at (l : List Tm) (j : Nat) (hj : j < l.length) : (preL l)[sizeL (l.take j)]? = some l[j] := by
  have e : l = l.take j ++ l.drop j := (List.take_append_drop j l).symm
  have e2 : l.drop j = l[j] :: l.drop (j + 1) := List.drop_eq_getElem_cons hj
  have h : preL l = preL (l.take j) ++ preL (l[j] :: l.drop (j + 1)) := by
    rw [← e2, ← preL_app, ← e]
  rw [h, List.getElem?_append_right (by rw [preL_len0]; omega), preL_len0, Nat.sub_self]
  obtain ⟨s, k⟩ : Tm := l[j]
  simp [preL]
/-- The j-th below the i-th. -/
theorem kid_at : ∀ (l : List Tm) (i : Nat) (t : Tm), (preL l)[i]? = some t → ∀ j (hj : j < t.args.length), (preL l)[i + 1 + sizeL (t.args.take j)]? = some t.args[j] := by
  intro l
  induction l using Tm.indL with
  | h0 => intro i t h; simp [preL] at h
  | h s a r iha ihr =>
    intro i t h j hj
    have e : preL (⟨s, a⟩ :: r) = ⟨s, a⟩ :: (preL a ++ preL r) := by simp [preL]
    rw [e] at h ⊢
    have hget : ∀ {q : Nat} {x : Tm}, (preL a)[q]? = some x → (preL a ++ preL r)[q]? = some x := fun {q x} hq => by
      have hlt : q < (preL a).length := by
        rcases Nat.lt_or_ge q (preL a).length with h | h
        · exact h
        · rw [List.getElem?_eq_none h] at hq; cases hq
      rw [List.getElem?_append_left hlt]
      exact hq
    cases i with
    | zero =>
      simp only [List.getElem?_cons_zero, Option.some.injEq] at h
      subst h
      rw [show 0 + 1 + sizeL (List.take j a) = sizeL (List.take j a) + 1 by omega, List.getElem?_cons_succ]
      exact hget (head_at a j hj)
    | succ i =>
      rw [List.getElem?_cons_succ] at h
      rw [show i + 1 + 1 + sizeL (t.args.take j) = (i + 1 + sizeL (t.args.take j)) + 1 by omega, List.getElem?_cons_succ]
      by_cases hi : i < (preL a).length
      · rw [List.getElem?_append_left hi] at h
        exact hget (iha i t h j hj)
      · rw [List.getElem?_append_right (by omega)] at h
        have h2 := ihr _ t h j hj
        rw [List.getElem?_append_right (by omega)]
        rw [← h2]
        congr 1
        omega
/-- All below the i-th end where it ends. -/
theorem kid_end : ∀ (l : List Tm) (i : Nat) (t : Tm), (preL l)[i]? = some t → i + sizeL [t] ≤ sizeL l := by
  intro l
  induction l using Tm.indL with
  | h0 => intro i t h; simp [preL] at h
  | h s a r iha ihr =>
    intro i t h
    have e : preL (⟨s, a⟩ :: r) = ⟨s, a⟩ :: (preL a ++ preL r) := by simp [preL]
    have e2 : sizeL (⟨s, a⟩ :: r) = 1 + sizeL a + sizeL r := by simp [sizeL]
    rw [e] at h
    rw [e2]
    have la := preL_len0 a
    cases i with
    | zero =>
      simp only [List.getElem?_cons_zero, Option.some.injEq] at h
      subst h
      have : sizeL [(⟨s, a⟩ : Tm)] = 1 + sizeL a := by simp [sizeL]
      omega
    | succ i =>
      rw [List.getElem?_cons_succ] at h
      by_cases hi : i < (preL a).length
      · rw [List.getElem?_append_left hi] at h
        have := iha i t h
        omega
      · rw [List.getElem?_append_right (by omega)] at h
        have := ihr _ t h
        omega
#print axioms kid_at
#print axioms kid_end
end Go.Proofs.Ytccbocefgoccdaa

/- Terms that are told by numbers: plain. -/
namespace Go.Proofs.Ytccbocefgoccdaa
open Go.RowKit
set_option linter.unusedSimpArgs false
set_option linter.unusedVariables false

theorem eqL_all : ∀ l k : List Tm, l.length = k.length → eqL l k = true → l = k := by
  intro l
  induction l using Tm.indL with
  | h0 => intro k h _; cases k with
    | nil => rfl
    | cons _ _ => simp at h
  | h s a r iha ihr =>
    intro k h he
    cases k with
    | nil => simp at h
    | cons u q =>
      obtain ⟨s', b⟩ := u
      rw [eqL_cons] at he
      simp only [Bool.and_eq_true] at he
      obtain ⟨h1, h2⟩ := he
      unfold sameB at h1
      simp only [Bool.and_eq_true, beq_iff_eq] at h1
      obtain ⟨h3, h4, h5⟩ := h1
      rw [ihr q (by simpa using h) h2, iha b h4 h5, bytes_inj h3]
theorem eqL_self : ∀ l : List Tm, eqL l l = true := by
  intro l
  induction l using Tm.indL with
  | h0 => simp [eqL]
  | h s a r iha ihr =>
    rw [eqL_cons, ihr]
    simp [sameB, iha]
theorem sameB_iff {a b : Tm} : sameB a b = true ↔ a = b := by
  constructor
  · intro h
    obtain ⟨s, l⟩ := a
    obtain ⟨s', k⟩ := b
    unfold sameB at h
    simp only [Bool.and_eq_true, beq_iff_eq] at h
    rw [bytes_inj h.1, eqL_all l k h.2.1 h.2.2]
  · rintro rfl
    unfold sameB
    simp [eqL_self]
/-- At which place a term stands; behind all: nowhere. -/
def numT (t : Tm) : List Tm → Nat
  | [] => 0
  | x :: r => if sameB x t = true then 0 else numT t r + 1
theorem numT_le (t : Tm) : ∀ S, numT t S ≤ S.length
  | [] => by simp [numT]
  | x :: r => by
    have := numT_le t r
    rw [numT]
    split
    · omega
    · simp only [List.length_cons]; omega
theorem numT_lt {t : Tm} : ∀ {S : List Tm}, numT t S < S.length ↔ t ∈ S
  | [] => by simp [numT]
  | x :: r => by
    rw [numT, List.mem_cons]
    by_cases h : sameB x t = true
    · rw [if_pos h]
      simp only [List.length_cons]
      exact ⟨fun _ => Or.inl (sameB_iff.1 h).symm, fun _ => by omega⟩
    · rw [if_neg h]
      have ih := numT_lt (t := t) (S := r)
      simp only [List.length_cons]
      constructor
      · intro h1
        exact Or.inr (ih.1 (by omega))
      · rintro (h1 | h1)
        · exact absurd (sameB_iff.2 h1.symm) h
        · have := ih.2 h1; omega
theorem numT_at {t : Tm} : ∀ {S : List Tm}, t ∈ S → S[numT t S]? = some t
  | [], h => by cases h
  | x :: r, h => by
    rw [numT]
    by_cases h1 : sameB x t = true
    · rw [if_pos h1, sameB_iff.1 h1]
      rfl
    · rw [if_neg h1, List.getElem?_cons_succ]
      rcases List.mem_cons.1 h with h2 | h2
      · exact absurd (sameB_iff.2 h2.symm) h1
      · exact numT_at h2
/-- The same number, the same term. -/
theorem numT_inj {S : List Tm} {t u : Tm} (ht : t ∈ S) (hu : u ∈ S) (h : numT t S = numT u S) : t = u := by
  have h1 := numT_at ht
  rw [h, numT_at hu] at h1
  cases h1
  rfl
/-- More behind makes no difference. -/
theorem numT_more {t : Tm} : ∀ {S : List Tm} (R : List Tm), t ∈ S → numT t (S ++ R) = numT t S
  | [], R, h => by cases h
  | x :: r, R, h => by
    rw [List.cons_append, numT, numT]
    by_cases h1 : sameB x t = true
    · rw [if_pos h1, if_pos h1]
    · rw [if_neg h1, if_neg h1]
      rcases List.mem_cons.1 h with h2 | h2
      · exact absurd (sameB_iff.2 h2.symm) h1
      · rw [numT_more R h2]
/-- One more, if it is new. -/
def seeT (S : List Tm) (t : Tm) : List Tm := if numT t S < S.length then S else S ++ [t]
theorem see_mem (S : List Tm) (t : Tm) : t ∈ seeT S t := by
  unfold seeT
  split
  · rename_i h; exact numT_lt.1 h
  · simp
theorem see_grows (S : List Tm) (t : Tm) : ∃ R, seeT S t = S ++ R := by
  unfold seeT
  split
  · exact ⟨[], by simp⟩
  · exact ⟨[t], rfl⟩
theorem see_num (S : List Tm) (t : Tm) : numT t (seeT S t) = numT t S := by
  unfold seeT
  split
  · rfl
  · rename_i h
    have key : ∀ S : List Tm, t ∉ S → numT t (S ++ [t]) = S.length ∧ numT t S = S.length := by
      intro S
      induction S with
      | nil => intro _; simp [numT, sameB_iff.2 (rfl : t = t)]
      | cons x r ih =>
        intro hn
        have h1 : ¬ sameB x t = true := fun e => hn (by rw [sameB_iff.1 e]; simp)
        obtain ⟨i1, i2⟩ := ih fun h => hn (by simp [h])
        rw [List.cons_append, numT, numT, if_neg h1, if_neg h1, i1, i2]
        simp
    have := key S fun hm => h (numT_lt.2 hm)
    omega
/-- All of a list, one behind the other. -/
def seeL (S : List Tm) (l : List Tm) : List Tm := l.foldl seeT S
theorem seeL_grows : ∀ (l S : List Tm), ∃ R, seeL S l = S ++ R
  | [], S => ⟨[], by simp [seeL]⟩
  | t :: l, S => by
    obtain ⟨R1, h1⟩ := see_grows S t
    obtain ⟨R2, h2⟩ := seeL_grows l (seeT S t)
    exact ⟨R1 ++ R2, by rw [seeL, List.foldl_cons, ← seeL, h2, h1, List.append_assoc]⟩
theorem seeL_mem : ∀ (l S : List Tm) {t : Tm}, t ∈ l → t ∈ seeL S l
  | u :: l, S, t, h => by
    rw [seeL, List.foldl_cons, ← seeL]
    rcases List.mem_cons.1 h with rfl | h
    · obtain ⟨R, e⟩ := seeL_grows l (seeT S t)
      rw [e]
      exact List.mem_append_left _ (see_mem S t)
    · exact seeL_mem l _ h
#print axioms numT_inj
#print axioms seeL_mem
end Go.Proofs.Ytccbocefgoccdaa

/- The order by paths is a strict order, with all below below, kept by bindings and by what is around, and total without variables: plain. -/
namespace Go.Proofs.Ytccbocefgoccdaa
open Go.RowKit
set_option linter.unusedSimpArgs false
set_option linter.unusedVariables false

/-- What it is to be above. -/
theorem path_iff (row : List ByteArray) (a b : Tm) : pathB row a b = true ↔ varB a.name = false ∧ ((∃ x ∈ a.args, x = b ∨ pathB row x b = true) ∨
    (varB b.name = false ∧ gtS row b a = false ∧ (∀ y ∈ b.args, pathB row a y = true) ∧ (gtS row a b = true ∨ ∃ x y, unl a.args b.args = some (x, y) ∧ pathB row x y = true))) := by
  have h1 : ((a.args.any fun x => sameB x b || pathB row x b) = true) ↔ ∃ x ∈ a.args, x = b ∨ pathB row x b = true := by
    rw [List.any_eq_true]
    constructor
    · rintro ⟨x, hx, h⟩
      rw [Bool.or_eq_true, sameB_iff] at h
      exact ⟨x, hx, h⟩
    · rintro ⟨x, hx, h⟩
      exact ⟨x, hx, by rw [Bool.or_eq_true, sameB_iff]; exact h⟩
  have h2 : ((b.args.all fun y => pathB row a y) = true) ↔ ∀ y ∈ b.args, pathB row a y = true := by rw [List.all_eq_true]
  rw [pathB_eq]
  by_cases va : varB a.name = true
  · simp [va]
  · rw [if_neg va]
    have va' : varB a.name = false := by simpa using va
    by_cases hs : (a.args.any fun x => sameB x b || pathB row x b) = true
    · rw [if_pos hs]
      exact ⟨fun _ => ⟨va', Or.inl (h1.1 hs)⟩, fun _ => rfl⟩
    · rw [if_neg hs]
      have hs' : ¬ ∃ x ∈ a.args, x = b ∨ pathB row x b = true := fun h => hs (h1.2 h)
      by_cases vb : varB b.name = true
      · rw [if_pos vb]
        constructor
        · intro h; cases h
        · rintro ⟨_, h | h⟩
          · exact absurd h hs'
          · rw [vb] at h; cases h.1
      · rw [if_neg vb]
        have vb' : varB b.name = false := by simpa using vb
        by_cases gb : gtS row b a = true
        · rw [if_pos gb]
          constructor
          · intro h; cases h
          · rintro ⟨_, h | h⟩
            · exact absurd h hs'
            · rw [gb] at h; cases h.2.1
        · rw [if_neg gb]
          have gb' : gtS row b a = false := by simpa using gb
          by_cases hal : (b.args.all fun y => pathB row a y) = false
          · rw [if_pos hal]
            constructor
            · intro h; cases h
            · rintro ⟨_, h | h⟩
              · exact absurd h hs'
              · rw [h2.2 h.2.2.1] at hal; cases hal
          · rw [if_neg hal]
            have hal' : ∀ y ∈ b.args, pathB row a y = true := h2.1 (by simpa using hal)
            by_cases ga : gtS row a b = true
            · rw [if_pos ga]
              exact ⟨fun _ => ⟨va', Or.inr ⟨vb', gb', hal', Or.inl ga⟩⟩, fun _ => rfl⟩
            · rw [if_neg ga]
              cases hu : unl a.args b.args with
              | none =>
                constructor
                · intro h; cases h
                · rintro ⟨_, h | ⟨_, _, _, h | ⟨x, y, h, _⟩⟩⟩
                  · exact absurd h hs'
                  · exact absurd h ga
                  · cases h
              | some p =>
                obtain ⟨x, y⟩ := p
                constructor
                · intro h
                  exact ⟨va', Or.inr ⟨vb', gb', hal', Or.inr ⟨x, y, rfl, h⟩⟩⟩
                · rintro ⟨_, h | ⟨_, _, _, h | ⟨x', y', h, h'⟩⟩⟩
                  · exact absurd h hs'
                  · exact absurd h ga
                  · cases h; exact h'

theorem path_sub {row : List ByteArray} {a x : Tm} (ha : varB a.name = false) (hx : x ∈ a.args) : pathB row a x = true := (path_iff row a x).2 ⟨ha, Or.inl ⟨x, hx, Or.inl rfl⟩⟩

/-- How two symbols compare, by three numbers. -/
theorem gtS_iff {row : List ByteArray} {a b : Tm} : gtS row a b = true ↔ rankN b.name row < rankN a.name row ∨ (rankN b.name row = rankN a.name row ∧ (ltB b.name a.name = true ∨ (b.name = a.name ∧ b.args.length < a.args.length))) := by
  unfold gtS
  by_cases h1 : rankN a.name row = rankN b.name row
  · rw [if_neg (by simpa using h1)]
    by_cases h2 : a.name = b.name
    · rw [if_neg (by simpa using h2)]
      have h3 : ltB b.name a.name = false := by rw [h2]; exact ltB_irrefl _
      simp [h1, h2, h3, ltB_irrefl]
    · rw [if_pos h2]
      have h3 : b.name ≠ a.name := fun e => h2 e.symm
      simp [h1, h3]
  · rw [if_pos h1]
    have h3 : rankN b.name row ≠ rankN a.name row := fun e => h1 e.symm
    simp [h3]
theorem gtS_irrefl {row : List ByteArray} {a b : Tm} (hn : a.name = b.name) (hl : a.args.length = b.args.length) : gtS row a b = false := by
  cases h : gtS row a b with
  | false => rfl
  | true =>
    rw [gtS_iff, hn, hl] at h
    rcases h with h | ⟨_, h | ⟨_, h⟩⟩
    · omega
    · rw [ltB_irrefl] at h; cases h
    · omega
theorem gtS_trans {row : List ByteArray} {a b c : Tm} (h1 : gtS row a b = true) (h2 : gtS row b c = true) : gtS row a c = true := by
  rw [gtS_iff] at *
  rcases h1 with h1 | ⟨h1, h1'⟩
  · rcases h2 with h2 | ⟨h2, _⟩
    · exact Or.inl (by omega)
    · exact Or.inl (by omega)
  · rcases h2 with h2 | ⟨h2, h2'⟩
    · exact Or.inl (by omega)
    · refine Or.inr ⟨by omega, ?_⟩
      rcases h1' with h1' | ⟨e1, l1⟩
      · rcases h2' with h2' | ⟨e2, l2⟩
        · exact Or.inl (ltB_trans h2' h1')
        · rw [e2]; exact Or.inl h1'
      · rcases h2' with h2' | ⟨e2, l2⟩
        · rw [← e1]; exact Or.inl h2'
        · exact Or.inr ⟨e2.trans e1, by omega⟩

theorem ltB_total {a b : ByteArray} (h : a ≠ b) : ltB a b = true ∨ ltB b a = true := by
  cases h1 : ltB a b with
  | true => exact Or.inl rfl
  | false =>
    cases h2 : ltB b a with
    | true => exact Or.inr rfl
    | false => exact absurd (ltB_conn h1 h2) h
theorem gtS_same {row : List ByteArray} {a b : Tm} (h1 : gtS row a b = false) (h2 : gtS row b a = false) : a.name = b.name ∧ a.args.length = b.args.length := by
  have n1 : ¬ gtS row a b = true := by rw [h1]; simp
  have n2 : ¬ gtS row b a = true := by rw [h2]; simp
  rw [gtS_iff] at n1 n2
  have hr : rankN b.name row = rankN a.name row := by
    rcases Nat.lt_trichotomy (rankN b.name row) (rankN a.name row) with h | h | h
    · exact absurd (Or.inl h) n1
    · exact h
    · exact absurd (Or.inl h) n2
  have hn : a.name = b.name := by
    apply Classical.byContradiction
    intro hne
    rcases ltB_total hne with h | h
    · exact n2 (Or.inr ⟨hr.symm, Or.inl h⟩)
    · exact n1 (Or.inr ⟨hr, Or.inl h⟩)
  refine ⟨hn, ?_⟩
  rcases Nat.lt_trichotomy a.args.length b.args.length with h | h | h
  · exact absurd (Or.inr ⟨hr.symm, Or.inr ⟨hn, h⟩⟩) n2
  · exact h
  · exact absurd (Or.inr ⟨hr, Or.inr ⟨hn.symm, h⟩⟩) n1
/-- At most the same, and greater: greater; but for one symbol. -/
theorem gtS_cases {row : List ByteArray} {a b : Tm} (h : gtS row b a = false) : gtS row a b = true ∨ (a.name = b.name ∧ a.args.length = b.args.length) := by
  cases h1 : gtS row a b with
  | true => exact Or.inl rfl
  | false => exact Or.inr (gtS_same h1 h)
theorem gtS_congr {row : List ByteArray} {a b a' b' : Tm} (h1 : a.name = a'.name) (h2 : a.args.length = a'.args.length) (h3 : b.name = b'.name) (h4 : b.args.length = b'.args.length) : gtS row a b = gtS row a' b' := by
  unfold gtS
  rw [h1, h2, h3, h4]

theorem unl_self : ∀ l : List Tm, unl l l = none
  | [] => rfl
  | t :: l => by rw [unl, if_pos (sameB_iff.2 rfl), unl_self l]
theorem unl_ne : ∀ {a b : List Tm} {x y : Tm}, unl a b = some (x, y) → x ≠ y
  | [], _, x, y, h => by simp [unl] at h
  | _ :: _, [], x, y, h => by simp [unl] at h
  | t :: a, u :: b, x, y, h => by
    rw [unl] at h
    split at h
    · exact unl_ne h
    · rename_i hs
      cases h
      exact fun e => hs (sameB_iff.2 e)
theorem unl_none : ∀ {a b : List Tm}, a.length = b.length → unl a b = none → a = b
  | [], [], _, _ => rfl
  | [], _ :: _, h, _ => by simp at h
  | _ :: _, [], h, _ => by simp at h
  | t :: a, u :: b, h, hu => by
    rw [unl] at hu
    split at hu
    · rename_i hs
      rw [sameB_iff.1 hs, unl_none (by simpa using h) hu]
    · cases hu
theorem unl_swap : ∀ {a b : List Tm} {x y : Tm}, unl a b = some (x, y) → unl b a = some (y, x)
  | [], _, x, y, h => by simp [unl] at h
  | _ :: _, [], x, y, h => by simp [unl] at h
  | t :: a, u :: b, x, y, h => by
    rw [unl] at h
    by_cases e : sameB t u = true
    · rw [if_pos e] at h
      rw [unl, if_pos (sameB_iff.2 (sameB_iff.1 e).symm)]
      exact unl_swap h
    · rw [if_neg e] at h
      cases h
      rw [unl, if_neg fun e' => e (sameB_iff.2 (sameB_iff.1 e').symm)]
/-- Two lists that are first unlike somewhere, and two more: what the outer ones are. -/
theorem unl_two {R : Tm → Tm → Prop} : ∀ {a b c : List Tm} {x y y' z : Tm}, (∀ x ∈ a, ∀ y ∈ b, ∀ z ∈ c, R x y → R y z → R x z ∧ x ≠ z) → a.length = b.length → b.length = c.length → unl a b = some (x, y) → unl b c = some (y', z) → R x y → R y' z → ∃ p q, unl a c = some (p, q) ∧ R p q
  | [], _, _, x, y, y', z, _, _, _, h, _, _, _ => by simp [unl] at h
  | _ :: _, [], _, x, y, y', z, _, _, _, h, _, _, _ => by simp [unl] at h
  | _ :: _, _ :: _, [], x, y, y', z, _, _, _, _, h, _, _ => by simp [unl] at h
  | t :: a, u :: b, v :: c, x, y, y', z, hR, h1, h2, hu, hv, r1, r2 => by
    rw [unl] at hu hv
    by_cases e1 : sameB t u = true
    · rw [if_pos e1] at hu
      rw [sameB_iff] at e1
      subst e1
      by_cases e2 : sameB t v = true
      · rw [if_pos e2] at hv
        rw [unl, if_pos e2]
        exact unl_two (fun x hx y hy z hz => hR x (by simp [hx]) y (by simp [hy]) z (by simp [hz])) (by simpa using h1) (by simpa using h2) hu hv r1 r2
      · rw [if_neg e2] at hv
        cases hv
        rw [unl, if_neg e2]
        exact ⟨_, _, rfl, r2⟩
    · rw [if_neg e1] at hu
      cases hu
      by_cases e2 : sameB u v = true
      · rw [sameB_iff] at e2
        subst e2
        rw [unl, if_neg e1]
        exact ⟨_, _, rfl, r1⟩
      · rw [if_neg e2] at hv
        cases hv
        obtain ⟨h3, h4⟩ := hR _ (by simp) _ (by simp) _ (by simp) r1 r2
        have e3 : ¬ sameB t v = true := fun e => h4 (sameB_iff.1 e)
        rw [unl, if_neg e3]
        exact ⟨_, _, rfl, h3⟩

theorem size_pos (t : Tm) : 0 < sizeL [t] := by
  obtain ⟨s, l⟩ := t
  simp [sizeL]; omega
theorem size_one {s : ByteArray} {l : List Tm} : sizeL [(⟨s, l⟩ : Tm)] = 1 + sizeL l := by simp [sizeL]

/-- The heart: transitive, and none above itself. -/
theorem path_heart (row : List ByteArray) : ∀ n : Nat, (∀ a b c : Tm, sizeL [a] + sizeL [b] + sizeL [c] ≤ n → pathB row a b = true → pathB row b c = true → pathB row a c = true) ∧ (∀ a : Tm, 3 * sizeL [a] ≤ n → pathB row a a = false)
  | 0 => ⟨fun a b c h => by have := size_pos a; omega, fun a h => by have := size_pos a; omega⟩
  | n + 1 => by
    obtain ⟨IT, IR⟩ := path_heart row n
    refine ⟨fun a b c hn hab hbc => ?_, fun a hn => ?_⟩
    · have hab' := (path_iff row a b).1 hab
      have hbc' := (path_iff row b c).1 hbc
      obtain ⟨va, hab'⟩ := hab'
      obtain ⟨vb, hbc'⟩ := hbc'
      rcases hab' with ⟨x, hx, h⟩ | ⟨_, gab, allb, hsym⟩
      · have := size_arg hx
        rcases h with rfl | h
        · exact (path_iff row a c).2 ⟨va, Or.inl ⟨x, hx, Or.inr hbc⟩⟩
        · exact (path_iff row a c).2 ⟨va, Or.inl ⟨x, hx, Or.inr (IT x b c (by omega) h hbc)⟩⟩
      · rcases hbc' with ⟨y, hy, h⟩ | ⟨vc, gbc, allc, hsym'⟩
        · have := size_arg hy
          rcases h with rfl | h
          · exact allb y hy
          · exact IT a y c (by omega) (allb y hy) h
        · have hall : ∀ z ∈ c.args, pathB row a z = true := fun z hz => by
            have := size_arg hz
            exact IT a b z (by omega) hab (allc z hz)
          rcases gtS_cases gab with g1 | ⟨n1, l1⟩
          · have gac : gtS row a c = true := by
              rcases gtS_cases gbc with g2 | ⟨n2, l2⟩
              · exact gtS_trans g1 g2
              · rw [← gtS_congr (a := a) (b := b) rfl rfl n2 l2]; exact g1
            exact (path_iff row a c).2 ⟨va, Or.inr ⟨vc, gtS_asymm gac, hall, Or.inl gac⟩⟩
          · rcases gtS_cases gbc with g2 | ⟨n2, l2⟩
            · have gac : gtS row a c = true := by rw [gtS_congr (a' := b) (b' := c) n1 l1 rfl rfl]; exact g2
              exact (path_iff row a c).2 ⟨va, Or.inr ⟨vc, gtS_asymm gac, hall, Or.inl gac⟩⟩
            · have gca : gtS row c a = false := gtS_irrefl (n2.symm.trans n1.symm) (by omega)
              rcases hsym with h | ⟨x, y, hu, hxy⟩
              · rw [gtS_irrefl n1 l1] at h; cases h
              · rcases hsym' with h | ⟨y', z, hu', hyz⟩
                · rw [gtS_irrefl n2 l2] at h; cases h
                · have key : ∀ x ∈ a.args, ∀ y ∈ b.args, ∀ z ∈ c.args, pathB row x y = true → pathB row y z = true → pathB row x z = true ∧ x ≠ z := by
                    intro x mx y my z mz h1 h2
                    have sx := size_arg mx
                    have sy := size_arg my
                    have sz := size_arg mz
                    have h3 := IT x y z (by omega) h1 h2
                    refine ⟨h3, ?_⟩
                    rintro rfl
                    rcases Nat.le_total (sizeL [x]) (sizeL [y]) with hle | hle
                    · rw [IR x (by omega)] at h3; cases h3
                    · have h4 := IT y x y (by omega) h2 h1
                      rw [IR y (by omega)] at h4; cases h4
                  obtain ⟨p, q, hpq, hR⟩ := unl_two (R := fun u v => pathB row u v = true) key l1 l2 hu hu' hxy hyz
                  exact (path_iff row a c).2 ⟨va, Or.inr ⟨vc, gca, hall, Or.inr ⟨p, q, hpq, hR⟩⟩⟩
    · cases h : pathB row a a with
      | false => rfl
      | true =>
        obtain ⟨va, h⟩ := (path_iff row a a).1 h
        rcases h with ⟨x, hx, h⟩ | ⟨_, _, _, h | ⟨x, y, hu, _⟩⟩
        · have := size_arg hx
          rcases h with rfl | h
          · omega
          · have h1 := IT x a x (by omega) h (path_sub va hx)
            rw [IR x (by omega)] at h1
            exact h1.symm
        · rw [gtS_irrefl rfl rfl] at h; exact h.symm
        · rw [unl_self] at hu; cases hu
theorem path_trans {row : List ByteArray} {a b c : Tm} (h1 : pathB row a b = true) (h2 : pathB row b c = true) : pathB row a c = true := (path_heart row _).1 a b c (Nat.le_refl _) h1 h2
theorem path_irrefl (row : List ByteArray) (a : Tm) : pathB row a a = false := (path_heart row _).2 a (Nat.le_refl _)
theorem path_asymm {row : List ByteArray} {a b : Tm} (h : pathB row a b = true) : pathB row b a = false := by
  cases h1 : pathB row b a with
  | false => rfl
  | true => have := path_trans h h1; rw [path_irrefl] at this; exact this.symm
theorem unl_at : ∀ (p q : List Tm) {a b : Tm}, a ≠ b → unl (p ++ a :: q) (p ++ b :: q) = some (a, b)
  | [], q, a, b, h => by rw [List.nil_append, List.nil_append, unl, if_neg fun e => h (sameB_iff.1 e)]
  | t :: p, q, a, b, h => by rw [List.cons_append, List.cons_append, unl, if_pos (sameB_iff.2 rfl)]; exact unl_at p q h
/-- Kept by what is around. -/
theorem path_ctx {row : List ByteArray} {s : ByteArray} (hs : varB s = false) (p q : List Tm) {a b : Tm} (h : pathB row a b = true) : pathB row ⟨s, p ++ a :: q⟩ ⟨s, p ++ b :: q⟩ = true := by
  have hne : a ≠ b := fun e => by rw [e, path_irrefl] at h; cases h
  refine (path_iff row _ _).2 ⟨hs, Or.inr ⟨hs, gtS_irrefl rfl (by simp), fun y hy => ?_, Or.inr ⟨a, b, unl_at p q hne, h⟩⟩⟩
  have hy' : y ∈ p ++ b :: q := hy
  rw [List.mem_append, List.mem_cons] at hy'
  rcases hy' with hy' | rfl | hy'
  · exact path_sub hs (show y ∈ p ++ a :: q by simp [hy'])
  · exact (path_iff row _ _).2 ⟨hs, Or.inl ⟨a, (show a ∈ p ++ a :: q by simp), Or.inr h⟩⟩
  · exact path_sub hs (show y ∈ p ++ a :: q by simp [hy'])
/-- No variable anywhere. -/
def grd (t : Tm) : Prop := ∀ k ∈ preL [t], varB k.name = false
theorem grd_name {t : Tm} (h : grd t) : varB t.name = false := h t (by obtain ⟨s, l⟩ := t; simp [preL])
theorem pre_arg {t x : Tm} (hx : x ∈ t.args) : ∀ k ∈ preL [x], k ∈ preL [t] := by
  obtain ⟨s, l⟩ := t
  intro k hk
  have e : preL [(⟨s, l⟩ : Tm)] = ⟨s, l⟩ :: (preL l ++ preL []) := by simp [preL]
  obtain ⟨p, q, hpq⟩ := List.append_of_mem (show x ∈ l from hx)
  rw [e, hpq, show p ++ x :: q = p ++ ([x] ++ q) by simp, preL_app, preL_app]
  simp [hk]
theorem grd_arg {t x : Tm} (h : grd t) (hx : x ∈ t.args) : grd x := fun k hk => h k (pre_arg hx k hk)
/-- Of two that are unlike, without variables, one is above the other. -/
theorem path_total (row : List ByteArray) : ∀ (n : Nat) (a b : Tm), sizeL [a] + sizeL [b] ≤ n → grd a → grd b → a = b ∨ pathB row a b = true ∨ pathB row b a = true
  | 0, a, b, h, _, _ => by have := size_pos a; omega
  | n + 1, a, b, h, ga, gb => by
    by_cases h1 : ∃ x ∈ a.args, x = b ∨ pathB row x b = true
    · exact Or.inr (Or.inl ((path_iff row a b).2 ⟨grd_name ga, Or.inl h1⟩))
    by_cases h2 : ∃ y ∈ b.args, y = a ∨ pathB row y a = true
    · exact Or.inr (Or.inr ((path_iff row b a).2 ⟨grd_name gb, Or.inl h2⟩))
    have hb : ∀ x ∈ a.args, pathB row b x = true := fun x hx => by
      have := size_arg hx
      rcases path_total row n x b (by omega) (grd_arg ga hx) gb with e | e | e
      · exact absurd ⟨x, hx, Or.inl e⟩ h1
      · exact absurd ⟨x, hx, Or.inr e⟩ h1
      · exact e
    have ha : ∀ y ∈ b.args, pathB row a y = true := fun y hy => by
      have := size_arg hy
      rcases path_total row n a y (by omega) ga (grd_arg gb hy) with e | e | e
      · exact absurd ⟨y, hy, Or.inl e.symm⟩ h2
      · exact e
      · exact absurd ⟨y, hy, Or.inr e⟩ h2
    cases g1 : gtS row a b with
    | true => exact Or.inr (Or.inl ((path_iff row a b).2 ⟨grd_name ga, Or.inr ⟨grd_name gb, gtS_asymm g1, ha, Or.inl g1⟩⟩))
    | false =>
      cases g2 : gtS row b a with
      | true => exact Or.inr (Or.inr ((path_iff row b a).2 ⟨grd_name gb, Or.inr ⟨grd_name ga, g1, hb, Or.inl g2⟩⟩))
      | false =>
        obtain ⟨hn, hl⟩ := gtS_same g1 g2
        cases hu : unl a.args b.args with
        | none =>
          have := unl_none hl hu
          obtain ⟨s, l⟩ := a
          obtain ⟨s', l'⟩ := b
          simp only at hn this
          exact Or.inl (by rw [hn, this])
        | some p =>
          obtain ⟨x, y⟩ := p
          obtain ⟨mx, my⟩ := unl_mem hu
          have := size_arg mx
          have := size_arg my
          have hne := unl_ne hu
          rcases path_total row n x y (by omega) (grd_arg ga mx) (grd_arg gb my) with e | e | e
          · exact absurd e hne
          · exact Or.inr (Or.inl ((path_iff row a b).2 ⟨grd_name ga, Or.inr ⟨grd_name gb, g2, ha, Or.inr ⟨x, y, hu, e⟩⟩⟩))
          · exact Or.inr (Or.inr ((path_iff row b a).2 ⟨grd_name gb, Or.inr ⟨grd_name ga, g1, hb, Or.inr ⟨y, x, unl_swap hu, e⟩⟩⟩))
#print axioms path_trans
#print axioms path_ctx
#print axioms path_total
end Go.Proofs.Ytccbocefgoccdaa

/- A term with what stands for its variables, as the document says. -/
namespace Go.Proofs.Ytccbocefgoccdaa
set_option linter.unusedSimpArgs false
set_option linter.unusedVariables false

/-- A knot with what stands for it, or above what has been made of those below. -/
def onN (l : List Bd) (s : ByteArray) (es0 bs : List Tm) : Tm :=
  match forT l s with
  | some x => if es0.isEmpty = true then x else ⟨s, bs⟩
  | none => ⟨s, bs⟩
def onL (l : List Bd) : List Tm → List Tm
  | [] => []
  | ⟨s, es0⟩ :: r => onN l s es0 (onL l es0) :: onL l r
def onT (l : List Bd) (t : Tm) : Tm := onN l t.name t.args (onL l t.args)

theorem onL_cons (l : List Bd) (t : Tm) (r : List Tm) : onL l (t :: r) = onT l t :: onL l r := by
  obtain ⟨s, es0⟩ := t
  simp only [onL, onT]
theorem onL_length (l : List Bd) : ∀ es0, (onL l es0).length = es0.length
  | [] => by simp [onL]
  | t :: r => by rw [onL_cons]; simp [onL_length l r]
theorem onL_append (l : List Bd) (b : List Tm) : ∀ a, onL l (a ++ b) = onL l a ++ onL l b
  | [] => by simp [onL]
  | t :: r => by rw [List.cons_append, onL_cons, onL_cons, onL_append l b r]; rfl
theorem onL_take (l : List Bd) (es0 : List Tm) (k : Nat) (h : k < es0.length) : onL l (es0.take (k + 1)) = onL l (es0.take k) ++ [onT l es0[k]] := by
  rw [List.take_succ_eq_append_getElem h, onL_append, onL_cons]
  simp [onL]
theorem onT_some {l : List Bd} {s : ByteArray} {x : Tm} (h : forT l s = some x) : onT l ⟨s, []⟩ = x := by simp [onT, onN, h]
theorem onT_deep {l : List Bd} {s : ByteArray} {es0 : List Tm} (h : es0 ≠ [] ∨ forT l s = none) : onT l ⟨s, es0⟩ = ⟨s, onL l es0⟩ := by
  unfold onT onN
  rcases h with h | h
  · cases forT l s with
    | none => rfl
    | some x => simp [h]
  · rw [h]
theorem onL_size_take (l : List Bd) (es0 : List Tm) (k : Nat) (h : k < es0.length) : sizeL (onL l (es0.take (k + 1))) = sizeL (onL l (es0.take k)) + sizeL [onT l es0[k]] := by rw [onL_take l es0 k h, sizeL_append]
theorem onL_size_le (l : List Bd) (es0 : List Tm) (k : Nat) : sizeL (onL l (es0.take k)) ≤ sizeL (onL l es0) := by
  have := sizeL_append (onL l (es0.take k)) (onL l (es0.drop k))
  rw [← onL_append, List.take_append_drop] at this
  omega
end Go.Proofs.Ytccbocefgoccdaa

/- The order by paths is kept by bindings; the order by weights is a strict order, kept by bindings and by what is around, total without variables: plain. -/
namespace Go.Proofs.Ytccbocefgoccdaa
open Go.RowKit
set_option linter.unusedSimpArgs false
set_option linter.unusedVariables false

theorem onL_map (s : List Bd) : ∀ l : List Tm, onL s l = l.map (onT s)
  | [] => by simp [onL]
  | t :: l => by rw [onL_cons, onL_map s l]; rfl
/-- Just variables are bound. -/
def VarsB (s : List Bd) : Prop := ∀ n x, forT s n = some x → varB n = true
theorem on_sym {s : List Bd} (hs : VarsB s) {t : Tm} (h : varB t.name = false) : onT s t = ⟨t.name, t.args.map (onT s)⟩ := by
  obtain ⟨n, l⟩ := t
  have hn : forT s n = none := by
    cases hf : forT s n with
    | none => rfl
    | some x =>
      have := hs n x hf
      rw [show varB n = false from h] at this
      cases this
  rw [onT_deep (Or.inr hn), onL_map]
theorem unl_map {f : Tm → Tm} : ∀ {a b : List Tm} {x y : Tm}, unl a b = some (x, y) → f x ≠ f y → unl (a.map f) (b.map f) = some (f x, f y)
  | [], _, x, y, h, _ => by simp [unl] at h
  | _ :: _, [], x, y, h, _ => by simp [unl] at h
  | t :: a, u :: b, x, y, h, hne => by
    rw [unl] at h
    by_cases e : sameB t u = true
    · rw [if_pos e] at h
      rw [sameB_iff] at e
      subst e
      rw [List.map_cons, List.map_cons, unl, if_pos (sameB_iff.2 rfl)]
      exact unl_map h hne
    · rw [if_neg e] at h
      cases h
      rw [List.map_cons, List.map_cons, unl, if_neg fun e' => hne (sameB_iff.1 e')]
/-- Kept by bindings. -/
theorem path_on {row : List ByteArray} {s : List Bd} (hs : VarsB s) : ∀ (n : Nat) (a b : Tm), sizeL [a] + sizeL [b] ≤ n → pathB row a b = true → pathB row (onT s a) (onT s b) = true
  | 0, a, b, h, _ => by have := size_pos a; omega
  | n + 1, a, b, hn, h => by
    obtain ⟨va, h⟩ := (path_iff row a b).1 h
    rw [on_sym hs va]
    rcases h with ⟨x, hx, h⟩ | ⟨vb, gb, all, h⟩
    · refine (path_iff row _ _).2 ⟨va, Or.inl ⟨onT s x, List.mem_map.2 ⟨x, hx, rfl⟩, ?_⟩⟩
      have := size_arg hx
      rcases h with rfl | h
      · exact Or.inl rfl
      · exact Or.inr (path_on hs n x b (by omega) h)
    · rw [on_sym hs vb]
      refine (path_iff row _ _).2 ⟨va, Or.inr ⟨vb, ?_, fun y hy => ?_, ?_⟩⟩
      · rw [← gb]
        exact gtS_congr rfl (by simp) rfl (by simp)
      · obtain ⟨y0, hy0, rfl⟩ := List.mem_map.1 (show y ∈ b.args.map (onT s) from hy)
        have := size_arg hy0
        have h1 := path_on hs n a y0 (by omega) (all y0 hy0)
        rw [on_sym hs va] at h1
        exact h1
      · rcases h with h | ⟨x, y, hu, h⟩
        · refine Or.inl ?_
          rw [← h]
          exact gtS_congr rfl (by simp) rfl (by simp)
        · obtain ⟨mx, my⟩ := unl_mem hu
          have := size_arg mx
          have := size_arg my
          have h1 := path_on hs n x y (by omega) h
          have hne : onT s x ≠ onT s y := fun e => by rw [e, path_irrefl] at h1; cases h1
          exact Or.inr ⟨_, _, unl_map hu hne, h1⟩

/-- What it is to be above, by weights. -/
theorem weight_iff (row : List ByteArray) (a b : Tm) : weightB row a b = true ↔ hasAll a b = true ∧ (sizeL [b] < sizeL [a] ∨ (sizeL [a] = sizeL [b] ∧ varB a.name = false ∧ varB b.name = false ∧
    (gtS row a b = true ∨ (gtS row b a = false ∧ ∃ x y, unl a.args b.args = some (x, y) ∧ weightB row x y = true)))) := by
  rw [weightB_eq]
  by_cases ha : hasAll a b = false
  · simp [ha]
  · have ha' : hasAll a b = true := by simpa using ha
    rw [if_neg ha]
    by_cases hz : sizeL [a] = sizeL [b]
    · rw [if_neg (by simpa using hz)]
      by_cases va : varB a.name = true
      · simp [va, hz]
      · rw [if_neg va]
        have va' : varB a.name = false := by simpa using va
        by_cases vb : varB b.name = true
        · simp [vb, hz]
        · rw [if_neg vb]
          have vb' : varB b.name = false := by simpa using vb
          by_cases ga : gtS row a b = true
          · simp [ga, ha', hz, va', vb']
          · rw [if_neg ga]
            by_cases gb : gtS row b a = true
            · simp [ga, gb, ha', hz, va', vb']
            · rw [if_neg gb]
              have gb' : gtS row b a = false := by simpa using gb
              cases hu : unl a.args b.args with
              | none => simp [ga, gb', ha', hz, va', vb']
              | some p =>
                obtain ⟨x, y⟩ := p
                constructor
                · intro h
                  exact ⟨ha', Or.inr ⟨hz, va', vb', Or.inr ⟨gb', x, y, rfl, h⟩⟩⟩
                · rintro ⟨_, h | ⟨_, _, _, h | ⟨_, x', y', h, h'⟩⟩⟩
                  · omega
                  · exact absurd h ga
                  · cases h; exact h'
    · rw [if_pos hz]
      simp [ha', hz]
theorem weight_irrefl (row : List ByteArray) (a : Tm) : weightB row a a = false := by
  cases h : weightB row a a with
  | false => rfl
  | true =>
    obtain ⟨_, h | ⟨_, _, _, h | ⟨_, x, y, h, _⟩⟩⟩ := (weight_iff row a a).1 h
    · omega
    · rw [gtS_irrefl rfl rfl] at h; exact h.symm
    · rw [unl_self] at h; cases h
theorem hasAll_trans {a b c : Tm} (h1 : hasAll a b = true) (h2 : hasAll b c = true) : hasAll a c = true := by
  rw [hasAll_iff] at *
  exact fun v hv => Nat.le_trans (h2 v hv) (h1 v hv)
theorem weight_trans0 (row : List ByteArray) : ∀ (n : Nat) (a b c : Tm), sizeL [a] ≤ n → weightB row a b = true → weightB row b c = true → weightB row a c = true
  | 0, a, b, c, h, _, _ => by have := size_pos a; omega
  | n + 1, a, b, c, hn, h1, h2 => by
    obtain ⟨p1, h1⟩ := (weight_iff row a b).1 h1
    obtain ⟨p2, h2⟩ := (weight_iff row b c).1 h2
    refine (weight_iff row a c).2 ⟨hasAll_trans p1 p2, ?_⟩
    rcases h1 with h1 | ⟨z1, va, vb, h1⟩
    · rcases h2 with h2 | ⟨z2, _⟩
      · exact Or.inl (by omega)
      · exact Or.inl (by omega)
    · rcases h2 with h2 | ⟨z2, _, vc, h2⟩
      · exact Or.inl (by omega)
      · refine Or.inr ⟨by omega, va, vc, ?_⟩
        have g1 : gtS row a b = true ∨ (a.name = b.name ∧ a.args.length = b.args.length) := by
          rcases h1 with h | ⟨h, _⟩
          · exact Or.inl h
          · exact gtS_cases h
        have g2 : gtS row b c = true ∨ (b.name = c.name ∧ b.args.length = c.args.length) := by
          rcases h2 with h | ⟨h, _⟩
          · exact Or.inl h
          · exact gtS_cases h
        rcases g1 with g1 | ⟨n1, l1⟩
        · rcases g2 with g2 | ⟨n2, l2⟩
          · exact Or.inl (gtS_trans g1 g2)
          · exact Or.inl (by rw [← gtS_congr (a := a) (b := b) rfl rfl n2 l2]; exact g1)
        · rcases g2 with g2 | ⟨n2, l2⟩
          · exact Or.inl (by rw [gtS_congr (a' := b) (b' := c) n1 l1 rfl rfl]; exact g2)
          · rcases h1 with h | ⟨_, x, y, hu, hxy⟩
            · rw [gtS_irrefl n1 l1] at h; cases h
            · rcases h2 with h | ⟨_, y', z, hu', hyz⟩
              · rw [gtS_irrefl n2 l2] at h; cases h
              · obtain ⟨p, q, hpq, hR⟩ := unl_two (R := fun u v => weightB row u v = true) (fun x mx y my z mz h1 h2 => by
                  have := size_arg mx
                  have h3 := weight_trans0 row n x y z (by omega) h1 h2
                  exact ⟨h3, by rintro rfl; rw [weight_irrefl] at h3; cases h3⟩) l1 l2 hu hu' hxy hyz
                exact Or.inr ⟨gtS_irrefl (n2.symm.trans n1.symm) (by omega), p, q, hpq, hR⟩
theorem weight_trans {row : List ByteArray} {a b c : Tm} (h1 : weightB row a b = true) (h2 : weightB row b c = true) : weightB row a c = true := weight_trans0 row _ a b c (Nat.le_refl _) h1 h2
theorem weight_asymm {row : List ByteArray} {a b : Tm} (h : weightB row a b = true) : weightB row b a = false := by
  cases h1 : weightB row b a with
  | false => rfl
  | true => have := weight_trans h h1; rw [weight_irrefl] at this; exact this.symm
theorem oft_app (v : ByteArray) (a b : List Tm) : oftL v (a ++ b) = oftL v a + oftL v b := by
  unfold oftL
  rw [preL_app, List.filter_append, List.length_append]
theorem oft_one (v s : ByteArray) (l : List Tm) : oftL v [(⟨s, l⟩ : Tm)] = (if s = v then 1 else 0) + oftL v l := by
  unfold oftL
  have e : preL [(⟨s, l⟩ : Tm)] = ⟨s, l⟩ :: preL l := by simp [preL]
  rw [e, List.filter_cons]
  by_cases h : s = v
  · simp [h]; omega
  · simp [h]
theorem oft_mid (v s : ByteArray) (p q : List Tm) (a : Tm) : oftL v [(⟨s, p ++ a :: q⟩ : Tm)] = (if s = v then 1 else 0) + oftL v p + oftL v [a] + oftL v q := by
  rw [oft_one, show p ++ a :: q = p ++ ([a] ++ q) by simp, oft_app, oft_app]; omega
theorem size_mid (s : ByteArray) (p q : List Tm) (a : Tm) : sizeL [(⟨s, p ++ a :: q⟩ : Tm)] = 1 + sizeL p + sizeL [a] + sizeL q := by
  rw [size_one, show p ++ a :: q = p ++ ([a] ++ q) by simp, sizeL_append, sizeL_append]; omega
/-- Kept by what is around. -/
theorem weight_ctx {row : List ByteArray} {s : ByteArray} (hs : varB s = false) (p q : List Tm) {a b : Tm} (h : weightB row a b = true) : weightB row ⟨s, p ++ a :: q⟩ ⟨s, p ++ b :: q⟩ = true := by
  have hne : a ≠ b := fun e => by rw [e, weight_irrefl] at h; cases h
  have h' := (weight_iff row a b).1 h
  obtain ⟨p1, h1⟩ := h'
  refine (weight_iff row _ _).2 ⟨(hasAll_iff _ _).2 fun v hv => ?_, ?_⟩
  · have := (hasAll_iff a b).1 p1 v hv
    rw [oft_mid, oft_mid]; omega
  · rw [size_mid, size_mid]
    rcases h1 with h1 | ⟨z, _⟩
    · exact Or.inl (by omega)
    · exact Or.inr ⟨by omega, hs, hs, Or.inr ⟨gtS_irrefl rfl (by simp), a, b, unl_at p q hne, h⟩⟩
theorem weight_sub {row : List ByteArray} {s : ByteArray} (p q : List Tm) (a : Tm) : weightB row ⟨s, p ++ a :: q⟩ a = true := by
  refine (weight_iff row _ _).2 ⟨(hasAll_iff _ _).2 fun v hv => ?_, Or.inl ?_⟩
  · rw [oft_mid]; omega
  · rw [size_mid]; omega
theorem grd_oft {t : Tm} (h : grd t) {v : ByteArray} (hv : varB v = true) : oftL v [t] = 0 := oft_none fun k hk e => by
  have := h k hk
  rw [e, hv] at this; cases this
theorem grd_all {a b : Tm} (hb : grd b) : hasAll a b = true := (hasAll_iff a b).2 fun v hv => by rw [grd_oft hb hv]; exact Nat.zero_le _
theorem weight_total (row : List ByteArray) : ∀ (n : Nat) (a b : Tm), sizeL [a] ≤ n → grd a → grd b → a = b ∨ weightB row a b = true ∨ weightB row b a = true
  | 0, a, b, h, _, _ => by have := size_pos a; omega
  | n + 1, a, b, h, ga, gb => by
    rcases Nat.lt_trichotomy (sizeL [a]) (sizeL [b]) with z | z | z
    · exact Or.inr (Or.inr ((weight_iff row b a).2 ⟨grd_all ga, Or.inl z⟩))
    · cases g1 : gtS row a b with
      | true => exact Or.inr (Or.inl ((weight_iff row a b).2 ⟨grd_all gb, Or.inr ⟨z, grd_name ga, grd_name gb, Or.inl g1⟩⟩))
      | false =>
        cases g2 : gtS row b a with
        | true => exact Or.inr (Or.inr ((weight_iff row b a).2 ⟨grd_all ga, Or.inr ⟨z.symm, grd_name gb, grd_name ga, Or.inl g2⟩⟩))
        | false =>
          obtain ⟨hn, hl⟩ := gtS_same g1 g2
          cases hu : unl a.args b.args with
          | none =>
            have := unl_none hl hu
            obtain ⟨s, l⟩ := a
            obtain ⟨s', l'⟩ := b
            simp only at hn this
            exact Or.inl (by rw [hn, this])
          | some p =>
            obtain ⟨x, y⟩ := p
            obtain ⟨mx, my⟩ := unl_mem hu
            have := size_arg mx
            have hne := unl_ne hu
            rcases weight_total row n x y (by omega) (grd_arg ga mx) (grd_arg gb my) with e | e | e
            · exact absurd e hne
            · exact Or.inr (Or.inl ((weight_iff row a b).2 ⟨grd_all gb, Or.inr ⟨z, grd_name ga, grd_name gb, Or.inr ⟨g2, x, y, hu, e⟩⟩⟩))
            · exact Or.inr (Or.inr ((weight_iff row b a).2 ⟨grd_all ga, Or.inr ⟨z.symm, grd_name gb, grd_name ga, Or.inr ⟨g1, y, x, unl_swap hu, e⟩⟩⟩))
    · exact Or.inr (Or.inl ((weight_iff row a b).2 ⟨grd_all gb, Or.inl z⟩))

/-- How often a name stands in a list. -/
def cnB (v : ByteArray) (L : List ByteArray) : Nat := (L.filter fun u => decide (u = v)).length
theorem cnB_cons (v u : ByteArray) (L : List ByteArray) : cnB v (u :: L) = (if u = v then 1 else 0) + cnB v L := by
  unfold cnB
  rw [List.filter_cons]
  by_cases h : u = v
  · simp [h]; omega
  · simp [h]
theorem cnB_app (v : ByteArray) (L K : List ByteArray) : cnB v (L ++ K) = cnB v L + cnB v K := by
  unfold cnB
  rw [List.filter_append, List.length_append]
theorem cnB_mem {v : ByteArray} {L : List ByteArray} (h : 0 < cnB v L) : v ∈ L := by
  unfold cnB at h
  obtain ⟨x, hx⟩ := List.exists_mem_of_length_pos h
  rw [List.mem_filter] at hx
  have : x = v := by simpa using hx.2
  rw [← this]; exact hx.1
theorem sum_le_of {f : ByteArray → Nat} : ∀ (B A : List ByteArray), (∀ v, cnB v B ≤ cnB v A) → (B.map f).sum ≤ (A.map f).sum
  | [], A, _ => by simp
  | u :: B, A, h => by
    have h1 := h u
    rw [cnB_cons, if_pos rfl] at h1
    obtain ⟨p, q, e⟩ := List.append_of_mem (cnB_mem (v := u) (L := A) (by omega))
    have h2 := sum_le_of (f := f) B (p ++ q) fun v => by
      have h3 := h v
      rw [e, cnB_cons, cnB_app, cnB_cons] at h3
      rw [cnB_app]; omega
    rw [e]
    simp only [List.map_cons, List.sum_cons, List.map_append, List.sum_append] at h2 ⊢
    omega
/-- The variables, as often as they stand. -/
def vlL (l : List Tm) : List ByteArray := ((preL l).map (·.name)).filter varB
theorem vlL_app (a b : List Tm) : vlL (a ++ b) = vlL a ++ vlL b := by
  unfold vlL
  rw [preL_app, List.map_append, List.filter_append]
theorem vlL_one (s : ByteArray) (l : List Tm) : vlL [(⟨s, l⟩ : Tm)] = if varB s = true then s :: vlL l else vlL l := by
  unfold vlL
  have e : preL [(⟨s, l⟩ : Tm)] = ⟨s, l⟩ :: preL l := by simp [preL]
  rw [e, List.map_cons, List.filter_cons]
theorem oft_vl {v : ByteArray} (hv : varB v = true) (l : List Tm) : oftL v l = cnB v (vlL l) := by
  unfold oftL cnB vlL
  rw [List.filter_filter]
  generalize preL l = k
  induction k with
  | nil => rfl
  | cons t k ih =>
    rw [List.filter_cons, List.map_cons, List.filter_cons]
    by_cases h : t.name = v
    · simp [h, hv, ih]
    · simp [h, ih]
theorem all_vl {a b : Tm} (h : hasAll a b = true) (v : ByteArray) : cnB v (vlL [b]) ≤ cnB v (vlL [a]) := by
  by_cases hv : varB v = true
  · rw [← oft_vl hv, ← oft_vl hv]
    exact (hasAll_iff a b).1 h v hv
  · have : cnB v (vlL [b]) = 0 := by
      cases hc : cnB v (vlL [b]) with
      | zero => rfl
      | succ n =>
        have := cnB_mem (v := v) (L := vlL [b]) (by omega)
        unfold vlL at this
        rw [List.mem_filter] at this
        exact absurd this.2 hv
    omega
/-- Variables have none below them. -/
def Flat (l : List Tm) : Prop := ∀ k ∈ preL l, varB k.name = true → k.args = []
theorem Flat.cons {t : Tm} {r : List Tm} (h : Flat (t :: r)) : Flat [t] ∧ Flat r := by
  have e : preL (t :: r) = preL [t] ++ preL r := preL_app [t] r
  exact ⟨fun k hk => h k (by rw [e]; simp [hk]), fun k hk => h k (by rw [e]; simp [hk])⟩
theorem Flat.kids {s : ByteArray} {l : List Tm} (h : Flat [(⟨s, l⟩ : Tm)]) : Flat l := fun k hk => h k (by simp [preL, hk])
/-- How often a variable stands once bindings are put in, and how many knots there are. -/
theorem on_sums {s : List Bd} (hs : VarsB s) {v : ByteArray} (hv : varB v = true) : ∀ l : List Tm, Flat l → oftL v (onL s l) = ((vlL l).map fun u => oftL v [onT s ⟨u, []⟩]).sum ∧ sizeL (onL s l) = sizeL l + ((vlL l).map fun u => sizeL [onT s ⟨u, []⟩] - 1).sum := by
  intro l
  induction l using Tm.indL with
  | h0 => intro _; simp [onL, vlL, preL, oftL, sizeL]
  | h n a r iha ihr =>
    intro hf
    obtain ⟨f1, f2⟩ := hf.cons
    obtain ⟨a1, a2⟩ := iha f1.kids
    obtain ⟨r1, r2⟩ := ihr f2
    have e1 : vlL (⟨n, a⟩ :: r) = vlL [(⟨n, a⟩ : Tm)] ++ vlL r := vlL_app [_] r
    have e2 : sizeL ((⟨n, a⟩ : Tm) :: r) = sizeL [(⟨n, a⟩ : Tm)] + sizeL r := sizeL_append [_] r
    rw [onL_cons, show onT s ⟨n, a⟩ :: onL s r = [onT s ⟨n, a⟩] ++ onL s r from rfl, oft_app, sizeL_append, e1, e2, List.map_append, List.map_append, List.sum_append, List.sum_append, r1, r2]
    by_cases vn : varB n = true
    · have ha : a = [] := f1 ⟨n, a⟩ (by simp [preL]) vn
      subst ha
      have e3 : vlL [(⟨n, []⟩ : Tm)] = [n] := by rw [vlL_one, if_pos vn]; simp [vlL, preL]
      rw [e3]
      have := size_pos (onT s ⟨n, []⟩)
      have e4 : sizeL [(⟨n, []⟩ : Tm)] = 1 := by simp [sizeL]
      simp only [List.map_cons, List.map_nil, List.sum_cons, List.sum_nil]
      omega
    · have vn' : varB n = false := by simpa using vn
      have hne : n ≠ v := fun e => vn (by rw [e]; exact hv)
      have e3 : onT s ⟨n, a⟩ = ⟨n, onL s a⟩ := by rw [on_sym hs (t := ⟨n, a⟩) vn', onL_map]
      rw [e3, oft_one, if_neg hne, vlL_one, if_neg vn, size_one, size_one, a1, a2]
      omega
theorem flat_arg {t x : Tm} (h : Flat [t]) (hx : x ∈ t.args) : Flat [x] := fun k hk => h k (pre_arg hx k hk)
theorem weight_on {row : List ByteArray} {s : List Bd} (hs : VarsB s) : ∀ (n : Nat) (a b : Tm), sizeL [a] ≤ n → Flat [a] → Flat [b] → weightB row a b = true → weightB row (onT s a) (onT s b) = true
  | 0, a, b, h, _, _, _ => by have := size_pos a; omega
  | n + 1, a, b, hn, fa, fb, h => by
    obtain ⟨p, h⟩ := (weight_iff row a b).1 h
    have hc := all_vl p
    have one : ∀ t : Tm, onL s [t] = [onT s t] := fun t => by rw [onL_cons]; simp [onL]
    have hall : hasAll (onT s a) (onT s b) = true := (hasAll_iff _ _).2 fun v hv => by
      have h1 := (on_sums hs hv [a] fa).1
      have h2 := (on_sums hs hv [b] fb).1
      rw [one] at h1 h2
      rw [h1, h2]
      exact sum_le_of _ _ hc
    obtain ⟨v0, hv0⟩ : ∃ v : ByteArray, varB v = true := ⟨⟨#[65]⟩, by decide⟩
    have z1 := (on_sums hs hv0 [a] fa).2
    have z2 := (on_sums hs hv0 [b] fb).2
    rw [one] at z1 z2
    have zz := sum_le_of (f := fun u => sizeL [onT s ⟨u, []⟩] - 1) _ _ hc
    refine (weight_iff row _ _).2 ⟨hall, ?_⟩
    rcases h with h | ⟨z, va, vb, h⟩
    · exact Or.inl (by omega)
    · by_cases hz : sizeL [onT s b] < sizeL [onT s a]
      · exact Or.inl hz
      · refine Or.inr ⟨by omega, ?_⟩
        rw [on_sym hs va, on_sym hs vb]
        refine ⟨va, vb, ?_⟩
        have e1 : ∀ a b : Tm, gtS row ⟨a.name, a.args.map (onT s)⟩ ⟨b.name, b.args.map (onT s)⟩ = gtS row a b := fun a b => gtS_congr rfl (by simp) rfl (by simp)
        rw [e1, e1]
        rcases h with h | ⟨g, x, y, hu, h⟩
        · exact Or.inl h
        · obtain ⟨mx, my⟩ := unl_mem hu
          have := size_arg mx
          have h1 := weight_on hs n x y (by omega) (flat_arg fa mx) (flat_arg fb my) h
          have hne : onT s x ≠ onT s y := fun e => by rw [e, weight_irrefl] at h1; cases h1
          exact Or.inr ⟨g, _, _, unl_map hu hne, h1⟩
#print axioms path_on
#print axioms weight_on
#print axioms weight_ctx
#print axioms weight_total
end Go.Proofs.Ytccbocefgoccdaa

/- Pairs of terms in memory; what is wrong with them. -/
namespace Go.Proofs.Ytccbocefgoccdaa
open Go.RowKit
set_option linter.unusedSimpArgs false
set_option linter.unusedVariables false

/-- Two terms. -/
structure Pr where
  l : Tm
  r : Tm

/-- A list of pairs in memory. -/
def QV (w : World) (X : Nat → Prop) (v : Value) (l : List Pr) : Prop :=
  ∃ a c, v = .slice a l.length c ∧ (l.length ≤ 9223372036854775807 ∧ l.length ≤ c) ∧ (l = [] ∨ ∃ b o, a = some ⟨b, o, none⟩ ∧ X b ∧ ∀ i (h : i < l.length), ∃ a1 c1 a2 c2, w.cell? ⟨b, o + i * 4, none⟩ = some (.string l[i].l.name) ∧ w.cell? ⟨b, o + i * 4 + 1, none⟩ = some (.slice a1 l[i].l.args.length c1) ∧ w.cell? ⟨b, o + i * 4 + 2, none⟩ = some (.string l[i].r.name) ∧ w.cell? ⟨b, o + i * 4 + 3, none⟩ = some (.slice a2 l[i].r.args.length c2) ∧ Sl w X a1 l[i].l.args ∧ Sl w X a2 l[i].r.args)

theorem QV.kept {w w' : World} {X : Nat → Prop} {v : Value} {l : List Pr} (h : QV w X v l) (hk : ∀ b, X b → w'.heap[b]? = w.heap[b]?) : QV w' X v l := by
  obtain ⟨a, c, e, hl, h⟩ := h
  refine ⟨a, c, e, hl, ?_⟩
  rcases h with h | ⟨b, o, ea, hX, h⟩
  · exact Or.inl h
  · refine Or.inr ⟨b, o, ea, hX, fun i hi => ?_⟩
    obtain ⟨a1, c1, a2, c2, h1, h2, h3, h4, h5, h6⟩ := h i hi
    have hb := hk b hX
    exact ⟨a1, c1, a2, c2, by simpa [World.cell?, hb] using h1, by simpa [World.cell?, hb] using h2, by simpa [World.cell?, hb] using h3, by simpa [World.cell?, hb] using h4, h5.kept hk, h6.kept hk⟩
theorem QV.mono {w : World} {X Y : Nat → Prop} {v : Value} {l : List Pr} (h : QV w X v l) (hk : ∀ b, X b → b < w.heap.size → Y b) : QV w Y v l := by
  obtain ⟨a, c, e, hl, h⟩ := h
  refine ⟨a, c, e, hl, ?_⟩
  rcases h with h | ⟨b, o, ea, hX, h⟩
  · exact Or.inl h
  · by_cases h0 : l = []
    · exact Or.inl h0
    · have hp : 0 < l.length := List.length_pos_iff.2 h0
      obtain ⟨_, _, _, _, g, _⟩ := h 0 hp
      refine Or.inr ⟨b, o, ea, hk b hX (cell_lt g), fun i hi => ?_⟩
      obtain ⟨a1, c1, a2, c2, h1, h2, h3, h4, h5, h6⟩ := h i hi
      exact ⟨a1, c1, a2, c2, h1, h2, h3, h4, h5.mono hk, h6.mono hk⟩
theorem QV.later {w w' : World} {X : Nat → Prop} {v : Value} {l : List Pr} (h : QV w X v l) (hb : Below w.heap.size w w') : QV w' X v l :=
  ((h.mono (Y := fun b => X b ∧ b < w.heap.size) fun b h1 h2 => ⟨h1, h2⟩).kept fun b hx => hb.block b hx.2).mono fun b hx _ => hx.1
theorem QV.alloc {w : World} {X : Nat → Prop} {v : Value} {l : List Pr} (h : QV w X v l) (o : Obj) : QV (w.alloc o) X v l := h.later ((Below.refl _ _).alloc (Nat.le_refl _) o)
theorem QV.get {w : World} {X : Nat → Prop} {a : Option Addr} {n c : Nat} {l : List Pr} (h : QV w X (.slice a n c) l) (i : Nat) (hi : i < l.length) :
    ∃ b o a1 c1 a2 c2, a = some ⟨b, o, none⟩ ∧ w.cell? ⟨b, o + i * 4, none⟩ = some (.string l[i].l.name) ∧ w.cell? ⟨b, o + i * 4 + 1, none⟩ = some (.slice a1 l[i].l.args.length c1) ∧ w.cell? ⟨b, o + i * 4 + 2, none⟩ = some (.string l[i].r.name) ∧ w.cell? ⟨b, o + i * 4 + 3, none⟩ = some (.slice a2 l[i].r.args.length c2) ∧ Sl w X a1 l[i].l.args ∧ Sl w X a2 l[i].r.args := by
  obtain ⟨a2, c2, e, hl, h⟩ := h
  simp at e
  obtain ⟨rfl, rfl, rfl⟩ := e
  rcases h with h | ⟨b, o, ea, hX, h⟩
  · subst h; simp at hi
  · obtain ⟨a1, c1, a2, c2, h1, h2, h3, h4, h5, h6⟩ := h i hi
    exact ⟨b, o, a1, c1, a2, c2, ea, h1, h2, h3, h4, h5, h6⟩

/-- What is wrong with the first that is wrong. -/
def pmT (ls : List Pr) : Nat → Int
  | 0 => 0
  | k + 1 => if pmT ls k = 0 then (match ls[k]? with | some p => twoE p.l p.r | none => 0) else pmT ls k
def pairsE (ls : List Pr) : Int := if 40 < ls.length then 3 else pmT ls ls.length
theorem pmT_stays {ls : List Pr} {k : Nat} (h : pmT ls k ≠ 0) : ∀ n, k ≤ n → pmT ls n = pmT ls k
  | 0, hn => by have : k = 0 := by omega
                subst this; rfl
  | n + 1, hn => by
    by_cases e : k = n + 1
    · subst e; rfl
    · have ih := pmT_stays h n (by omega)
      rw [pmT, if_neg (by rw [ih]; exact h)]
      exact ih
theorem pmT_next {ls : List Pr} {k : Nat} (hk : k < ls.length) (h0 : pmT ls k = 0) : pmT ls (k + 1) = twoE ls[k].l ls[k].r := by rw [pmT, if_pos h0, List.getElem?_eq_getElem hk]
theorem pmT_err {ls : List Pr} {k : Nat} (hk : k < ls.length) (h40 : ¬ 40 < ls.length) (h0 : pmT ls k = 0) (hne : twoE ls[k].l ls[k].r ≠ 0) : pairsE ls = twoE ls[k].l ls[k].r := by
  unfold pairsE
  rw [if_neg h40]
  have h1 := pmT_next hk h0
  rw [← h1]
  exact pmT_stays (by rw [h1]; exact hne) _ (by omega)
theorem pairsE_len {ls : List Pr} (h : pairsE ls = 0) : ls.length ≤ 40 := by
  unfold pairsE at h
  split at h
  · cases h
  · omega
theorem pairsE_all {ls : List Pr} (h : pairsE ls = 0) : ∀ p ∈ ls, mayE p.l = 0 ∧ mayE p.r = 0 := by
  intro p hp
  obtain ⟨k, hk, rfl⟩ := List.getElem_of_mem hp
  have h40 := pairsE_len h
  unfold pairsE at h
  rw [if_neg (by omega)] at h
  have h0 : ∀ n, n ≤ ls.length → pmT ls n = 0 := fun n hn => by
    by_cases e : pmT ls n = 0
    · exact e
    · have := pmT_stays e _ hn
      rw [this] at h
      exact absurd h e
  have h1 := pmT_next hk (h0 k (by omega))
  rw [h0 (k + 1) (by omega)] at h1
  have h2 := h1.symm
  unfold twoE at h2
  by_cases e : mayE ls[k].l = 0
  · rw [if_pos e] at h2; exact ⟨e, h2⟩
  · rw [if_neg e] at h2; exact absurd h2 e
#print axioms pairsE_all
end Go.Proofs.Ytccbocefgoccdaa

/- One term as a case of another one: plain. -/
namespace Go.Proofs.Ytccbocefgoccdaa
open Go.RowKit
set_option linter.unusedSimpArgs false
set_option linter.unusedVariables false

/-- What stands for a pattern's variables, found knot by knot. -/
def mtL : List Tm → List Tm → List Bd → Option (List Bd)
  | [], _, h => some h
  | ⟨s, a⟩ :: r, ts, h => match ts with
    | [] => none
    | t :: ts' =>
      match (if varB s = true then (match forT h s with
          | some x => if sameB x t = true then some h else none
          | none => some (h ++ [⟨s, t⟩]))
        else if ((s.toList == t.name.toList) && (a.length == t.args.length)) = true then mtL a t.args h else none) with
      | some h' => mtL r ts' h'
      | none => none
def mtT (p t : Tm) (h : List Bd) : Option (List Bd) :=
  if varB p.name = true then (match forT h p.name with
      | some x => if sameB x t = true then some h else none
      | none => some (h ++ [⟨p.name, t⟩]))
    else if ((p.name.toList == t.name.toList) && (p.args.length == t.args.length)) = true then mtL p.args t.args h else none
theorem mtL_cons (p t : Tm) (r ts : List Tm) (h : List Bd) : mtL (p :: r) (t :: ts) h = (match mtT p t h with
      | some h' => mtL r ts h'
      | none => none) := by obtain ⟨s, a⟩ := p; simp only [mtL, mtT]
theorem mtL_append : ∀ (a b c d : List Tm) (h : List Bd), a.length = b.length → mtL (a ++ c) (b ++ d) h = (match mtL a b h with
      | some h' => mtL c d h'
      | none => none)
  | [], [], c, d, h, _ => by simp [mtL]
  | [], _ :: _, _, _, _, e => by simp at e
  | _ :: _, [], _, _, _, e => by simp at e
  | x :: r, t :: ts, c, d, h, e => by
    rw [List.cons_append, List.cons_append, mtL_cons, mtL_cons]
    cases mtT x t h with
    | none => rfl
    | some h' => exact mtL_append r ts c d h' (by simpa using e)
theorem mtL_take {l m : List Tm} {k : Nat} (h : k < l.length) (h2 : k < m.length) (hv : List Bd) : mtL (l.take (k + 1)) (m.take (k + 1)) hv = (match mtL (l.take k) (m.take k) hv with
      | some h' => mtT l[k] m[k] h'
      | none => none) := by
  rw [List.take_succ_eq_append_getElem h, List.take_succ_eq_append_getElem h2, mtL_append _ _ _ _ _ (by simp; omega)]
  cases mtL (l.take k) (m.take k) hv with
  | none => rfl
  | some h' =>
    show mtL [l[k]] [m[k]] h' = mtT l[k] m[k] h'
    rw [mtL_cons]
    cases mtT l[k] m[k] h' with
    | none => rfl
    | some h'' => simp [mtL]
theorem mtL_no {l m : List Tm} {k : Nat} {hv h' : List Bd} (h : k < l.length) (hlm : l.length = m.length) (h1 : mtL (l.take k) (m.take k) hv = some h') (h0 : mtT l[k] (m[k]'(by omega)) h' = none) : mtL l m hv = none := by
  have e1 : l = l.take (k + 1) ++ l.drop (k + 1) := (List.take_append_drop _ _).symm
  have e2 : m = m.take (k + 1) ++ m.drop (k + 1) := (List.take_append_drop _ _).symm
  rw [e1, e2, mtL_append _ _ _ _ _ (by simp; omega), mtL_take h (by omega), h1]
  simp only [h0]
theorem mtL_next {l m : List Tm} {k : Nat} {hv h' h'' : List Bd} (h : k < l.length) (h2 : k < m.length) (h1 : mtL (l.take k) (m.take k) hv = some h') (h0 : mtT l[k] m[k] h' = some h'') : mtL (l.take (k + 1)) (m.take (k + 1)) hv = some h'' := by
  rw [mtL_take h h2, h1]
  exact h0
theorem mtT_deep {s s2 : ByteArray} {l m : List Tm} {h : List Bd} (hv : varB s = false) (hn : (s.toList == s2.toList) = true) (hl : l.length = m.length) : mtT ⟨s, l⟩ ⟨s2, m⟩ h = mtL l m h := by
  simp [mtT, hv, hn, hl]
theorem mtT_off {s s2 : ByteArray} {l m : List Tm} {h : List Bd} (hv : varB s = false) (hn : ((s.toList == s2.toList) && (l.length == m.length)) = false) : mtT ⟨s, l⟩ ⟨s2, m⟩ h = none := by
  unfold mtT
  rw [if_neg (by rw [hv]; simp), if_neg (by simp only [hn]; simp)]
theorem mtT_new {s : ByteArray} {l : List Tm} {t : Tm} {h : List Bd} (hv : varB s = true) (hf : forT h s = none) : mtT ⟨s, l⟩ t h = some (h ++ [⟨s, t⟩]) := by simp [mtT, hv, hf]
theorem mtT_old {s : ByteArray} {l : List Tm} {t x : Tm} {h : List Bd} (hv : varB s = true) (hf : forT h s = some x) : mtT ⟨s, l⟩ t h = if sameB x t = true then some h else none := by simp [mtT, hv, hf]

/-- No name twice, and not more than there are knots; the terms are knots of the other one. -/
theorem forT_none {h : List Bd} {s : ByteArray} (hf : forT h s = none) : ∀ d ∈ h, d.nm ≠ s := by
  induction h with
  | nil => intro d hd; cases hd
  | cons a r ih =>
    intro d hd
    rw [forT] at hf
    split at hf
    · cases hf
    · rename_i hne
      rcases List.mem_cons.1 hd with rfl | hd
      · exact hne
      · exact ih hf d hd
theorem mtT_apart_one {p t : Tm} {h h' : List Bd} (ih : ∀ ts g g', mtL p.args ts g = some g' → ApartB g → ApartB g' ∧ g'.length ≤ g.length + sizeL p.args) (he : mtT p t h = some h') (ha : ApartB h) : ApartB h' ∧ h'.length ≤ h.length + (1 + sizeL p.args) := by
  unfold mtT at he
  split at he
  · split at he
    · split at he
      · cases he; exact ⟨ha, by omega⟩
      · cases he
    · rename_i hf
      cases he
      refine ⟨List.pairwise_append.2 ⟨ha, by simp, fun a h1 b h2 => ?_⟩, by simp⟩
      have e : b = ⟨p.name, t⟩ := by simpa using h2
      rw [e]
      exact forT_none hf a h1
  · split at he
    · obtain ⟨h1, h2⟩ := ih _ _ _ he ha
      exact ⟨h1, by omega⟩
    · cases he
theorem mtL_apart : ∀ (l ts : List Tm) (h h' : List Bd), mtL l ts h = some h' → ApartB h → ApartB h' ∧ h'.length ≤ h.length + sizeL l := by
  intro l
  induction l using Tm.indL with
  | h0 => intro ts h h' he ha; simp [mtL] at he; subst he; exact ⟨ha, by simp⟩
  | h s l r ihl ihr =>
    intro ts h h' he ha
    cases ts with
    | nil => simp [mtL] at he
    | cons t ts =>
      rw [mtL_cons] at he
      cases hm : mtT ⟨s, l⟩ t h with
      | none => rw [hm] at he; cases he
      | some g =>
        rw [hm] at he
        obtain ⟨h1, h2⟩ := mtT_apart_one (p := ⟨s, l⟩) (fun ts g g' h3 h4 => ihl ts g g' h3 h4) hm ha
        obtain ⟨h3, h4⟩ := ihr ts g h' he h1
        refine ⟨h3, ?_⟩
        simp only [sizeL]
        simp only at h2
        omega
theorem mtT_apart {p t : Tm} {h h' : List Bd} (he : mtT p t h = some h') (ha : ApartB h) : ApartB h' ∧ h'.length ≤ h.length + sizeL [p] := by
  obtain ⟨h1, h2⟩ := mtT_apart_one (fun ts g g' h3 h4 => mtL_apart p.args ts g g' h3 h4) he ha
  refine ⟨h1, ?_⟩
  obtain ⟨s, a⟩ := p
  simp [sizeL] at h2 ⊢
  omega
#print axioms mtT_apart
end Go.Proofs.Ytccbocefgoccdaa

/- Lists of things of one cell each. -/
namespace Go.Proofs.Ytccbocefgoccdaa
open Go.RowKit
set_option linter.unusedSimpArgs false
set_option linter.unusedVariables false

/-- A list in memory, a cell each. -/
def LV {α : Type} (f : α → Value) (w : World) (X : Nat → Prop) (v : Value) (l : List α) : Prop :=
  ∃ a c, v = .slice a l.length c ∧ (l.length ≤ 9223372036854775807 ∧ l.length ≤ c) ∧ (l = [] ∨ ∃ b o, a = some ⟨b, o, none⟩ ∧ X b ∧ ∀ i (h : i < l.length), w.cell? ⟨b, o + i, none⟩ = some (f l[i]))

theorem LV.kept {α : Type} {f : α → Value} {w w' : World} {X : Nat → Prop} {v : Value} {l : List α} (h : LV f w X v l) (hk : ∀ b, X b → w'.heap[b]? = w.heap[b]?) : LV f w' X v l := by
  obtain ⟨a, c, e, hl, h⟩ := h
  refine ⟨a, c, e, hl, ?_⟩
  rcases h with h | ⟨b, o, e, hx, h⟩
  · exact Or.inl h
  · exact Or.inr ⟨b, o, e, hx, fun i hi => by rw [World.cell?_of_block (hk b hx)]; exact h i hi⟩

theorem LV.mono {α : Type} {f : α → Value} {w : World} {X Y : Nat → Prop} {v : Value} {l : List α} (h : LV f w X v l) (hk : ∀ b, X b → b < w.heap.size → Y b) : LV f w Y v l := by
  obtain ⟨a, c, e, hl, h⟩ := h
  refine ⟨a, c, e, hl, ?_⟩
  rcases h with h | ⟨b, o, e, hx, h⟩
  · exact Or.inl h
  · by_cases h0 : l = []
    · exact Or.inl h0
    · have hp : 0 < l.length := List.length_pos_iff.2 h0
      exact Or.inr ⟨b, o, e, hk b hx (World.block_lt_of_cell? w _ (h 0 hp)), h⟩

theorem LV.below {α : Type} {f : α → Value} {w w' : World} {X : Nat → Prop} {v : Value} {l : List α} {B : Nat} (h : LV f w X v l) (hb : Below B w w') (hX : ∀ b, X b → b < w.heap.size → b < B) : LV f w' X v l := by
  have h1 : LV f w (fun b => X b ∧ b < B) v l := h.mono fun b hx hs => ⟨hx, hX b hx hs⟩
  have h2 : LV f w' (fun b => X b ∧ b < B) v l := h1.kept fun b hx => hb.block b hx.2
  exact h2.mono fun b hx _ => hx.1

theorem LV.later {α : Type} {f : α → Value} {w w' : World} {X : Nat → Prop} {v : Value} {l : List α} (h : LV f w X v l) (hb : Below w.heap.size w w') : LV f w' X v l := h.below hb (fun _ _ h => h)
theorem LV.alloc {α : Type} {f : α → Value} {w : World} {X : Nat → Prop} {v : Value} {l : List α} (h : LV f w X v l) (o : Obj) : LV f (w.alloc o) X v l := h.later ((Below.refl _ _).alloc (Nat.le_refl _) o)

/-- Out of a row that a call owns. -/
theorem LV.of_own {α : Type} {f : α → Value} {w : World} {N T : Nat} {v : Value} {l : List α} (h : w.ownsRow N T 1 v l.length (l.map f)) : LV f w (fun b => N ≤ b) v l := by
  have h' := h
  obtain ⟨_, h1⟩ := h
  rcases h1 with ⟨rfl, h0⟩ | ⟨g, cap, cur, hv, hg, hh, hnc, hcm, _⟩
  · have e : l = [] := List.length_eq_zero_iff.1 h0
    subst e
    exact ⟨none, 0, rfl, by simp, Or.inl rfl⟩
  · unfold maxLen at hcm
    refine ⟨some ⟨g, 0, none⟩, cap, hv, ⟨by omega, hnc⟩, ?_⟩
    by_cases h0 : l = []
    · exact Or.inl h0
    · have hp : 0 < l.length := List.length_pos_iff.2 h0
      obtain ⟨g2, cap2, hv2, _, _, hc⟩ := owned_val h' hp
      rw [hv] at hv2
      simp at hv2
      obtain ⟨rfl, rfl⟩ := hv2
      exact Or.inr ⟨g, 0, rfl, hg, fun i hi => by rw [Nat.zero_add]; exact hc i _ (by simp [hi])⟩
#print axioms LV.of_own
end Go.Proofs.Ytccbocefgoccdaa


/- Walks: lists that are the same; whether a text is in a list. -/
namespace Go.Proofs.Ytccbocefgoccdaa
open Go.RowKit
set_option linter.unusedSimpArgs false
set_option linter.unusedVariables false

/-- Is a text in a list? -/
def inB (x : ByteArray) (l : List ByteArray) : Bool := l.any fun y => y.toList == x.toList
theorem inB_take {x : ByteArray} {l : List ByteArray} {k : Nat} (h : k < l.length) (h0 : inB x (l.take k) = false) (h1 : (l[k].toList == x.toList) = false) : inB x (l.take (k + 1)) = false := by
  unfold inB at *
  rw [List.take_succ_eq_append_getElem h, List.any_append, h0]
  simpa using h1
theorem inB_yes {x : ByteArray} {l : List ByteArray} {k : Nat} (h : k < l.length) (h1 : (l[k].toList == x.toList) = true) : inB x l = true := by
  unfold inB
  rw [List.any_eq_true]
  exact ⟨l[k], List.getElem_mem h, h1⟩

end Go.Proofs.Ytccbocefgoccdaa


/- Walks: the variables of a term, each once. -/
namespace Go.Proofs.Ytccbocefgoccdaa
open Go.RowKit
set_option linter.unusedSimpArgs false
set_option linter.unusedVariables false

theorem Try.infoStr : (Try.prog.info? 9).map (fun i => (i.zero, i.size, i.bytes)) = some (some (.string ByteArray.empty), 1, 16) := by kernel_rfl

theorem beq_comm' (a b : ByteArray) : (a.toList == b.toList) = (b.toList == a.toList) := by
  rw [Bool.eq_iff_iff]; simp; exact eq_comm

set_option maxHeartbeats 400000 in
theorem index_any (x : ByteArray) (l : List ByteArray) (v : Value) (w : World) (X : Nat → Prop) (hv : LV Value.string w X v l) :
    Calls Try.prog 70 #[v, .string x] w fun e w' => (∃ n : Int, e = .returned (.int .i64 n) ∧ decide (0 ≤ n) = inB x l) ∧ w' = w := by
  obtain ⟨a, c, rfl, ⟨hl, _⟩, h1⟩ := hv
  go_enter Try.func70, Try.ntmps70
  go_wp2_with fail
  go_loop [8] (fun i => ∃ k : Nat, k ≤ l.length ∧ i = .int .i64 k ∧ inB x (l.take k) = false) (fun i => l.length - (intOf i).toNat)
  case atStart => exact ⟨0, Nat.zero_le _, rfl, by simp [inB]⟩
  case round =>
    obtain ⟨k, hk, rfl, ha⟩ := hrel
    have HA := hide ha
    clear ha
    by_cases hlt : k < l.length
    · obtain ⟨b, o, rfl, _, hc⟩ := h1.resolve_left (fun h => by rw [h] at hlt; simp at hlt)
      have d1 := hc k hlt
      clear hc h1
      cases hq : (x.toList == l[k].toList) with
      | true =>
        have HQ := hide (inB_yes hlt (by rw [beq_comm']; exact hq))
        go_wp2_with fail
        go_ret
        exact ⟨⟨k, rfl, by rw [HQ.out]; simp⟩, rfl⟩
      | false =>
        have HQ := hide (inB_take hlt HA.out (by rw [beq_comm']; exact hq))
        go_wp2_with fail
        go_round
        case rel => exact ⟨k + 1, by omega, by go_num, HQ.out⟩
        case measure => simp [intOf]; omega
    · have htk : l.take k = l := List.take_of_length_le (by omega)
      have HF : Hid (false = inB x l) := by unfold Hid; rw [← HA.out, htk]
      go_wp2_with fail
      go_ret
      exact ⟨⟨-1, rfl, by rw [← HF.out]; decide⟩, rfl⟩

set_option maxHeartbeats 400000 in
theorem contains_any (x : ByteArray) (l : List ByteArray) (v : Value) (w : World) (X : Nat → Prop) (hv : LV Value.string w X v l) :
    Calls Try.prog 51 #[v, .string x] w fun e w' => e = .returned (.bool (inB x l)) ∧ w' = w := by
  have HV := hide hv
  clear hv
  go_enter Try.func51, Try.ntmps51
  go_wp2_with fail
  refine (index_any x l _ _ X HV.out).mono ?_
  rintro e w1 ⟨⟨n, rfl, hn⟩, rfl⟩
  have HN := hide hn
  clear hn
  go_wp2_with fail
  go_ret
  exact ⟨ret_bool HN.out, rfl⟩

/-- A variable more. -/
def addV (acc : List ByteArray) (s : ByteArray) : List ByteArray := if (varB s && !inB s acc) = true then acc ++ [s] else acc
/-- The variables of knots, as they come. -/
def varsP (acc : List ByteArray) (ks : List Tm) : List ByteArray := ks.foldl (fun acc k => addV acc k.name) acc

theorem addV_yes {acc : List ByteArray} {s : ByteArray} (h : varB s = true) (h2 : inB s acc = false) : addV acc s = acc ++ [s] := by simp [addV, h, h2]
theorem addV_in {acc : List ByteArray} {s : ByteArray} (h : varB s = true) (h2 : inB s acc = true) : addV acc s = acc := by simp [addV, h, h2]
theorem addV_no {acc : List ByteArray} {s : ByteArray} (h : varB s = false) : addV acc s = acc := by simp [addV, h]
theorem addV_len (acc : List ByteArray) (s : ByteArray) : (addV acc s).length ≤ acc.length + 1 := by
  unfold addV; split <;> simp
theorem varsP_append (acc : List ByteArray) (a b : List Tm) : varsP acc (a ++ b) = varsP (varsP acc a) b := by simp [varsP, List.foldl_append]
theorem varsP_len (ks : List Tm) : ∀ acc, (varsP acc ks).length ≤ acc.length + ks.length := by
  induction ks with
  | nil => intro acc; simp [varsP]
  | cons k r ih => intro acc; have := ih (addV acc k.name); have h2 := addV_len acc k.name; simp only [varsP, List.foldl_cons, List.length_cons] at *; omega
theorem varsP_take (acc : List ByteArray) (ks : List Tm) (k : Nat) (h : k < ks.length) : varsP acc (ks.take (k + 1)) = addV (varsP acc (ks.take k)) ks[k].name := by
  rw [List.take_succ_eq_append_getElem h, varsP_append]; rfl

theorem grown_trans {w w1 w2 : World} {r r1 : Option Nat} (h : w.grownBy w1 r) (h1 : w1.grownBy w2 r1) (hr : ∀ k, r1 = some k → r = some k ∨ w.heap.size ≤ k) : w.grownBy w2 r :=
  ⟨h1.os.trans h.os, h1.tape.trans h.tape, h1.output.trans h.output, Nat.le_trans h.size h1.size, fun k hk hne => (h1.block k (Nat.lt_of_lt_of_le hk h.size) (fun e => by
    rcases hr k e.symm with h2 | h2
    · exact hne h2.symm
    · omega)).trans (h.block k hk hne)⟩

theorem grown_of_below {w w' : World} (hb : Below w.heap.size w w') (r : Option Nat) : w.grownBy w' r := ⟨hb.os, hb.tape, hb.output, hb.size, fun k hk _ => hb.block k hk⟩

theorem TV.grown {w w' : World} {X : Nat → Prop} {v : Value} {t : Tm} {r : Option Nat} (h : TV w X v t) (hg : w.grownBy w' r) (hX : ∀ b, X b → some b ≠ r) : TV w' X v t := by
  have h1 : TV w (fun b => X b ∧ b < w.heap.size) v t := h.mono fun b h1 h2 => ⟨h1, h2⟩
  have h2 : TV w' (fun b => X b ∧ b < w.heap.size) v t := h1.kept fun b hx => hg.block b hx.2 (hX b hx.1)
  exact h2.mono fun b hx _ => hx.1

/-- What stays true of a row of texts while it is added to. -/
def NamesAt (w0 : World) (B : Nat) (q0 : Value) (acc : List ByteArray) (q : Value) (wr : World) : Prop :=
  wr.ownsRow B 9 1 q acc.length (acc.map Value.string) ∧ w0.grownBy wr q0.ownBlock ∧ (∀ k, q.ownBlock = some k → q0.ownBlock = some k ∨ w0.heap.size ≤ k)

theorem NamesAt.step {w0 w1 w2 : World} {B : Nat} {q0 q1 q2 : Value} {acc1 acc2 : List ByteArray} (h1 : NamesAt w0 B q0 acc1 q1 w1) (h2 : NamesAt w1 B q1 acc2 q2 w2) : NamesAt w0 B q0 acc2 q2 w2 := by
  refine ⟨h2.1, grown_trans h1.2.1 h2.2.1 h1.2.2, fun k hk => ?_⟩
  rcases h2.2.2 k hk with h | h
  · exact h1.2.2 k h
  · exact Or.inr (Nat.le_trans h1.2.1.size h)

theorem NamesAt.below {w0 w1 w2 : World} {B : Nat} {q0 q1 : Value} {acc1 : List ByteArray} (h1 : NamesAt w0 B q0 acc1 q1 w1) (hb : Below w1.heap.size w1 w2) : NamesAt w0 B q0 acc1 q1 w2 :=
  ⟨h1.1.kept (w' := w2) (row := none) ⟨hb.os, hb.tape, hb.output, hb.size, fun j hj _ => hb.block j hj⟩ (by rcases Option.eq_none_or_eq_some (Value.ownBlock q1) with h | ⟨x, h⟩; exact Or.inl h; exact Or.inr (by rw [h]; simp)),
   grown_trans h1.2.1 (grown_of_below hb q1.ownBlock) h1.2.2, h1.2.2⟩
#print axioms NamesAt.step
end Go.Proofs.Ytccbocefgoccdaa

/- The places of a term, and rows of lists of numbers. -/
namespace Go.Proofs.Ytccbocefgoccdaa
open Go.RowKit
set_option linter.unusedSimpArgs false
set_option linter.unusedVariables false

/-- The places of a list of terms, counted from j on. -/
def plcL : Nat → List Tm → List (List Int)
  | _, [] => []
  | j, ⟨_, l⟩ :: r => ((([] : List Int) :: plcL 0 l).map fun p => (j : Int) :: p) ++ plcL (j + 1) r

/-- The places of a term. -/
def plcT (t : Tm) : List (List Int) := [] :: plcL 0 t.args

theorem plcL_cons (j : Nat) (t : Tm) (r : List Tm) : plcL j (t :: r) = ((plcT t).map fun p => (j : Int) :: p) ++ plcL (j + 1) r := by
  obtain ⟨s, l⟩ := t
  simp only [plcL, plcT]

theorem plcL_append (a b : List Tm) : ∀ j, plcL j (a ++ b) = plcL j a ++ plcL (j + a.length) b := by
  induction a with
  | nil => intro j; simp [plcL]
  | cons t r ih => intro j; rw [List.cons_append, plcL_cons, plcL_cons, ih]; simp [Nat.add_assoc, Nat.add_comm 1]

theorem plcL_take (l : List Tm) (k : Nat) (h : k < l.length) : plcL 0 (l.take (k + 1)) = plcL 0 (l.take k) ++ (plcT l[k]).map fun p => (k : Int) :: p := by
  rw [List.take_succ_eq_append_getElem h, plcL_append, plcL_cons]
  have : (l.take k).length = k := by rw [List.length_take]; omega
  simp [this, plcL]

theorem plcL_len (l : List Tm) : ∀ j, (plcL j l).length = sizeL l := by
  induction l using Tm.indL with
  | h0 => intro j; simp [plcL, sizeL]
  | h s l r ihl ihr => intro j; simp [plcL, sizeL, ihl, ihr]; omega

theorem plcT_len (t : Tm) : (plcT t).length = sizeL [t] := by
  obtain ⟨s, l⟩ := t
  simp [plcT, plcL_len, sizeL]; omega

/-- No place is longer than the term has knots. -/
theorem plc_deep (l : List Tm) : ∀ j, ∀ p ∈ plcL j l, p.length ≤ sizeL l := by
  induction l using Tm.indL with
  | h0 => intro j p hp; simp [plcL] at hp
  | h s l r ihl ihr =>
    intro j p hp
    simp only [plcL, List.mem_append, List.mem_map, List.mem_cons] at hp
    simp only [sizeL]
    rcases hp with ⟨p', h1, rfl⟩ | hp
    · rcases h1 with rfl | h1
      · simp; omega
      · have := ihl 0 p' h1; simp; omega
    · have := ihr _ p hp; omega

/-- These cells are these lists. -/
def RowP (w : World) (Z : Nat → Prop) : List (List Int) → List Value → Prop
  | [], xs => xs = []
  | z :: r, xs => ∃ u xs', xs = u :: xs' ∧ PV w Z u z ∧ RowP w Z r xs'

theorem RowP.len {w : World} {Z : Nat → Prop} : ∀ {l : List (List Int)} {xs : List Value}, RowP w Z l xs → xs.length = l.length
  | [], xs, h => by simp [RowP] at h; simp [h]
  | z :: l, xs, h => by obtain ⟨u, xs', rfl, _, h⟩ := h; simp [RowP.len h]
theorem RowP.append {w : World} {Z : Nat → Prop} : ∀ {l k : List (List Int)} {xs ys : List Value}, RowP w Z l xs → RowP w Z k ys → RowP w Z (l ++ k) (xs ++ ys)
  | [], k, xs, ys, h, h' => by simp [RowP] at h; subst h; simpa using h'
  | z :: l, k, xs, ys, h, h' => by obtain ⟨u, xs', rfl, hp, h⟩ := h; exact ⟨u, xs' ++ ys, rfl, hp, RowP.append h h'⟩
theorem RowP.imp {w w' : World} {Z Z' : Nat → Prop} (hs : ∀ u z, PV w Z u z → PV w' Z' u z) : ∀ {l : List (List Int)} {xs : List Value}, RowP w Z l xs → RowP w' Z' l xs
  | [], xs, h => h
  | z :: l, xs, h => by obtain ⟨u, xs', e, hp, h⟩ := h; exact ⟨u, xs', e, hs _ _ hp, RowP.imp hs h⟩
theorem RowP.get {w : World} {Z : Nat → Prop} : ∀ {l : List (List Int)} {xs : List Value}, RowP w Z l xs → ∀ i (h : i < l.length), ∃ u, xs[i]? = some u ∧ PV w Z u l[i]
  | [], xs, h, i, hi => by simp at hi
  | z :: l, xs, h, i, hi => by
    obtain ⟨u, xs', rfl, hp, h⟩ := h
    cases i with
    | zero => exact ⟨u, rfl, hp⟩
    | succ i => obtain ⟨u', h1, h2⟩ := RowP.get h i (by simpa using hi); exact ⟨u', by simpa using h1, h2⟩
theorem PV.one {w : World} {Z : Nat → Prop} {u : Value} {z : List Int} (h : PV w Z u z) : u.oneCell' = true := by obtain ⟨a, c, rfl, _⟩ := h; rfl

theorem Try.infoInt : (Try.prog.info? 3).map (fun i => (i.zero, i.size, i.bytes)) = some (some (.int .i64 0), 1, 8) := by kernel_rfl
theorem Try.infoInts : (Try.prog.info? 22).map (fun i => (i.zero, i.size, i.bytes)) = some (some (.slice none 0 0), 1, 24) := by kernel_rfl

/-- Out of a row that a call owns. -/
theorem pv_of_own {w : World} {N T : Nat} {v : Value} {l : List Int} (h : w.ownsRow N T 1 v l.length (l.map fun z => .int .i64 z)) : PV w (fun b => N ≤ b ∧ v.ownBlock = some b) v l := by
  have h' := h
  obtain ⟨_, h1⟩ := h
  rcases h1 with ⟨rfl, h0⟩ | ⟨g, cap, cur, hv, hg, hh, hnc, hcm, _⟩
  · have e : l = [] := List.length_eq_zero_iff.1 h0
    subst e
    exact ⟨none, 0, rfl, by simp, Or.inl rfl⟩
  · unfold maxLen at hcm
    refine ⟨some ⟨g, 0, none⟩, cap, hv, ⟨by omega, hnc⟩, ?_⟩
    by_cases h0 : l = []
    · exact Or.inl h0
    · have hp : 0 < l.length := List.length_pos_iff.2 h0
      obtain ⟨g2, cap2, hv2, _, _, hc⟩ := owned_val h' hp
      rw [hv] at hv2
      simp at hv2
      obtain ⟨rfl, rfl⟩ := hv2
      exact Or.inr ⟨g, 0, rfl, ⟨hg, by rw [hv]; rfl⟩, fun i hi => by rw [Nat.zero_add]; exact hc i _ (by simp [hi])⟩

/-- What a list yields to an append. -/
theorem pv_src {w : World} {Z : Nat → Prop} {u : Value} {z : List Int} (h : PV w Z u z) : Src Try.prog 1 22 u z.length (z.map fun x => .int .i64 x) w := by
  obtain ⟨a, c, rfl, _, h⟩ := h
  have one : ∀ v ∈ (z.map fun x => Value.int .i64 x), v.oneCell' = true := fun v hv => by obtain ⟨x, _, rfl⟩ := List.mem_map.1 hv; rfl
  rcases h with rfl | ⟨b, o, rfl, _, hc⟩
  · cases a with
    | none => simpa using Src.ofNil w Try.underlying22 c
    | some a => exact Src.ofSlice w Try.underlying22 a _ c _ (by simp) (by simp) one
  · refine Src.ofSlice w Try.underlying22 ⟨b, o, none⟩ _ c _ (by simp) (fun j v hj => ?_) one
    rw [List.getElem?_map] at hj
    cases hz : z[j]? with
    | none => rw [hz] at hj; cases hj
    | some x =>
      rw [hz] at hj
      simp at hj
      subst hj
      obtain ⟨hlt, rfl⟩ := List.getElem?_eq_some_iff.1 hz
      have := hc j hlt
      by_cases h0 : j = 0
      · subst h0; first | (simp [Addr.add]; done) | simpa [Addr.add] using this
      · first | (simp [Addr.add, h0]; done) | simpa [Addr.add, h0] using this
#print axioms pv_src
#print axioms pv_of_own
end Go.Proofs.Ytccbocefgoccdaa

/- What comes of putting a term at a place. -/
namespace Go.Proofs.Ytccbocefgoccdaa

/-- The i-th of a list turned, counted from j on. -/
def putL (f : Tm → Tm) (i : Int) : Nat → List Tm → List Tm
  | _, [] => []
  | j, a :: r => (if (j : Int) = i then f a else a) :: putL f i (j + 1) r

/-- x at a place. -/
def putT (x : Tm) : List Int → Tm → Tm
  | [], _ => x
  | i :: r, t => ⟨t.name, putL (putT x r) i 0 t.args⟩

theorem putL_length (f : Tm → Tm) (i : Int) : ∀ (l : List Tm) (j : Nat), (putL f i j l).length = l.length
  | [], _ => rfl
  | a :: r, j => by simp [putL, putL_length f i r]

theorem putL_get (f : Tm → Tm) (i : Int) : ∀ (l : List Tm) (j k : Nat) (h : k < l.length), (putL f i j l)[k]'(by rw [putL_length]; exact h) = if ((j + k : Nat) : Int) = i then f l[k] else l[k]
  | [], j, k, h => by simp at h
  | a :: r, j, 0, h => by simp [putL]
  | a :: r, j, k + 1, h => by
    have := putL_get f i r (j + 1) k (by simpa using h)
    simp only [putL, List.getElem_cons_succ, this]
    rw [show j + 1 + k = j + (k + 1) by omega]

theorem putL_take (f : Tm → Tm) (i : Int) (l : List Tm) (k : Nat) (h : k < l.length) : (putL f i 0 l).take (k + 1) = (putL f i 0 l).take k ++ [if (k : Int) = i then f l[k] else l[k]] := by
  rw [List.take_succ_eq_append_getElem (by rw [putL_length]; exact h), putL_get f i l 0 k h, Nat.zero_add]
#print axioms putL_take
end Go.Proofs.Ytccbocefgoccdaa

/- Places of terms: what stands there, and what is put there. -/
namespace Go.Proofs.Ytccbocefgoccdaa
open Go.RowKit
set_option linter.unusedSimpArgs false
set_option linter.unusedVariables false

theorem plcL_mem : ∀ (l : List Tm) (j : Nat) (p : List Int), p ∈ plcL j l → ∃ (k : Nat) (h : k < l.length) (p' : List Int), p = ((j + k : Nat) : Int) :: p' ∧ p' ∈ plcT l[k]
  | [], j, p, h => by simp [plcL] at h
  | t :: r, j, p, h => by
    rw [plcL_cons, List.mem_append, List.mem_map] at h
    rcases h with ⟨p', hp', rfl⟩ | h
    · exact ⟨0, by simp, p', by simp, hp'⟩
    · obtain ⟨k, hk, p', e, hp'⟩ := plcL_mem r (j + 1) p h
      exact ⟨k + 1, by simpa using hk, p', by rw [e]; congr 1; omega, by simpa using hp'⟩

theorem plc_at : ∀ (p : List Int) (t : Tm), p ∈ plcT t → ∃ y, atT t p = some y
  | [], t, _ => ⟨t, rfl⟩
  | i :: r, t, h => by
    unfold plcT at h
    rcases List.mem_cons.1 h with h | h
    · cases h
    · obtain ⟨k, hk, p', e, hp'⟩ := plcL_mem t.args 0 _ h
      simp at e
      obtain ⟨rfl, rfl⟩ := e
      obtain ⟨y, hy⟩ := plc_at r t.args[k] hp'
      refine ⟨y, ?_⟩
      rw [atT, dif_pos ⟨by omega, by simpa using hk⟩]
      simpa using hy

theorem errL_all : ∀ (l : List Tm), errL l = 0 ↔ ∀ t ∈ l, errL [t] = 0
  | [] => by simp [errL]
  | t :: r => by
    rw [errL_cons]
    by_cases h : errL [t] = 0
    · rw [if_pos h, errL_all r]
      simp [h]
    · rw [if_neg h]
      simp [h]

theorem errL_one (t : Tm) (h : errL [t] = 0) : nameB t.name = true ∧ errL t.args = 0 ∧ (0 < t.args.length → varB t.name = false) := by
  obtain ⟨s, l⟩ := t
  have hn : nameB s = true := by
    cases hn : nameB s with
    | true => rfl
    | false => simp [errL, hn] at h
  have hl : errL l = 0 ∧ (0 < l.length → varB s = false) := by
    by_cases hl : 0 < l.length
    · have hv : varB s = false := by
        cases hv : varB s with
        | false => rfl
        | true => simp [errL, hn, hv, hl] at h
      refine ⟨?_, fun _ => hv⟩
      simp only [errL, hn, hv] at h
      by_cases h0 : errL l = 0
      · exact h0
      · simp [h0] at h
    · have e : l = [] := List.length_eq_zero_iff.1 (by omega)
      subst e
      exact ⟨by simp [errL], fun h => absurd h (by simp)⟩
  exact ⟨hn, hl⟩

theorem errL_node {s : ByteArray} {l : List Tm} (h : nameB s = true) (hv : 0 < l.length → varB s = false) (hl : errL l = 0) : errL [(⟨s, l⟩ : Tm)] = 0 := by
  by_cases h0 : 0 < l.length
  · simp [errL, h, hv h0, hl]
  · have e : l = [] := List.length_eq_zero_iff.1 (by omega)
    subst e
    simp [errL, h]

theorem atT_cons {t y : Tm} {i : Int} {r : List Int} (h : atT t (i :: r) = some y) : ∃ (k : Nat) (hk : k < t.args.length), i = (k : Int) ∧ atT t.args[k] r = some y := by
  rw [atT] at h
  split at h
  · rename_i hc
    exact ⟨i.toNat, hc.2, by omega, h⟩
  · cases h
theorem atT_mk {t y : Tm} {k : Nat} {r : List Int} (hk : k < t.args.length) (h : atT t.args[k] r = some y) : atT t ((k : Int) :: r) = some y := by
  rw [atT, dif_pos ⟨by omega, by simpa using hk⟩]
  simpa using h

theorem atT_err : ∀ (p : List Int) (t y : Tm), errL [t] = 0 → atT t p = some y → errL [y] = 0
  | [], t, y, he, h => by cases h; exact he
  | i :: r, t, y, he, h => by
    obtain ⟨k, hk, rfl, h2⟩ := atT_cons h
    exact atT_err r _ y ((errL_all t.args).1 (errL_one t he).2.1 _ (List.getElem_mem hk)) h2

theorem put_at : ∀ (p : List Int) (t y : Tm), atT t p = some y → putT y p t = t
  | [], t, y, h => by cases h; rfl
  | i :: r, t, y, h => by
    obtain ⟨k, hk, rfl, h2⟩ := atT_cons h
    have ih := put_at r _ y h2
    have e : putL (putT y r) (k : Int) 0 t.args = t.args := by
      refine List.ext_getElem (putL_length _ _ _ _) fun n h1 h3 => ?_
      rw [putL_get _ _ _ _ _ h3]
      by_cases hn : n = k
      · subst hn; simp [ih]
      · rw [if_neg (by omega)]
    rw [putT, e]
    cases t
    rfl

theorem at_put (x : Tm) : ∀ (p : List Int) (t y : Tm), atT t p = some y → atT (putT x p t) p = some x
  | [], t, y, h => rfl
  | i :: r, t, y, h => by
    obtain ⟨k, hk, rfl, h2⟩ := atT_cons h
    have ih := at_put x r _ y h2
    rw [putT]
    refine atT_mk (by rw [putL_length]; exact hk) ?_
    rw [putL_get _ _ _ _ _ hk]
    simpa using ih

theorem err_put (x : Tm) (hx : errL [x] = 0) : ∀ (p : List Int) (t y : Tm), errL [t] = 0 → atT t p = some y → errL [putT x p t] = 0
  | [], t, y, _, h => hx
  | i :: r, t, y, he, h => by
    obtain ⟨k, hk, rfl, h2⟩ := atT_cons h
    obtain ⟨e1, e2, e3⟩ := errL_one t he
    rw [putT]
    refine errL_node e1 (by rw [putL_length]; exact e3) ((errL_all _).2 fun a ha => ?_)
    obtain ⟨n, hn, rfl⟩ := List.getElem_of_mem ha
    have hn' : n < t.args.length := by rw [putL_length] at hn; exact hn
    rw [putL_get _ _ _ _ _ hn']
    have hea := (errL_all t.args).1 e2 _ (List.getElem_mem hn')
    by_cases hnk : n = k
    · subst hnk
      simp only [Nat.zero_add, if_true]
      exact err_put x hx r _ y hea h2
    · rw [if_neg (by omega)]
      exact hea

theorem putL_none (f : Tm → Tm) (i : Int) : ∀ (l : List Tm) (j : Nat), i < (j : Int) → putL f i j l = l
  | [], j, h => rfl
  | a :: r, j, h => by
    rw [putL, if_neg (by omega), putL_none f i r (j + 1) (by omega)]
theorem putL_size (f : Tm → Tm) (i : Int) (M : Nat) : ∀ (l : List Tm) (j : Nat), (∀ a ∈ l, sizeL [f a] ≤ sizeL [a] + M) → sizeL (putL f i j l) ≤ sizeL l + M
  | [], j, h => by simp [putL, sizeL]
  | a :: r, j, h => by
    have e1 : ∀ b (q : List Tm), sizeL (b :: q) = sizeL [b] + sizeL q := fun b q => sizeL_append [b] q
    rw [putL, e1, e1 a r]
    by_cases hj : (j : Int) = i
    · rw [if_pos hj, putL_none f i r (j + 1) (by omega)]
      have := h a (by simp)
      omega
    · rw [if_neg hj]
      have := putL_size f i M r (j + 1) (fun b hb => h b (by simp [hb]))
      omega
theorem size_put (x : Tm) : ∀ (p : List Int) (t : Tm), sizeL [putT x p t] ≤ sizeL [t] + sizeL [x]
  | [], t => by simp [putT]
  | i :: r, t => by
    obtain ⟨s, l⟩ := t
    have h := putL_size (putT x r) i (sizeL [x]) l 0 (fun a _ => size_put x r a)
    have e : ∀ q : List Tm, sizeL [(⟨s, q⟩ : Tm)] = 1 + sizeL q := fun q => by simp [sizeL]
    rw [putT, e, e]
    show 1 + sizeL (putL (putT x r) i 0 l) ≤ _
    omega
#print axioms at_put
#print axioms size_put
end Go.Proofs.Ytccbocefgoccdaa

/- Plain: rules; what is wrong with them; what a rule puts in the place of a term; what one step makes of a term. -/
namespace Go.Proofs.Ytccbocefgoccdaa
open Go.RowKit
set_option linter.unusedSimpArgs false
set_option linter.unusedVariables false

theorem inB_memR {x : ByteArray} {l : List ByteArray} (h : inB x l = true) : x ∈ l := by
  unfold inB at h
  rw [List.any_eq_true] at h
  obtain ⟨y, hy, e⟩ := h
  have e2 : y = x := bytes_inj (by simpa using e)
  rw [← e2]; exact hy
/-- What is wrong with a rule. -/
def ruleE (p : Pr) : Int := if twoE p.l p.r = 0 then (if varB p.l.name = true then 2 else if (varsP [] (preL [p.r])).all (fun n => inB n (varsP [] (preL [p.l]))) = true then 0 else 15) else twoE p.l p.r
/-- What is wrong with the first that is wrong. -/
def rmT (ls : List Pr) : Nat → Int
  | 0 => 0
  | k + 1 => if rmT ls k = 0 then (match ls[k]? with | some p => ruleE p | none => 0) else rmT ls k
def rulesE (ls : List Pr) : Int := if 40 < ls.length then 3 else rmT ls ls.length
theorem rmT_stays {ls : List Pr} {k : Nat} (h : rmT ls k ≠ 0) : ∀ n, k ≤ n → rmT ls n = rmT ls k
  | 0, hn => by have : k = 0 := by omega
                subst this; rfl
  | n + 1, hn => by
    by_cases e : k = n + 1
    · subst e; rfl
    · have ih := rmT_stays h n (by omega)
      rw [rmT, if_neg (by rw [ih]; exact h)]
      exact ih
theorem rmT_next {ls : List Pr} {k : Nat} (hk : k < ls.length) (h0 : rmT ls k = 0) : rmT ls (k + 1) = ruleE ls[k] := by rw [rmT, if_pos h0, List.getElem?_eq_getElem hk]
theorem rmT_err {ls : List Pr} {k : Nat} (hk : k < ls.length) (h40 : ¬ 40 < ls.length) (h0 : rmT ls k = 0) (hne : ruleE ls[k] ≠ 0) : rulesE ls = ruleE ls[k] := by
  unfold rulesE
  rw [if_neg h40]
  have h1 := rmT_next hk h0
  rw [← h1]
  exact rmT_stays (by rw [h1]; exact hne) _ (by omega)
theorem rulesE_len {ls : List Pr} (h : rulesE ls = 0) : ls.length ≤ 40 := by
  unfold rulesE at h
  split at h
  · cases h
  · omega
theorem rulesE_all {ls : List Pr} (h : rulesE ls = 0) : ∀ p ∈ ls, ruleE p = 0 := by
  intro p hp
  obtain ⟨k, hk, rfl⟩ := List.getElem_of_mem hp
  have hl := rulesE_len h
  unfold rulesE at h
  rw [if_neg (by omega)] at h
  have h0 : ∀ n, n ≤ ls.length → rmT ls n = 0 := fun n hn => by
    by_cases e : rmT ls n = 0
    · exact e
    · have := rmT_stays e _ hn
      rw [this] at h
      exact absurd h e
  have h1 := rmT_next hk (h0 k (by omega))
  rw [h0 (k + 1) (by omega)] at h1
  exact h1.symm
theorem ruleE_parts {p : Pr} (h : ruleE p = 0) : mayE p.l = 0 ∧ mayE p.r = 0 ∧ varB p.l.name = false ∧ ∀ n ∈ varsP [] (preL [p.r]), n ∈ varsP [] (preL [p.l]) := by
  unfold ruleE at h
  split at h
  · rename_i h1
    split at h
    · cases h
    · rename_i h2
      split at h
      · rename_i h3
        unfold twoE at h1
        split at h1
        · rename_i h4
          refine ⟨h4, h1, by simpa using h2, fun n hn => ?_⟩
          exact inB_memR (List.all_eq_true.1 h3 n hn)
        · rename_i h4; exact absurd h1 h4
      · cases h
  · rename_i h1; exact absurd h h1
theorem forT_ofR {l : List Bd} (ha : ApartB l) {d : Bd} (hd : d ∈ l) : forT l d.nm = some d.t := by
  induction l with
  | nil => cases hd
  | cons a r ih =>
    obtain ⟨h1, h2⟩ := List.pairwise_cons.1 ha
    rcases List.mem_cons.1 hd with rfl | hd
    · simp [forT]
    · rw [forT, if_neg (h1 d hd)]
      exact ih h2 hd
theorem onL_congr {a b : List Bd} (h : ∀ n, forT a n = forT b n) : ∀ l : List Tm, onL a l = onL b l := by
  intro l
  induction l using Tm.indL with
  | h0 => simp [onL]
  | h s l r ihl ihr =>
    rw [onL, onL, ihl, ihr]
    congr 1
    unfold onN
    rw [h s]
theorem onT_congr {a b : List Bd} (h : ∀ n, forT a n = forT b n) (t : Tm) : onT a t = onT b t := by
  unfold onT onN
  rw [h, onL_congr h]
theorem forT_permR {a b : List Bd} (hp : a.Perm b) (hb : ApartB b) (n : ByteArray) : forT a n = forT b n := by
  have key : ∀ {a b : List Bd} {x : Tm}, a.Perm b → ApartB b → forT a n = some x → forT b n = some x := fun {a b x} hp hb h => by
    have hm : ∀ {l : List Bd}, forT l n = some x → ∃ d ∈ l, d.nm = n ∧ d.t = x := fun {l} => by
      induction l with
      | nil => intro h; simp [forT] at h
      | cons d r ih =>
        intro h
        rw [forT] at h
        split at h
        · rename_i e; exact ⟨d, by simp, e, by simpa using h⟩
        · obtain ⟨d', h1, h2⟩ := ih h
          exact ⟨d', by simp [h1], h2⟩
    obtain ⟨d, hd, rfl, rfl⟩ := hm h
    exact forT_ofR hb (hp.mem_iff.1 hd)
  cases h1 : forT a n with
  | some x => exact (key hp hb h1).symm
  | none =>
    cases h2 : forT b n with
    | none => rfl
    | some x =>
      have ha : ApartB a := ApartB.perm hb hp
      rw [key hp.symm ha h2] at h1
      cases h1
/-- What a rule puts in the place of a term. -/
def fitT (p : Pr) (x : Tm) : Option Tm := (mtT p.l x []).map fun h => onT h p.r
/-- What the rules make of a term at a place. -/
def stAt (rs : List Pr) (t : Tm) (p : List Int) : List Tm := match atT t p with
  | some x => rs.filterMap fun r => (fitT r x).map fun y => putT y p t
  | none => []
/-- What one step makes of a term. -/
def stAll (rs : List Pr) (t : Tm) : List Tm := (plcT t).flatMap (stAt rs t)
end Go.Proofs.Ytccbocefgoccdaa

/- Walks: a copy of a term. -/
namespace Go.Proofs.Ytccbocefgoccdaa
open Go.RowKit
set_option linter.unusedSimpArgs false
set_option linter.unusedVariables false

theorem below3 {w : World} (o1 o2 o3 : Obj) : Below w.heap.size w (((w.alloc o1).alloc o2).alloc o3) := (below2 o1 o2).alloc (by simp; omega) o3

theorem below4 {w : World} (o1 o2 o3 o4 : Obj) : Below w.heap.size w ((((w.alloc o1).alloc o2).alloc o3).alloc o4) := (below3 o1 o2 o3).alloc (by simp; omega) o4

theorem copy_step {w wr w1 w3 : World} {T k : Nat} {u : Value} {l : List Tm} {xs : List Value} {o1 o2 : Obj} {s s' : ByteArray} {a1 : Option Addr} {n1 c1 g cap : Nat} {c0 : Array Value} (hrow : Row wr (w.heap.size + 3) T (fun _ => False) u (l.take k) xs) (hb : Below w.heap.size w wr)
    (h1 : Blk wr (w.heap.size + 1) c0 T) (h2 : Blk wr (w.heap.size + 1 + 1) #[.string s, u] T) (hsz : w.heap.size + 3 ≤ wr.heap.size) (hlt : k < l.length)
    (hb1 : Below (wr.alloc o1).drew.heap.size (wr.alloc o1).drew w1) (ht : TV w1 (fun b => (wr.alloc o1).drew.heap.size ≤ b) (.agg #[.string s', .slice a1 n1 c1]) l[k])
    (hown : w3.ownsRow (w.heap.size + 3) T 2 (.slice (some ⟨g, 0, none⟩) ((l.take k).length + 1) cap) ((l.take k).length + 1) (xs ++ [.string s', .slice a1 n1 c1])) (hg : (w1.alloc o2).grownBy w3 u.ownBlock) (hat : u.ownBlock = some g ∨ g = (w1.alloc o2).heap.size) :
    let w4 := w3.setCell ⟨w.heap.size + 1 + 1, 1, none⟩ (.slice (some ⟨g, 0, none⟩) ((l.take k).length + 1) cap)
    Row w4 (w.heap.size + 3) T (fun _ => False) (.slice (some ⟨g, 0, none⟩) ((l.take k).length + 1) cap) (l.take (k + 1)) (xs ++ [.string s', .slice a1 n1 c1]) ∧ Below w.heap.size w w4 ∧ Blk w4 (w.heap.size + 1) c0 T ∧ Blk w4 (w.heap.size + 1 + 1) #[.string s, .slice (some ⟨g, 0, none⟩) ((l.take k).length + 1) cap] T ∧ w.heap.size + 3 ≤ w4.heap.size := by
  intro w4
  have hbb : Below wr.heap.size wr (wr.alloc o1).drew := ((Below.refl _ _).alloc (Nat.le_refl _) o1).drew
  have hr1 := hrow.below hbb
  have hlt' := hrow.own.lt
  have hs1 := hb1.size
  have hsg := hg.size
  simp at hs1 hsg
  have hp := hr1.push (w1 := w1) (w2 := w1.alloc o2) (w3 := w3) (by simp; omega) (fun _ h => h.elim) hb1 (ht.mono fun b h _ => Or.inr h) o2 rfl hown hg hat
  have hw3 : Below w.heap.size w w3 := (((hb.trans (hbb.mono (by omega))).trans (hb1.mono (by simp; omega))).alloc (by omega) o2).grown hg (by simp; omega) (fun j hj => by have := (hlt' j hj).1; omega)
  have hA : Below w.heap.size w w4 := hw3.setCell (p := ⟨w.heap.size + 1 + 1, 1, none⟩) (by simp; omega) _
  refine ⟨?_, hA, (copy_blk h1 hb1 hg (fun e => by have := (hlt' _ e.symm).1; omega)).setOther _ _ (by omega), ?_, by simp [w4, World.setCell]; omega⟩
  · rw [List.take_succ_eq_append_getElem hlt]
    exact hp.setCell (by omega) (fun h => h) _
  · exact (copy_blk h2 hb1 hg (fun e => by have := (hlt' _ e.symm).1; omega)).set 1 _

set_option maxHeartbeats 1000000 in
theorem copyOf_any (t : Tm) : ∀ (v : Value) (w : World) (X : Nat → Prop), TV w X v t → sizeL [t] ≤ 1000000 →
    Calls Try.prog 19 #[v] w fun e w' => ∃ v', e = .returned v' ∧ TV w' (fun b => w.heap.size ≤ b) v' t ∧ Below w.heap.size w w' := by
  induction t using Tm.ind with
  | h s l ih =>
    intro v w X hv hsm
    have IH := hide ih
    clear ih
    obtain ⟨a, c, rfl, hs⟩ := hv
    have hl := hs.1
    have hz : sizeL [(⟨s, l⟩ : Tm)] = 1 + sizeL l := by simp [sizeL]
    rw [hz] at hsm
    clear hz
    have hlen := sizeL_len l
    obtain ⟨i0, hi, hz0, hz1, hz2⟩ := info_parts Try.infoTerm
    go_enter Try.func19, Try.ntmps19
    go_wp2_with fail
    go_loopw [12] (fun i wr => ∃ (k : Nat) (u : Value) (xs : List Value), k ≤ l.length ∧ i = .int .i64 k ∧ Row wr (w.heap.size + 3) 27 (fun _ => False) u (l.take k) xs ∧ Below w.heap.size w wr ∧ Blk wr (w.heap.size + 1) #[.string ⟨#[]⟩, .slice none 0 0] 27 ∧ Blk wr (w.heap.size + 1 + 1) #[.string s, u] 27 ∧ w.heap.size + 3 ≤ wr.heap.size) (fun i wr => l.length - (intOf i).toNat)
    case atStart =>
      refine ⟨0, .slice none 0 0, [], Nat.zero_le _, rfl, Row.start _ _ _ _, below3 _ _ _, ?_, ?_, by simp⟩
      · have := ((Blk.new (w.alloc (.cells #[.string s, .slice a l.length c] 27)) #[.string ⟨#[]⟩, .slice none 0 0] 27)).alloc (.cells #[.string s, .slice none 0 0] 27)
        simpa using this
      · have := Blk.new ((w.alloc (.cells #[.string s, .slice a l.length c] 27)).alloc (.cells #[.string ⟨#[]⟩, .slice none 0 0] 27)) #[.string s, .slice none 0 0] 27
        simpa using this
    case round =>
      obtain ⟨k, u, xs, hk, rfl, hrow, hb, hbl1, hbl2, hsz⟩ := hrel
      have HROW := hide hrow
      have HBL1 := hide hbl1
      have HBL2 := hide hbl2
      have HB := hide hb
      clear hrow hbl1
      by_cases hlt : k < l.length
      · obtain ⟨b, o, a', c', rfl, d0, d1, hx⟩ := hs.get hb (fun _ _ h => h) k hlt
        have hc2 : ∀ o, (wr.alloc o).cell? ⟨w.heap.size + 1 + 1, 1, none⟩ = some u := fun o => (hbl2.alloc o).cell 1
        have HX := hide hx
        have hszk : sizeL [l[k]] ≤ 1000000 := by
          have := sizeL_take l k hlt; have := sizeL_take_le l (k + 1); omega
        clear hbl2 hb hx
        go_wp2_with fail
        go_region_law (first
          | (go_simp; go_at_call 19; refine (IH.out _ (List.getElem_mem hlt) _ _ X (by exact (HX.out.alloc _).later (below_drewN (Below.refl _ _) 1)) hszk).mono ?_; rintro e w1 ⟨v1, rfl, ht1, hb1⟩; obtain ⟨a1, c1, rfl, hs1⟩ := ht1; have hc3 : ∀ o, (w1.alloc o).cell? ⟨w.heap.size + 1 + 1, 1, none⟩ = some u := fun o => ((((HBL2.out.alloc _).drewN 1).below hb1 (by simp; omega)).alloc o).cell 1; have hc4 : w1.cell? ⟨w.heap.size + 1 + 1, 1, none⟩ = some u := (((HBL2.out.alloc _).drewN 1).below hb1 (by simp; omega)).cell 1)
          | (refine step_append_lies _ rfl _ _ 25 rfl (w.heap.size + 3) 27 i0 _ 2 40 Try.underlying25 hi hz0 hz1 hz2 rfl (by decide) u (l.take k).length xs rfl (by exact (((HROW.out.below ((Below.refl _ _).alloc (Nat.le_refl _) _)).below (below_drewN (Below.refl _ _) 1)).below hb1).own.alloc _) ⟨w1.heap.size, 0, none⟩ 1 1 [.string l[k].name, .slice a1 l[k].args.length c1] rfl rfl (cell_two_new _ _ _ _) (fun x hx => by simp at hx; rcases hx with rfl | rfl <;> rfl) (by decide) (by unfold maxLen; simp; omega) (by simp; omega) (by have := hb1.size; simp at this ⊢; omega) _ rfl ?_; intro g cap w3 hown3 hgrow3 hat3 hlt3; have hB3 := hide (copy_blk HBL2.out hb1 hgrow3 (HROW.out.ne (Nat.lt_succ_self _))); have hc5 : w3.cell? ⟨w.heap.size + 1 + 1, 1, none⟩ = some u := hB3.out.cell 1; have hf5 := hB3.out.frozen 1))
        all_goals
          have HFIN := hide (copy_step HROW.out HB.out HBL1.out HBL2.out hsz hlt hb1 ⟨a1, c1, rfl, hs1⟩ hown3 hgrow3 hat3)
          clear hown3 hgrow3 hat3 hc2 hc3 hc4
          go_wp2_with fail
          go_roundw
          case rel =>
            have hkl : (l.take k).length = k := by simp; omega
            obtain ⟨r1, r2, r3, r4, r5⟩ := HFIN.out
            simp only [hkl] at r1 r2 r3 r4 r5
            exact ⟨k + 1, _, _, by omega, by go_num, r1, r2, r3, r4, r5⟩
          case measure => simp [intOf]; omega
      · have htk : l.take k = l := List.take_of_length_le (by omega)
        have hc0 := hbl2.cell 0
        have hc1 := hbl2.cell 1
        have hr0 := HBL1.out.cell 0
        have hr1 := HBL1.out.cell 1
        have hrf := HBL1.out.frozen
        obtain ⟨a9, c9, hu9, hsl9⟩ := HROW.out.sl
        rw [htk] at hu9 hsl9
        have HSL := hide hsl9
        subst hu9
        clear hsl9 htk hbl2
        go_wp2_with fail
        refine bodyPost_ret (v := .agg #[.string s, .slice a9 l.length c9]) (by simp [results, Try.results19, go_sem, hr0, hr1, World.cell?_setCell_same, World.cell?_setCell_other]) rfl ⟨_, rfl, ?_, ?_⟩
        · refine ⟨a9, c9, rfl, ?_⟩
          have hk9 : Sl wr (fun b => w.heap.size + 3 ≤ b) a9 l := HSL.out.mono fun b h _ => h.elim False.elim id
          exact ((hk9.kept fun b hb => by rw [Below.heap_setCell _ _ _ _ (by simp; omega), Below.heap_setCell _ _ _ _ (by simp; omega)]).mono fun b hb _ => by omega)
        · exact (HB.out.setCell (by simp) _).setCell (by simp) _
#print axioms copyOf_any
end Go.Proofs.Ytccbocefgoccdaa


/- Walks: what stands for a variable, as the document says. -/
namespace Go.Proofs.Ytccbocefgoccdaa
open Go.RowKit
set_option linter.unusedSimpArgs false
set_option linter.unusedVariables false
set_option maxRecDepth 8000

def ForPost (w : World) (X : Nat → Prop) (l : List Bd) (n : ByteArray) (e : Ending) (w' : World) : Prop :=
  Below w.heap.size w w' ∧ ((∃ t a c, forT l n = some t ∧ e = .returned (.tuple #[.agg #[.string t.name, .slice a t.args.length c], .bool true]) ∧ Sl w' X a t.args) ∨ (forT l n = none ∧ e = .returned (.tuple #[.agg #[.string ⟨#[]⟩, .slice none 0 0], .bool false])))

def FoInv (l : List Bd) (n : ByteArray) (w0 : World) (v : Value) (wr : World) : Prop := ∃ k : Nat, k ≤ l.length ∧ v = .int .i64 (k : Int) ∧ forT (l.take k) n = none ∧ wr = w0

end Go.Proofs.Ytccbocefgoccdaa


/- Walks: two bindings by their names. -/
namespace Go.Proofs.Ytccbocefgoccdaa
open Go.RowKit
set_option linter.unusedSimpArgs false
set_option linter.unusedVariables false
set_option maxRecDepth 8000

/-- How two texts stand to each other. -/
def cmpN (a b : ByteArray) : Int := if ltB a b = true then -1 else if ltB b a = true then 1 else 0
theorem isNaN_any (a : ByteArray) (w : World) : Calls Try.prog 98 #[.string a] w fun e w' => e = .returned (.bool false) ∧ w' = w := by
  go_enter Try.func98, Try.ntmps98
  go_wp2_with fail
  go_ret
  exact ⟨by simp, rfl⟩
theorem compare_any (a b : ByteArray) (w : World) : Calls Try.prog 93 #[.string a, .string b] w fun e w' => e = .returned (.int .i64 (cmpN a b)) ∧ w' = w := by
  cases h1 : Op.bytesLess a.toList b.toList with
  | true =>
    have HN : Hid (cmpN a b = -1) := by unfold Hid cmpN ltB; rw [h1]; rfl
    go_enter Try.func93, Try.ntmps93
    go_wp2_with (go_at_call 98; refine (isNaN_any _ _).mono ?_; rintro e w' ⟨rfl, rfl⟩)
    go_ret
    exact ⟨by rw [HN.out]; rfl, rfl⟩
  | false =>
    by_cases he : a = b
    · have HN : Hid (cmpN a b = 0) := by unfold Hid cmpN ltB; rw [h1, he, bl_irrefl]; rfl
      have h2 : (a.toList == b.toList) = true := bytes_yes he
      clear he
      go_enter Try.func93, Try.ntmps93
      go_wp2_with (go_at_call 98; refine (isNaN_any _ _).mono ?_; rintro e w' ⟨rfl, rfl⟩)
      go_ret
      exact ⟨by rw [HN.out]; rfl, rfl⟩
    · have HN : Hid (cmpN a b = 1) := by
        unfold Hid cmpN
        have h3 : ltB b a = true := by
          cases h : ltB b a with
          | true => rfl
          | false => exact absurd (ltB_conn h1 h) he
        rw [if_neg (by unfold ltB; rw [h1]; simp), if_pos h3]
      have h2 : (a.toList == b.toList) = false := bytes_no he
      clear he
      go_enter Try.func93, Try.ntmps93
      go_wp2_with (go_at_call 98; refine (isNaN_any _ _).mono ?_; rintro e w' ⟨rfl, rfl⟩)
      go_ret
      exact ⟨by rw [HN.out]; rfl, rfl⟩
#print axioms compare_any
end Go.Proofs.Ytccbocefgoccdaa

/- Maps by texts, as they lie in memory. -/
namespace Go.Proofs.Ytccbocefgoccdaa
open Go.RowKit
set_option linter.unusedSimpArgs false
set_option linter.unusedVariables false

def mapGet : List (ByteArray × Value) → ByteArray → Option Value
  | [], _ => none
  | p :: r, n => if p.1 = n then some p.2 else mapGet r n

/-- The entries' stamps: each below the clock, none twice. -/
def Stamps (es : Array MapEntry) (clk : Nat) : Prop := (∀ x ∈ es.toList, x.born < clk) ∧ (es.toList.map (·.born)).Nodup
/-- The map at r has these keys, in the order in which they came, and what stands for them. -/
def MapAt (w : World) (r : Nat) (L : List (ByteArray × Value)) : Prop :=
  ∃ es clk, w.heap[r]? = some (.map es clk) ∧ es.toList.map (fun e => (e.key, e.val)) = L.map (fun p => (Value.string p.1, p.2)) ∧ Stamps es clk
theorem Stamps.push {es : Array MapEntry} {clk : Nat} (h : Stamps es clk) (k v : Value) : Stamps (es.push { key := k, val := v, born := clk }) (clk + 1) := by
  obtain ⟨h1, h2⟩ := h
  refine ⟨fun x hx => ?_, ?_⟩
  · rw [Array.toList_push, List.mem_append] at hx
    rcases hx with hx | hx
    · have := h1 x hx; omega
    · have e : x = { key := k, val := v, born := clk } := by simpa using hx
      subst e; exact Nat.lt_succ_self _
  · rw [Array.toList_push, List.map_append, List.nodup_append]
    refine ⟨h2, by simp, fun a ha b hb => ?_⟩
    obtain ⟨x, hx, rfl⟩ := List.mem_map.1 ha
    have := h1 x hx
    have e : b = clk := by simpa using hb
    omega
theorem map_born_modify (j : Nat) (k v : Value) : ∀ l : List MapEntry, (l.modify j fun e => { e with key := k, val := v }).map (·.born) = l.map (·.born) := by
  induction j with
  | zero => intro l; cases l <;> simp
  | succ j ih => intro l; cases l with
    | nil => simp
    | cons a r => simp [List.modify_succ_cons, ih r]
theorem Stamps.modify {es : Array MapEntry} {clk : Nat} (h : Stamps es clk) (j : Nat) (k v : Value) : Stamps (es.modify j fun e => { e with key := k, val := v }) clk := by
  obtain ⟨h1, h2⟩ := h
  have e := map_born_modify j k v es.toList
  refine ⟨fun x hx => ?_, by rw [Array.toList_modify, e]; exact h2⟩
  rw [Array.toList_modify] at hx
  have : x.born ∈ es.toList.map (·.born) := by rw [← e]; exact List.mem_map.2 ⟨x, hx, rfl⟩
  obtain ⟨y, hy, hb⟩ := List.mem_map.1 this
  rw [← hb]; exact h1 y hy

theorem MapAt.new (w : World) : MapAt (w.alloc (.map #[] 0)) w.heap.size [] := ⟨#[], 0, heap_alloc_new w _, rfl, by simp [Stamps]⟩
theorem MapAt.lt {w : World} {r : Nat} {L : List (ByteArray × Value)} (h : MapAt w r L) : r < w.heap.size := by
  obtain ⟨es, clk, h, _⟩ := h
  exact (Array.getElem?_eq_some_iff.1 h).1
theorem MapAt.kept {w w' : World} {r : Nat} {L : List (ByteArray × Value)} (h : MapAt w r L) (hk : w'.heap[r]? = w.heap[r]?) : MapAt w' r L := by
  obtain ⟨es, clk, h1, h2⟩ := h
  exact ⟨es, clk, hk.trans h1, h2⟩
theorem MapAt.below {w w' : World} {r B : Nat} {L : List (ByteArray × Value)} (h : MapAt w r L) (hb : Below B w w') (hB : r < B) : MapAt w' r L := h.kept (hb.block r hB)

theorem findNow_map (n : ByteArray) : ∀ (l : List MapEntry) (L : List (ByteArray × Value)) (i : Nat), l.map (fun e => (e.key, e.val)) = L.map (fun p => (Value.string p.1, p.2)) →
    (mapGet L n = none → Instr.findNow .string (.string n) l i = some none) ∧ (∀ v, mapGet L n = some v → ∃ j, Instr.findNow .string (.string n) l i = some (some (j, v)))
  | [], [], i, h => ⟨fun _ => rfl, fun v h => by simp [mapGet] at h⟩
  | [], p :: L, i, h => by simp at h
  | e :: l, [], i, h => by simp at h
  | e :: l, p :: L, i, h => by
    simp only [List.map_cons, List.cons.injEq, Prod.mk.injEq] at h
    obtain ⟨⟨hk, hv⟩, ht⟩ := h
    obtain ⟨ih1, ih2⟩ := findNow_map n l L (i + 1) ht
    by_cases hn : p.1 = n
    · have hs : Instr.sameNow .string (.string n) e.key = some true := by
        rw [hk, hn]
        show some (n == n) = some true
        rw [show (n == n) = true from (MapKept.bytes_beq _ _).2 rfl]
      refine ⟨fun h => by simp [mapGet, hn] at h, fun v h => ⟨i, ?_⟩⟩
      simp only [mapGet, hn, if_true, Option.some.injEq] at h
      simp [Instr.findNow, hs, hv, h]
    · have hs : Instr.sameNow .string (.string n) e.key = some false := by
        rw [hk]
        show some (n == p.1) = some false
        have hb : (n == p.1) = false := by
          cases hh : (n == p.1) with
          | false => rfl
          | true => exact absurd ((MapKept.bytes_beq _ _).1 hh).symm hn
        rw [hb]
      refine ⟨fun h => ?_, fun v h => ?_⟩
      · rw [mapGet, if_neg hn] at h
        simp [Instr.findNow, hs, ih1 h]
      · rw [mapGet, if_neg hn] at h
        obtain ⟨j, hj⟩ := ih2 v h
        exact ⟨j, by simp [Instr.findNow, hs, hj]⟩

theorem run_look {P : Program} {w : World} {T kt et : TypeId} {r : Nat} {L : List (ByteArray × Value)} {z : Value} (hm : P.underlying T = some (.map kt et)) (hk : P.underlying kt = some .string) (hz : (zeroValue et).run P w = .ok z w) (h : MapAt w r L) (n : ByteArray) :
    (Instr.lookup T (.map (some r)) (.string n) true).run P w = .ok (.tuple #[(mapGet L n).getD z, .bool (mapGet L n).isSome]) w := by
  obtain ⟨es, clk, hb, he, hst⟩ := h
  obtain ⟨h1, h2⟩ := findNow_map n es.toList L 0 he
  have hc : ∀ b, (Instr.checkKey b 10000 kt (.string n)).run P w = .ok () w := fun b => MapKept.run_checkKey (k := .string n) hk (by simp [MapKept.IsKey]) b 9999
  cases hg : mapGet L n with
  | none => simp [Instr.lookup, run_underlying hm, MapKept.run_getObj_map hb, hc, MapKept.run_findKey hk (h1 hg), Result.andThen, hz]
  | some v =>
    obtain ⟨j, hj⟩ := h2 v hg
    simp [Instr.lookup, run_underlying hm, MapKept.run_getObj_map hb, hc, MapKept.run_findKey hk hj, Result.andThen]

theorem run_put {P : Program} {w : World} {T kt et : TypeId} {r : Nat} {L : List (ByteArray × Value)} (hm : P.underlying T = some (.map kt et)) (hk : P.underlying kt = some .string) (h : MapAt w r L) (n : ByteArray) (v : Value) (hn : mapGet L n = none) :
    ∃ w', (Instr.mapUpdate T (.map (some r)) (.string n) v).run P w = .ok () w' ∧ MapAt w' r (L ++ [(n, v)]) ∧ w'.heap.size = w.heap.size ∧ w'.os = w.os ∧ w'.tape = w.tape ∧ w'.output = w.output ∧ (∀ b, b ≠ r → w'.heap[b]? = w.heap[b]?) := by
  obtain ⟨es, clk, hb, he, hst⟩ := h
  obtain ⟨h1, h2⟩ := findNow_map n es.toList L 0 he
  have hc : (Instr.checkKey false 10000 kt (.string n)).run P w = .ok () w := MapKept.run_checkKey (k := .string n) hk (by simp [MapKept.IsKey]) false 9999
  have hlt : r < w.heap.size := (Array.getElem?_eq_some_iff.1 hb).1
  refine ⟨{ w with heap := w.heap.setIfInBounds r (.map (es.push { key := .string n, val := v, born := clk }) (clk + 1)) }, ?_, ⟨_, _, (MapKept.heap_set hb).1, by simp [he], hst.push _ _⟩, by simp, rfl, rfl, rfl, fun b hne => (MapKept.heap_set hb).2 b hne⟩
  simp [Instr.mapUpdate, run_underlying hm, MapKept.run_getObj_map hb, hc, MapKept.run_findKey hk (h1 hn), MapKept.run_setObj_map _ hb, Result.andThen]
end Go.Proofs.Ytccbocefgoccdaa

/- Maps by texts: looked into, and set where the key is there. -/
namespace Go.Proofs.Ytccbocefgoccdaa
open Go.RowKit
set_option linter.unusedSimpArgs false
set_option linter.unusedVariables false

/-- What stands for a key is another. -/
def setAt : List (ByteArray × Value) → ByteArray → Value → List (ByteArray × Value)
  | [], _, _ => []
  | p :: r, n, v => if p.1 = n then (p.1, v) :: r else p :: setAt r n v
theorem mapGet_setAt (n : ByteArray) (v : Value) : ∀ L : List (ByteArray × Value), mapGet (setAt L n v) n = (mapGet L n).map fun _ => v
  | [] => rfl
  | p :: r => by
    by_cases h : p.1 = n
    · simp [setAt, mapGet, h]
    · simp [setAt, mapGet, h, mapGet_setAt n v r]
theorem mapGet_append (n : ByteArray) (q : ByteArray × Value) : ∀ L : List (ByteArray × Value), mapGet L n = none → mapGet (L ++ [q]) n = if q.1 = n then some q.2 else none
  | [], _ => by simp [mapGet]
  | p :: r, h => by
    by_cases hp : p.1 = n
    · simp [mapGet, hp] at h
    · rw [mapGet, if_neg hp] at h
      rw [List.cons_append, mapGet, if_neg hp]
      exact mapGet_append n q r h

theorem findNow_set (n : ByteArray) (x : Value) : ∀ (l : List MapEntry) (L : List (ByteArray × Value)) (i : Nat) (v : Value), l.map (fun e => (e.key, e.val)) = L.map (fun p => (Value.string p.1, p.2)) → mapGet L n = some v →
    ∃ j e, Instr.findNow .string (.string n) l i = some (some (i + j, v)) ∧ l[j]? = some e ∧ e.key = .string n ∧ (l.modify j fun e => { e with key := .string n, val := x }).map (fun e => (e.key, e.val)) = (setAt L n x).map (fun p => (Value.string p.1, p.2))
  | [], [], i, v, h, hv => by simp [mapGet] at hv
  | [], p :: L, i, v, h, hv => by simp at h
  | e :: l, [], i, v, h, hv => by simp at h
  | e :: l, p :: L, i, v, h, hv => by
    simp only [List.map_cons, List.cons.injEq, Prod.mk.injEq] at h
    obtain ⟨⟨hk, he⟩, ht⟩ := h
    by_cases hn : p.1 = n
    · have hs : Instr.sameNow .string (.string n) e.key = some true := by
        rw [hk, hn]
        show some (n == n) = some true
        rw [show (n == n) = true from (MapKept.bytes_beq _ _).2 rfl]
      simp only [mapGet, hn, if_true, Option.some.injEq] at hv
      refine ⟨0, e, by simp [Instr.findNow, hs, he, hv], rfl, by rw [hk, hn], ?_⟩
      simp [setAt, hn, ht]
    · have hs : Instr.sameNow .string (.string n) e.key = some false := by
        rw [hk]
        show some (n == p.1) = some false
        have hb : (n == p.1) = false := by
          cases hh : (n == p.1) with
          | false => rfl
          | true => exact absurd ((MapKept.bytes_beq _ _).1 hh).symm hn
        rw [hb]
      rw [mapGet, if_neg hn] at hv
      obtain ⟨j, e', h1, h2, h3, h4⟩ := findNow_set n x l L (i + 1) v ht hv
      refine ⟨j + 1, e', by simp [Instr.findNow, hs, h1]; omega, by simpa using h2, h3, ?_⟩
      rw [setAt, if_neg hn]
      simp [List.modify_succ_cons, h4, hk, he]

theorem run_look1 {P : Program} {w : World} {T kt et : TypeId} {r : Nat} {L : List (ByteArray × Value)} {z : Value} (hm : P.underlying T = some (.map kt et)) (hk : P.underlying kt = some .string) (hz : (zeroValue et).run P w = .ok z w) (h : MapAt w r L) (n : ByteArray) :
    (Instr.lookup T (.map (some r)) (.string n) false).run P w = .ok ((mapGet L n).getD z) w := by
  obtain ⟨es, clk, hb, he, hstm⟩ := h
  obtain ⟨h1, h2⟩ := findNow_map n es.toList L 0 he
  have hc : ∀ b, (Instr.checkKey b 10000 kt (.string n)).run P w = .ok () w := fun b => MapKept.run_checkKey (k := .string n) hk (by simp [MapKept.IsKey]) b 9999
  cases hg : mapGet L n with
  | none => simp [Instr.lookup, run_underlying hm, MapKept.run_getObj_map hb, hc, MapKept.run_findKey hk (h1 hg), Result.andThen, hz]
  | some v =>
    obtain ⟨j, hj⟩ := h2 v hg
    simp [Instr.lookup, run_underlying hm, MapKept.run_getObj_map hb, hc, MapKept.run_findKey hk hj, Result.andThen]

theorem run_set {P : Program} {w : World} {T kt et : TypeId} {r : Nat} {L : List (ByteArray × Value)} (hm : P.underlying T = some (.map kt et)) (hk : P.underlying kt = some .string) (h : MapAt w r L) (n : ByteArray) (v old : Value) (hn : mapGet L n = some old) :
    ∃ w', (Instr.mapUpdate T (.map (some r)) (.string n) v).run P w = .ok () w' ∧ MapAt w' r (setAt L n v) ∧ w'.heap.size = w.heap.size ∧ w'.os = w.os ∧ w'.tape = w.tape ∧ w'.output = w.output ∧ (∀ b, b ≠ r → w'.heap[b]? = w.heap[b]?) := by
  obtain ⟨es, clk, hb, he, hstm⟩ := h
  obtain ⟨j, e0, h1, h2, h3, h4⟩ := findNow_set n v es.toList L 0 old he hn
  have hc : (Instr.checkKey false 10000 kt (.string n)).run P w = .ok () w := MapKept.run_checkKey (k := .string n) hk (by simp [MapKept.IsKey]) false 9999
  have hj : es[j]? = some e0 := by simpa using h2
  rw [Nat.zero_add] at h1
  have hst : (Instr.keyThatStays (.string n) (.string n)).run P w = .ok (.string n) w := MapKept.run_keyThatStays (d := .string) (by simp [MapKept.IsKey])
  refine ⟨{ w with heap := w.heap.setIfInBounds r (.map (es.modify j fun e => { e with key := .string n, val := v }) clk) }, ?_, ⟨_, _, (MapKept.heap_set hb).1, by rw [Array.toList_modify]; exact h4, hstm.modify _ _ _⟩, by simp, rfl, rfl, rfl, fun b hne => (MapKept.heap_set hb).2 b hne⟩
  simp [Instr.mapUpdate, run_underlying hm, MapKept.run_getObj_map hb, hc, MapKept.run_findKey hk h1, hj, h3, hst, MapKept.run_setObj_map _ hb, Result.andThen]
end Go.Proofs.Ytccbocefgoccdaa

/- Maps by texts: a loop over one, and what is struck in it. -/
namespace Go.Proofs.Ytccbocefgoccdaa
open Go.RowKit
open Go.ChangeMaps (setBlock)
set_option linter.unusedSimpArgs false
set_option linter.unusedVariables false

/-- A loop over the map at b, its iterator at r: the map's entries, and those that are still to come. -/
def RangeAt (w : World) (b r : Nat) (L rem : List (ByteArray × Value)) : Prop :=
  ∃ es clk since seen c0, w.heap[b]? = some (.map es clk) ∧ es.toList.map (fun e => (e.key, e.val)) = L.map (fun p => (Value.string p.1, p.2)) ∧ Stamps es clk ∧
    w.heap[r]? = some (.mapIter (some b) since seen c0) ∧ (∀ x ∈ es.toList, x.born < since) ∧ since ≤ c0 ∧ since ≤ clk ∧
    (leftOf es seen).toList.map (fun e => (e.key, e.val)) = rem.map (fun p => (Value.string p.1, p.2))

/-- How many are still to come. -/
def leftAt (w : World) (b r : Nat) : Nat :=
  match w.heap[b]?, w.heap[r]? with
  | some (.map es _), some (.mapIter _ _ seen _) => (leftOf es seen).size
  | _, _ => 0

theorem RangeAt.left {w : World} {b r : Nat} {L rem : List (ByteArray × Value)} (h : RangeAt w b r L rem) : leftAt w b r = rem.length := by
  obtain ⟨es, clk, since, seen, c0, hb, _, _, hr, _, _, _, hl⟩ := h
  have := congrArg List.length hl
  simp only [List.length_map, Array.length_toList] at this
  simp only [leftAt, hb, hr]
  exact this
theorem RangeAt.map {w : World} {b r : Nat} {L rem : List (ByteArray × Value)} (h : RangeAt w b r L rem) : MapAt w b L := by
  obtain ⟨es, clk, since, seen, c0, hb, he, hs, _⟩ := h
  exact ⟨es, clk, hb, he, hs⟩
theorem RangeAt.ne {w : World} {b r : Nat} {L rem : List (ByteArray × Value)} (h : RangeAt w b r L rem) : r ≠ b := by
  obtain ⟨es, clk, since, seen, c0, hb, he, hs, hr, _⟩ := h
  intro e
  rw [e, hb] at hr
  cases hr
theorem RangeAt.lt {w : World} {b r : Nat} {L rem : List (ByteArray × Value)} (h : RangeAt w b r L rem) : r < w.heap.size := by
  obtain ⟨es, clk, since, seen, c0, hb, he, hs, hr, _⟩ := h
  exact (Array.getElem?_eq_some_iff.1 hr).1
theorem RangeAt.kept {w w' : World} {b r : Nat} {L rem : List (ByteArray × Value)} (h : RangeAt w b r L rem) (hb' : w'.heap[b]? = w.heap[b]?) (hr' : w'.heap[r]? = w.heap[r]?) : RangeAt w' b r L rem := by
  obtain ⟨es, clk, since, seen, c0, hb, he, hs, hr, rest⟩ := h
  exact ⟨es, clk, since, seen, c0, hb'.trans hb, he, hs, hr'.trans hr, rest⟩
theorem RangeAt.below {w w' : World} {b r B : Nat} {L rem : List (ByteArray × Value)} (h : RangeAt w b r L rem) (hb : Below B w w') (h1 : b < B) (h2 : r < B) : RangeAt w' b r L rem := h.kept (hb.block b h1) (hb.block r h2)

theorem MapAt.range {P : Program} {w : World} {T kt et : TypeId} {b : Nat} {L : List (ByteArray × Value)} (h : MapAt w b L) (hm : P.underlying T = some (.map kt et)) :
    ∃ o, (Instr.range T (.map (some b))).run P w = .ok (.pointer (some ⟨w.heap.size, 0, none⟩)) (w.alloc o) ∧ RangeAt (w.alloc o) b w.heap.size L L := by
  have hlt := h.lt
  obtain ⟨es, clk, hb, he, hs⟩ := h
  refine ⟨_, run_range_map w T kt et b es clk hm hb, es, clk, clk, #[], clk, (Below.heap_alloc _ _ _ hlt).trans hb, he, hs, heap_alloc_new w _, hs.1, Nat.le_refl _, Nat.le_refl _, ?_⟩
  rw [← he]
  congr 1
  simp [leftOf]

theorem kv_inj {l : List MapEntry} {L : List (ByteArray × Value)} (h : l.map (fun e => (e.key, e.val)) = L.map (fun p => (Value.string p.1, p.2))) {e : MapEntry} (he : e ∈ l) : ∃ p ∈ L, e.key = .string p.1 ∧ e.val = p.2 := by
  have : (e.key, e.val) ∈ L.map (fun p => (Value.string p.1, p.2)) := by rw [← h]; exact List.mem_map.2 ⟨e, he, rfl⟩
  obtain ⟨p, hp, e2⟩ := List.mem_map.1 this
  simp only [Prod.mk.injEq] at e2
  exact ⟨p, hp, e2.1.symm, e2.2.symm⟩

/-- One goes out of those that were left. -/
theorem left_out (seen : Array Nat) (e : MapEntry) : ∀ (l : List MapEntry) (R : List (ByteArray × Value)), (l.map (·.born)).Nodup → e ∈ l → seen.contains e.born = false → (l.filter fun x => !seen.contains x.born).map (fun e => (e.key, e.val)) = R.map (fun p => (Value.string p.1, p.2)) →
    ∃ p R', e.key = .string p.1 ∧ e.val = p.2 ∧ R.Perm (p :: R') ∧ (l.filter fun x => !(seen.push e.born).contains x.born).map (fun e => (e.key, e.val)) = R'.map (fun p => (Value.string p.1, p.2))
  | [], R, _, he, _, _ => by cases he
  | a :: l, R, hn, he, hs, hR => by
    simp only [List.map_cons, List.nodup_cons] at hn
    obtain ⟨hn1, hn2⟩ := hn
    by_cases ha : a.born = e.born
    · have hae : e = a := by
        rcases List.mem_cons.1 he with h | h
        · exact h
        · exact absurd (List.mem_map.2 ⟨e, h, ha.symm⟩) hn1
      subst hae
      have hs' : (!seen.contains e.born) = true := by rw [hs]; rfl
      rw [List.filter_cons_of_pos (by simpa using hs')] at hR
      match R, hR with
      | p :: R', hR =>
        simp only [List.map_cons, List.cons.injEq, Prod.mk.injEq] at hR
        refine ⟨p, R', hR.1.1, hR.1.2, List.Perm.refl _, ?_⟩
        rw [List.filter_cons_of_neg (by simp), ← hR.2]
        congr 1
        refine List.filter_congr fun x hx => ?_
        have hne : x.born ≠ e.born := fun h => hn1 (List.mem_map.2 ⟨x, hx, h⟩)
        simp [hne]
    · have he' : e ∈ l := by
        rcases List.mem_cons.1 he with h | h
        · exact absurd (by rw [h]) ha
        · exact h
      by_cases hsa : seen.contains a.born = true
      · rw [List.filter_cons_of_neg (by simpa using hsa)] at hR
        obtain ⟨p, R', h1, h2, h3, h4⟩ := left_out seen e l R hn2 he' hs hR
        refine ⟨p, R', h1, h2, h3, ?_⟩
        rw [List.filter_cons_of_neg (by simp at hsa ⊢; exact fun h => absurd hsa h), h4]
      · have hsa' : seen.contains a.born = false := by simpa using hsa
        rw [List.filter_cons_of_pos (by simpa using hsa')] at hR
        match R, hR with
        | q :: R0, hR =>
          simp only [List.map_cons, List.cons.injEq] at hR
          obtain ⟨p, R', h1, h2, h3, h4⟩ := left_out seen e l R0 hn2 he' hs hR.2
          refine ⟨p, q :: R', h1, h2, (List.Perm.cons q h3).trans (List.Perm.swap p q R'), ?_⟩
          rw [List.filter_cons_of_pos (by simp at hsa' ⊢; exact ⟨hsa', ha⟩), List.map_cons, List.map_cons, h4, hR.1]

theorem RangeAt.next {P : Program} {w : World} {b r : Nat} {L rem : List (ByteArray × Value)} (h : RangeAt w b r L rem) (ty : TypeId) :
    (rem = [] ∧ (Instr.next (.pointer (some ⟨r, 0, none⟩)) false ty).run P w = .ok (.tuple #[.bool false]) w) ∨
    ∃ p rem' w', rem.Perm (p :: rem') ∧ (Instr.next (.pointer (some ⟨r, 0, none⟩)) false ty).run P w = .ok (.tuple #[.bool true, .string p.1, p.2]) w' ∧ RangeAt w' b r L rem' ∧
      w'.heap.size = w.heap.size ∧ w'.os = w.os ∧ w'.tape = w.tape ∧ w'.output = w.output ∧ (∀ j, j ≠ r → w'.heap[j]? = w.heap[j]?) ∧ (Instr.entry (.pointer (some ⟨r, 0, none⟩))).run P w' = .ok (.tuple #[.string p.1, p.2]) w' := by
  have hne := h.ne
  obtain ⟨es, clk, since, seen, c0, hb, he, hs, hr, hold, hsc, hsk, hl⟩ := h
  rcases run_next_at (P := P) w ty r b since c0 seen es clk hr hb hold hsc with ⟨h0, hrun⟩ | ⟨e, hem, w1, hal, hrun⟩
  · refine Or.inl ⟨?_, hrun⟩
    have := congrArg List.length hl
    simp only [List.length_map, Array.length_toList, h0] at this
    exact List.length_eq_zero_iff.1 this.symm
  · obtain ⟨hm1, hm2⟩ := mem_left hem
    have hl' : (es.toList.filter fun x => !seen.contains x.born).map (fun e => (e.key, e.val)) = rem.map (fun p => (Value.string p.1, p.2)) := by
      rw [← hl]; unfold leftOf; rw [Array.toList_filter]
    obtain ⟨p, rem', hk, hv, hperm, hrem⟩ := left_out seen e es.toList rem hs.2 hm1 hm2 hl'
    have hr1 : w1.heap[r]? = some (.mapIter (some b) since seen c0) := by rcases hal with rfl | rfl <;> exact hr
    have hb1 : w1.heap[b]? = some (.map es clk) := by rcases hal with rfl | rfl <;> exact hb
    have hset := MapKept.heap_set (o' := .mapIter (some b) since (seen.push e.born) clk) hr1
    have hb' : (setBlock w1 r (.mapIter (some b) since (seen.push e.born) clk)).heap[b]? = some (.map es clk) := (hset.2 b (fun e1 => hne e1.symm)).trans hb1
    rw [hk, hv] at hrun
    refine Or.inr ⟨p, rem', _, hperm, hrun, ⟨es, clk, since, seen.push e.born, clk, hb', he, hs, hset.1, hold, hsk, hsk, ?_⟩, ?_, ?_, ?_, ?_, ?_, ?_⟩
    · rw [← hrem]; unfold leftOf; rw [Array.toList_filter]
    · rcases hal with rfl | rfl <;> simp [setBlock]
    · rcases hal with rfl | rfl <;> rfl
    · rcases hal with rfl | rfl <;> rfl
    · rcases hal with rfl | rfl <;> rfl
    · intro j hj
      have := hset.2 j hj
      rcases hal with rfl | rfl <;> exact this
    · have := run_entry_at (P := P) _ r b since seen es clk e hset.1 hb' hm1 hs.2
      rw [hk, hv] at this
      exact this

/-- What is left when a key is struck. -/
def delP : List (ByteArray × Value) → ByteArray → List (ByteArray × Value)
  | [], _ => []
  | p :: r, n => if p.1 = n then r else p :: delP r n
theorem findNow_del (n : ByteArray) (q : MapEntry → Bool) : ∀ (l : List MapEntry) (L : List (ByteArray × Value)) (i : Nat), l.map (fun e => (e.key, e.val)) = L.map (fun p => (Value.string p.1, p.2)) → (∀ e ∈ l, e.key = .string n → q e = false) →
    (mapGet L n = none → delP L n = L) ∧ (∀ v, mapGet L n = some v → ∃ j, Instr.findNow .string (.string n) l i = some (some (i + j, v)) ∧ j < l.length ∧ (l.eraseIdx j).map (fun e => (e.key, e.val)) = (delP L n).map (fun p => (Value.string p.1, p.2)) ∧ (l.eraseIdx j).filter q = l.filter q)
  | [], [], i, h, _ => ⟨fun _ => rfl, fun v hv => by simp [mapGet] at hv⟩
  | [], p :: L, i, h, _ => by simp at h
  | e :: l, [], i, h, _ => by simp at h
  | e :: l, p :: L, i, h, hq => by
    simp only [List.map_cons, List.cons.injEq, Prod.mk.injEq] at h
    obtain ⟨⟨hk, he⟩, ht⟩ := h
    obtain ⟨ih1, ih2⟩ := findNow_del n q l L (i + 1) ht fun e he => hq e (by simp [he])
    by_cases hn : p.1 = n
    · have hs : Instr.sameNow .string (.string n) e.key = some true := by
        rw [hk, hn]
        show some (n == n) = some true
        rw [show (n == n) = true from (MapKept.bytes_beq _ _).2 rfl]
      refine ⟨fun h => by simp [mapGet, hn] at h, fun v hv => ?_⟩
      simp only [mapGet, hn, if_true, Option.some.injEq] at hv
      refine ⟨0, by simp [Instr.findNow, hs, he, hv], by simp, ?_, ?_⟩
      · simp [delP, hn, ht]
      · rw [List.eraseIdx_cons_zero, List.filter_cons_of_neg (by rw [hq e (by simp) (by rw [hk, hn])]; simp)]
    · have hs : Instr.sameNow .string (.string n) e.key = some false := by
        rw [hk]
        show some (n == p.1) = some false
        have hb : (n == p.1) = false := by
          cases hh : (n == p.1) with
          | false => rfl
          | true => exact absurd ((MapKept.bytes_beq _ _).1 hh).symm hn
        rw [hb]
      refine ⟨fun h => ?_, fun v hv => ?_⟩
      · rw [mapGet, if_neg hn] at h
        rw [delP, if_neg hn, ih1 h]
      · rw [mapGet, if_neg hn] at hv
        obtain ⟨j, h1, h2, h3, h4⟩ := ih2 v hv
        refine ⟨j + 1, by simp [Instr.findNow, hs, h1]; omega, by simpa using h2, ?_, ?_⟩
        · rw [delP, if_neg hn]; simp [h3, hk, he]
        · rw [List.eraseIdx_cons_succ]
          cases hqe : q e with
          | true => rw [List.filter_cons_of_pos hqe, List.filter_cons_of_pos hqe, h4]
          | false => rw [List.filter_cons_of_neg (by simp [hqe]), List.filter_cons_of_neg (by simp [hqe]), h4]

theorem RangeAt.drop {P : Program} {w : World} {T kt et ty : TypeId} {b r : Nat} {L rem : List (ByteArray × Value)} (h : RangeAt w b r L rem) (hm : P.underlying T = some (.map kt et)) (hk : P.underlying kt = some .string) (n : ByteArray) (hr0 : ∀ p ∈ rem, p.1 ≠ n) (v : Value) (hv : mapGet L n = some v) :
    ∃ w', (Builtin.delete_ #[T, kt] ty #[.map (some b), .string n]).run P w = .ok (.tuple #[]) w' ∧ RangeAt w' b r (delP L n) rem ∧ w'.heap.size = w.heap.size ∧ w'.os = w.os ∧ w'.tape = w.tape ∧ w'.output = w.output ∧ (∀ j, j ≠ b → w'.heap[j]? = w.heap[j]?) := by
  have hne := h.ne
  obtain ⟨es, clk, since, seen, c0, hb, he, hs, hr, hold, hsc, hsk, hl⟩ := h
  have hl' : (es.toList.filter fun x => !seen.contains x.born).map (fun e => (e.key, e.val)) = rem.map (fun p => (Value.string p.1, p.2)) := by
    rw [← hl]; unfold leftOf; rw [Array.toList_filter]
  have hq : ∀ e ∈ es.toList, e.key = .string n → (!seen.contains e.born) = false := fun e hee hke => by
    cases hc : seen.contains e.born with
    | true => rfl
    | false =>
      obtain ⟨p, hp, h1, _⟩ := kv_inj hl' (List.mem_filter.2 ⟨hee, by rw [hc]; rfl⟩)
      rw [hke] at h1
      exact absurd (Value.string.inj h1).symm (hr0 p hp)
  obtain ⟨j, h1, h2, h3, h4⟩ := (findNow_del n (fun x => !seen.contains x.born) es.toList L 0 he hq).2 v hv
  rw [Nat.zero_add] at h1
  have hc : ∀ b, (Instr.checkKey b 10000 kt (.string n)).run P w = .ok () w := fun b => MapKept.run_checkKey (k := .string n) hk (by simp [MapKept.IsKey]) b 9999
  have hsub : (es.eraseIdxIfInBounds j).toList = es.toList.eraseIdx j := by
    unfold Array.eraseIdxIfInBounds
    rw [dif_pos (by simpa using h2)]
    simp
  have hmem : ∀ x ∈ (es.eraseIdxIfInBounds j).toList, x ∈ es.toList := fun x hx => by rw [hsub] at hx; exact (List.eraseIdx_sublist _ _).subset hx
  refine ⟨setBlock w b (.map (es.eraseIdxIfInBounds j) clk), ?_, ⟨es.eraseIdxIfInBounds j, clk, since, seen, c0, (MapKept.heap_set hb).1, by rw [hsub]; exact h3, ⟨fun x hx => hs.1 x (hmem x hx), ?_⟩, ((MapKept.heap_set hb).2 r hne).trans hr, fun x hx => hold x (hmem x hx), hsc, hsk, ?_⟩, by simp [setBlock], rfl, rfl, rfl, fun i hi => (MapKept.heap_set hb).2 i hi⟩
  · simp [Builtin.delete_, run_underlying hm, MapKept.run_getObj_map hb, hc, MapKept.run_findKey hk h1, MapKept.run_setObj_map _ hb, Result.andThen, setBlock]
  · rw [hsub]
    exact hs.2.sublist ((List.eraseIdx_sublist _ _).map _)
  · unfold leftOf
    rw [Array.toList_filter, hsub, h4]
    exact hl'
#print axioms RangeAt.next
#print axioms RangeAt.drop
end Go.Proofs.Ytccbocefgoccdaa


/- Walks: bindings out of a map, in order. -/
namespace Go.Proofs.Ytccbocefgoccdaa
open Go.RowKit
set_option linter.unusedSimpArgs false
set_option linter.unusedVariables false
set_option maxRecDepth 8000

theorem cell_three_new (w : World) (c0 c1 c2 : Value) (T : Nat) : ∀ j u, [c0, c1, c2][j]? = some u → (w.alloc (.cells #[c0, c1, c2] T)).cell? ((⟨w.heap.size, 0, none⟩ : Addr).add j) = some u :=
  World.news_of_block (cs := #[c0, c1, c2]) (heap_alloc_new w _)

end Go.Proofs.Ytccbocefgoccdaa

/- What is wrong with bindings. -/
namespace Go.Proofs.Ytccbocefgoccdaa
open Go.RowKit
set_option linter.unusedSimpArgs false
set_option linter.unusedVariables false

/-- A text is not above another one. -/
def leB (a b : ByteArray) : Bool := Op.bytesLess a.toList b.toList || a.toList == b.toList
def prevN (ls : List Bd) (k : Nat) : Option ByteArray := if k = 0 then none else (ls[k - 1]?).map Bd.nm
/-- What is wrong with a binding behind another one. -/
def bmB (p : Option ByteArray) (d : Bd) : Int :=
  if (nameB d.nm && varB d.nm) = false then 1 else if (match p with | some q => leB d.nm q | none => false) = true then 14 else mayE d.t
def bmK (ls : List Bd) (k : Nat) : Int := match ls[k]? with
  | some d => bmB (prevN ls k) d
  | none => 0
def bmT (ls : List Bd) : Nat → Int
  | 0 => 0
  | n + 1 => if bmT ls n = 0 then bmK ls n else bmT ls n
/-- What is wrong with a list of bindings. -/
def bindsE (ls : List Bd) : Int := if 40 < ls.length then 3 else bmT ls ls.length

theorem bmT_stays {ls : List Bd} {k : Nat} (h : bmT ls k ≠ 0) : ∀ n, k ≤ n → bmT ls n = bmT ls k
  | 0, hn => by have : k = 0 := by omega
                subst this; rfl
  | n + 1, hn => by
    by_cases e : k = n + 1
    · rw [e]
    · have ih := bmT_stays h n (by omega)
      rw [bmT, if_neg (by rw [ih]; exact h), ih]
theorem bmT_err {ls : List Bd} {k : Nat} {z : Int} (hk : k < ls.length) (h40 : ¬ 40 < ls.length) (h0 : bmT ls k = 0) (hz : bmK ls k = z) (hne : z ≠ 0) : bindsE ls = z := by
  have h1 : bmT ls (k + 1) = z := by rw [bmT, if_pos h0, hz]
  unfold bindsE
  rw [if_neg h40, bmT_stays (k := k + 1) (by rw [h1]; exact hne) _ (by omega), h1]
theorem bmT_next {ls : List Bd} {k : Nat} (h0 : bmT ls k = 0) (hz : bmK ls k = 0) : bmT ls (k + 1) = 0 := by rw [bmT, if_pos h0, hz]
theorem bmK_name {ls : List Bd} {k : Nat} (hk : k < ls.length) (h : (nameB ls[k].nm && varB ls[k].nm) = false) : bmK ls k = 1 := by
  unfold bmK bmB
  rw [List.getElem?_eq_getElem hk]
  simp only [h, if_true]
theorem bmK_order {ls : List Bd} {j : Nat} (hk : j + 1 < ls.length) (h : (nameB ls[j + 1].nm && varB ls[j + 1].nm) = true) (hle : leB ls[j + 1].nm (ls[j]'(by omega)).nm = true) : bmK ls (j + 1) = 14 := by
  unfold bmK bmB prevN
  rw [List.getElem?_eq_getElem hk]
  simp only [h, Nat.add_sub_cancel, Nat.succ_ne_zero, if_false, Bool.true_eq_false]
  rw [List.getElem?_eq_getElem (by omega : j < ls.length)]
  simp only [Option.map_some, hle, if_true]
theorem bmK_may {ls : List Bd} {j : Nat} (hk : j + 1 < ls.length) (h : (nameB ls[j + 1].nm && varB ls[j + 1].nm) = true) (hle : leB ls[j + 1].nm (ls[j]'(by omega)).nm = false) : bmK ls (j + 1) = mayE ls[j + 1].t := by
  unfold bmK bmB prevN
  rw [List.getElem?_eq_getElem hk]
  simp only [h, Nat.add_sub_cancel, Nat.succ_ne_zero, if_false, Bool.true_eq_false]
  rw [List.getElem?_eq_getElem (by omega : j < ls.length)]
  simp only [Option.map_some, hle, Bool.false_eq_true, if_false]
theorem bmK_first {ls : List Bd} (hk : 0 < ls.length) (h : (nameB ls[0].nm && varB ls[0].nm) = true) : bmK ls 0 = mayE ls[0].t := by
  unfold bmK bmB prevN
  rw [List.getElem?_eq_getElem hk]
  simp only [h, if_true, Bool.true_eq_false, Bool.false_eq_true, if_false]
end Go.Proofs.Ytccbocefgoccdaa


/- Walks: whether bindings may be, as the document says. -/
namespace Go.Proofs.Ytccbocefgoccdaa
open Go.RowKit
set_option linter.unusedSimpArgs false
set_option linter.unusedVariables false
set_option maxRecDepth 8000

def BmInv (ls : List Bd) (w : World) (v : Value) (wr : World) : Prop := ∃ k : Nat, v = .int .i64 (k : Int) ∧ k ≤ ls.length ∧ bmT ls k = 0 ∧ Below w.heap.size w wr

theorem Below.drewN' {B : Nat} {a w : World} (h : Below B a w) (n : Nat) : Below B a (w.drewN n) := ⟨h.os, h.tape, h.output, h.size, h.block⟩

end Go.Proofs.Ytccbocefgoccdaa


/- Walks: bindings sorted, as the document says. -/
namespace Go.Proofs.Ytccbocefgoccdaa
open Go.RowKit
set_option linter.unusedSimpArgs false
set_option linter.unusedVariables false
set_option maxRecDepth 8000

theorem flat3_set (y : Bc) : ∀ (cs : List Bc) (i : Nat), i < cs.length → flat3 (cs.set i y) = (((flat3 cs).set (i * 3) (.string y.1.nm)).set (i * 3 + 1) (.string y.1.t.name)).set (i * 3 + 2) (.slice y.2.1 y.1.t.args.length y.2.2)
  | [], i, h => by simp at h
  | x :: r, 0, h => by simp [flat3, enc3]
  | x :: r, i + 1, h => by
    have ih := flat3_set y r i (by simpa using h)
    rw [List.set_cons_succ, flat3, flat3, ih]
    rw [show (i + 1) * 3 = i * 3 + 3 by omega, show i * 3 + 3 + 1 = (i * 3 + 1) + 3 by omega, show i * 3 + 3 + 2 = (i * 3 + 2) + 3 by omega]
    simp [enc3]
/-- The world with a binding stored in a row. -/
def put3 (w : World) (g i : Nat) (y : Bc) : World := (((w.setCell ⟨g, i * 3, none⟩ (.string y.1.nm)).setCell ⟨g, i * 3 + 1, none⟩ (.string y.1.t.name)).setCell ⟨g, i * 3 + 2, none⟩ (.slice y.2.1 y.1.t.args.length y.2.2))
theorem put3_block {w : World} {g i b : Nat} {y : Bc} (h : b ≠ g) : (put3 w g i y).heap[b]? = w.heap[b]? := by
  unfold put3
  rw [Below.heap_setCell _ _ _ _ (by simpa using h), Below.heap_setCell _ _ _ _ (by simpa using h), Below.heap_setCell _ _ _ _ (by simpa using h)]
theorem put3_size {w : World} {g i : Nat} {y : Bc} : (put3 w g i y).heap.size = w.heap.size := by simp [put3, World.setCell]
theorem put3_below {w0 w : World} {B g i : Nat} {y : Bc} (h : Below B w0 w) (hg : B ≤ g) : Below B w0 (put3 w g i y) := ((h.setCell (by exact hg) _).setCell (by exact hg) _).setCell (by exact hg) _
theorem Sl.put3 {w : World} {N g n cap i : Nat} {Y : Nat → Prop} {a : Option Addr} {l : List Tm} {y : Bc} (h : Sl w (fun b => Y b ∨ (N ≤ b ∧ some b ≠ (Value.slice (some ⟨g, 0, none⟩) n cap).ownBlock)) a l) (hY : ∀ b, Y b → b < N) (hg : N ≤ g) : Sl (put3 w g i y) (fun b => Y b ∨ (N ≤ b ∧ some b ≠ (Value.slice (some ⟨g, 0, none⟩) n cap).ownBlock)) a l :=
  h.kept fun b hb => put3_block (by
    rcases hb with hb | hb
    · have := hY b hb; omega
    · intro e; exact hb.2 (by simp [Value.ownBlock, e]))
/-- None is ahead of one that stands ahead of it. -/
def Weak (l : List Bc) : Prop := l.Pairwise fun a b => ltB b.1.nm a.1.nm = false
theorem weak_ins {A B : List Bc} {x : Bc} (hw : Weak (A ++ B)) (hB : ∀ b ∈ B, ltB x.1.nm b.1.nm = true) (hA : ∀ a ∈ A, ltB x.1.nm a.1.nm = false) : Weak (A ++ x :: B) := by
  obtain ⟨h1, h2, h3⟩ := List.pairwise_append.1 hw
  refine List.pairwise_append.2 ⟨h1, List.pairwise_cons.2 ⟨fun b hb => ltB_asymm (hB b hb), h2⟩, fun a ha b hb => ?_⟩
  rcases List.mem_cons.1 hb with rfl | hb
  · exact hA a ha
  · exact h3 a ha b hb
theorem weak_last {A B : List Bc} {a x : Bc} (hw : Weak (A ++ [a] ++ B)) (h : ltB x.1.nm a.1.nm = false) : ∀ y ∈ A ++ [a], ltB x.1.nm y.1.nm = false := fun y hy => by
  rcases List.mem_append.1 hy with hy | hy
  · obtain ⟨h1, _⟩ := List.pairwise_append.1 hw
    exact ltB_ntrans h ((List.pairwise_append.1 h1).2.2 y hy a (by simp))
  · have e : y = a := by simpa using hy
    rw [e]; exact h

theorem ins_perm {A B cs : List Bc} {x : Bc} {l : List Bd} (h : A ++ B = cs) (hp : (cs.map (·.1) ++ [x.1]).Perm l) : ((A ++ x :: B).map (·.1)).Perm l := by
  refine List.Perm.trans ?_ hp
  have h1 : (A ++ x :: B).Perm (cs ++ [x]) := by
    rw [← h]
    exact List.perm_middle.trans (List.perm_append_singleton x (A ++ B)).symm
  simpa using h1.map (·.1)

end Go.Proofs.Ytccbocefgoccdaa


/- Walks: one term as a case of another one, as the document says. -/
namespace Go.Proofs.Ytccbocefgoccdaa
open Go.RowKit
set_option linter.unusedSimpArgs false
set_option linter.unusedVariables false
set_option maxRecDepth 8000

theorem grown_alloc2 (w : World) (o o' : Obj) (row : Option Nat) : w.grownBy ((w.alloc o).alloc o') row := (World.grownBy_alloc w o row).andThen (World.grownBy_alloc (w.alloc o) o' none) (by simp)
theorem grown_below {w w' w'' : World} {row : Option Nat} (h : w.grownBy w' row) (hb : Below w'.heap.size w' w'') : w.grownBy w'' row :=
  h.andThen (row' := none) ⟨hb.os, hb.tape, hb.output, hb.size, fun j hj _ => hb.block j hj⟩ (by simp)

end Go.Proofs.Ytccbocefgoccdaa


/- Walks: matching, comparing up to names and searching for an instance, as the document says. -/
namespace Go.Proofs.Ytccbocefgoccdaa
open Go.RowKit
set_option linter.unusedSimpArgs false
set_option linter.unusedVariables false
set_option maxRecDepth 8000

/-- One is a case of the other. -/
def mtB (p t : Tm) : Bool := (mtT p t []).isSome
def MoPost (w : World) (Z : Nat → Prop) (p t : Tm) (e : Ending) (w' : World) : Prop :=
  Below w.heap.size w w' ∧ ((mtT p t [] = none ∧ e = .returned (.tuple #[.slice none 0 0, .bool false])) ∨
    ∃ h' v l', mtT p t [] = some h' ∧ e = .returned (.tuple #[v, .bool true]) ∧ BV w' Z v l' ∧ l'.Perm h' ∧ l'.Pairwise fun a b => ltB b.nm a.nm = false)

/-- Some knot of a term is a case of another one. -/
def hcB (t p : Tm) : Bool := (preL [t]).any fun k => mtB p k
theorem hc_take {ks : List Tm} {p : Tm} {k : Nat} (h : k < ks.length) : (ks.take (k + 1)).any (fun x => mtB p x) = ((ks.take k).any (fun x => mtB p x) || mtB p ks[k]) := by
  rw [List.take_succ_eq_append_getElem h, List.any_append]; simp
theorem hc_yes {ks : List Tm} {p : Tm} {k : Nat} (h : k < ks.length) (h0 : mtB p ks[k] = true) : ks.any (fun x => mtB p x) = true := by
  rw [List.any_eq_true]; exact ⟨ks[k], List.getElem_mem h, h0⟩
def HcInv (ks : List Tm) (p : Tm) (w2 : World) (v : Value) (wr : World) : Prop := ∃ k : Nat, k ≤ ks.length ∧ v = .int .i64 (k : Int) ∧ (ks.take k).any (fun x => mtB p x) = false ∧ Below w2.heap.size w2 wr
end Go.Proofs.Ytccbocefgoccdaa


/- Walks: how great a term would be with bindings in it. -/
namespace Go.Proofs.Ytccbocefgoccdaa
open Go.RowKit
set_option linter.unusedSimpArgs false
set_option linter.unusedVariables false
set_option maxRecDepth 8000

def GwInv (w0 : World) (M : Nat) (ls : List Bd) (l : List Tm) (most : Int) (n i : Value) (wr : World) : Prop := ∃ k : Nat, k ≤ l.length ∧ i = .int .i64 k ∧ n = .int .i64 (min (1 + sizeL (onL ls (l.take k))) (most + 1)) ∧ Below M w0 wr

end Go.Proofs.Ytccbocefgoccdaa


/- Walks: a term with bindings in it, as the document says. -/
namespace Go.Proofs.Ytccbocefgoccdaa
open Go.RowKit
set_option linter.unusedSimpArgs false
set_option linter.unusedVariables false
set_option maxRecDepth 8000

def OnPost (w : World) (X : Nat → Prop) (t : Tm) (e : Ending) (w' : World) : Prop :=
  ∃ a c, e = .returned (.agg #[.string t.name, .slice a t.args.length c]) ∧ Sl w' (fun b => (X b ∧ b < w.heap.size) ∨ w.heap.size ≤ b) a t.args ∧ Below w.heap.size w w'

/-- What is held while a knot's next term is made. -/
def OnS (w : World) (b o : Nat) (s : ByteArray) (a : Option Addr) (n c : Nat) (s1 : ByteArray) (v1 : Value) (w' : World) : Prop :=
  Blk w' w.heap.size #[.string s, .slice a n c] 27 ∧ w'.cell? ⟨b, o, none⟩ = some (.string s1) ∧ w'.cell? ⟨b, o + 1, none⟩ = some v1
theorem cell_same {w w' : World} {b i : Nat} {v : Value} (hb : w'.heap[b]? = w.heap[b]?) (h : w.cell? ⟨b, i, none⟩ = some v) : w'.cell? ⟨b, i, none⟩ = some v := by simpa [World.cell?, hb] using h
theorem OnS.below {w wr w1 : World} {b o n c : Nat} {s s1 : ByteArray} {a : Option Addr} {v1 : Value} (h : OnS w b o s a n c s1 v1 wr) (hb : Below wr.heap.size wr w1) (hlt : w.heap.size < wr.heap.size ∧ b < wr.heap.size) : OnS w b o s a n c s1 v1 w1 :=
  ⟨h.1.below hb hlt.1, cell_same (hb.block b hlt.2) h.2.1, cell_same (hb.block b hlt.2) h.2.2⟩
theorem OnS.alloc {w wr : World} {b o n c : Nat} {s s1 : ByteArray} {a : Option Addr} {v1 : Value} (h : OnS w b o s a n c s1 v1 wr) (x : Obj) : OnS w b o s a n c s1 v1 (wr.alloc x) :=
  ⟨h.1.alloc x, cell_same (Below.heap_alloc _ _ _ (cell_lt h.2.1)) h.2.1, cell_same (Below.heap_alloc _ _ _ (cell_lt h.2.1)) h.2.2⟩
theorem OnS.grown {w wr w3 : World} {b o n c : Nat} {s s1 : ByteArray} {a : Option Addr} {v1 : Value} {row : Option Nat} (h : OnS w b o s a n c s1 v1 wr) (hg : wr.grownBy w3 row) (hne : ∀ j, j ≤ w.heap.size → some j ≠ row) (hb : b < w.heap.size) (_ : True) : OnS w b o s a n c s1 v1 w3 :=
  ⟨h.1.grown hg (hne _ (Nat.le_refl _)), cell_same (hg.block b (cell_lt h.2.1) (hne b (by omega))) h.2.1, cell_same (hg.block b (cell_lt h.2.1) (hne b (by omega))) h.2.2⟩
theorem OnS.set {w wr : World} {b o n c : Nat} {s s1 : ByteArray} {a : Option Addr} {v1 : Value} {O i : Nat} (h : OnS w b o s a n c s1 v1 wr) (v : Value) (_ : True) (hO : w.heap.size ≠ O) (hb : b ≠ O) : OnS w b o s a n c s1 v1 (wr.setCell ⟨O, i, none⟩ v) :=
  ⟨h.1.setOther _ _ hO, cell_same (Below.heap_setCell _ _ _ _ (by simpa using hb)) h.2.1, cell_same (Below.heap_setCell _ _ _ _ (by simpa using hb)) h.2.2⟩
theorem hxb {w : World} {X : Nat → Prop} {b o : Nat} {l : List Tm} (h : Sl w X (some ⟨b, o, none⟩) l) (hl : 0 < l.length) : b < w.heap.size := by
  obtain ⟨_, h⟩ := h
  rcases h with rfl | ⟨b', o', e, h⟩
  · simp at hl
  · simp at e
    obtain ⟨rfl, rfl⟩ := e
    exact cell_lt (lies_get l b o h 0 hl).2.1

/-- What is laid ahead of the rounds. -/
def OnSet (w : World) (Y : Nat → Prop) (O : Nat) (s : ByteArray) (a : Option Addr) (n c : Nat) (u : Value) (L : List Tm) (wr : World) : Prop :=
  ∃ xs, Row wr (O + 1) 27 Y u L xs ∧ Below w.heap.size w wr ∧ Blk wr w.heap.size #[.string s, .slice a n c] 27 ∧ Blk wr (w.heap.size + 1) #[.string ⟨#[]⟩, .slice none 0 0] 27 ∧ Blk wr O #[.string s, u] 27 ∧ O < wr.heap.size
def OnInv (w : World) (Y : Nat → Prop) (O : Nat) (s : ByteArray) (a : Option Addr) (c : Nat) (ls : List Bd) (l : List Tm) (i : Value) (wr : World) : Prop :=
  ∃ (k : Nat) (u : Value), k ≤ l.length ∧ i = .int .i64 (k : Int) ∧ OnSet w Y O s a l.length c u (onL ls (l.take k)) wr

theorem on_step {w wr w1 w3 : World} {Y : Nat → Prop} {O n c : Nat} {u : Value} {L : List Tm} {xs : List Value} {o2 : Obj} {s s' : ByteArray} {a a1 : Option Addr} {n1 c1 g cap : Nat} {t : Tm} (hO : w.heap.size + 2 ≤ O) (hY : ∀ b, Y b → b < w.heap.size)
    (hrow : Row wr (O + 1) 27 Y u L xs) (hx : Below w.heap.size w wr) (hT : Blk wr w.heap.size #[.string s, .slice a n c] 27) (hR : Blk wr (w.heap.size + 1) #[.string ⟨#[]⟩, .slice none 0 0] 27) (hOb : Blk wr O #[.string s, u] 27)
    (he1 : Below wr.heap.size wr w1) (ht : TV w1 (fun b => Y b ∨ wr.heap.size ≤ b) (.agg #[.string s', .slice a1 n1 c1]) t)
    (hown : w3.ownsRow (O + 1) 27 2 (.slice (some ⟨g, 0, none⟩) (L.length + 1) cap) (L.length + 1) (xs ++ [.string s', .slice a1 n1 c1])) (hg : (w1.alloc o2).grownBy w3 u.ownBlock) (hat : u.ownBlock = some g ∨ g = (w1.alloc o2).heap.size) :
    OnSet w Y O s a n c (.slice (some ⟨g, 0, none⟩) (L.length + 1) cap) (L ++ [t]) (w3.setCell ⟨O, 1, none⟩ (.slice (some ⟨g, 0, none⟩) (L.length + 1) cap)) := by
  have hlt' := hrow.own.lt
  have hOl := hOb.lt
  have hp := hrow.push (w1 := w1) (w2 := w1.alloc o2) (w3 := w3) (by omega) (fun b h => by have := hY b h; omega) he1 ht o2 rfl hown hg hat
  have hne : ∀ b, b < O + 1 → some b ≠ u.ownBlock := fun b hb e => by have := (hlt' b e.symm).1; omega
  have hs1 := he1.size
  have hsx := hx.size
  have hx3 : Below w.heap.size w w3 := ((hx.trans (he1.mono (by omega))).alloc (by omega) o2).grown hg (by simp; omega) (fun k hk => by have := (hlt' k hk).1; omega)
  have hs3 := hg.size
  simp at hs3
  refine ⟨_, hp.setCell (by omega) (fun h => by have := hY _ h; omega) _, hx3.setCell (p := ⟨O, 1, none⟩) (by simp; omega) _, ?_, ?_, ?_, by simp [World.setCell]; omega⟩
  · exact (((hT.below he1 (by omega)).alloc o2).grown hg (hne _ (by omega))).setOther _ _ (by omega)
  · exact (((hR.below he1 (by omega)).alloc o2).grown hg (hne _ (by omega))).setOther _ _ (by omega)
  · exact (((hOb.below he1 (by omega)).alloc o2).grown hg (hne _ (by omega))).set 1 _

end Go.Proofs.Ytccbocefgoccdaa


/- Walks: a term with bindings in it, if it isn't too great; whether bindings may be. -/
namespace Go.Proofs.Ytccbocefgoccdaa
open Go.RowKit
set_option linter.unusedSimpArgs false
set_option linter.unusedVariables false
set_option maxRecDepth 8000

def OnAll (w : World) (X : Nat → Prop) (t : Tm) (e : Ending) (w' : World) : Prop :=
  Below w.heap.size w w' ∧ ((2000 < sizeL [t] ∧ e = .returned (.tuple #[.agg #[.string ⟨#[]⟩, .slice none 0 0], .bool false])) ∨ (sizeL [t] ≤ 2000 ∧ ∃ a c, e = .returned (.tuple #[.agg #[.string t.name, .slice a t.args.length c], .bool true]) ∧ Sl w' (fun b => (X b ∧ b < w.heap.size) ∨ w.heap.size ≤ b) a t.args))

end Go.Proofs.Ytccbocefgoccdaa


/- Walks: pairs of which nothing is said; whether pairs may be. -/
namespace Go.Proofs.Ytccbocefgoccdaa
open Go.RowKit
set_option linter.unusedSimpArgs false
set_option linter.unusedVariables false
set_option maxRecDepth 8000

def hugeQ1 (p : Pr) : Bool := decide (3000 < sizeL [p.l]) || decide (3000 < sizeL [p.r])
def hugeQL (l : List Pr) : Bool := l.any hugeQ1
def hugeQ (ls : List Pr) : Bool := hugeQL ls || decide (100 < ls.length)
theorem hugeQL_take {l : List Pr} {k : Nat} (h : k < l.length) : hugeQL (l.take (k + 1)) = (hugeQL (l.take k) || hugeQ1 l[k]) := by
  unfold hugeQL; rw [List.take_succ_eq_append_getElem h, List.any_append]; simp
theorem hugeQL_yes {l : List Pr} {k : Nat} (h : k < l.length) (h0 : hugeQ1 l[k] = true) : hugeQ l = true := by
  have e : hugeQL l = true := by
    unfold hugeQL
    rw [List.any_eq_true]
    exact ⟨l[k], List.getElem_mem h, h0⟩
  unfold hugeQ
  rw [e]; rfl
theorem hugeQ_no {ls : List Pr} (h : hugeQ ls = false) : ls.length ≤ 100 ∧ ∀ d ∈ ls, sizeL [d.l] ≤ 3000 ∧ sizeL [d.r] ≤ 3000 := by
  unfold hugeQ hugeQL hugeQ1 at h
  simp only [Bool.or_eq_false_iff, List.any_eq_false, decide_eq_true_eq, decide_eq_false_iff_not, Bool.or_eq_true] at h
  exact ⟨by omega, fun d hd => by have := h.1 d hd; omega⟩
def HqInv (ls : List Pr) (w : World) (v : Value) (wr : World) : Prop := ∃ k : Nat, v = .int .i64 (k : Int) ∧ k ≤ ls.length ∧ hugeQL (ls.take k) = false ∧ Below w.heap.size w wr

def PmInv (ls : List Pr) (w : World) (v : Value) (wr : World) : Prop := ∃ k : Nat, v = .int .i64 (k : Int) ∧ k ≤ ls.length ∧ pmT ls k = 0 ∧ Below w.heap.size w wr

theorem twoE_fst {a b : Tm} (h : mayE a ≠ 0) : twoE a b = mayE a := by unfold twoE; rw [if_neg h]
theorem twoE_snd {a b : Tm} (h : mayE a = 0) : twoE a b = mayE b := by unfold twoE; rw [if_pos h]
end Go.Proofs.Ytccbocefgoccdaa


/- Walks: rules that may be, as the document says. -/
namespace Go.Proofs.Ytccbocefgoccdaa
open Go.RowKit
set_option linter.unusedSimpArgs false
set_option linter.unusedVariables false
set_option maxRecDepth 8000

/-- So many rules are looked at. -/
def RmInv (ls : List Pr) (w : World) (v : Value) (wr : World) : Prop := ∃ k : Nat, v = .int .i64 (k : Int) ∧ k ≤ ls.length ∧ rmT ls k = 0 ∧ Below w.heap.size w wr
theorem may200 {t : Tm} (h : mayE t = 0) : sizeL [t] ≤ 200 := by
  unfold mayE at h
  split at h
  · exact absurd h (by decide)
  · omega
theorem all_takeR {l : List ByteArray} {f : ByteArray → Bool} {k : Nat} (h : k < l.length) (h0 : (l.take k).all f = true) (h1 : f l[k] = true) : (l.take (k + 1)).all f = true := by
  rw [List.take_succ_eq_append_getElem h, List.all_append, h0]
  simpa using h1
end Go.Proofs.Ytccbocefgoccdaa


/- Walks: what a rule puts in the place of a term, as the document says. -/
namespace Go.Proofs.Ytccbocefgoccdaa
open Go.RowKit
set_option linter.unusedSimpArgs false
set_option linter.unusedVariables false
set_option maxRecDepth 8000

/-- What it says of a rule and a term. -/
def DFtPost (w : World) (X : Nat → Prop) (p : Pr) (x : Tm) (e : Ending) (w' : World) : Prop :=
  ∃ (y : Tm) (a : Option Addr) (c : Nat) (ok full : Bool), e = .returned (.tuple #[.agg #[.string y.name, .slice a y.args.length c], .bool ok, .bool full]) ∧ Sl w' (fun b => (X b ∧ b < w.heap.size) ∨ w.heap.size ≤ b) a y.args ∧ Below w.heap.size w w' ∧
    ((fitT p x = none ∧ ok = false) ∨ ∃ z, fitT p x = some z ∧ ok = true ∧ (full = true ↔ 2000 < sizeL [z]) ∧ (full = false → y = z))
/-- Likewise; where it does not fit, it is not told to be too great. -/
def DFtPostF (w : World) (X : Nat → Prop) (p : Pr) (x : Tm) (e : Ending) (w' : World) : Prop :=
  ∃ (y : Tm) (a : Option Addr) (c : Nat) (ok full : Bool), e = .returned (.tuple #[.agg #[.string y.name, .slice a y.args.length c], .bool ok, .bool full]) ∧ Sl w' (fun b => (X b ∧ b < w.heap.size) ∨ w.heap.size ≤ b) a y.args ∧ Below w.heap.size w w' ∧
    ((fitT p x = none ∧ ok = false ∧ full = false) ∨ ∃ z, fitT p x = some z ∧ ok = true ∧ (full = true ↔ 2000 < sizeL [z]) ∧ (full = false → y = z))
end Go.Proofs.Ytccbocefgoccdaa


/- Walks: the places of a term, as the document says. -/
namespace Go.Proofs.Ytccbocefgoccdaa
open Go.RowKit
set_option linter.unusedSimpArgs false
set_option linter.unusedVariables false

theorem owns_le {w : World} {b b' e z n : Nat} {v : Value} {xs : List Value} (h : w.ownsRow b e z v n xs) (hb : b' ≤ b) : w.ownsRow b' e z v n xs := by
  obtain ⟨h1, h2⟩ := h
  exact ⟨h1, h2.imp id fun ⟨g, cap, cur, h3, h4, h5⟩ => ⟨g, cap, cur, h3, Nat.le_trans hb h4, h5⟩⟩

/-- A row of lists that is added to, and what stays where it was. -/
def OutAt (w0 : World) (N : Nat) (q0 : Value) (ps : List (List Int)) (q : Value) (xs : List Value) (wr : World) : Prop :=
  wr.ownsRow N 22 1 q ps.length xs ∧ RowP wr (fun b => N ≤ b ∧ some b ≠ q.ownBlock) ps xs ∧ w0.grownBy wr q0.ownBlock ∧ (∀ k, q.ownBlock = some k → q0.ownBlock = some k ∨ w0.heap.size ≤ k)

theorem PV.grownBy {w w' : World} {Z : Nat → Prop} {u : Value} {z : List Int} {r : Option Nat} (h : PV w Z u z) (hg : w.grownBy w' r) (hZ : ∀ b, Z b → some b ≠ r) : PV w' Z u z := by
  have h1 : PV w (fun b => Z b ∧ b < w.heap.size) u z := h.mono fun b h1 h2 => ⟨h1, h2⟩
  have h2 : PV w' (fun b => Z b ∧ b < w.heap.size) u z := h1.kept fun b hx => hg.block b hx.2 (hZ b hx.1)
  exact h2.mono fun b hx _ => hx.1

/-- A number ahead of a list. -/
theorem ints_cons {W : World} {Z : Nat → Prop} {u : Value} {z : List Int} (h : PV W Z u z) (i : Int) (F : Nat) (hF : W.heap[F]? = some (.cells #[.int .i64 i] 3 (0, 0))) (hn : z.length ≤ 1000000) :
    ∃ q w2, (Builtin.append_ #[22, 22] 22 #[.slice (some ⟨F, 0, none⟩) 1 1, u]).run Try.prog W = .ok q w2 ∧ PV w2 (fun b => b = F ∨ W.heap.size ≤ b) q (i :: z) ∧ Below W.heap.size W w2 := by
  obtain ⟨i0, hi, hz0, hz1, hz2⟩ := info_parts Try.infoInt
  have hsrc := pv_src h
  rw [← hz1] at hsrc
  have hFl : F < W.heap.size := by
    apply Classical.byContradiction
    intro hn
    rw [Array.getElem?_eq_none (by omega)] at hF; cases hF
  have hFc : W.cell? ⟨F, 0, none⟩ = some (.int .i64 i) := by simp [World.cell?, hF]
  by_cases h0 : z = []
  · subst h0
    have hg := run_append_room_src (P := Try.prog) W 22 22 22 3 i0 Try.underlying22 hi F 0 1 1 u 0 [] hsrc (by omega) (by simp) (by simp)
    refine ⟨_, _, hg, ⟨_, _, rfl, by simp, Or.inr ⟨F, 0, rfl, Or.inl rfl, fun j hj => ?_⟩⟩, ?_⟩
    · simp at hj; subst hj; simpa [World.setCells] using hFc
    · simpa [World.setCells] using Below.refl W.heap.size W
  · have hzp := List.length_pos_iff.2 h0
    have hfc := run_firstCells_some (P := Try.prog) W.drew i0.size 1 ⟨F, 0, none⟩ 1 1 [.int .i64 i] (by rw [hz1]; rfl) (fun j v hj => by
      match j, hj with
      | 0, hj => simp at hj; subst hj; simpa [Addr.add] using hFc)
    have hg := run_append_grow_src (P := Try.prog) W 22 22 22 3 i0 (.int .i64 0) Try.underlying22 hi hz0 (some ⟨F, 0, none⟩) 1 1 [.int .i64 i] hfc u z.length _ hsrc (by omega) (by omega) (by rw [hz2]; exact growslice_fits (by omega) (by omega))
    have hge := grownCap_ge W (1 + z.length) 1 3
    have hcm := grownCap_le_maxLen W (1 + z.length) 1 3 (by unfold maxLen; omega)
    refine ⟨_, _, hg, ⟨some ⟨W.heap.size, 0, none⟩, grownCap W (1 + z.length) 1 3, by rw [List.length_cons, Nat.add_comm], ⟨by simp; omega, by simp; omega⟩, Or.inr ⟨W.heap.size, 0, rfl, Or.inr (Nat.le_refl _), fun j hj => ?_⟩⟩, ?_⟩
    · have hb := heap_alloc_new W.drew (.cells (([Value.int .i64 i] ++ z.map fun x => Value.int .i64 x).toArray ++ Builtin.zeroCells (Value.int .i64 0).cells (grownCap W (1 + z.length) 1 3 - (1 + z.length))) 3)
      have hb' : (W.drew.alloc (.cells (([Value.int .i64 i] ++ z.map fun x => Value.int .i64 x).toArray ++ Builtin.zeroCells (Value.int .i64 0).cells (grownCap W (1 + z.length) 1 3 - (1 + z.length))) 3)).heap[W.heap.size]? = _ := hb
      rw [Lib.cell_of_heap hb', Nat.zero_add, Array.getElem?_append_left (by simp at hj ⊢; omega)]
      simp at hj
      cases j with
      | zero => simp
      | succ j => simp
    · exact ((Below.refl W.heap.size W).drew).alloc (Nat.le_refl _) _

/-- How the rounds of one list go. -/
def InInv (w1 : World) (N : Nat) (q1 : Value) (ps : List (List Int)) (i : Nat) (ls : List (List Int)) (q j : Value) (wr : World) : Prop :=
  ∃ (k : Nat) (xs : List Value), k ≤ ls.length ∧ j = .int .i64 k ∧ OutAt w1 N q1 (ps ++ (ls.take k).map fun p => (i : Int) :: p) q xs wr

/-- How the rounds of the terms below go. -/
def OuInv (w0 : World) (N : Nat) (l : List Tm) (q i : Value) (wr : World) : Prop :=
  ∃ (k : Nat) (xs : List Value), k ≤ l.length ∧ i = .int .i64 k ∧ OutAt w0 N (.slice none 0 0) ([] :: plcL 0 (l.take k)) q xs wr

theorem OutAt.mono {w0 w1 wr : World} {N : Nat} {q0 q1 q : Value} {ps ps1 : List (List Int)} {xs xs1 : List Value} (h : OutAt w0 N q0 ps1 q1 xs1 w1) (h1 : OutAt w1 N q1 ps q xs wr) : OutAt w0 N q0 ps q xs wr := by
  refine ⟨h1.1, h1.2.1, grown_trans h.2.2.1 h1.2.2.1 h.2.2.2, fun k hk => ?_⟩
  rcases h1.2.2.2 k hk with e | e
  · exact h.2.2.2 k e
  · exact Or.inr (Nat.le_trans h.2.2.1.size e)

theorem OutAt.later {w0 w1 w2 : World} {N : Nat} {q0 q : Value} {ps : List (List Int)} {xs : List Value} (h : OutAt w0 N q0 ps q xs w1) (hb : Below w1.heap.size w1 w2) : OutAt w0 N q0 ps q xs w2 :=
  ⟨h.1.kept (w' := w2) (row := none) ⟨hb.os, hb.tape, hb.output, hb.size, fun j hj _ => hb.block j hj⟩ (by rcases Option.eq_none_or_eq_some (Value.ownBlock q) with h | ⟨x, h⟩; exact Or.inl h; exact Or.inr (by rw [h]; simp)),
   h.2.1.imp fun u z hp => hp.later hb, grown_trans h.2.2.1 (grown_of_below hb q.ownBlock) h.2.2.2, h.2.2.2⟩

theorem OutAt.here {w1 : World} {N : Nat} {q0 q : Value} {ps : List (List Int)} {xs : List Value} {w0 : World} (h : OutAt w0 N q0 ps q xs w1) : OutAt w1 N q ps q xs w1 := ⟨h.1, h.2.1, grown_of_below (Below.refl _ _) _, fun _ h => Or.inl h⟩

#print axioms ints_cons
end Go.Proofs.Ytccbocefgoccdaa

/- A slice without its first. -/
namespace Go.Proofs.Ytccbocefgoccdaa
open Go.RowKit
set_option linter.unusedSimpArgs false
set_option linter.unusedVariables false

set_option maxRecDepth 8000 in
theorem slice_tail_run (b o n pc : Nat) (hn : n + 1 ≤ pc) (w' : World) : Sem.run Try.prog (Instr.slice 22 (.slice (some ⟨b, o, none⟩) (n + 1) pc) (some (.int .i64 1)) none none) w' = .ok (.slice (if pc = 1 then some ⟨b, o, none⟩ else some ⟨b, o + 1, none⟩) n (pc - 1)) w' := by
  have hle1 : (1 : Int) ≤ (n : Int) + 1 := by omega
  have e1 : (1 : Int) ≤ ((n + 1 : Nat) : Int) := by omega
  rw [run_slice_l (P := Try.prog) (ht := Try.underlying22) (h0 := by omega) (h1 := e1)]
  by_cases hpc : pc = 1
  · subst hpc
    simp [go_sem, sliced]
  · simp [go_sem, sliced, hpc]
#print axioms slice_tail_run
end Go.Proofs.Ytccbocefgoccdaa


/- Walks: a term with another one at a place, as the document says. -/
namespace Go.Proofs.Ytccbocefgoccdaa
open Go.RowKit
set_option linter.unusedSimpArgs false
set_option linter.unusedVariables false
set_option maxRecDepth 8000

/-- What a round that appends does: the row at block M holds what is appended to. -/
theorem put_step {w wr w1 w3 : World} {M T : Nat} {Y : Nat → Prop} {u : Value} {L : List Tm} {t : Tm} {xs : List Value} {o2 : Obj} {s s' : ByteArray} {a1 : Option Addr} {n1 c1 g cap n : Nat} (hn : L.length = n) (hrow : Row wr (M + 1) T Y u L xs) (hb : Below w.heap.size w wr) (hM : w.heap.size ≤ M) (hY : ∀ b, Y b → b < w.heap.size)
    (h2 : Blk wr M #[.string s, u] T) (hsz : M + 1 ≤ wr.heap.size)
    (hb1 : Below wr.heap.size wr w1) (ht : TV w1 (fun b => Y b ∨ wr.heap.size ≤ b) (.agg #[.string s', .slice a1 n1 c1]) t)
    (hown : w3.ownsRow (M + 1) T 2 (.slice (some ⟨g, 0, none⟩) (n + 1) cap) (n + 1) (xs ++ [.string s', .slice a1 n1 c1])) (hg : (w1.alloc o2).grownBy w3 u.ownBlock) (hat : u.ownBlock = some g ∨ g = (w1.alloc o2).heap.size) :
    let w4 := w3.setCell ⟨M, 1, none⟩ (.slice (some ⟨g, 0, none⟩) (n + 1) cap)
    Row w4 (M + 1) T Y (.slice (some ⟨g, 0, none⟩) (n + 1) cap) (L ++ [t]) (xs ++ [.string s', .slice a1 n1 c1]) ∧ Below w.heap.size w w4 ∧ (∀ b cs, b < M → Blk wr b cs T → Blk w4 b cs T) ∧ Blk w4 M #[.string s, .slice (some ⟨g, 0, none⟩) (n + 1) cap] T ∧ M + 1 ≤ w4.heap.size := by
  intro w4
  subst hn
  have hlt' := hrow.own.lt
  have hs1 := hb1.size
  have hsg := hg.size
  simp at hsg
  have hp := hrow.push (w1 := w1) (w2 := w1.alloc o2) (w3 := w3) hsz (fun b h => by have := hY b h; omega) hb1 ht o2 rfl hown hg hat
  have hw3 : Below w.heap.size w w3 := ((hb.trans (hb1.mono hb.size)).alloc (by have := hb.size; omega) o2).grown hg (by have := hb.size; simp; omega) (fun j hj => by have := (hlt' j hj).1; omega)
  have hA : Below w.heap.size w w4 := hw3.setCell (p := ⟨M, 1, none⟩) hM _
  have hbk : ∀ b cs, b < M + 1 → Blk wr b cs T → Blk w3 b cs T := fun b cs hb h => ((h.below hb1 h.lt).alloc o2).grown hg (hrow.ne hb)
  refine ⟨hp.setCell (by omega) (fun h => by have := hY _ h; omega) _, hA, fun b cs hb h => (hbk b cs (by omega) h).setOther _ _ (by omega), (hbk _ _ (by omega) h2).set 1 _, by simp [w4, World.setCell]; omega⟩

theorem put_blk {wr w1 w3 : World} {o2 : Obj} {M T : Nat} {Y : Nat → Prop} {u : Value} {L : List Tm} {xs : List Value} {b : Nat} {cs : Array Value} (hrow : Row wr (M + 1) T Y u L xs) (h : Blk wr b cs T) (hb1 : Below wr.heap.size wr w1) (hg : (w1.alloc o2).grownBy w3 u.ownBlock) (hM : b < M + 1) : Blk w3 b cs T :=
  ((h.below hb1 h.lt).alloc o2).grown hg (hrow.ne hM)

theorem own_later {w w' : World} {N T size : Nat} {v : Value} {n : Nat} {xs : List Value} (h : w.ownsRow N T size v n xs) (hb : Below w.heap.size w w') : w'.ownsRow N T size v n xs :=
  h.kept (w' := w') (row := none) ⟨hb.os, hb.tape, hb.output, hb.size, fun j hj _ => hb.block j hj⟩ (by rcases Option.eq_none_or_eq_some (Value.ownBlock v) with h | ⟨x, h⟩; exact Or.inl h; exact Or.inr (by rw [h]; simp))

/-- What holds at each round's head of putting at a place. -/
def PutInv (w : World) (X : Nat → Prop) (x : Tm) (zs : List Int) (z : Int) (s : ByteArray) (l : List Tm) (a : Option Addr) (c : Nat) (ax : Option Addr) (cx : Nat) (i : Value) (wr : World) : Prop :=
  ∃ (k : Nat) (q : Value) (xs : List Value), k ≤ l.length ∧ i = .int .i64 k ∧ Row wr (w.heap.size + 1 + 1 + 1 + 1) 27 X q ((putL (putT x zs) z 0 l).take k) xs ∧ Below w.heap.size w wr ∧ Blk wr w.heap.size #[.string s, .slice a l.length c] 27 ∧ Blk wr (w.heap.size + 1) #[.string x.name, .slice ax x.args.length cx] 27 ∧ Blk wr (w.heap.size + 1 + 1) #[.string ⟨#[]⟩, .slice none 0 0] 27 ∧ Blk wr (w.heap.size + 1 + 1 + 1) #[.string s, q] 27 ∧ w.heap.size + 1 + 1 + 1 + 1 ≤ wr.heap.size

theorem two_one (s : ByteArray) (a : Option Addr) (n c : Nat) : ∀ u ∈ [Value.string s, .slice a n c], u.oneCell' = true := fun x hx => by
  simp at hx; rcases hx with rfl | rfl <;> rfl

theorem drew_below {wr w1 : World} (hb1 : Below wr.drew.heap.size wr.drew w1) : Below wr.heap.size wr w1 := (below_drewN (Below.refl _ _) 1).trans hb1

end Go.Proofs.Ytccbocefgoccdaa
