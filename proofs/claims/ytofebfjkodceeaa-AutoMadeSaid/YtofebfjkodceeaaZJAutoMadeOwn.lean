/- Several texts in one. -/
import Derived.WalkKit
import Derived.WalkSpells
import Derived.WalkLawsBesides
import Derived.Test.YtofebfjkodceeaaRows
namespace Go.Proofs.Ytofebfjkodceeaa
open Go.RowKit
theorem hide {p : Prop} (h : p) : Hid p := h
structure Tm where
 name : ByteArray
 args : List Tm
theorem Tm.ind {P : Tm → Prop} (h : ∀ s l, (∀ x ∈ l, P x) → P ⟨s, l⟩) (t : Tm) : P t :=
 Tm.rec (motive_1 := P) (motive_2 := fun l => ∀ x ∈ l, P x) (fun s l ih => h s l ih) (fun x hx => by cases hx)
  (fun a l ha hl x hx => by
   rcases List.mem_cons.1 hx with e | e
   ·subst e; exact ha
   ·exact hl x e) t
theorem Tm.indL {P : List Tm → Prop} (h0 : P []) (h : ∀ s l r, P l → P r → P (⟨s, l⟩ :: r)) (l : List Tm) : P l :=
 Tm.rec_1 (motive_1 := fun t => P t.args) (motive_2 := P) (fun _ _ ih => ih) h0 (fun a l ha hl => by obtain ⟨s, k⟩ := a; exact h s k l ha hl) l
def sizeL : List Tm → Nat
 | [] => 0
 | ⟨_, l⟩ :: r => 1 + sizeL l + sizeL r
theorem sizeL_append (a b : List Tm) : sizeL (a ++ b) = sizeL a + sizeL b := by
 induction a with
 | nil => simp [sizeL]
 | cons t r ih => obtain ⟨s, l⟩ := t; simp only [List.cons_append, sizeL, ih]; omega
def Lies (w : World) (X : Nat → Prop) : Nat → Nat → List Tm → Prop
 | _, _, [] => True
 | b, o, ⟨s, l⟩ :: r => X b ∧ w.cell? ⟨b, o, none⟩ = some (.string s) ∧
   (∃ a c, w.cell? ⟨b, o + 1, none⟩ = some (.slice a l.length c) ∧ l.length ≤ 9223372036854775807 ∧ (l = [] ∨ ∃ b' o', a = some ⟨b', o', none⟩ ∧ Lies w X b' o' l)) ∧ Lies w X b (o + 2) r
def Sl (w : World) (X : Nat → Prop) (a : Option Addr) (l : List Tm) : Prop := l.length ≤ 9223372036854775807 ∧ (l = [] ∨ ∃ b o, a = some ⟨b, o, none⟩ ∧ Lies w X b o l)
def TV (w : World) (X : Nat → Prop) (v : Value) (t : Tm) : Prop := ∃ a c, v = .agg #[.string t.name, .slice a t.args.length c] ∧ Sl w X a t.args
theorem lies_kept {w w' : World} {X : Nat → Prop} (h : ∀ b, X b → w'.heap[b]? = w.heap[b]?) (l : List Tm) : ∀ b o, Lies w X b o l → Lies w' X b o l := by
 induction l using Tm.indL with
 | h0 => intro b o _; simp [Lies]
 | h s l r ihl ihr =>
  intro b o hl
  simp only [Lies] at hl ⊢
  obtain ⟨hx, h1, ⟨a, c, h2, h2', h3⟩, h4⟩ := hl
  refine ⟨hx, by rw [World.cell?_of_block (h b hx)]; exact h1, ⟨a, c, by rw [World.cell?_of_block (h b hx)]; exact h2, h2', ?_⟩, ihr _ _ h4⟩
  rcases h3 with h3 | ⟨b', o', h3, h5⟩
  ·exact Or.inl h3
  ·exact Or.inr ⟨b', o', h3, ihl _ _ h5⟩
theorem lies_mono {w : World} {X Y : Nat → Prop} (h : ∀ b, X b → b < w.heap.size → Y b) (l : List Tm) : ∀ b o, Lies w X b o l → Lies w Y b o l := by
 induction l using Tm.indL with
 | h0 => intro b o _; simp [Lies]
 | h s l r ihl ihr =>
  intro b o hl
  simp only [Lies] at hl ⊢
  obtain ⟨hx, h1, ⟨a, c, h2, h2', h3⟩, h4⟩ := hl
  have hb : b < w.heap.size := by
   apply Classical.byContradiction
   intro hn
   have e : w.heap[b]? = none := Array.getElem?_eq_none (by omega)
   simp [World.cell?, e] at h1
  refine ⟨h b hx hb, h1, ⟨a, c, h2, h2', ?_⟩, ihr _ _ h4⟩
  rcases h3 with h3 | ⟨b', o', h3, h5⟩
  ·exact Or.inl h3
  ·exact Or.inr ⟨b', o', h3, ihl _ _ h5⟩
theorem Sl.kept {w w' : World} {X : Nat → Prop} {a : Option Addr} {l : List Tm} (h : Sl w X a l) (hk : ∀ b, X b → w'.heap[b]? = w.heap[b]?) : Sl w' X a l := by
 obtain ⟨hl, h⟩ := h
 refine ⟨hl, ?_⟩
 rcases h with h | ⟨b, o, e, h⟩
 ·exact Or.inl h
 ·exact Or.inr ⟨b, o, e, lies_kept hk _ _ _ h⟩
theorem Sl.mono {w : World} {X Y : Nat → Prop} {a : Option Addr} {l : List Tm} (h : Sl w X a l) (hk : ∀ b, X b → b < w.heap.size → Y b) : Sl w Y a l := by
 obtain ⟨hl, h⟩ := h
 refine ⟨hl, ?_⟩
 rcases h with h | ⟨b, o, e, h⟩
 ·exact Or.inl h
 ·exact Or.inr ⟨b, o, e, lies_mono hk _ _ _ h⟩
theorem Sl.below {w w' : World} {X : Nat → Prop} {a : Option Addr} {l : List Tm} {B : Nat} (h : Sl w X a l) (hb : Below B w w') (hX : ∀ b, X b → b < w.heap.size → b < B) : Sl w' X a l := by
 have h1 : Sl w (fun b => X b ∧ b < B) a l := h.mono fun b hx hs => ⟨hx, hX b hx hs⟩
 have h2 : Sl w' (fun b => X b ∧ b < B) a l := h1.kept fun b hx => hb.block b hx.2
 exact h2.mono fun b hx _ => hx.1
theorem TV.kept {w w' : World} {X : Nat → Prop} {v : Value} {t : Tm} (h : TV w X v t) (hk : ∀ b, X b → w'.heap[b]? = w.heap[b]?) : TV w' X v t := by
 obtain ⟨a, c, e, h⟩ := h
 exact ⟨a, c, e, h.kept hk⟩
theorem TV.mono {w : World} {X Y : Nat → Prop} {v : Value} {t : Tm} (h : TV w X v t) (hk : ∀ b, X b → b < w.heap.size → Y b) : TV w Y v t := by
 obtain ⟨a, c, e, h⟩ := h
 exact ⟨a, c, e, h.mono hk⟩
theorem TV.below {w w' : World} {X : Nat → Prop} {v : Value} {t : Tm} {B : Nat} (h : TV w X v t) (hb : Below B w w') (hX : ∀ b, X b → b < w.heap.size → b < B) : TV w' X v t := by
 obtain ⟨a, c, e, h⟩ := h
 exact ⟨a, c, e, h.below hb hX⟩
theorem TV.alloc {w : World} {X : Nat → Prop} {v : Value} {t : Tm} (h : TV w X v t) (o : Obj) : TV (w.alloc o) X v t :=
 h.below ((Below.refl _ _).alloc (Nat.le_refl _) o) (fun _ _ h => h)
theorem TV.later {w w' : World} {X : Nat → Prop} {v : Value} {t : Tm} (h : TV w X v t) (hb : Below w.heap.size w w') : TV w' X v t := h.below hb (fun _ _ h => h)
theorem Sl.later {w w' : World} {X : Nat → Prop} {a : Option Addr} {l : List Tm} (h : Sl w X a l) (hb : Below w.heap.size w w') : Sl w' X a l := h.below hb (fun _ _ h => h)
theorem lies_get {w : World} {X : Nat → Prop} : ∀ (l : List Tm) (b o : Nat), Lies w X b o l → ∀ i (h : i < l.length),
  X b ∧ w.cell? ⟨b, o + i * 2, none⟩ = some (.string l[i].name) ∧ ∃ a c, w.cell? ⟨b, o + i * 2 + 1, none⟩ = some (.slice a l[i].args.length c) ∧ Sl w X a l[i].args := by
 intro l
 induction l with
 | nil => intro b o _ i h; simp at h
 | cons t r ih =>
  intro b o hl i h
  obtain ⟨s, k⟩ := t
  simp only [Lies] at hl
  obtain ⟨hx, h1, ⟨a, c, h2, h3⟩, h4⟩ := hl
  cases i with
  | zero => exact ⟨hx, h1, a, c, h2, h3⟩
  | succ i =>
   have := ih b (o + 2) h4 i (by simpa using h)
   simp only [List.getElem_cons_succ]
   rw [show o + (i + 1) * 2 = o + 2 + i * 2 by omega]
   exact this
theorem lies_mk {w : World} {X : Nat → Prop} : ∀ (l : List Tm) (b o : Nat), (∀ i (h : i < l.length),
  X b ∧ w.cell? ⟨b, o + i * 2, none⟩ = some (.string l[i].name) ∧ ∃ a c, w.cell? ⟨b, o + i * 2 + 1, none⟩ = some (.slice a l[i].args.length c) ∧ Sl w X a l[i].args) → Lies w X b o l := by
 intro l
 induction l with
 | nil => intro b o _; simp [Lies]
 | cons t r ih =>
  intro b o hl
  obtain ⟨s, k⟩ := t
  simp only [Lies]
  obtain ⟨hx, h1, a, c, h2, h3⟩ := hl 0 (by simp)
  refine ⟨hx, h1, ⟨a, c, h2, h3⟩, ih b (o + 2) fun i h => ?_⟩
  have := hl (i + 1) (by simpa using h)
  simp only [List.getElem_cons_succ] at this
  rw [show o + (i + 1) * 2 = o + 2 + i * 2 by omega] at this
  exact this
theorem Sl.get {w wr : World} {X : Nat → Prop} {a : Option Addr} {l : List Tm} {B : Nat} (h : Sl w X a l) (hb : Below B w wr) (hX : ∀ b, X b → b < w.heap.size → b < B) (k : Nat) (hk : k < l.length) :
  ∃ b o a' c', a = some ⟨b, o, none⟩ ∧ wr.cell? ⟨b, o + k * 2, none⟩ = some (.string l[k].name) ∧ wr.cell? ⟨b, o + k * 2 + 1, none⟩ = some (.slice a' l[k].args.length c') ∧ TV wr X (.agg #[.string l[k].name, .slice a' l[k].args.length c']) l[k] := by
 have h' := h.below hb hX
 obtain ⟨_, h1⟩ := h'
 rcases h1 with h1 | ⟨b, o, e, h1⟩
 ·subst h1; simp at hk
 ·obtain ⟨_, h2, a', c', h3, h4⟩ := lies_get _ _ _ h1 k hk
  exact ⟨b, o, a', c', e, h2, h3, a', c', rfl, h4⟩
set_option linter.unusedSimpArgs false
set_option linter.unusedVariables false
def digB (n : Int) : Bool := decide (48 ≤ n) && decide (n ≤ 57)
def capB (n : Int) : Bool := decide (65 ≤ n) && decide (n ≤ 90)
def lowB (n : Int) : Bool := decide (97 ≤ n) && decide (n ≤ 122)
def letB (n : Int) : Bool := lowB n || capB n
def alnB (n : Int) : Bool := letB n || digB n
theorem ret_bool {a b : Bool} (h : a = b) : Ending.returned (.bool a) = .returned (.bool b) := by rw [h]
set_option maxHeartbeats 400000 in
theorem isDigit_any (n : Int) (w : World) : Calls Try.prog 84 #[.int .u8 n] w fun e w' => e = .returned (.bool (digB n)) ∧ w' = w := by
 go_enter Try.func84, Try.ntmps84
 go_wp2_with fail
 all_goals (go_ret; refine ⟨ret_bool ?_, rfl⟩; rw [Bool.eq_iff_iff]; simp [alnB, letB, lowB, capB, digB] <;> omega)
set_option maxHeartbeats 400000 in
theorem isCapital_any (n : Int) (w : World) : Calls Try.prog 80 #[.int .u8 n] w fun e w' => e = .returned (.bool (capB n)) ∧ w' = w := by
 go_enter Try.func80, Try.ntmps80
 go_wp2_with fail
 all_goals (go_ret; refine ⟨ret_bool ?_, rfl⟩; rw [Bool.eq_iff_iff]; simp [alnB, letB, lowB, capB, digB] <;> omega)
set_option maxHeartbeats 400000 in
theorem isLetter_any (n : Int) (w : World) : Calls Try.prog 85 #[.int .u8 n] w fun e w' => e = .returned (.bool (letB n)) ∧ w' = w := by
 go_enter Try.func85, Try.ntmps85
 go_wp2_with (go_at_call 80; refine (isCapital_any _ _).mono ?_; rintro e w' ⟨rfl, rfl⟩)
 all_goals (go_ret; refine ⟨ret_bool ?_, rfl⟩; rw [Bool.eq_iff_iff]; simp [alnB, letB, lowB, capB, digB] <;> omega)
set_option maxHeartbeats 400000 in
theorem isLetterR_any (n : Int) (w : World) : Calls Try.prog 60 #[.int .u8 n] w fun e w' => e = .returned (.bool (alnB n)) ∧ w' = w := by
 go_enter Try.func60, Try.ntmps60
 go_wp2_with fail
 all_goals (go_ret; refine ⟨ret_bool ?_, rfl⟩; rw [Bool.eq_iff_iff]; simp [alnB, letB, lowB, capB, digB] <;> omega)
def byteAt (s : ByteArray) (i : Nat) : Int := if h : i < s.size then (s[i].toNat : Int) else 0
theorem byteAt_of {s : ByteArray} {i : Nat} (h : i < s.size) : (s[i].toNat : Int) = byteAt s i := by simp [byteAt, h]
def varB (s : ByteArray) : Bool := capB (byteAt s 0)
def alnTo (s : ByteArray) (k : Nat) : Bool := (List.range k).all fun i => alnB (byteAt s i)
def nameB (s : ByteArray) : Bool := decide (1 ≤ s.size) && decide (s.size ≤ 8) && !digB (byteAt s 0) && alnTo s s.size
theorem isEmpty_pos {s : ByteArray} (h : 0 < s.size) : s.toList.isEmpty = false := by
 rw [ByteArray.toList_eq, List.isEmpty_eq_false_iff, ← List.length_pos_iff]
 simpa using h
theorem isEmpty_zero {s : ByteArray} (h : ¬ 0 < s.size) : s.toList.isEmpty = true := by
 rw [ByteArray.toList_eq, List.isEmpty_iff, ← List.length_eq_zero_iff]
 have : s.size = 0 := by omega
 simpa using this
theorem alnTo_succ (s : ByteArray) (k : Nat) : alnTo s (k + 1) = (alnTo s k && alnB (byteAt s k)) := by
 simp [alnTo, List.range_succ, List.all_append]
theorem alnTo_false {s : ByteArray} {k n : Nat} (h : k ≤ n) (hf : alnTo s k = false) : alnTo s n = false := by
 cases hn : alnTo s n with
 | false => rfl
 | true =>
  rw [← hf]; symm
  unfold alnTo at hn ⊢
  rw [List.all_eq_true] at hn ⊢
  intro x hx; exact hn x (by rw [List.mem_range] at hx ⊢; omega)
set_option maxHeartbeats 400000 in
theorem isVarR_any (s : ByteArray) (w : World) : Calls Try.prog 32 #[.string s] w fun e w' => e = .returned (.bool (varB s)) ∧ w' = w := by
 by_cases h : 0 < s.size
 ·have hb := hide (byteAt_of h)
  have he := isEmpty_pos h
  go_enter Try.func32, Try.ntmps32
  go_wp2_with fail
  all_goals (go_ret; refine ⟨ret_bool ?_, rfl⟩; have hb' := hb.out; rw [Bool.eq_iff_iff]; simp [varB, capB] <;> omega)
 ·have he := isEmpty_zero h
  have hv : Hid (false = varB s) := by simp [Hid, varB, byteAt, h, capB]
  go_enter Try.func32, Try.ntmps32
  go_wp2_with fail
  go_ret
  exact ⟨ret_bool hv.out, rfl⟩
set_option maxHeartbeats 400000 in
theorem isVariable_all (s : ByteArray) (w : World) : Calls Try.prog 65 #[.string s] w fun e w' => e = .returned (.bool (varB s)) ∧ w' = w := by
 by_cases h : 0 < s.size
 ·have hb := hide (byteAt_of h)
  have he := isEmpty_pos h
  go_enter Try.func65, Try.ntmps65
  go_wp2_with (go_at_call 80; refine (isCapital_any _ _).mono ?_; rintro e w' ⟨rfl, rfl⟩)
  go_ret
  refine ⟨ret_bool ?_, rfl⟩
  rw [hb.out]; rfl
 ·have he := isEmpty_zero h
  have hv : Hid (false = varB s) := by simp [Hid, varB, byteAt, h, capB]
  go_enter Try.func65, Try.ntmps65
  go_wp2_with fail
  go_ret
  exact ⟨ret_bool hv.out, rfl⟩
theorem isVariable_any (s : ByteArray) (w : World) (h : 0 < s.size) : Calls Try.prog 65 #[.string s] w fun e w' => e = .returned (.bool (varB s)) ∧ w' = w := isVariable_all s w
theorem nameB_no {s : ByteArray} {k : Nat} (hk : k < s.size) (h : alnB (byteAt s k) = false) : nameB s = false := by
 have h1 : alnTo s (k + 1) = false := by rw [alnTo_succ, h]; simp
 have h2 := alnTo_false (n := s.size) (by omega) h1
 simp [nameB, h2]
set_option maxHeartbeats 400000 in
theorem isName_any (s : ByteArray) (w : World) : Calls Try.prog 70 #[.string s] w fun e w' => e = .returned (.bool (nameB s)) ∧ w' = w := by
 by_cases h0 : s.size < 1
 ·have hn : Hid (false = nameB s) := by simp [Hid, nameB]; omega
  go_enter Try.func70, Try.ntmps70
  go_wp2_with fail
  go_ret
  exact ⟨ret_bool hn.out, rfl⟩
 ·by_cases h8 : 8 < s.size
  ·have hn : Hid (false = nameB s) := by simp [Hid, nameB]; omega
   go_enter Try.func70, Try.ntmps70
   go_wp2_with fail
   all_goals (go_ret; exact ⟨ret_bool hn.out, rfl⟩)
  ·have hb := hide (byteAt_of (s := s) (i := 0) (by omega))
   by_cases hd : digB (byteAt s 0) = true
   ·have hn : Hid (false = nameB s) := by simp [Hid, nameB, hd]
    have hd' := hide hd
    clear hd
    go_enter Try.func70, Try.ntmps70
    go_wp2_with (go_at_call 84; refine (isDigit_any _ _).mono ?_; rintro e w' ⟨rfl, rfl⟩; rw [hb.out, hd'.out])
    all_goals (go_ret; exact ⟨ret_bool hn.out, rfl⟩)
   ·have hd' : Hid (digB (byteAt s 0) = false) := by simpa [Hid] using hd
    clear hd
    go_enter Try.func70, Try.ntmps70
    go_wp2_with (go_at_call 84; refine (isDigit_any _ _).mono ?_; rintro e w' ⟨rfl, rfl⟩; rw [hb.out, hd'.out])
    go_loop [19] (fun i => ∃ k : Nat, k ≤ s.size ∧ i = .int .i64 k ∧ alnTo s k = true) (fun i => s.size - (intOf i).toNat)
    case atStart => exact ⟨0, Nat.zero_le _, rfl, rfl⟩
    case round =>
     obtain ⟨k, hk, rfl, ha⟩ := hrel
     have HA := hide ha
     clear ha
     by_cases hlt : k < s.size
     ·have hbk := hide (byteAt_of hlt)
      have hsuc := hide (alnTo_succ s k)
      cases hl : letB (byteAt s k) with
      | true =>
       have HL := hide hl
       clear hl
       go_wp2_with (go_at_call 85; refine (isLetter_any _ _).mono ?_; rintro e w' ⟨rfl, rfl⟩; rw [hbk.out, HL.out])
       go_round
       case rel => exact ⟨k + 1, by omega, by go_num, by rw [hsuc.out, HA.out, alnB, HL.out]; rfl⟩
       case measure => simp [intOf]; omega
      | false =>
       have HL := hide hl
       clear hl
       cases hg : digB (byteAt s k) with
       | true =>
        have HG := hide hg
        clear hg
        go_wp2_with (first | (go_at_call 85; refine (isLetter_any _ _).mono ?_; rintro e w' ⟨rfl, rfl⟩; rw [hbk.out, HL.out]) | (go_at_call 84; refine (isDigit_any _ _).mono ?_; rintro e w' ⟨rfl, rfl⟩; rw [hbk.out, HG.out]))
        go_round
        case rel => exact ⟨k + 1, by omega, by go_num, by rw [hsuc.out, HA.out, alnB, HL.out, HG.out]; rfl⟩
        case measure => simp [intOf]; omega
       | false =>
        have HG := hide hg
        clear hg
        go_wp2_with (first | (go_at_call 85; refine (isLetter_any _ _).mono ?_; rintro e w' ⟨rfl, rfl⟩; rw [hbk.out, HL.out]) | (go_at_call 84; refine (isDigit_any _ _).mono ?_; rintro e w' ⟨rfl, rfl⟩; rw [hbk.out, HG.out]))
        go_ret
        exact ⟨ret_bool (nameB_no hlt (by rw [alnB, HL.out, HG.out]; rfl)).symm, rfl⟩
     ·have hn : Hid (true = nameB s) := by
       have e : k = s.size := by omega
       have := HA.out
       rw [e] at this
       simp [Hid, nameB, this, hd'.out]; omega
      go_wp2_with fail
      go_ret
      exact ⟨ret_bool hn.out, rfl⟩
set_option maxHeartbeats 400000 in
theorem isNameR_any (s : ByteArray) (w : World) : Calls Try.prog 31 #[.string s] w fun e w' => e = .returned (.bool (nameB s)) ∧ w' = w := by
 by_cases h0 : 0 < s.size
 ·have he := isEmpty_pos h0
  have hb := hide (byteAt_of h0)
  by_cases h8 : 8 < s.size
  ·have hn : Hid (false = nameB s) := by simp [Hid, nameB]; omega
   go_enter Try.func31, Try.ntmps31
   go_wp2_with fail
   all_goals (go_ret; exact ⟨ret_bool hn.out, rfl⟩)
  ·cases hd : digB (byteAt s 0) with
   | true =>
    have hn : Hid (false = nameB s) := by simp [Hid, nameB, hd]
    have hd1 : 48 ≤ (s[0].toNat : Int) := by rw [hb.out]; simp [digB] at hd; exact hd.1
    have hd2 : (s[0].toNat : Int) ≤ 57 := by rw [hb.out]; simp [digB] at hd; exact hd.2
    clear hd
    go_enter Try.func31, Try.ntmps31
    go_wp2_with fail
    all_goals (go_ret; exact ⟨ret_bool hn.out, rfl⟩)
   | false =>
    have HD := hide hd
    clear hd
    have hor : (s[0].toNat : Int) < 48 ∨ (48 ≤ (s[0].toNat : Int) ∧ 57 < (s[0].toNat : Int)) := by
     have := HD.out; rw [hb.out]; simp [digB] at this; omega
    rcases hor with h1 | ⟨h1, h2⟩
    all_goals
     go_enter Try.func31, Try.ntmps31
     go_wp2_with fail
     go_loop [3] (fun i => ∃ k : Nat, k ≤ s.size ∧ i = .int .i64 k ∧ alnTo s k = true) (fun i => s.size - (intOf i).toNat)
     case atStart => exact ⟨0, Nat.zero_le _, rfl, rfl⟩
     case round =>
      obtain ⟨k, hk, rfl, ha⟩ := hrel
      have HA := hide ha
      clear ha
      by_cases hlt : k < s.size
      ·have hbk := hide (byteAt_of hlt)
       have hsuc := hide (alnTo_succ s k)
       cases hl : alnB (byteAt s k) with
       | true =>
        have HL := hide hl
        clear hl
        go_wp2_with (go_at_call 60; refine (isLetterR_any _ _).mono ?_; rintro e w' ⟨rfl, rfl⟩; rw [hbk.out, HL.out])
        go_round
        case rel => exact ⟨k + 1, by omega, by go_num, by rw [hsuc.out, HA.out, HL.out]; rfl⟩
        case measure => simp [intOf]; omega
       | false =>
        have HL := hide hl
        clear hl
        go_wp2_with (go_at_call 60; refine (isLetterR_any _ _).mono ?_; rintro e w' ⟨rfl, rfl⟩; rw [hbk.out, HL.out])
        go_ret
        exact ⟨ret_bool (nameB_no hlt HL.out).symm, rfl⟩
      ·have hn : Hid (true = nameB s) := by
        have e : k = s.size := by omega
        have := HA.out
        rw [e] at this
        simp [Hid, nameB, this, HD.out]; omega
       go_wp2_with fail
       go_ret
       exact ⟨ret_bool hn.out, rfl⟩
 ·have he := isEmpty_zero h0
  have hn : Hid (false = nameB s) := by simp [Hid, nameB]; omega
  go_enter Try.func31, Try.ntmps31
  go_wp2_with fail
  all_goals (go_ret; exact ⟨ret_bool hn.out, rfl⟩)
end Go.Proofs.Ytofebfjkodceeaa
